import Derived.Test.YtpabpeppgpeaoaaAh
import Derived.Test.YtpabpeppgpeaoaaAt
namespace Go.Proofs.Ytpabpeppgpeaoaa.Md
open Go.RowKit Gx
set_option linter.unusedVariables false
set_option linter.unusedSimpArgs false

/-- The hall in memory: its struct, rows of instances, of proposers, of what is decided. -/
structure Hv where
  ky : Ky
  g : Sl
  i : Sl
  p : Sl
  y : Sl
  d : Sl
  a : Sl
  b : Sl
def Hv.cs (x : Hv) : List Value := x.ky.cs ++ [x.g.v, x.i.v, x.p.v, x.y.v, x.d.v, x.a.v, x.b.v]
def Hv.cells (x : Hv) : Array Value := x.cs.toArray
def hvZ : Hv := ⟨kyZ, slZ, slZ, slZ, slZ, slZ, slZ, slZ⟩
theorem Hv.oneL (x : Hv) : ∀ v ∈ x.cs, v.oneCell' = true := by simp [Hv.cs, Ky.cs, Value.oneCell', Sl.v]
def dI (i : Ytpabpeppgpeaoaa.In) : In := ⟨⟨i.p.n, i.p.c⟩, ⟨i.a.n, i.a.c⟩, dC' i.c, i.d⟩
theorem S68 : (Try.prog.info? 68).map (·.size) = some 11 := by kernel_rfl
theorem Z68 : (Try.prog.info? 68).bind (·.zero) = some (.agg hvZ.cells) := by kernel_rfl
theorem U142 : Try.prog.underlying 142 = some (.struct (Try.prog.fieldsOf 142)) := by kernel_rfl
theorem S142 : (Try.prog.info? 142).map (·.size) = some 14 := by kernel_rfl
theorem Z142 : (Try.prog.info? 142).bind (·.zero) = some (.agg inZ.cells) := by kernel_rfl
theorem I142 : (Try.prog.info? 142).map (fun i => (i.zero, i.size, i.bytes)) = some (some (.agg inZ.cells), 14, 120) := by kernel_rfl
theorem U64 : Try.prog.underlying 64 = some (.slice 142) := by kernel_rfl
theorem E64 : Try.prog.underlying 64 = some (.slice (Try.prog.elem 64)) := by kernel_rfl
theorem F64 : (Try.prog.info? (Try.prog.elem 64)).map (·.size) = some 14 := by kernel_rfl
theorem S64 : (Try.prog.info? 64).map (·.size) = some 1 := by kernel_rfl
theorem U65 : Try.prog.underlying 65 = some (.slice 31) := by kernel_rfl
theorem E65 : Try.prog.underlying 65 = some (.slice (Try.prog.elem 65)) := by kernel_rfl
theorem F65 : (Try.prog.info? (Try.prog.elem 65)).map (·.size) = some 1 := by kernel_rfl
theorem S65 : (Try.prog.info? 65).map (·.size) = some 1 := by kernel_rfl
theorem U31 : Try.prog.underlying 31 = some (.pointer 94) := by kernel_rfl
theorem I31 : (Try.prog.info? 31).map (fun i => (i.zero, i.size, i.bytes)) = some (some (.pointer none), 1, 8) := by kernel_rfl
theorem I28 : (Try.prog.info? 28).map (fun i => (i.zero, i.size, i.bytes)) = some (some (.agg cZ.cells), 9, 80) := by kernel_rfl
def insL (l : List In) : List Value := (l.map In.cs).flatten
theorem insL_c (l : List In) : ∀ x ∈ l.map In.cs, x.length = 14 := by intro x hx; obtain ⟨s, _, rfl⟩ := List.mem_map.1 hx; rfl
def ptV (k : Nat) : Value := .pointer (some ⟨k, 0, none⟩)
structure OwN (w : World) (base : Nat) (s : Sl) (l : List In) : Prop where
  own : Own 142 14 w base s.a s.k s.l (insL l)
  len : l.length = s.l
structure OwP (w : World) (base : Nat) (s : Sl) (pp : List Nat) : Prop where
  own : Own 31 1 w base s.a s.k s.l (pp.map ptV)
  len : pp.length = s.l
/-- What is decided: a part of a row from some place on. -/
structure OwD (w : World) (s : Sl) (cs : List Cm) : Prop where
  len : cs.length = s.l
  pl : (s.a = none ∧ s.k = 0 ∧ s.l = 0) ∨ ∃ g off, ∃ cur : List Value, s.a = some ⟨g, off, none⟩ ∧ s.l ≤ s.k ∧ Box w g 28 cur.toArray ∧ off + s.k * 9 ≤ cur.length ∧ Part cur off (cmL cs)
section
variable {w w' : World} {S : Nat → Prop} {b : Nat} {s : Sl}
theorem OwN.kept {l : List In} (h : OwN w b s l) (hk : Kept S w w') (hS : ∀ k, At s.a k → ¬ S k) : OwN w' b s l := ⟨h.own.kept hk hS, h.len⟩
theorem OwP.kept {l : List Nat} (h : OwP w b s l) (hk : Kept S w w') (hS : ∀ k, At s.a k → ¬ S k) : OwP w' b s l := ⟨h.own.kept hk hS, h.len⟩
theorem OwD.kept {l : List Cm} (h : OwD w s l) (hk : Kept S w w') (hS : ∀ k, At s.a k → ¬ S k) : OwD w' s l :=
  ⟨h.len, h.pl.imp id (fun ⟨g, off, cur, e1, e2, e3, e4⟩ => ⟨g, off, cur, e1, e2, e3.kept hk (hS g ⟨_, e1, rfl⟩), e4⟩)⟩
theorem OwD.nil (w : World) : OwD w slZ [] := ⟨rfl, .inl ⟨rfl, rfl, rfl⟩⟩
theorem OwD.ty {l : List Cm} (h : OwD w s l) {k : Nat} (hk : At s.a k) : ∃ cs, Box w k 28 cs := by
  obtain ⟨ad, e, rfl⟩ := hk
  rcases h.pl with ⟨e1, _⟩ | ⟨g, off, cur, e1, _, e3, _⟩
  · rw [e1] at e; cases e
  · rw [e1] at e; cases e; exact ⟨_, e3⟩
end
/-- Blocks of the hall's own. -/
def Rb (hb : Nat) (v : Hv) (k : Nat) : Prop := k = hb ∨ At v.g.a k ∨ At v.i.a k ∨ At v.p.a k ∨ At v.y.a k ∨ At v.d.a k ∨ At v.a.a k ∨ At v.b.a k
structure HalI (W : World) (J : Nat → Prop) (hb : Nat) (v : Hv) (pp : List Nat) (h : Pax.Hl) (I : Nat → Nat → Prop) : Prop where
  box : Box W hb 68 v.cells
  gr : OwI W 0 v.g h.zs
  ins : OwN W 0 v.i (h.ins.map dI)
  prs : OwP W 0 v.p pp
  way : OwM W 0 v.y (h.way.map dM)
  dec : OwD W v.d (h.dec.map dC')
  nkd : OwI W 0 v.a h.nkd
  nks : OwI W 0 v.b h.nks
  pl : pp.length = h.ps.length
  pr : ∀ (j : Nat) s k, h.ps[j]? = some s → pp[j]? = some k → Prp W (I j) k s
  ii : ∀ i j k, I i k → I j k → i = j
  im : ∀ j k, I j k → NotM W k
  ri : ∀ j k, I j k → ¬ Rb hb v k
  ga : ∀ k, At v.g.a k → ¬ At v.a.a k
  gb : ∀ k, At v.g.a k → ¬ At v.b.a k
  ab : ∀ k, At v.a.a k → ¬ At v.b.a k
  ij : ∀ j k, I j k → J k
  rj : ∀ k, Rb hb v k → J k
  jl : ∀ k, J k → k < W.heap.size
def Hal (W : World) (J : Nat → Prop) (hb : Nat) (v : Hv) (pp : List Nat) (h : Pax.Hl) : Prop := ∃ I, HalI W J hb v pp h I
/-- Where the hall goes over into another. -/
structure Upd (W : World) (J : Nat → Prop) (W2 : World) (J2 : Nat → Prop) : Prop where
  sub : ∀ k, J2 k → J k ∨ W.heap.size ≤ k
  kept : Kept J W W2
section
variable {W W2 W3 : World} {J J2 J3 S : Nat → Prop} {hb : Nat} {v v2 : Hv} {pp pp2 : List Nat} {h h2 : Pax.Hl} {I : Nat → Nat → Prop}
theorem Upd.trans (a : Upd W J W2 J2) (b : Upd W2 J2 W3 J3) : Upd W J W3 J3 :=
  ⟨fun k e => (b.sub k e).elim (a.sub k) (fun l => .inr (Nat.le_trans a.kept.size l)), a.kept.trans b.kept (fun _ e => e) (fun k hk e => (a.sub k e).elim id (fun l => absurd hk (by omega)))⟩
theorem Upd.refl (W : World) (J : Nat → Prop) : Upd W J W J := ⟨fun _ e => .inl e, Kept.refl J W⟩
theorem Upd.no (hk : Kept No W W2) : Upd W J W2 J := ⟨fun _ e => .inl e, hk.of_no⟩
theorem Hal.jl (H : Hal W J hb v pp h) : ∀ k, J k → k < W.heap.size := by obtain ⟨I, H⟩ := H; exact H.jl
theorem Hal.box (H : Hal W J hb v pp h) : Box W hb 68 v.cells := by obtain ⟨I, H⟩ := H; exact H.box
theorem Hal.gr (H : Hal W J hb v pp h) : OwI W 0 v.g h.zs := by obtain ⟨I, H⟩ := H; exact H.gr
theorem Hal.ins (H : Hal W J hb v pp h) : OwN W 0 v.i (h.ins.map dI) := by obtain ⟨I, H⟩ := H; exact H.ins
theorem Hal.prs (H : Hal W J hb v pp h) : OwP W 0 v.p pp := by obtain ⟨I, H⟩ := H; exact H.prs
theorem Hal.way (H : Hal W J hb v pp h) : OwM W 0 v.y (h.way.map dM) := by obtain ⟨I, H⟩ := H; exact H.way
theorem Hal.dec (H : Hal W J hb v pp h) : OwD W v.d (h.dec.map dC') := by obtain ⟨I, H⟩ := H; exact H.dec
theorem Hal.nkd (H : Hal W J hb v pp h) : OwI W 0 v.a h.nkd := by obtain ⟨I, H⟩ := H; exact H.nkd
theorem Hal.nks (H : Hal W J hb v pp h) : OwI W 0 v.b h.nks := by obtain ⟨I, H⟩ := H; exact H.nks
theorem Hal.pl (H : Hal W J hb v pp h) : pp.length = h.ps.length := by obtain ⟨I, H⟩ := H; exact H.pl
theorem Hal.rj (H : Hal W J hb v pp h) : ∀ k, Rb hb v k → J k := by obtain ⟨I, H⟩ := H; exact H.rj
theorem Hal.kept (H : Hal W J hb v pp h) (hk : Kept S W W2) (hS : ∀ k, J k → ¬ S k) : Hal W2 J hb v pp h := by
  obtain ⟨I, H⟩ := H
  have r : ∀ k, Rb hb v k → ¬ S k := fun k e => hS k (H.rj k e)
  refine ⟨I, H.box.kept hk (r hb (.inl rfl)), H.gr.kept hk (fun k e => r k (.inr (.inl e))), H.ins.kept hk (fun k e => r k (.inr (.inr (.inl e)))), H.prs.kept hk (fun k e => r k (.inr (.inr (.inr (.inl e))))), H.way.kept hk (fun k e => r k (.inr (.inr (.inr (.inr (.inl e)))))), H.dec.kept hk (fun k e => r k (.inr (.inr (.inr (.inr (.inr (.inl e))))))), H.nkd.kept hk (fun k e => r k (.inr (.inr (.inr (.inr (.inr (.inr (.inl e)))))))), H.nks.kept hk (fun k e => r k (.inr (.inr (.inr (.inr (.inr (.inr (.inr e)))))))), H.pl, fun j s k hs hp => (H.pr j s k hs hp).kept hk (fun q e _ _ => ⟨hS q (H.ij j q e), e⟩), H.ii, fun j k e => notM_kept (H.im j k e) hk (H.jl k (H.ij j k e)) (hS k (H.ij j k e)), H.ri, H.ga, H.gb, H.ab, H.ij, H.rj, fun k e => Nat.lt_of_lt_of_le (H.jl k e) hk.size⟩
theorem Hal.no (H : Hal W J hb v pp h) (hk : Kept No W W2) : Hal W2 J hb v pp h := H.kept hk (fun _ _ e => e)
theorem own_ty {t : TypeId} {c : Nat} {w : World} {base : Nat} {a : Option Addr} {cap n : Nat} {vs : List Value} (h : Own t c w base a cap n vs) {k : Nat} {t' : TypeId} {cs : Array Value} (hb : Box w k t' cs) (hne : t ≠ t') : ¬ At a k := h.notBox hb hne
theorem box_uni {w : World} {k : Nat} {t t' : TypeId} {cs cs' : Array Value} (h : Box w k t cs) (h' : Box w k t' cs') : t = t' := by
  unfold Box at h h'
  rw [h] at h'
  cases h'
  rfl
/-- The rows of the hall by their types. -/
theorem HalI.tyG (H : HalI W J hb v pp h I) {k : Nat} (e : At v.g.a k) : ∃ cs, Box W k 3 cs := Own.ty H.gr.own e
theorem HalI.tyI (H : HalI W J hb v pp h I) {k : Nat} (e : At v.i.a k) : ∃ cs, Box W k 142 cs := Own.ty H.ins.own e
theorem HalI.tyP (H : HalI W J hb v pp h I) {k : Nat} (e : At v.p.a k) : ∃ cs, Box W k 31 cs := Own.ty H.prs.own e
theorem HalI.tyY (H : HalI W J hb v pp h I) {k : Nat} (e : At v.y.a k) : ∃ cs, Box W k 47 cs := Own.ty H.way.own e
theorem HalI.tyD (H : HalI W J hb v pp h I) {k : Nat} (e : At v.d.a k) : ∃ cs, Box W k 28 cs := H.dec.ty e
theorem HalI.tyA (H : HalI W J hb v pp h I) {k : Nat} (e : At v.a.a k) : ∃ cs, Box W k 3 cs := Own.ty H.nkd.own e
theorem HalI.tyB (H : HalI W J hb v pp h I) {k : Nat} (e : At v.b.a k) : ∃ cs, Box W k 3 cs := Own.ty H.nks.own e
theorem no_ty {k : Nat} {t t' : TypeId} (h : ∃ cs, Box W k t cs) (h' : ∃ cs, Box W k t' cs) (hne : t ≠ t') : False := by
  obtain ⟨_, h⟩ := h; obtain ⟨_, h'⟩ := h'; exact hne (box_uni h h')
/-- The way is another list. -/
theorem Hal.setY (H : Hal W J hb v pp h) (hk : Kept (At v.y.a) W W2) {y : Sl} {l : List Ms} (ho : OwM W2 0 y (l.map dM)) (hy : ∀ k, At y.a k → At v.y.a k ∨ W.heap.size ≤ k) :
    Box W2 hb 68 v.cells ∧ ∃ J2, Hal (W2.setRow hb (Hv.cells ⟨v.ky, v.g, v.i, v.p, y, v.d, v.a, v.b⟩)) J2 hb ⟨v.ky, v.g, v.i, v.p, y, v.d, v.a, v.b⟩ pp { h with way := l } ∧ Upd W J (W2.setRow hb (Hv.cells ⟨v.ky, v.g, v.i, v.p, y, v.d, v.a, v.b⟩)) J2 := by
  obtain ⟨I, H⟩ := H
  have nb : ¬ At v.y.a hb := fun e => no_ty (H.tyY e) ⟨_, H.box⟩ (by decide)
  have b2 := H.box.kept hk nb
  refine ⟨b2, fun k => J k ∨ At y.a k, ?_, ?_⟩
  · have hk2 : Kept (Only hb) W2 (W2.setRow hb (Hv.cells ⟨v.ky, v.g, v.i, v.p, y, v.d, v.a, v.b⟩)) := Kept.setRow W2 hb _
    have hk3 : Kept (fun k => At v.y.a k ∨ k = hb) W (W2.setRow hb (Hv.cells ⟨v.ky, v.g, v.i, v.p, y, v.d, v.a, v.b⟩)) := hk.trans hk2 (fun _ e => .inl e) (fun _ _ e => .inr e)
    have off : ∀ {k : Nat} {t : TypeId}, (∃ cs, Box W k t cs) → t ≠ 47 → t ≠ 68 → ¬ (At v.y.a k ∨ k = hb) := fun ht h1 h2 e => by
      rcases e with e | rfl
      · exact no_ty ht (H.tyY e) h1
      · exact no_ty ht ⟨_, H.box⟩ h2
    have hyb : ¬ At y.a hb := fun e => own_ty ho.own b2 (by decide) e
    have yi : ∀ j k, I j k → ¬ At y.a k := fun j k e f => by
      rcases hy k f with f | f
      · exact H.ri j k e (.inr (.inr (.inr (.inr (.inl f)))))
      · have := H.jl k (H.ij j k e); omega
    refine ⟨I, Box.setRow b2 _, H.gr.kept hk3 (fun k e => off (H.tyG e) (by decide) (by decide)), H.ins.kept hk3 (fun k e => off (H.tyI e) (by decide) (by decide)), H.prs.kept hk3 (fun k e => off (H.tyP e) (by decide) (by decide)), ho.kept hk2 (fun k e f => hyb ((show k = hb from f) ▸ e)), H.dec.kept hk3 (fun k e => off (H.tyD e) (by decide) (by decide)), H.nkd.kept hk3 (fun k e => off (H.tyA e) (by decide) (by decide)), H.nks.kept hk3 (fun k e => off (H.tyB e) (by decide) (by decide)), H.pl, fun j s k hs hp => (H.pr j s k hs hp).kept hk3 (fun q e _ _ => ⟨fun f => ?_, e⟩), H.ii, fun j k e => notM_kept (H.im j k e) hk3 (H.jl k (H.ij j k e)) (fun f => ?_), fun j k e => ?_, H.ga, H.gb, H.ab, fun j k e => .inl (H.ij j k e), fun k e => ?_, fun k e => ?_⟩
    · exact H.ri j q e (f.elim (fun f => .inr (.inr (.inr (.inr (.inl f))))) .inl)
    · exact H.ri j k e (f.elim (fun f => .inr (.inr (.inr (.inr (.inl f))))) .inl)
    · rintro (f | f | f | f | f | f | f | f)
      · exact H.ri j k e (.inl f)
      · exact H.ri j k e (.inr (.inl f))
      · exact H.ri j k e (.inr (.inr (.inl f)))
      · exact H.ri j k e (.inr (.inr (.inr (.inl f))))
      · exact yi j k e f
      · exact H.ri j k e (.inr (.inr (.inr (.inr (.inr (.inl f))))))
      · exact H.ri j k e (.inr (.inr (.inr (.inr (.inr (.inr (.inl f)))))))
      · exact H.ri j k e (.inr (.inr (.inr (.inr (.inr (.inr (.inr f)))))))
    · rcases e with e | e | e | e | e | e | e | e
      · exact .inl (H.rj k (.inl e))
      · exact .inl (H.rj k (.inr (.inl e)))
      · exact .inl (H.rj k (.inr (.inr (.inl e))))
      · exact .inl (H.rj k (.inr (.inr (.inr (.inl e)))))
      · exact .inr e
      · exact .inl (H.rj k (.inr (.inr (.inr (.inr (.inr (.inl e)))))))
      · exact .inl (H.rj k (.inr (.inr (.inr (.inr (.inr (.inr (.inl e))))))))
      · exact .inl (H.rj k (.inr (.inr (.inr (.inr (.inr (.inr (.inr e))))))))
    · rcases e with e | e
      · exact Nat.lt_of_lt_of_le (H.jl k e) hk3.size
      · exact Nat.lt_of_lt_of_le (Own.lt ho.own e) hk2.size
  · refine ⟨fun k e => e.elim .inl (fun e => (hy k e).imp (fun f => H.rj k (.inr (.inr (.inr (.inr (.inl f)))))) id), hk.trans (Kept.setRow W2 hb _) (fun k e => H.rj k (.inr (.inr (.inr (.inr (.inl e)))))) (fun k _ e => (show k = hb from e) ▸ H.rj hb (.inl rfl))⟩
/-- What is decided is another list. -/
theorem Hal.setD (H : Hal W J hb v pp h) (hk : Kept (At v.d.a) W W2) {d : Sl} {l : List Ytpabpeppgpeaoaa.Cm} (ho : OwD W2 d (l.map dC')) (hy : ∀ k, At d.a k → At v.d.a k ∨ W.heap.size ≤ k) :
    Box W2 hb 68 v.cells ∧ ∃ J2, Hal (W2.setRow hb (Hv.cells ⟨v.ky, v.g, v.i, v.p, v.y, d, v.a, v.b⟩)) J2 hb ⟨v.ky, v.g, v.i, v.p, v.y, d, v.a, v.b⟩ pp { h with dec := l } ∧ Upd W J (W2.setRow hb (Hv.cells ⟨v.ky, v.g, v.i, v.p, v.y, d, v.a, v.b⟩)) J2 := by
  obtain ⟨I, H⟩ := H
  have nb : ¬ At v.d.a hb := fun e => no_ty (H.tyD e) ⟨_, H.box⟩ (by decide)
  have b2 := H.box.kept hk nb
  refine ⟨b2, fun k => J k ∨ At d.a k, ?_, ?_⟩
  · have hk2 : Kept (Only hb) W2 (W2.setRow hb (Hv.cells ⟨v.ky, v.g, v.i, v.p, v.y, d, v.a, v.b⟩)) := Kept.setRow W2 hb _
    have hk3 : Kept (fun k => At v.d.a k ∨ k = hb) W (W2.setRow hb (Hv.cells ⟨v.ky, v.g, v.i, v.p, v.y, d, v.a, v.b⟩)) := hk.trans hk2 (fun _ e => .inl e) (fun _ _ e => .inr e)
    have off : ∀ {k : Nat} {t : TypeId}, (∃ cs, Box W k t cs) → t ≠ 28 → t ≠ 68 → ¬ (At v.d.a k ∨ k = hb) := fun ht h1 h2 e => by
      rcases e with e | rfl
      · exact no_ty ht (H.tyD e) h1
      · exact no_ty ht ⟨_, H.box⟩ h2
    have hyb : ¬ At d.a hb := fun e => no_ty (ho.ty e) ⟨_, b2⟩ (by decide)
    have yi : ∀ j k, I j k → ¬ At d.a k := fun j k e f => by
      rcases hy k f with f | f
      · exact H.ri j k e (.inr (.inr (.inr (.inr (.inr (.inl f))))))
      · have := H.jl k (H.ij j k e); omega
    refine ⟨I, Box.setRow b2 _, H.gr.kept hk3 (fun k e => off (H.tyG e) (by decide) (by decide)), H.ins.kept hk3 (fun k e => off (H.tyI e) (by decide) (by decide)), H.prs.kept hk3 (fun k e => off (H.tyP e) (by decide) (by decide)), H.way.kept hk3 (fun k e => off (H.tyY e) (by decide) (by decide)), ho.kept hk2 (fun k e f => hyb ((show k = hb from f) ▸ e)), H.nkd.kept hk3 (fun k e => off (H.tyA e) (by decide) (by decide)), H.nks.kept hk3 (fun k e => off (H.tyB e) (by decide) (by decide)), H.pl, fun j s k hs hp => (H.pr j s k hs hp).kept hk3 (fun q e _ _ => ⟨fun f => ?_, e⟩), H.ii, fun j k e => notM_kept (H.im j k e) hk3 (H.jl k (H.ij j k e)) (fun f => ?_), fun j k e => ?_, H.ga, H.gb, H.ab, fun j k e => .inl (H.ij j k e), fun k e => ?_, fun k e => ?_⟩
    · exact H.ri j q e (f.elim (fun f => .inr (.inr (.inr (.inr (.inr (.inl f)))))) .inl)
    · exact H.ri j k e (f.elim (fun f => .inr (.inr (.inr (.inr (.inr (.inl f)))))) .inl)
    · rintro (f | f | f | f | f | f | f | f)
      · exact H.ri j k e (.inl f)
      · exact H.ri j k e (.inr (.inl f))
      · exact H.ri j k e (.inr (.inr (.inl f)))
      · exact H.ri j k e (.inr (.inr (.inr (.inl f))))
      · exact H.ri j k e (.inr (.inr (.inr (.inr (.inl f)))))
      · exact yi j k e f
      · exact H.ri j k e (.inr (.inr (.inr (.inr (.inr (.inr (.inl f)))))))
      · exact H.ri j k e (.inr (.inr (.inr (.inr (.inr (.inr (.inr f)))))))
    · rcases e with e | e | e | e | e | e | e | e
      · exact .inl (H.rj k (.inl e))
      · exact .inl (H.rj k (.inr (.inl e)))
      · exact .inl (H.rj k (.inr (.inr (.inl e))))
      · exact .inl (H.rj k (.inr (.inr (.inr (.inl e)))))
      · exact .inl (H.rj k (.inr (.inr (.inr (.inr (.inl e))))))
      · exact .inr e
      · exact .inl (H.rj k (.inr (.inr (.inr (.inr (.inr (.inr (.inl e))))))))
      · exact .inl (H.rj k (.inr (.inr (.inr (.inr (.inr (.inr (.inr e))))))))
    · rcases e with e | e
      · exact Nat.lt_of_lt_of_le (H.jl k e) hk3.size
      · obtain ⟨_, bx⟩ := ho.ty e; exact Nat.lt_of_lt_of_le bx.lt hk2.size
  · refine ⟨fun k e => e.elim .inl (fun e => (hy k e).imp (fun f => H.rj k (.inr (.inr (.inr (.inr (.inr (.inl f))))))) id), hk.trans (Kept.setRow W2 hb _) (fun k e => H.rj k (.inr (.inr (.inr (.inr (.inr (.inl e))))))) (fun k _ e => (show k = hb from e) ▸ H.rj hb (.inl rfl))⟩
/-- A row is written within its block. -/
theorem HalI.rows (H : HalI W J hb v pp h I) (hk : Kept S W W2) (hS : ∀ k, S k → At v.i.a k ∨ At v.a.a k ∨ At v.b.a k) {ins : List Ytpabpeppgpeaoaa.In} {nkd nks : List Int} (h1 : OwN W2 0 v.i (ins.map dI)) (h2 : OwI W2 0 v.a nkd) (h3 : OwI W2 0 v.b nks) :
    HalI W2 J hb v pp { h with ins := ins, nkd := nkd, nks := nks } I ∧ Upd W J W2 J := by
  have r : ∀ k, S k → Rb hb v k := fun k e => (hS k e).elim (fun e => .inr (.inr (.inl e))) (fun e => .inr (.inr (.inr (.inr (.inr (.inr e))))))
  have ty : ∀ k, S k → (∃ cs, Box W k 142 cs) ∨ (∃ cs, Box W k 3 cs) := fun k e => (hS k e).elim (fun e => .inl (H.tyI e)) (fun e => .inr (e.elim H.tyA H.tyB))
  have off : ∀ {k : Nat} {t : TypeId}, (∃ cs, Box W k t cs) → t ≠ 142 → t ≠ 3 → ¬ S k := fun ht a b e => (ty _ e).elim (fun f => no_ty ht f a) (fun f => no_ty ht f b)
  refine ⟨⟨H.box.kept hk (off ⟨_, H.box⟩ (by decide) (by decide)), H.gr.kept hk (fun k e f => ?_), h1, H.prs.kept hk (fun k e => off (H.tyP e) (by decide) (by decide)), H.way.kept hk (fun k e => off (H.tyY e) (by decide) (by decide)), H.dec.kept hk (fun k e => off (H.tyD e) (by decide) (by decide)), h2, h3, H.pl, fun j s k hs hp => (H.pr j s k hs hp).kept hk (fun q e _ _ => ⟨fun f => H.ri j q e (r q f), e⟩), H.ii, fun j k e => notM_kept (H.im j k e) hk (H.jl k (H.ij j k e)) (fun f => H.ri j k e (r k f)), H.ri, H.ga, H.gb, H.ab, H.ij, H.rj, fun k e => Nat.lt_of_lt_of_le (H.jl k e) hk.size⟩, fun _ e => .inl e, hk.mono (fun k _ e => H.rj k (r k e))⟩
  rcases hS k f with f | f | f
  · exact no_ty (H.tyG e) (H.tyI f) (by decide)
  · exact H.ga k e f
  · exact H.gb k e f
/-- A proposer is asked. -/
theorem Hal.ask (H : Hal W J hb v pp h) {j : Nat} {s : PS} (hj : h.ps[j]? = some s) : ∃ k Ij, pp[j]? = some k ∧ Prp W Ij k s ∧ ∀ s' l e W2, PrOut W Ij k s' l e W2 → ∃ la lc J2, e = .returned (.slice la l.length lc) ∧ Hal W2 J2 hb v pp { h with ps := h.ps.set j s' } ∧ Upd W J W2 J2 ∧ OwM W2 W.heap.size ⟨la, l.length, lc⟩ (l.map dM) ∧ ∀ k, At la k → ¬ J2 k := by
  obtain ⟨I, H⟩ := H
  have hjl := (List.getElem?_eq_some_iff.1 hj).1
  have hk : pp[j]? = some (pp[j]'(by rw [H.pl]; exact hjl)) := List.getElem?_eq_getElem _
  generalize pp[j]'(by rw [H.pl]; exact hjl) = k at hk
  refine ⟨k, I j, hk, H.pr j s k hj hk, ?_⟩
  rintro s' l e W2 ⟨la, lc, I', he, hO, hP, hI, hK⟩
  have r : ∀ q, Rb hb v q → ¬ I j q := fun q e f => H.ri j q f e
  refine ⟨la, lc, fun q => J q ∨ I' q, he, ⟨fun i q => (i = j ∧ I' q) ∨ (i ≠ j ∧ I i q), H.box.kept hK (r hb (.inl rfl)), H.gr.kept hK (fun q e => r q (.inr (.inl e))), H.ins.kept hK (fun q e => r q (.inr (.inr (.inl e)))), H.prs.kept hK (fun q e => r q (.inr (.inr (.inr (.inl e))))), H.way.kept hK (fun q e => r q (.inr (.inr (.inr (.inr (.inl e)))))), H.dec.kept hK (fun q e => r q (.inr (.inr (.inr (.inr (.inr (.inl e))))))), H.nkd.kept hK (fun q e => r q (.inr (.inr (.inr (.inr (.inr (.inr (.inl e)))))))), H.nks.kept hK (fun q e => r q (.inr (.inr (.inr (.inr (.inr (.inr (.inr e)))))))), ?_, ?_, ?_, ?_, ?_, H.ga, H.gb, H.ab, ?_, fun q e => .inl (H.rj q e), ?_⟩, ⟨fun q e => e.elim .inl (fun e => (hI q e).1.imp (H.ij j q) id), hK.mono (fun q _ e => H.ij j q e)⟩, ⟨by rw [dM_L]; exact hO, by simp⟩, fun q e f => ?_⟩
  · show pp.length = (h.ps.set j s').length; rw [List.length_set]; exact H.pl
  · intro i x q hx hq
    replace hx : (h.ps.set j s')[i]? = some x := hx
    by_cases e : i = j
    · subst e
      rw [List.getElem?_set_self hjl] at hx
      cases Option.some.inj hx
      rw [hk] at hq
      cases Option.some.inj hq
      exact hP.wide (fun q e => .inl ⟨rfl, e⟩)
    · rw [List.getElem?_set_ne (Ne.symm e)] at hx
      exact (H.pr i x q hx hq).kept hK (fun y f _ _ => ⟨fun g => e (H.ii i j y f g), .inr ⟨e, f⟩⟩)
  · rintro a b q (⟨rfl, e⟩ | ⟨e1, e⟩) (⟨rfl, f⟩ | ⟨f1, f⟩)
    · rfl
    · rcases (hI q e).1 with g | g
      · exact H.ii _ _ q g f
      · have := H.jl q (H.ij b q f); omega
    · rcases (hI q f).1 with g | g
      · exact H.ii _ _ q e g
      · have := H.jl q (H.ij a q e); omega
    · exact H.ii a b q e f
  · rintro i q (⟨rfl, e⟩ | ⟨e1, e⟩)
    · exact (hI q e).2.2
    · exact notM_kept (H.im i q e) hK (H.jl q (H.ij i q e)) (fun g => e1 (H.ii i j q e g))
  · rintro i q (⟨rfl, e⟩ | ⟨e1, e⟩) f
    · rcases (hI q e).1 with g | g
      · exact H.ri i q g f
      · have := H.jl q (H.rj q f); omega
    · exact H.ri i q e f
  · rintro i q (⟨rfl, e⟩ | ⟨e1, e⟩)
    · exact .inr e
    · exact .inl (H.ij i q e)
  · rintro q (e | e)
    · exact Nat.lt_of_lt_of_le (H.jl q e) hK.size
    · exact (hI q e).2.1
  · have hb := Own.base hO e
    rcases f with f | f
    · have := H.jl q f; omega
    · obtain ⟨cs, hx⟩ := Own.ty hO e
      exact (hI q f).2.2 cs hx
end
/-- What a function over the hall holds: the hall, blocks of its own, lists of messages. -/
structure Hg (w W : World) (J0 J : Nat → Prop) (hb : Nat) (v : Hv) (pp : List Nat) (h : Pax.Hl) (l : List (Nat × TypeId × Array Value)) (T : List (Sl × List Mg)) : Prop where
  hal : Hal W J hb v pp h
  fr : Fq J0 w W l
  ja : ∀ k, J k → J0 k ∨ w.heap.size ≤ k
  li : ∀ (i : Nat) g t cs, l[i]? = some (g, t, cs) → ¬ J g
  lo : ∀ (i : Nat) g t cs, l[i]? = some (g, t, cs) → w.heap.size ≤ g
  tl : ∀ (i : Nat) x, T[i]? = some x → OwM W 0 x.1 x.2
  tj : ∀ (i : Nat) x k, T[i]? = some x → At x.1.a k → ¬ J k
  tb : ∀ (i j : Nat) x g t cs, T[i]? = some x → l[j]? = some (g, t, cs) → ¬ At x.1.a g
section
variable {w W W' : World} {J0 J J2 S : Nat → Prop} {hb : Nat} {v v2 : Hv} {pp pp2 : List Nat} {h h2 : Pax.Hl} {l l2 : List (Nat × TypeId × Array Value)} {T T' : List (Sl × List Mg)}
theorem Hg.kept (H : Hg w W J0 J hb v pp h l T) : Kept J0 w W := H.fr.kept
theorem Hg.box (H : Hg w W J0 J hb v pp h l T) : ∀ (i : Nat) g T cs, l[i]? = some (g, T, cs) → Box W g T cs := H.fr.box
theorem Hg.low (H : Hg w W J0 J hb v pp h l T) : ∀ (i : Nat) g t cs, l[i]? = some (g, t, cs) → w.heap.size ≤ g := H.lo
theorem Hg.ne (H : Hg w W J0 J hb v pp h l T) (i j : Nat) {g g' : Nat} {T T' : TypeId} {cs cs' : Array Value} (hi : l[i]? = some (g, T, cs)) (hj : l[j]? = some (g', T', cs')) (hne : i ≠ j) : g ≠ g' := H.fr.ne i j hi hj hne
theorem Hg.no (H : Hg w W J0 J hb v pp h l T) (hk : Kept No W W') : Hg w W' J0 J hb v pp h l T :=
  ⟨H.hal.no hk, H.fr.no hk, H.ja, H.li, H.lo, fun i x hx => (H.tl i x hx).no hk, H.tj, H.tb⟩
theorem Hg.drew (H : Hg w W J0 J hb v pp h l T) : Hg w W.drew J0 J hb v pp h l T := H.no (Kept.refl No W).drew
theorem Hg.alloc (H : Hg w W J0 J hb v pp h l T) (t : TypeId) (cs : Array Value) : Hg w (W.alloc (.cells cs t)) J0 J hb v pp h (l ++ [(W.heap.size, t, cs)]) T := by
  have hk : Kept No W (W.alloc (.cells cs t)) := (Kept.refl No W).alloc _
  have h1 := H.no hk
  have key : ∀ (j : Nat) g t' cs', (l ++ [(W.heap.size, t, cs)])[j]? = some (g, t', cs') → l[j]? = some (g, t', cs') ∨ g = W.heap.size := by
    intro j g t' cs' hj
    rw [List.getElem?_append] at hj
    split at hj
    · exact .inl hj
    · have := List.mem_of_getElem? hj
      simp at this
      exact .inr this.1
  refine ⟨h1.hal, H.fr.alloc t cs, H.ja, fun i g t' cs' hi => ?_, fun i g t' cs' hi => ?_, h1.tl, H.tj, fun i j x g t' cs' hx hj => ?_⟩
  · rcases key i g t' cs' hi with hi | rfl
    · exact H.li i g t' cs' hi
    · intro e; have := H.hal.jl _ e; omega
  · rcases key i g t' cs' hi with hi | rfl
    · exact H.lo i g t' cs' hi
    · exact H.fr.kept.size
  · rcases key j g t' cs' hj with hj | rfl
    · exact H.tb i j x g t' cs' hx hj
    · intro e; have := Own.lt (H.tl i x hx).own e; omega
theorem Hg.set (H : Hg w W J0 J hb v pp h l T) (i : Nat) {g : Nat} {t : TypeId} {cs : Array Value} (hi : l[i]? = some (g, t, cs)) (cs' : Array Value) : Hg w (W.setRow g cs') J0 J hb v pp h (l.set i (g, t, cs')) T := by
  have hk : Kept (Only g) W (W.setRow g cs') := Kept.setRow W g cs'
  have hg := H.li i g t cs hi
  have key : ∀ (j : Nat) g1 t1 cs1, (l.set i (g, t, cs'))[j]? = some (g1, t1, cs1) → ∃ cs2, l[j]? = some (g1, t1, cs2) := by
    intro j g1 t1 cs1 hj
    rw [List.getElem?_set] at hj
    split at hj
    · rename_i hij
      split at hj
      · cases hj; exact ⟨cs, by rw [← hij]; exact hi⟩
      · cases hj
    · exact ⟨cs1, hj⟩
  refine ⟨H.hal.kept hk (fun k e f => hg ((show k = g from f) ▸ e)), H.fr.set i hi cs', H.ja, fun j g1 t1 cs1 hj => ?_, fun j g1 t1 cs1 hj => ?_, fun j x hx => (H.tl j x hx).kept hk (fun k e f => H.tb j i x g t cs hx hi ((show k = g from f) ▸ e)), H.tj, fun j q x g1 t1 cs1 hx hq => ?_⟩
  · obtain ⟨cs2, hj⟩ := key j g1 t1 cs1 hj
    exact H.li j g1 t1 cs2 hj
  · obtain ⟨cs2, hj⟩ := key j g1 t1 cs1 hj
    exact H.lo j g1 t1 cs2 hj
  · obtain ⟨cs2, hq⟩ := key q g1 t1 cs1 hq
    exact H.tb j q x g1 t1 cs2 hx hq
/-- The hall has gone over into another. -/
theorem Hg.upd (H : Hg w W J0 J hb v pp h l T) (hH : Hal W' J2 hb v2 pp2 h2) (u : Upd W J W' J2) : Hg w W' J0 J2 hb v2 pp2 h2 l T := by
  have hsz := H.fr.kept.size
  have off : ∀ k, k < W.heap.size → ¬ J k → ¬ J2 k := fun k hk e f => (u.sub k f).elim e (fun g => absurd hk (by omega))
  refine ⟨hH, ⟨H.fr.kept.trans u.kept (fun _ e => e) (fun k hk e => (H.ja k e).elim id (fun g => absurd hk (by omega))), fun i g t cs hi => (H.fr.box i g t cs hi).kept u.kept (H.li i g t cs hi), H.fr.low, H.fr.inj⟩, fun k e => (u.sub k e).elim (H.ja k) (fun g => .inr (by omega)), fun i g t cs hi => off g (H.fr.box i g t cs hi).lt (H.li i g t cs hi), H.lo, fun i x hx => (H.tl i x hx).kept u.kept (fun k e => H.tj i x k hx e), fun i x k hx e => off k (Own.lt (H.tl i x hx).own e) (H.tj i x k hx e), H.tb⟩
/-- One more list. -/
theorem Hg.add (H : Hg w W J0 J hb v pp h l T) {t : Sl} {ms : List Mg} {b : Nat} (ho : OwM W b t ms) (hj : ∀ k, At t.a k → ¬ J k) (hl : ∀ (j : Nat) g ty cs, l[j]? = some (g, ty, cs) → ¬ At t.a g) : Hg w W J0 J hb v pp h l (T ++ [(t, ms)]) := by
  have key : ∀ (j : Nat) x, (T ++ [(t, ms)])[j]? = some x → T[j]? = some x ∨ x = (t, ms) := by
    intro j x hj
    rw [List.getElem?_append] at hj
    split at hj
    · exact .inl hj
    · have := List.mem_of_getElem? hj
      simp at this
      exact .inr this
  refine ⟨H.hal, H.fr, H.ja, H.li, H.lo, fun j x hx => ?_, fun j x k hx => ?_, fun i j x g ty cs hx hj => ?_⟩
  · rcases key j x hx with hx | rfl
    · exact H.tl j x hx
    · exact ⟨Own.lower ho.own (Nat.zero_le _), ho.len⟩
  · rcases key j x hx with hx | rfl
    · exact H.tj j x k hx
    · exact hj k
  · rcases key i x hx with hx | rfl
    · exact H.tb i j x g ty cs hx hj
    · exact hl j g ty cs hj
/-- Some of the lists. -/
theorem Hg.pick (H : Hg w W J0 J hb v pp h l T) (hT : ∀ x, x ∈ T' → x ∈ T) : Hg w W J0 J hb v pp h l T' := by
  have key : ∀ (i : Nat) x, T'[i]? = some x → ∃ j, T[j]? = some x := fun i x hx => List.mem_iff_getElem?.1 (hT x (List.mem_of_getElem? hx))
  refine ⟨H.hal, H.fr, H.ja, H.li, H.lo, fun i x hx => ?_, fun i x k hx => ?_, fun i j x g t cs hx hj => ?_⟩
  · obtain ⟨q, hx⟩ := key i x hx; exact H.tl q x hx
  · obtain ⟨q, hx⟩ := key i x hx; exact H.tj q x k hx
  · obtain ⟨q, hx⟩ := key i x hx; exact H.tb q j x g t cs hx hj
theorem Hg.front (H : Hg w W J0 J hb v pp h (l ++ l2) T) : Hg w W J0 J hb v pp h l T := by
  have key : ∀ (i : Nat) x, l[i]? = some x → (l ++ l2)[i]? = some x := fun i x hx => by rw [List.getElem?_append_left (List.getElem?_eq_some_iff.1 hx).1]; exact hx
  exact ⟨H.hal, H.fr.front, H.ja, fun i g t cs hi => H.li i g t cs (key i _ hi), fun i g t cs hi => H.lo i g t cs (key i _ hi), H.tl, H.tj, fun i j x g t cs hx hj => H.tb i j x g t cs hx (key j _ hj)⟩
theorem Hg.start (H : Hal W J hb v pp h) : Hg W W J J hb v pp h [] [] :=
  ⟨H, Fq.start _ _, fun _ e => .inl e, by simp, by simp, by simp, by simp, by simp⟩
/-- What a call over the hall leaves. -/
def HlO (w : World) (J : Nat → Prop) (hb : Nat) (pp : List Nat) (h : Pax.Hl) (e : Ending) (w' : World) : Prop := e = .returned (.tuple #[]) ∧ ∃ J2 v, Hal w' J2 hb v pp h ∧ Upd w J w' J2
theorem Hg.out (H : Hg w W J J2 hb v pp h l T) : ∃ J2 v, Hal W J2 hb v pp h ∧ Upd w J W J2 := ⟨J2, v, H.hal, H.ja, H.fr.kept⟩
end
end Go.Proofs.Ytpabpeppgpeaoaa.Md
