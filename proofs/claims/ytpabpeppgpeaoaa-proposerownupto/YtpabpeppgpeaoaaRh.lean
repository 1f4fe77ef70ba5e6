import Derived.Test.YtpabpeppgpeaoaaRb
namespace Go.Proofs.Ytpabpeppgpeaoaa.Md
open Go.RowKit
set_option linter.unusedVariables false
set_option linter.unusedSimpArgs false
/-- The reference's proposer. -/
structure Rs where
  cl : Int
  op : Int
  ky : Ky
  zs : List Int
  mine : Cm
  ch : Cm
  n : Int
  rd : Int
  nt : Int
  ph : Int
  qa : List Bool
  qc : List Bool
  qh : List Sp
  qm : List Cm
  nk : Bool
  de : Bool
  tr : Bool
  wo : Bool
  dc : Cm
  bk : Bv
def rvOf (x : Rs) (g : Sl) (ba bc bh bm : Nat) : Rv := ⟨x.cl, x.op, x.ky, g, x.mine, x.ch, x.n, x.rd, x.nt, x.ph, ⟨some ⟨ba, 0, none⟩, g.l, g.l⟩, ⟨some ⟨bc, 0, none⟩, g.l, g.l⟩, ⟨some ⟨bh, 0, none⟩, g.l, g.l⟩, ⟨some ⟨bm, 0, none⟩, g.l, g.l⟩, x.nk, x.de, x.tr, x.wo, x.dc, x.bk⟩
structure RfB (w : World) (J : Nat → Prop) (r : Nat) (x : Rs) (g : Sl) (ba bc bh bm : Nat) : Prop where
  fq : Fq J w w [(r, 56, (rvOf x g ba bc bh bm).cells), (ba, 4, (boL x.qa).toArray), (bc, 4, (boL x.qc).toArray), (bh, 39, (spL x.qh).toArray), (bm, 28, (cmL x.qm).toArray)]
  gr : OwI w 0 g x.zs
  gj : ∀ k, At g.a k → J k
  la : x.qa.length = g.l
  lc : x.qc.length = g.l
  lh : x.qh.length = g.l
  lm : x.qm.length = g.l
  hn : g.l ≤ 2000000
/-- It in memory, its blocks within J. -/
def RfAt (w : World) (J : Nat → Prop) (r : Nat) (x : Rs) : Prop := ∃ g ba bc bh bm, RfB w J r x g ba bc bh bm
theorem Fq.again {S S' : Nat → Prop} {w0 w : World} {l : List (Nat × TypeId × Array Value)} (h : Fq S w0 w l) (hS : ∀ k, S k ∨ w0.heap.size ≤ k → S' k) : Fq S' w w l :=
  ⟨Kept.refl _ _, h.box, fun i g T cs hi => .inr (hS g (h.low i g T cs hi).symm), h.inj⟩
theorem Fq.sub {S : Nat → Prop} {w0 w : World} {l l' : List (Nat × TypeId × Array Value)} (h : Fq S w0 w l) (f : Nat → Nat) (hl : ∀ (i : Nat) x, l'[i]? = some x → l[f i]? = some x) (hf : ∀ i j, i < l'.length → j < l'.length → f i = f j → i = j) : Fq S w0 w l' :=
  ⟨h.kept, fun i g T cs hi => h.box _ g T cs (hl i _ hi), fun i g T cs hi => h.low _ g T cs (hl i _ hi), fun i j g T cs T' cs' hi hj => hf i j (List.getElem?_eq_some_iff.1 hi).1 (List.getElem?_eq_some_iff.1 hj).1 (h.inj _ _ _ _ _ _ _ (hl i _ hi) (hl j _ hj))⟩

def Jn (J : Nat → Prop) (w : World) : Nat → Prop := fun k => J k ∨ w.heap.size ≤ k
theorem RfB.mk' {J : Nat → Prop} {w w' : World} {r : Nat} {x : Rs} {g : Sl} {ba bc bh bm : Nat} (hf : Fq J w w' [(r, 56, (rvOf x g ba bc bh bm).cells), (ba, 4, (boL x.qa).toArray), (bc, 4, (boL x.qc).toArray), (bh, 39, (spL x.qh).toArray), (bm, 28, (cmL x.qm).toArray)]) (hg : OwI w' 0 g x.zs) (hj : ∀ k, At g.a k → J k) (la : x.qa.length = g.l) (lc : x.qc.length = g.l) (lh : x.qh.length = g.l) (lm : x.qm.length = g.l) (hn : g.l ≤ 2000000) : RfAt w' (Jn J w) r x :=
  ⟨g, ba, bc, bh, bm, hf.again (fun k e => e), hg, fun k e => .inl (hj k e), la, lc, lh, lm, hn⟩
def cntB (l : List Bool) : Nat := l.countP (fun b => b)

section
variable {ops : Array Oper} {rest : List Oper} {o : Oper} {a : Act} {w : World} {Q : Exit → Act → World → Prop} {md : Region.Mode} {S : World → Prop}
end
theorem RfB.no {w w' : World} {J : Nat → Prop} {r : Nat} {x : Rs} {g : Sl} {ba bc bh bm : Nat} (h : RfB w J r x g ba bc bh bm) (hk : Kept No w w') : RfB w' J r x g ba bc bh bm :=
  ⟨⟨Kept.refl _ _, fun i g T cs hi => (h.fq.box i g T cs hi).kept hk (fun e => e), fun i g T cs hi => .inr ((h.fq.low i g T cs hi).elim (fun e => absurd (h.fq.box i g T cs hi).lt (by omega)) id), h.fq.inj⟩, h.gr.no hk, h.gj, h.la, h.lc, h.lh, h.lm, h.hn⟩
def mgL (l : List Mg) : List Value := (l.map Mg.cs).flatten
/-- Messages told: new memory. -/
structure OwM (w : World) (base : Nat) (s : Sl) (l : List Mg) : Prop where
  own : Own 47 30 w base s.a s.k s.l (mgL l)
  len : l.length = s.l
theorem OwM.kept {S : Nat → Prop} {w w' : World} {base : Nat} {s : Sl} {es : List Mg} (h : OwM w base s es) (hk : Kept S w w') (hS : ∀ k, At s.a k → ¬ S k) : OwM w' base s es := ⟨h.own.kept hk hS, h.len⟩
theorem OwM.no {w w' : World} {base : Nat} {s : Sl} {es : List Mg} (h : OwM w base s es) (hk : Kept No w w') : OwM w' base s es := h.kept hk (fun _ _ e => e)
theorem OwM.nil (w : World) (base : Nat) : OwM w base slZ [] := ⟨Own.nil _ _ _ _, rfl⟩

theorem at_s {α : Type} {l : List α} {i n : Nat} (hl : l.length = n) (h : i < n) : ∃ b, l[i]? = some b := ⟨l[i], List.getElem?_eq_getElem _⟩
theorem RfAt.wide {J J' : Nat → Prop} {w : World} {r : Nat} {x : Rs} (h : RfAt w J r x) (hS : ∀ k, J k → J' k) : RfAt w J' r x := by
  obtain ⟨g, ba, bc, bh, bm, h⟩ := h
  exact ⟨g, ba, bc, bh, bm, ⟨Kept.refl _ _, h.fq.box, fun i g T cs hi => .inr ((h.fq.low i g T cs hi).elim (fun e => absurd (h.fq.box i g T cs hi).lt (by omega)) (hS g)), h.fq.inj⟩, h.gr, fun k e => hS k (h.gj k e), h.la, h.lc, h.lh, h.lm, h.hn⟩
theorem Jn.sub {J : Nat → Prop} {w W : World} (h : w.heap.size ≤ W.heap.size) {k : Nat} (e : Jn (Jn J w) W k) : Jn J w k := by
  rcases e with e | e
  · exact e
  · exact .inr (Nat.le_trans h e)
theorem kept_jn {J : Nat → Prop} {w W w' : World} (h : Kept J w W) (k : Kept (Jn J w) W w') : Kept J w w' :=
  h.trans k (fun _ e => e) (fun i hi e => e.elim id (fun l => absurd hi (by omega)))
/-- What a call of the reference tells and leaves. -/
def RfOut (w : World) (J : Nat → Prop) (r : Nat) (y : Rs × List Mg) (e : Ending) (w' : World) : Prop := ∃ s : Sl, e = .returned s.v ∧ OwM w' w.heap.size s y.2 ∧ RfAt w' (Jn J w) r y.1 ∧ Kept J w w'
theorem RfOut.behind {J : Nat → Prop} {w W w' : World} {r : Nat} {y : Rs × List Mg} {e : Ending} (hk : Kept J w W) (h : RfOut W (Jn J w) r y e w') : RfOut w J r y e w' := by
  obtain ⟨s, he, hO, hR, hk'⟩ := h
  exact ⟨s, he, ⟨hO.own.lower hk.size, hO.len⟩, hR.wide (fun k e => Jn.sub hk.size e), kept_jn hk hk'⟩

theorem RfB.frame {J : Nat → Prop} {w W : World} {r : Nat} {x : Rs} {g : Sl} {ba bc bh bm : Nat} (h : RfB W (Jn J w) r x g ba bc bh bm) (hk : Kept J w W) : Fq J w W [(r, 56, (rvOf x g ba bc bh bm).cells), (ba, 4, (boL x.qa).toArray), (bc, 4, (boL x.qc).toArray), (bh, 39, (spL x.qh).toArray), (bm, 28, (cmL x.qm).toArray)] :=
  ⟨hk, h.fq.box, fun i g T cs hi => (h.fq.low i g T cs hi).elim (fun e => absurd (h.fq.box i g T cs hi).lt (by omega)) (fun e => e.symm), h.fq.inj⟩

structure RdI (w : World) (s : Sl) (zs : List Int) : Prop where
  nums : Nums .i64 w s.a zs
  len : zs.length = s.l
theorem RdI.at {w : World} {s : Sl} {zs : List Int} (h : RdI w s zs) {i : Nat} (hi : i < s.l) : ∃ gb go, s.a = some ⟨gb, go, none⟩ ∧ w.cell? ⟨gb, go + i * 1, none⟩ = some (.int .i64 (zs[i]?.getD 0)) := by
  obtain ⟨b, off, e, hc⟩ := h.nums i (by rw [h.len]; exact hi)
  exact ⟨b, off, e, by rw [Nat.mul_one]; exact hc⟩
theorem RdI.no {w w' : World} {s : Sl} {zs : List Int} (h : RdI w s zs) (hk : Kept No w w') : RdI w' s zs := ⟨h.nums.no hk, h.len⟩
theorem OwI.rd {w : World} {b : Nat} {s : Sl} {zs : List Int} (h : OwI w b s zs) : RdI w s zs := ⟨h.own.nums h.len, h.len⟩
end Go.Proofs.Ytpabpeppgpeaoaa.Md
