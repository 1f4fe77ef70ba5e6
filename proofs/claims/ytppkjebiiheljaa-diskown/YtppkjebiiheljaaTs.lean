import Derived.Test.YtppkjebiiheljaaKn
namespace Go.Proofs.Ytppkjebiiheljaa
open Go.RowKit
set_option linter.unusedVariables false
set_option linter.unusedSimpArgs false

/-- A disk of N sectors: what lies there, its power, fallen, its counts at most k. -/
structure St (x : DS) (N : Nat) (f : Nat → List Int) (pw : Option (Int × Int)) (fl : Bool) (k : Nat) : Prop where
  N : x.N = N
  c : x.c = f
  pw : x.pw = pw
  fl : x.fl = fl
  rd : x.rd ≤ k
  wr : x.wr ≤ k
  k : k ≤ 1000000000
  ok : Ok x

theorem St.new {N : Nat} (h1 : 1 ≤ N) (h2 : N ≤ 65536) : St (newD N) N (fun _ => zs) none false 0 :=
  ⟨rfl, rfl, rfl, rfl, Int.le_refl _, Int.le_refl _, by omega, Ok.new h1 h2⟩
theorem St.ref {x : DS} {N : Nat} {f : Nat → List Int} {pw : Option (Int × Int)} {k : Nat} (h : St x N f pw false k) {n : Nat} (hn : n < N) : refE x n = 0 := refE_zero h.fl (by rw [h.N]; exact hn)
theorem St.refF {x : DS} {N : Nat} {f : Nat → List Int} {pw : Option (Int × Int)} {k : Nat} (h : St x N f pw true k) (n : Int) : refE x n = 5 := by unfold refE; rw [h.fl]; rfl
theorem St.refR {x : DS} {N : Nat} {f : Nat → List Int} {pw : Option (Int × Int)} {k : Nat} (h : St x N f pw false k) {n : Int} (hn : n < 0 ∨ (N : Int) ≤ n) : refE x n = 31 := by
  unfold refE; rw [h.fl, h.N]
  simp only [Bool.false_eq_true, if_false]
  by_cases h1 : n < 0
  · rw [if_pos h1]
  · rw [if_neg h1, if_pos (by omega)]
/-- A whole write. -/
theorem St.write {x : DS} {N : Nat} {f : Nat → List Int} {pw : Option (Int × Int)} {k : Nat} (h : St x N f pw false k) {n : Nat} (hn : n < N) (hp : holdsP pw = true) {bs : List Int} (hb : bs.length = 512) (h8 : U8 bs) (hk : k + 1 ≤ 1000000000) :
    wrE x n 512 = 0 ∧ St (wrD x n bs) N (updC f n bs) (spentP pw) false (k + 1) := by
  have hr := h.ref hn
  have hlaid : laidP pw = 512 := by
    match pw, hp with
    | none, _ => rfl
    | some (l, t), hp => exact if_pos (of_decide_eq_true hp)
  constructor
  · unfold wrE; rw [if_neg (by simp [hr]), if_neg (by simp), h.pw, hp]; rfl
  · have ho := h.ok.write n h8 (by have := h.wr; have := h.k; omega)
    have e : wrD x n bs = { x with c := updC x.c n bs, wr := x.wr + 1, pw := spentP x.pw, fl := !holdsP x.pw } := by
      unfold wrD
      rw [if_neg (by simp [hr]), if_neg (by simp [hb]), h.pw, hlaid, show (512 : Int).toNat = 512 from rfl, Int.toNat_natCast, tornS_all (h.ok.fine.len n) hb]
    refine ⟨?_, ?_, ?_, ?_, ?_, ?_, hk, ho⟩
    · rw [e]; exact h.N
    · rw [e]; show updC x.c n bs = _; rw [h.c]
    · rw [e]; show spentP x.pw = _; rw [h.pw]
    · rw [e]; show (!holdsP x.pw) = false; rw [h.pw, hp]; rfl
    · rw [e]; have := h.rd; show x.rd ≤ _; omega
    · rw [e]; have := h.wr; show x.wr + 1 ≤ _; omega
/-- A torn one. -/
theorem St.tear {x : DS} {N : Nat} {f : Nat → List Int} {t : Int} {k : Nat} (h : St x N f (some (0, t)) false k) {n : Nat} (hn : n < N) {bs : List Int} (hb : bs.length = 512) (h8 : U8 bs) (hk : k + 1 ≤ 1000000000) :
    wrE x n 512 = 5 ∧ St (wrD x n bs) N (updC f n (tornS (f n) bs t.toNat)) none true (k + 1) := by
  have hr := h.ref hn
  constructor
  · unfold wrE; rw [if_neg (by simp [hr]), if_neg (by simp), h.pw]; rfl
  · have ho := h.ok.write n h8 (by have := h.wr; have := h.k; omega)
    have e : wrD x n bs = { x with c := updC x.c n (tornS (x.c n) bs t.toNat), wr := x.wr + 1, pw := spentP x.pw, fl := !holdsP x.pw } := by
      unfold wrD
      rw [if_neg (by simp [hr]), if_neg (by simp [hb]), h.pw, show laidP (some (0, t)) = t from rfl, Int.toNat_natCast]
    refine ⟨?_, ?_, ?_, ?_, ?_, ?_, hk, ho⟩
    · rw [e]; exact h.N
    · rw [e]; show updC x.c n _ = _; rw [h.c]
    · rw [e]; show spentP x.pw = _; rw [h.pw]; rfl
    · rw [e]; show (!holdsP x.pw) = true; rw [h.pw]; rfl
    · rw [e]; have := h.rd; show x.rd ≤ _; omega
    · rw [e]; have := h.wr; show x.wr + 1 ≤ _; omega
theorem St.refused {x : DS} {N : Nat} {f : Nat → List Int} {pw : Option (Int × Int)} {fl : Bool} {k : Nat} (h : St x N f pw fl k) {n : Int} (hn : refE x n ≠ 0) (m : Nat) (bs : List Int) : wrE x n m = refE x n ∧ wrD x n bs = x := by
  constructor
  · unfold wrE; rw [if_pos hn]
  · unfold wrD; rw [if_pos hn]
theorem St.read {x : DS} {N : Nat} {f : Nat → List Int} {pw : Option (Int × Int)} {fl : Bool} {k : Nat} (h : St x N f pw fl k) (n : Int) (hk : k + 1 ≤ 1000000000) : St (rdD x n) N f pw fl (k + 1) := by
  have ho := h.ok.read n (by have := h.rd; have := h.k; omega)
  refine ⟨(rdD_N _ _).trans h.N, (rdD_c _ _).trans h.c, (rdD_pw _ _).trans h.pw, (rdD_fl _ _).trans h.fl, ?_, ?_, hk, ho⟩
  · unfold rdD
    split
    · have := h.rd; omega
    · have := h.rd; show x.rd + 1 ≤ _; omega
  · rw [rdD_wr]; have := h.wr; omega
theorem St.arm {x : DS} {N : Nat} {f : Nat → List Int} {pw : Option (Int × Int)} {k : Nat} (h : St x N f pw false k) (n t : Int) (hn : n ≤ 9223372036854775807) : St (armD x n t) N f (some (max n 0, torn t)) false k := by
  have ho := h.ok.arm n t hn
  have e : armD x n t = { x with pw := some (max n 0, torn t) } := by unfold armD; rw [h.fl]; rfl
  refine ⟨?_, ?_, ?_, ?_, ?_, ?_, h.k, ho⟩
  · rw [e]; exact h.N
  · rw [e]; exact h.c
  · rw [e]
  · rw [e]; exact h.fl
  · rw [e]; exact h.rd
  · rw [e]; exact h.wr
theorem St.armF {x : DS} {N : Nat} {f : Nat → List Int} {pw : Option (Int × Int)} {k : Nat} (h : St x N f pw true k) (n t : Int) : armD x n t = x := by unfold armD; rw [h.fl]; rfl
theorem St.start {x : DS} {N : Nat} {f : Nat → List Int} {pw : Option (Int × Int)} {fl : Bool} {k : Nat} (h : St x N f pw fl k) : St (startD x) N f none false k :=
  ⟨h.N, h.c, rfl, rfl, h.rd, h.wr, h.k, h.ok.start⟩

/-- The disk and two rows of bytes beside it, all of the call's own. -/
structure Env (w wr : World) (d b gA gB : Nat) (A B : List Int) (x : DS) : Prop where
  dsk : Dsk wr d b x
  bA : Box wr gA 5 (u8s A)
  bB : Box wr gB 5 (u8s B)
  kept : Kept No w wr
  lod : w.heap.size ≤ d
  lob : w.heap.size ≤ b
theorem Box.apart {w : World} {d b : Nat} {x : DS} (h : Dsk w d b x) {g : Nat} {cs : Array Value} (hg : Box w g 5 cs) : ¬ DB d b g := by
  rintro (rfl | rfl)
  · have := h.1
    unfold Box at this hg
    rw [this] at hg
    cases hg
  · obtain ⟨es, c, hm, _⟩ := h.2
    unfold Box at hg
    rw [hm] at hg
    cases hg
theorem Env.next {w wr w' : World} {d b gA gB : Nat} {A B : List Int} {x y : DS} (h : Env w wr d b gA gB A B x) (hk : Kept (DB d b) wr w') (hd : Dsk w' d b y) : Env w w' d b gA gB A B y :=
  ⟨hd, h.bA.kept hk (h.bA.apart h.dsk), h.bB.kept hk (h.bB.apart h.dsk), h.kept.trans hk (fun _ e => e) (fun i hi e => by
    have h1 := h.lod
    have h2 := h.lob
    rcases e with e | e
    · omega
    · omega), h.lod, h.lob⟩
theorem Kept.db {w w' : World} {d b : Nat} (h : Kept (Only d) w w') : Kept (DB d b) w w' := h.mono (fun _ _ e => .inl e)
theorem Env.no {w wr w' : World} {d b gA gB : Nat} {A B : List Int} {x : DS} (h : Env w wr d b gA gB A B x) (hk : Kept No wr w') : Env w w' d b gA gB A B x := h.next hk.of_no (h.dsk.no hk)

end Go.Proofs.Ytppkjebiiheljaa
