import Derived.Test.YtppkjebiiheljaaHe
namespace Go.Proofs.Ytppkjebiiheljaa
open Go.RowKit
set_option linter.unusedVariables false
set_option linter.unusedSimpArgs false

/-- A disk that never fails, its counts at most k. -/
structure Sa (x : DS) (N : Nat) (k : Nat) : Prop where
  ok : Ok x
  N : x.N = N
  fl : x.fl = false
  pw : x.pw = none
  rd : x.rd ≤ k
  wr : x.wr ≤ k
theorem Sa.write {x : DS} {N k : Nat} (h : Sa x N k) (n : Nat) (hn : n < N) {bs : List Int} (hb : bs.length = 512) (h8 : U8 bs) (hk : k ≤ 1000000000000000000) : Sa (wrD x n bs) N (k + 1) := by
  have hr : refE x n = 0 := refE_zero h.fl (by rw [h.N]; exact hn)
  have ho := h.ok.write n h8 (by have := h.wr; omega)
  rw [wrD_yes hr hb] at ho ⊢
  refine ⟨ho, h.N, ?_, ?_, ?_, ?_⟩
  · show (!holdsP x.pw) = false; rw [h.pw]; rfl
  · show spentP x.pw = none; rw [h.pw]; rfl
  · have := h.rd; show x.rd ≤ _; omega
  · have := h.wr; show x.wr + 1 ≤ _; omega

theorem Sa.read {x : DS} {N k : Nat} (h : Sa x N k) (n : Int) (hk : k ≤ 1000000000000000000) : Sa (rdD x n) N (k + 1) := by
  refine ⟨h.ok.read n (by have := h.rd; omega), (rdD_N _ _).trans h.N, (rdD_fl _ _).trans h.fl, (rdD_pw _ _).trans h.pw, ?_, ?_⟩
  · have := h.rd
    unfold rdD
    split
    · omega
    · show x.rd + 1 ≤ _; omega
  · rw [rdD_wr]; have := h.wr; omega

theorem flatN_u8 {f : Nat → List Int} (h : ∀ m, U8 (f m)) : ∀ n, U8 (flatN n f)
  | 0 => fun i => by simp [flatN]
  | n + 1 => by rw [flatN]; exact (flatN_u8 h n).append (h n)
theorem full0_splice (data : List Int) : (splice (zs.map (Value.int .u8)) 0 ((data.take 512).map (Value.int .u8))).toArray = u8s (fullS data 0) := full_splice data 0

theorem wp_copyFull {w : World} {ops : Array Oper} {rest : List Oper} {o : Oper} {a : Act} {Q : Exit → Act → World → Prop} (hgd : o.guard = none) (d s : Operand)
    (ho : o.op = .call { callee := .builtin .copy, args := #[d, s], argTypes := #[22, 22] }) (gb : Nat) (hd : a.eval d = .slice (some ⟨gb, 0, none⟩) 512 512) (sa : Option Addr) (sl sc : Nat) (bs : List Int) (hs : a.eval s = .slice sa sl sc)
    (hb : Box w gb 5 (u8s zs)) (hn : Nums .u8 w sa bs) (hl : bs.length = sl)
    (h : ∀ w' v, Hid (Box w' gb 5 (u8s (fullS bs 0))) → Kept (Only gb) w w' → wpList Try.prog ops Q rest (a.put o.dst (.int .i64 v)) w') : wpList Try.prog ops Q (o :: rest) a w := by
  refine wp_copyO hgd d s 22 22 ho 5 Try.und22 Try.size5 (some ⟨gb, 0, none⟩) sa 512 512 sl sc hd hs gb 0 (zs.map (Value.int .u8)) 5 hb ((bs.take 512).map (Value.int .u8)) ?_ ?_ ?_ (num_one .u8 _) ?_
  · rw [List.length_map, List.length_take, hl]; exact Nat.min_comm _ _
  · intro h0
    refine ⟨rfl, ?_⟩
    have hn' : Nums .u8 w sa (bs.take 512) := by
      intro i hi
      rw [List.length_take] at hi
      obtain ⟨b', off', e', hc⟩ := hn i (by omega)
      refine ⟨b', off', e', ?_⟩
      rw [List.getElem?_take, if_pos (by omega)]
      exact hc
    exact hn'.src h0
  · rw [List.length_map, List.length_take, List.length_map, zs_len]; omega
  · intro w' HB hk hs'
    rw [full0_splice] at HB
    exact h w' _ HB hk

/-- The disk and the reference's, of the call's own. -/
structure Pr (w wr : World) (d b r gs : Nat) (x y : DS) : Prop where
  dx : Dsk wr d b x
  ry : RD wr r gs (fun g => w.heap.size ≤ g) y
  kept : Kept No w wr
  lo : w.heap.size ≤ d ∧ w.heap.size ≤ b ∧ w.heap.size ≤ r ∧ w.heap.size ≤ gs
theorem dsk_box {w : World} {d b : Nat} {x : DS} (h : Dsk w d b x) {g : Nat} {t : TypeId} {cs : Array Value} (hg : Box w g t cs) (ht : t ≠ 69) : ¬ DB d b g := by
  rintro (rfl | rfl)
  · exact hg.diff h.1 ht rfl
  · obtain ⟨es, c, hm, _⟩ := h.2
    unfold Box at hg
    rw [hm] at hg
    cases hg
theorem Pr.left {w wr w' : World} {d b r gs : Nat} {x y z : DS} (h : Pr w wr d b r gs x y) (hk : Kept (DB d b) wr w') (hd : Dsk w' d b z) : Pr w w' d b r gs z y := by
  refine ⟨hd, ?_, h.kept.trans hk (fun _ e => e) (fun i hi e => by have := h.lo; rcases e with e | e <;> omega), h.lo⟩
  obtain ⟨arm, lf, tn, vs, hr⟩ := h.ry
  refine ⟨arm, lf, tn, vs, hr.box.kept hk (dsk_box h.dx hr.box (by decide)), hr.row.kept hk (dsk_box h.dx hr.row (by decide)), hr.len, fun n hn => (hr.sec n hn).imp id (fun ⟨g, e, hb, hf⟩ => ⟨g, e, hb.kept hk (dsk_box h.dx hb (by decide)), hf⟩), hr.pw⟩
theorem Pr.right {w wr w' : World} {d b r gs : Nat} {x y z : DS} (h : Pr w wr d b r gs x y) (hk : Kept (RG r gs) wr w') (hd : RD w' r gs (fun g => w.heap.size ≤ g ∨ wr.heap.size ≤ g) z) : Pr w w' d b r gs x z := by
  obtain ⟨arm, lf, tn, vs, hr⟩ := h.ry
  have hs := h.kept.size
  refine ⟨h.dx.kept hk ?_ ?_, hd.mono (fun g _ e => by rcases e with e | e <;> omega), h.kept.trans hk (fun _ e => e) (fun i hi e => by have := h.lo; rcases e with e | e <;> omega), h.lo⟩
  · rintro (e | e)
    · exact hr.box.diff h.dx.1 (by decide) e.symm
    · exact hr.row.diff h.dx.1 (by decide) e.symm
  · rintro (e | e)
    · exact dsk_box h.dx hr.box (by decide) (.inr e.symm)
    · exact dsk_box h.dx hr.row (by decide) (.inr e.symm)
theorem Pr.right1 {w wr w' : World} {d b r gs : Nat} {x y z : DS} (h : Pr w wr d b r gs x y) (hk : Kept (Only r) wr w') (hd : RD w' r gs (fun g => w.heap.size ≤ g) z) : Pr w w' d b r gs x z :=
  h.right (hk.mono (fun _ _ e => .inl e)) (hd.mono (fun g _ e => .inl e))
theorem Pr.no {w wr w' : World} {d b r gs : Nat} {x y : DS} (h : Pr w wr d b r gs x y) (hk : Kept No wr w') : Pr w w' d b r gs x y := ⟨h.dx.no hk, h.ry.no hk, h.kept.then hk, h.lo⟩
theorem Pr.gap {w wr : World} {d b r gs : Nat} {x y : DS} (h : Pr w wr d b r gs x y) {a : Option Addr} (ha : ∀ k, At a k → wr.heap.size ≤ k) {g off : Nat} (e : a = some ⟨g, off, none⟩) : ¬ DB d b g ∧ ¬ RG r gs g := by
  have h1 := ha g ⟨_, e, rfl⟩
  have h2 := h.dx.ltd
  have h3 := h.dx.ltb
  have h4 := h.ry.ltr
  exact ⟨by rintro (e | e) <;> omega, by rintro (e | e) <;> omega⟩

end Go.Proofs.Ytppkjebiiheljaa
