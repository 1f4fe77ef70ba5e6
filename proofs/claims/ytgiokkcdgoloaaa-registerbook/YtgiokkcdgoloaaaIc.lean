import Derived.Test.YtgiokkcdgoloaaaIb
import Derived.Test.YtgiokkcdgoloaaaHs
namespace Go.Proofs.Ytgiokkcdgoloaaa
open Go.RowKit
set_option linter.unusedVariables false
set_option linter.unusedSimpArgs false

/-- What the three machines hang on: the writer's own data, what the servers answer. -/
structure Par where
  da : Option Addr
  dc : Nat
  zs : List Int
  bz : List Int
/-- The writer, by its phase. -/
inductive PW (p : Par) (I : Nat → Prop) (m : Nat) (W : World) : Nat → Prop
  | f : Fre I 118 (wv p.da p.zs.length p.dc) [(p.da, p.dc, p.zs)] m W → PW p I m W 0
  | a0 (H : List Hb) : (p.da, p.dc, p.zs) ∈ H → Ask I 118 (wv p.da p.zs.length p.dc) H m T0 W → PW p I m W 1
  | a1 (H : List Hb) (b1 : Bk) : (p.da, p.dc, p.zs) ∈ H → b1.n = 1 ∧ b1.c = 2 → Ask I 118 (wv p.da p.zs.length p.dc) H m (T1 b1) W → PW p I m W 2
  | a2 (H : List Hb) (b1 b2 : Bk) : (p.da, p.dc, p.zs) ∈ H → b1.n = 1 ∧ b1.c = 2 → b2.n = 2 ∧ b2.c = 2 → Ask I 118 (wv p.da p.zs.length p.dc) H m (T2 b1 b2) W → PW p I m W 3
  | d (H : List Hb) : (p.da, p.dc, p.zs) ∈ H → Lay I 4 3 p.da p.zs.length p.dc H m W → PW p I m W 4
/-- The reader of a value. -/
inductive PR (p : Par) (I : Nat → Prop) (m : Nat) (W : World) : Nat → Prop
  | f : Fre I 120 rv [] m W → PR p I m W 0
  | a0 (H : List Hb) : Ask I 120 rv H m T0 W → PR p I m W 1
  | a1 (H : List Hb) (b1 : Bk) : b1.n = 1 ∧ b1.c = 2 → Ask I 120 rv H m (T1 b1) W → PR p I m W 2
  | a2 (H : List Hb) (b1 b2 : Bk) : b1.n = 1 ∧ b1.c = 2 → b2.n = 2 ∧ b2.c = 2 → Ask I 120 rv H m (T2 b1 b2) W → PR p I m W 3
  | d (H : List Hb) (ka : Option Addr) (kk : Nat) : (ka, kk, p.bz) ∈ H → Lay I 3 2 ka p.bz.length kk H m W → PR p I m W 4
def z4 : List Int := [0, 0, 0, 0]
/-- The reader of what never was written. -/
inductive PZ (I : Nat → Prop) (m : Nat) (W : World) : Nat → Prop
  | f : Fre I 120 rv [] m W → PZ I m W 0
  | a0 (H : List Hb) : Ask I 120 rv H m T0 W → PZ I m W 1
  | a1 (H : List Hb) (b1 : Bk) : (b1.a, b1.k, z4) ∈ H → b1.l = 4 → b1.n = 0 ∧ b1.c = 0 → Ask I 120 rv H m (T1 b1) W → PZ I m W 2
  | a2 (H : List Hb) (b1 b2 : Bk) : (b1.a, b1.k, z4) ∈ H → b1.l = 4 → b1.n = 0 ∧ b1.c = 0 → b2.n = 0 ∧ b2.c = 0 → Ask I 120 rv H m (T2 b1 b2) W → PZ I m W 3
  | d (H : List Hb) (a : Option Addr) (k : Nat) : (a, k, z4) ∈ H → Fin I a 4 k H m W → PZ I m W 4
/-- Machine i at its phase. -/
def Pm (p : Par) (i ph : Nat) (I : Nat → Prop) (m : Nat) (W : World) : Prop := (i = 0 → PW p I m W ph) ∧ (i = 1 → PR p I m W ph) ∧ (i = 2 → PZ I m W ph)
section
variable {S I I' : Nat → Prop} {p : Par} {i ph m : Nat} {W W' : World}
theorem PW.kept (h : PW p I m W ph) (hk : Kept S W W') (hS : ∀ k, I k → k < W.heap.size → ¬ S k ∧ I' k) : PW p I' m W' ph := by
  cases h with
  | f h => exact .f (h.kept hk hS)
  | a0 H h1 h => exact .a0 H h1 (h.kept hk hS)
  | a1 H b1 h1 h2 h => exact .a1 H b1 h1 h2 (h.kept hk hS)
  | a2 H b1 b2 h1 h2 h3 h => exact .a2 H b1 b2 h1 h2 h3 (h.kept hk hS)
  | d H h1 h => exact .d H h1 (h.kept hk hS)
theorem PR.kept (h : PR p I m W ph) (hk : Kept S W W') (hS : ∀ k, I k → k < W.heap.size → ¬ S k ∧ I' k) : PR p I' m W' ph := by
  cases h with
  | f h => exact .f (h.kept hk hS)
  | a0 H h => exact .a0 H (h.kept hk hS)
  | a1 H b1 h2 h => exact .a1 H b1 h2 (h.kept hk hS)
  | a2 H b1 b2 h2 h3 h => exact .a2 H b1 b2 h2 h3 (h.kept hk hS)
  | d H ka kk h1 h => exact .d H ka kk h1 (h.kept hk hS)
theorem PZ.kept (h : PZ I m W ph) (hk : Kept S W W') (hS : ∀ k, I k → k < W.heap.size → ¬ S k ∧ I' k) : PZ I' m W' ph := by
  cases h with
  | f h => exact .f (h.kept hk hS)
  | a0 H h => exact .a0 H (h.kept hk hS)
  | a1 H b1 h1 hl h2 h => exact .a1 H b1 h1 hl h2 (h.kept hk hS)
  | a2 H b1 b2 h1 hl h2 h3 h => exact .a2 H b1 b2 h1 hl h2 h3 (h.kept hk hS)
  | d H a k h1 h => exact .d H a k h1 (h.kept hk hS)
theorem Pm.kept (h : Pm p i ph I m W) (hk : Kept S W W') (hS : ∀ k, I k → k < W.heap.size → ¬ S k ∧ I' k) : Pm p i ph I' m W' :=
  ⟨fun e => (h.1 e).kept hk hS, fun e => (h.2.1 e).kept hk hS, fun e => (h.2.2 e).kept hk hS⟩
theorem Pm.cut (h : Pm p i ph I m W) : Pm p i ph (fun k => I k ∧ k < W.heap.size) m W := h.kept (Kept.refl No W) (fun k e l => ⟨fun f => f, e, l⟩)
theorem Pm.w (h : PW p I m W ph) : Pm p 0 ph I m W := ⟨fun _ => h, fun e => absurd e (by decide), fun e => absurd e (by decide)⟩
theorem Pm.r (h : PR p I m W ph) : Pm p 1 ph I m W := ⟨fun e => absurd e (by decide), fun _ => h, fun e => absurd e (by decide)⟩
theorem Pm.z (h : PZ I m W ph) : Pm p 2 ph I m W := ⟨fun e => absurd e (by decide), fun e => absurd e (by decide), fun _ => h⟩
end
/-- A block of bytes lies there. -/
def Typ5 (W : World) (k : Nat) : Prop := ∃ cur, W.heap[k]? = some (.cells cur 5 (0, 0))
theorem Box.not5 {W : World} {k : Nat} {t : TypeId} {cs : Array Value} (h : Box W k t cs) (ht : t ≠ 5) : ¬ Typ5 W k := by
  rintro ⟨cur, e⟩
  have h' : W.heap[k]? = some (.cells cs t (0, 0)) := h
  rw [h'] at e
  simp only [Option.some.injEq, Obj.cells.injEq] at e
  exact ht e.2.1
theorem Own.not5 {W : World} {b : Nat} {a : Option Addr} {cap n : Nat} {vs : List Value} (h : Own 3 1 W b a cap n vs) {k : Nat} (hk : At a k) : ¬ Typ5 W k := by
  rintro ⟨cur, e⟩
  obtain ⟨cur', e'⟩ := Gx.own_type h hk
  rw [e'] at e
  simp only [Option.some.injEq, Obj.cells.injEq] at e
  exact absurd e.2.1 (by decide)
theorem MapIs.not5 {W : World} {b : Nat} {f : _} (h : MapIs W b f) : ¬ Typ5 W b := by
  rintro ⟨cur, e⟩
  unfold MapIs at h
  simp_all
theorem Lay.exact {I : Nat → Prop} {n c : Int} {pa : Option Addr} {pl pk : Nat} {H : List Hb} {m : Nat} {W : World} {pz : List Int} (h : Lay I n c pa pl pk H m W) (hH : (pa, pk, pz) ∈ H) :
    ∃ I', Lay I' n c pa pl pk [(pa, pk, pz)] m W ∧ ∀ k, I' k → I k ∧ k < W.heap.size ∧ (At pa k ∨ ¬ Typ5 W k) := by
  obtain ⟨a, cap, sn, sc, da, dl, dc, ub, ubb, ut, ua, h1, h2, h3, h4, h5⟩ := h
  obtain ⟨ho, hp⟩ := h3.ok _ hH
  refine ⟨fun k => I k ∧ k < W.heap.size ∧ (At pa k ∨ ¬ Typ5 W k), ⟨a, cap, sn, sc, da, dl, dc, ub, ubb, ut, ua, h1, h2, ⟨fun x hx => ?_⟩, fun k e => ⟨h4 k e, ?_⟩, fun k e => ⟨h5 k e, ?_⟩⟩, fun k e => e⟩
  · rw [List.mem_singleton.1 hx]
    exact ⟨ho, fun k e => ⟨⟨(hp k e).1, ho.lt e, .inl e⟩, (hp k e).2⟩⟩
  · rcases e with rfl | e
    · exact ⟨h1.box.lt, .inr (h1.box.not5 (by decide))⟩
    · exact ⟨Own.lt0 h1.row e, .inr (Own.not5 h1.row e)⟩
  · rcases e with rfl | rfl | e
    · exact ⟨h2.box.lt, .inr (h2.box.not5 (by decide))⟩
    · exact ⟨h2.map.lt, .inr h2.map.not5⟩
    · exact ⟨Own.lt0 h2.row e, .inr (Own.not5 h2.row e)⟩
def tellN (i : Nat) : Nat := if i < 2 then 5 else 0
def tz (p : Par) (i : Nat) : List Int := if i = 0 then p.zs else if i = 1 then p.bz else []
def sN (i k : Nat) : Int := if i = 2 then 0 else (k : Int)
def sC (i : Nat) : Int := if i = 2 then 0 else 2
theorem Msgs.none (W : World) (B : Nat) : Msgs W B none 0 x7 ⟨0, 0, 0, 0⟩ [] [] := ⟨World.ownsRow_nil _ _ _ _, fun q hq => absurd hq (by simp), List.Pairwise.nil, rfl⟩
/-- What a machine answers to an answer. -/
def TkOut (p : Par) (i k : Nat) (I : Nat → Prop) (m : Nat) (W : World) (e : Ending) (W' : World) : Prop :=
  ∃ la ln lc, e = .returned (.slice la ln lc) ∧ ∃ I', Pm p i (k + 1) I' m W' ∧ (∀ j, I' j → (I j ∨ W.heap.size ≤ j) ∧ j < W'.heap.size) ∧ Kept I W W' ∧
    (k = 3 → ∃ x h qs B, Msgs W' B la lc x h (tz p i) qs ∧ W.heap.size ≤ B ∧ qs.length = ln ∧ ln = tellN i ∧ (i ≠ 1 → ∀ q ∈ qs, ∀ j, At q.ba j → ¬ I' j))
section
variable {I : Nat → Prop} {p : Par} {i m : Nat} {W : World}
theorem begin_m (hi : i < 3) (h : Pm p i 0 I m W) : Calls Try.prog 82 #[.pointer (some ⟨m, 0, none⟩)] W (fun e W' => ∃ la lc, e = .returned (.slice la 5 lc) ∧ ∃ I', Pm p i 1 I' m W' ∧ (∀ j, I' j → (I j ∨ W.heap.size ≤ j) ∧ j < W'.heap.size) ∧ Kept (Only m) W W' ∧ I m) := by
  obtain ⟨h0, h1, h2⟩ := h
  match i, hi with
  | 0, _ =>
    cases h0 rfl with
    | f h =>
      have hm : I m := by obtain ⟨a, cap, _, _, h3⟩ := h; exact h3 m (.inl rfl)
      refine (begin_f h).mono ?_
      rintro e W' ⟨⟨la, lc, rfl⟩, hA, hk⟩
      exact ⟨la, lc, rfl, _, (Pm.w (.a0 _ (List.mem_singleton.2 rfl) hA)).cut, fun j e => e, hk, hm⟩
  | 1, _ =>
    cases h1 rfl with
    | f h =>
      have hm : I m := by obtain ⟨a, cap, _, _, h3⟩ := h; exact h3 m (.inl rfl)
      refine (begin_f h).mono ?_
      rintro e W' ⟨⟨la, lc, rfl⟩, hA, hk⟩
      exact ⟨la, lc, rfl, _, (Pm.r (.a0 _ hA)).cut, fun j e => e, hk, hm⟩
  | 2, _ =>
    cases h2 rfl with
    | f h =>
      have hm : I m := by obtain ⟨a, cap, _, _, h3⟩ := h; exact h3 m (.inl rfl)
      refine (begin_f h).mono ?_
      rintro e W' ⟨⟨la, lc, rfl⟩, hA, hk⟩
      exact ⟨la, lc, rfl, _, (Pm.z (.a0 _ hA)).cut, fun j e => e, hk, hm⟩
theorem mem_more {x y : Hb} {H : List Hb} (h : x ∈ H) : x ∈ H ++ [y] := List.mem_append.2 (.inl h)
theorem mem_last (x : Hb) (H : List Hb) : x ∈ H ++ [x] := List.mem_append.2 (.inr (List.mem_singleton.2 rfl))
theorem take_w {k : Nat} (hk1 : 1 ≤ k) (hk3 : k ≤ 3) (hzl : p.zs.length ≤ 140737488355328) (h : PW p I m W k) (ba : Option Addr) (bl bk : Nat) :
    Calls Try.prog 85 #[.pointer (some ⟨m, 0, none⟩), .agg (valD k 7 k 2 ba bl bk).cells] W (TkOut p 0 k I m W) := by
  cases h with
  | f h => omega
  | d H h1 h => omega
  | a0 H h1 h =>
    refine (w_take1 h ba bl bk).mono ?_
    rintro e W' ⟨rfl, ka, kk, hA, hK⟩
    exact ⟨_, _, _, rfl, _, (Pm.w (.a1 _ _ (mem_more h1) ⟨rfl, rfl⟩ hA)).cut, fun j e => e, hK, fun e => by omega⟩
  | a1 H b1 h1 h2 h =>
    refine (w_take2 h ba bl bk).mono ?_
    rintro e W' ⟨rfl, ka, kk, hA, hK⟩
    exact ⟨_, _, _, rfl, _, (Pm.w (.a2 _ _ _ (mem_more h1) h2 ⟨rfl, rfl⟩ hA)).cut, fun j e => e, hK, fun e => by omega⟩
  | a2 H b1 b2 h1 h2 h3 h =>
    have hda : ∀ j, At p.da j → j < W.heap.size := fun j e => by
      obtain ⟨_, _, _, _, _, _, _, _, hH, _⟩ := h
      exact (hH.ok _ h1).1.lt e
    refine (w_take3 p.zs h2 h3 rfl hzl h1 h ba bl bk).mono ?_
    rintro e W' ⟨la, lc, qs, B, ka, kk, rfl, hq, hB, hM, hL, hK⟩
    obtain ⟨I', hL', hI'⟩ := hL.exact (mem_more h1)
    refine ⟨_, _, _, rfl, I', Pm.w (.d _ (List.mem_singleton.2 rfl) hL'), fun j e => ⟨(hI' j e).1, (hI' j e).2.1⟩, hK, fun _ => ⟨_, _, qs, B, hM, hB, hq, rfl, fun _ q hqm j e f => ?_⟩⟩
    have ho := hM.own q hqm
    have hbj := Own.base ho e
    rcases (hI' j f).2.2 with g | g
    · have := hda j g; omega
    · exact g (Gx.own_type ho e)
theorem take_r {k : Nat} (hk1 : 1 ≤ k) (hk3 : k ≤ 3) (hzl : p.bz.length ≤ 140737488355328) (h : PR p I m W k) (ba : Option Addr) (bk : Nat) (hb : Bytes W ba p.bz) :
    Calls Try.prog 85 #[.pointer (some ⟨m, 0, none⟩), .agg (valD k 7 k 2 ba p.bz.length bk).cells] W (TkOut p 1 k I m W) := by
  cases h with
  | f h => omega
  | d H ka kk h1 h => omega
  | a0 H h =>
    refine (r_take1 h ba _ bk p.bz rfl hzl hb).mono ?_
    rintro e W' ⟨rfl, ka, kk, hA, hK⟩
    exact ⟨_, _, _, rfl, _, (Pm.r (.a1 _ _ ⟨rfl, rfl⟩ hA)).cut, fun j e => e, hK, fun e => by omega⟩
  | a1 H b1 h2 h =>
    refine (r_take2 h ba _ bk p.bz rfl hzl hb).mono ?_
    rintro e W' ⟨rfl, ka, kk, hA, hK⟩
    exact ⟨_, _, _, rfl, _, (Pm.r (.a2 _ _ _ h2 ⟨rfl, rfl⟩ hA)).cut, fun j e => e, hK, fun e => by omega⟩
  | a2 H b1 b2 h2 h3 h =>
    refine (r_take3 h2 h3 h ba _ bk p.bz rfl hzl hb).mono ?_
    rintro e W' ⟨la, lc, qs, B, ka, kk, rfl, hq, hB, hM, hL, hK⟩
    exact ⟨_, _, _, rfl, _, (Pm.r (.d _ ka kk (mem_last _ _) hL)).cut, fun j e => e, hK, fun _ => ⟨_, _, qs, B, hM, hB, hq, rfl, fun e => absurd rfl e⟩⟩
theorem take_z {k : Nat} (hk1 : 1 ≤ k) (hk3 : k ≤ 3) (h : PZ I m W k) (ba : Option Addr) (bl bk : Nat) :
    Calls Try.prog 85 #[.pointer (some ⟨m, 0, none⟩), .agg (valD k 7 0 0 ba bl bk).cells] W (TkOut p 2 k I m W) := by
  cases h with
  | f h => omega
  | d H ka kk h1 h => omega
  | a0 H h =>
    refine (z_take1 h ba bl bk).mono ?_
    rintro e W' ⟨rfl, ka, kk, hA, hK⟩
    exact ⟨_, _, _, rfl, _, (Pm.z (.a1 (H ++ [(ka, kk, z4)]) ⟨0, 0, ka, 4, kk⟩ (mem_last _ _) rfl ⟨rfl, rfl⟩ hA)).cut, fun j e => e, hK, fun e => by omega⟩
  | a1 H b1 h1 hl h2 h =>
    refine (z_take2 h ba bl bk).mono ?_
    rintro e W' ⟨rfl, ka, kk, hA, hK⟩
    exact ⟨_, _, _, rfl, _, (Pm.z (.a2 _ _ _ (mem_more h1) hl h2 ⟨rfl, rfl⟩ hA)).cut, fun j e => e, hK, fun e => by omega⟩
  | a2 H b1 b2 h1 hl h2 h3 h =>
    refine (z_take3 h2 h3 h ba bl bk).mono ?_
    rintro e W' ⟨ka, kk, rfl, hF, hK⟩
    rw [hl] at hF
    exact ⟨_, _, _, rfl, _, (Pm.z (.d _ _ _ (mem_more h1) hF)).cut, fun j e => e, hK, fun _ => ⟨_, _, [], _, Msgs.none _ _, Nat.le_refl _, rfl, rfl, fun _ q hq => absurd hq (by simp)⟩⟩
theorem take_m {k : Nat} (hi : i < 3) (hk1 : 1 ≤ k) (hk3 : k ≤ 3) (h0 : p.zs.length ≤ 140737488355328) (h1 : p.bz.length ≤ 140737488355328) (h : Pm p i k I m W) (ba : Option Addr) (bk : Nat) (hb : Bytes W ba p.bz) :
    Calls Try.prog 85 #[.pointer (some ⟨m, 0, none⟩), .agg (valD k 7 (sN i k) (sC i) ba p.bz.length bk).cells] W (TkOut p i k I m W) := by
  match i, hi with
  | 0, _ => exact take_w hk1 hk3 h0 (h.1 rfl) ba _ bk
  | 1, _ => exact take_r hk1 hk3 h1 (h.2.1 rfl) ba bk hb
  | 2, _ => exact take_z hk1 hk3 (h.2.2 rfl) ba _ bk
theorem tick_m (hi : i < 3) (h0 : p.zs.length ≤ 140737488355328) (h1 : p.bz.length ≤ 140737488355328) (h : Pm p i 4 I m W) :
    Calls Try.prog 86 #[.pointer (some ⟨m, 0, none⟩)] W (fun e W' => ∃ la ln lc x h qs, e = .returned (.slice la ln lc) ∧ Msgs W' W.heap.size la lc x h (tz p i) qs ∧ qs.length = ln ∧ ln = tellN i ∧ Kept No W W') := by
  match i, hi with
  | 0, _ =>
    cases h.1 rfl with
    | d H hH hL =>
      have hb : Bytes W p.da p.zs := by obtain ⟨_, _, _, _, _, _, _, _, _, _, _, _, _, hh, _⟩ := hL; exact (hh.ok _ hH).1.bytes
      refine (lay_tick hL p.zs rfl h0 hb).mono ?_
      rintro e W' ⟨la, lc, qs, rfl, hq, hM, hk⟩
      exact ⟨la, _, lc, _, _, qs, rfl, hM, hq, rfl, hk⟩
  | 1, _ =>
    cases h.2.1 rfl with
    | d H ka kk hH hL =>
      have hb : Bytes W ka p.bz := by obtain ⟨_, _, _, _, _, _, _, _, _, _, _, _, _, hh, _⟩ := hL; exact (hh.ok _ hH).1.bytes
      refine (lay_tick hL p.bz rfl h1 hb).mono ?_
      rintro e W' ⟨la, lc, qs, rfl, hq, hM, hk⟩
      exact ⟨la, _, lc, _, _, qs, rfl, hM, hq, rfl, hk⟩
  | 2, _ =>
    cases h.2.2 rfl with
    | d H a k hH hF =>
      refine (fin_tick hF).mono ?_
      rintro e W' ⟨rfl, hk⟩
      exact ⟨_, _, _, _, _, [], rfl, Msgs.none _ _, rfl, rfl, hk⟩
theorem done_m (h : Pm p 2 4 I m W) : Calls Try.prog 83 #[.pointer (some ⟨m, 0, none⟩)] W (fun e W' => ∃ sn sc ra rc, e = .returned (.tuple #[.agg (resC 0 sn sc ra 4 rc), .bool true]) ∧ OwnB W' W.heap.size ra rc z4 ∧ Kept No W W') := by
  cases h.2.2 rfl with
  | d H a k hH hF =>
    have hb : Bytes W a z4 := by obtain ⟨_, _, _, _, _, hh, _⟩ := hF; exact (hh.ok _ hH).1.bytes
    exact fin_done hF z4 rfl (by decide) hb
end

end Go.Proofs.Ytgiokkcdgoloaaa
