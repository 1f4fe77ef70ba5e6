import Derived.Test.YtpabpeppgpeaoaaXg
namespace Go.Proofs.Ytpabpeppgpeaoaa.Md
open Go.RowKit Gt Gx
set_option linter.unusedVariables false
set_option linter.unusedSimpArgs false

namespace Gx
section
variable {α : Type} {D : Kn α}
/-- A list under growth. -/
structure Gr (D : Kn α) (wi wr : World) (lo : Nat) (e : Sl) (ms gs : List α) (a' : Option Addr) (c' : Nat) : Prop where
  kept : Kept (At e.a) wi wr
  old : OwG D wr lo e.a e.k ms
  new : OwG D wr lo a' c' (ms ++ gs)
  was : ∀ k, At e.a k → k < wi.heap.size
  wher : (a' = e.a ∧ c' = e.k) ∨ ∀ k, At a' k → wi.heap.size ≤ k
theorem Gr.start {w : World} {lo : Nat} {e : Sl} {ms : List α} (h : OwG D w lo e.a e.k ms) : Gr D w w lo e ms [] e.a e.k :=
  ⟨Kept.refl _ _, h, by rw [List.append_nil]; exact h, fun k hk => h.lt hk, .inl ⟨rfl, rfl⟩⟩
theorem Gr.no {wi wr w' : World} {lo : Nat} {e : Sl} {ms gs : List α} {a' : Option Addr} {c' : Nat} (h : Gr D wi wr lo e ms gs a' c') (hk : Kept No wr w') : Gr D wi w' lo e ms gs a' c' :=
  ⟨h.kept.then hk.of_no, h.old.no hk, h.new.no hk, h.was, h.wher⟩
theorem Gr.more {wi wr w' : World} {lo : Nat} {e : Sl} {ms gs : List α} {a' a'' : Option Addr} {c' c'' : Nat} {x : α} (h : Gr D wi wr lo e ms gs a' c') (ho : OwG D w' lo a'' c'' (ms ++ (gs ++ [x])))
    (hc : (a'' = a' ∧ c'' = c' ∧ Kept (At a') wr w') ∨ ((∀ k, At a'' k → wr.heap.size ≤ k) ∧ Kept No wr w')) : Gr D wi w' lo e ms (gs ++ [x]) a'' c'' := by
  rcases hc with ⟨rfl, rfl, hk⟩ | ⟨hn, hk⟩
  · rcases h.wher with ⟨rfl, rfl⟩ | hf
    · exact ⟨h.kept.then hk, ho.front, ho, h.was, .inl ⟨rfl, rfl⟩⟩
    · refine ⟨h.kept.trans hk (fun _ e => e) (fun i hi e => ?_), h.old.kept hk (fun k hk' e => ?_), ho, h.was, .inr hf⟩
      · have := hf i e; omega
      · have := hf k e; have := h.was k hk'; omega
  · exact ⟨h.kept.then hk.of_no, h.old.no hk, ho, h.was, .inr (fun k hk' => by have := hn k hk'; have := h.kept.size; omega)⟩
/-- One is appended to it. -/
theorem Gr.app {wi wr : World} {lo : Nat} {e : Sl} {ms gs : List α} {a' : Option Addr} {c' : Nat} (h : Gr D wi wr lo e ms gs a' c') (x : α) (n : Nat) (hn : (ms ++ gs).length = n) {by' : Nat} {z : Value} (ht : Try.prog.underlying D.R = some (.slice D.E))
    (hinf : (Try.prog.info? D.E).map (fun i => (i.zero, i.size, i.bytes)) = some (some z, D.c, by')) (hzc : z.cells.size = D.c) (h1 : ∀ u ∈ D.cs x, u.oneCell' = true) (hby : by' ≤ 1000) (hle : n ≤ 2000000) (hlo : lo ≤ wr.heap.size) :
    ∃ a4 c4 w4, (Builtin.append_ #[D.R, D.R] D.R #[.slice a' n c', .slice (some ⟨wr.heap.size, 0, none⟩) 1 1]).run Try.prog (wr.alloc (.cells (D.cs x).toArray D.E)) = .ok (.slice a4 (n + 1) c4) w4 ∧ Gr D wi w4 lo e ms (gs ++ [x]) a4 c4 := by
  subst hn
  have hk1 : Kept No wr (wr.alloc (.cells (D.cs x).toArray D.E)) := (Kept.refl No _).alloc _
  have hx := Box.new wr D.E (D.cs x).toArray
  have h2 := h.no hk1
  obtain ⟨a4, c4, w4, hrun, ho, hc⟩ := run_appG (w := wr.alloc (.cells (D.cs x).toArray D.E)) D.R D.R D.E D.c by' z ht hinf hzc D.h0 lo _ c' a' _ h2.new ⟨wr.heap.size, 0, none⟩ 1 (D.cs x) (D.hc x) (fun j u hj => by rw [addr_add, Nat.zero_add, hx.cell, List.getElem?_toArray]; exact hj) h1 (by
    have : ((ms ++ gs).length + 1) * by' ≤ 2000001 * 1000 := Nat.mul_le_mul (by omega) hby
    omega) (by omega) (Nat.le_trans hlo hk1.size)
  refine ⟨a4, c4, w4, hrun, h2.more ?_ hc⟩
  unfold OwG
  rw [← List.append_assoc, D.L_app, D.L_1, List.length_append (bs := [x])]
  exact ho

end
end Gx
theorem uq_go : ∀ (l acc : List Int), (acc ++ l).Nodup → l.foldl (fun acc n => if n ∈ acc then acc else acc ++ [n]) acc = acc ++ l
  | [], acc, _ => by simp
  | a :: r, acc, h => by
    have ha : a ∉ acc := fun e => by
      have := (List.nodup_append.1 h).2.2 a e a (by simp)
      exact this rfl
    rw [List.foldl_cons, if_neg ha, uq_go r (acc ++ [a]) (by simpa using h)]
    simp
theorem uq_uq (l : List Int) : uq (uq l) = uq l := by
  have := uq_go (uq l) [] (by simpa using uq_nodup l)
  simpa [uq] using this
theorem uq_in : ∀ (l acc : List Int) (x : Int), x ∈ acc ∨ x ∈ l → x ∈ l.foldl (fun acc n => if n ∈ acc then acc else acc ++ [n]) acc
  | [], acc, x, h => by rcases h with h | h; exact h; cases h
  | a :: r, acc, x, h => by
    rw [List.foldl_cons]
    refine uq_in r _ x ?_
    split
    · rename_i ha
      rcases h with h | h
      · exact .inl h
      · rcases List.mem_cons.1 h with rfl | h
        · exact .inl ha
        · exact .inr h
    · rcases h with h | h
      · exact .inl (by simp [h])
      · rcases List.mem_cons.1 h with rfl | h
        · exact .inl (by simp)
        · exact .inr h
theorem mem_uq {l : List Int} {x : Int} (h : x ∈ l) : x ∈ uq l := uq_in l [] x (.inr h)
/-- The proposer of the law, begun. -/
def w0S (zs : List Int) : PS := newS 2 3 (jK oK) zs (Ytpabpeppgpeaoaa.cmdOf 2) 5 6
def w1S (zs : List Int) : PS := (begS (w0S zs)).1
def xLs (zs : List Int) : List Ms := (begS (w0S zs)).2
def xM (zs : List Int) : List Mg := (xLs zs).map dM
theorem xLs_eq (zs : List Int) : xLs zs = (uq zs).map (prepM (w1S zs).v0).to := rfl
theorem xLs_len (zs : List Int) : (xLs zs).length = (uq zs).length := by rw [xLs_eq, List.length_map]
theorem wtick (zs : List Int) : tickS (w1S zs) = (w1S zs, xLs zs) := by
  have h : tickS (w1S zs) = (w1S zs, (missL (tNew Unit (uq zs) (((uq zs).length : Nat) : Int))).map (prepM (w1S zs).v0).to) := rfl
  rw [h, miss_new, uq_uq, xLs_eq]
theorem xM_pl (zs : List Int) : ∀ m ∈ xM zs, plainG m := by
  intro m hm
  unfold xM at hm
  rw [xLs_eq] at hm
  obtain ⟨x, hx, rfl⟩ := List.mem_map.1 hm
  obtain ⟨z, _, rfl⟩ := List.mem_map.1 hx
  exact ⟨rfl, rfl, rfl, rfl⟩
theorem wtickP {zs : List Int} {w : World} {I : Nat → Prop} {p : Nat} (h : Prp w I p (w1S zs)) : Calls Try.prog 25 #[.pointer (some ⟨p, 0, none⟩)] w (PrOut w I p (w1S zs) (xLs zs)) := by
  have h1 := tick_P h
  rw [wtick] at h1
  exact h1
/-- The bucket's message. -/
def bMsg (g0 : Int) (b : Bv) : Mg := ⟨17, ⟨false, g0⟩, ⟨true, 2⟩, 3, 6, oK, spZ, spZ, slZ, cZ, b, slZ, false⟩
def w2S (zs : List Int) (b : Bv) (es : List En) (ls : List La) : PS := { w1S zs with ph := .tri b.up (es.map dE) (ls.map dL) }
theorem wtake {zs : List Int} {g0 : Int} (hg : g0 ∈ zs) (b : Bv) (es : List En) (ls : List La) (gb ge gl gc : Nat) : taksS (w1S zs) (uM (lentM (bMsg g0 b) gb ge gl gc)) (es.map dE) (ls.map dL) = (w2S zs b es ls, []) := by
  have ha : ansB (w1S zs).v0 (w1S zs).zs (uM (lentM (bMsg g0 b) gb ge gl gc)) = true := by
    have h1 : hasB (uq zs) g0 = true := by simpa [hasB] using mem_uq hg
    show (Ytpabpeppgpeaoaa.eqA true 2 true 2 && ((3 : Int) == 3 && ((6 : Int) == 6 && (Ytpabpeppgpeaoaa.eqK (jK oK) (jK oK) && (!false && hasB (uq zs) g0))))) = true
    rw [h1]
    rfl
  have h : taksS (w1S zs) (uM (lentM (bMsg g0 b) gb ge gl gc)) (es.map dE) (ls.map dL) = (if ansB (w1S zs).v0 (w1S zs).zs (uM (lentM (bMsg g0 b) gb ge gl gc)) then (w2S zs b es ls, []) else (w1S zs, [])) := rfl
  rw [h, if_pos ha]
/-- Marks of the law's two lists. -/
def D2 : Gx.Kn Mg where
  E := 47
  R := 66
  c := 30
  cs := Mg.cs
  mm := fun i j => if i = 0 then ⟨0, adZ, adZ, (-((j : Nat) : Int)), 0, kyZ, spZ, spZ, slZ, cZ, bvZ, slZ, false⟩ else ⟨0, adZ, adZ, ((900 + j : Nat) : Int), 0, kyZ, spZ, spZ, slZ, cZ, bvZ, slZ, false⟩
  mr := fun i _ => if i = 0 then ⟨0, adZ, adZ, (-500), 0, kyZ, spZ, spZ, slZ, cZ, bvZ, slZ, false⟩ else ⟨0, adZ, adZ, 7000, 0, kyZ, spZ, spZ, slZ, cZ, bvZ, slZ, false⟩
  hc := fun _ => rfl
  h0 := by decide
  ne := by decide
section
variable {w W W' : World} {I I' S : Nat → Prop} {p : Nat} {s s' : PS} {l : List (Nat × TypeId × Array Value)} {T T' : List (Sl × List Mg)}
theorem Og.erow2 {T1 T2 : List (Sl × List Mg)} (h : Og w W I p s l (T1 ++ T2)) (hn : ∀ x ∈ T1, x.1.l ≤ 2000000) : Erow D2 W w.heap.size (T1.map Prod.fst) (fun i => (T1[i]?.map Prod.snd).getD []) :=
  have h1 := h.erow hn
  ⟨fun i e he => h1.ok i e he, h1.dis⟩
theorem Og.step {la : Option Addr} {lc n : Nat} {ms : List Ms} {L : List Mg} (h : Og w W I p s l T) (hn : ms.length = n) (hL : ms.map dM = L) (hO : Own 47 30 W' W.heap.size la lc ms.length (msL ms)) (hP : Prp W' I' p s') (hI : ∀ k, I' k → (I k ∨ W.heap.size ≤ k) ∧ k < W'.heap.size ∧ NotM W' k) (hk : Kept I W W') : Og w W' I' p s' l (T ++ [(⟨la, n, lc⟩, L)]) := by
  subst hn hL
  have hsz := h.fr.kept.size
  have h1 : Og w W' I' p s' l T := by
    refine ⟨hP, ⟨h.fr.kept.trans hk (fun _ e => e) (fun k hk' e => ?_), fun i g t cs hi => (h.fr.box i g t cs hi).kept hk (h.li i g t cs hi), h.fr.low, h.fr.inj⟩, fun k e => ⟨?_, (hI k e).2⟩, fun i g t cs hi e => ?_, fun i x hx => (h.tl i x hx).kept hk (fun k hx' e => ?_), h.tt, h.tb⟩
    · have := (h.ia k e).1; omega
    · rcases (hI k e).1 with e1 | e1
      · exact (h.ia k e1).1
      · omega
    · rcases (hI g e).1 with e1 | e1
      · exact h.li i g t cs hi e1
      · have := (h.fr.box i g t cs hi).lt; omega
    · obtain ⟨cs, hb⟩ := Own.ty (h.tl i x hx).own hx'
      exact (h.ia k e).2.2 cs hb
  refine h1.add ⟨by rw [dM_L]; exact Own.lower hO hsz, by simp⟩ (fun k e i x hx e2 => ?_) (fun j g ty cs hj e2 => ?_)
  · have := Own.base hO e; have := Own.lt (h.tl i x hx).own e2; omega
  · have := Own.base hO e2; have := (h.fr.box j g ty cs hj).lt; omega
/-- Blocks that are none of its own are written. -/
theorem Og.keep (h : Og w W I p s l T) (hk : Kept S W W') (h1 : ∀ k, S k → w.heap.size ≤ k ∧ ¬ I k ∧ ∀ cs, ¬ Box W k 47 cs) (h2 : ∀ (i : Nat) g t cs, l[i]? = some (g, t, cs) → ¬ S g) : Og w W' I p s l T := by
  refine ⟨h.prp.kept hk (fun k e _ _ => ⟨fun f => (h1 k f).2.1 e, e⟩), ⟨h.fr.kept.trans hk (fun _ e => e) (fun k hk' e => by have := (h1 k e).1; omega), fun i g t cs hi => (h.fr.box i g t cs hi).kept hk (h2 i g t cs hi), h.fr.low, h.fr.inj⟩, fun k e => ⟨(h.ia k e).1, by have := (h.ia k e).2.1; have := hk.size; omega, notM_kept (h.ia k e).2.2 hk (h.ia k e).2.1 (fun f => (h1 k f).2.1 e)⟩, h.li, fun i x hx => (h.tl i x hx).kept hk (fun k hx' f => ?_), h.tt, h.tb⟩
  obtain ⟨cs, hb⟩ := Own.ty (h.tl i x hx).own hx'
  exact (h1 k f).2.2 cs hb
end

end Go.Proofs.Ytpabpeppgpeaoaa.Md
