import Derived.Test.YtphiokehcgbldaaNo
import Derived.Shelf.SlSortCmp.NoneTotal
namespace Go.Proofs.Ytphiokehcgbldaa
open Go.RowKit Go.Shelf
set_option linter.unusedVariables false
set_option linter.unusedSimpArgs false

theorem kept_put {S : Nat → Prop} {a w : World} {l : Nat} {o : Obj} (h : Kept S a w) (hl : S l ∨ a.heap.size ≤ l) : Kept S a (w.putObj l o) :=
  h.grown (grownBy_putObj' w l o) (fun k e hk => by
    cases e
    rcases hl with hl | hl
    · exact hl
    · omega)
/-- What a loop's two blocks of book-keeping are left out of. -/
def Bk2 (B : Nat) : Nat → Prop := fun k => k = B ∨ k = B + 1
def Zq (B lb : Nat) (a : Option Addr) (ps : List Pq) : Nat → Prop := fun k => ¬ (SqB lb a ps k ∨ Bk2 B k)
/-- How a round may be left. -/
def PostN (B lb : Nat) (a : Option Addr) (ps : List Pq) (I : List Tp → World → Prop) (Ix : Code → List Tp → World → Prop) (xs : List Tp) (W : World) : Exit → Act → World → Prop
  | .normal, _, W' => Kept (Zq B lb a ps) W W' ∧ I xs W'
  | .ret, _, W' => Kept (fun k => ¬ Bk2 B k) W W' ∧ Ix .ret xs W'
  | .exit id, _, W' => Kept (fun k => ¬ Bk2 B k) W W' ∧ Ix (.exit id) xs W'
  | .goto _, _, _ => False
  | .panic _, _, _ => False
  | .outgrown, _, _ => False
theorem rf_net {g : Operand} {p : Tmp} {assign body : Code} {Q : Exit → Act → World → Prop} {a : Act} {w : World} {n : Nat} (h1 : 2 ≤ n) {lb cap : Nat} {ra : Option Addr} {L ps : List Pq} {P : Nm → Nat × Nat × Nat}
    (hg : a.eval g = .func (.func 39) #[] #[.pointer (some ⟨lb, 0, none⟩)]) (hS : SeqN w lb ra cap L P ps) (hm : ps.length ≤ 10000000000000) (hz : ∀ q ∈ ps, q.zs.length ≤ 140737488355328)
    (I : List Tp → World → Prop) (Ix : Code → List Tp → World → Prop) (h0 : I [] w) (hI : ∀ xs W W', I xs W → Kept (Bk2 w.heap.size) W W' → I xs W') (hIx : ∀ c xs W W', Ix c xs W → Kept (Bk2 w.heap.size) W W' → Ix c xs W')
    (hround : ∀ pre (x : Tp) W0 W1, I pre W0 → Kept No W0 W1 → OwnB W1 W0.heap.size x.a x.c x.q.zs → ps[pre.length]? = some x.q → w.heap.size + 1 < W0.heap.size → SeqN W1 lb ra cap L P ps → (∃ r, W1.heap[w.heap.size + 1]? = some (.loop r)) →
      assign.wpIn (Fence.wide.inRound (w.heap.size + 1)) (n - 1 - 1) Try.prog (Exit.then (fun a' Wa => Kept (Zq w.heap.size lb ra ps) W1 Wa ∧ ∀ Wb, Kept (Only (w.heap.size + 1)) Wa Wb → (∃ r, Wb.heap[w.heap.size + 1]? = some (.loop r)) → body.wpIn (Fence.wide.inRound (w.heap.size + 1)) (n - 1 - 1) Try.prog (PostN w.heap.size lb ra ps I Ix (pre ++ [x]) Wb) a' Wb) (fun _ _ _ => False)) { tmps := (#[p].zip #[tdV x]).foldl (fun t (p, v) => t.setIfInBounds p v) a.tmps, defers := [] } W1)
    (hdone : ∀ (xs : List Tp) (W : World), xs.map (·.q) = ps → I xs W → W.heap[w.heap.size]? = some (.deferred (some [])) → Q .normal { a with defers := { target := .collected w.heap.size, args := #[] } :: a.defers } W)
    (hstop : ∀ (c : Code) (pre : List Tp) (W : World), Ix c pre W → W.heap[w.heap.size]? = some (.deferred (some [])) → c.wpIn Fence.wide n Try.prog Q { a with defers := { target := .collected w.heap.size, args := #[] } :: a.defers } W) :
    (Code.rangeFunc g #[p] assign body).wpIn Fence.wide n Try.prog Q a w := by
  refine wpIn_rangeFunc (F := Fence.wide) ?_
  intro fn hfn
  have hlB : ∀ k, SqB lb ra ps k → k < w.heap.size := fun k hk => hS.lt hk
  obtain ⟨B, hB⟩ : ∃ B, B = w.heap.size := ⟨_, rfl⟩
  obtain ⟨R, hR⟩ : ∃ R : LoopState → Option Code → Loop, R = fun st pe => { state := st, pending := pe, fn, tmps := a.tmps, params := #[p], assign, body, defers := w.heap.size } := ⟨_, rfl⟩
  obtain ⟨W1, hW1⟩ : ∃ W1, W1 = (w.alloc (.deferred (some []))).alloc (.loop (R .ready none)) := ⟨_, rfl⟩
  have hk1 : Kept No w W1 := by rw [hW1]; exact ((Kept.refl No w).alloc _).alloc _
  have hs1 : W1.heap.size = B + 2 := by rw [hW1, hB]; simp
  have hL1 : W1.heap[B + 1]? = some (.loop (R .ready none)) := by
    rw [hW1, hB]
    have := World.alloc_heap_new (w.alloc (.deferred (some []))) (.loop (R .ready none))
    rwa [World.size_alloc] at this
  have hD1 : W1.heap[B]? = some (.deferred (some [])) := by
    rw [hW1, hB]
    exact (Below.heap_alloc _ _ _ (by simp)).trans (World.alloc_heap_new w _)
  rw [← hB] at hlB hI hIx hround hdone hstop
  refine ⟨B + 1, [{ target := .collected B, args := #[] }], W1, { target := .fn (.func 39) #[.pointer (some ⟨lb, 0, none⟩)], args := #[.func (.yield (B + 1)) #[] #[]] }, W1, 39, #[.func (.yield (B + 1)) #[] #[], .pointer (some ⟨lb, 0, none⟩)], W1, ?_, ?_, ?_, ?_, fun _ => by omega, ?_⟩
  · rw [hW1, hR, hB]; exact run_enterLoop_outer _ _ _ _ _
  · simp only [resolve, hg]
    simp [go_sem]
  · intro f' _; trivial
  · simp [invoke, go_sem, enters_of Try.func39 (by kernel_rfl) rfl]
  · refine (it_net (n - 1) (by omega) (B + 1) lb cap ra L ps P hm hz
      (fun pre W => I pre W ∧ W.heap[B + 1]? = some (.loop (R .ready none)) ∧ W.heap[B]? = some (.deferred (some [])) ∧ SeqN W lb ra cap L P ps)
      (fun pre W => ∃ c, Ix c pre W ∧ W.heap[B + 1]? = some (.loop (R .done (some c))) ∧ W.heap[B]? = some (.deferred (some [])))
      W1 ?_ (hS.no hk1) ⟨hI _ _ _ h0 hk1.of_no, hL1, hD1, hS.no hk1⟩).mono ?_
    · rintro pre x W0 V ⟨hi, hl, hd, hs⟩ hk hO hp
      have hlt0 : B + 1 < W0.heap.size := (Array.getElem?_eq_some_iff.1 hl).1
      have hl1 : V.heap[B + 1]? = some (.loop (R .ready none)) := (hk.block _ hlt0 (fun e => e)).trans hl
      have hd1 : V.heap[B]? = some (.deferred (some [])) := (hk.block _ (by omega) (fun e => e)).trans hd
      have hy := run_yield (P := Try.prog) (args := #[tdV x]) hl1 (by rw [hR]; rfl)
      rw [hR] at hy
      refine ⟨fn, _, assign, body, hy, roundIn_of_wpIn hfn (wpIn_mono (hround pre x W0 V hi hk hO hp hlt0 (hs.no hk) ⟨_, hl1⟩) ?_)⟩
      intro e a' Wa hq
      cases e with
      | normal =>
        obtain ⟨hka, hb⟩ : Kept (Zq B lb ra ps) V Wa ∧ _ := hq
        have hltV : B + 1 < V.heap.size := (Array.getElem?_eq_some_iff.1 hl1).1
        have hla : Wa.heap[B + 1]? = some (.loop (R .ready none)) := (hka.block _ hltV (fun e => e (.inr (.inr rfl)))).trans hl1
        have hda : Wa.heap[B]? = some (.deferred (some [])) := (hka.block _ (by omega) (fun e => e (.inr (.inl rfl)))).trans hd1
        have hltA : B + 1 < Wa.heap.size := (Array.getElem?_eq_some_iff.1 hla).1
        refine ⟨_, run_beginRound hla (by rw [hR]), ?_⟩
        obtain ⟨Wb, hWb⟩ : ∃ Wb, Wb = Wa.putObj (B + 1) (.loop { R .ready none with state := .busy }) := ⟨_, rfl⟩
        rw [← hWb]
        have hkb : Kept (Only (B + 1)) Wa Wb := by rw [hWb]; exact kept_put (Kept.refl _ Wa) (.inl rfl)
        have hlb : Wb.heap[B + 1]? = some (.loop { R .ready none with state := .busy }) := by rw [hWb]; exact World.putObj_heap_same hltA
        have hdb : Wb.heap[B]? = some (.deferred (some [])) := (hkb.block _ (by omega) (fun e => by have e : B = B + 1 := e; omega)).trans hda
        have hltB : B + 1 < Wb.heap.size := (Array.getElem?_eq_some_iff.1 hlb).1
        refine wpIn_mono (hb Wb hkb ⟨_, hlb⟩) ?_
        have fin : ∀ (jump : Option Code) (W3 : World), Kept (fun k => ¬ Bk2 B k) Wb W3 →
            (Instr.endRound (B + 1) jump).run Try.prog W3 = .ok (.bool jump.isNone) (W3.putObj (B + 1) (.loop (R (if jump.isNone then .ready else .done) jump))) ∧
            (W3.putObj (B + 1) (.loop (R (if jump.isNone then .ready else .done) jump))).heap[B + 1]? = some (.loop (R (if jump.isNone then .ready else .done) jump)) ∧
            (W3.putObj (B + 1) (.loop (R (if jump.isNone then .ready else .done) jump))).heap[B]? = some (.deferred (some [])) := fun jump W3 hk3 => by
          have hl3 := (hk3.block _ hltB (fun e => e (.inr rfl))).trans hlb
          have hd3 := (hk3.block _ (by omega) (fun e => e (.inl rfl))).trans hdb
          have := run_endRound (P := Try.prog) jump hl3
          rw [hR] at this ⊢
          exact ⟨this, World.putObj_heap_same (Array.getElem?_eq_some_iff.1 hl3).1, (World.putObj_heap_other (by omega)).trans hd3⟩
        intro e3 a3 W3 hp3
        cases e3 with
        | normal =>
          obtain ⟨hk3, hi3⟩ : Kept (Zq B lb ra ps) Wb W3 ∧ I (pre ++ [x]) W3 := hp3
          obtain ⟨hr, hl4, hd4⟩ := fin none W3 (hk3.mono (fun i _ e f => e (.inr f)))
          have hkk : Kept (fun k => ¬ SqB lb ra ps k) V (W3.putObj (B + 1) (.loop (R .ready none))) := by
            refine kept_put (((hka.mono (fun i _ e f => e (.inl f))).then (hkb.mono (fun i _ e f => ?_))).then (hk3.mono (fun i _ e f => e (.inl f)))) (.inl (fun f => ?_))
            · have e : i = B + 1 := e
              have := hlB i f
              omega
            · have := hlB _ f
              omega
          exact ⟨_, _, hr, .inl ⟨rfl, ⟨hI _ _ _ hi3 (kept_put (Kept.refl _ W3) (.inl (.inr rfl))), hl4, hd4, (hs.no hk).kept hkk (fun k e f => f e)⟩, hkk⟩⟩
        | ret =>
          obtain ⟨hk3, hi3⟩ : Kept (fun k => ¬ Bk2 B k) Wb W3 ∧ Ix .ret (pre ++ [x]) W3 := hp3
          obtain ⟨hr, hl4, hd4⟩ := fin (some .ret) W3 hk3
          exact ⟨_, _, hr, .inr ⟨rfl, .ret, hIx _ _ _ _ hi3 (kept_put (Kept.refl _ W3) (.inl (.inr rfl))), hl4, hd4⟩⟩
        | exit id =>
          obtain ⟨hk3, hi3⟩ : Kept (fun k => ¬ Bk2 B k) Wb W3 ∧ Ix (.exit id) (pre ++ [x]) W3 := hp3
          obtain ⟨hr, hl4, hd4⟩ := fin (some (.exit id)) W3 hk3
          exact ⟨_, _, hr, .inr ⟨rfl, .exit id, hIx _ _ _ _ hi3 (kept_put (Kept.refl _ W3) (.inl (.inr rfl))), hl4, hd4⟩⟩
        | goto t => exact hp3.elim
        | panic ch => exact hp3.elim
        | outgrown => exact hp3.elim
      | ret => exact hq.elim
      | exit id => exact hq.elim
      | goto t => exact hq.elim
      | panic ch => exact hq.elim
      | outgrown => exact hq.elim
    · rintro e W2 ⟨⟨v, rfl⟩, (⟨xs, hxs, hi, hl, hd, _⟩ | ⟨pre, c, hi, hl, hd⟩)⟩
      · refine ⟨none, _, by have := run_endLoop (P := Try.prog) hl (by rw [hR]; simp); rw [hR] at this; exact this, hdone xs _ hxs (hI _ _ _ hi (kept_put (Kept.refl _ W2) (.inl (.inr rfl)))) ((World.putObj_heap_other (by omega)).trans hd)⟩
      · refine ⟨some c, _, by have := run_endLoop (P := Try.prog) hl (by rw [hR]; simp); rw [hR] at this; exact this, hstop c pre _ (hIx _ _ _ _ hi (kept_put (Kept.refl _ W2) (.inl (.inr rfl)))) ((World.putObj_heap_other (by omega)).trans hd)⟩
end Go.Proofs.Ytphiokehcgbldaa
