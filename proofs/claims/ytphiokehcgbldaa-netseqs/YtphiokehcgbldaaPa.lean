import Derived.Test.YtphiokehcgbldaaOb
namespace Go.Proofs.Ytphiokehcgbldaa
open Go.RowKit Go.Shelf
set_option linter.unusedVariables false
set_option linter.unusedSimpArgs false

/-- Blocks that are new since w0 and not the walker's own. -/
def OfX (w0 : World) (X : Nat → Prop) : Nat → Prop := fun k => w0.heap.size ≤ k ∧ ¬ X k
/-- A net beside what a walker holds (X). -/
structure Nbs (w0 w : World) (n : Nat) (s : Ns) (X : Nat → Prop) : Prop where
  net : ∃ I, NetM w n s I ∧ ∀ k, I k → OfX w0 X k
  kept : Kept No w0 w
  len : ∀ q ∈ s.L, q.zs.length ≤ 140737488351232
  lt : ∀ k, X k → k < w.heap.size
section
variable {w0 w w' : World} {n : Nat} {s s' : Ns} {X X' : Nat → Prop}
theorem Nbs.ok (h : Nbs w0 w n s X) : NOk s := by obtain ⟨I, hN, _⟩ := h.net; exact hN.ok
theorem Nbs.no (h : Nbs w0 w n s X) (hk : Kept No w w') : Nbs w0 w' n s X := by
  obtain ⟨I, hN, hI⟩ := h.net
  exact ⟨⟨I, hN.no hk, hI⟩, h.kept.then hk, h.len, fun k e => Nat.lt_of_lt_of_le (h.lt k e) hk.size⟩
theorem Nbs.use (h : Nbs w0 w n s X) : ∃ I, NetM w n s I ∧ ∀ k, I k → OfX w0 X k ∧ k < w.heap.size := by
  obtain ⟨I, hN, hI⟩ := h.net
  exact ⟨_, hN.cut, fun k e => ⟨hI k e.1, e.2⟩⟩
/-- The walker writes what is its own; its own may grow by what is new. -/
theorem Nbs.own {S : Nat → Prop} (h : Nbs w0 w n s X) (hk : Kept S w w') (hS : ∀ k, S k → X k) (hS0 : ∀ k, S k → w0.heap.size ≤ k) (hX : ∀ k, X' k → X k ∨ w.heap.size ≤ k) (hlt : ∀ k, X' k → k < w'.heap.size) : Nbs w0 w' n s X' := by
  obtain ⟨I, hN, hI⟩ := h.use
  refine ⟨⟨I, hN.kept hk (fun k e _ => ⟨fun f => (hI k e).1.2 (hS k f), e⟩), fun k e => ⟨(hI k e).1.1, fun f => ?_⟩⟩, h.kept.trans hk (fun _ e => e) (fun i hi e => by have := hS0 i e; omega), h.len, hlt⟩
  rcases hX k f with g | g
  · exact (hI k e).1.2 g
  · have := (hI k e).2; omega
theorem Nbs.step (h : Nbs w0 w n s X) {I I' : Nat → Prop} (hI : ∀ k, I k → OfX w0 X k) (hk : Kept I w w') (hN : NetM w' n s' I') (hI' : ∀ k, I' k → I k ∨ w.heap.size ≤ k) (hX : ∀ k, X' k → X k ∨ (w.heap.size ≤ k ∧ k < w'.heap.size ∧ ¬ I' k)) (hl : ∀ q ∈ s'.L, q.zs.length ≤ 140737488351232) : Nbs w0 w' n s' X' ∧ Kept (OfX w0 X) w w' := by
  refine ⟨⟨⟨I', hN, fun k e => ⟨?_, fun f => ?_⟩⟩, h.kept.trans hk (fun _ e => e) (fun i hi e => by have := (hI i e).1; omega), hl, fun k e => ?_⟩, hk.mono (fun i _ e => hI i e)⟩
  · rcases hI' k e with e | e
    · exact (hI k e).1
    · exact Nat.le_trans h.kept.size e
  · rcases hX k f with g | g
    · rcases hI' k e with e | e
      · exact (hI k e).2 g
      · have := h.lt k g; omega
    · exact g.2.2 e
  · rcases hX k e with g | g
    · exact Nat.lt_of_lt_of_le (h.lt k g) hk.size
    · exact g.2.1
theorem nb_send (h : Nbs w0 w n s X) (fc tc : Bool) (fi ti x : Int) (da : Option Addr) (l dc : Nat) (zs : List Int) (hz : zs.length = l) (hl : l ≤ 140737488351232) (hb : Bytes w da zs) (hda : 0 < zs.length → ∀ k, At da k → (k < w0.heap.size ∨ X k) ∧ k < w.heap.size) (hfew : s.came < 1000000000000) (sf : Nat) (hsf : s.sent (fc, fi) = sf) (hfs : sf < 1000000000000) (hcn : cnP s.L ((fc, fi), (tc, ti)) < 64) :
    Calls Try.prog 13 #[.pointer (some ⟨n, 0, none⟩), .agg #[.bool fc, .int .i64 fi, .int .i64 x, .bool tc, .int .i64 ti, .slice da l dc]] w (fun e w' => e = .returned (.tuple #[.int .i64 ((sf + 1 : Nat) : Int), .bool true]) ∧ Kept (OfX w0 X) w w' ∧ ∃ ra rc, Nbs w0 w' n ⟨(sentS s (fc, fi)).sent, s.L ++ [⟨((fc, fi), ((sf + 1 : Nat) : Int)), (tc, ti), ra, rc, zs, s.came + 1⟩], s.came + 1⟩ X) := by
  obtain ⟨I, hN, hI⟩ := h.use
  refine (send_r fc tc fi ti x da l dc zs w hN hz (by omega) hb (fun h0 k hk => ?_) hfew sf _ true hsf rfl (by simpa using hcn) hfs).mono ?_
  · have := hda h0 k hk
    refine ⟨fun f => ?_, this.2⟩
    rcases this.1 with g | g
    · have := (hI k f).1.1; omega
    · exact (hI k f).1.2 g
  · rintro e w' ⟨ra, rc, rfl, hk, hN'⟩
    rw [addS, if_neg (by show ¬ 64 ≤ cnP s.L ((fc, fi), (tc, ti)); omega)] at hN'
    have hs := h.step (X' := X) (fun k e => (hI k e).1) (W5.kept hk) hN' (fun k e => e) (fun k e => .inl e) (fun q hq => by
      rcases List.mem_append.1 hq with hq | hq
      · exact h.len q hq
      · rw [List.mem_singleton.1 hq]; show zs.length ≤ _; omega)
    exact ⟨rfl, hs.2, ra, rc, hs.1⟩
theorem nb_double (h : Nbs w0 w n s X) (fc : Bool) (fi c : Int) (hfew : s.came < 1000000000000) {q : Pq} (hf : s.L.find? (isN ((fc, fi), c)) = some q) (hcn : cnP s.L (q.nm.1, q.to') < 64) :
    Calls Try.prog 18 #[.pointer (some ⟨n, 0, none⟩), .agg #[.bool fc, .int .i64 fi], .int .i64 c] w (fun e w' => e = .returned (.int .i64 0) ∧ Kept (OfX w0 X) w w' ∧ Nbs w0 w' n ⟨s.sent, s.L ++ [{ q with pl := s.came + 1 }], s.came + 1⟩ X) := by
  obtain ⟨I, hN, hI⟩ := h.use
  refine (double_yes fc fi c w hN hfew hf).mono ?_
  rintro e w' ⟨rfl, hk, hN'⟩
  rw [addS, if_neg (by show ¬ 64 ≤ cnP s.L (q.nm.1, q.to'); omega)] at hN'
  have hs := h.step (X' := X) (fun k e => (hI k e).1) (W5.kept hk) hN' (fun k e => e) (fun k e => .inl e) (fun p hp => by
    rcases List.mem_append.1 hp with hp | hp
    · exact h.len p hp
    · rw [List.mem_singleton.1 hp]; exact h.len q (find_mem hf).1)
  exact ⟨rfl, hs.2, hs.1⟩
theorem nb_deliver (h : Nbs w0 w n s X) (fc : Bool) (fi c : Int) {q : Pq} (hf : s.L.find? (isN ((fc, fi), c)) = some q) :
    Calls Try.prog 15 #[.pointer (some ⟨n, 0, none⟩), .agg #[.bool fc, .int .i64 fi], .int .i64 c] w (fun e w' => ∃ ra rc, e = .returned (.tuple #[.agg #[.bool fc, .int .i64 fi, .int .i64 c, .bool q.to'.1, .int .i64 q.to'.2, .slice ra q.zs.length rc], .int .i64 0]) ∧ OwnB w' w.heap.size ra rc q.zs ∧ Kept (OfX w0 X) w w' ∧ Nbs w0 w' n ⟨s.sent, rmN ((fc, fi), c) s.L, s.came⟩ (fun k => X k ∨ At ra k)) := by
  obtain ⟨I, hN, hI⟩ := h.use
  refine (deliver_yes fc fi c w hN (fun q hq => by have := h.len q hq; omega) hf).mono ?_
  rintro e w' ⟨ra, rc, rfl, hO, hk, hN'⟩
  have hs := h.step (X' := fun k => X k ∨ At ra k) (fun k e => (hI k e).1) (W5.kept hk) hN' (fun k e => e.1) (fun k e => by
    rcases e with e | e
    · exact .inl e
    · exact .inr ⟨Own.base hO e, Own.ltA hO e, fun f => f.2 e⟩) (rm_mem h.len)
  exact ⟨ra, rc, rfl, hO, hs.2, hs.1⟩
theorem Nbs.sml (h : Nbs w0 w n s X) (hfew : s.came < 1000000000000) : Sml s := ⟨hfew, fun q hq => by have := h.len q hq; omega⟩
theorem nb_listed (h : Nbs w0 w n s X) (hfew : s.came < 1000000000000) : Calls Try.prog 26 #[.pointer (some ⟨n, 0, none⟩)] w (LsOut w s) := by
  obtain ⟨I, hN, hI⟩ := h.net
  exact listed_any w hN (h.sml hfew)
theorem nb_many (h : Nbs w0 w n s X) (hfew : s.came < 1000000000000) (r : Nat) (hr : s.L.length = r) : Calls Try.prog 17 #[.pointer (some ⟨n, 0, none⟩)] w (fun e w' => e = .returned (.int .i64 (r : Nat)) ∧ Kept No w w') := by
  obtain ⟨I, hN, hI⟩ := h.net
  exact many_r w hN (h.sml hfew) r hr
end
end Go.Proofs.Ytphiokehcgbldaa
