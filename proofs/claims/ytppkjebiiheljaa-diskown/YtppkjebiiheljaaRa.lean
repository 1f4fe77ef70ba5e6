import Derived.Test.YtppkjebiiheljaaSp
namespace Go.Proofs.Ytppkjebiiheljaa
open Go.RowKit
set_option linter.unusedVariables false
set_option linter.unusedSimpArgs false

/-- The reference's disk: r its block, gs the row of its sectors; F: where these may lie. -/
structure Rdk (w : World) (r gs : Nat) (F : Nat → Prop) (x : DS) (arm : Bool) (lf tn : Int) (vs : List Value) : Prop where
  box : Box w r 40 #[.slice (some ⟨gs, 0, none⟩) x.N x.N, .bool arm, .bool x.fl, .int .i64 lf, .int .i64 tn, .int .i64 x.rd, .int .i64 x.wr]
  row : Box w gs 22 vs.toArray
  len : vs.length = x.N
  sec : ∀ n, n < x.N → (vs[n]? = some (.slice none 0 0) ∧ x.c n = zs) ∨ ∃ g, vs[n]? = some (.slice (some ⟨g, 0, none⟩) 512 512) ∧ Box w g 5 (u8s (x.c n)) ∧ F g
  pw : x.fl = false → (x.pw = none ∧ arm = false) ∨ (x.pw = some (lf, tn) ∧ arm = true)
def RD (w : World) (r gs : Nat) (F : Nat → Prop) (x : DS) : Prop := ∃ arm lf tn vs, Rdk w r gs F x arm lf tn vs
def RG (r gs : Nat) : Nat → Prop := fun k => k = r ∨ k = gs

theorem Box.diff {w : World} {g h : Nat} {t u : TypeId} {cs ds : Array Value} (hg : Box w g t cs) (hh : Box w h u ds) (ht : t ≠ u) : g ≠ h := by
  intro e
  unfold Box at hg hh
  rw [e, hh] at hg
  cases hg
  exact ht rfl
theorem Rdk.kept {S : Nat → Prop} {w w' : World} {r gs : Nat} {F : Nat → Prop} {x : DS} {arm : Bool} {lf tn : Int} {vs : List Value} (h : Rdk w r gs F x arm lf tn vs) (hk : Kept S w w') (h1 : ¬ S r) (h2 : ¬ S gs) (h3 : ∀ g, g < w.heap.size → F g → ¬ S g) : Rdk w' r gs F x arm lf tn vs :=
  ⟨h.box.kept hk h1, h.row.kept hk h2, h.len, fun n hn => (h.sec n hn).imp id (fun ⟨g, e, hb, hf⟩ => ⟨g, e, hb.kept hk (h3 g hb.lt hf), hf⟩), h.pw⟩
theorem RD.kept {S : Nat → Prop} {w w' : World} {r gs : Nat} {F : Nat → Prop} {x : DS} (h : RD w r gs F x) (hk : Kept S w w') (h1 : ¬ S r) (h2 : ¬ S gs) (h3 : ∀ g, g < w.heap.size → F g → ¬ S g) : RD w' r gs F x := by
  obtain ⟨arm, lf, tn, vs, h⟩ := h
  exact ⟨arm, lf, tn, vs, h.kept hk h1 h2 h3⟩
theorem RD.no {w w' : World} {r gs : Nat} {F : Nat → Prop} {x : DS} (h : RD w r gs F x) (hk : Kept No w w') : RD w' r gs F x := h.kept hk (fun e => e) (fun e => e) (fun _ _ _ e => e)
theorem RD.mono {w : World} {r gs : Nat} {F G : Nat → Prop} {x : DS} (h : RD w r gs F x) (hF : ∀ g, g < w.heap.size → F g → G g) : RD w r gs G x := by
  obtain ⟨arm, lf, tn, vs, h⟩ := h
  exact ⟨arm, lf, tn, vs, h.box, h.row, h.len, fun n hn => (h.sec n hn).imp id (fun ⟨g, e, hb, hf⟩ => ⟨g, e, hb, hF g hb.lt hf⟩), h.pw⟩
theorem RD.ltr {w : World} {r gs : Nat} {F : Nat → Prop} {x : DS} (h : RD w r gs F x) : r < w.heap.size ∧ gs < w.heap.size := by
  obtain ⟨arm, lf, tn, vs, h⟩ := h
  exact ⟨h.box.lt, h.row.lt⟩

theorem Try.info22 : (Try.prog.info? 22).map (fun i => (i.zero, i.size, i.bytes)) = some (some (.slice none 0 0), 1, 24) := by kernel_rfl
theorem Try.und36 : Try.prog.underlying 36 = some (.slice 22) := by kernel_rfl
theorem made_nil (n : Nat) : (madeCells (Value.slice none 0 0).cells (n * 1)).toList = List.replicate n (Value.slice none 0 0) := by
  apply List.ext_getElem
  · simp [size_madeCells]
  · intro i h1 h2
    simp [madeCells, Value.cells, Nat.mod_one]
theorem made_boxV {w : World} {base g n : Nat} {t : TypeId} {vs : List Value} (h : w.ownsRow base t 1 (.slice (some ⟨g, 0, none⟩) n n) n vs) : Box w g t vs.toArray := by
  rcases h.2 with ⟨h', _⟩ | ⟨g', cap', cur, h', hb, hg, _, _, hcs, htake⟩
  · simp at h'
  · simp only [Value.slice.injEq, Option.some.injEq, Addr.mk.injEq, and_true, true_and] at h'
    obtain ⟨rfl, rfl⟩ := h'
    rw [List.take_of_length_le (by simp [hcs])] at htake
    unfold Box
    rw [hg, ← htake]

/-- A new disk of the reference's. -/
def NewR (w : World) (x : DS) (e : Ending) (w' : World) : Prop := ∃ r gs, e = .returned (.tuple #[.pointer (some ⟨r, 0, none⟩), .int .i64 0]) ∧ w.heap.size ≤ r ∧ w.heap.size ≤ gs ∧ RD w' r gs (fun g => w.heap.size ≤ g) x ∧ Kept No w w'

set_option maxRecDepth 100000 in
theorem refNewYes_any (N : Nat) (w : World) (h1 : 1 ≤ N) (h2 : N ≤ 65536) :
    Calls Try.prog 11 #[.int .i64 N] w (NewR w (newD N)) := by
  have e1 : ¬ ((N : Int) < 1) := by omega
  have e2 : ¬ ((N : Int) > 65536) := by omega
  have HN : Hid (1 ≤ N ∧ N ≤ 65536) := ⟨h1, h2⟩
  obtain ⟨i0, hi, hz0, hz1, hz2⟩ := info_parts Try.info22
  clear h1 h2
  go_enter Try.func11, Try.ntmps11
  go_wp2_with (at_make
               refine wpList_make_full _ rfl (.tmp 10) (.tmp 10) 36 rfl w.heap.size 22 i0 (.slice none 0 0) 1 Try.und36 hi hz0 hz1 .i64 .i64 _ _ N rfl rfl ?hl ?hc (by have := HN.out; rw [hz2]; omega) (by have := HN.out; unfold maxLen; omega) (Nat.le_refl _) ?_
               case hl => first | rfl | omega
               case hc => first | rfl | omega
               intro w1 hown hgrow
               rw [made_nil] at hown
               have HG1 : Hid (Box w1 w.heap.size 22 (List.replicate N (Value.slice none 0 0)).toArray) := made_boxV hown
               have HK1 : Hid (Kept No w w1) := kept_grown hgrow
               have hs1 : Hid (w.heap.size < w1.heap.size) := HG1.out.lt
               clear hown hgrow)
  all_goals go_ret2
  refine ⟨w1.heap.size, w.heap.size, rfl, Nat.le_of_lt hs1.out, Nat.le_refl _, ⟨false, 0, 0, List.replicate N (Value.slice none 0 0), ?_, HG1.out.alloc _, by simp [newD], ?_, fun _ => .inl ⟨rfl, rfl⟩⟩, HK1.out.alloc _⟩
  · exact Box.new w1 40 _
  · intro n hn
    have hn' : n < N := hn
    exact .inl ⟨by rw [List.getElem?_replicate, if_pos hn'], rfl⟩

theorem refNewNo_any (n : Int) (w : World) (h : n < 1 ∨ 65536 < n) :
    Calls Try.prog 11 #[.int .i64 n] w fun e w' => e = .returned (.tuple #[.pointer none, .int .i64 30]) ∧ w' = w := by
  rcases h with h | h
  · go_enter Try.func11, Try.ntmps11
    go_wp2
    all_goals go_ret2
    all_goals exact ⟨rfl, rfl⟩
  · have h' : ¬ (n < 1) := by omega
    go_enter Try.func11, Try.ntmps11
    go_wp2
    all_goals go_ret2
    all_goals exact ⟨rfl, rfl⟩

/-- How far a copy is. -/
def half (s : List Int) (k : Nat) : List Int := s.take k ++ List.replicate (s.length - k) 0
theorem half_0 (s : List Int) : half s 0 = List.replicate s.length 0 := by simp [half]
theorem half_all (s : List Int) : half s s.length = s := by simp [half]
theorem half_at {s : List Int} {k : Nat} (hk : k < s.length) : (u8s (half s k))[k]? = some (.int .u8 0) := by
  unfold u8s half
  rw [List.getElem?_toArray, List.getElem?_map, List.getElem?_append_right (by rw [List.length_take]; omega), List.getElem?_replicate, List.length_take, Nat.min_eq_left (by omega), if_pos (by omega)]
  rfl
theorem half_set {s : List Int} {k : Nat} (hk : k < s.length) : (u8s (half s k)).setIfInBounds k (.int .u8 (s[k]?.getD 0)) = u8s (half s (k + 1)) := by
  unfold u8s half
  apply Array.ext_getElem?
  intro i
  rw [Array.getElem?_setIfInBounds]
  simp only [List.getElem?_toArray, List.size_toArray, List.getElem?_map, List.length_map, List.length_append, List.length_take, List.length_replicate]
  by_cases e : k = i
  · subst e
    rw [if_pos rfl, if_pos (by omega)]
    rw [List.getElem?_append_left (by rw [List.length_take]; omega), List.getElem?_take, if_pos (by omega), List.getElem?_eq_getElem hk]
    rfl
  · rw [if_neg e]
    congr 1
    by_cases h1 : i < k
    · rw [List.getElem?_append_left (by rw [List.length_take]; omega), List.getElem?_append_left (by rw [List.length_take]; omega), List.getElem?_take, List.getElem?_take, if_pos h1, if_pos (by omega)]
    · rw [List.getElem?_append_right (by rw [List.length_take]; omega), List.getElem?_append_right (by rw [List.length_take]; omega), List.getElem?_replicate, List.getElem?_replicate, List.length_take, List.length_take]
      by_cases h2 : i < s.length
      · rw [if_pos (by omega), if_pos (by omega)]
      · rw [if_neg (by omega), if_neg (by omega)]

set_option maxRecDepth 100000 in
set_option maxHeartbeats 1000000 in
theorem twin_any (a : Option Addr) (m cap : Nat) (s : List Int) (w : World) (hb : Nums .u8 w a s) (hl : s.length = m) (hm : m ≤ 140737488351232) :
    Calls Try.prog 33 #[.slice a m cap] w fun e w' => e = .returned (.slice (some ⟨w.heap.size, 0, none⟩) m m) ∧ Box w' w.heap.size 5 (u8s s) ∧ Kept No w w' := by
  have HB : Hid (Nums .u8 w a s ∧ s.length = m ∧ m ≤ 140737488351232) := ⟨hb, hl, hm⟩
  obtain ⟨i0, hi, hz0, hz1, hz2⟩ := info_parts Try.info5
  have hmi : (m : Int) ≤ 140737488351232 := by omega
  clear hb hl hm
  go_enter Try.func33, Try.ntmps33
  go_wp2_with (at_make
               refine wpList_make_full _ rfl (.tmp 6) (.tmp 6) 22 rfl w.heap.size 5 i0 (.int .u8 0) 1 Try.und22 hi hz0 hz1 .i64 .i64 _ _ m rfl rfl ?hl ?hc (by have := HB.out.2.2; rw [hz2]; omega) (by have := HB.out.2.2; unfold maxLen; omega) (Nat.le_refl _) ?_
               case hl => first | rfl | omega
               case hc => first | rfl | omega
               intro w1 hown hgrow
               rw [made_u8, ← HB.out.2.1, ← half_0] at hown
               have HG1 : Hid (Box w1 w.heap.size 5 (u8s (half s 0))) := made_box hown
               have HK1 : Hid (Kept No w w1) := kept_grown hgrow
               clear hown hgrow)
  go_loopw [4] (fun i wr => ∃ k : Nat, i = .int .i64 k ∧ Hid (k ≤ m ∧ Box wr w.heap.size 5 (u8s (half s k)) ∧ Kept No w wr)) (fun i _ => m - (intOf i).toNat)
  case atStart => exact ⟨0, rfl, Nat.zero_le _, HG1.out, HK1.out⟩
  case round =>
    obtain ⟨k, rfl, HR⟩ := hrel
    by_cases hk : (k : Int) < (m : Int)
    · have hk' : k < s.length := by have := HB.out.2.1; omega
      have c0 := HR.out.2.1.cell k
      rw [half_at hk'] at c0
      have f0 := HR.out.2.1.frozen k
      obtain ⟨b, off, ha, hc⟩ := (HB.out.1.no HR.out.2.2) k hk'
      subst ha
      have HS : Hid (Box (wr.setCell ⟨w.heap.size, k, none⟩ (.int .u8 (s[k]?.getD 0))) w.heap.size 5 (u8s (half s (k + 1)))) := by
        have := HR.out.2.1.set k (.int .u8 (s[k]?.getD 0))
        rw [half_set hk'] at this
        exact this
      clear hk'
      generalize s[k]?.getD 0 = z at hc HS
      go_wp2
      go_roundw
      case rel => exact ⟨k + 1, by go_num, (by omega : k + 1 ≤ m), HS.out, HR.out.2.2.setCell (fun e => absurd e (by simp)) _⟩
      case measure => simp [intOf]; omega
    · have hk' : k = s.length := by have := HR.out.1; have := HB.out.2.1; omega
      have HE : Hid (Box wr w.heap.size 5 (u8s s)) := by have := HR.out.2.1; rw [hk', half_all] at this; exact this
      go_wp2
      go_ret
      exact ⟨rfl, HE.out, HR.out.2.2⟩

end Go.Proofs.Ytppkjebiiheljaa
