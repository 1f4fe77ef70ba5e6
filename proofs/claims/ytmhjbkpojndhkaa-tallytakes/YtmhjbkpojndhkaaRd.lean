import Derived.Test.YtmhjbkpojndhkaaRc
namespace Go.Proofs.Ytmhjbkpojndhkaa
open Go.RowKit
set_option linter.unusedVariables false
set_option linter.unusedSimpArgs false

theorem run_makeV (W : World) (T E : TypeId) (z : Value) (size bytes : Nat) (ht : Try.prog.underlying T = some (.slice E)) (hinf : (Try.prog.info? E).map (fun i => (i.zero, i.size, i.bytes)) = some (some z, size, bytes)) (m : Nat) (hb : bytes * m ≤ 281474976710656) (hm : m ≤ 9223372036854775807) :
    (Instr.makeSlice T (.int .i64 (m : Int)) (.int .i64 (m : Int))).run Try.prog W = .ok (.slice (some ⟨W.heap.size, 0, none⟩) m m) (W.alloc (.cells (madeCells z.cells (m * size)) E)) := by
  obtain ⟨i0, hi, hz0, hz1, hz2⟩ := info_parts hinf
  have hbm : ((bytes : Nat) : Int) * (m : Int) ≤ 281474976710656 := by
    have : ((bytes * m : Nat) : Int) ≤ 281474976710656 := by omega
    rwa [Int.natCast_mul] at this
  have hr := run_make (P := Try.prog) W T E i0 z ht hi hz0 .i64 .i64 m m (by omega) (by omega) (by rw [hz2]; exact hbm) (by omega)
  rw [hz1] at hr
  simpa only [Int.toNat_natCast] using hr

theorem made_bools (n : Nat) : madeCells (Value.bool false).cells (n * 1) = (List.replicate n (Value.bool false)).toArray := by
  apply Array.ext
  · simp [size_madeCells]
  · intro i h1 h2
    simp [madeCells, Value.cells, Nat.mod_one]
theorem own_box {w : World} {g t n base : Nat} {vs : List Value} (h : Box w g t vs.toArray) (hl : vs.length = n) (hb : base ≤ g) (hn : n ≤ 9223372036854775807) : Own t 1 w base (some ⟨g, 0, none⟩) n n vs :=
  ⟨by omega, .inr ⟨g, n, vs.toArray, rfl, hb, h, Nat.le_refl _, by unfold maxLen; omega, by simp [hl], by rw [← hl]; simp⟩⟩
theorem vRow_new (zs : List Int) (need : Int) : vRow (tNew zs need) = (List.replicate (uq zs).length (0 : Int)).map (Value.int .i64) := by
  unfold vRow tNew
  simp only [Option.getD_none]
  rw [List.map_const', List.map_replicate]
theorem hRow_new (zs : List Int) (need : Int) : hRow (tNew zs need) = List.replicate (uq zs).length (Value.bool false) := by
  unfold hRow tNew
  simp only [Option.isSome_none]
  rw [List.map_const']

def RNew (w : World) (zs : List Int) (need : Int) (e : Ending) (w' : World) : Prop :=
  ∃ r ag cg av cv ah ch, e = .returned (.pointer (some ⟨r, 0, none⟩)) ∧ Rf w' r ag cg av cv ah ch (tNew zs need) ∧ (∀ k, RB r ag av ah k → w.heap.size ≤ k) ∧ Kept No w w'

theorem rnew_fin {w w1 w2 w3 : World} {zs : List Int} {need : Int} {ag : Option Addr} {cg vb hb : Nat} (hlen : (uq zs).length ≤ 17592186043904) (hK1 : Kept No w w1) (hO : Own 3 1 w1 w.heap.size ag cg (uq zs).length ((uq zs).map (Value.int .i64))) (hK2 : Kept No w1 w2)
    (hV : Box w2 vb 3 ((List.replicate (uq zs).length (0 : Int)).map (Value.int .i64)).toArray) (hH : Box w2 hb 4 (List.replicate (uq zs).length (Value.bool false)).toArray) (hv1 : w1.heap.size ≤ vb) (hh1 : w1.heap.size ≤ hb)
    (hw3 : w3 = w2.alloc (.cells #[.slice ag (uq zs).length cg, .slice (some ⟨vb, 0, none⟩) (uq zs).length (uq zs).length, .slice (some ⟨hb, 0, none⟩) (uq zs).length (uq zs).length, .int .i64 need] 67)) :
    RNew w zs need (.returned (.pointer (some ⟨w2.heap.size, 0, none⟩))) w3 := by
  have h1 := hK1.size
  have h2 := hK2.size
  have hK3 : Kept No w2 w3 := by rw [hw3]; exact (Kept.refl No w2).alloc _
  refine ⟨w2.heap.size, ag, cg, some ⟨vb, 0, none⟩, (uq zs).length, some ⟨hb, 0, none⟩, (uq zs).length, rfl, ⟨?_, ?_, ?_, ?_, ?_, uq_nodup zs, hlen⟩, ?_, (hK1.then hK2).then hK3⟩
  · rw [hw3]; exact Box.new _ _ _
  · exact Own.lower (hO.no (hK2.then hK3)) (Nat.zero_le _)
  · rw [vRow_new]; exact own_box (hV.kept hK3 (fun e => e)) (by simp [tNew]) (Nat.zero_le _) (by show (uq zs).length ≤ _; omega)
  · rw [hRow_new]; exact own_box (hH.kept hK3 (fun e => e)) (by simp [tNew]) (Nat.zero_le _) (by show (uq zs).length ≤ _; omega)
  · intro k hk ⟨ad, e, e2⟩
    cases e
    have e2 : vb = k := e2
    have := hO.ltAt hk
    omega
  · rintro k (rfl | hk | ⟨ad, e, rfl⟩ | ⟨ad, e, rfl⟩)
    · omega
    · exact hO.base hk
    · cases e; show _ ≤ vb; omega
    · cases e; show _ ≤ hb; omega

set_option maxHeartbeats 2000000 in
theorem rnew_any (a0 : Option Addr) (n0 cap0 : Nat) (zs : List Int) (need : Int) (w : World) (hz : zs.length = n0) (hn : n0 ≤ 17592186043904) (h0 : Nums .i64 w a0 zs) :
    Calls Try.prog 13 #[.slice a0 n0 cap0, .int .i64 need] w (RNew w zs need) := by
  have HUn : Hid (Calls Try.prog 31 #[.slice a0 n0 cap0] w (MissOut w (uq zs))) := unlike_any a0 n0 cap0 zs w hz hn h0
  have hl : (uq zs).length ≤ 17592186043904 := by have := uq_len zs; omega
  have HL : Hid ((uq zs).length ≤ 17592186043904) := hl
  obtain ⟨C1, hC1⟩ : ∃ C1, C1 = ((List.replicate (uq zs).length (0 : Int)).map (Value.int .i64)).toArray := ⟨_, rfl⟩
  obtain ⟨C2, hC2⟩ : ∃ C2, C2 = (List.replicate (uq zs).length (Value.bool false)).toArray := ⟨_, rfl⟩
  have hmk1 : ∀ W : World, (Instr.makeSlice 22 (.int .i64 ((uq zs).length : Int)) (.int .i64 ((uq zs).length : Int))).run Try.prog W = .ok (.slice (some ⟨W.heap.size, 0, none⟩) (uq zs).length (uq zs).length) (W.alloc (.cells C1 3)) := fun W => by
    rw [hC1, ← made_ints]; exact run_makeV W 22 3 (.int .i64 0) 1 8 Try.und22 Try.info3' _ (by omega) (by omega)
  have hmk2 : ∀ W : World, (Instr.makeSlice 65 (.int .i64 ((uq zs).length : Int)) (.int .i64 ((uq zs).length : Int))).run Try.prog W = .ok (.slice (some ⟨W.heap.size, 0, none⟩) (uq zs).length (uq zs).length) (W.alloc (.cells C2 4)) := fun W => by
    rw [hC2, ← made_bools]; exact run_makeV W 65 4 (.bool false) 1 1 Try.und65 Try.info4 _ (by omega) (by omega)
  have HC : Hid (C1 = ((List.replicate (uq zs).length (0 : Int)).map (Value.int .i64)).toArray ∧ C2 = (List.replicate (uq zs).length (Value.bool false)).toArray) := ⟨hC1, hC2⟩
  clear hz h0 hC1 hC2 hl
  go_enter Try.func13, Try.ntmps13
  go_upto_region 2 with (go_at_call 31
                         refine Calls.mono HUn.out ?_
                         rintro e w1 ⟨ag, cg, rfl, hO, hk1⟩
                         have HO : Hid (Own 3 1 w1 w.heap.size ag cg (uq zs).length ((uq zs).map (Value.int .i64))) := hO
                         have HK1 : Hid (Kept No w w1) := hk1
                         clear hO hk1)
  go_region_held3 (fun _ => True) (trivial) (fail)
  · go_wp2
    go_ret
    have hs : ((w1.alloc (.cells C1 3)).alloc (.cells C2 4)).drew.heap.size = w1.heap.size + 1 + 1 := by simp [World.drew]
    rw [← hs]
    refine rnew_fin (w2 := ((w1.alloc (.cells C1 3)).alloc (.cells C2 4)).drew) (vb := w1.heap.size) (hb := w1.heap.size + 1) HL.out HK1.out HO.out (((Kept.refl No w1).alloc _).alloc _).drew ?_ ?_ (Nat.le_refl _) (Nat.le_succ _) rfl
    · rw [← HC.out.1]; exact ((Box.new w1 3 C1).alloc _).kept ((Kept.refl No _).drew) (fun e => e)
    · rw [← HC.out.2]
      have h1 : (w1.alloc (.cells C1 3)).heap.size = w1.heap.size + 1 := by simp
      rw [← h1]
      exact (Box.new _ 4 C2).kept ((Kept.refl No _).drew) (fun e => e)
  · go_wp2
    go_ret
    have hs : ((w1.alloc (.cells C2 4)).alloc (.cells C1 3)).drew.heap.size = w1.heap.size + 1 + 1 := by simp [World.drew]
    rw [← hs]
    refine rnew_fin (w2 := ((w1.alloc (.cells C2 4)).alloc (.cells C1 3)).drew) (vb := w1.heap.size + 1) (hb := w1.heap.size) HL.out HK1.out HO.out (((Kept.refl No w1).alloc _).alloc _).drew ?_ ?_ (Nat.le_succ _) (Nat.le_refl _) rfl
    · rw [← HC.out.1]
      have h1 : (w1.alloc (.cells C2 4)).heap.size = w1.heap.size + 1 := by simp
      rw [← h1]
      exact (Box.new _ 3 C1).kept ((Kept.refl No _).drew) (fun e => e)
    · rw [← HC.out.2]; exact ((Box.new w1 4 C2).alloc _).kept ((Kept.refl No _).drew) (fun e => e)

end Go.Proofs.Ytmhjbkpojndhkaa
