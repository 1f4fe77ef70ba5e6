import Derived.Test.YtgnfeegnhdbnkaaI
import Derived.Lib.OthersKept
import Derived.WalkMore
namespace Go.Proofs.Ytgnfeegnhdbnkaa
open Go.RowKit Go.Lib
set_option linter.unusedVariables false
set_option linter.unusedSimpArgs false

theorem exec_range {o : Oper} {a : Act} {w : World} (x : Operand) (ho : o.op = .range 9 x) (s : ByteArray) (hx : a.eval x = .string s) : (execOp a.eval o).run Try.prog w = .ok (.value (.pointer (some ⟨w.heap.size, 0, none⟩))) (w.iter s 0) := by
  simp only [execOp, ho, hx, Sem.run_bind, run_range_string (P := Try.prog) w 9 s U9, Result.andThen_ok, Sem.run_pure]
theorem exec_next {o : Oper} {a : Act} {w w' : World} (x : Operand) (ho : o.op = .next x true) (k : Nat) (v : Value) (hx : a.eval x = .pointer (some ⟨k, 0, none⟩)) (hrun : (Instr.next (.pointer (some ⟨k, 0, none⟩)) true o.type).run Try.prog w = .ok v w') : (execOp a.eval o).run Try.prog w = .ok (.value v) w' := by
  simp only [execOp, ho, hx, Sem.run_bind, hrun, Result.andThen_ok, Sem.run_pure]
theorem size_alloc (w : World) (o : Obj) : (w.alloc o).heap.size = w.heap.size + 1 := by
  show (w.heap.push o).size = _
  simp
theorem size_setRow (w : World) (g : Nat) (cs : Array Value) : (w.setRow g cs).heap.size = w.heap.size := by
  unfold World.setRow
  simp
def c0 : Cs := ⟨0, 0, [], []⟩
theorem S40 : (Try.prog.info? 40).map (·.size) = some 5 := by kernel_rfl
theorem CutA.cell2 {n0 : Nat} {w : World} {g : Nat} {l : List UInt8} {s : Cs} (h : CutA n0 w g l s) : w.cell? ⟨g, 2, none⟩ = some (.int .i64 (s.pl : Int)) := by
  obtain ⟨wa, wc, ba, bc, h⟩ := h
  rw [h.box.cell]; rfl
theorem Kept.iterAt {S : Nat → Prop} {a w : World} (h : Kept S a w) {k : Nat} (hk : k < a.heap.size → S k) (s : ByteArray) (p : Nat) : Kept S a (w.iterAt k s p) :=
  ⟨h.os, h.tape, h.output, by rw [iterAt_size]; exact h.size, fun j hj hS => by
    rw [iterAt_other w k j s p (fun e => hS (by subst e; exact hk hj))]; exact h.block j hj hS⟩
theorem CutA.iterAt {n0 : Nat} {w : World} {g : Nat} {l : List UInt8} {s : Cs} (h : CutA n0 w g l s) {k : Nat} (hk : k < n0) (hg : g ≠ k) (b : ByteArray) (p : Nat) : CutA n0 (w.iterAt k b p) g l s := by
  obtain ⟨wa, wc, ba, bc, h⟩ := h
  have hK : Kept (Only k) w (w.iterAt k b p) := (Kept.refl (Only k) w).iterAt (fun _ => (rfl : k = k)) b p
  exact ⟨wa, wc, ba, bc, h.box.kept hK (fun e => hg e), h.hw.kept hK (fun j hj e => by have := h.hw.base hj; have e : j = k := e; omega), h.hb.kept hK (fun j hj e => by have := h.hb.base hj; have e : j = k := e; omega), by rw [iterAt_size]; exact h.hn⟩

theorem take_cut (l : List UInt8) (i k : Nat) : l.take (i + k) = l.take i ++ cutL l i (i + k) := by
  unfold cutL
  rw [show i + k - i = k by omega]
  exact List.take_add
theorem Rl.le {l : List UInt8} {i : Nat} {s : Cs} {t : St} (h : Rl l i s t) : s.pl ≤ 7 := by
  unfold Rl at h
  split at h
  all_goals first | (rename_i e; omega) | exact h.elim
theorem WsO.nn {n : Nat} {w : World} {er : Int} {e : Ending} (h : WsO n w er none e) : e = .returned (.tuple #[.slice none 0 0, .int .i64 er]) := h
theorem WsO.ss {n : Nat} {w : World} {er : Int} {ws : List (List UInt8)} {e : Ending} (h : WsO n w er (some ws) e) : ∃ a c, e = .returned (.tuple #[.slice a ws.length c, .int .i64 0]) ∧ Own 9 1 w n a c ws.length (ws.map strV) := h
def PostE (n0 g : Nat) (l : List UInt8) (s : Cs) (w : World) (e : Ending) (w' : World) : Prop := WsO n0 w' 200 (endC l s) e ∧ Kept (Sg n0 g) w w'
theorem c19' {n0 g : Nat} {l : List UInt8} {s : Cs} {w : World} (hc : CutA n0 w g l s) (hb : s.fr ≤ l.length) (hw : s.ws.length ≤ l.length) (hl : l.length ≤ 1000000000000) : Calls Try.prog 19 #[.pointer (some ⟨g, 0, none⟩)] w (PostE n0 g l s w) := c19 hc hb hw hl
theorem WsO.lower {n n' : Nat} {w : World} {er : Int} {o : Option (List (List UInt8))} {e : Ending} (h : WsO n w er o e) (hn : n' ≤ n) : WsO n' w er o e := by
  match o, h with
  | none, h => exact h
  | some ws, h =>
    obtain ⟨a, c, he, ho⟩ := h.ss
    exact ⟨a, c, he, Own.lower ho hn⟩
set_option maxRecDepth 100000 in
set_option maxHeartbeats 4000000 in
theorem words_any (l : List UInt8) (hl : l.length ≤ 1000000000000) (w : World) : Calls Try.prog 7 #[.string (bs l)] w (fun e w' => WsO w.heap.size w' 200 (wordsOf l) e ∧ Kept No w w') := by
  obtain ⟨C, hC⟩ : ∃ C : Ending → World → Prop, C = (fun e w' => WsO w.heap.size w' 200 (wordsOf l) e ∧ Kept No w w') := ⟨_, rfl⟩
  have HC : Hid (C = (fun e w' => WsO w.heap.size w' 200 (wordsOf l) e ∧ Kept No w w')) := hC
  rw [← hC]
  clear hC
  have HLl : Hid (l.length ≤ 1000000000000) := hl
  clear hl
  go_enter Try.func7, Try.ntmps7
  go_upto_region 0 with fail
  refine WL.start ?_
  refine tK (.slice none 0 0) ?_
  try simp only [pA, pB, p1, p2, p3]
  refine tK (.int .i64 0) ?_
  try simp only [pA, pB, p1, p2, p3]
  refine WL.nil ?_
  try simp only [pA, pB, p1, p2, p3]
  go_wp2
  go_step3
  go_upto_region 1 with fail
  refine WL.start ?_
  refine tK (.string (bs l)) ?_
  try simp only [pA, pB, p1, p2, p3]
  refine tW (.agg #[.string (bs l), .slice none 0 0, .int .i64 0, .int .i64 0, .slice none 0 0]) (exec_build 40 _ rfl _ (by kernel_rfl)) ?_
  try simp only [pA, pB, p1, p2, p3]
  refine wp_allocW 40 rfl #[.string ⟨#[]⟩, .slice none 0 0, .int .i64 0, .int .i64 0, .slice none 0 0] Z40 w.heap.size rfl (by kernel_rfl) ?_
  try simp only [pA, pB, p1, p2, p3]
  have hbx := Box.new w 40 #[.string ⟨#[]⟩, .slice none 0 0, .int .i64 0, .int .i64 0, .slice none 0 0]
  have hst := run_store_to (ty := 40) (off := 0) (v := .agg #[.string (bs l), .slice none 0 0, .int .i64 0, .int .i64 0, .slice none 0 0]) (cur := [.string ⟨#[]⟩, .slice none 0 0, .int .i64 0, .int .i64 0, .slice none 0 0]) (vs := [.string (bs l), .slice none 0 0, .int .i64 0, .int .i64 0, .slice none 0 0]) (new := [.string (bs l), .slice none 0 0, .int .i64 0, .int .i64 0, .slice none 0 0]) hbx (by kernel_rfl) S40 (Nat.le_of_ble_eq_true (by kernel_rfl)) (by simp [Value.oneCell']) (by kernel_rfl)
  refine wp_storeW 40 _ _ rfl ⟨w.heap.size, 0, none⟩ (.agg #[.string (bs l), .slice none 0 0, .int .i64 0, .int .i64 0, .slice none 0 0]) (by kernel_rfl) (by kernel_rfl) _ hst (by kernel_rfl) ?_
  try simp only [pA, pB, p1, p2, p3]
  refine WL.nil ?_
  try simp only [pA, pB, p1, p2, p3]
  have HB := hbx.setRow #[.string (bs l), .slice none 0 0, .int .i64 0, .int .i64 0, .slice none 0 0]
  have HK1 : Kept No w ((w.alloc (.cells #[.string ⟨#[]⟩, .slice none 0 0, .int .i64 0, .int .i64 0, .slice none 0 0] 40)).setRow w.heap.size #[.string (bs l), .slice none 0 0, .int .i64 0, .int .i64 0, .slice none 0 0]) := ((Kept.refl No w).alloc _).newRow (Nat.le_refl _) _
  have hsz : ((w.alloc (.cells #[.string ⟨#[]⟩, .slice none 0 0, .int .i64 0, .int .i64 0, .slice none 0 0] 40)).setRow w.heap.size #[.string (bs l), .slice none 0 0, .int .i64 0, .int .i64 0, .slice none 0 0]).heap.size = w.heap.size + 1 := by rw [size_setRow, size_alloc]
  clear hst hbx
  obtain ⟨n, hn⟩ : ∃ n, n = w.heap.size := ⟨_, rfl⟩
  rw [← hn] at HB hsz HK1 ⊢
  generalize (w.alloc (.cells #[.string ⟨#[]⟩, .slice none 0 0, .int .i64 0, .int .i64 0, .slice none 0 0] 40)).setRow n #[.string (bs l), .slice none 0 0, .int .i64 0, .int .i64 0, .slice none 0 0] = W1 at HB HK1 hsz ⊢
  go_wp2
  go_step3
  go_upto_region 2 with fail
  refine WL.start ?_
  refine tK (.string (bs l)) ?_
  try simp only [pA, pB, p1, p2, p3]
  refine wp_runW (.pointer (some ⟨W1.heap.size, 0, none⟩)) (W1.iter (bs l) 0) (exec_range _ rfl (bs l) (by kernel_rfl)) (by kernel_rfl) ?_
  try simp only [pA, pB, p1, p2, p3]
  refine WL.nil ?_
  try simp only [pA, pB, p1, p2, p3]
  have hit := World.iter_heap W1 (bs l) 0
  have HK2 : Kept No w (W1.iter (bs l) 0) := HK1.alloc _
  have hsz2 : (W1.iter (bs l) 0).heap.size = n + 2 := by show (W1.alloc _).heap.size = _; rw [size_alloc, hsz]
  have HC0 : CutA (n + 2) (W1.iter (bs l) 0) n l c0 := ⟨none, 0, none, 0, HB.alloc _, Own.nil _ _ _ _, Own.nil _ _ _ _, by omega⟩
  rw [hsz] at hit ⊢
  generalize W1.iter (bs l) 0 = W2 at hit HK2 hsz2 HC0 ⊢
  have HN : Hid (n = w.heap.size) := hn
  have HJ : Hid (∃ (s : Cs) (i : Nat), CutA (n + 2) W2 n l s ∧ W2.heap[n + 1]? = some (.stringIter (bs l) i) ∧ Kept No w W2 ∧ Rl l i s (runS s0 (l.take i)) ∧ Ib i s ∧ i ≤ l.length) :=
    ⟨c0, 0, HC0, hit, HK2, ⟨rfl, rfl, rfl, rfl⟩, ⟨Nat.le_refl _, Nat.le_refl _, Nat.le_refl _, fun e => by cases e⟩, Nat.zero_le _⟩
  clear HB HK1 hsz hit HK2 hsz2 HC0 hn
  go_wp2
  go_loopw [] (fun wr => Hid (∃ (s : Cs) (i : Nat), CutA (n + 2) wr n l s ∧ wr.heap[n + 1]? = some (.stringIter (bs l) i) ∧ Kept No w wr ∧ Rl l i s (runS s0 (l.take i)) ∧ Ib i s ∧ i ≤ l.length)) (fun wr => l.length - wr.iterPos (n + 1))
  case atStart => exact HJ
  case round =>
    clear HJ
    obtain ⟨s, i, hcut, hit, hk, hR, hb, hi⟩ := hrel.out
    clear hrel
    have HR : Hid (Rl l i s (runS s0 (l.take i))) := hR
    have HIb : Hid (Ib i s) := hb
    have HIt : Hid (wr.heap[n + 1]? = some (.stringIter (bs l) i)) := hit
    have HCu : Hid (CutA (n + 2) wr n l s) := hcut
    have HKr : Hid (Kept No w wr) := hk
    have HI : Hid (i ≤ l.length) := hi
    have hc2 : wr.cell? ⟨n, 2, none⟩ = some (.int .i64 (s.pl : Int)) := hcut.cell2
    clear hcut hk hR hb hi
    by_cases hp : i < l.length
    · have hnx0 : ∀ ty, (Instr.next (.pointer (some ⟨n + 1, 0, none⟩)) true ty).run Try.prog wr = .ok (.tuple #[.bool true, .int .i64 i, .int .i32 (Utf8.decode (bs l) i).1]) (wr.iterAt (n + 1) (bs l) (i + (Utf8.decode (bs l) i).2)) := fun ty => run_next_any_at wr (n + 1) (bs l) i ty hit (by rw [bs_size]; exact hp)
      have HPp : Hid (i < l.length) := hp
      have HC3 : Hid (CutA (n + 2) (wr.iterAt (n + 1) (bs l) (i + (Utf8.decode (bs l) i).2)) n l s) := HCu.out.iterAt (by omega) (by omega) _ _
      have HI3 : Hid ((wr.iterAt (n + 1) (bs l) (i + (Utf8.decode (bs l) i).2)).heap[n + 1]? = some (.stringIter (bs l) (i + (Utf8.decode (bs l) i).2))) := iterAt_heap wr (n + 1) (bs l) i _ hit
      have HK3 : Hid (Kept No w (wr.iterAt (n + 1) (bs l) (i + (Utf8.decode (bs l) i).2))) := HKr.out.iterAt (fun e => by have := HN.out; omega) _ _
      have HD : Hid ((Utf8.decode (bs l) i).1 ≤ 2147483647) := decode_le (bs l) i
      have HM : Hid (wr.iterPos (n + 1) = i) := iterPos_of hit
      have HRu : Hid (s.pl ≠ 7 → (s.pl = 0 → ((Utf8.decode (bs l) i).1 : Int) ≠ 35) → Rl l (i + (Utf8.decode (bs l) i).2) (stepC l s i ((Utf8.decode (bs l) i).1 : Int)) (runS s0 (l.take (i + (Utf8.decode (bs l) i).2))) ∧ 1 ≤ (Utf8.decode (bs l) i).2 ∧ i + (Utf8.decode (bs l) i).2 ≤ l.length) := show (s.pl ≠ 7 → (s.pl = 0 → ((Utf8.decode (bs l) i).1 : Int) ≠ 35) → _) from fun h7 h0 => by
        obtain ⟨h1, h2, h3⟩ := HR.out.rune hp h7 h0
        rw [take_cut, runS_app]
        exact ⟨h1, h2, h3⟩
      have HMk : Hid (s.pl = 0 → ((Utf8.decode (bs l) i).1 : Int) = 35 → some s.ws = wordsOf l) := show (s.pl = 0 → ((Utf8.decode (bs l) i).1 : Int) = 35 → some s.ws = wordsOf l) from fun h0 h35 => HR.out.mark hp h0 h35
      clear hit hp hc2 HIt HCu
      generalize (Utf8.decode (bs l) i).1 = rn at hnx0 HD HRu HMk
      generalize (Utf8.decode (bs l) i).2 = k at hnx0 HC3 HI3 HK3 HRu
      generalize wr.iterAt (n + 1) (bs l) (i + k) = W3 at hnx0 HC3 HI3 HK3
      obtain ⟨r, hr⟩ : ∃ r : Int, r = (rn : Int) := ⟨_, rfl⟩
      have HRr : Hid (0 ≤ r ∧ r ≤ 2147483647) := ⟨by rw [hr]; omega, by have := HD.out; rw [hr]; omega⟩
      rw [← hr] at HRu HMk
      have hnx : ∀ ty, (Instr.next (.pointer (some ⟨n + 1, 0, none⟩)) true ty).run Try.prog wr = .ok (.tuple #[.bool true, .int .i64 (i : Int), .int .i32 r]) W3 := by rw [hr]; exact hnx0
      clear hnx0 HD hr
      have hc3 : W3.cell? ⟨n, 2, none⟩ = some (.int .i64 (s.pl : Int)) := HC3.out.cell2
      have hple := HR.out.le
      obtain ⟨v, hv⟩ : ∃ v, v = s.pl := ⟨_, rfl⟩
      have HV : Hid (s.pl = v) := hv.symm
      rw [← hv] at hc3 hple
      clear hv
      have hvv : v = 0 ∨ v = 1 ∨ v = 2 ∨ v = 3 ∨ v = 4 ∨ v = 5 ∨ v = 6 ∨ v = 7 := by omega
      clear hple
      rcases hvv with rfl | rfl | rfl | rfl | rfl | rfl | rfl | rfl
      · skip
        by_cases h35 : r = 35
        · subst h35
          have hE : endC l s = wordsOf l := by
            rw [← HMk.out HV.out rfl]
            unfold endC
            rw [if_pos (Or.inl HV.out)]
          go_wp2_with (go_at_call 19; refine (c19' HC3.out (Nat.le_trans HIb.out.fr HI.out) (Nat.le_trans HIb.out.ws HI.out) HLl.out).mono ?_)
          rintro e W4 ⟨hws, hk4⟩
          rw [hE] at hws
          cases hz : wordsOf l with
          | none =>
            rw [hz] at hws
            obtain rfl := hws.nn
            go_wp2
            rw [HC.out]
            exact ⟨by rw [hz]; rfl, HK3.out.trans hk4 (fun _ e => e) (fun j hj e => by have := HN.out; rcases e with rfl | e <;> omega)⟩
          | some ws =>
            rw [hz] at hws
            obtain ⟨a, c, rfl, ho⟩ := hws.ss
            clear hws
            have HO := ho.lower (base' := w.heap.size) (by have := HN.out; omega)
            have HOo : Hid (Own 9 1 W4 w.heap.size a c ws.length (ws.map strV)) := HO
            clear ho HO
            go_wp2
            rw [HC.out]
            exact ⟨by rw [hz]; exact ⟨a, c, rfl, HOo.out⟩, HK3.out.trans hk4 (fun _ e => e) (fun j hj e => by have := HN.out; rcases e with rfl | e <;> omega)⟩
        · have h35b : (r == 35) = false := by simpa using h35
          have HNe : Hid (r ≠ 35) := h35
          clear h35
          go_wp2_with (go_at_call 13; refine (c13 HC3.out HIb.out HPp.out HLl.out).mono ?_)
          rintro e W4 ⟨rfl, hc4, hk4⟩
          have HJ : Hid (∃ (s : Cs) (i : Nat), CutA (n + 2) W4 n l s ∧ W4.heap[n + 1]? = some (.stringIter (bs l) i) ∧ Kept No w W4 ∧ Rl l i s (runS s0 (l.take i)) ∧ Ib i s ∧ i ≤ l.length) := by
            obtain ⟨h1, h2, h3⟩ := HRu.out (by rw [HV.out]; decide) (fun _ => HNe.out)
            have hq : stepC l s i r = begS s i r := by unfold stepC; simp [HV.out]
            exact ⟨stepC l s i r, i + k, by rw [hq]; exact hc4, by rw [hk4.block (n + 1) (Array.getElem?_eq_some_iff.1 HI3.out).1 (fun e => by rcases e with e | e <;> omega)]; exact HI3.out, HK3.out.trans hk4 (fun _ e => e) (fun j hj e => by have := HN.out; rcases e with rfl | e <;> omega), h1, HIb.out.step h2 r, h3⟩
          have HM2 : Hid (l.length - W4.iterPos (n + 1) < l.length - i) := by
            obtain ⟨h1, h2, h3⟩ := HRu.out (by rw [HV.out]; decide) (fun _ => HNe.out)
            have e : W4.heap[n + 1]? = some (.stringIter (bs l) (i + k)) := by rw [hk4.block (n + 1) (Array.getElem?_eq_some_iff.1 HI3.out).1 (fun e => by rcases e with e | e <;> omega)]; exact HI3.out
            show _ < _
            rw [iterPos_of e]
            have := HPp.out
            omega
          clear hc4 hk4
          go_wp2
          go_roundw
          case rel => exact HJ
          case measure => rw [HM.out]; exact HM2.out
      · skip
        go_wp2_with (go_at_call 14; refine (c14 HC3.out HIb.out HPp.out HLl.out).mono ?_)
        rintro e W4 ⟨rfl, hc4, hk4⟩
        have HJ : Hid (∃ (s : Cs) (i : Nat), CutA (n + 2) W4 n l s ∧ W4.heap[n + 1]? = some (.stringIter (bs l) i) ∧ Kept No w W4 ∧ Rl l i s (runS s0 (l.take i)) ∧ Ib i s ∧ i ≤ l.length) := by
          obtain ⟨h1, h2, h3⟩ := HRu.out (by rw [HV.out]; decide) (fun e => absurd (HV.out.symm.trans e) (by decide))
          have hq : stepC l s i r = plaS l s i r := by unfold stepC; simp [HV.out]
          exact ⟨stepC l s i r, i + k, by rw [hq]; exact hc4, by rw [hk4.block (n + 1) (Array.getElem?_eq_some_iff.1 HI3.out).1 (fun e => by rcases e with e | e <;> omega)]; exact HI3.out, HK3.out.trans hk4 (fun _ e => e) (fun j hj e => by have := HN.out; rcases e with rfl | e <;> omega), h1, HIb.out.step h2 r, h3⟩
        have HM2 : Hid (l.length - W4.iterPos (n + 1) < l.length - i) := by
          obtain ⟨h1, h2, h3⟩ := HRu.out (by rw [HV.out]; decide) (fun e => absurd (HV.out.symm.trans e) (by decide))
          have e : W4.heap[n + 1]? = some (.stringIter (bs l) (i + k)) := by rw [hk4.block (n + 1) (Array.getElem?_eq_some_iff.1 HI3.out).1 (fun e => by rcases e with e | e <;> omega)]; exact HI3.out
          show _ < _
          rw [iterPos_of e]
          have := HPp.out
          omega
        clear hc4 hk4
        go_wp2
        go_roundw
        case rel => exact HJ
        case measure => rw [HM.out]; exact HM2.out
      · skip
        go_wp2_with (go_at_call 15; refine (c15 HC3.out HIb.out HPp.out HLl.out).mono ?_)
        rintro e W4 ⟨rfl, hc4, hk4⟩
        have HJ : Hid (∃ (s : Cs) (i : Nat), CutA (n + 2) W4 n l s ∧ W4.heap[n + 1]? = some (.stringIter (bs l) i) ∧ Kept No w W4 ∧ Rl l i s (runS s0 (l.take i)) ∧ Ib i s ∧ i ≤ l.length) := by
          obtain ⟨h1, h2, h3⟩ := HRu.out (by rw [HV.out]; decide) (fun e => absurd (HV.out.symm.trans e) (by decide))
          have hq : stepC l s i r = quoS l s i r := by unfold stepC; simp [HV.out]
          exact ⟨stepC l s i r, i + k, by rw [hq]; exact hc4, by rw [hk4.block (n + 1) (Array.getElem?_eq_some_iff.1 HI3.out).1 (fun e => by rcases e with e | e <;> omega)]; exact HI3.out, HK3.out.trans hk4 (fun _ e => e) (fun j hj e => by have := HN.out; rcases e with rfl | e <;> omega), h1, HIb.out.step h2 r, h3⟩
        have HM2 : Hid (l.length - W4.iterPos (n + 1) < l.length - i) := by
          obtain ⟨h1, h2, h3⟩ := HRu.out (by rw [HV.out]; decide) (fun e => absurd (HV.out.symm.trans e) (by decide))
          have e : W4.heap[n + 1]? = some (.stringIter (bs l) (i + k)) := by rw [hk4.block (n + 1) (Array.getElem?_eq_some_iff.1 HI3.out).1 (fun e => by rcases e with e | e <;> omega)]; exact HI3.out
          show _ < _
          rw [iterPos_of e]
          have := HPp.out
          omega
        clear hc4 hk4
        go_wp2
        go_roundw
        case rel => exact HJ
        case measure => rw [HM.out]; exact HM2.out
      · skip
        go_wp2_with (go_at_call 16; refine (c16 HC3.out HIb.out HPp.out HLl.out).mono ?_)
        rintro e W4 ⟨rfl, hc4, hk4⟩
        have HJ : Hid (∃ (s : Cs) (i : Nat), CutA (n + 2) W4 n l s ∧ W4.heap[n + 1]? = some (.stringIter (bs l) i) ∧ Kept No w W4 ∧ Rl l i s (runS s0 (l.take i)) ∧ Ib i s ∧ i ≤ l.length) := by
          obtain ⟨h1, h2, h3⟩ := HRu.out (by rw [HV.out]; decide) (fun e => absurd (HV.out.symm.trans e) (by decide))
          have hq : stepC l s i r = eseS s i r := by unfold stepC; simp [HV.out]
          exact ⟨stepC l s i r, i + k, by rw [hq]; exact hc4, by rw [hk4.block (n + 1) (Array.getElem?_eq_some_iff.1 HI3.out).1 (fun e => by rcases e with e | e <;> omega)]; exact HI3.out, HK3.out.trans hk4 (fun _ e => e) (fun j hj e => by have := HN.out; rcases e with rfl | e <;> omega), h1, HIb.out.step h2 r, h3⟩
        have HM2 : Hid (l.length - W4.iterPos (n + 1) < l.length - i) := by
          obtain ⟨h1, h2, h3⟩ := HRu.out (by rw [HV.out]; decide) (fun e => absurd (HV.out.symm.trans e) (by decide))
          have e : W4.heap[n + 1]? = some (.stringIter (bs l) (i + k)) := by rw [hk4.block (n + 1) (Array.getElem?_eq_some_iff.1 HI3.out).1 (fun e => by rcases e with e | e <;> omega)]; exact HI3.out
          show _ < _
          rw [iterPos_of e]
          have := HPp.out
          omega
        clear hc4 hk4
        go_wp2
        go_roundw
        case rel => exact HJ
        case measure => rw [HM.out]; exact HM2.out
      · skip
        go_wp2_with (go_at_call 17; refine (c17 HC3.out HIb.out HPp.out HLl.out HRr.out HR.out (Or.inl HV.out)).mono ?_)
        rintro e W4 ⟨rfl, hc4, hk4⟩
        have HJ : Hid (∃ (s : Cs) (i : Nat), CutA (n + 2) W4 n l s ∧ W4.heap[n + 1]? = some (.stringIter (bs l) i) ∧ Kept No w W4 ∧ Rl l i s (runS s0 (l.take i)) ∧ Ib i s ∧ i ≤ l.length) := by
          obtain ⟨h1, h2, h3⟩ := HRu.out (by rw [HV.out]; decide) (fun e => absurd (HV.out.symm.trans e) (by decide))
          have hq : stepC l s i r = digS s i r := by unfold stepC; simp [HV.out]
          exact ⟨stepC l s i r, i + k, by rw [hq]; exact hc4, by rw [hk4.block (n + 1) (Array.getElem?_eq_some_iff.1 HI3.out).1 (fun e => by rcases e with e | e <;> omega)]; exact HI3.out, HK3.out.trans hk4 (fun _ e => e) (fun j hj e => by have := HN.out; rcases e with rfl | e <;> omega), h1, HIb.out.step h2 r, h3⟩
        have HM2 : Hid (l.length - W4.iterPos (n + 1) < l.length - i) := by
          obtain ⟨h1, h2, h3⟩ := HRu.out (by rw [HV.out]; decide) (fun e => absurd (HV.out.symm.trans e) (by decide))
          have e : W4.heap[n + 1]? = some (.stringIter (bs l) (i + k)) := by rw [hk4.block (n + 1) (Array.getElem?_eq_some_iff.1 HI3.out).1 (fun e => by rcases e with e | e <;> omega)]; exact HI3.out
          show _ < _
          rw [iterPos_of e]
          have := HPp.out
          omega
        clear hc4 hk4
        go_wp2
        go_roundw
        case rel => exact HJ
        case measure => rw [HM.out]; exact HM2.out
      · skip
        go_wp2_with (go_at_call 17; refine (c17 HC3.out HIb.out HPp.out HLl.out HRr.out HR.out (Or.inr HV.out)).mono ?_)
        rintro e W4 ⟨rfl, hc4, hk4⟩
        have HJ : Hid (∃ (s : Cs) (i : Nat), CutA (n + 2) W4 n l s ∧ W4.heap[n + 1]? = some (.stringIter (bs l) i) ∧ Kept No w W4 ∧ Rl l i s (runS s0 (l.take i)) ∧ Ib i s ∧ i ≤ l.length) := by
          obtain ⟨h1, h2, h3⟩ := HRu.out (by rw [HV.out]; decide) (fun e => absurd (HV.out.symm.trans e) (by decide))
          have hq : stepC l s i r = digS s i r := by unfold stepC; simp [HV.out]
          exact ⟨stepC l s i r, i + k, by rw [hq]; exact hc4, by rw [hk4.block (n + 1) (Array.getElem?_eq_some_iff.1 HI3.out).1 (fun e => by rcases e with e | e <;> omega)]; exact HI3.out, HK3.out.trans hk4 (fun _ e => e) (fun j hj e => by have := HN.out; rcases e with rfl | e <;> omega), h1, HIb.out.step h2 r, h3⟩
        have HM2 : Hid (l.length - W4.iterPos (n + 1) < l.length - i) := by
          obtain ⟨h1, h2, h3⟩ := HRu.out (by rw [HV.out]; decide) (fun e => absurd (HV.out.symm.trans e) (by decide))
          have e : W4.heap[n + 1]? = some (.stringIter (bs l) (i + k)) := by rw [hk4.block (n + 1) (Array.getElem?_eq_some_iff.1 HI3.out).1 (fun e => by rcases e with e | e <;> omega)]; exact HI3.out
          show _ < _
          rw [iterPos_of e]
          have := HPp.out
          omega
        clear hc4 hk4
        go_wp2
        go_roundw
        case rel => exact HJ
        case measure => rw [HM.out]; exact HM2.out
      · skip
        go_wp2_with (go_at_call 18; refine (c18 HC3.out).mono ?_)
        rintro e W4 ⟨rfl, hc4, hk4⟩
        have HJ : Hid (∃ (s : Cs) (i : Nat), CutA (n + 2) W4 n l s ∧ W4.heap[n + 1]? = some (.stringIter (bs l) i) ∧ Kept No w W4 ∧ Rl l i s (runS s0 (l.take i)) ∧ Ib i s ∧ i ≤ l.length) := by
          obtain ⟨h1, h2, h3⟩ := HRu.out (by rw [HV.out]; decide) (fun e => absurd (HV.out.symm.trans e) (by decide))
          have hq : stepC l s i r = behS s r := by unfold stepC; simp [HV.out]
          exact ⟨stepC l s i r, i + k, by rw [hq]; exact hc4, by rw [hk4.block (n + 1) (Array.getElem?_eq_some_iff.1 HI3.out).1 (fun e => by rcases e with e | e <;> omega)]; exact HI3.out, HK3.out.trans hk4 (fun _ e => e) (fun j hj e => by have := HN.out; rcases e with rfl | e <;> omega), h1, HIb.out.step h2 r, h3⟩
        have HM2 : Hid (l.length - W4.iterPos (n + 1) < l.length - i) := by
          obtain ⟨h1, h2, h3⟩ := HRu.out (by rw [HV.out]; decide) (fun e => absurd (HV.out.symm.trans e) (by decide))
          have e : W4.heap[n + 1]? = some (.stringIter (bs l) (i + k)) := by rw [hk4.block (n + 1) (Array.getElem?_eq_some_iff.1 HI3.out).1 (fun e => by rcases e with e | e <;> omega)]; exact HI3.out
          show _ < _
          rw [iterPos_of e]
          have := HPp.out
          omega
        clear hc4 hk4
        go_wp2
        go_roundw
        case rel => exact HJ
        case measure => rw [HM.out]; exact HM2.out
      · have hE : endC l s = wordsOf l := by
          rw [HR.out.wrong HV.out]
          unfold endC
          rw [HV.out]
          rfl
        go_wp2_with (go_at_call 19; refine (c19' HC3.out (Nat.le_trans HIb.out.fr HI.out) (Nat.le_trans HIb.out.ws HI.out) HLl.out).mono ?_)
        rintro e W4 ⟨hws, hk4⟩
        rw [hE] at hws
        cases hz : wordsOf l with
        | none =>
          rw [hz] at hws
          obtain rfl := hws.nn
          go_wp2
          rw [HC.out]
          exact ⟨by rw [hz]; rfl, HK3.out.trans hk4 (fun _ e => e) (fun j hj e => by have := HN.out; rcases e with rfl | e <;> omega)⟩
        | some ws =>
          rw [hz] at hws
          obtain ⟨a, c, rfl, ho⟩ := hws.ss
          clear hws
          have HO := ho.lower (base' := w.heap.size) (by have := HN.out; omega)
          have HOo : Hid (Own 9 1 W4 w.heap.size a c ws.length (ws.map strV)) := HO
          clear ho HO
          go_wp2
          rw [HC.out]
          exact ⟨by rw [hz]; exact ⟨a, c, rfl, HOo.out⟩, HK3.out.trans hk4 (fun _ e => e) (fun j hj e => by have := HN.out; rcases e with rfl | e <;> omega)⟩
    · have hil : i = l.length := by have := HI.out; omega
      have hnx : ∀ ty, (Instr.next (.pointer (some ⟨n + 1, 0, none⟩)) true ty).run Try.prog wr = .ok (.tuple #[.bool false]) wr := fun ty => run_next_end_at wr (n + 1) (bs l) i ty hit (by rw [bs_size]; exact hp)
      have hE : endC l s = wordsOf l := by
        have := HR.out
        rw [hil, List.take_length] at this
        exact this.end
      clear hit hp hc2 hil
      go_wp2_with (go_at_call 19; refine (c19' HCu.out (Nat.le_trans HIb.out.fr HI.out) (Nat.le_trans HIb.out.ws HI.out) HLl.out).mono ?_)
      rintro e W4 ⟨hws, hk4⟩
      rw [hE] at hws
      cases hz : wordsOf l with
      | none =>
        rw [hz] at hws
        obtain rfl := hws.nn
        go_wp2
        rw [HC.out]
        exact ⟨by rw [hz]; rfl, HKr.out.trans hk4 (fun _ e => e) (fun j hj e => by have := HN.out; rcases e with rfl | e <;> omega)⟩
      | some ws =>
        rw [hz] at hws
        obtain ⟨a, c, rfl, ho⟩ := hws.ss
        clear hws
        have HO := ho.lower (base' := w.heap.size) (by have := HN.out; omega)
        have HOo : Hid (Own 9 1 W4 w.heap.size a c ws.length (ws.map strV)) := HO
        clear ho HO
        go_wp2
        rw [HC.out]
        exact ⟨by rw [hz]; exact ⟨a, c, rfl, HOo.out⟩, HKr.out.trans hk4 (fun _ e => e) (fun j hj e => by have := HN.out; rcases e with rfl | e <;> omega)⟩
end Go.Proofs.Ytgnfeegnhdbnkaa
