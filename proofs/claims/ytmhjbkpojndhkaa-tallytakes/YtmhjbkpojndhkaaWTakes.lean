import Derived.Test.YtmhjbkpojndhkaaRe
import Derived.Test.YtmhjbkpojndhkaaBd
namespace Go.Proofs.Ytmhjbkpojndhkaa
open Go.RowKit
set_option linter.unusedVariables false
set_option linter.unusedSimpArgs false

theorem ints_set {L : List Int} {i : Nat} (z : Int) : (L.map (Value.int .i64)).toArray.setIfInBounds i (.int .i64 z) = ((L.set i z).map (Value.int .i64)).toArray := by
  simp [List.map_set]

theorem box_setI {w : World} {g k : Nat} {L : List Int} {z : Int} (h : Box w g 3 (L.map (Value.int .i64)).toArray) : Box (w.setCell ⟨g, k, none⟩ (.int .i64 z)) g 3 ((L.set k z).map (Value.int .i64)).toArray := by
  rw [← ints_set]; exact h.set k _

set_option maxRecDepth 100000 in
set_option maxHeartbeats 4000000 in
theorem takesWalk (a0 : Option Addr) (n0 cap0 : Nat) (zs : List Int) (need : Int) (a2 : Option Addr) (n2 cap2 : Nat) (vs : List Vo) (w : World)
    (hz : zs.length = n0) (hn0 : n0 ≤ 17592186043904) (h0 : Nums .i64 w a0 zs) (hv : vs.length = n2) (hn2 : n2 ≤ 5864062014634) (h2 : Vts w a2 vs) :
    Calls Try.prog 3 #[.slice a0 n0 cap0, .int .i64 need, .slice a2 n2 cap2] w fun e w' => e = .returned (.bool true) ∧ Below w.heap.size w w' := by
  have HZ : Hid (zs.length = n0) := hz
  have HVl : Hid (vs.length = n2) := hv
  have H0 : Hid (Nums .i64 w a0 zs) := h0
  have H2 : Hid (Vts w a2 vs) := h2
  have HKn : Hid (∀ w : World, Calls Try.prog 9 #[] w fun e w' => e = .returned (.bool true) ∧ Kept No w w') := known_any
  have HLe : Hid (∀ W, Kept No w W → Calls Try.prog 10 #[.slice a0 n0 cap0] W (LendOut W n0 zs)) := fun W hk => lend_any a0 n0 cap0 zs W hz hn0 (h0.no hk)
  have HRn : Hid (∀ W, Kept No w W → Calls Try.prog 13 #[.slice a0 n0 cap0, .int .i64 need] W (RNew W zs need)) := fun W hk => rnew_any a0 n0 cap0 zs need W hz hn0 (h0.no hk)
  have HNw : Hid (∀ W g, Nums .i64 W (some ⟨g, 0, none⟩) zs → Calls Try.prog 11 #[.slice (some ⟨g, 0, none⟩) n0 (n0 + 67), .int .i64 need] W (NewOut W zs need)) := fun W g hN => new_any _ n0 _ zs need W hz hn0 hN
  have HBk : Hid (∀ W g, Kept No w W → Box W g 3 ((lent zs).map (Value.int .i64)).toArray → Calls Try.prog 12 #[.slice (some ⟨g, 0, none⟩) n0 (n0 + 67), .slice a0 n0 cap0] W fun e w' => e = .returned (.bool true) ∧ Kept No W w') := fun W g hk hb => back_any g n0 cap0 a0 zs W hz hn0 hb (h0.no hk)
  have HTk : Hid ((lent zs).take n0 = zs ∧ (lent zs).length = n0 + 67) := ⟨by rw [← hz]; simp [lent], by simp [lent, hz]⟩
  clear hz h0 hv h2
  go_enter Try.func3, Try.ntmps3
  go_wp2_with (first
    | (go_at_call 12
       refine Calls.mono (HBk.out w3 w1.heap.size (HK2.out.then HK23.out) HG3.out) ?_
       rintro e w4 ⟨rfl, hk⟩
       have HK34 : Hid (Kept No w3 w4) := hk
       clear hk)
    | (go_at_call 11
       refine Calls.mono (HNw.out w2 w1.heap.size (by have := HG2.out.nums n0; rw [HTk.out.1] at this; exact this)) ?_
       rintro e w3 ⟨at', ct, rfl, hT, hF, hk⟩
       have HT3 : Hid (Tal w3 (w2.heap.size + 1) w2.heap.size at' ct (tNew zs need)) := hT
       have HF3 : Hid (∀ q, At at' q → w2.heap.size ≤ q) := hF
       have HK23 : Hid (Kept No w2 w3) := hk
       have HG3 : Hid (Box w3 w1.heap.size 3 ((lent zs).map (Value.int .i64)).toArray) := HG2.out.kept hk (fun e => e)
       clear hT hF hk)
    | (go_at_call 10
       refine Calls.mono (HLe.out w1 HK1.out) ?_
       rintro e w2 ⟨rfl, hg, hk⟩
       have HG2 : Hid (Box w2 w1.heap.size 3 ((lent zs).map (Value.int .i64)).toArray) := hg
       have HK2 : Hid (Kept No w w2) := HK1.out.then hk
       clear hg hk)
    | (go_at_call 9
       refine Calls.mono (HKn.out _) ?_
       rintro e w1 ⟨rfl, hk1⟩
       have HK1 : Hid (Kept No w w1) := hk1
       clear hk1))
  have hg2 : w1.heap.size < w2.heap.size := HG2.out.lt
  have hw1 : w.heap.size ≤ w1.heap.size := HK1.out.size
  have HT4 : Hid (Tal w4 (w2.heap.size + 1) w2.heap.size at' ct (tNew zs need)) := HT3.out.no HK34.out
  have HG4 : Hid (Box w4 w1.heap.size 3 ((lent zs).map (Value.int .i64)).toArray) := HG3.out.kept HK34.out (fun e => e)
  have HK4 : Hid (Kept No w w4) := (HK2.out.then HK23.out).then HK34.out
  clear HT3 HG3 HK34 HK23 HG2 HBk HNw HLe HK2 HK1
  generalize w1.heap.size = g at hg2 hw1 HG4 ⊢
  generalize w2.heap.size = B at hg2 HF3 HT4 ⊢
  go_loopw [9] (fun vi wx => ∃ k : Nat, vi = .int .i64 k ∧ k ≤ n0 ∧ Hid (∃ L : List Int, L.length = n0 + 67 ∧ Box wx g 3 (L.map (Value.int .i64)).toArray) ∧ Hid (Kept (Only g) w4 wx)) (fun i _ => n0 - (intOf i).toNat)
  case atStart => exact ⟨0, by go_num, by omega, ⟨lent zs, HTk.out.2, HG4.out⟩, Kept.refl _ _⟩
  case round =>
    obtain ⟨k, rfl, hk, HI, HKx⟩ := hrel
    clear HG4
    by_cases hlt : k < n0
    · have hlt' : (k : Int) < (n0 : Int) := by omega
      have hk0 : (0 : Int) ≤ (k : Int) := by omega
      obtain ⟨L, hL, hB⟩ := HI.out
      have HB : Hid (Box wr g 3 (L.map (Value.int .i64)).toArray) := hB
      have HL : Hid (L.length = n0 + 67) := hL
      have c0 := hB.cell k
      have f0 := hB.frozen k
      rw [List.getElem?_toArray, List.getElem?_map, List.getElem?_eq_getElem (by omega)] at c0
      simp only [Option.map_some] at c0
      generalize L[k]'(by omega) = z at c0
      clear hB hL HI
      go_wp2
      all_goals go_roundw
      case rel =>
        exact ⟨k + 1, by go_num, by omega, ⟨L.set k _, List.length_set.trans HL.out, box_setI HB.out⟩, HKx.out.setCell (p := ⟨g, k, none⟩) (fun _ => rfl) _⟩
      case measure => simp [intOf]; omega
    · have hlt' : ¬ (k : Int) < (n0 : Int) := by omega
      obtain rfl : k = n0 := by omega
      have hBg : ∀ q, TB (B + 1) B at' q → ¬ Only g q := fun q hq e => by
        have e : q = g := e
        rcases hq with h | h | h
        · omega
        · omega
        · have := HF3.out q h; omega
      have HTx : Hid (Tal wr (B + 1) B at' ct (tNew zs need)) := HT4.out.kept HKx.out hBg
      have HKw : Hid (Kept No w wr) := HK4.out.trans HKx.out (fun _ e => e) (fun i hi e => by have e : i = g := e; omega)
      have HLt : Hid (∀ q, TB (B + 1) B at' q → q < wr.heap.size) := fun q hq => HTx.out.lt hq
      have hwB : w.heap.size ≤ B := by omega
      clear HI HKx HT4 HK4 hBg
      go_wp2_with (go_at_call 13
                   refine Calls.mono (HRn.out wr HKw.out) ?_
                   rintro e w5 ⟨r, ag, cg, av, cv, ah, ch, rfl, hR, hF, hk⟩
                   have HR5 : Hid (Rf w5 r ag cg av cv ah ch (tNew zs need)) := hR
                   have HT5 : Hid (Tal w5 (B + 1) B at' ct (tNew zs need)) := HTx.out.no hk
                   have HK5 : Hid (Kept No w w5) := HKw.out.then hk
                   have HXY : Hid ((∀ q, TB (B + 1) B at' q → ¬ Rw2 av ah q) ∧ (∀ q, RB r ag av ah q → ¬ Tb2 (B + 1) B q) ∧ (∀ q, Rw2 av ah q → w.heap.size ≤ q)) := by
                     have h1 := HLt.out
                     have h2 := HKw.out.size
                     refine ⟨fun q hq e => ?_, fun q hq e => ?_, fun q e => ?_⟩
                     · have h3 := h1 q hq
                       have h4 := hF q (e.elim (fun e => .inr (.inr (.inl e))) (fun e => .inr (.inr (.inr e))))
                       omega
                     · have h3 := hF q hq
                       have h4 : q < wr.heap.size := h1 q (e.elim (fun e => .inl e) (fun e => .inr (.inl e)))
                       omega
                     · have h4 := hF q (e.elim (fun e => .inr (.inr (.inl e))) (fun e => .inr (.inr (.inr e))))
                       omega
                   clear hR hF hk)
      clear HTx HKw HLt HRn
      have HV : Hid (∀ W, Kept No w W → Vts W a2 vs) := fun W hk => H2.out.no hk
      have HC0 : Hid (cnt (tNew zs need) ≤ 0) := by show _ ≤ _; rw [cnt_new]; exact Nat.le_refl _
      generalize tNew zs need = T0 at HR5 HT5 HC0
      go_loopw [11] (fun vi wx => ∃ k : Nat, vi = .int .i64 k ∧ k ≤ n2 ∧ Hid (∃ X, Tal wx (B + 1) B at' ct X ∧ Rf wx r ag cg av cv ah ch X ∧ cnt X ≤ k) ∧ Hid (Kept No w wx)) (fun i _ => n2 - (intOf i).toNat)
      case atStart => exact ⟨0, by go_num, by omega, ⟨T0, HT5.out, HR5.out, HC0.out⟩, HK5⟩
      case round =>
        obtain ⟨j, rfl, hj, HI, HKj⟩ := hrel
        obtain ⟨X, hX, hR, hc⟩ := HI.out
        have HX : Hid (Tal wr (B + 1) B at' ct X) := hX
        have HR : Hid (Rf wr r ag cg av cv ah ch X) := hR
        have HC : Hid (cnt X ≤ j) := hc
        clear hX hR hc HI HT5 HR5 HK5 HC0
        by_cases hjl : j < n2
        · have hjl' : (j : Int) < (n2 : Int) := by omega
          have hj0 : (0 : Int) ≤ (j : Int) := by omega
          go_upto_region 15 with fail
          obtain ⟨b, off, rfl, e1, e2, e3⟩ := (HV.out wr HKj.out) j (by rw [HVl.out]; exact hjl)
          have HCl : Hid (∀ W, Kept No w W → W.cell? ⟨b, off + j * 3, none⟩ = some (.int .i64 (vAt vs j).s) ∧ W.cell? ⟨b, off + j * 3 + 1, none⟩ = some (.int .i64 (vAt vs j).v) ∧ W.cell? ⟨b, off + j * 3 + 2, none⟩ = some (.bool (vAt vs j).l)) := fun W hk => by
            obtain ⟨_, _, e, h1, h2, h3⟩ := (HV.out W hk) j (by rw [HVl.out]; exact hjl)
            cases e; exact ⟨h1, h2, h3⟩
          generalize vAt vs j = u at e1 e2 e3 HCl
          obtain ⟨s, v, lk⟩ := u
          simp only at e1 e2 e3 HCl
          have HKd : Hid (Kept No w wr.drew) := HKj.out.drew
          have HTkA : Hid (Calls Try.prog 14 #[.pointer (some ⟨B + 1, 0, none⟩), .int .i64 s, .int .i64 v] wr.drew (TakeOut wr.drew (B + 1) B ct at' X s v)) := take_any _ _ _ _ X s v _ (HX.out.no ((Kept.refl No wr).drew))
          have HRd : Hid (Rf wr.drew r ag cg av cv ah ch X) := HR.out.no ((Kept.refl No wr).drew)
          have HCx : Hid (cnt (takeS X s v) ≤ j + 1) := Nat.le_trans (take_cnt HX.out.nd) (Nat.succ_le_succ HC.out)
          cases lk with
          | false =>
            cases htb : takeB X s with
            | false =>
              have HTB : Hid (takeB X s = false) := htb
              clear htb
              refine wp_region_held_drew (S := (fun w' : World => w'.cell? ⟨b, off + j * 3, none⟩ = some (.int .i64 s) ∧ w'.cell? ⟨b, off + j * 3 + 1, none⟩ = some (.int .i64 v) ∧ w'.cell? ⟨b, off + j * 3 + 2, none⟩ = some (.bool false))) (by kernel_rfl) ⟨e1, e2, e3⟩ (fun hHeld => ?_)
              refine wpAnyH_take (i := 0) (oi := _) (v := ?_) rfl (by kernel_rfl) (by kernel_rfl) (by kernel_rfl) (fun _ _ _ h => h) (Or.inl ⟨by kernel_rfl, ?_⟩) (by assumption) ?_
              rotate_left
              · intro w hSw
                (try dsimp only at hSw)
                first | (go_simp; done) | (go_simp; with_reducible rfl)
              (try simp only [List.getElem_toArray, List.getElem_cons_zero, List.getElem_cons_succ])
              (try simp only [Act.put, List.setIfInBounds_toArray, List.set_cons_zero, List.set_cons_succ])
              refine wpAnyH_take (i := 1) (oi := _) (v := ?_) rfl (by kernel_rfl) (by kernel_rfl) (by kernel_rfl) (fun _ _ _ h => h) (Or.inl ⟨by kernel_rfl, ?_⟩) (by assumption) ?_
              rotate_left
              · intro w hSw
                (try dsimp only at hSw)
                first | (go_simp; done) | (go_simp; with_reducible rfl)
              (try simp only [List.getElem_toArray, List.getElem_cons_zero, List.getElem_cons_succ])
              (try simp only [Act.put, List.setIfInBounds_toArray, List.set_cons_zero, List.set_cons_succ])
              refine wpAnyH_take (i := 2) (oi := _) (v := ?_) rfl (by kernel_rfl) (by kernel_rfl) (by kernel_rfl) (fun _ _ _ h => h) (Or.inl ⟨by kernel_rfl, ?_⟩) (by assumption) ?_
              rotate_left
              · intro w hSw
                (try dsimp only at hSw)
                first | (go_simp; done) | (go_simp; with_reducible rfl)
              (try simp only [List.getElem_toArray, List.getElem_cons_zero, List.getElem_cons_succ])
              (try simp only [Act.put, List.setIfInBounds_toArray, List.set_cons_zero, List.set_cons_succ])
              refine wpAnyH_take (i := 3) (oi := _) (v := ?_) rfl (by kernel_rfl) (by kernel_rfl) (by kernel_rfl) (fun _ _ _ h => h) (Or.inl ⟨by kernel_rfl, ?_⟩) (by assumption) ?_
              rotate_left
              · intro w hSw
                (try dsimp only at hSw)
                first | (go_simp; done) | (go_simp; with_reducible rfl)
              (try simp only [List.getElem_toArray, List.getElem_cons_zero, List.getElem_cons_succ])
              (try simp only [Act.put, List.setIfInBounds_toArray, List.set_cons_zero, List.set_cons_succ])
              refine wpAnyH_take (i := 4) (oi := _) (v := ?_) rfl (by kernel_rfl) (by kernel_rfl) (by kernel_rfl) (fun _ _ _ h => h) (Or.inl ⟨by kernel_rfl, ?_⟩) (by assumption) ?_
              rotate_left
              · intro w hSw
                (try dsimp only at hSw)
                first | (go_simp; done) | (go_simp; with_reducible rfl)
              (try simp only [List.getElem_toArray, List.getElem_cons_zero, List.getElem_cons_succ])
              (try simp only [Act.put, List.setIfInBounds_toArray, List.set_cons_zero, List.set_cons_succ])
              refine wpAnyH_take (i := 5) (oi := _) (v := ?_) rfl (by kernel_rfl) (by kernel_rfl) (by kernel_rfl) (fun _ _ _ h => h) (Or.inl ⟨by kernel_rfl, ?_⟩) (by assumption) ?_
              rotate_left
              · intro w hSw
                (try dsimp only at hSw)
                first | (go_simp; done) | (go_simp; with_reducible rfl)
              (try simp only [List.getElem_toArray, List.getElem_cons_zero, List.getElem_cons_succ])
              (try simp only [Act.put, List.setIfInBounds_toArray, List.set_cons_zero, List.set_cons_succ])
              refine wpAnyH_take (i := 6) (oi := _) (v := ?_) rfl (by kernel_rfl) (by kernel_rfl) (by kernel_rfl) (fun _ _ _ h => h) (Or.inl ⟨by kernel_rfl, ?_⟩) (by assumption) ?_
              rotate_left
              · intro w hSw
                (try dsimp only at hSw)
                first | (go_simp; done) | (go_simp; with_reducible rfl)
              (try simp only [List.getElem_toArray, List.getElem_cons_zero, List.getElem_cons_succ])
              (try simp only [Act.put, List.setIfInBounds_toArray, List.set_cons_zero, List.set_cons_succ])
              refine wpAnyH_take (i := 7) (oi := _) (v := ?_) rfl (by kernel_rfl) (by kernel_rfl) (by kernel_rfl) (fun _ _ _ h => h) (Or.inl ⟨by kernel_rfl, ?_⟩) (by assumption) ?_
              rotate_left
              · intro w hSw
                (try dsimp only at hSw)
                first | (go_simp; done) | (go_simp; with_reducible rfl)
              (try simp only [List.getElem_toArray, List.getElem_cons_zero, List.getElem_cons_succ])
              (try simp only [Act.put, List.setIfInBounds_toArray, List.set_cons_zero, List.set_cons_succ])
              refine wpAnyH_take (i := 8) (oi := _) (v := ?_) rfl (by kernel_rfl) (by kernel_rfl) (by kernel_rfl) (fun _ _ _ h => h) (Or.inl ⟨by kernel_rfl, ?_⟩) (by assumption) ?_
              rotate_left
              · intro w hSw
                (try dsimp only at hSw)
                first | (go_simp; done) | (go_simp; with_reducible rfl)
              (try simp only [List.getElem_toArray, List.getElem_cons_zero, List.getElem_cons_succ])
              (try simp only [Act.put, List.setIfInBounds_toArray, List.set_cons_zero, List.set_cons_succ])
              refine wpAnyH_take (i := 9) (oi := _) (v := ?_) rfl (by kernel_rfl) (by kernel_rfl) (by kernel_rfl) (fun _ _ _ h => h) (Or.inl ⟨by kernel_rfl, ?_⟩) (by assumption) ?_
              rotate_left
              · intro w hSw
                (try dsimp only at hSw)
                first | (go_simp; done) | (go_simp; with_reducible rfl)
              (try simp only [List.getElem_toArray, List.getElem_cons_zero, List.getElem_cons_succ])
              (try simp only [Act.put, List.setIfInBounds_toArray, List.set_cons_zero, List.set_cons_succ])
              refine wpAnyH_take (i := 10) (oi := _) (v := ?_) rfl (by kernel_rfl) (by kernel_rfl) (by kernel_rfl) (fun _ _ _ h => h) (Or.inl ⟨by kernel_rfl, ?_⟩) (by assumption) ?_
              rotate_left
              · intro w hSw
                (try dsimp only at hSw)
                first | (go_simp; done) | (go_simp; with_reducible rfl)
              (try simp only [List.getElem_toArray, List.getElem_cons_zero, List.getElem_cons_succ])
              (try simp only [Act.put, List.setIfInBounds_toArray, List.set_cons_zero, List.set_cons_succ])
              refine wpAnyH_take (i := 12) (oi := _) (v := ?_) rfl (by kernel_rfl) (by kernel_rfl) (by kernel_rfl) (fun _ _ _ h => h) (Or.inl ⟨by kernel_rfl, ?_⟩) (by assumption) ?_
              rotate_left
              · intro w hSw
                (try dsimp only at hSw)
                first | (go_simp; done) | (go_simp; with_reducible rfl)
              (try simp only [List.getElem_toArray, List.getElem_cons_zero, List.getElem_cons_succ])
              (try simp only [Act.put, List.setIfInBounds_toArray, List.set_cons_zero, List.set_cons_succ])
              refine wpAnyH_take (i := 13) (oi := _) (v := ?_) rfl (by kernel_rfl) (by kernel_rfl) (by kernel_rfl) (fun _ _ _ h => h) (Or.inl ⟨by kernel_rfl, ?_⟩) (by assumption) ?_
              rotate_left
              · intro w hSw
                (try dsimp only at hSw)
                first | (go_simp; done) | (go_simp; with_reducible rfl)
              (try simp only [List.getElem_toArray, List.getElem_cons_zero, List.getElem_cons_succ])
              (try simp only [Act.put, List.setIfInBounds_toArray, List.set_cons_zero, List.set_cons_succ])
              refine wpAnyH_take (i := 14) (oi := _) (v := ?_) rfl (by kernel_rfl) (by kernel_rfl) (by kernel_rfl) (fun _ _ _ h => h) (Or.inl ⟨by kernel_rfl, ?_⟩) (by assumption) ?_
              rotate_left
              · intro w hSw
                (try dsimp only at hSw)
                first | (go_simp; done) | (go_simp; with_reducible rfl)
              (try simp only [List.getElem_toArray, List.getElem_cons_zero, List.getElem_cons_succ])
              (try simp only [Act.put, List.setIfInBounds_toArray, List.set_cons_zero, List.set_cons_succ])
              refine wpAnyH_take (i := 15) (oi := _) (v := ?_) rfl (by kernel_rfl) (by kernel_rfl) (by kernel_rfl) (fun _ _ _ h => h) (Or.inl ⟨by kernel_rfl, ?_⟩) (by assumption) ?_
              rotate_left
              · intro w hSw
                (try dsimp only at hSw)
                first | (go_simp; done) | (go_simp; with_reducible rfl)
              (try simp only [List.getElem_toArray, List.getElem_cons_zero, List.getElem_cons_succ])
              (try simp only [Act.put, List.setIfInBounds_toArray, List.set_cons_zero, List.set_cons_succ])
              refine wpAnyH_take (i := 16) (oi := _) (v := ?_) rfl (by kernel_rfl) (by kernel_rfl) (by kernel_rfl) (fun _ _ _ h => h) (Or.inl ⟨by kernel_rfl, ?_⟩) (by assumption) ?_
              rotate_left
              · intro w hSw
                (try dsimp only at hSw)
                first | (go_simp; done) | (go_simp; with_reducible rfl)
              (try simp only [List.getElem_toArray, List.getElem_cons_zero, List.getElem_cons_succ])
              (try simp only [Act.put, List.setIfInBounds_toArray, List.set_cons_zero, List.set_cons_succ])
              refine wpAnyH_take (i := 17) (oi := _) (v := ?_) rfl (by kernel_rfl) (by kernel_rfl) (by kernel_rfl) (fun _ _ _ h => h) (Or.inl ⟨by kernel_rfl, ?_⟩) (by assumption) ?_
              rotate_left
              · intro w hSw
                (try dsimp only at hSw)
                first | (go_simp; done) | (go_simp; with_reducible rfl)
              (try simp only [List.getElem_toArray, List.getElem_cons_zero, List.getElem_cons_succ])
              (try simp only [Act.put, List.setIfInBounds_toArray, List.set_cons_zero, List.set_cons_succ])
              refine wpAnyH_take (i := 18) (oi := _) (v := ?_) rfl (by kernel_rfl) (by kernel_rfl) (by kernel_rfl) (fun _ _ _ h => h) (Or.inl ⟨by kernel_rfl, ?_⟩) (by assumption) ?_
              rotate_left
              · intro w hSw
                (try dsimp only at hSw)
                first | (go_simp; done) | (go_simp; with_reducible rfl)
              (try simp only [List.getElem_toArray, List.getElem_cons_zero, List.getElem_cons_succ])
              (try simp only [Act.put, List.setIfInBounds_toArray, List.set_cons_zero, List.set_cons_succ])
              refine wpAnyH_take (i := 19) (oi := _) (v := ?_) rfl (by kernel_rfl) (by kernel_rfl) (by kernel_rfl) (fun _ _ _ h => h) (Or.inl ⟨by kernel_rfl, ?_⟩) (by assumption) ?_
              rotate_left
              · intro w hSw
                (try dsimp only at hSw)
                first | (go_simp; done) | (go_simp; with_reducible rfl)
              (try simp only [List.getElem_toArray, List.getElem_cons_zero, List.getElem_cons_succ])
              (try simp only [Act.put, List.setIfInBounds_toArray, List.set_cons_zero, List.set_cons_succ])
              refine wpAnyH_take (i := 20) (oi := _) (v := ?_) rfl (by kernel_rfl) (by kernel_rfl) (by kernel_rfl) (fun _ _ _ h => h) (Or.inl ⟨by kernel_rfl, ?_⟩) (by assumption) ?_
              rotate_left
              · intro w hSw
                (try dsimp only at hSw)
                first | (go_simp; done) | (go_simp; with_reducible rfl)
              (try simp only [List.getElem_toArray, List.getElem_cons_zero, List.getElem_cons_succ])
              (try simp only [Act.put, List.setIfInBounds_toArray, List.set_cons_zero, List.set_cons_succ])
              refine wpAnyH_take (i := 21) (oi := _) (v := ?_) rfl (by kernel_rfl) (by kernel_rfl) (by kernel_rfl) (fun _ _ _ h => h) (Or.inl ⟨by kernel_rfl, ?_⟩) (by assumption) ?_
              rotate_left
              · intro w hSw
                (try dsimp only at hSw)
                first | (go_simp; done) | (go_simp; with_reducible rfl)
              (try simp only [List.getElem_toArray, List.getElem_cons_zero, List.getElem_cons_succ])
              (try simp only [Act.put, List.setIfInBounds_toArray, List.set_cons_zero, List.set_cons_succ])
              refine wpAnyH_take (i := 22) (oi := _) (v := ?_) rfl (by kernel_rfl) (by kernel_rfl) (by kernel_rfl) (fun _ _ _ h => h) (Or.inl ⟨by kernel_rfl, ?_⟩) (by assumption) ?_
              rotate_left
              · intro w hSw
                (try dsimp only at hSw)
                first | (go_simp; done) | (go_simp; with_reducible rfl)
              (try simp only [List.getElem_toArray, List.getElem_cons_zero, List.getElem_cons_succ])
              (try simp only [Act.put, List.setIfInBounds_toArray, List.set_cons_zero, List.set_cons_succ])
              refine wpAnyH_ready (rs := [11]) (by kernel_rfl) (by simp) ?_
              refine AllReadyH.cons (o := _) rfl (fun K hK => ?_) AllReadyH.nil
              clear hHeld
              go_simp
              refine Calls.mono HTkA.out ?_
              rintro e w6 ⟨rfl, hT6, hk6⟩
              have HT6 : Hid (Tal w6 (B + 1) B at' ct (takeS X s v)) := hT6
              have HR6 : Hid (Rf w6 r ag cg av cv ah ch X) := HRd.out.kept hk6 HXY.out.2.1
              have HK6 : Hid (Kept No w w6) := HKd.out.trans hk6 (fun _ e => e) (fun i hi e => by rcases e with rfl | rfl <;> omega)
              obtain ⟨p1, p2, p3⟩ := HCl.out w6 HK6.out
              rw [HTB.out]
              (try simp only)
              clear hT6 hk6
              refine hK.out _ _ ⟨p1, p2, p3⟩ (fun hHeld => ?_)
              clear hK K
              (try simp only [List.getElem_toArray, List.getElem_cons_zero, List.getElem_cons_succ])
              (try simp only [Act.put, List.setIfInBounds_toArray, List.set_cons_zero, List.set_cons_succ])
              refine wpAnyH_ready (rs := [23]) (by kernel_rfl) (by simp) ?_
              refine AllReadyH.cons (o := _) rfl (fun K hK => ?_) AllReadyH.nil
              clear hHeld
              go_simp
              refine Calls.mono (rtake_any r cg cv ch ag av ah X s v w6 HR6.out) ?_
              rintro e w7 ⟨rfl, hR7, hk7⟩
              have HR7 : Hid (Rf w7 r ag cg av cv ah ch (takeS X s v)) := hR7
              have HT7 : Hid (Tal w7 (B + 1) B at' ct (takeS X s v)) := HT6.out.kept hk7 HXY.out.1
              have HK7 : Hid (Kept No w w7) := HK6.out.trans hk7 (fun _ e => e) (fun i hi e => by have := HXY.out.2.2 i e; omega)
              obtain ⟨q1, q2, q3⟩ := HCl.out w7 HK7.out
              rw [HTB.out]
              (try simp only)
              clear hR7 hk7
              refine hK.out _ _ ⟨q1, q2, q3⟩ (fun hHeld => ?_)
              clear hK K
              (try simp only [List.getElem_toArray, List.getElem_cons_zero, List.getElem_cons_succ])
              (try simp only [Act.put, List.setIfInBounds_toArray, List.set_cons_zero, List.set_cons_succ])
              refine wpAnyH_take (i := 24) (oi := _) (v := ?_) rfl (by kernel_rfl) (by kernel_rfl) (by kernel_rfl) (fun _ _ _ h => h) (Or.inl ⟨by kernel_rfl, ?_⟩) (by assumption) ?_
              rotate_left
              · intro w hSw
                (try dsimp only at hSw)
                first | (go_simp; done) | (go_simp; with_reducible rfl)
              (try simp only [List.getElem_toArray, List.getElem_cons_zero, List.getElem_cons_succ])
              (try simp only [Act.put, List.setIfInBounds_toArray, List.set_cons_zero, List.set_cons_succ])
              refine wpAnyH_take (i := 25) (oi := _) (v := ?_) rfl (by kernel_rfl) (by kernel_rfl) (by kernel_rfl) (fun _ _ _ h => h) (Or.inl ⟨by kernel_rfl, ?_⟩) (by assumption) ?_
              rotate_left
              · intro w hSw
                (try dsimp only at hSw)
                first | (go_simp; done) | (go_simp; with_reducible rfl)
              (try simp only [List.getElem_toArray, List.getElem_cons_zero, List.getElem_cons_succ])
              (try simp only [Act.put, List.setIfInBounds_toArray, List.set_cons_zero, List.set_cons_succ])
              refine wpAnyH_take (i := 26) (oi := _) (v := ?_) rfl (by kernel_rfl) (by kernel_rfl) (by kernel_rfl) (fun _ _ _ h => h) (Or.inl ⟨by kernel_rfl, ?_⟩) (by assumption) ?_
              rotate_left
              · intro w hSw
                (try dsimp only at hSw)
                first | (go_simp; done) | (go_simp; with_reducible rfl)
              (try simp only [List.getElem_toArray, List.getElem_cons_zero, List.getElem_cons_succ])
              (try simp only [Act.put, List.setIfInBounds_toArray, List.set_cons_zero, List.set_cons_succ])
              refine wpAnyH_take (i := 27) (oi := _) (v := ?_) rfl (by kernel_rfl) (by kernel_rfl) (by kernel_rfl) (fun _ _ _ h => h) (Or.inl ⟨by kernel_rfl, ?_⟩) (by assumption) ?_
              rotate_left
              · intro w hSw
                (try dsimp only at hSw)
                first | (go_simp; done) | (go_simp; with_reducible rfl)
              (try simp only [List.getElem_toArray, List.getElem_cons_zero, List.getElem_cons_succ])
              (try simp only [Act.put, List.setIfInBounds_toArray, List.set_cons_zero, List.set_cons_succ])
              refine wpAnyH_take (i := 28) (oi := _) (v := ?_) rfl (by kernel_rfl) (by kernel_rfl) (by kernel_rfl) (fun _ _ _ h => h) (Or.inl ⟨by kernel_rfl, ?_⟩) (by assumption) ?_
              rotate_left
              · intro w hSw
                (try dsimp only at hSw)
                first | (go_simp; done) | (go_simp; with_reducible rfl)
              (try simp only [List.getElem_toArray, List.getElem_cons_zero, List.getElem_cons_succ])
              (try simp only [Act.put, List.setIfInBounds_toArray, List.set_cons_zero, List.set_cons_succ])
              refine wpAnyH_take (i := 29) (oi := _) (v := ?_) rfl (by kernel_rfl) (by kernel_rfl) (by kernel_rfl) (fun _ _ _ h => h) (Or.inl ⟨by kernel_rfl, ?_⟩) (by assumption) ?_
              rotate_left
              · intro w hSw
                (try dsimp only at hSw)
                first | (go_simp; done) | (go_simp; with_reducible rfl)
              (try simp only [List.getElem_toArray, List.getElem_cons_zero, List.getElem_cons_succ])
              (try simp only [Act.put, List.setIfInBounds_toArray, List.set_cons_zero, List.set_cons_succ])
              refine wpAnyH_take (i := 30) (oi := _) (v := ?_) rfl (by kernel_rfl) (by kernel_rfl) (by kernel_rfl) (fun _ _ _ h => h) (Or.inl ⟨by kernel_rfl, ?_⟩) (by assumption) ?_
              rotate_left
              · intro w hSw
                (try dsimp only at hSw)
                first | (go_simp; done) | (go_simp; with_reducible rfl)
              (try simp only [List.getElem_toArray, List.getElem_cons_zero, List.getElem_cons_succ])
              (try simp only [Act.put, List.setIfInBounds_toArray, List.set_cons_zero, List.set_cons_succ])
              refine wpAnyH_take (i := 31) (oi := _) (v := ?_) rfl (by kernel_rfl) (by kernel_rfl) (by kernel_rfl) (fun _ _ _ h => h) (Or.inl ⟨by kernel_rfl, ?_⟩) (by assumption) ?_
              rotate_left
              · intro w hSw
                (try dsimp only at hSw)
                first | (go_simp; done) | (go_simp; with_reducible rfl)
              (try simp only [List.getElem_toArray, List.getElem_cons_zero, List.getElem_cons_succ])
              (try simp only [Act.put, List.setIfInBounds_toArray, List.set_cons_zero, List.set_cons_succ])
              refine wpAnyH_take (i := 32) (oi := _) (v := undef) rfl (by kernel_rfl) (by kernel_rfl) (by kernel_rfl) (fun _ _ _ h => h) (Or.inr ⟨by kernel_rfl, rfl⟩) (by assumption) ?_
              (try simp only [List.getElem_toArray, List.getElem_cons_zero, List.getElem_cons_succ])
              (try simp only [Act.put, List.setIfInBounds_toArray, List.set_cons_zero, List.set_cons_succ])
              refine wpAnyH_take (i := 33) (oi := _) (v := undef) rfl (by kernel_rfl) (by kernel_rfl) (by kernel_rfl) (fun _ _ _ h => h) (Or.inr ⟨by kernel_rfl, rfl⟩) (by assumption) ?_
              (try simp only [List.getElem_toArray, List.getElem_cons_zero, List.getElem_cons_succ])
              (try simp only [Act.put, List.setIfInBounds_toArray, List.set_cons_zero, List.set_cons_succ])
              refine wpAnyH_take (i := 34) (oi := _) (v := undef) rfl (by kernel_rfl) (by kernel_rfl) (by kernel_rfl) (fun _ _ _ h => h) (Or.inr ⟨by kernel_rfl, rfl⟩) (by assumption) ?_
              (try simp only [List.getElem_toArray, List.getElem_cons_zero, List.getElem_cons_succ])
              (try simp only [Act.put, List.setIfInBounds_toArray, List.set_cons_zero, List.set_cons_succ])
              refine wpAnyH_take (i := 35) (oi := _) (v := undef) rfl (by kernel_rfl) (by kernel_rfl) (by kernel_rfl) (fun _ _ _ h => h) (Or.inr ⟨by kernel_rfl, rfl⟩) (by assumption) ?_
              (try simp only [List.getElem_toArray, List.getElem_cons_zero, List.getElem_cons_succ])
              (try simp only [Act.put, List.setIfInBounds_toArray, List.set_cons_zero, List.set_cons_succ])
              refine wpAnyH_take (i := 36) (oi := _) (v := ?_) rfl (by kernel_rfl) (by kernel_rfl) (by kernel_rfl) (fun _ _ _ h => h) (Or.inl ⟨by kernel_rfl, ?_⟩) (by assumption) ?_
              rotate_left
              · intro w hSw
                (try dsimp only at hSw)
                first | (go_simp; done) | (go_simp; with_reducible rfl)
              (try simp only [List.getElem_toArray, List.getElem_cons_zero, List.getElem_cons_succ])
              (try simp only [Act.put, List.setIfInBounds_toArray, List.set_cons_zero, List.set_cons_succ])
              refine wpAnyH_take (i := 37) (oi := _) (v := ?_) rfl (by kernel_rfl) (by kernel_rfl) (by kernel_rfl) (fun _ _ _ h => h) (Or.inl ⟨by kernel_rfl, ?_⟩) (by assumption) ?_
              rotate_left
              · intro w hSw
                (try dsimp only at hSw)
                first | (go_simp; done) | (go_simp; with_reducible rfl)
              (try simp only [List.getElem_toArray, List.getElem_cons_zero, List.getElem_cons_succ])
              (try simp only [Act.put, List.setIfInBounds_toArray, List.set_cons_zero, List.set_cons_succ])
              refine wpAnyH_done (by kernel_rfl) ?_ _
              go_wp2
              go_roundw
              case rel => exact ⟨j + 1, by go_num, by omega, ⟨_, HT7.out, HR7.out, HCx.out⟩, HK7⟩
              case measure => simp [intOf]; omega
            | true =>
              have HTB : Hid (takeB X s = true) := htb
              clear htb
              refine wp_region_held_drew (S := (fun w' : World => w'.cell? ⟨b, off + j * 3, none⟩ = some (.int .i64 s) ∧ w'.cell? ⟨b, off + j * 3 + 1, none⟩ = some (.int .i64 v) ∧ w'.cell? ⟨b, off + j * 3 + 2, none⟩ = some (.bool false))) (by kernel_rfl) ⟨e1, e2, e3⟩ (fun hHeld => ?_)
              refine wpAnyH_take (i := 0) (oi := _) (v := ?_) rfl (by kernel_rfl) (by kernel_rfl) (by kernel_rfl) (fun _ _ _ h => h) (Or.inl ⟨by kernel_rfl, ?_⟩) (by assumption) ?_
              rotate_left
              · intro w hSw
                (try dsimp only at hSw)
                first | (go_simp; done) | (go_simp; with_reducible rfl)
              (try simp only [List.getElem_toArray, List.getElem_cons_zero, List.getElem_cons_succ])
              (try simp only [Act.put, List.setIfInBounds_toArray, List.set_cons_zero, List.set_cons_succ])
              refine wpAnyH_take (i := 1) (oi := _) (v := ?_) rfl (by kernel_rfl) (by kernel_rfl) (by kernel_rfl) (fun _ _ _ h => h) (Or.inl ⟨by kernel_rfl, ?_⟩) (by assumption) ?_
              rotate_left
              · intro w hSw
                (try dsimp only at hSw)
                first | (go_simp; done) | (go_simp; with_reducible rfl)
              (try simp only [List.getElem_toArray, List.getElem_cons_zero, List.getElem_cons_succ])
              (try simp only [Act.put, List.setIfInBounds_toArray, List.set_cons_zero, List.set_cons_succ])
              refine wpAnyH_take (i := 2) (oi := _) (v := ?_) rfl (by kernel_rfl) (by kernel_rfl) (by kernel_rfl) (fun _ _ _ h => h) (Or.inl ⟨by kernel_rfl, ?_⟩) (by assumption) ?_
              rotate_left
              · intro w hSw
                (try dsimp only at hSw)
                first | (go_simp; done) | (go_simp; with_reducible rfl)
              (try simp only [List.getElem_toArray, List.getElem_cons_zero, List.getElem_cons_succ])
              (try simp only [Act.put, List.setIfInBounds_toArray, List.set_cons_zero, List.set_cons_succ])
              refine wpAnyH_take (i := 3) (oi := _) (v := ?_) rfl (by kernel_rfl) (by kernel_rfl) (by kernel_rfl) (fun _ _ _ h => h) (Or.inl ⟨by kernel_rfl, ?_⟩) (by assumption) ?_
              rotate_left
              · intro w hSw
                (try dsimp only at hSw)
                first | (go_simp; done) | (go_simp; with_reducible rfl)
              (try simp only [List.getElem_toArray, List.getElem_cons_zero, List.getElem_cons_succ])
              (try simp only [Act.put, List.setIfInBounds_toArray, List.set_cons_zero, List.set_cons_succ])
              refine wpAnyH_take (i := 4) (oi := _) (v := ?_) rfl (by kernel_rfl) (by kernel_rfl) (by kernel_rfl) (fun _ _ _ h => h) (Or.inl ⟨by kernel_rfl, ?_⟩) (by assumption) ?_
              rotate_left
              · intro w hSw
                (try dsimp only at hSw)
                first | (go_simp; done) | (go_simp; with_reducible rfl)
              (try simp only [List.getElem_toArray, List.getElem_cons_zero, List.getElem_cons_succ])
              (try simp only [Act.put, List.setIfInBounds_toArray, List.set_cons_zero, List.set_cons_succ])
              refine wpAnyH_take (i := 5) (oi := _) (v := ?_) rfl (by kernel_rfl) (by kernel_rfl) (by kernel_rfl) (fun _ _ _ h => h) (Or.inl ⟨by kernel_rfl, ?_⟩) (by assumption) ?_
              rotate_left
              · intro w hSw
                (try dsimp only at hSw)
                first | (go_simp; done) | (go_simp; with_reducible rfl)
              (try simp only [List.getElem_toArray, List.getElem_cons_zero, List.getElem_cons_succ])
              (try simp only [Act.put, List.setIfInBounds_toArray, List.set_cons_zero, List.set_cons_succ])
              refine wpAnyH_take (i := 6) (oi := _) (v := ?_) rfl (by kernel_rfl) (by kernel_rfl) (by kernel_rfl) (fun _ _ _ h => h) (Or.inl ⟨by kernel_rfl, ?_⟩) (by assumption) ?_
              rotate_left
              · intro w hSw
                (try dsimp only at hSw)
                first | (go_simp; done) | (go_simp; with_reducible rfl)
              (try simp only [List.getElem_toArray, List.getElem_cons_zero, List.getElem_cons_succ])
              (try simp only [Act.put, List.setIfInBounds_toArray, List.set_cons_zero, List.set_cons_succ])
              refine wpAnyH_take (i := 7) (oi := _) (v := ?_) rfl (by kernel_rfl) (by kernel_rfl) (by kernel_rfl) (fun _ _ _ h => h) (Or.inl ⟨by kernel_rfl, ?_⟩) (by assumption) ?_
              rotate_left
              · intro w hSw
                (try dsimp only at hSw)
                first | (go_simp; done) | (go_simp; with_reducible rfl)
              (try simp only [List.getElem_toArray, List.getElem_cons_zero, List.getElem_cons_succ])
              (try simp only [Act.put, List.setIfInBounds_toArray, List.set_cons_zero, List.set_cons_succ])
              refine wpAnyH_take (i := 8) (oi := _) (v := ?_) rfl (by kernel_rfl) (by kernel_rfl) (by kernel_rfl) (fun _ _ _ h => h) (Or.inl ⟨by kernel_rfl, ?_⟩) (by assumption) ?_
              rotate_left
              · intro w hSw
                (try dsimp only at hSw)
                first | (go_simp; done) | (go_simp; with_reducible rfl)
              (try simp only [List.getElem_toArray, List.getElem_cons_zero, List.getElem_cons_succ])
              (try simp only [Act.put, List.setIfInBounds_toArray, List.set_cons_zero, List.set_cons_succ])
              refine wpAnyH_take (i := 9) (oi := _) (v := ?_) rfl (by kernel_rfl) (by kernel_rfl) (by kernel_rfl) (fun _ _ _ h => h) (Or.inl ⟨by kernel_rfl, ?_⟩) (by assumption) ?_
              rotate_left
              · intro w hSw
                (try dsimp only at hSw)
                first | (go_simp; done) | (go_simp; with_reducible rfl)
              (try simp only [List.getElem_toArray, List.getElem_cons_zero, List.getElem_cons_succ])
              (try simp only [Act.put, List.setIfInBounds_toArray, List.set_cons_zero, List.set_cons_succ])
              refine wpAnyH_take (i := 10) (oi := _) (v := ?_) rfl (by kernel_rfl) (by kernel_rfl) (by kernel_rfl) (fun _ _ _ h => h) (Or.inl ⟨by kernel_rfl, ?_⟩) (by assumption) ?_
              rotate_left
              · intro w hSw
                (try dsimp only at hSw)
                first | (go_simp; done) | (go_simp; with_reducible rfl)
              (try simp only [List.getElem_toArray, List.getElem_cons_zero, List.getElem_cons_succ])
              (try simp only [Act.put, List.setIfInBounds_toArray, List.set_cons_zero, List.set_cons_succ])
              refine wpAnyH_take (i := 12) (oi := _) (v := ?_) rfl (by kernel_rfl) (by kernel_rfl) (by kernel_rfl) (fun _ _ _ h => h) (Or.inl ⟨by kernel_rfl, ?_⟩) (by assumption) ?_
              rotate_left
              · intro w hSw
                (try dsimp only at hSw)
                first | (go_simp; done) | (go_simp; with_reducible rfl)
              (try simp only [List.getElem_toArray, List.getElem_cons_zero, List.getElem_cons_succ])
              (try simp only [Act.put, List.setIfInBounds_toArray, List.set_cons_zero, List.set_cons_succ])
              refine wpAnyH_take (i := 13) (oi := _) (v := ?_) rfl (by kernel_rfl) (by kernel_rfl) (by kernel_rfl) (fun _ _ _ h => h) (Or.inl ⟨by kernel_rfl, ?_⟩) (by assumption) ?_
              rotate_left
              · intro w hSw
                (try dsimp only at hSw)
                first | (go_simp; done) | (go_simp; with_reducible rfl)
              (try simp only [List.getElem_toArray, List.getElem_cons_zero, List.getElem_cons_succ])
              (try simp only [Act.put, List.setIfInBounds_toArray, List.set_cons_zero, List.set_cons_succ])
              refine wpAnyH_take (i := 14) (oi := _) (v := ?_) rfl (by kernel_rfl) (by kernel_rfl) (by kernel_rfl) (fun _ _ _ h => h) (Or.inl ⟨by kernel_rfl, ?_⟩) (by assumption) ?_
              rotate_left
              · intro w hSw
                (try dsimp only at hSw)
                first | (go_simp; done) | (go_simp; with_reducible rfl)
              (try simp only [List.getElem_toArray, List.getElem_cons_zero, List.getElem_cons_succ])
              (try simp only [Act.put, List.setIfInBounds_toArray, List.set_cons_zero, List.set_cons_succ])
              refine wpAnyH_take (i := 15) (oi := _) (v := ?_) rfl (by kernel_rfl) (by kernel_rfl) (by kernel_rfl) (fun _ _ _ h => h) (Or.inl ⟨by kernel_rfl, ?_⟩) (by assumption) ?_
              rotate_left
              · intro w hSw
                (try dsimp only at hSw)
                first | (go_simp; done) | (go_simp; with_reducible rfl)
              (try simp only [List.getElem_toArray, List.getElem_cons_zero, List.getElem_cons_succ])
              (try simp only [Act.put, List.setIfInBounds_toArray, List.set_cons_zero, List.set_cons_succ])
              refine wpAnyH_take (i := 16) (oi := _) (v := ?_) rfl (by kernel_rfl) (by kernel_rfl) (by kernel_rfl) (fun _ _ _ h => h) (Or.inl ⟨by kernel_rfl, ?_⟩) (by assumption) ?_
              rotate_left
              · intro w hSw
                (try dsimp only at hSw)
                first | (go_simp; done) | (go_simp; with_reducible rfl)
              (try simp only [List.getElem_toArray, List.getElem_cons_zero, List.getElem_cons_succ])
              (try simp only [Act.put, List.setIfInBounds_toArray, List.set_cons_zero, List.set_cons_succ])
              refine wpAnyH_take (i := 17) (oi := _) (v := ?_) rfl (by kernel_rfl) (by kernel_rfl) (by kernel_rfl) (fun _ _ _ h => h) (Or.inl ⟨by kernel_rfl, ?_⟩) (by assumption) ?_
              rotate_left
              · intro w hSw
                (try dsimp only at hSw)
                first | (go_simp; done) | (go_simp; with_reducible rfl)
              (try simp only [List.getElem_toArray, List.getElem_cons_zero, List.getElem_cons_succ])
              (try simp only [Act.put, List.setIfInBounds_toArray, List.set_cons_zero, List.set_cons_succ])
              refine wpAnyH_take (i := 18) (oi := _) (v := ?_) rfl (by kernel_rfl) (by kernel_rfl) (by kernel_rfl) (fun _ _ _ h => h) (Or.inl ⟨by kernel_rfl, ?_⟩) (by assumption) ?_
              rotate_left
              · intro w hSw
                (try dsimp only at hSw)
                first | (go_simp; done) | (go_simp; with_reducible rfl)
              (try simp only [List.getElem_toArray, List.getElem_cons_zero, List.getElem_cons_succ])
              (try simp only [Act.put, List.setIfInBounds_toArray, List.set_cons_zero, List.set_cons_succ])
              refine wpAnyH_take (i := 19) (oi := _) (v := ?_) rfl (by kernel_rfl) (by kernel_rfl) (by kernel_rfl) (fun _ _ _ h => h) (Or.inl ⟨by kernel_rfl, ?_⟩) (by assumption) ?_
              rotate_left
              · intro w hSw
                (try dsimp only at hSw)
                first | (go_simp; done) | (go_simp; with_reducible rfl)
              (try simp only [List.getElem_toArray, List.getElem_cons_zero, List.getElem_cons_succ])
              (try simp only [Act.put, List.setIfInBounds_toArray, List.set_cons_zero, List.set_cons_succ])
              refine wpAnyH_take (i := 20) (oi := _) (v := ?_) rfl (by kernel_rfl) (by kernel_rfl) (by kernel_rfl) (fun _ _ _ h => h) (Or.inl ⟨by kernel_rfl, ?_⟩) (by assumption) ?_
              rotate_left
              · intro w hSw
                (try dsimp only at hSw)
                first | (go_simp; done) | (go_simp; with_reducible rfl)
              (try simp only [List.getElem_toArray, List.getElem_cons_zero, List.getElem_cons_succ])
              (try simp only [Act.put, List.setIfInBounds_toArray, List.set_cons_zero, List.set_cons_succ])
              refine wpAnyH_take (i := 21) (oi := _) (v := ?_) rfl (by kernel_rfl) (by kernel_rfl) (by kernel_rfl) (fun _ _ _ h => h) (Or.inl ⟨by kernel_rfl, ?_⟩) (by assumption) ?_
              rotate_left
              · intro w hSw
                (try dsimp only at hSw)
                first | (go_simp; done) | (go_simp; with_reducible rfl)
              (try simp only [List.getElem_toArray, List.getElem_cons_zero, List.getElem_cons_succ])
              (try simp only [Act.put, List.setIfInBounds_toArray, List.set_cons_zero, List.set_cons_succ])
              refine wpAnyH_take (i := 22) (oi := _) (v := ?_) rfl (by kernel_rfl) (by kernel_rfl) (by kernel_rfl) (fun _ _ _ h => h) (Or.inl ⟨by kernel_rfl, ?_⟩) (by assumption) ?_
              rotate_left
              · intro w hSw
                (try dsimp only at hSw)
                first | (go_simp; done) | (go_simp; with_reducible rfl)
              (try simp only [List.getElem_toArray, List.getElem_cons_zero, List.getElem_cons_succ])
              (try simp only [Act.put, List.setIfInBounds_toArray, List.set_cons_zero, List.set_cons_succ])
              refine wpAnyH_ready (rs := [11]) (by kernel_rfl) (by simp) ?_
              refine AllReadyH.cons (o := _) rfl (fun K hK => ?_) AllReadyH.nil
              clear hHeld
              go_simp
              refine Calls.mono HTkA.out ?_
              rintro e w6 ⟨rfl, hT6, hk6⟩
              have HT6 : Hid (Tal w6 (B + 1) B at' ct (takeS X s v)) := hT6
              have HR6 : Hid (Rf w6 r ag cg av cv ah ch X) := HRd.out.kept hk6 HXY.out.2.1
              have HK6 : Hid (Kept No w w6) := HKd.out.trans hk6 (fun _ e => e) (fun i hi e => by rcases e with rfl | rfl <;> omega)
              obtain ⟨p1, p2, p3⟩ := HCl.out w6 HK6.out
              rw [HTB.out]
              (try simp only)
              clear hT6 hk6
              refine hK.out _ _ ⟨p1, p2, p3⟩ (fun hHeld => ?_)
              clear hK K
              (try simp only [List.getElem_toArray, List.getElem_cons_zero, List.getElem_cons_succ])
              (try simp only [Act.put, List.setIfInBounds_toArray, List.set_cons_zero, List.set_cons_succ])
              refine wpAnyH_ready (rs := [23]) (by kernel_rfl) (by simp) ?_
              refine AllReadyH.cons (o := _) rfl (fun K hK => ?_) AllReadyH.nil
              clear hHeld
              go_simp
              refine Calls.mono (rtake_any r cg cv ch ag av ah X s v w6 HR6.out) ?_
              rintro e w7 ⟨rfl, hR7, hk7⟩
              have HR7 : Hid (Rf w7 r ag cg av cv ah ch (takeS X s v)) := hR7
              have HT7 : Hid (Tal w7 (B + 1) B at' ct (takeS X s v)) := HT6.out.kept hk7 HXY.out.1
              have HK7 : Hid (Kept No w w7) := HK6.out.trans hk7 (fun _ e => e) (fun i hi e => by have := HXY.out.2.2 i e; omega)
              obtain ⟨q1, q2, q3⟩ := HCl.out w7 HK7.out
              rw [HTB.out]
              (try simp only)
              clear hR7 hk7
              refine hK.out _ _ ⟨q1, q2, q3⟩ (fun hHeld => ?_)
              clear hK K
              (try simp only [List.getElem_toArray, List.getElem_cons_zero, List.getElem_cons_succ])
              (try simp only [Act.put, List.setIfInBounds_toArray, List.set_cons_zero, List.set_cons_succ])
              refine wpAnyH_take (i := 24) (oi := _) (v := ?_) rfl (by kernel_rfl) (by kernel_rfl) (by kernel_rfl) (fun _ _ _ h => h) (Or.inl ⟨by kernel_rfl, ?_⟩) (by assumption) ?_
              rotate_left
              · intro w hSw
                (try dsimp only at hSw)
                first | (go_simp; done) | (go_simp; with_reducible rfl)
              (try simp only [List.getElem_toArray, List.getElem_cons_zero, List.getElem_cons_succ])
              (try simp only [Act.put, List.setIfInBounds_toArray, List.set_cons_zero, List.set_cons_succ])
              refine wpAnyH_take (i := 25) (oi := _) (v := ?_) rfl (by kernel_rfl) (by kernel_rfl) (by kernel_rfl) (fun _ _ _ h => h) (Or.inl ⟨by kernel_rfl, ?_⟩) (by assumption) ?_
              rotate_left
              · intro w hSw
                (try dsimp only at hSw)
                first | (go_simp; done) | (go_simp; with_reducible rfl)
              (try simp only [List.getElem_toArray, List.getElem_cons_zero, List.getElem_cons_succ])
              (try simp only [Act.put, List.setIfInBounds_toArray, List.set_cons_zero, List.set_cons_succ])
              refine wpAnyH_take (i := 26) (oi := _) (v := ?_) rfl (by kernel_rfl) (by kernel_rfl) (by kernel_rfl) (fun _ _ _ h => h) (Or.inl ⟨by kernel_rfl, ?_⟩) (by assumption) ?_
              rotate_left
              · intro w hSw
                (try dsimp only at hSw)
                first | (go_simp; done) | (go_simp; with_reducible rfl)
              (try simp only [List.getElem_toArray, List.getElem_cons_zero, List.getElem_cons_succ])
              (try simp only [Act.put, List.setIfInBounds_toArray, List.set_cons_zero, List.set_cons_succ])
              refine wpAnyH_take (i := 27) (oi := _) (v := ?_) rfl (by kernel_rfl) (by kernel_rfl) (by kernel_rfl) (fun _ _ _ h => h) (Or.inl ⟨by kernel_rfl, ?_⟩) (by assumption) ?_
              rotate_left
              · intro w hSw
                (try dsimp only at hSw)
                first | (go_simp; done) | (go_simp; with_reducible rfl)
              (try simp only [List.getElem_toArray, List.getElem_cons_zero, List.getElem_cons_succ])
              (try simp only [Act.put, List.setIfInBounds_toArray, List.set_cons_zero, List.set_cons_succ])
              refine wpAnyH_take (i := 28) (oi := _) (v := ?_) rfl (by kernel_rfl) (by kernel_rfl) (by kernel_rfl) (fun _ _ _ h => h) (Or.inl ⟨by kernel_rfl, ?_⟩) (by assumption) ?_
              rotate_left
              · intro w hSw
                (try dsimp only at hSw)
                first | (go_simp; done) | (go_simp; with_reducible rfl)
              (try simp only [List.getElem_toArray, List.getElem_cons_zero, List.getElem_cons_succ])
              (try simp only [Act.put, List.setIfInBounds_toArray, List.set_cons_zero, List.set_cons_succ])
              refine wpAnyH_take (i := 29) (oi := _) (v := ?_) rfl (by kernel_rfl) (by kernel_rfl) (by kernel_rfl) (fun _ _ _ h => h) (Or.inl ⟨by kernel_rfl, ?_⟩) (by assumption) ?_
              rotate_left
              · intro w hSw
                (try dsimp only at hSw)
                first | (go_simp; done) | (go_simp; with_reducible rfl)
              (try simp only [List.getElem_toArray, List.getElem_cons_zero, List.getElem_cons_succ])
              (try simp only [Act.put, List.setIfInBounds_toArray, List.set_cons_zero, List.set_cons_succ])
              refine wpAnyH_take (i := 30) (oi := _) (v := ?_) rfl (by kernel_rfl) (by kernel_rfl) (by kernel_rfl) (fun _ _ _ h => h) (Or.inl ⟨by kernel_rfl, ?_⟩) (by assumption) ?_
              rotate_left
              · intro w hSw
                (try dsimp only at hSw)
                first | (go_simp; done) | (go_simp; with_reducible rfl)
              (try simp only [List.getElem_toArray, List.getElem_cons_zero, List.getElem_cons_succ])
              (try simp only [Act.put, List.setIfInBounds_toArray, List.set_cons_zero, List.set_cons_succ])
              refine wpAnyH_take (i := 31) (oi := _) (v := ?_) rfl (by kernel_rfl) (by kernel_rfl) (by kernel_rfl) (fun _ _ _ h => h) (Or.inl ⟨by kernel_rfl, ?_⟩) (by assumption) ?_
              rotate_left
              · intro w hSw
                (try dsimp only at hSw)
                first | (go_simp; done) | (go_simp; with_reducible rfl)
              (try simp only [List.getElem_toArray, List.getElem_cons_zero, List.getElem_cons_succ])
              (try simp only [Act.put, List.setIfInBounds_toArray, List.set_cons_zero, List.set_cons_succ])
              refine wpAnyH_take (i := 32) (oi := _) (v := undef) rfl (by kernel_rfl) (by kernel_rfl) (by kernel_rfl) (fun _ _ _ h => h) (Or.inr ⟨by kernel_rfl, rfl⟩) (by assumption) ?_
              (try simp only [List.getElem_toArray, List.getElem_cons_zero, List.getElem_cons_succ])
              (try simp only [Act.put, List.setIfInBounds_toArray, List.set_cons_zero, List.set_cons_succ])
              refine wpAnyH_take (i := 33) (oi := _) (v := undef) rfl (by kernel_rfl) (by kernel_rfl) (by kernel_rfl) (fun _ _ _ h => h) (Or.inr ⟨by kernel_rfl, rfl⟩) (by assumption) ?_
              (try simp only [List.getElem_toArray, List.getElem_cons_zero, List.getElem_cons_succ])
              (try simp only [Act.put, List.setIfInBounds_toArray, List.set_cons_zero, List.set_cons_succ])
              refine wpAnyH_take (i := 34) (oi := _) (v := undef) rfl (by kernel_rfl) (by kernel_rfl) (by kernel_rfl) (fun _ _ _ h => h) (Or.inr ⟨by kernel_rfl, rfl⟩) (by assumption) ?_
              (try simp only [List.getElem_toArray, List.getElem_cons_zero, List.getElem_cons_succ])
              (try simp only [Act.put, List.setIfInBounds_toArray, List.set_cons_zero, List.set_cons_succ])
              refine wpAnyH_take (i := 35) (oi := _) (v := undef) rfl (by kernel_rfl) (by kernel_rfl) (by kernel_rfl) (fun _ _ _ h => h) (Or.inr ⟨by kernel_rfl, rfl⟩) (by assumption) ?_
              (try simp only [List.getElem_toArray, List.getElem_cons_zero, List.getElem_cons_succ])
              (try simp only [Act.put, List.setIfInBounds_toArray, List.set_cons_zero, List.set_cons_succ])
              refine wpAnyH_take (i := 36) (oi := _) (v := ?_) rfl (by kernel_rfl) (by kernel_rfl) (by kernel_rfl) (fun _ _ _ h => h) (Or.inl ⟨by kernel_rfl, ?_⟩) (by assumption) ?_
              rotate_left
              · intro w hSw
                (try dsimp only at hSw)
                first | (go_simp; done) | (go_simp; with_reducible rfl)
              (try simp only [List.getElem_toArray, List.getElem_cons_zero, List.getElem_cons_succ])
              (try simp only [Act.put, List.setIfInBounds_toArray, List.set_cons_zero, List.set_cons_succ])
              refine wpAnyH_take (i := 37) (oi := _) (v := ?_) rfl (by kernel_rfl) (by kernel_rfl) (by kernel_rfl) (fun _ _ _ h => h) (Or.inl ⟨by kernel_rfl, ?_⟩) (by assumption) ?_
              rotate_left
              · intro w hSw
                (try dsimp only at hSw)
                first | (go_simp; done) | (go_simp; with_reducible rfl)
              (try simp only [List.getElem_toArray, List.getElem_cons_zero, List.getElem_cons_succ])
              (try simp only [Act.put, List.setIfInBounds_toArray, List.set_cons_zero, List.set_cons_succ])
              refine wpAnyH_done (by kernel_rfl) ?_ _
              go_wp2
              go_roundw
              case rel => exact ⟨j + 1, by go_num, by omega, ⟨_, HT7.out, HR7.out, HCx.out⟩, HK7⟩
              case measure => simp [intOf]; omega
          | true =>
            cases htb : takeB X s with
            | false =>
              have HTB : Hid (takeB X s = false) := htb
              clear htb
              go_region_held3 (fun w' => w'.cell? ⟨b, off + j * 3, none⟩ = some (.int .i64 s) ∧ w'.cell? ⟨b, off + j * 3 + 1, none⟩ = some (.int .i64 v) ∧ w'.cell? ⟨b, off + j * 3 + 2, none⟩ = some (.bool true)) (go_keep) (first
                | (go_at_call 14
                   refine Calls.mono HTkA.out ?_
                   rintro e w6 ⟨rfl, hT6, hk6⟩
                   have HT6 : Hid (Tal w6 (B + 1) B at' ct (takeS X s v)) := hT6
                   have HR6 : Hid (Rf w6 r ag cg av cv ah ch X) := HRd.out.kept hk6 HXY.out.2.1
                   have HK6 : Hid (Kept No w w6) := HKd.out.trans hk6 (fun _ e => e) (fun i hi e => by rcases e with rfl | rfl <;> omega)
                   obtain ⟨p1, p2, p3⟩ := HCl.out w6 HK6.out
                   rw [HTB.out]
                   clear hT6 hk6)
                | (go_at_call 15
                   refine Calls.mono (rtake_any r cg cv ch ag av ah X s v w6 HR6.out) ?_
                   rintro e w7 ⟨rfl, hR7, hk7⟩
                   have HR7 : Hid (Rf w7 r ag cg av cv ah ch (takeS X s v)) := hR7
                   have HT7 : Hid (Tal w7 (B + 1) B at' ct (takeS X s v)) := HT6.out.kept hk7 HXY.out.1
                   have HK7 : Hid (Kept No w w7) := HK6.out.trans hk7 (fun _ e => e) (fun i hi e => by have := HXY.out.2.2 i e; omega)
                   obtain ⟨q1, q2, q3⟩ := HCl.out w7 HK7.out
                   rw [HTB.out]
                   clear hR7 hk7)
                | (go_at_call 16
                   refine Calls.mono (shows_any (B + 1) B ct at' r cg cv ch ag av ah (takeS X s v) w7 HT7.out HR7.out (by have := HCx.out; omega)) ?_
                   rintro e w8 ⟨rfl, hk8⟩
                   have HR8 : Hid (Rf w8 r ag cg av cv ah ch (takeS X s v)) := HR7.out.no hk8
                   have HT8 : Hid (Tal w8 (B + 1) B at' ct (takeS X s v)) := HT7.out.no hk8
                   have HK8 : Hid (Kept No w w8) := HK7.out.then hk8
                   obtain ⟨r1, r2, r3⟩ := HCl.out w8 HK8.out
                   clear hk8))
              go_wp2
              go_roundw
              case rel => exact ⟨j + 1, by go_num, by omega, ⟨_, HT8.out, HR8.out, HCx.out⟩, HK8⟩
              case measure => simp [intOf]; omega
            | true =>
              have HTB : Hid (takeB X s = true) := htb
              clear htb
              go_region_held3 (fun w' => w'.cell? ⟨b, off + j * 3, none⟩ = some (.int .i64 s) ∧ w'.cell? ⟨b, off + j * 3 + 1, none⟩ = some (.int .i64 v) ∧ w'.cell? ⟨b, off + j * 3 + 2, none⟩ = some (.bool true)) (go_keep) (first
                | (go_at_call 14
                   refine Calls.mono HTkA.out ?_
                   rintro e w6 ⟨rfl, hT6, hk6⟩
                   have HT6 : Hid (Tal w6 (B + 1) B at' ct (takeS X s v)) := hT6
                   have HR6 : Hid (Rf w6 r ag cg av cv ah ch X) := HRd.out.kept hk6 HXY.out.2.1
                   have HK6 : Hid (Kept No w w6) := HKd.out.trans hk6 (fun _ e => e) (fun i hi e => by rcases e with rfl | rfl <;> omega)
                   obtain ⟨p1, p2, p3⟩ := HCl.out w6 HK6.out
                   rw [HTB.out]
                   clear hT6 hk6)
                | (go_at_call 15
                   refine Calls.mono (rtake_any r cg cv ch ag av ah X s v w6 HR6.out) ?_
                   rintro e w7 ⟨rfl, hR7, hk7⟩
                   have HR7 : Hid (Rf w7 r ag cg av cv ah ch (takeS X s v)) := hR7
                   have HT7 : Hid (Tal w7 (B + 1) B at' ct (takeS X s v)) := HT6.out.kept hk7 HXY.out.1
                   have HK7 : Hid (Kept No w w7) := HK6.out.trans hk7 (fun _ e => e) (fun i hi e => by have := HXY.out.2.2 i e; omega)
                   obtain ⟨q1, q2, q3⟩ := HCl.out w7 HK7.out
                   rw [HTB.out]
                   clear hR7 hk7)
                | (go_at_call 16
                   refine Calls.mono (shows_any (B + 1) B ct at' r cg cv ch ag av ah (takeS X s v) w7 HT7.out HR7.out (by have := HCx.out; omega)) ?_
                   rintro e w8 ⟨rfl, hk8⟩
                   have HR8 : Hid (Rf w8 r ag cg av cv ah ch (takeS X s v)) := HR7.out.no hk8
                   have HT8 : Hid (Tal w8 (B + 1) B at' ct (takeS X s v)) := HT7.out.no hk8
                   have HK8 : Hid (Kept No w w8) := HK7.out.then hk8
                   obtain ⟨r1, r2, r3⟩ := HCl.out w8 HK8.out
                   clear hk8))
              go_wp2
              go_roundw
              case rel => exact ⟨j + 1, by go_num, by omega, ⟨_, HT8.out, HR8.out, HCx.out⟩, HK8⟩
              case measure => simp [intOf]; omega
        · have hjl' : ¬ (j : Int) < (n2 : Int) := by omega
          have HSh : Hid (∀ W, Kept No wr W → Calls Try.prog 16 #[.pointer (some ⟨B + 1, 0, none⟩), .pointer (some ⟨r, 0, none⟩)] W fun e w' => e = .returned (.bool true) ∧ Kept No W w') := fun W hk => shows_any (B + 1) B ct at' r cg cv ch ag av ah X W (HX.out.no hk) (HR.out.no hk) (by have := HC.out; omega)
          have HK0 : Hid (Kept No wr wr) := Kept.refl _ _
          go_wp2_with (go_at_call 16
                       refine Calls.mono (HSh.out _ HK0.out) ?_
                       rintro e w8 ⟨rfl, hk8⟩
                       have HKn : Hid (Kept No wr w8) := HK0.out.then hk8
                       have HK0 : Hid (Kept No wr w8) := HKn
                       clear hk8 HKn)
          all_goals go_ret
          all_goals exact ⟨rfl, (HKj.out.then HK0.out).below (Nat.le_refl _) (fun _ e => e.elim)⟩

end Go.Proofs.Ytmhjbkpojndhkaa
