import Derived.Test.YtnhjpghkmbgeaaaFo
namespace Go.Proofs.Ytnhjpghkmbgeaaa
open Go.RowKit
set_option linter.unusedVariables false
namespace wireForms

/-- At the head of a round: a Reader and a Writer beside it. -/
structure Inv (w wr : World) (B g lb : Nat) (bs : List Int) (i : Nat) : Prop where
  ex : ∃ st out a c, Rs wr g lb st ∧ Ws wr B B a c (some out) ∧ FI bs st out i
  kept : Kept No w wr
  hlb : lb < B
  hg : g < B
  hwg : w.heap.size ≤ g
  hB : w.heap.size ≤ B
  hBs : B ≤ wr.heap.size

/-- A read, and its answer put. -/
theorem Inv.step {w wr w5 w6 w7 : World} {B g lb : Nat} {bs : List Int} {i : Nat} {st : RS} {out : List Int} {a a' : Option Addr} {c c' : Nat} {k n : Int} {xa : Option Addr} {xm xc : Nat} {L : List Int}
    (hr : Rs wr g lb st) (hw : Ws wr B B a c (some out)) (hf : FI bs st out i) (hk : Kept No w wr) (hc : lb < B ∧ g < B ∧ w.heap.size ≤ g ∧ w.heap.size ≤ B ∧ B ≤ wr.heap.size) (hb : bs.length ≤ 140737488351232) (hkk : 1 ≤ k ∧ k ≤ 4)
    (hn : (readS st k).2.1 = n) (hL : (readS st k).2.2 = L) (hr5 : Rs w5 g lb (readS st k).1) (hk5 : Kept (Only g) wr w5) (h6 : Kept No w5 w6)
    (hw7 : Ws w7 B B a' c' (putIt (some out) ⟨k, n, xa, xm, xc, L⟩)) (hk7 : Kept (WrAt B a) w6 w7) : Inv w w7 B g lb bs (i + 1) := by
  have hs := hf.step hb k hkk xa xm xc
  rw [hn, hL] at hs
  rw [putIt_some _ hs.1] at hw7
  have hne : ∀ j, WrAt B a j → B ≤ j := fun j hj => hw.base hj
  refine ⟨⟨_, _, _, _, (hr5.no h6).kept hk7 (fun e => by have := hne _ e; omega) (fun e => by have := hne _ e; omega), hw7, hs.2.2.2⟩, ?_, hc.1, hc.2.1, hc.2.2.1, hc.2.2.2.1, ?_⟩
  · exact ((hk.fresh hk5 (fun j e => by have e' : j = g := e; omega)).then h6).fresh hk7 (fun j e => by have := hne j e; omega)
  · have h1 := hk5.size; have h2 := h6.size; have h3 := hk7.size; omega

set_option maxHeartbeats 4000000 in
theorem walk (a ca : Option Addr) (m cap cn cc : Nat) (zs ns : List Int) (w : World) (h : Sl w a m cap zs) (hns : ns.length = cn) (hcn : cn ≤ 9223372036854775807) (hi : Ints w ca ns) :
    Calls Try.prog 8 #[.slice a m cap, .slice ca cn cc] w fun e w' => e = .returned (.bool true) ∧ Below w.heap.size w w' := by
  have HS : Hid (Sl w a m cap zs) := h
  have HN : Hid (Ints w ca ns) := hi
  have HL : Hid (ns.length = cn) := hns
  have hbd := h.bd
  clear h hi hns
  go_enter Try.func8, Try.ntmps8
  go_wp2_with fail
  refine (lendN_any _ _ _ zs _ HS.out.len (by omega) HS.out.bytes).mono ?_
  rintro e w1 ⟨rfl, hB1, hK1⟩
  have HB1 : Hid (Blk w1 w.heap.size (lent zs 5)) := hB1
  have HK1 : Hid (Kept No w w1) := hK1
  clear hB1 hK1
  go_wp2_with fail
  refine (Read_any _ _ _ zs w1 (lent_sl HB1.out HS.out.len HS.out.u8 (by omega))).mono ?_
  rintro e w2 ⟨g, lb, rfl, hg, hlb, hr, hK2, hgl, hlbl⟩
  have HB2 : Hid (Blk w2 w.heap.size (lent zs 5)) := HB1.out.kept hK2 (fun e => e)
  have HR2 : Hid (Rs w2 g lb (.ok zs 0)) := hr
  have HK2 : Hid (Kept No w w2) := HK1.out.then hK2
  have HG : Hid (w.heap.size < g ∧ w.heap.size < lb ∧ g < w2.heap.size ∧ lb < w2.heap.size) := by have := HB1.out.lt; exact ⟨by omega, by omega, hgl, hlbl⟩
  clear hg hlb hr hK2 hgl hlbl HB1 HK1
  go_wp2_with fail
  refine (backN_any _ _ _ _ _ zs _ HS.out.len rfl (by omega) HB2.out (HS.out.no HK2.out).bytes).mono ?_
  rintro e w3 ⟨rfl, hK3⟩
  have HR3 : Hid (Rs w3 g lb (.ok zs 0)) := HR2.out.kept hK3 (fun e => by have e' : g = w.heap.size := e; have := HG.out.1; omega) (fun e => by have e' : lb = w.heap.size := e; have := HG.out.2.1; omega)
  have HK3 : Hid (Kept No w w3) := HK2.out.fresh hK3 (fun k e => by have h2 : k = w.heap.size := e; omega)
  have HG3 : Hid (w.heap.size ≤ g ∧ g < w3.heap.size ∧ lb < w3.heap.size) := by have h1 := HG.out; have h2 := hK3.size; exact ⟨by omega, by omega, by omega⟩
  clear hK3 HR2 HK2 HB2 HG
  go_wp2
  go_loopw [8] (fun i wr => ∃ k : Nat, k ≤ cn ∧ k ≤ 400 ∧ i = .int .i64 (k : Int) ∧ Hid (Inv w wr w3.heap.size g lb zs k)) (fun i _ => cn - (intOf i).toNat)
  case atStart =>
    refine ⟨0, Nat.zero_le _, Nat.zero_le _, rfl, ⟨.ok zs 0, [], none, 0, HR3.out.no ((Kept.refl _ _).alloc _), ⟨heap_new _ _, OwnS.nil _ _, Nat.le_refl _⟩, rfl, HS.out.u8⟩, HK3.out.alloc _, HG3.out.2.2, HG3.out.2.1, HG3.out.1, HK3.out.size, ?_⟩
    rw [World.heap_size_alloc1]; omega
  case round =>
    obtain ⟨k, hk, hk4, rfl, HI⟩ := hrel
    clear HR3 HK3 HG3
    obtain ⟨⟨st, out, wa, wc, hr, hws, hfi⟩, hkp, hlbB, hgB, hwg, hwB, hBs⟩ := HI.out
    have HR : Hid (Rs wr g lb st) := hr
    have HW : Hid (Ws wr w3.heap.size w3.heap.size wa wc (some out)) := hws
    have HF : Hid (FI zs st out k) := hfi
    have HKP : Hid (Kept No w wr) := hkp
    have HC : Hid (lb < w3.heap.size ∧ g < w3.heap.size ∧ w.heap.size ≤ g ∧ w.heap.size ≤ w3.heap.size ∧ w3.heap.size ≤ wr.heap.size) := ⟨hlbB, hgB, hwg, hwB, hBs⟩
    have HZ : Hid (zs.length = m) := HS.out.len
    clear hr hws hfi hkp hlbB hgB hwg hwB hBs HI
    by_cases hlt : k < cn ∧ k < 400
    · obtain ⟨hl1, hl2⟩ := hlt
      have i1 : (k : Int) < (cn : Int) := by omega
      have i2 : (k : Int) < 400 := by omega
      obtain ⟨b, off, rfl, hcl⟩ := (HN.out.no HKP.out) k (by rw [HL.out]; exact hl1)
      generalize ns[k]?.getD 0 = v at hcl
      go_wp2_with fail
      refine (round_any v 4 wr (by omega) (by omega)).mono ?_
      rintro e w4 ⟨rfl, rfl⟩
      have hrk := roundOf_lt v 4 (by omega)
      generalize roundOf v 4 = rk at hrk
      go_wp2_with fail
      refine (read_all g lb st (1 + (rk : Int)) w4 HR.out (by have := HC.out; omega) (by omega)).mono ?_
      rintro e w5 ⟨a5, m5, c5, rfl, hs5, ha5, hr5, hk5⟩
      have hst := HF.out.step (by rw [HZ.out]; exact hbd) (1 + (rk : Int)) (by omega) a5 m5 c5
      obtain ⟨n5, hn5⟩ : ∃ n, (readS st (1 + (rk : Int))).2.1 = n := ⟨_, rfl⟩
      obtain ⟨L5, hL5⟩ : ∃ L, (readS st (1 + (rk : Int))).2.2 = L := ⟨_, rfl⟩
      rw [hn5]
      rw [hL5] at hs5
      rw [hn5, hL5] at hst
      have HST : Hid ((1 + (rk : Int) = 1 → 0 ≤ n5) ∧ (-9223372036854775808 ≤ n5 ∧ n5 ≤ 9223372036854775807) ∧ out.length + L5.length ≤ zs.length + k) := ⟨hst.1, hst.2.1, hst.2.2.1⟩
      have HEN : Hid ((readS st (1 + (rk : Int))).2.1 = n5 ∧ (readS st (1 + (rk : Int))).2.2 = L5) := ⟨hn5, hL5⟩
      have HS5 : Hid (Sl w5 a5 m5 c5 L5) := hs5
      have HA5 : Hid (∀ i, At a5 i → w4.heap.size ≤ i) := ha5
      have HR5 : Hid (Rs w5 g lb (readS st (1 + (rk : Int))).1) := hr5
      have HK5 : Hid (Kept (Only g) w4 w5) := hk5
      have HW5 : Hid (Ws w5 w3.heap.size w3.heap.size wa wc (some out)) := HW.out.kept hk5 (fun j hj e => by have e' : j = g := e; have h1 := HW.out.base hj; have h2 := HC.out.2.1; omega)
      have HKL : Hid (k < cn) := hl1
      clear hs5 ha5 hr5 hk5 hst hn5 hL5 hcl i1 i2 hl1 hk
      go_wp2_with fail
      refine (put_any w3.heap.size w3.heap.size wa wc (some out) (1 + (rk : Int)) n5 a5 m5 c5 L5 _ (HW5.out.no ((Kept.refl _ _).alloc _)) (HS5.out.no ((Kept.refl _ _).alloc _)) HST.out.2.1.1 HST.out.2.1.2 (fun h0 j hj e => by have e1 := HA5.out j hj; have e2 := HW.out.lt e; omega) (by omega) (by have h1 := HST.out.2.2; have h2 := HZ.out; have h3 := HS5.out.len; simp only [stLen]; omega) (by have h1 := HC.out; have h2 := HK5.out.size; simp; omega)).mono ?_
      rintro e w7 ⟨rfl, a7, c7, hw7, hk7, hm7⟩
      have HI7 : Hid (Inv w w7 w3.heap.size g lb zs (k + 1)) := Inv.step HR.out HW.out HF.out HKP.out HC.out (by rw [HZ.out]; exact hbd) (by omega) HEN.out.1 HEN.out.2 HR5.out HK5.out ((Kept.refl _ _).alloc _) hw7 hk7
      clear hw7 hk7 hm7
      go_wp2
      go_roundw
      case rel => exact ⟨k + 1, by have := HKL.out; omega, by omega, by go_num, HI7⟩
      case measure => have := HKL.out; simp [intOf]; omega
    · by_cases hl1 : k < cn
      · have i1 : (k : Int) < (cn : Int) := by omega
        have i2 : ¬ (k : Int) < 400 := by omega
        clear hlt
        go_wp2_with fail
        refine (End_all g lb st wr HR.out).mono ?_
        rintro e w4 ⟨rfl, hr4, hk4'⟩
        have HR4 : Hid (Rs w4 g lb (endS st)) := hr4
        have HK4 : Hid (Kept No w w4) := HKP.out.fresh hk4' (fun i e => by have e' : i = g := e; have := HC.out; omega)
        have HW4 : Hid (Ws w4 w3.heap.size w3.heap.size wa wc (some out)) := HW.out.kept hk4' (fun j hj e => by have e' : j = g := e; have h1 := HW.out.base hj; have h2 := HC.out.2.1; omega)
        clear hr4 hk4'
        go_wp2_with fail
        refine (Err_all g lb (endS st) w4 HR4.out).mono ?_
        rintro e w5 ⟨rfl, n5, hw5⟩
        have HK5 : Hid (Kept No w w5) := by rw [hw5]; exact HK4.out.drewN _
        have HW5 : Hid (Ws w5 w3.heap.size w3.heap.size wa wc (some out)) := by rw [hw5]; exact HW4.out.no (Kept.no_drewN _ _)
        have hol : out.length ≤ 140737488355328 := by have h1 := HF.out.len; have h2 := HZ.out; omega
        clear hw5 HR4 HK4 HW4
        cases hst : endS st with
        | bad p c =>
          have hc0 : c ≠ 0 := by
            cases st with
            | ok rest at_ =>
              simp only [endS] at hst
              split at hst
              · cases hst
              · cases hst; omega
            | bad p' c' => simp only [endS] at hst; cases hst; exact HR.out.2
          have hc1 : (c != 0) = true := by simpa using hc0
          clear hst hc0
          simp only [errS]
          go_wp2_with fail
          refine (Done_all w3.heap.size w3.heap.size wa wc (some out) w5 HW5.out hol).mono ?_
          rintro e w6 ⟨a6, n6, c6, rfl, hn6, hO6, hK6⟩
          have HK6 : Hid (Kept No w w6) := HK5.out.then hK6
          clear hn6 hO6 hK6
          simp only [doneOf]
          go_wp2
          go_ret
          exact ⟨rfl, HK6.out.below (Nat.le_refl _) (fun _ e => e.elim)⟩
        | ok rest at_ =>
          have HE : Hid (out = zs) := by
            cases st with
            | ok rest' at' =>
              simp only [endS] at hst
              split at hst
              · rename_i h0
                have := HF.out.1
                rw [h0, List.append_nil] at this
                exact this
              · cases hst
            | bad p' c' => simp only [endS] at hst; cases hst
          clear hst
          simp only [errS]
          go_wp2_with fail
          refine (Done_all w3.heap.size w3.heap.size wa wc (some out) w5 HW5.out hol).mono ?_
          rintro e w6 ⟨a6, n6, c6, rfl, hn6, hO6, hK6⟩
          have HK6 : Hid (Kept No w w6) := HK5.out.then hK6
          have HO6 : Hid (OwnS w6 w5.heap.size a6 c6 out) := hO6
          have HN6 : Hid (out.length = n6) := hn6.symm
          have hn6' : n6 ≤ 140737488355328 := by rw [hn6]; exact hol
          clear hn6 hO6 hK6
          simp only [doneOf]
          go_wp2_with fail
          have hsm := sameN_any a6 a n6 m c6 cap out zs w6 HN6.out HZ.out (by omega) (by omega) HO6.out.bytes (HS.out.no HK6.out).bytes
          rw [eqB_eq HE.out] at hsm
          refine hsm.mono ?_
          rintro e w8 ⟨rfl, n8, rfl⟩
          clear hsm
          go_wp2
          go_ret
          exact ⟨rfl, (HK6.out.drewN _).below (Nat.le_refl _) (fun _ e => e.elim)⟩
      · have i1 : ¬ (k : Int) < (cn : Int) := by omega
        clear hlt
        go_wp2_with fail
        refine (End_all g lb st wr HR.out).mono ?_
        rintro e w4 ⟨rfl, hr4, hk4'⟩
        have HR4 : Hid (Rs w4 g lb (endS st)) := hr4
        have HK4 : Hid (Kept No w w4) := HKP.out.fresh hk4' (fun i e => by have e' : i = g := e; have := HC.out; omega)
        have HW4 : Hid (Ws w4 w3.heap.size w3.heap.size wa wc (some out)) := HW.out.kept hk4' (fun j hj e => by have e' : j = g := e; have h1 := HW.out.base hj; have h2 := HC.out.2.1; omega)
        clear hr4 hk4'
        go_wp2_with fail
        refine (Err_all g lb (endS st) w4 HR4.out).mono ?_
        rintro e w5 ⟨rfl, n5, hw5⟩
        have HK5 : Hid (Kept No w w5) := by rw [hw5]; exact HK4.out.drewN _
        have HW5 : Hid (Ws w5 w3.heap.size w3.heap.size wa wc (some out)) := by rw [hw5]; exact HW4.out.no (Kept.no_drewN _ _)
        have hol : out.length ≤ 140737488355328 := by have h1 := HF.out.len; have h2 := HZ.out; omega
        clear hw5 HR4 HK4 HW4
        cases hst : endS st with
        | bad p c =>
          have hc0 : c ≠ 0 := by
            cases st with
            | ok rest at_ =>
              simp only [endS] at hst
              split at hst
              · cases hst
              · cases hst; omega
            | bad p' c' => simp only [endS] at hst; cases hst; exact HR.out.2
          have hc1 : (c != 0) = true := by simpa using hc0
          clear hst hc0
          simp only [errS]
          go_wp2_with fail
          refine (Done_all w3.heap.size w3.heap.size wa wc (some out) w5 HW5.out hol).mono ?_
          rintro e w6 ⟨a6, n6, c6, rfl, hn6, hO6, hK6⟩
          have HK6 : Hid (Kept No w w6) := HK5.out.then hK6
          clear hn6 hO6 hK6
          simp only [doneOf]
          go_wp2
          go_ret
          exact ⟨rfl, HK6.out.below (Nat.le_refl _) (fun _ e => e.elim)⟩
        | ok rest at_ =>
          have HE : Hid (out = zs) := by
            cases st with
            | ok rest' at' =>
              simp only [endS] at hst
              split at hst
              · rename_i h0
                have := HF.out.1
                rw [h0, List.append_nil] at this
                exact this
              · cases hst
            | bad p' c' => simp only [endS] at hst; cases hst
          clear hst
          simp only [errS]
          go_wp2_with fail
          refine (Done_all w3.heap.size w3.heap.size wa wc (some out) w5 HW5.out hol).mono ?_
          rintro e w6 ⟨a6, n6, c6, rfl, hn6, hO6, hK6⟩
          have HK6 : Hid (Kept No w w6) := HK5.out.then hK6
          have HO6 : Hid (OwnS w6 w5.heap.size a6 c6 out) := hO6
          have HN6 : Hid (out.length = n6) := hn6.symm
          have hn6' : n6 ≤ 140737488355328 := by rw [hn6]; exact hol
          clear hn6 hO6 hK6
          simp only [doneOf]
          go_wp2_with fail
          have hsm := sameN_any a6 a n6 m c6 cap out zs w6 HN6.out HZ.out (by omega) (by omega) HO6.out.bytes (HS.out.no HK6.out).bytes
          rw [eqB_eq HE.out] at hsm
          refine hsm.mono ?_
          rintro e w8 ⟨rfl, n8, rfl⟩
          clear hsm
          go_wp2
          go_ret
          exact ⟨rfl, (HK6.out.drewN _).below (Nat.le_refl _) (fun _ e => e.elim)⟩

end wireForms
end Go.Proofs.Ytnhjpghkmbgeaaa
