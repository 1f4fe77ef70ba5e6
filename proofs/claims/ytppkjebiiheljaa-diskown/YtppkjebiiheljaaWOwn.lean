import Derived.Test.YtppkjebiiheljaaOw
import Derived.Test.YtppkjebiiheljaaSq
namespace Go.Proofs.Ytppkjebiiheljaa
open Go.RowKit
set_option linter.unusedVariables false
set_option linter.unusedSimpArgs false

def mkV (i : Nat) : Value := .int .u8 (IntKind.u8.wrap ((i : Int) + 100))
def grV (i : Nat) : Value := .int .u8 (IntKind.u8.wrap ((i : Int) + 50))

theorem Sa.wrE {x : DS} {N k n : Nat} (h : Sa x N k) (hn : n < N) : Ytppkjebiiheljaa.wrE x n 512 = 0 := by
  have hr : refE x n = 0 := refE_zero h.fl (by rw [h.N]; exact hn)
  unfold Ytppkjebiiheljaa.wrE
  rw [if_neg (fun e => e hr), if_neg (fun e => e rfl), h.pw]
  rfl
theorem Sa.wrc {x : DS} {N k n : Nat} (h : Sa x N k) (hn : n < N) {B : List Int} (hb : B.length = 512) : (wrD x n B).c = updC x.c n B := by
  have hr : refE x n = 0 := refE_zero h.fl (by rw [h.N]; exact hn)
  rw [wrD_yes hr hb, h.pw]
  show updC x.c (n : Int).toNat (tornS (x.c (n : Int).toNat) B (512 : Int).toNat) = updC x.c n B
  rw [Int.toNat_natCast, show (512 : Int).toNat = 512 from rfl, tornS_all (h.ok.fine.len n) hb]
theorem splice_img {I B : List Int} {sp : List Value} {P : Nat} (hP : P + B.length ≤ I.length) : splice (I.map (Value.int .u8) ++ sp) P (B.map (Value.int .u8)) = (splice I P B).map (Value.int .u8) ++ sp := by
  unfold splice
  rw [List.length_map, List.take_append_of_le_length (by rw [List.length_map]; omega), List.drop_append_of_le_length (by rw [List.length_map]; omega)]
  simp

set_option maxRecDepth 100000 in
set_option maxHeartbeats 8000000 in
theorem own_any (a0 : Option Addr) (l0 c0 : Nat) (xs : List Stp) (w : World) (hs0 : Stps w a0 xs) (hl0 : xs.length = l0) (hm0 : l0 ≤ 140737488351232) (ho0 : ∀ x ∈ xs, StpOk w x ∧ x.c ≤ 140737488351232) :
    Calls Try.prog 8 #[.slice a0 l0 c0] w fun e w' => e = .returned (.bool true) ∧ Kept No w w' := by
  have HX : Hid (Stps w a0 xs ∧ (∀ x ∈ xs, StpOk w x ∧ x.c ≤ 140737488351232) ∧ xs.length = l0 ∧ l0 ≤ 140737488351232) := ⟨hs0, ho0, hl0, hm0⟩
  obtain ⟨B0, hB0⟩ : ∃ B0, B0 = fullS [9] 1 := ⟨_, rfl⟩
  have HB0 : Hid (B0.length = 512 ∧ U8 B0 ∧ fullS [9] 1 = B0 ∧ (B0 ++ B0).length = 2 * 512 ∧ U8 (B0 ++ B0)) := by
    have h1 : B0.length = 512 := by rw [hB0]; exact fullS_len _ _
    have h2 : U8 B0 := by rw [hB0]; exact fullS_u8 (fun i => by cases i with | zero => simp | succ i => simp) (by omega)
    exact ⟨h1, h2, hB0.symm, by rw [List.length_append]; omega, h2.append h2⟩
  obtain ⟨I0, hI0⟩ : ∃ I0, I0 = B0 ++ B0 := ⟨_, rfl⟩
  obtain ⟨x0, hx0⟩ : ∃ x0, x0 = loadD I0 := ⟨_, rfl⟩
  have HI0 : Hid (B0 ++ B0 = I0 ∧ I0.length = 2 * 512 ∧ I0.length = 1024 ∧ U8 I0 ∧ loadD I0 = x0 ∧ Sa x0 2 0 ∧ flatN 2 x0.c = I0) := by
    have h1 : I0.length = 2 * 512 := by rw [hI0]; exact HB0.out.2.2.2.1
    have h2 : U8 I0 := by rw [hI0]; exact HB0.out.2.2.2.2
    have h3 := loadD_ok h1 (by omega) (by omega) h2
    refine ⟨hI0.symm, h1, by omega, h2, hx0.symm, ?_, ?_⟩
    · rw [hx0]; exact ⟨h3.1, h3.2.1, rfl, rfl, by show (0 : Int) ≤ _; omega, by show (0 : Int) ≤ _; omega⟩
    · have := h3.2.2; rw [h3.2.1, ← hx0] at this; exact this
  clear hs0 hl0 hm0 ho0 hB0 hI0 hx0
  have TK : Hid (1 = 1) := rfl
  go_enter Try.func8, Try.ntmps8
  go_wp2_with (first
    | (go_at_call 9
       have hguard := TK
       clear hguard
       refine Calls.mono (known_any w) ?_
       rintro e wK ⟨rfl, hkK⟩
       have HK : Hid (Kept No w wK) := hkK
       have T28 : Hid (1 = 1) := rfl
       clear hkK TK)
    | (go_at_call 28
       have hguard := T28
       clear hguard
       obtain ⟨gF, hgF⟩ : ∃ gF, gF = (wK.alloc (.cells #[.int .u8 9] 5)).heap.size := ⟨_, rfl⟩
       have hS := full_any (some ⟨wK.heap.size, 0, none⟩) 1 1 [9] 1 (wK.alloc (.cells #[.int .u8 9] 5)) ((Box.new wK 5 (u8s [9])).all) rfl (by decide)
       rw [← hgF, HB0.out.2.2.1] at hS
       refine Calls.mono hS ?_
       rintro e w1 ⟨rfl, hb1, hk1⟩
       have hk01 : Kept No wK w1 := ((Kept.refl No wK).alloc _).then hk1
       have HF1 : Hid (Box w1 gF 5 (u8s B0) ∧ Kept No w w1) := ⟨hb1, HK.out.then hk01⟩
       have HO1 : Hid (OwnB (w1.alloc (.cells #[] 5)) w.heap.size (some ⟨w1.heap.size, 0, none⟩) 0 0 []) := OwnB.empty w1 w.heap.size (HF1.out.2.size)
       have HA1 : Hid (Nums .u8 (w1.alloc (.cells #[] 5)) (some ⟨gF, 0, none⟩) B0) := hb1.all.no ((Kept.refl No w1).alloc _)
       have HZ1 : Hid (w.heap.size ≤ (w1.alloc (.cells #[] 5)).heap.size) := by have := HF1.out.2.size; show w.heap.size ≤ (w1.alloc (.cells #[] 5)).heap.size; simp; omega
       have TA : Hid (1 = 1) := rfl
       clear hb1 hk1 hk01 hS hgF HK T28)
    | (have hguard := TA
       clear hguard
       refine wp_appF rfl (.tmp 31) (.tmp 32) rfl w.heap.size 0 0 (some ⟨w1.heap.size, 0, none⟩) [] rfl HO1.out ⟨gF, 0, none⟩ 512 512 B0 rfl HB0.out.1 HA1.out (by decide) HZ1.out 512 rfl ?_
       intro a2 c2 w2 HO2 HK2
       have hk12 : Kept No w1 w2 := ((Kept.refl No w1).alloc _).trans HK2.out (fun _ e => e) (fun i hi e => by have e' := at_some e; omega)
       have HF2 : Hid (Box w2 gF 5 (u8s B0) ∧ Kept No w w2) := ⟨HF1.out.1.kept hk12 (fun e => e), HF1.out.2.then hk12⟩
       have HN2 : Hid (OwnB w2 w.heap.size a2 c2 512 B0) := HO2.out
       have TB : Hid (1 = 1) := rfl
       clear hk12 HK2 HO2 HO1 HA1 HZ1 TA HF1)
    | (have hguard := TB
       clear hguard
       refine wp_appF rfl (.tmp 33) (.tmp 34) rfl w.heap.size 512 c2 a2 B0 rfl HN2.out ⟨gF, 0, none⟩ 512 512 B0 rfl HB0.out.1 HF2.out.1.all (by decide) HF2.out.2.size 1024 rfl ?_
       intro a3 c3 w3 HO3 HK3
       have hk23 : Kept No w w3 := HF2.out.2.trans HK3.out (fun _ e => e) (fun i hi e => by have := HN2.out.1.base e; omega)
       obtain ⟨gI, e3, HI3⟩ : ∃ gI, a3 = some ⟨gI, 0, none⟩ ∧ Hid (Img w3 gI c3 I0 ∧ Kept No w w3 ∧ w.heap.size ≤ gI) := by
         have h1 := HO3.out.1
         rcases h1.cases (by rw [List.length_map, HB0.out.2.2.2.1]) with ⟨_, _, h0⟩ | ⟨g, e, hb, _, sp, hbx, hl⟩
         · omega
         · refine ⟨g, e, ⟨sp, ?_, HI0.out.2.2.1, ?_⟩, hk23, hb⟩
           · rw [← HI0.out.1]; exact hbx
           · rw [List.length_map, HB0.out.2.2.2.1] at hl; omega
       subst e3
       have TC : Hid (1 = 1) := rfl
       clear hk23 HK3 HO3 HN2 HF2 TB)
    | (go_at_call 18
       have hguard := TC
       clear hguard
       obtain ⟨gG, hgG⟩ : ∃ gG, gG = w3.heap.size := ⟨_, rfl⟩
       have hS := lend_any (some ⟨gI, 0, none⟩) 1024 c3 I0 w3 HI3.out.1.nums HI0.out.2.2.1 (by decide)
       rw [← hgG] at hS
       refine Calls.mono hS ?_
       rintro e w4 ⟨rfl, hb4, hk4⟩
       have HG4 : Hid (Box w4 gG 5 (u8s (lentS I0 67)) ∧ Img w4 gI c3 I0 ∧ Kept No w w4 ∧ w.heap.size ≤ gI ∧ gI < gG) := by
         refine ⟨hb4, HI3.out.1.kept hk4 (fun e => e), HI3.out.2.1.then hk4, HI3.out.2.2, ?_⟩
         obtain ⟨sp, hbx, _⟩ := HI3.out.1
         have := hbx.lt
         omega
       have TD : Hid (1 = 1) := rfl
       clear hS hb4 hk4 hgG HI3 TC)
    | (go_at_call 19
       have hguard := TD
       clear hguard
       obtain ⟨d, hd⟩ : ∃ d, d = w4.heap.size + 1 := ⟨_, rfl⟩
       obtain ⟨b, hb⟩ : ∃ b, b = w4.heap.size := ⟨_, rfl⟩
       have hS := loadYes_any gG 0 1091 2 1024 I0 w4 (Box.lent HG4.out.1) HI0.out.2.1 rfl (by omega) (by omega) (by omega) (by omega)
       rw [← hd, ← hb, HI0.out.2.2.2.2.1] at hS
       refine Calls.mono hS ?_
       rintro e w5 ⟨rfl, hd5, hk5⟩
       obtain ⟨gR, hgR⟩ : ∃ gR, gR = w5.heap.size := ⟨_, rfl⟩
       have HS5 : Hid (S1 w (w5.alloc (.cells #[.slice (some ⟨gG, 0, none⟩) 1024 1091] 22)) d b gI c3 gG w5.heap.size 1 1 [⟨gG, 1024, 1091⟩] x0) := by
         have hka : Kept No w5 (w5.alloc (.cells #[.slice (some ⟨gG, 0, none⟩) 1024 1091] 22)) := (Kept.refl No w5).alloc _
         have hk45 := hk5.then hka
         have hsz : w.heap.size ≤ w5.heap.size := (HG4.out.2.2.1.then hk5).size
         have hsz4 : w.heap.size ≤ w4.heap.size := HG4.out.2.2.1.size
         refine ⟨rfl, ?_, ⟨fun e he => ?_, fun i j e f hi hj _ => ?_⟩, hd5.no hka, ?_, ⟨HG4.out.2.2.2.2, HG4.out.2.2.2.1, by omega, by omega⟩, HG4.out.2.2.1.then hk45⟩
         · exact ⟨rfl, .inr ⟨w5.heap.size, 1, _, rfl, hsz, (MapKept.heap_alloc w5 _).1, Nat.le_refl _, by unfold maxLen; omega, rfl, rfl⟩⟩
         · rw [List.mem_singleton.1 he]
           refine ⟨⟨by show 1024 ≤ 1091; omega, by show 1091 ≤ 2000; omega, 5, _, HG4.out.1.kept hk45 (fun e => e), ?_, .inl rfl⟩, Nat.le_refl _⟩
           rw [List.length_map, lentS_len _ _ (Nat.le_refl _), HI0.out.2.2.1]
         · have h1 := (List.getElem?_eq_some_iff.1 hi).1
           have h2 := (List.getElem?_eq_some_iff.1 hj).1
           simp at h1 h2
           omega
         · rw [HI0.out.2.2.2.2.2.2]; exact HG4.out.2.1.kept hk45 (fun e => e)
       clear hS hd5 hk5 hd hb hgR gR HG4 TD))
  go_loopw [8, 9] (fun v8 i wr => ∃ (k m gR cR : Nat) (K : List Ent) (x : DS), v8 = .slice (some ⟨gR, 0, none⟩) m cR ∧ i = .int .i64 k ∧ Hid (k ≤ l0 ∧ k ≤ 200 ∧ m = 1 + 4 * k ∧ S1 w wr d b gI c3 gG gR cR m K x ∧ Sa x 2 (3 * k))) (fun _ i _ => 200 - (intOf i).toNat)
  case atStart => exact ⟨0, 1, _, 1, _, x0, rfl, rfl, Nat.zero_le _, Nat.zero_le _, rfl, HS5.out, HI0.out.2.2.2.2.2.1⟩
  case round =>
    clear HS5
    obtain ⟨k, m, gR, cR, K, x, rfl, rfl, HR⟩ := hrel
    have hkm : (m : Int) ≤ 801 := by have := HR.out.2.1; have := HR.out.2.2.1; omega
    have hgo : (k : Int) < (l0 : Int) ∧ (k : Int) < 200 ∨ ¬ ((k : Int) < (l0 : Int)) ∨ ((k : Int) < (l0 : Int) ∧ ¬ ((k : Int) < 200)) := by omega
    rcases hgo with ⟨hk, hk2⟩ | hgo
    · have hk' : k < xs.length := by have := HX.out.2.2.1; omega
      obtain ⟨it, hit⟩ : ∃ it, xs[k]? = some it := ⟨xs[k], List.getElem?_eq_getElem hk'⟩
      obtain ⟨sb, off, ha0, q0, q1, q2, q3⟩ := (HX.out.1.no HR.out.2.2.2.1.kept) k it hit
      have HO : Hid (StpOk w it ∧ it.c ≤ 140737488351232) := HX.out.2.1 it (List.mem_of_getElem? hit)
      have HIT : Hid (xs[k]? = some it) := hit
      subst ha0
      have hlb : (l0 : Int) ≤ 140737488351232 := by have := HX.out.2.2.2; omega
      obtain ⟨n, hn⟩ : ∃ n, n = roundOf it.n 2 := ⟨_, rfl⟩
      have HNn : Hid (n < 2) := by rw [hn]; exact roundOf_lt _ _ (by omega)
      have HRd : Hid (∀ w : World, Calls Try.prog 13 #[.int .i64 it.n, .int .i64 2] w fun e w' => e = .returned (.int .i64 n) ∧ w' = w) := by
        intro w; rw [hn]; exact round_any it.n 2 w (by omega) (by omega)
      have hwk : IntKind.u8.wrap (k : Int) = (k : Int) := by rw [IntKind.wrap_u8]; omega
      obtain ⟨B, hB⟩ : ∃ B, B = fullS it.bs k := ⟨_, rfl⟩
      have HB : Hid (B.length = 512 ∧ U8 B ∧ fullS it.bs k = B) := ⟨by rw [hB]; exact fullS_len _ _, by rw [hB]; exact fullS_u8 HO.out.1.u8 (by omega), hB.symm⟩
      have hSw := HR.out.2.2.2.2.write n HNn.out HB.out.1 HB.out.2.1 (by have := HR.out.2.1; omega)
      obtain ⟨x1, hx1⟩ : ∃ x1, x1 = wrD x n B := ⟨_, rfl⟩
      rw [← hx1] at hSw
      have hSr := hSw.read n (by have := HR.out.2.1; omega)
      obtain ⟨x2, hx2⟩ : ∃ x2, x2 = rdD x1 n := ⟨_, rfl⟩
      rw [← hx2] at hSr
      have hSs := hSr.read n (by have := HR.out.2.1; omega)
      obtain ⟨x3, hx3⟩ : ∃ x3, x3 = rdD x2 n := ⟨_, rfl⟩
      rw [← hx3] at hSs
      have HE : Hid (wrD x n B = x1 ∧ x1.c = updC x.c n B ∧ rdD x1 n = x2 ∧ rdD x2 n = x3 ∧ x2.c = x1.c ∧ x3.c = x1.c ∧ refE x1 n = 0 ∧ refE x2 n = 0 ∧ x1.c n = B) := by
        have h1 : x1.c = updC x.c n B := by rw [hx1]; exact HR.out.2.2.2.2.wrc HNn.out HB.out.1
        have h2 : x2.c = x1.c := by rw [hx2]; exact rdD_c _ _
        have h3 : x3.c = x1.c := by rw [hx3]; exact (rdD_c _ _).trans h2
        exact ⟨hx1.symm, h1, hx2.symm, hx3.symm, h2, h3, refE_zero hSw.fl (by rw [hSw.N]; exact HNn.out), refE_zero hSr.fl (by rw [hSr.N]; exact HNn.out), by rw [h1]; exact if_pos rfl⟩
      have HE2 : Hid (({ x1 with rd := x1.rd + 1 } : DS) = x2 ∧ ({ x2 with rd := x2.rd + 1 } : DS) = x3) := by
        have h1 := HE.out.2.2.2.2.2.2.1
        have h2 := HE.out.2.2.2.2.2.2.2.1
        refine ⟨?_, ?_⟩
        · rw [hx2]; unfold rdD; rw [if_neg (fun e => e h1)]
        · rw [hx3]; unfold rdD; rw [if_neg (fun e => e h2)]
      have HSa : Hid (Sa x1 2 (3 * k + 1) ∧ Sa x2 2 (3 * k + 1 + 1) ∧ Sa x3 2 (3 * (k + 1))) := ⟨hSw, hSr, by rw [show 3 * (k + 1) = 3 * k + 1 + 1 + 1 by omega]; exact hSs⟩
      obtain ⟨P, hP⟩ : ∃ P, P = n * 512 := ⟨_, rfl⟩
      have HP : Hid (n * 512 = P ∧ P + 512 ≤ 1024) := ⟨hP.symm, by have := HNn.out; omega⟩
      have hPi : (P : Int) + 512 ≤ 1024 := by have := HP.out.2; omega
      have HcI : Hid (1024 ≤ c3) := by
        obtain ⟨sp, _, _, h⟩ := HR.out.2.2.2.1.img
        show 1024 ≤ c3; omega
      have T28 : Hid (1 = 1) := rfl
      clear hk' hit hn hB hSw hSr hSs hx1 hx2 hx3 hP
      go_wp2_with (first
        | (go_at_call 28
           have hguard := T28
           clear hguard
           obtain ⟨gF, hgF⟩ : ∃ gF, gF = wr.heap.size := ⟨_, rfl⟩
           have hS := full_any it.a it.l it.c it.bs k wr (HO.out.1.nums.no HR.out.2.2.2.1.kept) HO.out.1.len (by have := HO.out.1.cap; have := HO.out.1.cap2; omega)
           rw [← hgF, HB.out.2.2] at hS
           refine Calls.mono hS ?_
           rintro e w1 ⟨rfl, hb1, hk1⟩
           have HF1 : Hid (Box w1 gF 5 (u8s B) ∧ S1 w w1 d b gI c3 gG gR cR m K x ∧ wr.heap.size ≤ w1.heap.size) := ⟨hb1, HR.out.2.2.2.1.no hk1, hk1.size⟩
           have T18 : Hid (1 = 1) := rfl
           clear hS hb1 hk1 hgF T28 q0 q1 q2 q3)
        | (go_at_call 18
           have hguard := T18
           clear hguard
           obtain ⟨gb, hgb⟩ : ∃ gb, gb = w1.heap.size := ⟨_, rfl⟩
           have hS := lend_any (some ⟨gF, 0, none⟩) 512 512 B w1 HF1.out.1.all HB.out.1 (by decide)
           rw [← hgb] at hS
           refine Calls.mono hS ?_
           rintro e w2 ⟨rfl, hb2, hk2⟩
           have HF2 : Hid (Box w2 gb 5 (u8s (lentS B 67)) ∧ S1 w w2 d b gI c3 gG gR cR m K x ∧ wr.heap.size ≤ gb) := ⟨hb2, HF1.out.2.1.no hk2, by have := HF1.out.2.2; omega⟩
           obtain ⟨_, _, e0, q0, q1, q2, q3⟩ := (HX.out.1.no HF2.out.2.1.kept) k it HIT.out
           cases e0
           have T25 : Hid (1 = 1) := rfl
           clear hS hb2 hk2 hgb HF1 T18 q0 q2 q3)
        | (go_at_call 13
           refine Calls.mono (HRd.out w2) ?_
           rintro e w' ⟨rfl, hw'⟩
           rw [hw']
           clear hw' w' q1)
        | (go_at_call 25
           have hguard := T25
           clear hguard
           have hS := write_all d b n (some ⟨gb, 0, none⟩) 512 579 B x w2 HF2.out.2.1.dsk HR.out.2.2.2.2.ok (Box.lent HF2.out.1) HB.out.1 (by omega) (by omega)
           rw [HR.out.2.2.2.2.wrE HNn.out, HE.out.1] at hS
           refine Calls.mono hS ?_
           rintro e w3 ⟨rfl, hd3, hk3⟩
           have hng : ¬ DB d b gb := dsk_box HF2.out.2.1.dsk HF2.out.1 (by decide)
           have HF3 : Hid (Box w3 gb 5 (u8s (lentS B 67)) ∧ Dsk w3 d b x1 ∧ Kept (DB d b) w2 w3 ∧ Img w3 gI c3 (flatN 2 x.c) ∧ gI ≠ gb) := by
             obtain ⟨cs', hib⟩ := HF2.out.2.1.imgbox
             have h1 := HR.out.2.2.2.1.imgbox
             obtain ⟨cs1, hib1⟩ := h1
             have h2 := hib1.lt
             have h3 := HF2.out.2.2
             exact ⟨HF2.out.1.kept hk3 hng, hd3, hk3, HF2.out.2.1.img.kept hk3 (dsk_box HF2.out.2.1.dsk hib (by decide)), by omega⟩
           have TS : Hid (1 = 1) := rfl
           clear hS hd3 hk3 hng T25)
        | (refine wp_mul512 rfl (.tmp 82) rfl n P rfl HP.out.1 (by have := HNn.out; omega) ?_)
        | (refine wp_mul512 rfl (.tmp 84) rfl n P rfl HP.out.1 (by have := HNn.out; omega) ?_)
        | (refine wp_sliceLH rfl (.tmp 81) (.tmp 83) (.tmp 86) rfl gI 0 1024 c3 P (P + 512) rfl rfl rfl (by omega) (by have := HP.out.2; have := HcI.out; omega) (by have := HP.out.2; have := HcI.out; omega) 512 (c3 - P) (by omega) rfl ?_)
        | (have hguard := TS
           clear hguard
           obtain ⟨sp, hbx, hil, hsp⟩ := HF3.out.2.2.2.1
           refine wp_copyO rfl (.tmp 87) (.tmp 88) 22 22 rfl 5 Try.und22 Try.size5 (some ⟨gI, P, none⟩) (some ⟨gb, 0, none⟩) 512 (c3 - P) 512 579 rfl rfl gI P ((flatN 2 x.c).map (Value.int .u8) ++ sp) 5 hbx (B.map (Value.int .u8)) ?hn ?hpos ?hfit (num_one .u8 B) ?_
           case hn => rw [List.length_map, HB.out.1]; rfl
           case hpos =>
             intro h0
             refine ⟨rfl, ?_⟩
             exact (Box.lent HF3.out.1).src h0
           case hfit => rw [List.length_map, List.length_append, List.length_map, HB.out.1, hil]; have := HP.out.2; omega
           intro w4 HB4 hk4 hsz4
           have HF4 : Hid (S1 w w4 d b gI c3 gG gR cR m K x1 ∧ Box w4 gb 5 (u8s (lentS B 67)) ∧ wr.heap.size ≤ gb) := by
             refine ⟨HF2.out.2.1.wr HF3.out.2.2.1 HF3.out.2.1 hk4 ?_, HF3.out.1.kept hk4 (fun eo => HF3.out.2.2.2.2 (Eq.symm eo)), HF2.out.2.2⟩
             rw [splice_img (by rw [HB.out.1, hil]; exact HP.out.2), ← HP.out.1, flatN_upd HR.out.2.2.2.2.ok.fine.len n B HB.out.1 2 HNn.out, ← HE.out.2.1] at HB4
             exact ⟨sp, HB4.out, flatN_len _ HSa.out.1.ok.fine.len 2, hsp⟩
           have TR : Hid (1 = 1) := rfl
           clear hbx hil hsp HB4 hk4 hsz4 HF3 HF2 TS sp)
        | (go_at_call 12
           have hguard := TR
           clear hguard
           obtain ⟨gx, hgx⟩ : ∃ gx, gx = w4.heap.size := ⟨_, rfl⟩
           have hS := readYes_any d b n x1 w4 HF4.out.1.dsk HSa.out.1.fl (by rw [HSa.out.1.N]; exact HNn.out) (HSa.out.1.ok.fine.len n) HSa.out.1.ok.rd0 HSa.out.1.ok.rd1
           rw [← hgx, HE2.out.1, HE.out.2.2.2.2.2.2.2.2] at hS
           refine Calls.mono hS ?_
           rintro e w5 ⟨rfl, hb5, hd5, hk5⟩
           have hng : ¬ DB d b gb := dsk_box HF4.out.1.dsk HF4.out.2.1 (by decide)
           have HF5 : Hid (S1 w w5 d b gI c3 gG gR cR m K x2 ∧ Box w5 gb 5 (u8s (lentS B 67)) ∧ wr.heap.size ≤ gb ∧ Box w5 gx 72 (u8s B) ∧ gb < gx) :=
             ⟨HF4.out.1.left hk5.db hd5 (by rw [HE.out.2.2.2.2.1]), HF4.out.2.1.kept hk5.db hng, HF4.out.2.2, hb5, by have := HF4.out.2.1.lt; omega⟩
           have TQ : Hid (1 = 1) := rfl
           clear hS hb5 hd5 hk5 hng hgx HF4 TR)
        | (go_at_call 12
           have hguard := TQ
           clear hguard
           obtain ⟨gy, hgy⟩ : ∃ gy, gy = w5.heap.size := ⟨_, rfl⟩
           have hS := readYes_any d b n x2 w5 HF5.out.1.dsk HSa.out.2.1.fl (by rw [HSa.out.2.1.N]; exact HNn.out) (HSa.out.2.1.ok.fine.len n) HSa.out.2.1.ok.rd0 HSa.out.2.1.ok.rd1
           rw [← hgy, HE2.out.2, HE.out.2.2.2.2.1, HE.out.2.2.2.2.2.2.2.2] at hS
           refine Calls.mono hS ?_
           rintro e w6 ⟨rfl, hb6, hd6, hk6⟩
           have hng : ¬ DB d b gb := dsk_box HF5.out.1.dsk HF5.out.2.1 (by decide)
           have hnx : ¬ DB d b gx := dsk_box HF5.out.1.dsk HF5.out.2.2.2.1 (by decide)
           have HF6 : Hid (S1 w w6 d b gI c3 gG gR cR m K x3 ∧ Box w6 gb 5 (u8s (lentS B 67)) ∧ wr.heap.size ≤ gb ∧ Box w6 gx 72 (u8s B) ∧ gb < gx ∧ Box w6 gy 72 (u8s B) ∧ gx < gy) :=
             ⟨HF5.out.1.left hk6.db hd6 (by rw [HE.out.2.2.2.2.2.1, HE.out.2.2.2.2.1]), HF5.out.2.1.kept hk6.db hng, HF5.out.2.2.1, HF5.out.2.2.2.1.kept hk6.db hnx, HF5.out.2.2.2.2, hb6, by have := HF5.out.2.2.2.1.lt; omega⟩
           have TP : Hid (1 = 1) := rfl
           clear hS hb6 hd6 hk6 hng hnx hgy HF5 TQ)
        | (go_at_call 23
           have hguard := TP
           clear hguard
           obtain ⟨gz, hgz⟩ : ∃ gz, gz = w6.heap.size := ⟨_, rfl⟩
           have hS := image_any d b x3 w6 HF6.out.1.dsk HSa.out.2.2.ok.fine
           rw [← hgz, HSa.out.2.2.N, show (2 * 512 : Nat) = 1024 from rfl] at hS
           refine Calls.mono hS ?_
           rintro e w7 ⟨rfl, hb7, hk7⟩
           have HF7 : Hid (S1 w w7 d b gI c3 gG gR cR m K x3 ∧ Box w7 gb 5 (u8s (lentS B 67)) ∧ wr.heap.size ≤ gb ∧ Box w7 gx 72 (u8s B) ∧ gb < gx ∧ Box w7 gy 72 (u8s B) ∧ gx < gy ∧ Box w7 gz 5 (u8s (flatN 2 x3.c)) ∧ gy < gz) :=
             ⟨HF6.out.1.no hk7, HF6.out.2.1.kept hk7 (fun e => e), HF6.out.2.2.1, HF6.out.2.2.2.1.kept hk7 (fun e => e), HF6.out.2.2.2.2.1, HF6.out.2.2.2.2.2.1.kept hk7 (fun e => e), HF6.out.2.2.2.2.2.2, hb7, by have := HF6.out.2.2.2.2.2.1.lt; omega⟩
           have TM : Hid (1 = 1) := rfl
           clear hS hb7 hk7 hgz HF6 TP)
        | (go_at_call 14
           have hguard := TM
           clear hguard
           refine Calls.mono (same_any (some ⟨gx, 0, none⟩) (some ⟨gb, 0, none⟩) 512 512 512 579 B B w7 HF7.out.2.2.2.1.all (Box.lent HF7.out.2.1) HB.out.2.1 HB.out.2.1 HB.out.1 HB.out.1) ?_
           rintro e w' ⟨rfl, hw'⟩
           rw [hw', decide_eq_true rfl]
           have TN : Hid (1 = 1) := rfl
           clear hw' w' TM)
        | (go_at_call 14
           have hguard := TN
           clear hguard
           refine Calls.mono (same_any (some ⟨gy, 0, none⟩) (some ⟨gb, 0, none⟩) 512 512 512 579 B B w7 HF7.out.2.2.2.2.2.1.all (Box.lent HF7.out.2.1) HB.out.2.1 HB.out.2.1 HB.out.1 HB.out.1) ?_
           rintro e w' ⟨rfl, hw'⟩
           rw [hw', decide_eq_true rfl]
           have TL : Hid (1 = 1) := rfl
           clear hw' w' TN)
        | (go_at_call 14
           have hguard := TL
           clear hguard
           refine Calls.mono (same_any (some ⟨gz, 0, none⟩) (some ⟨gI, 0, none⟩) 1024 1024 1024 c3 (flatN 2 x3.c) (flatN 2 x3.c) w7 HF7.out.2.2.2.2.2.2.2.1.all HF7.out.1.img.nums (flatN_u8 HSa.out.2.2.ok.u8 2) (flatN_u8 HSa.out.2.2.ok.u8 2) (flatN_len _ HSa.out.2.2.ok.fine.len 2) (flatN_len _ HSa.out.2.2.ok.fine.len 2)) ?_
           rintro e w' ⟨rfl, hw'⟩
           rw [hw', decide_eq_true rfl]
           obtain ⟨w8, hw8⟩ : ∃ w8, w8 = w7.alloc (.cells #[.slice (some ⟨gb, 0, none⟩) 512 579, .slice (some ⟨gx, 0, none⟩) 512 512, .slice (some ⟨gy, 0, none⟩) 512 512, .slice (some ⟨gz, 0, none⟩) 1024 1024] 22) := ⟨_, rfl⟩
           have HN8 : Hid (Box w8 w7.heap.size 22 #[.slice (some ⟨gb, 0, none⟩) 512 579, .slice (some ⟨gx, 0, none⟩) 512 512, .slice (some ⟨gy, 0, none⟩) 512 512, .slice (some ⟨gz, 0, none⟩) 1024 1024] ∧ w.heap.size ≤ w8.heap.size) := by
             have hk8 : Kept No w7 w8 := by rw [hw8]; exact (Kept.refl No w7).alloc _
             exact ⟨by rw [hw8]; exact Box.new _ _ _, (HF7.out.1.kept.then hk8).size⟩
           have HF8 : Hid (S1 w w8 d b gI c3 gG gR cR m K x3 ∧ Erow w8 gG (K ++ [⟨gb, 512, 579⟩, ⟨gx, 512, 512⟩, ⟨gy, 512, 512⟩, ⟨gz, 1024, 1024⟩])) := by
             have hk8 : Kept No w7 w8 := by rw [hw8]; exact (Kept.refl No w7).alloc _
             have h8 := HF7.out.1.no hk8
             refine ⟨h8, h8.ents.add4 (n0 := wr.heap.size) (fun f hf => (HR.out.2.2.2.1.ents.ok f hf).1.lt) ?_ ⟨by show 512 ≤ 579; omega, by show 579 ≤ 2000; omega, 5, _, HF7.out.2.1.kept hk8 (fun e => e), ?_, .inl rfl⟩ ⟨Nat.le_refl _, by show 512 ≤ 2000; omega, 72, _, HF7.out.2.2.2.1.kept hk8 (fun e => e), ?_, .inr ⟨rfl, rfl⟩⟩ ⟨Nat.le_refl _, by show 512 ≤ 2000; omega, 72, _, HF7.out.2.2.2.2.2.1.kept hk8 (fun e => e), ?_, .inr ⟨rfl, rfl⟩⟩ ⟨Nat.le_refl _, by show 1024 ≤ 2000; omega, 5, _, HF7.out.2.2.2.2.2.2.2.1.kept hk8 (fun e => e), ?_, .inl rfl⟩ HF7.out.2.2.1 HF7.out.2.2.2.2.1 HF7.out.2.2.2.2.2.2.1 HF7.out.2.2.2.2.2.2.2.2⟩
             · obtain ⟨i, hi⟩ : ∃ e, e ∈ K := by
                 have h1 := HR.out.2.2.2.1.len
                 have h2 := HR.out.2.2.1
                 cases K with
                 | nil => simp at h1; omega
                 | cons e r => exact ⟨e, List.mem_cons_self ..⟩
               have h1 := HR.out.2.2.2.1.ents.ok i hi
               have := h1.1.lt
               omega
             · rw [List.length_map, lentS_len _ _ (Nat.le_refl _), HB.out.1]
             · rw [List.length_map, HB.out.1]
             · rw [List.length_map, HB.out.1]
             · rw [List.length_map]; exact flatN_len _ HSa.out.2.2.ok.fine.len 2
           have TE : Hid (1 = 1) := rfl
           clear hw' w' TL HF7)
        | (have hguard := TE
           clear hguard
           rw [← hw8]
           refine wp_appR rfl (.tmp 128) (.tmp 133) rfl w.heap.size m cR (some ⟨gR, 0, none⟩) (K.map entV) rfl HF8.out.1.row ⟨w7.heap.size, 0, none⟩ 4 4 [.slice (some ⟨gb, 0, none⟩) 512 579, .slice (some ⟨gx, 0, none⟩) 512 512, .slice (some ⟨gy, 0, none⟩) 512 512, .slice (some ⟨gz, 0, none⟩) 1024 1024] rfl rfl ?hnews ?hone (by omega) (by omega) HN8.out.2 (m + 4) rfl ?_
           case hnews =>
             intro z u hu
             have h1 := HN8.out.1.cell z
             rw [List.getElem?_toArray, hu] at h1
             have ea : (⟨w7.heap.size, 0, none⟩ : Addr).add z = ⟨w7.heap.size, z, none⟩ := by
               simp [Addr.add]
               intro h0
               rw [h0]
             rw [ea]
             exact h1
           case hone => intro u hu; simp at hu; rcases hu with rfl | rfl | rfl | rfl <;> rfl
           intro gR2 cR2 w9 HO9 HK9
           have HS9 : Hid (S1 w w9 d b gI c3 gG gR2 cR2 (m + 4) (K ++ [⟨gb, 512, 579⟩, ⟨gx, 512, 512⟩, ⟨gy, 512, 512⟩, ⟨gz, 1024, 1024⟩]) x3) := by
             refine HF8.out.1.grow HK9.out ?_ HF8.out.2 ?_
             · rw [List.map_append]; exact HO9.out
             · rw [List.length_append, HF8.out.1.len]; rfl
           clear hw8 HO9 HK9 HN8 HF8 TE))
      go_roundw
      case rel => exact ⟨k + 1, m + 4, gR2, cR2, _, x3, rfl, by go_num, by omega, by omega, by have := HR.out.2.2.1; omega, HS9.out, HSa.out.2.2⟩
      case measure => simp [intOf]; omega
    · obtain ⟨m0, hm0⟩ : ∃ m0, m0 = m := ⟨_, rfl⟩
      have HS0 : Hid (S1 w wr d b gI c3 gG gR cR m K x ∧ Sa x 2 (3 * k) ∧ k ≤ 200 ∧ m ≤ 801 ∧ 1 ≤ m) := ⟨HR.out.2.2.2.1, HR.out.2.2.2.2, HR.out.2.1, by omega, by have := HR.out.2.2.1; omega⟩
      have hgo2 : ((k : Int) < (l0 : Int)) = False ∨ ((k : Int) < (l0 : Int) ∧ ((k : Int) < 200) = False) := by
        rcases hgo with h | h
        · exact .inl (by simp; omega)
        · exact .inr ⟨h.1, by simp; omega⟩
      clear HR hm0 m0
      rcases hgo with hgo | ⟨hgo, hgo'⟩
      · clear hgo2
        all_goals skip
        go_wp2
        go_loopw [17] (fun i wr => ∃ q : Nat, i = .int .i64 q ∧ Hid (q ≤ m ∧ S1 w wr d b gI c3 gG gR cR m K x ∧ ∀ (i' : Nat) e, i' < q → K[i']? = some e → Marked wr e (mkV i'))) (fun i _ => m - (intOf i).toNat)
        case atStart => exact ⟨0, rfl, Nat.zero_le _, HS0.out.1, fun i' e h => absurd h (Nat.not_lt_zero _)⟩
        case round =>
          obtain ⟨q, rfl, HQ⟩ := hrel
          by_cases hq : (q : Int) < (m : Int)
          · have hq' : q < K.length := by have := HQ.out.2.1.len; omega
            obtain ⟨e, he⟩ : ∃ e, K[q]? = some e := ⟨K[q], List.getElem?_eq_getElem hq'⟩
            have HE : Hid (K[q]? = some e ∧ e ∈ K) := ⟨he, List.mem_of_getElem? he⟩
            have r0 : wr.cell? ⟨gR, q, none⟩ = some (.slice (some ⟨e.g, 0, none⟩) e.l e.c) := HQ.out.2.1.row.at' (by rw [List.getElem?_map, he]; rfl)
            have hel : (e.l : Int) ≤ 2000 := by have h1 := (HQ.out.2.1.ents.ok e HE.out.2).1; have := h1.le; have := h1.le2; omega
            clear hq' he
            go_wp2
            go_loopw [18] (fun i wr => ∃ j : Nat, i = .int .i64 j ∧ Hid (j ≤ e.l ∧ S1 w wr d b gI c3 gG gR cR m K x ∧ (∀ (i' : Nat) f, i' < q → K[i']? = some f → Marked wr f (mkV i')) ∧ ∀ j', j' < j → wr.cell? ⟨e.g, j', none⟩ = some (mkV q))) (fun i _ => e.l - (intOf i).toNat)
            case atStart => exact ⟨0, rfl, Nat.zero_le _, HQ.out.2.1, HQ.out.2.2, fun j' h => absurd h (Nat.not_lt_zero _)⟩
            case round =>
              clear r0
              obtain ⟨j, rfl, HJ⟩ := hrel
              have r0 : wr.cell? ⟨gR, q, none⟩ = some (.slice (some ⟨e.g, 0, none⟩) e.l e.c) := HJ.out.2.1.row.at' (by rw [List.getElem?_map, HE.out.1]; rfl)
              by_cases hj : (j : Int) < (e.l : Int)
              · have hok := (HJ.out.2.1.ents.ok e HE.out.2).1
                obtain ⟨⟨v, s0⟩, f0⟩ := hok.cell (j := j) (by have := hok.le; omega)
                have HS : Hid (∀ u : Value, u = mkV q → S1 w (wr.setCell ⟨e.g, j, none⟩ u) d b gI c3 gG gR cR m K x ∧ (∀ (i' : Nat) f, i' < q → K[i']? = some f → Marked (wr.setCell ⟨e.g, j, none⟩ u) f (mkV i')) ∧ ∀ j', j' < j + 1 → (wr.setCell ⟨e.g, j, none⟩ u).cell? ⟨e.g, j', none⟩ = some (mkV q)) := by
                  intro u hu
                  subst hu
                  have hk : Kept (Only e.g) wr (wr.setCell ⟨e.g, j, none⟩ (mkV q)) := (Kept.refl (Only e.g) wr).setCell (fun _ => onlySelf e.g) _
                  refine ⟨HJ.out.2.1.mark HE.out.2 hk (hok.set j _), fun i' f hi' hf => (HJ.out.2.2.1 i' f hi' hf).kept hk (fun eo => ?_), fun j' hj' => ?_⟩
                  · have := HJ.out.2.1.ents.dis i' q f e hf HE.out.1 eo
                    omega
                  · obtain ⟨_, _, t, cs, hb, hl, _⟩ := hok
                    have h1 := hb.set j (mkV q)
                    rw [h1.cell, Array.getElem?_setIfInBounds]
                    by_cases hjj : j = j'
                    · subst hjj
                      rw [if_pos rfl, if_pos (by simp; have := (HJ.out.2.1.ents.ok e HE.out.2).1.le; omega)]
                    · rw [if_neg hjj]
                      have := HJ.out.2.2.2 j' (by omega)
                      rw [hb.cell] at this
                      exact this
                clear hok
                go_wp2
                go_roundw
                case rel => exact ⟨j + 1, by go_num, (by omega : j + 1 ≤ e.l), HS.out _ rfl⟩
                case measure => simp [intOf]; omega
              · have HS : Hid (∀ (i' : Nat) f, i' < q + 1 → K[i']? = some f → Marked wr f (mkV i')) := by
                  intro i' f hi' hf
                  by_cases h1 : i' = q
                  · subst h1
                    rw [HE.out.1] at hf
                    cases hf
                    exact fun j' hj' => HJ.out.2.2.2 j' (by have := HJ.out.1; omega)
                  · exact HJ.out.2.2.1 i' f (by omega) hf
                go_wp2
                go_roundw
                case rel => exact ⟨q + 1, by go_num, (by omega : q + 1 ≤ m), HJ.out.2.1, HS.out⟩
                case measure => simp [intOf]; omega
          · have hqm : q = m := by have := HQ.out.1; omega
            have HM : Hid (S1 w wr d b gI c3 gG gR cR m K x ∧ ∀ (i' : Nat) e, K[i']? = some e → Marked wr e (mkV i')) := by
              refine ⟨HQ.out.2.1, fun i' e he => HQ.out.2.2 i' e ?_ he⟩
              have := (List.getElem?_eq_some_iff.1 he).1
              have := HQ.out.2.1.len
              omega
            obtain ⟨n3, hn3⟩ : ∃ n3, n3 = wr.heap.size := ⟨_, rfl⟩
            have HN3 : Hid (n3 ≤ wr.heap.size ∧ ∀ e ∈ K, e.g < n3) := ⟨by show n3 ≤ wr.heap.size; omega, fun e he => by rw [hn3]; exact (HM.out.1.ents.ok e he).1.lt⟩
            have HN4 : Hid (w.heap.size ≤ n3) := by have := HM.out.1.kept.size; show w.heap.size ≤ n3; omega
            have HW : Hid (gR < n3) := by obtain ⟨cs, hb⟩ := HM.out.1.rowbox; have := hb.lt; show gR < n3; omega
            have HM1 : Hid (1 ≤ m) := HS0.out.2.2.2.2
            have HSx : Hid (Sa x 2 (3 * k)) := HS0.out.2.1
            clear hqm HQ HS0 hn3
            go_wp2
            go_loopw [19, 20] (fun v19 i wr => ∃ (q cL : Nat) (aL : Option Addr) (Ls : List Ent), v19 = .slice aL q cL ∧ i = .int .i64 q ∧ Hid (q ≤ m ∧ n3 ≤ wr.heap.size ∧ S1 w wr d b gI c3 gG gR cR m K x ∧ (∀ (i' : Nat) e, K[i']? = some e → Marked wr e (mkV i')) ∧ Own 22 1 wr n3 aL cL q (Ls.map entV) ∧ Ls.length = q ∧ ∀ (i' : Nat) f e, Ls[i']? = some f → K[i']? = some e → Long wr n3 f e (mkV i') (grV i'))) (fun _ i _ => m - (intOf i).toNat)
            case atStart => exact ⟨0, 0, none, [], rfl, rfl, Nat.zero_le _, HN3.out.1, HM.out.1, HM.out.2, ⟨rfl, .inl ⟨rfl, rfl⟩⟩, rfl, fun i' f e h => by simp at h⟩
            case round =>
              clear HM
              obtain ⟨q, cL, aL, Ls, rfl, rfl, HQ⟩ := hrel
              by_cases hq : (q : Int) < (m : Int)
              · have hq' : q < K.length := by have := HQ.out.2.2.1.len; omega
                obtain ⟨e, he⟩ : ∃ e, K[q]? = some e := ⟨K[q], List.getElem?_eq_getElem hq'⟩
                have HE : Hid (K[q]? = some e ∧ e ∈ K) := ⟨he, List.mem_of_getElem? he⟩
                have r0 : wr.cell? ⟨gR, q, none⟩ = some (.slice (some ⟨e.g, 0, none⟩) e.l e.c) := HQ.out.2.2.1.row.at' (by rw [List.getElem?_map, he]; rfl)
                have hel : (e.l : Int) ≤ 2000 := by have h1 := (HQ.out.2.2.1.ents.ok e HE.out.2).1; have := h1.le; have := h1.le2; omega
                obtain ⟨wi, hwi⟩ : ∃ wi, wi = wr := ⟨_, rfl⟩
                have HG0 : Hid (Gr wi wr e 0 (mkV q) (grV q) e.g e.c) := by rw [hwi]; exact Gr.start (HQ.out.2.2.1.ents.ok e HE.out.2).1 (HQ.out.2.2.2.1 q e he) _
                rw [← hwi] at HQ
                have HQi : Hid _ := HQ.out
                clear hq' he hwi
                go_wp2
                go_loopw [21, 22] (fun v21 i wr => ∃ (j n g' cap' : Nat), v21 = .slice (some ⟨g', 0, none⟩) n cap' ∧ i = .int .i64 j ∧ Hid (j ≤ 70 ∧ e.l + j = n ∧ Gr wi wr e j (mkV q) (grV q) g' cap')) (fun _ i _ => 70 - (intOf i).toNat)
                case atStart => exact ⟨0, e.l, e.g, e.c, rfl, rfl, by omega, rfl, HG0.out⟩
                case round =>
                  clear HG0 r0
                  obtain ⟨j, n, g', cap', rfl, rfl, HJ⟩ := hrel
                  by_cases hj : (j : Int) < 70
                  · have hgv : Hid (grV q = .int .u8 (IntKind.u8.wrap ((q : Int) + 50))) := rfl
                    go_wp2_with (refine wp_one rfl (.tmp 173) (.tmp 177) rfl wi e j (mkV q) (grV q) g' cap' n HJ.out.2.1 rfl (HJ.out.2.2.no ((Kept.refl No wr).alloc _)) ⟨wr.heap.size, 0, none⟩ 1 rfl ?hy ?hone (by omega) (n + 1) rfl ?_
                                 case hy => exact (Box.new wr 5 #[_]).cell 0
                                 case hone => rfl
                                 intro g2 cap2 w2 HG2)
                    go_roundw
                    case rel => exact ⟨j + 1, n + 1, g2, cap2, rfl, by go_num, (by omega : j + 1 ≤ 70), by have := HJ.out.2.1; omega, HG2.out⟩
                    case measure => simp [intOf]; omega
                  · have hj7 : j = 70 := by have := HJ.out.1; omega
                    subst hj7
                    obtain ⟨w2, hw2⟩ : ∃ w2, w2 = wr.alloc (.cells #[.slice (some ⟨g', 0, none⟩) n cap'] 22) := ⟨_, rfl⟩
                    have hk2 : Kept No wr w2 := by rw [hw2]; exact (Kept.refl No wr).alloc _
                    have HG2 : Hid (Gr wi w2 e 70 (mkV q) (grV q) g' cap') := HJ.out.2.2.no hk2
                    have hs2 : w2.cell? ⟨wr.heap.size, 0, none⟩ = some (.slice (some ⟨g', 0, none⟩) n cap') := by rw [hw2]; exact (Box.new wr 22 #[_]).cell 0
                    have HS2 : Hid (n3 ≤ w2.heap.size ∧ S1 w w2 d b gI c3 gG gR cR m K x ∧ (∀ (i' : Nat) f, K[i']? = some f → Marked w2 f (mkV i')) ∧ Own 22 1 w2 n3 aL cL q (Ls.map entV) ∧ (∀ (i' : Nat) f e, Ls[i']? = some f → K[i']? = some e → Long w2 n3 f e (mkV i') (grV i')) ∧ Long w2 n3 ⟨g', n, cap'⟩ e (mkV q) (grV q) ∧ w2.cell? ⟨wr.heap.size, 0, none⟩ = some (.slice (some ⟨g', 0, none⟩) n cap')) := by
                      have hG := HG2.out
                      have hk := hG.kept
                      have hQ := HQi.out
                      have hok := (hQ.2.2.1.ents.ok e HE.out.2).1
                      have hlt := HN3.out.2 e HE.out.2
                      refine ⟨Nat.le_trans hQ.2.1 hk.size, hQ.2.2.1.mark HE.out.2 hk hG.ok, fun i' f hf => ?_, hQ.2.2.2.2.1.kept hk (fun k ha eo => ?_), fun i' f e' hf he' => ?_, ?_, hs2⟩
                      · by_cases h1 : i' = q
                        · subst h1
                          rw [HE.out.1] at hf
                          cases hf
                          exact hG.mkd
                        · exact (hQ.2.2.2.1 i' f hf).kept hk (fun eo => h1 (hQ.2.2.1.ents.dis i' q f e hf HE.out.1 eo))
                      · have h1 := hQ.2.2.2.2.1.base ha
                        have h2 : k = e.g := eo
                        omega
                      · refine (hQ.2.2.2.2.2.2 i' f e' hf he').kept hk (fun eo => ?_)
                        have h2 : f.g = e.g := eo
                        obtain ⟨_, _, _, _, _, _, _, _, hfg⟩ := hQ.2.2.2.2.2.2 i' f e' hf he'
                        have hi' := (List.getElem?_eq_some_iff.1 hf).1
                        have hLl := hQ.2.2.2.2.2.1
                        rcases hfg with hfg | hfg
                        · have := hQ.2.2.1.ents.dis i' q e' e he' HE.out.1 (by omega)
                          omega
                        · omega
                      · have := hG.long (n3 := n3) hQ.2.1
                        rw [HJ.out.2.1] at this
                        exact this
                    clear hk2 HG2 HQ HJ hs2
                    go_wp2_with (rw [← hw2]
                                 refine wp_appR rfl (.tmp 179) (.tmp 181) rfl n3 q cL aL (Ls.map entV) rfl HS2.out.2.2.2.1 ⟨wr.heap.size, 0, none⟩ 1 1 [.slice (some ⟨g', 0, none⟩) n cap'] rfl rfl ?hnews ?hone (by omega) (by omega) HS2.out.1 (q + 1) rfl ?_
                                 case hnews => intro z u hu; match z, hu with | 0, hu => (cases hu; exact HS2.out.2.2.2.2.2.2) | z + 1, hu => simp at hu
                                 case hone => intro u hu; rw [List.mem_singleton.1 hu]; rfl
                                 intro gL2 cL2 w4 HO4 HK4)
                    have HS4 : Hid (n3 ≤ w4.heap.size ∧ S1 w w4 d b gI c3 gG gR cR m K x ∧ (∀ (i' : Nat) f, K[i']? = some f → Marked w4 f (mkV i')) ∧ (∀ (i' : Nat) f e, (Ls ++ [(⟨g', n, cap'⟩ : Ent)])[i']? = some f → K[i']? = some e → Long w4 n3 f e (mkV i') (grV i')) ∧ (Ls ++ [(⟨g', n, cap'⟩ : Ent)]).length = q + 1 ∧ Own 22 1 w4 n3 (some ⟨gL2, 0, none⟩) cL2 (q + 1) ((Ls ++ [(⟨g', n, cap'⟩ : Ent)]).map entV)) := by
                      have h2 := HS2.out
                      have hK := HK4.out
                      have ho : ∀ k, At aL k → k ≠ gR ∧ w.heap.size ≤ k ∧ ∃ cs, Box w2 k 22 cs := fun k ha => by
                        obtain ⟨h3, h4⟩ := own_at h2.2.2.2.1 ha
                        have := HW.out
                        have := HN4.out
                        exact ⟨by omega, by omega, h4⟩
                      have hne : ∀ {g : Nat} {t : TypeId} {cs : Array Value}, Box w2 g t cs → (t = 5 ∨ t = 72) → ¬ At aL g := fun hb ht ha => by
                        obtain ⟨_, _, cs, hb'⟩ := ho _ ha
                        exact hb.diff hb' (by rcases ht with rfl | rfl <;> decide) rfl
                      have hlong : ∀ {f e : Ent} {mv gv : Value}, Long w2 n3 f e mv gv → Long w4 n3 f e mv gv := fun hL => by
                        have hL' := hL
                        obtain ⟨t, cs, hb, ht, _⟩ := hL'
                        exact hL.kept hK (hne hb ht)
                      refine ⟨Nat.le_trans h2.1 hK.size, h2.2.1.other hK ho, fun i' f hf => (h2.2.2.1 i' f hf).kept hK ?_, fun i' f e' hf he' => ?_, ?_, ?_⟩
                      · obtain ⟨_, _, t, cs, hb, _, ht⟩ := (h2.2.1.ents.ok f (List.mem_of_getElem? hf)).1
                        exact hne hb (ht.imp id (fun h => h.1))
                      · have hLl := HQi.out.2.2.2.2.2.1
                        by_cases hi' : i' < Ls.length
                        · rw [List.getElem?_append_left hi'] at hf
                          exact hlong (h2.2.2.2.2.1 i' f e' hf he')
                        · rw [List.getElem?_append_right (by omega)] at hf
                          have h5 := (List.getElem?_eq_some_iff.1 hf).1
                          have h6 : i' = q := by simp at h5; omega
                          subst h6
                          rw [hLl, Nat.sub_self] at hf
                          simp at hf
                          rw [HE.out.1] at he'
                          cases he'
                          subst hf
                          exact hlong h2.2.2.2.2.2.1
                      · rw [List.length_append, HQi.out.2.2.2.2.2.1]; rfl
                      · rw [List.map_append]; exact HO4.out
                    go_roundw
                    case rel => exact ⟨q + 1, cL2, some ⟨gL2, 0, none⟩, Ls ++ [⟨g', n, cap'⟩], rfl, by go_num, (by omega : q + 1 ≤ m), HS4.out.1, HS4.out.2.1, HS4.out.2.2.1, HS4.out.2.2.2.2.2, HS4.out.2.2.2.2.1, HS4.out.2.2.2.1⟩
                    case measure => simp [intOf]; omega
              · have hqm : q = m := by have := HQ.out.1; omega
                subst hqm
                obtain ⟨gL, haL, HL⟩ : ∃ gL, aL = some ⟨gL, 0, none⟩ ∧ Hid (Own 22 1 wr n3 (some ⟨gL, 0, none⟩) cL q (Ls.map entV)) := by
                  have h1 := HQ.out.2.2.2.2.1
                  rcases h1.cases (by rw [List.length_map, HQ.out.2.2.2.2.2.1]; omega) with ⟨_, _, h0⟩ | ⟨g, e, _⟩
                  · have := HM1.out; omega
                  · exact ⟨g, e, by rw [e] at h1; exact h1⟩
                subst haL
                obtain ⟨wE, hwE⟩ : ∃ wE, wE = wr := ⟨_, rfl⟩
                rw [← hwE] at HQ HL ⊢
                clear hwE wr
                have HF : Hid (S1 w wE d b gI c3 gG gR cR q K x ∧ (∀ (i' : Nat) e, K[i']? = some e → Marked wE e (mkV i')) ∧ Ls.length = q ∧ ∀ (i' : Nat) f e, Ls[i']? = some f → K[i']? = some e → Long wE n3 f e (mkV i') (grV i')) := ⟨HQ.out.2.2.1, HQ.out.2.2.2.1, HQ.out.2.2.2.2.2.1, HQ.out.2.2.2.2.2.2⟩
                clear HQ
                go_wp2
                go_loopw [23] (fun i wr => ∃ p : Nat, i = .int .i64 p ∧ Hid (p ≤ q) ∧ wr = wE) (fun i _ => q - (intOf i).toNat)
                case atStart => exact ⟨0, rfl, Nat.zero_le _, rfl⟩
                case round =>
                  obtain ⟨p, rfl, HPq, rfl⟩ := hrel
                  by_cases hp : (p : Int) < (q : Int)
                  · have hpK : p < K.length := by have := HF.out.1.len; omega
                    have hpL : p < Ls.length := by have := HF.out.2.2.1; omega
                    obtain ⟨e, he⟩ : ∃ e, K[p]? = some e := ⟨K[p], List.getElem?_eq_getElem hpK⟩
                    obtain ⟨f, hf⟩ : ∃ f, Ls[p]? = some f := ⟨Ls[p], List.getElem?_eq_getElem hpL⟩
                    have r0 : wr.cell? ⟨gR, p, none⟩ = some (.slice (some ⟨e.g, 0, none⟩) e.l e.c) := HF.out.1.row.at' (by rw [List.getElem?_map, he]; rfl)
                    have r1 : wr.cell? ⟨gL, p, none⟩ = some (.slice (some ⟨f.g, 0, none⟩) f.l f.c) := HL.out.at' (by rw [List.getElem?_map, hf]; rfl)
                    have HLo : Hid (Long wr n3 f e (mkV p) (grV p) ∧ Marked wr e (mkV p)) := ⟨HF.out.2.2.2 p f e hf he, HF.out.2.1 p e he⟩
                    have hfl : Hid (f.l = e.l + 70 ∧ e.l ≤ 2000) := by
                      obtain ⟨_, _, _, _, _, h1, _⟩ := HLo.out.1
                      have h2 := (HF.out.1.ents.ok e (List.mem_of_getElem? he)).1
                      have := h2.le
                      have := h2.le2
                      exact ⟨h1, by omega⟩
                    have hfli : (f.l : Int) ≤ 3000 := by have := hfl.out; omega
                    have hpi : (p : Int) ≤ 801 := by omega
                    clear hpK hpL he hf
                    go_wp2
                    go_loopw [24] (fun i wr' => ∃ j : Nat, i = .int .i64 j ∧ Hid (j ≤ f.l) ∧ wr' = wr) (fun i _ => f.l - (intOf i).toNat)
                    case atStart => exact ⟨0, rfl, Nat.zero_le _, rfl⟩
                    case round =>
                      obtain ⟨j, rfl, HJ, rfl⟩ := hrel
                      by_cases hj : (j : Int) < (f.l : Int)
                      · have hj' : j < f.l := by omega
                        have hLc := HLo.out.1.cell hj'
                        by_cases hje : (j : Int) < (e.l : Int)
                        · have s0 : _ = some (Value.int .u8 (IntKind.u8.wrap ((p : Int) + 100))) := HLo.out.2 j (by omega)
                          rw [if_pos (by omega)] at hLc
                          have s1 : _ = some (Value.int .u8 (IntKind.u8.wrap ((p : Int) + 100))) := hLc
                          clear hLc hj'
                          go_wp2
                          go_roundw
                          case rel => exact ⟨j + 1, by go_num, (by omega : j + 1 ≤ f.l), by first | rfl | trivial⟩
                          case measure => simp [intOf]; omega
                        · rw [if_neg (by omega)] at hLc
                          have s1 : _ = some (Value.int .u8 (IntKind.u8.wrap ((p : Int) + 50))) := hLc
                          clear hLc hj'
                          go_wp2
                          go_roundw
                          case rel => exact ⟨j + 1, by go_num, (by omega : j + 1 ≤ f.l), by first | rfl | trivial⟩
                          case measure => simp [intOf]; omega
                      · go_wp2
                        go_roundw
                        case rel => exact ⟨p + 1, by go_num, (by omega : p + 1 ≤ q), by first | rfl | trivial⟩
                        case measure => simp [intOf]; omega
                  · obtain ⟨x2, hx2⟩ : ∃ x2 : DS, x2 = { x with rd := x.rd + 1 } := ⟨_, rfl⟩
                    have HX2 : Hid (({ x with rd := x.rd + 1 } : DS) = x2 ∧ x2.c = x.c ∧ x2.N = 2 ∧ Fine x2 ∧ ∀ m, U8 (x2.c m)) := by
                      have hf := HSx.out.ok.fine
                      rw [hx2]
                      exact ⟨rfl, rfl, HSx.out.N, ⟨hf.n1, hf.n2, hf.len, hf.out⟩, HSx.out.ok.u8⟩
                    have HD5 : Hid ((flatN 2 x.c).drop 512 = x.c 1 ∧ (flatN 2 x.c).length = 1024) := by
                      have hl := HSx.out.ok.fine.len
                      refine ⟨?_, flatN_len _ hl 2⟩
                      show ((([] : List Int) ++ x.c 0) ++ x.c 1).drop 512 = x.c 1
                      rw [List.nil_append, List.drop_append_of_le_length (by rw [hl]; omega), List.drop_of_length_le (by rw [hl]; omega), List.nil_append]
                    have hcI : (1024 : Int) ≤ (c3 : Int) := by
                      obtain ⟨sp, _, _, h⟩ := HF.out.1.img
                      omega
                    have TR : Hid (1 = 1) := rfl
                    clear hx2
                    go_wp2_with (first
                      | (go_at_call 12
                         have hguard := TR
                         clear hguard
                         obtain ⟨gx, hgx⟩ : ∃ gx, gx = wr.heap.size := ⟨_, rfl⟩
                         have hS : Calls Try.prog 12 #[.pointer (some ⟨d, 0, none⟩), .int .i64 1] wr _ := readYes_any d b 1 x wr HF.out.1.dsk HSx.out.fl (by rw [HSx.out.N]; omega) (HSx.out.ok.fine.len 1) HSx.out.ok.rd0 HSx.out.ok.rd1
                         rw [← hgx, HX2.out.1] at hS
                         refine Calls.mono hS ?_
                         rintro e w2 ⟨rfl, hb2, hd2, hk2⟩
                         have HG2 : Hid (S1 w w2 d b gI c3 gG gR cR q K x2 ∧ Box w2 gx 72 (u8s (x.c 1))) := ⟨HF.out.1.left hk2.db hd2 (by rw [HX2.out.2.1]), hb2⟩
                         have TM : Hid (1 = 1) := rfl
                         clear hS hb2 hd2 hk2 hgx TR)
                      | (go_at_call 14
                         have hguard := TM
                         clear hguard
                         have hN : Nums .u8 w2 (some ⟨gI, 512, none⟩) (x.c 1) := by
                           have := HG2.out.1.img.numsAt 512
                           rw [HX2.out.2.1, HD5.out.1] at this
                           exact this
                         refine Calls.mono (same_any (some ⟨gx, 0, none⟩) (some ⟨gI, 512, none⟩) 512 512 512 _ (x.c 1) (x.c 1) w2 HG2.out.2.all hN (HSx.out.ok.u8 1) (HSx.out.ok.u8 1) (HSx.out.ok.fine.len 1) (HSx.out.ok.fine.len 1)) ?_
                         rintro e w' ⟨rfl, hw'⟩
                         rw [hw', decide_eq_true rfl]
                         have TI : Hid (1 = 1) := rfl
                         clear hw' w' TM hN)
                      | (go_at_call 23
                         have hguard := TI
                         clear hguard
                         obtain ⟨gz, hgz⟩ : ∃ gz, gz = w2.heap.size := ⟨_, rfl⟩
                         have hS := image_any d b x2 w2 HG2.out.1.dsk HX2.out.2.2.2.1
                         rw [← hgz, HX2.out.2.2.1, show (2 * 512 : Nat) = 1024 from rfl] at hS
                         refine Calls.mono hS ?_
                         rintro e w3 ⟨rfl, hb3, hk3⟩
                         have HG3 : Hid (S1 w w3 d b gI c3 gG gR cR q K x2 ∧ Box w3 gz 5 (u8s (flatN 2 x2.c))) := ⟨HG2.out.1.no hk3, hb3⟩
                         have TN : Hid (1 = 1) := rfl
                         clear hS hb3 hk3 hgz TI)
                      | (go_at_call 14
                         have hguard := TN
                         clear hguard
                         refine Calls.mono (same_any (some ⟨gz, 0, none⟩) (some ⟨gI, 0, none⟩) 1024 1024 1024 c3 (flatN 2 x2.c) (flatN 2 x2.c) w3 HG3.out.2.all HG3.out.1.img.nums (flatN_u8 HX2.out.2.2.2.2 2) (flatN_u8 HX2.out.2.2.2.2 2) (flatN_len _ HX2.out.2.2.2.1.len 2) (flatN_len _ HX2.out.2.2.2.1.len 2)) ?_
                         rintro e w' ⟨rfl, hw'⟩
                         rw [hw', decide_eq_true rfl]
                         clear hw' w' TN))
                    all_goals go_ret
                    all_goals exact ⟨rfl, HG3.out.1.kept⟩
      · clear hgo2
        all_goals skip
        go_wp2
        go_loopw [17] (fun i wr => ∃ q : Nat, i = .int .i64 q ∧ Hid (q ≤ m ∧ S1 w wr d b gI c3 gG gR cR m K x ∧ ∀ (i' : Nat) e, i' < q → K[i']? = some e → Marked wr e (mkV i'))) (fun i _ => m - (intOf i).toNat)
        case atStart => exact ⟨0, rfl, Nat.zero_le _, HS0.out.1, fun i' e h => absurd h (Nat.not_lt_zero _)⟩
        case round =>
          obtain ⟨q, rfl, HQ⟩ := hrel
          by_cases hq : (q : Int) < (m : Int)
          · have hq' : q < K.length := by have := HQ.out.2.1.len; omega
            obtain ⟨e, he⟩ : ∃ e, K[q]? = some e := ⟨K[q], List.getElem?_eq_getElem hq'⟩
            have HE : Hid (K[q]? = some e ∧ e ∈ K) := ⟨he, List.mem_of_getElem? he⟩
            have r0 : wr.cell? ⟨gR, q, none⟩ = some (.slice (some ⟨e.g, 0, none⟩) e.l e.c) := HQ.out.2.1.row.at' (by rw [List.getElem?_map, he]; rfl)
            have hel : (e.l : Int) ≤ 2000 := by have h1 := (HQ.out.2.1.ents.ok e HE.out.2).1; have := h1.le; have := h1.le2; omega
            clear hq' he
            go_wp2
            go_loopw [18] (fun i wr => ∃ j : Nat, i = .int .i64 j ∧ Hid (j ≤ e.l ∧ S1 w wr d b gI c3 gG gR cR m K x ∧ (∀ (i' : Nat) f, i' < q → K[i']? = some f → Marked wr f (mkV i')) ∧ ∀ j', j' < j → wr.cell? ⟨e.g, j', none⟩ = some (mkV q))) (fun i _ => e.l - (intOf i).toNat)
            case atStart => exact ⟨0, rfl, Nat.zero_le _, HQ.out.2.1, HQ.out.2.2, fun j' h => absurd h (Nat.not_lt_zero _)⟩
            case round =>
              clear r0
              obtain ⟨j, rfl, HJ⟩ := hrel
              have r0 : wr.cell? ⟨gR, q, none⟩ = some (.slice (some ⟨e.g, 0, none⟩) e.l e.c) := HJ.out.2.1.row.at' (by rw [List.getElem?_map, HE.out.1]; rfl)
              by_cases hj : (j : Int) < (e.l : Int)
              · have hok := (HJ.out.2.1.ents.ok e HE.out.2).1
                obtain ⟨⟨v, s0⟩, f0⟩ := hok.cell (j := j) (by have := hok.le; omega)
                have HS : Hid (∀ u : Value, u = mkV q → S1 w (wr.setCell ⟨e.g, j, none⟩ u) d b gI c3 gG gR cR m K x ∧ (∀ (i' : Nat) f, i' < q → K[i']? = some f → Marked (wr.setCell ⟨e.g, j, none⟩ u) f (mkV i')) ∧ ∀ j', j' < j + 1 → (wr.setCell ⟨e.g, j, none⟩ u).cell? ⟨e.g, j', none⟩ = some (mkV q)) := by
                  intro u hu
                  subst hu
                  have hk : Kept (Only e.g) wr (wr.setCell ⟨e.g, j, none⟩ (mkV q)) := (Kept.refl (Only e.g) wr).setCell (fun _ => onlySelf e.g) _
                  refine ⟨HJ.out.2.1.mark HE.out.2 hk (hok.set j _), fun i' f hi' hf => (HJ.out.2.2.1 i' f hi' hf).kept hk (fun eo => ?_), fun j' hj' => ?_⟩
                  · have := HJ.out.2.1.ents.dis i' q f e hf HE.out.1 eo
                    omega
                  · obtain ⟨_, _, t, cs, hb, hl, _⟩ := hok
                    have h1 := hb.set j (mkV q)
                    rw [h1.cell, Array.getElem?_setIfInBounds]
                    by_cases hjj : j = j'
                    · subst hjj
                      rw [if_pos rfl, if_pos (by simp; have := (HJ.out.2.1.ents.ok e HE.out.2).1.le; omega)]
                    · rw [if_neg hjj]
                      have := HJ.out.2.2.2 j' (by omega)
                      rw [hb.cell] at this
                      exact this
                clear hok
                go_wp2
                go_roundw
                case rel => exact ⟨j + 1, by go_num, (by omega : j + 1 ≤ e.l), HS.out _ rfl⟩
                case measure => simp [intOf]; omega
              · have HS : Hid (∀ (i' : Nat) f, i' < q + 1 → K[i']? = some f → Marked wr f (mkV i')) := by
                  intro i' f hi' hf
                  by_cases h1 : i' = q
                  · subst h1
                    rw [HE.out.1] at hf
                    cases hf
                    exact fun j' hj' => HJ.out.2.2.2 j' (by have := HJ.out.1; omega)
                  · exact HJ.out.2.2.1 i' f (by omega) hf
                go_wp2
                go_roundw
                case rel => exact ⟨q + 1, by go_num, (by omega : q + 1 ≤ m), HJ.out.2.1, HS.out⟩
                case measure => simp [intOf]; omega
          · have hqm : q = m := by have := HQ.out.1; omega
            have HM : Hid (S1 w wr d b gI c3 gG gR cR m K x ∧ ∀ (i' : Nat) e, K[i']? = some e → Marked wr e (mkV i')) := by
              refine ⟨HQ.out.2.1, fun i' e he => HQ.out.2.2 i' e ?_ he⟩
              have := (List.getElem?_eq_some_iff.1 he).1
              have := HQ.out.2.1.len
              omega
            obtain ⟨n3, hn3⟩ : ∃ n3, n3 = wr.heap.size := ⟨_, rfl⟩
            have HN3 : Hid (n3 ≤ wr.heap.size ∧ ∀ e ∈ K, e.g < n3) := ⟨by show n3 ≤ wr.heap.size; omega, fun e he => by rw [hn3]; exact (HM.out.1.ents.ok e he).1.lt⟩
            have HN4 : Hid (w.heap.size ≤ n3) := by have := HM.out.1.kept.size; show w.heap.size ≤ n3; omega
            have HW : Hid (gR < n3) := by obtain ⟨cs, hb⟩ := HM.out.1.rowbox; have := hb.lt; show gR < n3; omega
            have HM1 : Hid (1 ≤ m) := HS0.out.2.2.2.2
            have HSx : Hid (Sa x 2 (3 * k)) := HS0.out.2.1
            clear hqm HQ HS0 hn3
            go_wp2
            go_loopw [19, 20] (fun v19 i wr => ∃ (q cL : Nat) (aL : Option Addr) (Ls : List Ent), v19 = .slice aL q cL ∧ i = .int .i64 q ∧ Hid (q ≤ m ∧ n3 ≤ wr.heap.size ∧ S1 w wr d b gI c3 gG gR cR m K x ∧ (∀ (i' : Nat) e, K[i']? = some e → Marked wr e (mkV i')) ∧ Own 22 1 wr n3 aL cL q (Ls.map entV) ∧ Ls.length = q ∧ ∀ (i' : Nat) f e, Ls[i']? = some f → K[i']? = some e → Long wr n3 f e (mkV i') (grV i'))) (fun _ i _ => m - (intOf i).toNat)
            case atStart => exact ⟨0, 0, none, [], rfl, rfl, Nat.zero_le _, HN3.out.1, HM.out.1, HM.out.2, ⟨rfl, .inl ⟨rfl, rfl⟩⟩, rfl, fun i' f e h => by simp at h⟩
            case round =>
              clear HM
              obtain ⟨q, cL, aL, Ls, rfl, rfl, HQ⟩ := hrel
              by_cases hq : (q : Int) < (m : Int)
              · have hq' : q < K.length := by have := HQ.out.2.2.1.len; omega
                obtain ⟨e, he⟩ : ∃ e, K[q]? = some e := ⟨K[q], List.getElem?_eq_getElem hq'⟩
                have HE : Hid (K[q]? = some e ∧ e ∈ K) := ⟨he, List.mem_of_getElem? he⟩
                have r0 : wr.cell? ⟨gR, q, none⟩ = some (.slice (some ⟨e.g, 0, none⟩) e.l e.c) := HQ.out.2.2.1.row.at' (by rw [List.getElem?_map, he]; rfl)
                have hel : (e.l : Int) ≤ 2000 := by have h1 := (HQ.out.2.2.1.ents.ok e HE.out.2).1; have := h1.le; have := h1.le2; omega
                obtain ⟨wi, hwi⟩ : ∃ wi, wi = wr := ⟨_, rfl⟩
                have HG0 : Hid (Gr wi wr e 0 (mkV q) (grV q) e.g e.c) := by rw [hwi]; exact Gr.start (HQ.out.2.2.1.ents.ok e HE.out.2).1 (HQ.out.2.2.2.1 q e he) _
                rw [← hwi] at HQ
                have HQi : Hid _ := HQ.out
                clear hq' he hwi
                go_wp2
                go_loopw [21, 22] (fun v21 i wr => ∃ (j n g' cap' : Nat), v21 = .slice (some ⟨g', 0, none⟩) n cap' ∧ i = .int .i64 j ∧ Hid (j ≤ 70 ∧ e.l + j = n ∧ Gr wi wr e j (mkV q) (grV q) g' cap')) (fun _ i _ => 70 - (intOf i).toNat)
                case atStart => exact ⟨0, e.l, e.g, e.c, rfl, rfl, by omega, rfl, HG0.out⟩
                case round =>
                  clear HG0 r0
                  obtain ⟨j, n, g', cap', rfl, rfl, HJ⟩ := hrel
                  by_cases hj : (j : Int) < 70
                  · have hgv : Hid (grV q = .int .u8 (IntKind.u8.wrap ((q : Int) + 50))) := rfl
                    go_wp2_with (refine wp_one rfl (.tmp 173) (.tmp 177) rfl wi e j (mkV q) (grV q) g' cap' n HJ.out.2.1 rfl (HJ.out.2.2.no ((Kept.refl No wr).alloc _)) ⟨wr.heap.size, 0, none⟩ 1 rfl ?hy ?hone (by omega) (n + 1) rfl ?_
                                 case hy => exact (Box.new wr 5 #[_]).cell 0
                                 case hone => rfl
                                 intro g2 cap2 w2 HG2)
                    go_roundw
                    case rel => exact ⟨j + 1, n + 1, g2, cap2, rfl, by go_num, (by omega : j + 1 ≤ 70), by have := HJ.out.2.1; omega, HG2.out⟩
                    case measure => simp [intOf]; omega
                  · have hj7 : j = 70 := by have := HJ.out.1; omega
                    subst hj7
                    obtain ⟨w2, hw2⟩ : ∃ w2, w2 = wr.alloc (.cells #[.slice (some ⟨g', 0, none⟩) n cap'] 22) := ⟨_, rfl⟩
                    have hk2 : Kept No wr w2 := by rw [hw2]; exact (Kept.refl No wr).alloc _
                    have HG2 : Hid (Gr wi w2 e 70 (mkV q) (grV q) g' cap') := HJ.out.2.2.no hk2
                    have hs2 : w2.cell? ⟨wr.heap.size, 0, none⟩ = some (.slice (some ⟨g', 0, none⟩) n cap') := by rw [hw2]; exact (Box.new wr 22 #[_]).cell 0
                    have HS2 : Hid (n3 ≤ w2.heap.size ∧ S1 w w2 d b gI c3 gG gR cR m K x ∧ (∀ (i' : Nat) f, K[i']? = some f → Marked w2 f (mkV i')) ∧ Own 22 1 w2 n3 aL cL q (Ls.map entV) ∧ (∀ (i' : Nat) f e, Ls[i']? = some f → K[i']? = some e → Long w2 n3 f e (mkV i') (grV i')) ∧ Long w2 n3 ⟨g', n, cap'⟩ e (mkV q) (grV q) ∧ w2.cell? ⟨wr.heap.size, 0, none⟩ = some (.slice (some ⟨g', 0, none⟩) n cap')) := by
                      have hG := HG2.out
                      have hk := hG.kept
                      have hQ := HQi.out
                      have hok := (hQ.2.2.1.ents.ok e HE.out.2).1
                      have hlt := HN3.out.2 e HE.out.2
                      refine ⟨Nat.le_trans hQ.2.1 hk.size, hQ.2.2.1.mark HE.out.2 hk hG.ok, fun i' f hf => ?_, hQ.2.2.2.2.1.kept hk (fun k ha eo => ?_), fun i' f e' hf he' => ?_, ?_, hs2⟩
                      · by_cases h1 : i' = q
                        · subst h1
                          rw [HE.out.1] at hf
                          cases hf
                          exact hG.mkd
                        · exact (hQ.2.2.2.1 i' f hf).kept hk (fun eo => h1 (hQ.2.2.1.ents.dis i' q f e hf HE.out.1 eo))
                      · have h1 := hQ.2.2.2.2.1.base ha
                        have h2 : k = e.g := eo
                        omega
                      · refine (hQ.2.2.2.2.2.2 i' f e' hf he').kept hk (fun eo => ?_)
                        have h2 : f.g = e.g := eo
                        obtain ⟨_, _, _, _, _, _, _, _, hfg⟩ := hQ.2.2.2.2.2.2 i' f e' hf he'
                        have hi' := (List.getElem?_eq_some_iff.1 hf).1
                        have hLl := hQ.2.2.2.2.2.1
                        rcases hfg with hfg | hfg
                        · have := hQ.2.2.1.ents.dis i' q e' e he' HE.out.1 (by omega)
                          omega
                        · omega
                      · have := hG.long (n3 := n3) hQ.2.1
                        rw [HJ.out.2.1] at this
                        exact this
                    clear hk2 HG2 HQ HJ hs2
                    go_wp2_with (rw [← hw2]
                                 refine wp_appR rfl (.tmp 179) (.tmp 181) rfl n3 q cL aL (Ls.map entV) rfl HS2.out.2.2.2.1 ⟨wr.heap.size, 0, none⟩ 1 1 [.slice (some ⟨g', 0, none⟩) n cap'] rfl rfl ?hnews ?hone (by omega) (by omega) HS2.out.1 (q + 1) rfl ?_
                                 case hnews => intro z u hu; match z, hu with | 0, hu => (cases hu; exact HS2.out.2.2.2.2.2.2) | z + 1, hu => simp at hu
                                 case hone => intro u hu; rw [List.mem_singleton.1 hu]; rfl
                                 intro gL2 cL2 w4 HO4 HK4)
                    have HS4 : Hid (n3 ≤ w4.heap.size ∧ S1 w w4 d b gI c3 gG gR cR m K x ∧ (∀ (i' : Nat) f, K[i']? = some f → Marked w4 f (mkV i')) ∧ (∀ (i' : Nat) f e, (Ls ++ [(⟨g', n, cap'⟩ : Ent)])[i']? = some f → K[i']? = some e → Long w4 n3 f e (mkV i') (grV i')) ∧ (Ls ++ [(⟨g', n, cap'⟩ : Ent)]).length = q + 1 ∧ Own 22 1 w4 n3 (some ⟨gL2, 0, none⟩) cL2 (q + 1) ((Ls ++ [(⟨g', n, cap'⟩ : Ent)]).map entV)) := by
                      have h2 := HS2.out
                      have hK := HK4.out
                      have ho : ∀ k, At aL k → k ≠ gR ∧ w.heap.size ≤ k ∧ ∃ cs, Box w2 k 22 cs := fun k ha => by
                        obtain ⟨h3, h4⟩ := own_at h2.2.2.2.1 ha
                        have := HW.out
                        have := HN4.out
                        exact ⟨by omega, by omega, h4⟩
                      have hne : ∀ {g : Nat} {t : TypeId} {cs : Array Value}, Box w2 g t cs → (t = 5 ∨ t = 72) → ¬ At aL g := fun hb ht ha => by
                        obtain ⟨_, _, cs, hb'⟩ := ho _ ha
                        exact hb.diff hb' (by rcases ht with rfl | rfl <;> decide) rfl
                      have hlong : ∀ {f e : Ent} {mv gv : Value}, Long w2 n3 f e mv gv → Long w4 n3 f e mv gv := fun hL => by
                        have hL' := hL
                        obtain ⟨t, cs, hb, ht, _⟩ := hL'
                        exact hL.kept hK (hne hb ht)
                      refine ⟨Nat.le_trans h2.1 hK.size, h2.2.1.other hK ho, fun i' f hf => (h2.2.2.1 i' f hf).kept hK ?_, fun i' f e' hf he' => ?_, ?_, ?_⟩
                      · obtain ⟨_, _, t, cs, hb, _, ht⟩ := (h2.2.1.ents.ok f (List.mem_of_getElem? hf)).1
                        exact hne hb (ht.imp id (fun h => h.1))
                      · have hLl := HQi.out.2.2.2.2.2.1
                        by_cases hi' : i' < Ls.length
                        · rw [List.getElem?_append_left hi'] at hf
                          exact hlong (h2.2.2.2.2.1 i' f e' hf he')
                        · rw [List.getElem?_append_right (by omega)] at hf
                          have h5 := (List.getElem?_eq_some_iff.1 hf).1
                          have h6 : i' = q := by simp at h5; omega
                          subst h6
                          rw [hLl, Nat.sub_self] at hf
                          simp at hf
                          rw [HE.out.1] at he'
                          cases he'
                          subst hf
                          exact hlong h2.2.2.2.2.2.1
                      · rw [List.length_append, HQi.out.2.2.2.2.2.1]; rfl
                      · rw [List.map_append]; exact HO4.out
                    go_roundw
                    case rel => exact ⟨q + 1, cL2, some ⟨gL2, 0, none⟩, Ls ++ [⟨g', n, cap'⟩], rfl, by go_num, (by omega : q + 1 ≤ m), HS4.out.1, HS4.out.2.1, HS4.out.2.2.1, HS4.out.2.2.2.2.2, HS4.out.2.2.2.2.1, HS4.out.2.2.2.1⟩
                    case measure => simp [intOf]; omega
              · have hqm : q = m := by have := HQ.out.1; omega
                subst hqm
                obtain ⟨gL, haL, HL⟩ : ∃ gL, aL = some ⟨gL, 0, none⟩ ∧ Hid (Own 22 1 wr n3 (some ⟨gL, 0, none⟩) cL q (Ls.map entV)) := by
                  have h1 := HQ.out.2.2.2.2.1
                  rcases h1.cases (by rw [List.length_map, HQ.out.2.2.2.2.2.1]; omega) with ⟨_, _, h0⟩ | ⟨g, e, _⟩
                  · have := HM1.out; omega
                  · exact ⟨g, e, by rw [e] at h1; exact h1⟩
                subst haL
                obtain ⟨wE, hwE⟩ : ∃ wE, wE = wr := ⟨_, rfl⟩
                rw [← hwE] at HQ HL ⊢
                clear hwE wr
                have HF : Hid (S1 w wE d b gI c3 gG gR cR q K x ∧ (∀ (i' : Nat) e, K[i']? = some e → Marked wE e (mkV i')) ∧ Ls.length = q ∧ ∀ (i' : Nat) f e, Ls[i']? = some f → K[i']? = some e → Long wE n3 f e (mkV i') (grV i')) := ⟨HQ.out.2.2.1, HQ.out.2.2.2.1, HQ.out.2.2.2.2.2.1, HQ.out.2.2.2.2.2.2⟩
                clear HQ
                go_wp2
                go_loopw [23] (fun i wr => ∃ p : Nat, i = .int .i64 p ∧ Hid (p ≤ q) ∧ wr = wE) (fun i _ => q - (intOf i).toNat)
                case atStart => exact ⟨0, rfl, Nat.zero_le _, rfl⟩
                case round =>
                  obtain ⟨p, rfl, HPq, rfl⟩ := hrel
                  by_cases hp : (p : Int) < (q : Int)
                  · have hpK : p < K.length := by have := HF.out.1.len; omega
                    have hpL : p < Ls.length := by have := HF.out.2.2.1; omega
                    obtain ⟨e, he⟩ : ∃ e, K[p]? = some e := ⟨K[p], List.getElem?_eq_getElem hpK⟩
                    obtain ⟨f, hf⟩ : ∃ f, Ls[p]? = some f := ⟨Ls[p], List.getElem?_eq_getElem hpL⟩
                    have r0 : wr.cell? ⟨gR, p, none⟩ = some (.slice (some ⟨e.g, 0, none⟩) e.l e.c) := HF.out.1.row.at' (by rw [List.getElem?_map, he]; rfl)
                    have r1 : wr.cell? ⟨gL, p, none⟩ = some (.slice (some ⟨f.g, 0, none⟩) f.l f.c) := HL.out.at' (by rw [List.getElem?_map, hf]; rfl)
                    have HLo : Hid (Long wr n3 f e (mkV p) (grV p) ∧ Marked wr e (mkV p)) := ⟨HF.out.2.2.2 p f e hf he, HF.out.2.1 p e he⟩
                    have hfl : Hid (f.l = e.l + 70 ∧ e.l ≤ 2000) := by
                      obtain ⟨_, _, _, _, _, h1, _⟩ := HLo.out.1
                      have h2 := (HF.out.1.ents.ok e (List.mem_of_getElem? he)).1
                      have := h2.le
                      have := h2.le2
                      exact ⟨h1, by omega⟩
                    have hfli : (f.l : Int) ≤ 3000 := by have := hfl.out; omega
                    have hpi : (p : Int) ≤ 801 := by omega
                    clear hpK hpL he hf
                    go_wp2
                    go_loopw [24] (fun i wr' => ∃ j : Nat, i = .int .i64 j ∧ Hid (j ≤ f.l) ∧ wr' = wr) (fun i _ => f.l - (intOf i).toNat)
                    case atStart => exact ⟨0, rfl, Nat.zero_le _, rfl⟩
                    case round =>
                      obtain ⟨j, rfl, HJ, rfl⟩ := hrel
                      by_cases hj : (j : Int) < (f.l : Int)
                      · have hj' : j < f.l := by omega
                        have hLc := HLo.out.1.cell hj'
                        by_cases hje : (j : Int) < (e.l : Int)
                        · have s0 : _ = some (Value.int .u8 (IntKind.u8.wrap ((p : Int) + 100))) := HLo.out.2 j (by omega)
                          rw [if_pos (by omega)] at hLc
                          have s1 : _ = some (Value.int .u8 (IntKind.u8.wrap ((p : Int) + 100))) := hLc
                          clear hLc hj'
                          go_wp2
                          go_roundw
                          case rel => exact ⟨j + 1, by go_num, (by omega : j + 1 ≤ f.l), by first | rfl | trivial⟩
                          case measure => simp [intOf]; omega
                        · rw [if_neg (by omega)] at hLc
                          have s1 : _ = some (Value.int .u8 (IntKind.u8.wrap ((p : Int) + 50))) := hLc
                          clear hLc hj'
                          go_wp2
                          go_roundw
                          case rel => exact ⟨j + 1, by go_num, (by omega : j + 1 ≤ f.l), by first | rfl | trivial⟩
                          case measure => simp [intOf]; omega
                      · go_wp2
                        go_roundw
                        case rel => exact ⟨p + 1, by go_num, (by omega : p + 1 ≤ q), by first | rfl | trivial⟩
                        case measure => simp [intOf]; omega
                  · obtain ⟨x2, hx2⟩ : ∃ x2 : DS, x2 = { x with rd := x.rd + 1 } := ⟨_, rfl⟩
                    have HX2 : Hid (({ x with rd := x.rd + 1 } : DS) = x2 ∧ x2.c = x.c ∧ x2.N = 2 ∧ Fine x2 ∧ ∀ m, U8 (x2.c m)) := by
                      have hf := HSx.out.ok.fine
                      rw [hx2]
                      exact ⟨rfl, rfl, HSx.out.N, ⟨hf.n1, hf.n2, hf.len, hf.out⟩, HSx.out.ok.u8⟩
                    have HD5 : Hid ((flatN 2 x.c).drop 512 = x.c 1 ∧ (flatN 2 x.c).length = 1024) := by
                      have hl := HSx.out.ok.fine.len
                      refine ⟨?_, flatN_len _ hl 2⟩
                      show ((([] : List Int) ++ x.c 0) ++ x.c 1).drop 512 = x.c 1
                      rw [List.nil_append, List.drop_append_of_le_length (by rw [hl]; omega), List.drop_of_length_le (by rw [hl]; omega), List.nil_append]
                    have hcI : (1024 : Int) ≤ (c3 : Int) := by
                      obtain ⟨sp, _, _, h⟩ := HF.out.1.img
                      omega
                    have TR : Hid (1 = 1) := rfl
                    clear hx2
                    go_wp2_with (first
                      | (go_at_call 12
                         have hguard := TR
                         clear hguard
                         obtain ⟨gx, hgx⟩ : ∃ gx, gx = wr.heap.size := ⟨_, rfl⟩
                         have hS : Calls Try.prog 12 #[.pointer (some ⟨d, 0, none⟩), .int .i64 1] wr _ := readYes_any d b 1 x wr HF.out.1.dsk HSx.out.fl (by rw [HSx.out.N]; omega) (HSx.out.ok.fine.len 1) HSx.out.ok.rd0 HSx.out.ok.rd1
                         rw [← hgx, HX2.out.1] at hS
                         refine Calls.mono hS ?_
                         rintro e w2 ⟨rfl, hb2, hd2, hk2⟩
                         have HG2 : Hid (S1 w w2 d b gI c3 gG gR cR q K x2 ∧ Box w2 gx 72 (u8s (x.c 1))) := ⟨HF.out.1.left hk2.db hd2 (by rw [HX2.out.2.1]), hb2⟩
                         have TM : Hid (1 = 1) := rfl
                         clear hS hb2 hd2 hk2 hgx TR)
                      | (go_at_call 14
                         have hguard := TM
                         clear hguard
                         have hN : Nums .u8 w2 (some ⟨gI, 512, none⟩) (x.c 1) := by
                           have := HG2.out.1.img.numsAt 512
                           rw [HX2.out.2.1, HD5.out.1] at this
                           exact this
                         refine Calls.mono (same_any (some ⟨gx, 0, none⟩) (some ⟨gI, 512, none⟩) 512 512 512 _ (x.c 1) (x.c 1) w2 HG2.out.2.all hN (HSx.out.ok.u8 1) (HSx.out.ok.u8 1) (HSx.out.ok.fine.len 1) (HSx.out.ok.fine.len 1)) ?_
                         rintro e w' ⟨rfl, hw'⟩
                         rw [hw', decide_eq_true rfl]
                         have TI : Hid (1 = 1) := rfl
                         clear hw' w' TM hN)
                      | (go_at_call 23
                         have hguard := TI
                         clear hguard
                         obtain ⟨gz, hgz⟩ : ∃ gz, gz = w2.heap.size := ⟨_, rfl⟩
                         have hS := image_any d b x2 w2 HG2.out.1.dsk HX2.out.2.2.2.1
                         rw [← hgz, HX2.out.2.2.1, show (2 * 512 : Nat) = 1024 from rfl] at hS
                         refine Calls.mono hS ?_
                         rintro e w3 ⟨rfl, hb3, hk3⟩
                         have HG3 : Hid (S1 w w3 d b gI c3 gG gR cR q K x2 ∧ Box w3 gz 5 (u8s (flatN 2 x2.c))) := ⟨HG2.out.1.no hk3, hb3⟩
                         have TN : Hid (1 = 1) := rfl
                         clear hS hb3 hk3 hgz TI)
                      | (go_at_call 14
                         have hguard := TN
                         clear hguard
                         refine Calls.mono (same_any (some ⟨gz, 0, none⟩) (some ⟨gI, 0, none⟩) 1024 1024 1024 c3 (flatN 2 x2.c) (flatN 2 x2.c) w3 HG3.out.2.all HG3.out.1.img.nums (flatN_u8 HX2.out.2.2.2.2 2) (flatN_u8 HX2.out.2.2.2.2 2) (flatN_len _ HX2.out.2.2.2.1.len 2) (flatN_len _ HX2.out.2.2.2.1.len 2)) ?_
                         rintro e w' ⟨rfl, hw'⟩
                         rw [hw', decide_eq_true rfl]
                         clear hw' w' TN))
                    all_goals go_ret
                    all_goals exact ⟨rfl, HG3.out.1.kept⟩

end Go.Proofs.Ytppkjebiiheljaa
