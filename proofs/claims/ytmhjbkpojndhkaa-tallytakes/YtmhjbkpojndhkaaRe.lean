import Derived.Test.YtmhjbkpojndhkaaRd
namespace Go.Proofs.Ytmhjbkpojndhkaa
open Go.RowKit
set_option linter.unusedVariables false
set_option linter.unusedSimpArgs false

set_option maxRecDepth 100000 in
set_option maxHeartbeats 4000000 in
theorem shows_any (t b cap : Nat) (a : Option Addr) (r cg cv ch : Nat) (ag av ah : Option Addr) (x : TS) (w : World) (hT : Tal w t b a cap x) (hR : Rf w r ag cg av cv ah ch x) (hc : cnt x ≤ 8796093022208) :
    Calls Try.prog 16 #[.pointer (some ⟨t, 0, none⟩), .pointer (some ⟨r, 0, none⟩)] w fun e w' => e = .returned (.bool true) ∧ Kept No w w' := by
  have HG : Hid (∀ W, Kept No w W → Calls Try.prog 27 #[.pointer (some ⟨t, 0, none⟩)] W (GotsOut W (gotL x))) := fun W hk => got_any t b cap a x W (hT.no hk) hc
  have HGr : Hid (∀ W, Kept No w W → Calls Try.prog 34 #[.pointer (some ⟨r, 0, none⟩)] W (RGot W (gotL x))) := fun W hk => rgot_any r cg cv ch ag av ah x W (hR.no hk) hc
  have HM : Hid (∀ W, Kept No w W → Calls Try.prog 28 #[.pointer (some ⟨t, 0, none⟩)] W (MissOut W (missL x))) := fun W hk => missing_any t b cap a x W (hT.no hk)
  have HMr : Hid (∀ W, Kept No w W → Calls Try.prog 35 #[.pointer (some ⟨r, 0, none⟩)] W (MissOut W (missL x))) := fun W hk => rmissing_any r cg cv ch ag av ah x W (hR.no hk)
  have HE : Hid (∀ W, Kept No w W → Calls Try.prog 26 #[.pointer (some ⟨t, 0, none⟩)] W fun e w' => e = .returned (.bool (enB x)) ∧ ∃ n, w' = W.drewN n) := fun W hk => enough_any t b cap a x W (hT.no hk)
  have HEr : Hid (∀ W, Kept No w W → Calls Try.prog 33 #[.pointer (some ⟨r, 0, none⟩)] W fun e w' => e = .returned (.bool (enB x)) ∧ Kept No W w') := fun W hk => renough_any r cg cv ch ag av ah x W (hR.no hk)
  have HLg : Hid ((gotL x).length ≤ 9223372036854775807 ∧ (missL x).length ≤ 9223372036854775807) := by
    have h1 := gotL_len x
    have h2 := gm_len x
    have h3 := hT.len
    exact ⟨by omega, by omega⟩
  have HF : Hid (((gotL x).map Prod.fst).length = (gotL x).length ∧ ((gotL x).map Prod.snd).length = (gotL x).length) := ⟨by simp, by simp⟩
  clear hT hR hc
  generalize enB x = E at HE HEr
  generalize missL x = ML at HM HMr HLg
  generalize gotL x = GL at HG HGr HLg HF
  obtain ⟨fs, hfs⟩ : ∃ fs, fs = GL.map Prod.fst := ⟨_, rfl⟩
  obtain ⟨ss, hss⟩ : ∃ ss, ss = GL.map Prod.snd := ⟨_, rfl⟩
  have HFS : Hid (fs = GL.map Prod.fst ∧ ss = GL.map Prod.snd) := ⟨hfs, hss⟩
  rw [← hfs, ← hss] at HF
  clear hfs hss
  go_enter Try.func16, Try.ntmps16
  go_wp2_with (first
    | (go_at_call 30
       have htok := HK6
       refine Calls.mono (same_any a5 a6 _ _ c5 c6 ML ML w6 rfl rfl HLg.out.2 HLg.out.2 HN5'.out HN6.out) ?_
       rintro e w7 ⟨rfl, hk⟩
       rw [show decide (ML = ML) = true by simp]
       have HK7 : Hid (Kept No w w7) := HK6.out.then hk
       clear hk htok)
    | (go_at_call 30
       have htok := HK23
       refine Calls.mono (same_any a2 a4 _ _ c2 c4 ss ss w3 HF.out.2 HF.out.2 HLg.out.1 HLg.out.1 (HM2.out.no HK23.out) (HN4.out.no HK23.out)) ?_
       rintro e w4 ⟨rfl, hk⟩
       rw [show decide (ss = ss) = true by simp]
       have HK4 : Hid (Kept No w w4) := HK3.out.then hk
       clear hk htok)
    | (go_at_call 27
       refine Calls.mono (HG.out w (Kept.refl _ _)) ?_
       rintro e w1 ⟨a1, c1, a2, c2, rfl, hO1, hO2, hk, _⟩
       rw [← HFS.out.1] at hO1
       rw [← HFS.out.2] at hO2
       have HN1 : Hid (Nums .i64 w1 a1 fs) := hO1.nums HF.out.1
       have HN2 : Hid (Nums .i64 w1 a2 ss) := hO2.nums HF.out.2
       have HK1 : Hid (Kept No w w1) := hk
       clear hO1 hO2 hk)
    | (go_at_call 34
       refine Calls.mono (HGr.out w1 HK1.out) ?_
       rintro e w2 ⟨a3, c3, a4, c4, rfl, hO3, hO4, hk⟩
       rw [← HFS.out.1] at hO3
       rw [← HFS.out.2] at hO4
       have HN3 : Hid (Nums .i64 w2 a3 fs) := hO3.nums HF.out.1
       have HN4 : Hid (Nums .i64 w2 a4 ss) := hO4.nums HF.out.2
       have HM1 : Hid (Nums .i64 w2 a1 fs) := HN1.out.no hk
       have HM2 : Hid (Nums .i64 w2 a2 ss) := HN2.out.no hk
       have HK2 : Hid (Kept No w w2) := HK1.out.then hk
       clear hO3 hO4 hk)
    | (go_at_call 30
       have htok := HK2
       refine Calls.mono (same_any a1 a3 _ _ c1 c3 fs fs w2 HF.out.1 HF.out.1 HLg.out.1 HLg.out.1 HM1.out HN3.out) ?_
       rintro e w3 ⟨rfl, hk⟩
       rw [show decide (fs = fs) = true by simp]
       have HK23 : Hid (Kept No w2 w3) := hk
       have HK3 : Hid (Kept No w w3) := HK2.out.then hk
       clear hk htok)
    | (go_at_call 28
       refine Calls.mono (HM.out w4 HK4.out) ?_
       rintro e w5 ⟨a5, c5, rfl, hO, hk⟩
       have HN5 : Hid (Nums .i64 w5 a5 ML) := hO.nums rfl
       have HK5 : Hid (Kept No w w5) := HK4.out.then hk
       clear hO hk)
    | (go_at_call 35
       refine Calls.mono (HMr.out w5 HK5.out) ?_
       rintro e w6 ⟨a6, c6, rfl, hO, hk⟩
       have HN6 : Hid (Nums .i64 w6 a6 ML) := hO.nums rfl
       have HN5' : Hid (Nums .i64 w6 a5 ML) := HN5.out.no hk
       have HK6 : Hid (Kept No w w6) := HK5.out.then hk
       clear hO hk)
    | (go_at_call 26
       refine Calls.mono (HE.out w7 HK7.out) ?_
       rintro e w8 ⟨rfl, hq⟩
       have HK8 : Hid (Kept No w w8) := by obtain ⟨q, rfl⟩ := hq; exact HK7.out.drewN q
       clear hq)
    | (go_at_call 33
       refine Calls.mono (HEr.out w8 HK8.out) ?_
       rintro e w9 ⟨rfl, hk⟩
       have HK9 : Hid (Kept No w w9) := HK8.out.then hk
       clear hk))
  all_goals go_ret
  all_goals exact ⟨by first | rfl | simp, HK9.out⟩

end Go.Proofs.Ytmhjbkpojndhkaa
