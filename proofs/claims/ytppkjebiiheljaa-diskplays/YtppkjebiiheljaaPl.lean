import Derived.Test.YtppkjebiiheljaaRl
import Derived.Test.YtppkjebiiheljaaRt
import Derived.Test.YtppkjebiiheljaaRu
import Derived.Test.YtppkjebiiheljaaRm
namespace Go.Proofs.Ytppkjebiiheljaa
open Go.RowKit
set_option linter.unusedVariables false
set_option linter.unusedSimpArgs false

theorem refWrite_all (r gs : Nat) (n : Int) (a : Option Addr) (m cap : Nat) (bs : List Int) (F : Nat → Prop) (x : DS) (w : World) (h : RD w r gs F x) (ho : Ok x) (hb : Nums .u8 w a bs) (hm : bs.length = m) :
    Calls Try.prog 26 #[.pointer (some ⟨r, 0, none⟩), .int .i64 n, .slice a m cap] w (RwR w r gs F x n bs) := by
  by_cases hc : refE x n = 0 ∧ bs.length = 512
  · obtain ⟨hf, h0, hn⟩ := refE_in hc.1
    obtain ⟨k, rfl⟩ : ∃ k : Nat, n = k := ⟨n.toNat, by omega⟩
    obtain rfl : m = 512 := by omega
    cases hp : holdsP x.pw
    · exact refWriteTorn_any r gs k a cap bs F x w h ho hf (by omega) hb hc.2 hp
    · exact refWriteOk_any r gs k a cap bs F x w h ho hf (by omega) hb hc.2 hp
  · exact refWriteNo_any r gs n a m cap bs F x w h hm hc

/-- A disk behind k steps. -/
structure Pl (x : DS) (k : Nat) : Prop where
  ok : Ok x
  rd : x.rd ≤ k
  wr : x.wr ≤ k
theorem Pl.up {x : DS} {k : Nat} (h : Pl x k) : Pl x (k + 1) := ⟨h.ok, by have := h.rd; omega, by have := h.wr; omega⟩
theorem Pl.read {x : DS} {k : Nat} (h : Pl x k) (n : Int) (hk : k ≤ 140737488351232) : Pl (rdD x n) (k + 1) := by
  refine ⟨h.ok.read n (by have := h.rd; omega), ?_, ?_⟩
  · have := h.rd
    unfold rdD
    split
    · omega
    · show x.rd + 1 ≤ _; omega
  · have := h.wr
    unfold rdD
    split
    · omega
    · show x.wr ≤ _; omega
theorem Pl.write {x : DS} {k : Nat} (h : Pl x k) (n : Int) {bs : List Int} (h8 : U8 bs) (hk : k ≤ 140737488351232) : Pl (wrD x n bs) (k + 1) := by
  refine ⟨h.ok.write n h8 (by have := h.wr; omega), ?_, ?_⟩
  · have := h.rd
    by_cases hc : refE x n = 0 ∧ bs.length = 512
    · rw [wrD_yes hc.1 hc.2]; show x.rd ≤ _; omega
    · rw [wrD_no hc]; omega
  · have := h.wr
    by_cases hc : refE x n = 0 ∧ bs.length = 512
    · rw [wrD_yes hc.1 hc.2]; show x.wr + 1 ≤ _; omega
    · rw [wrD_no hc]; omega
theorem Pl.arm {x : DS} {k : Nat} (h : Pl x k) (n t : Int) (hn : n ≤ 9223372036854775807) : Pl (armD x n t) (k + 1) := by
  refine ⟨h.ok.arm n t hn, ?_, ?_⟩
  · have := h.rd; unfold armD; split
    · omega
    · show x.rd ≤ _; omega
  · have := h.wr; unfold armD; split
    · omega
    · show x.wr ≤ _; omega
theorem Pl.start {x : DS} {k : Nat} (h : Pl x k) : Pl (startD x) (k + 1) := ⟨h.ok.start, by have := h.rd; show x.rd ≤ _; omega, by have := h.wr; show x.wr ≤ _; omega⟩

/-- What play answers. -/
def PlR (w : World) (e : Ending) (w' : World) : Prop := ∃ v0 v1, e = .returned (.tuple #[v0, v1, .bool true]) ∧ Kept No w w'

theorem Pr.apart {w wr : World} {d b r gs : Nat} {x y : DS} (h : Pr w wr d b r gs x y) {g : Nat} {t : TypeId} {cs : Array Value} (hg : Box wr g t cs) (h1 : t ≠ 69) (h2 : t ≠ 40) (h3 : t ≠ 22) : ¬ DB d b g ∧ ¬ RG r gs g := by
  refine ⟨dsk_box h.dx hg h1, ?_⟩
  obtain ⟨arm, lf, tn, vs, hr⟩ := h.ry
  rintro (rfl | rfl)
  · exact hg.diff hr.box h2 rfl
  · exact hg.diff hr.row h3 rfl

set_option maxRecDepth 100000 in
set_option maxHeartbeats 8000000 in
theorem play_any (wb : World) (d b r gs : Nat) (x : DS) (a0 : Option Addr) (l0 c0 : Nat) (xs : List Stp) (w : World) (hs0 : Stps wb a0 xs) (hl0 : xs.length = l0) (hm0 : l0 ≤ 140737488351232) (ho0 : ∀ x ∈ xs, StpOk wb x ∧ x.c ≤ 140737488351232) (hP : Pr wb w d b r gs x x) (hx : Pl x 0) :
    Calls Try.prog 24 #[.pointer (some ⟨d, 0, none⟩), .pointer (some ⟨r, 0, none⟩), .slice a0 l0 c0] w (PlR wb) := by
  have HX : Hid (Stps wb a0 xs ∧ (∀ x ∈ xs, StpOk wb x ∧ x.c ≤ 140737488351232) ∧ xs.length = l0 ∧ l0 ≤ 140737488351232) := ⟨hs0, ho0, hl0, hm0⟩
  have HP0 : Hid (Pr wb w d b r gs x x ∧ Pl x 0) := ⟨hP, hx⟩
  clear hs0 ho0 hl0 hm0 hP hx
  go_enter Try.func24, Try.ntmps24
  go_wp2
  go_loopw [0, 1, 9] (fun v0 v1 i wr => ∃ (k d b r gs : Nat) (x : DS), v0 = .pointer (some ⟨d, 0, none⟩) ∧ v1 = .pointer (some ⟨r, 0, none⟩) ∧ i = .int .i64 k ∧ Hid (k ≤ l0 ∧ Pr wb wr d b r gs x x ∧ Pl x k)) (fun _ _ i _ => l0 - (intOf i).toNat)
  case atStart => exact ⟨0, d, b, r, gs, x, rfl, rfl, rfl, Nat.zero_le _, HP0.out.1, HP0.out.2⟩
  case round =>
    clear HP0
    obtain ⟨k, d, b, r, gs, x, rfl, rfl, rfl, HR⟩ := hrel
    by_cases hk : (k : Int) < (l0 : Int)
    · have hk' : k < xs.length := by have := HX.out.2.2.1; omega
      obtain ⟨it, hit⟩ : ∃ it, xs[k]? = some it := ⟨xs[k], List.getElem?_eq_getElem hk'⟩
      obtain ⟨sb, off, ha0, q0, q1, q2, q3⟩ := (HX.out.1.no HR.out.2.1.kept) k it hit
      have HO : Hid (StpOk wb it ∧ it.c ≤ 140737488351232) := HX.out.2.1 it (List.mem_of_getElem? hit)
      have HKk : Hid (k ≤ 140737488351232) := by have := HX.out.2.2.2; show k ≤ _; omega
      subst ha0
      have hlb : (l0 : Int) ≤ 140737488351232 := by have := HX.out.2.2.2; omega
      obtain ⟨r7, hr7⟩ : ∃ r7, r7 = roundOf it.k 7 := ⟨_, rfl⟩
      have hr8 : r7 < 7 := by rw [hr7]; exact roundOf_lt _ _ (by omega)
      have hRd : ∀ w : World, Calls Try.prog 13 #[.int .i64 it.k, .int .i64 7] w fun e w' => e = .returned (.int .i64 r7) ∧ w' = w := by
        intro w; rw [hr7]; exact round_any it.k 7 w (by omega) (by omega)
      obtain ⟨gS, hgS⟩ : ∃ gS, gS = wr.heap.size := ⟨_, rfl⟩
      obtain ⟨w1, hw1⟩ : ∃ w1, w1 = wr.alloc (.cells #[.int .i64 it.k, .int .i64 it.n, .int .i64 it.m, .slice it.a it.l it.c] 53) := ⟨_, rfl⟩
      have HP1 : Hid (Pr wb w1 d b r gs x x) := by rw [hw1]; exact HR.out.2.1.no ((Kept.refl No wr).alloc _)
      have HS1 : Hid (Box w1 wr.heap.size 53 #[.int .i64 it.k, .int .i64 it.n, .int .i64 it.m, .slice it.a it.l it.c]) := by rw [hw1]; exact Box.new _ _ _
      have HGS : Hid (¬ DB d b wr.heap.size ∧ ¬ RG r gs wr.heap.size) := HP1.out.apart HS1.out (by decide) (by decide) (by decide)
      have HQ1 : Hid (Nums .u8 w1 it.a it.bs) := HO.out.1.nums.no HP1.out.kept
      have s0 := HS1.out.cell 0
      have s1 := HS1.out.cell 1
      have s2 := HS1.out.cell 2
      have s3 := HS1.out.cell 3
      simp only [List.getElem?_toArray, List.getElem?_cons_zero, List.getElem?_cons_succ] at s0 s1 s2 s3
      have TX : Hid (1 = 1) := rfl
      clear hk' hit hr7 hgS gS
      obtain h7 | h7 | h7 | h7 | h7 | h7 | h7 : r7 = 0 ∨ r7 = 1 ∨ r7 = 2 ∨ r7 = 3 ∨ r7 = 4 ∨ r7 = 5 ∨ r7 = 6 := by omega
      · subst h7
        have HR7 : Hid (∀ w : World, Calls Try.prog 13 #[.int .i64 it.k, .int .i64 7] w fun e w' => e = .returned (.int .i64 0) ∧ w' = w) := hRd
        clear hRd hr8
        by_cases hE : refE x it.n = 0
        · have HE : Hid (refE x it.n = 0 ∧ refE x it.n = 0) := ⟨hE, hE⟩
          clear hE
          go_wp2_with (first
            | (go_at_call 13
               rw [← hw1]
               refine Calls.mono (HR7.out w1) ?_
               rintro e w' ⟨rfl, hw'⟩
               rw [hw']
               clear hw' w' hw1)
            | (go_at_call 12
               have hguard := TX
               clear hguard
               have hS := read_all d b it.n x w1 HP1.out.dx HR.out.2.2.ok
               refine Calls.mono hS ?_
               rintro e w2 ⟨a2, m2, bs2, rfl, hn2, hl2, hbs2, hat2, hd2, hk2⟩
               rw [HE.out.2]
               have HP2 : Hid (Pr wb w2 d b r gs (rdD x it.n) x) := HP1.out.left hk2.db hd2
               have HV2 : Hid (Nums .u8 w2 a2 bs2 ∧ bs2.length = m2 ∧ bs2 = (if refE x it.n = 0 then x.c it.n.toNat else []) ∧ ∀ g off, a2 = some ⟨g, off, none⟩ → ¬ RG r gs g) := ⟨hn2, hl2, hbs2, fun g off e => (HP1.out.gap hat2 e).2⟩
               have HS2 : Hid (Box w2 wr.heap.size 53 #[.int .i64 it.k, .int .i64 it.n, .int .i64 it.m, .slice it.a it.l it.c]) := HS1.out.kept hk2.db HGS.out.1
               have t1 := (HS2.out).cell 1
               simp only [List.getElem?_toArray, List.getElem?_cons_zero, List.getElem?_cons_succ] at t1
               have TY : Hid (1 = 1) := rfl
               clear hd2 hk2 hn2 hl2 hbs2 hat2 TX hS)
            | (go_at_call 27
               have hguard := TY
               clear hguard
               refine Calls.mono (refRead_any r gs it.n (fun g => wb.heap.size ≤ g) x w2 HP2.out.ry HR.out.2.2.ok) ?_
               rintro e w3 ⟨a3, m3, bs3, rfl, hn3, hl3, hbs3, hat3, hr3, hk3⟩
               rw [HE.out.2]
               have HP3 : Hid (Pr wb w3 d b r gs (rdD x it.n) (rdD x it.n)) := HP2.out.right1 hk3 hr3
               have HV3 : Hid (Nums .u8 w3 a2 bs2 ∧ bs2.length = m2 ∧ Nums .u8 w3 a3 bs3 ∧ bs3.length = m3 ∧ bs2 = bs3 ∧ U8 bs2) := by
                 refine ⟨HV2.out.1.kept hk3 (fun g off e eo => HV2.out.2.2.2 g off e (.inl eo)), HV2.out.2.1, hn3, hl3, HV2.out.2.2.1.trans hbs3.symm, ?_⟩
                 rw [HV2.out.2.2.1]
                 split
                 · exact HR.out.2.2.ok.u8 _
                 · exact fun i => by simp
               have TZ : Hid (1 = 1) := rfl
               clear hr3 hk3 hn3 hl3 hbs3 hat3 TY)
            | (go_at_call 14
               have hguard := TZ
               clear hguard
               refine Calls.mono (same_any a2 a3 _ _ _ _ bs2 bs3 w3 HV3.out.1 HV3.out.2.2.1 HV3.out.2.2.2.2.2 (HV3.out.2.2.2.2.1 ▸ HV3.out.2.2.2.2.2) HV3.out.2.1 HV3.out.2.2.2.1) ?_
               rintro e w' ⟨rfl, hw'⟩
               rw [hw', decide_eq_true HV3.out.2.2.2.2.1]
               clear hw' w' TZ))
          go_roundw
          case rel => exact ⟨k + 1, d, b, r, gs, rdD x it.n, rfl, rfl, by go_num, by omega, HP3.out, HR.out.2.2.read it.n HKk.out⟩
          case measure => simp [intOf]; omega
        · obtain ⟨E, hEE⟩ : ∃ E, refE x it.n = E := ⟨_, rfl⟩
          have HE : Hid (refE x it.n ≠ 0 ∧ refE x it.n = E) := ⟨hE, hEE⟩
          have hE0 : (E == 0) = false := by simp; rw [← hEE]; exact hE
          have hE1 : ¬ (E = 0) := by rw [← hEE]; exact hE
          clear hE hEE
          go_wp2_with (first
            | (go_at_call 13
               rw [← hw1]
               refine Calls.mono (HR7.out w1) ?_
               rintro e w' ⟨rfl, hw'⟩
               rw [hw']
               clear hw' w' hw1)
            | (go_at_call 12
               have hguard := TX
               clear hguard
               have hS := read_all d b it.n x w1 HP1.out.dx HR.out.2.2.ok
               refine Calls.mono hS ?_
               rintro e w2 ⟨a2, m2, bs2, rfl, hn2, hl2, hbs2, hat2, hd2, hk2⟩
               rw [HE.out.2]
               obtain rfl : m2 = 0 := by rw [← hl2, hbs2, if_neg HE.out.1]; rfl
               have HP2 : Hid (Pr wb w2 d b r gs (rdD x it.n) x) := HP1.out.left hk2.db hd2
               have HV2 : Hid (Nums .u8 w2 a2 bs2 ∧ bs2.length = 0 ∧ bs2 = (if refE x it.n = 0 then x.c it.n.toNat else []) ∧ ∀ g off, a2 = some ⟨g, off, none⟩ → ¬ RG r gs g) := ⟨hn2, hl2, hbs2, fun g off e => (HP1.out.gap hat2 e).2⟩
               have HS2 : Hid (Box w2 wr.heap.size 53 #[.int .i64 it.k, .int .i64 it.n, .int .i64 it.m, .slice it.a it.l it.c]) := HS1.out.kept hk2.db HGS.out.1
               have t1 := (HS2.out).cell 1
               simp only [List.getElem?_toArray, List.getElem?_cons_zero, List.getElem?_cons_succ] at t1
               have TY : Hid (1 = 1) := rfl
               clear hd2 hk2 hn2 hl2 hbs2 hat2 TX hS)
            | (go_at_call 27
               have hguard := TY
               clear hguard
               refine Calls.mono (refRead_any r gs it.n (fun g => wb.heap.size ≤ g) x w2 HP2.out.ry HR.out.2.2.ok) ?_
               rintro e w3 ⟨a3, m3, bs3, rfl, hn3, hl3, hbs3, hat3, hr3, hk3⟩
               rw [HE.out.2]
               obtain rfl : m3 = 0 := by rw [← hl3, hbs3, if_neg HE.out.1]; rfl
               have HP3 : Hid (Pr wb w3 d b r gs (rdD x it.n) (rdD x it.n)) := HP2.out.right1 hk3 hr3
               have HV3 : Hid (Nums .u8 w3 a2 bs2 ∧ bs2.length = 0 ∧ Nums .u8 w3 a3 bs3 ∧ bs3.length = 0 ∧ bs2 = bs3 ∧ U8 bs2) := by
                 refine ⟨HV2.out.1.kept hk3 (fun g off e eo => HV2.out.2.2.2 g off e (.inl eo)), HV2.out.2.1, hn3, hl3, HV2.out.2.2.1.trans hbs3.symm, ?_⟩
                 rw [HV2.out.2.2.1]
                 split
                 · exact HR.out.2.2.ok.u8 _
                 · exact fun i => by simp
               have TZ : Hid (1 = 1) := rfl
               clear hr3 hk3 hn3 hl3 hbs3 hat3 TY)
            | (go_at_call 14
               have hguard := TZ
               clear hguard
               refine Calls.mono (same_any a2 a3 _ _ _ _ bs2 bs3 w3 HV3.out.1 HV3.out.2.2.1 HV3.out.2.2.2.2.2 (HV3.out.2.2.2.2.1 ▸ HV3.out.2.2.2.2.2) HV3.out.2.1 HV3.out.2.2.2.1) ?_
               rintro e w' ⟨rfl, hw'⟩
               rw [hw', decide_eq_true HV3.out.2.2.2.2.1]
               clear hw' w' TZ))
          go_roundw
          case rel => exact ⟨k + 1, d, b, r, gs, rdD x it.n, rfl, rfl, by go_num, by omega, HP3.out, HR.out.2.2.read it.n HKk.out⟩
          case measure => simp [intOf]; omega
      · subst h7
        have HR7 : Hid (∀ w : World, Calls Try.prog 13 #[.int .i64 it.k, .int .i64 7] w fun e w' => e = .returned (.int .i64 1) ∧ w' = w) := hRd
        clear hRd hr8
        go_wp2_with (first
            | (go_at_call 13
               rw [← hw1]
               refine Calls.mono (HR7.out w1) ?_
               rintro e w' ⟨rfl, hw'⟩
               rw [hw']
               clear hw' w' hw1)
            | (go_at_call 18
               have hguard := TX
               clear hguard
               obtain ⟨gl, hgl⟩ : ∃ gl, gl = w1.heap.size := ⟨_, rfl⟩
               have hS := lend_any it.a it.l it.c it.bs w1 HQ1.out HO.out.1.len (by have := HO.out.1.cap; have := HO.out.2; omega)
               rw [← hgl] at hS
               refine Calls.mono hS ?_
               rintro e w2 ⟨rfl, hb2, hk2⟩
               have HL2 : Hid (Box w2 gl 5 (u8s (lentS it.bs 67)) ∧ Pr wb w2 d b r gs x x ∧ RD w2 r gs (fun g => wb.heap.size ≤ g ∧ g < gl) x ∧ wb.heap.size ≤ gl) := by
                 refine ⟨hb2, HP1.out.no hk2, (HP1.out.ry.mono (fun g hg e => ⟨e, by omega⟩)).no hk2, ?_⟩
                 have := HP1.out.kept.size
                 omega
               have HS2 : Hid (Box w2 wr.heap.size 53 #[.int .i64 it.k, .int .i64 it.n, .int .i64 it.m, .slice it.a it.l it.c]) := HS1.out.kept hk2 (fun e => e)
               have t1 := (HS2.out).cell 1
               have t3 := (HS2.out).cell 3
               simp only [List.getElem?_toArray, List.getElem?_cons_zero, List.getElem?_cons_succ] at t1 t3
               have TY : Hid (1 = 1) := rfl
               clear hb2 hk2 hS hgl TX)
            | (go_at_call 25
               have hguard := TY
               clear hguard
               have hS := write_all d b it.n (some ⟨gl, 0, none⟩) it.l (it.l + 67) it.bs x w2 HL2.out.2.1.dx HR.out.2.2.ok (Box.lent HL2.out.1) HO.out.1.len (by omega) (by have := HO.out.1.cap; have := HO.out.2; omega)
               obtain ⟨E, hEE⟩ : ∃ E, wrE x it.n it.l = E := ⟨_, rfl⟩
               rw [hEE] at hS
               have HE : Hid (wrE x it.n it.l = E) := hEE
               refine Calls.mono hS ?_
               rintro e w3 ⟨rfl, hd3, hk3⟩
               have hng : ¬ DB d b gl := dsk_box HL2.out.2.1.dx HL2.out.1 (by decide)
               have HP3 : Hid (Pr wb w3 d b r gs (wrD x it.n it.bs) x) := HL2.out.2.1.left hk3 hd3
               have HL3 : Hid (Box w3 gl 5 (u8s (lentS it.bs 67)) ∧ RD w3 r gs (fun g => wb.heap.size ≤ g ∧ g < gl) x) := by
                 refine ⟨HL2.out.1.kept hk3 hng, ?_⟩
                 obtain ⟨arm, lf, tn, vs, hr⟩ := HL2.out.2.2.1
                 have hdx := HL2.out.2.1.dx
                 exact ⟨arm, lf, tn, vs, hr.box.kept hk3 (dsk_box hdx hr.box (by decide)), hr.row.kept hk3 (dsk_box hdx hr.row (by decide)), hr.len, fun n hn => (hr.sec n hn).imp id (fun ⟨g, e, hb, hf⟩ => ⟨g, e, hb.kept hk3 (dsk_box hdx hb (by decide)), hf⟩), hr.pw⟩
               have HQ3 : Hid (Nums .u8 w3 it.a it.bs) := HO.out.1.nums.no HP3.out.kept
               have HS3 : Hid (Box w3 wr.heap.size 53 #[.int .i64 it.k, .int .i64 it.n, .int .i64 it.m, .slice it.a it.l it.c]) := HS2.out.kept hk3 HGS.out.1
               have u1 := HS3.out.cell 1
               have u3 := HS3.out.cell 3
               simp only [List.getElem?_toArray, List.getElem?_cons_zero, List.getElem?_cons_succ] at u1 u3
               have TZ : Hid (1 = 1) := rfl
               clear hd3 hk3 hng hS hEE TY)
            | (go_at_call 26
               have hguard := TZ
               clear hguard
               have hS := refWrite_all r gs it.n it.a it.l it.c it.bs (fun g => wb.heap.size ≤ g ∧ g < gl) x w3 HL3.out.2 HR.out.2.2.ok HQ3.out HO.out.1.len
               refine Calls.mono hS ?_
               rintro e w4 ⟨rfl, hr4, hk4⟩
               rw [HO.out.1.len, HE.out]
               have hgl3 : gl < w3.heap.size := HL3.out.1.lt
               have HP4 : Hid (Pr wb w4 d b r gs (wrD x it.n it.bs) (wrD x it.n it.bs)) := HP3.out.right hk4 (hr4.mono (fun g hg e => by rcases e with e | e; exact .inl e.1; exact .inr e))
               have hng : ¬ RG r gs gl := (HP3.out.apart HL3.out.1 (by decide) (by decide) (by decide)).2
               have HL4 : Hid (Box w4 gl 5 (u8s (lentS it.bs 67)) ∧ RD w4 r gs (fun g => wb.heap.size ≤ g ∧ g ≠ gl) (wrD x it.n it.bs) ∧ ¬ DB d b gl ∧ ¬ RG r gs gl) := by
                 refine ⟨HL3.out.1.kept hk4 hng, hr4.mono (fun g hg e => ?_), dsk_box HP3.out.dx HL3.out.1 (by decide), hng⟩
                 have h1 := HP3.out.kept.size
                 rcases e with e | e
                 · exact ⟨e.1, by omega⟩
                 · exact ⟨by omega, by omega⟩
               have HQ4 : Hid (Nums .u8 w4 it.a it.bs) := HO.out.1.nums.no HP4.out.kept
               have HS4 : Hid (Box w4 wr.heap.size 53 #[.int .i64 it.k, .int .i64 it.n, .int .i64 it.m, .slice it.a it.l it.c]) := HS3.out.kept hk4 HGS.out.2
               have v3 := HS4.out.cell 3
               simp only [List.getElem?_toArray, List.getElem?_cons_zero, List.getElem?_cons_succ] at v3
               have TW : Hid (1 = 1) := rfl
               clear hr4 hk4 hng hgl3 hS TZ)
            | (go_at_call 21
               have hguard := TW
               clear hguard
               refine Calls.mono (back_any gl it.a it.l it.c it.bs w4 HL4.out.1 HQ4.out HO.out.1.len (by have := HO.out.1.cap; have := HO.out.2; omega) HO.out.1.u8) ?_
               rintro e w' ⟨rfl, hw'⟩
               rw [hw']
               clear hw' w' TW))
        obtain ⟨wo, hwo⟩ : ∃ wo, wo = wr := ⟨_, rfl⟩
        have hli : (it.l : Int) ≤ 140737488351232 := by have := HO.out.1.cap; have := HO.out.2; omega
        go_loopw [17] (fun i wr => ∃ j : Nat, i = .int .i64 j ∧ Hid (j ≤ it.l ∧ (∃ zz : List Int, zz.length = it.l + 67 ∧ Box wr gl 5 (u8s zz)) ∧ Kept (Only gl) w4 wr)) (fun i _ => it.l - (intOf i).toNat)
        case atStart => exact ⟨0, rfl, Nat.zero_le _, ⟨_, by rw [lentS_len _ _ (by omega), HO.out.1.len], HL4.out.1⟩, Kept.refl _ _⟩
        case round =>
          obtain ⟨j, rfl, HJ⟩ := hrel
          by_cases hj : (j : Int) < (it.l : Int)
          · obtain ⟨zz, hzl, hzb⟩ := HJ.out.2.1
            have hj' : j < zz.length := by omega
            have e0 := hzb.cell j
            have e1 : (u8s zz)[j]? = some (.int .u8 zz[j]) := by
              unfold u8s
              rw [List.getElem?_toArray, List.getElem?_map, List.getElem?_eq_getElem hj']
              rfl
            rw [e1] at e0
            have f0 := hzb.frozen j
            obtain ⟨z, hz⟩ : ∃ z, z = zz[j] := ⟨_, rfl⟩
            rw [← hz] at e0
            have HS : Hid (∀ u : Int, ∃ zz' : List Int, zz'.length = it.l + 67 ∧ Box (wr.setCell ⟨gl, j, none⟩ (.int .u8 u)) gl 5 (u8s zz')) := by
              intro u
              refine ⟨zz.set j u, by rw [List.length_set]; exact hzl, ?_⟩
              have := hzb.set j (.int .u8 u)
              unfold u8s at this ⊢
              rw [List.map_set]
              simpa using this
            have hcap : (j : Int) < ((it.l + 67 : Nat) : Int) := by omega
            clear hzl hzb hj' e1 hz
            go_wp2
            go_roundw
            case rel => exact ⟨j + 1, by go_num, (by omega : j + 1 ≤ it.l), HS.out _, HJ.out.2.2.setCell (fun _ => onlySelf gl) _⟩
            case measure => simp [intOf]; omega
          · have HPf : Hid (Pr wb wr d b r gs (wrD x it.n it.bs) (wrD x it.n it.bs)) := by
              have hk := HJ.out.2.2
              have h4 := HL4.out
              have h1 := HP4.out.lo
              refine ⟨HP4.out.dx.kept hk (fun e => h4.2.2.1 (.inl (Eq.symm e))) (fun e => h4.2.2.1 (.inr (Eq.symm e))), ?_, ?_, h1⟩
              · exact (h4.2.1.kept hk (fun e => h4.2.2.2 (.inl (Eq.symm e))) (fun e => h4.2.2.2 (.inr (Eq.symm e))) (fun g _ hF e => hF.2 e)).mono (fun g _ e => e.1)
              · exact HP4.out.kept.trans hk (fun _ e => e) (fun i hi e => by
                  have : i = gl := e
                  have := HL2.out.2.2.2
                  omega)
            go_wp2
            go_roundw
            case rel => exact ⟨k + 1, d, b, r, gs, wrD x it.n it.bs, rfl, rfl, by go_num, by omega, HPf.out, HR.out.2.2.write it.n HO.out.1.u8 HKk.out⟩
            case measure => simp [intOf]; omega
      · subst h7
        have HR7 : Hid (∀ w : World, Calls Try.prog 13 #[.int .i64 it.k, .int .i64 7] w fun e w' => e = .returned (.int .i64 2) ∧ w' = w) := hRd
        clear hRd hr8
        go_wp2_with (first
            | (go_at_call 13
               rw [← hw1]
               refine Calls.mono (HR7.out w1) ?_
               rintro e w' ⟨rfl, hw'⟩
               rw [hw']
               clear hw' w' hw1)
            | (go_at_call 29
               have hguard := TX
               clear hguard
               refine Calls.mono (arm_all d b x it.n it.m w1 HP1.out.dx) ?_
               rintro e w2 ⟨rfl, hd2, hk2⟩
               have HP2 : Hid (Pr wb w2 d b r gs (armD x it.n it.m) x) := HP1.out.left hk2.db hd2
               have HS2 : Hid (Box w2 wr.heap.size 53 #[.int .i64 it.k, .int .i64 it.n, .int .i64 it.m, .slice it.a it.l it.c]) := HS1.out.kept hk2.db HGS.out.1
               have t1 := (HS2.out).cell 1
               have t2 := (HS2.out).cell 2
               simp only [List.getElem?_toArray, List.getElem?_cons_zero, List.getElem?_cons_succ] at t1 t2
               have TY : Hid (1 = 1) := rfl
               clear hd2 hk2 TX)
            | (go_at_call 34
               have hguard := TY
               clear hguard
               refine Calls.mono (refArm_any r gs (fun g => wb.heap.size ≤ g) x it.n it.m w2 HP2.out.ry) ?_
               rintro e w3 ⟨rfl, hr3, hk3⟩
               have HP3 : Hid (Pr wb w3 d b r gs (armD x it.n it.m) (armD x it.n it.m)) := HP2.out.right1 hk3 hr3
               clear hr3 hk3 TY))
        go_roundw
        case rel => exact ⟨k + 1, d, b, r, gs, armD x it.n it.m, rfl, rfl, by go_num, by omega, HP3.out, HR.out.2.2.arm it.n it.m HO.out.1.inn.2⟩
        case measure => simp [intOf]; omega
      · subst h7
        have HR7 : Hid (∀ w : World, Calls Try.prog 13 #[.int .i64 it.k, .int .i64 7] w fun e w' => e = .returned (.int .i64 3) ∧ w' = w) := hRd
        clear hRd hr8
        go_wp2_with (first
            | (go_at_call 13
               rw [← hw1]
               refine Calls.mono (HR7.out w1) ?_
               rintro e w' ⟨rfl, hw'⟩
               rw [hw']
               clear hw' w' hw1)
            | (go_at_call 30
               have hguard := TX
               clear hguard
               refine Calls.mono (start_any d b x w1 HP1.out.dx) ?_
               rintro e w2 ⟨rfl, hd2, hk2⟩
               have HP2 : Hid (Pr wb w2 d b r gs (startD x) x) := HP1.out.left hk2.db hd2
               have HS2 : Hid (Box w2 wr.heap.size 53 #[.int .i64 it.k, .int .i64 it.n, .int .i64 it.m, .slice it.a it.l it.c]) := HS1.out.kept hk2.db HGS.out.1
               have t1 := (HS2.out).cell 1
               have t2 := (HS2.out).cell 2
               simp only [List.getElem?_toArray, List.getElem?_cons_zero, List.getElem?_cons_succ] at t1 t2
               have TY : Hid (1 = 1) := rfl
               clear hd2 hk2 TX)
            | (go_at_call 35
               have hguard := TY
               clear hguard
               refine Calls.mono (refStart_any r gs (fun g => wb.heap.size ≤ g) x w2 HP2.out.ry) ?_
               rintro e w3 ⟨rfl, hr3, hk3⟩
               have HP3 : Hid (Pr wb w3 d b r gs (startD x) (startD x)) := HP2.out.right1 hk3 hr3
               clear hr3 hk3 TY))
        go_roundw
        case rel => exact ⟨k + 1, d, b, r, gs, startD x, rfl, rfl, by go_num, by omega, HP3.out, HR.out.2.2.start⟩
        case measure => simp [intOf]; omega
      · subst h7
        have HR7 : Hid (∀ w : World, Calls Try.prog 13 #[.int .i64 it.k, .int .i64 7] w fun e w' => e = .returned (.int .i64 4) ∧ w' = w) := hRd
        clear hRd hr8
        go_wp2_with (first
            | (go_at_call 13
               rw [← hw1]
               refine Calls.mono (HR7.out w1) ?_
               rintro e w' ⟨rfl, hw'⟩
               rw [hw']
               clear hw' w' hw1)
            | (go_at_call 23
               have hguard := TX
               clear hguard
               obtain ⟨gi, hgi⟩ : ∃ gi, gi = w1.heap.size := ⟨_, rfl⟩
               have hS := image_any d b x w1 HP1.out.dx HR.out.2.2.ok.fine
               rw [← hgi] at hS
               refine Calls.mono hS ?_
               rintro e wI ⟨rfl, hbI, hkI⟩
               have HPI : Hid (Pr wb wI d b r gs x x) := HP1.out.no hkI
               have HBI : Hid (Box wI gi 5 (u8s (flatN x.N x.c))) := hbI
               have TI : Hid (1 = 1) := rfl
               clear hS hbI hkI hgi TX)
            | (go_at_call 36
               have hguard := TI
               clear hguard
               obtain ⟨gj, hgj⟩ : ∃ gj, gj = wI.heap.size := ⟨_, rfl⟩
               have hS := refImage_any r gs (fun g => wb.heap.size ≤ g) x wI HPI.out.ry HR.out.2.2.ok.fine
               rw [← hgj] at hS
               refine Calls.mono hS ?_
               rintro e wJ ⟨rfl, hbJ, hkJ⟩
               have HPJ : Hid (Pr wb wJ d b r gs x x) := HPI.out.no hkJ
               have HBJ : Hid (Box wJ gi 5 (u8s (flatN x.N x.c)) ∧ Box wJ gj 5 (u8s (flatN x.N x.c))) := ⟨HBI.out.kept hkJ (fun e => e), hbJ⟩
               have TJ : Hid (1 = 1) := rfl
               clear hS hbJ hkJ hgj TI)
            | (go_at_call 14
               have hguard := TJ
               clear hguard
               refine Calls.mono (same_any (some ⟨gi, 0, none⟩) (some ⟨gj, 0, none⟩) _ _ _ _ _ _ wJ HBJ.out.1.all HBJ.out.2.all (flatN_u8 HR.out.2.2.ok.u8 _) (flatN_u8 HR.out.2.2.ok.u8 _) (flatN_len _ HR.out.2.2.ok.fine.len _) (flatN_len _ HR.out.2.2.ok.fine.len _)) ?_
               rintro e w' ⟨rfl, hw'⟩
               rw [hw', decide_eq_true rfl]
               clear hw' w' TJ))
        go_roundw
        case rel => exact ⟨k + 1, d, b, r, gs, x, rfl, rfl, by go_num, by omega, HPJ.out, HR.out.2.2.up⟩
        case measure => simp [intOf]; omega
      · subst h7
        have HR7 : Hid (∀ w : World, Calls Try.prog 13 #[.int .i64 it.k, .int .i64 7] w fun e w' => e = .returned (.int .i64 5) ∧ w' = w) := hRd
        clear hRd hr8
        obtain ⟨I, hI⟩ : ∃ I, I = flatN x.N x.c := ⟨_, rfl⟩
        obtain ⟨M, hM⟩ : ∃ M, M = x.N * 512 := ⟨_, rfl⟩
        obtain ⟨y, hy⟩ : ∃ y, y = loadD I := ⟨_, rfl⟩
        have HI : Hid (flatN x.N x.c = I ∧ x.N * 512 = M ∧ I.length = x.N * 512 ∧ M = x.N * 512 ∧ 1 ≤ x.N ∧ x.N ≤ 65536 ∧ loadD I = y ∧ Pl y (k + 1)) := by
          have hf := HR.out.2.2.ok.fine
          have hl : I.length = x.N * 512 := by rw [hI]; exact flatN_len _ hf.len _
          have h8 : U8 I := by rw [hI]; exact flatN_u8 HR.out.2.2.ok.u8 _
          refine ⟨hI.symm, hM.symm, hl, hM, hf.n1, hf.n2, hy.symm, ?_⟩
          have := loadD_ok hl hf.n1 hf.n2 h8
          rw [hy]
          exact ⟨this.1, by show (0 : Int) ≤ _; omega, by show (0 : Int) ≤ _; omega⟩
        clear hI hM hy
        go_wp2_with (first
            | (go_at_call 13
               rw [← hw1]
               refine Calls.mono (HR7.out w1) ?_
               rintro e w' ⟨rfl, hw'⟩
               rw [hw']
               clear hw' w' hw1)
            | (go_at_call 23
               have hguard := TX
               clear hguard
               obtain ⟨gi, hgi⟩ : ∃ gi, gi = w1.heap.size := ⟨_, rfl⟩
               have hS := image_any d b x w1 HP1.out.dx HR.out.2.2.ok.fine
               rw [HI.out.1, HI.out.2.1, ← hgi] at hS
               refine Calls.mono hS ?_
               rintro e w2 ⟨rfl, hb2, hk2⟩
               have HP2 : Hid (Pr wb w2 d b r gs x x ∧ Box w2 gi 5 (u8s I)) := ⟨HP1.out.no hk2, hb2⟩
               clear hS hb2 hk2 hgi TX)
            | (go_at_call 19
               obtain ⟨d2, hd2⟩ : ∃ d2, d2 = w2.heap.size + 1 := ⟨_, rfl⟩
               obtain ⟨b2, hb2⟩ : ∃ b2, b2 = w2.heap.size := ⟨_, rfl⟩
               have hS := loadYes_any gi 0 M x.N M I w2 HP2.out.2.all HI.out.2.2.1 HI.out.2.2.2.1 HI.out.2.2.2.2.1 HI.out.2.2.2.2.2.1 (Nat.le_refl _) (by have := HI.out.2.2.2.1; have := HI.out.2.2.2.2.2.1; omega)
               rw [← hd2, ← hb2, HI.out.2.2.2.2.2.2.1] at hS
               refine Calls.mono hS ?_
               rintro e w3 ⟨rfl, hd3, hk3⟩
               have HP3 : Hid (Pr wb w3 d b r gs x x ∧ Dsk w3 d2 b2 y ∧ wb.heap.size ≤ d2 ∧ wb.heap.size ≤ b2) := by
                 have := HP2.out.1.kept.size
                 exact ⟨HP2.out.1.no hk3, hd3, by omega, by omega⟩
               clear hS hd3 hk3 hd2 hb2 HP2)
            | (go_at_call 36
               obtain ⟨gj, hgj⟩ : ∃ gj, gj = w3.heap.size := ⟨_, rfl⟩
               have hS := refImage_any r gs (fun g => wb.heap.size ≤ g) x w3 HP3.out.1.ry HR.out.2.2.ok.fine
               rw [HI.out.1, HI.out.2.1, ← hgj] at hS
               refine Calls.mono hS ?_
               rintro e w4 ⟨rfl, hb4, hk4⟩
               have HP4 : Hid (Kept No wb w4 ∧ Dsk w4 d2 b2 y ∧ wb.heap.size ≤ d2 ∧ wb.heap.size ≤ b2 ∧ Box w4 gj 5 (u8s I)) := ⟨HP3.out.1.kept.then hk4, HP3.out.2.1.no hk4, HP3.out.2.2.1, HP3.out.2.2.2, hb4⟩
               clear hS hb4 hk4 hgj HP3)
            | (go_at_call 20
               have hS := refLoadYes_any gj 0 M x.N M I w4 HP4.out.2.2.2.2.all HI.out.2.2.1 HI.out.2.2.2.1 HI.out.2.2.2.2.1 HI.out.2.2.2.2.2.1 (Nat.le_refl _) (by have := HI.out.2.2.2.1; have := HI.out.2.2.2.2.2.1; omega)
               rw [HI.out.2.2.2.2.2.2.1] at hS
               refine Calls.mono hS ?_
               rintro e w5 ⟨r2, gs2, rfl, hr2, hgs2, hR2, hk5⟩
               have HP5 : Hid (Pr wb w5 d2 b2 r2 gs2 y y) := by
                 have := HP4.out.1.size
                 exact ⟨HP4.out.2.1.no hk5, hR2.mono (fun g _ e => by have e' : w4.heap.size ≤ g := e; omega), HP4.out.1.then hk5, ⟨HP4.out.2.2.1, HP4.out.2.2.2.1, by omega, by omega⟩⟩
               clear hS hr2 hgs2 hR2 hk5 HP4))
        go_roundw
        case rel => exact ⟨k + 1, d2, b2, r2, gs2, y, rfl, rfl, by go_num, by omega, HP5.out, HI.out.2.2.2.2.2.2.2⟩
        case measure => simp [intOf]; omega
      · subst h7
        have HR7 : Hid (∀ w : World, Calls Try.prog 13 #[.int .i64 it.k, .int .i64 7] w fun e w' => e = .returned (.int .i64 6) ∧ w' = w) := hRd
        clear hRd hr8
        go_wp2_with (first
            | (go_at_call 13
               rw [← hw1]
               refine Calls.mono (HR7.out w1) ?_
               rintro e w' ⟨rfl, hw'⟩
               rw [hw']
               clear hw' w' hw1)
            | (go_at_call 22
               refine Calls.mono (held_any d b r gs _ x w1 HP1.out.dx HP1.out.ry) ?_
               rintro e w2 ⟨rfl, hk2⟩
               have HP2 : Hid (Pr wb w2 d b r gs x x) := HP1.out.no hk2
               clear hk2))
        go_roundw
        case rel => exact ⟨k + 1, d, b, r, gs, x, rfl, rfl, by go_num, by omega, HP2.out, HR.out.2.2.up⟩
        case measure => simp [intOf]; omega
    · have TE : Hid (1 = 1) := rfl
      go_wp2_with (first
            | (go_at_call 22
               refine Calls.mono (held_any d b r gs _ x wr HR.out.2.1.dx HR.out.2.1.ry) ?_
               rintro e w2 ⟨rfl, hk2⟩
               have HP2 : Hid (Pr wb w2 d b r gs x x) := HR.out.2.1.no hk2
               have T22 : Hid (1 = 1) := rfl
               clear hk2 TE)
            | (go_at_call 23
               have hguard := T22
               clear hguard
               obtain ⟨gi, hgi⟩ : ∃ gi, gi = w2.heap.size := ⟨_, rfl⟩
               have hS := image_any d b x w2 HP2.out.dx HR.out.2.2.ok.fine
               rw [← hgi] at hS
               refine Calls.mono hS ?_
               rintro e wI ⟨rfl, hbI, hkI⟩
               have HPI : Hid (Pr wb wI d b r gs x x) := HP2.out.no hkI
               have HBI : Hid (Box wI gi 5 (u8s (flatN x.N x.c))) := hbI
               have TI : Hid (1 = 1) := rfl
               clear hS hbI hkI hgi T22)
            | (go_at_call 36
               have hguard := TI
               clear hguard
               obtain ⟨gj, hgj⟩ : ∃ gj, gj = wI.heap.size := ⟨_, rfl⟩
               have hS := refImage_any r gs (fun g => wb.heap.size ≤ g) x wI HPI.out.ry HR.out.2.2.ok.fine
               rw [← hgj] at hS
               refine Calls.mono hS ?_
               rintro e wJ ⟨rfl, hbJ, hkJ⟩
               have HPJ : Hid (Pr wb wJ d b r gs x x) := HPI.out.no hkJ
               have HBJ : Hid (Box wJ gi 5 (u8s (flatN x.N x.c)) ∧ Box wJ gj 5 (u8s (flatN x.N x.c))) := ⟨HBI.out.kept hkJ (fun e => e), hbJ⟩
               have TJ : Hid (1 = 1) := rfl
               clear hS hbJ hkJ hgj TI)
            | (go_at_call 14
               have hguard := TJ
               clear hguard
               refine Calls.mono (same_any (some ⟨gi, 0, none⟩) (some ⟨gj, 0, none⟩) _ _ _ _ _ _ wJ HBJ.out.1.all HBJ.out.2.all (flatN_u8 HR.out.2.2.ok.u8 _) (flatN_u8 HR.out.2.2.ok.u8 _) (flatN_len _ HR.out.2.2.ok.fine.len _) (flatN_len _ HR.out.2.2.ok.fine.len _)) ?_
               rintro e w' ⟨rfl, hw'⟩
               rw [hw', decide_eq_true rfl]
               clear hw' w' TJ))
      all_goals go_ret3
      all_goals exact ⟨_, _, rfl, HPJ.out.kept⟩

end Go.Proofs.Ytppkjebiiheljaa
