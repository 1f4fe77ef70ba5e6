import Derived.Test.YtppkjebiiheljaaSp
import Derived.Deep.CutRange
import Derived.Deep.RegionHeld3
namespace Go.Proofs.Ytppkjebiiheljaa
open Go.RowKit
set_option linter.unusedVariables false
set_option linter.unusedSimpArgs false

/-- One disk of the call's own. -/
structure One (w wr : World) (d b : Nat) (x : DS) : Prop where
  dx : Dsk wr d b x
  kept : Kept No w wr
  lod : w.heap.size ≤ d
  lob : w.heap.size ≤ b
theorem One.next {w wr w' : World} {d b : Nat} {x y : DS} (h : One w wr d b x) (hk : Kept (DB d b) wr w') (hd : Dsk w' d b y) : One w w' d b y :=
  ⟨hd, h.kept.trans hk (fun _ e => e) (fun i hi e => by have := h.lod; have := h.lob; rcases e with e | e <;> omega), h.lod, h.lob⟩
theorem One.no {w wr w' : World} {d b : Nat} {x : DS} (h : One w wr d b x) (hk : Kept No wr w') : One w w' d b x := h.next hk.of_no (h.dx.no hk)

/-- Two disks of the call's own. -/
structure Two (w wr : World) (d b d2 b2 : Nat) (x y : DS) : Prop where
  dx : Dsk wr d b x
  dy : Dsk wr d2 b2 y
  kept : Kept No w wr
  lo : w.heap.size ≤ d ∧ w.heap.size ≤ b ∧ w.heap.size ≤ d2 ∧ w.heap.size ≤ b2
  ne : d ≠ d2 ∧ b ≠ b2
theorem dsk_cross {w : World} {d b d2 b2 : Nat} {x y : DS} (hx : Dsk w d b x) (hy : Dsk w d2 b2 y) : d ≠ b2 := by
  intro e
  obtain ⟨es, c, hb, _⟩ := hy.2
  have := hx.1
  unfold Box at this
  rw [e, hb] at this
  cases this
theorem Two.left {w wr w' : World} {d b d2 b2 : Nat} {x y z : DS} (h : Two w wr d b d2 b2 x y) (hk : Kept (DB d b) wr w') (hd : Dsk w' d b z) : Two w w' d b d2 b2 z y :=
  ⟨hd, h.dy.kept hk (by rintro (e | e); exact h.ne.1 e.symm; exact dsk_cross h.dy h.dx e) (by rintro (e | e); exact dsk_cross h.dx h.dy e.symm; exact h.ne.2 e.symm),
    h.kept.trans hk (fun _ e => e) (fun i hi e => by have := h.lo; rcases e with e | e <;> omega), h.lo, h.ne⟩
theorem Two.right {w wr w' : World} {d b d2 b2 : Nat} {x y z : DS} (h : Two w wr d b d2 b2 x y) (hk : Kept (DB d2 b2) wr w') (hd : Dsk w' d2 b2 z) : Two w w' d b d2 b2 x z :=
  ⟨h.dx.kept hk (by rintro (e | e); exact h.ne.1 e; exact dsk_cross h.dx h.dy e) (by rintro (e | e); exact dsk_cross h.dy h.dx e.symm; exact h.ne.2 e), hd,
    h.kept.trans hk (fun _ e => e) (fun i hi e => by have := h.lo; rcases e with e | e <;> omega), h.lo, h.ne⟩
theorem Two.no {w wr w' : World} {d b d2 b2 : Nat} {x y : DS} (h : Two w wr d b d2 b2 x y) (hk : Kept No wr w') : Two w w' d b d2 b2 x y :=
  ⟨h.dx.no hk, h.dy.no hk, h.kept.then hk, h.lo, h.ne⟩

/-- A disk that never fails, its counts at most k. -/
structure Sa (x : DS) (N : Nat) (k : Nat) : Prop where
  ok : Ok x
  N : x.N = N
  fl : x.fl = false
  pw : x.pw = none
  rd : x.rd ≤ k
  wr : x.wr ≤ k
theorem Sa.write {x : DS} {N k : Nat} (h : Sa x N k) (n : Nat) (hn : n < N) {bs : List Int} (hb : bs.length = 512) (h8 : U8 bs) (hk : k ≤ 1000000000000000000) : Sa (wrD x n bs) N (k + 1) := by
  have hr : refE x n = 0 := refE_zero h.fl (by rw [h.N]; exact hn)
  have ho := h.ok.write n h8 (by have := h.wr; omega)
  rw [wrD_yes hr hb] at ho ⊢
  refine ⟨ho, h.N, ?_, ?_, ?_, ?_⟩
  · show (!holdsP x.pw) = false; rw [h.pw]; rfl
  · show spentP x.pw = none; rw [h.pw]; rfl
  · have := h.rd; show x.rd ≤ _; omega
  · have := h.wr; show x.wr + 1 ≤ _; omega

/-- Both disks as they may be, alike, their counts at most k. -/
structure Bo (x y : DS) (k : Nat) : Prop where
  al : Alike x y
  ox : Ok x
  oy : Ok y
  rx : x.rd ≤ k
  wx : x.wr ≤ k
  ry : y.rd ≤ k
  wy : y.wr ≤ k
theorem wrD_bd {x : DS} {n : Int} {bs : List Int} {k : Nat} (hr : x.rd ≤ k) (hw : x.wr ≤ k) : (wrD x n bs).rd ≤ (k + 1 : Nat) ∧ (wrD x n bs).wr ≤ (k + 1 : Nat) := by
  by_cases hh : refE x n = 0 ∧ bs.length = 512
  · rw [wrD_yes hh.1 hh.2]; exact ⟨by show x.rd ≤ _; omega, by show x.wr + 1 ≤ _; omega⟩
  · rw [wrD_no hh]; exact ⟨by omega, by omega⟩
theorem rdD_bd {x : DS} {n : Int} {k : Nat} (hr : x.rd ≤ k) (hw : x.wr ≤ k) : (rdD x n).rd ≤ (k + 1 : Nat) ∧ (rdD x n).wr ≤ (k + 1 : Nat) := by
  unfold rdD
  split
  · exact ⟨by omega, by omega⟩
  · exact ⟨by show x.rd + 1 ≤ _; omega, by show x.wr ≤ _; omega⟩
theorem Bo.write {x y : DS} {k : Nat} (h : Bo x y k) (n : Int) {bs : List Int} (h8 : U8 bs) (hk : k ≤ 1000000000000000000) : Bo (wrD x n bs) (wrD y n bs) (k + 1) :=
  ⟨h.al.write n bs, h.ox.write n h8 (by have := h.wx; omega), h.oy.write n h8 (by have := h.wy; omega), (wrD_bd h.rx h.wx).1, (wrD_bd h.rx h.wx).2, (wrD_bd h.ry h.wy).1, (wrD_bd h.ry h.wy).2⟩
theorem Bo.read {x y : DS} {k : Nat} (h : Bo x y k) (n : Int) (hk : k ≤ 1000000000000000000) : Bo (rdD x n) (rdD y n) (k + 1) :=
  ⟨h.al.read n, h.ox.read n (by have := h.rx; omega), h.oy.read n (by have := h.ry; omega), (rdD_bd h.rx h.wx).1, (rdD_bd h.rx h.wx).2, (rdD_bd h.ry h.wy).1, (rdD_bd h.ry h.wy).2⟩
theorem armD_same {x : DS} (n t : Int) : (armD x n t).rd = x.rd ∧ (armD x n t).wr = x.wr := by unfold armD; split <;> exact ⟨rfl, rfl⟩
theorem Bo.arm {x y : DS} {k : Nat} (h : Bo x y k) (n t : Int) (hn : n ≤ 9223372036854775807) : Bo (armD x n t) (armD y n t) (k + 1) :=
  ⟨h.al.arm n t, h.ox.arm n t hn, h.oy.arm n t hn, by rw [(armD_same n t).1]; have := h.rx; omega, by rw [(armD_same n t).2]; have := h.wx; omega, by rw [(armD_same n t).1]; have := h.ry; omega, by rw [(armD_same n t).2]; have := h.wy; omega⟩
theorem Bo.start {x y : DS} {k : Nat} (h : Bo x y k) : Bo (startD x) (startD y) (k + 1) :=
  ⟨h.al.start, h.ox.start, h.oy.start, by have := h.rx; show x.rd ≤ _; omega, by have := h.wx; show x.wr ≤ _; omega, by have := h.ry; show y.rd ≤ _; omega, by have := h.wy; show y.wr ≤ _; omega⟩

theorem flatN_u8 {f : Nat → List Int} (h : ∀ m, U8 (f m)) : ∀ n, U8 (flatN n f)
  | 0 => fun i => by simp [flatN]
  | n + 1 => by rw [flatN]; exact (flatN_u8 h n).append (h n)
theorem full0_splice (data : List Int) : (splice (zs.map (Value.int .u8)) 0 ((data.take 512).map (Value.int .u8))).toArray = u8s (fullS data 0) := full_splice data 0

theorem wp_copyFull {w : World} {ops : Array Oper} {rest : List Oper} {o : Oper} {a : Act} {Q : Exit → Act → World → Prop} (hgd : o.guard = none) (d s : Operand)
    (ho : o.op = .call { callee := .builtin .copy, args := #[d, s], argTypes := #[22, 22] }) (gb : Nat) (hd : a.eval d = .slice (some ⟨gb, 0, none⟩) 512 512) (sa : Option Addr) (sl sc : Nat) (bs : List Int) (hs : a.eval s = .slice sa sl sc)
    (hb : Box w gb 5 (u8s zs)) (hn : Nums .u8 w sa bs) (hl : bs.length = sl)
    (h : ∀ w' v, Hid (Box w' gb 5 (u8s (fullS bs 0))) → Kept (Only gb) w w' → wpList Try.prog ops Q rest (a.put o.dst (.int .i64 v)) w') : wpList Try.prog ops Q (o :: rest) a w := by
  refine wp_copyO hgd d s 22 22 ho 5 Try.und22 Try.size5 (some ⟨gb, 0, none⟩) sa 512 512 sl sc hd hs gb 0 (zs.map (Value.int .u8)) 5 hb ((bs.take 512).map (Value.int .u8)) ?_ ?_ ?_ (num_one .u8 _) ?_
  · rw [List.length_map, List.length_take, hl]; exact Nat.min_comm _ _
  · intro h0
    refine ⟨rfl, ?_⟩
    have hn' : Nums .u8 w sa (bs.take 512) := by
      intro i hi
      rw [List.length_take] at hi
      obtain ⟨b', off', e', hc⟩ := hn i (by omega)
      refine ⟨b', off', e', ?_⟩
      rw [List.getElem?_take, if_pos (by omega)]
      exact hc
    exact hn'.src h0
  · rw [List.length_map, List.length_take, List.length_map, zs_len]; omega
  · intro w' HB hk hs'
    rw [full0_splice] at HB
    exact h w' _ HB hk

set_option maxRecDepth 100000 in
set_option maxHeartbeats 2000000 in
theorem sameWalk (a0 a1 : Option Addr) (l0 l1 c0 c1 : Nat) (xs ys : List Stp) (w : World) (hs0 : Stps w a0 xs) (hs1 : Stps w a1 ys) (hl0 : xs.length = l0) (hl1 : ys.length = l1) (hm0 : l0 ≤ 140737488351232) (hm1 : l1 ≤ 140737488351232) (ho0 : ∀ x ∈ xs, StpOk w x) (ho1 : ∀ x ∈ ys, StpOk w x) :
    Calls Try.prog 7 #[.slice a0 l0 c0, .slice a1 l1 c1] w fun e w' => e = .returned (.bool true) ∧ Kept No w w' := by
  have HX : Hid (Stps w a0 xs ∧ (∀ x ∈ xs, StpOk w x) ∧ xs.length = l0 ∧ l0 ≤ 140737488351232) := ⟨hs0, ho0, hl0, hm0⟩
  have HY : Hid (Stps w a1 ys ∧ (∀ x ∈ ys, StpOk w x) ∧ ys.length = l1 ∧ l1 ≤ 140737488351232) := ⟨hs1, ho1, hl1, hm1⟩
  clear hs0 hs1 hl0 hl1 hm0 hm1 ho0 ho1
  go_enter Try.func7, Try.ntmps7
  go_wp2_with (first
    | (go_at_call 9
       refine Calls.mono (known_any w) ?_
       rintro e w1 ⟨rfl, hk1⟩
       have HK1 : Hid (Kept No w w1) := hk1
       clear hk1)
    | (go_at_call 10
       obtain ⟨d, hd⟩ : ∃ d, d = w1.heap.size + 1 := ⟨_, rfl⟩
       obtain ⟨b, hb⟩ : ∃ b, b = w1.heap.size := ⟨_, rfl⟩
       have HN := newYes_any 8 w1 (by omega) (by omega)
       rw [← hd, ← hb] at HN
       refine Calls.mono HN ?_
       rintro e w2 ⟨rfl, hd2, hk2⟩
       have HE2 : Hid (One w w2 d b (newD 8)) := ⟨hd2, HK1.out.then hk2, by have := HK1.out.size; omega, by have := HK1.out.size; omega⟩
       clear hd2 hk2 HN hd hb HK1))
  go_loopw [7] (fun i wr => ∃ k : Nat, i = .int .i64 k ∧ ∃ x, Hid (k ≤ l0 ∧ One w wr d b x ∧ Sa x 8 k)) (fun i _ => l0 - (intOf i).toNat)
  case atStart => exact ⟨0, rfl, newD 8, Nat.zero_le _, HE2.out, ⟨Ok.new (by omega) (by omega), rfl, rfl, rfl, Int.le_refl _, Int.le_refl _⟩⟩
  case round =>
    clear HE2
    obtain ⟨k, rfl, x, HR⟩ := hrel
    by_cases hk : (k : Int) < (l0 : Int)
    · have hk' : k < xs.length := by have := HX.out.2.2.1; omega
      obtain ⟨it, hit⟩ : ∃ it, xs[k]? = some it := ⟨xs[k], List.getElem?_eq_getElem hk'⟩
      obtain ⟨sb, off, ha0, _⟩ := HX.out.1 k it hit
      have HO : Hid (StpOk w it) := HX.out.2.1 it (List.mem_of_getElem? hit)
      have HIT : Hid (xs[k]? = some it) := hit
      subst ha0
      obtain ⟨n, hn⟩ : ∃ n, n = roundOf it.n 8 := ⟨_, rfl⟩
      have HN8 : Hid (n < 8) := by rw [hn]; exact roundOf_lt _ _ (by omega)
      have hRd : ∀ w : World, Calls Try.prog 13 #[.int .i64 it.n, .int .i64 8] w fun e w' => e = .returned (.int .i64 n) ∧ w' = w := by
        intro w; rw [hn]; exact round_any it.n 8 w (by omega) (by omega)
      have HRd : Hid _ := hRd
      have HF : Hid ((fullS it.bs 0).length = 512 ∧ U8 (fullS it.bs 0)) := ⟨fullS_len _ _, fullS_u8 HO.out.u8 (by omega)⟩
      have HSn : Hid (Sa (wrD x n (fullS it.bs 0)) 8 (k + 1)) := HR.out.2.2.write n HN8.out HF.out.1 HF.out.2 (by have := HX.out.2.2.2; have := HR.out.1; omega)
      clear hk' hit hn hRd
      have hlb : (l0 : Int) ≤ 140737488351232 := by have := HX.out.2.2.2; omega
      go_wp2_with (first
        | (refine wp_make512 rfl rfl ?_
           intro w3 HB3 hk3
           obtain ⟨gb, hgb⟩ : ∃ gb, gb = wr.heap.size := ⟨_, rfl⟩
           rw [← hgb] at HB3
           rw [← hgb]
           have hk03 : Kept No w w3 := HR.out.2.1.kept.then hk3
           obtain ⟨_, _, e3, q0, q1, q2, q3⟩ := (HX.out.1.no hk03) k it HIT.out
           cases e3
           have HK3 : Hid (Kept No wr w3) := hk3
           have HG : Hid (wr.heap.size ≤ gb) := by show wr.heap.size ≤ gb; omega
           have HSrc : Hid (Nums .u8 w3 it.a it.bs) := HO.out.nums.no hk03
           clear hk3 hgb q0 q1 q2 hk03)
        | (refine wp_copyFull rfl (.tmp 36) (.tmp 41) rfl gb rfl it.a it.l it.c it.bs rfl HB3.out HSrc.out HO.out.len ?_
           intro w4 v4 HB4 hk4
           have hk14 : Kept No wr w4 := HK3.out.trans hk4 (fun _ e => e) (fun i hi e => by have : i = gb := e; have := HG.out; omega)
           have HE4 : Hid (One w w4 d b x) := HR.out.2.1.no hk14
           obtain ⟨_, _, e4, p0, p1, p2, p3⟩ := (HX.out.1.no HE4.out.kept) k it HIT.out
           cases e4
           clear hk4 hk14 p0 p2 p3 HB3 HSrc HK3 HG q3)
        | (go_at_call 13
           refine Calls.mono (HRd.out w4) ?_
           rintro e w' ⟨rfl, hw'⟩
           rw [hw']
           clear hw' w')
        | (go_at_call 25
           refine Calls.mono (write_all d b n (some ⟨gb, 0, none⟩) 512 512 (fullS it.bs 0) x w4 HE4.out.dx HR.out.2.2.ok HB4.out.all HF.out.1 (Nat.le_refl _) (by decide)) ?_
           rintro e w5 ⟨rfl, hd5, hk5⟩
           have HE5 : Hid (One w w5 d b (wrD x n (fullS it.bs 0))) := HE4.out.next hk5 hd5
           clear hd5 hk5))
      go_roundw
      case rel => exact ⟨k + 1, by go_num, wrD x n (fullS it.bs 0), by omega, HE5.out, HSn.out⟩
      case measure => simp [intOf]; omega
    · have hk' : k = l0 := by have := HR.out.1; omega
      subst hk'
      have HK0 : Hid (k ≤ 140737488351232) := HX.out.2.2.2
      clear hk HX
      obtain ⟨I, hI⟩ : ∃ I, I = flatN 8 x.c := ⟨_, rfl⟩
      have hIx : flatN x.N x.c = I := by rw [HR.out.2.2.N, hI]
      have hIl : I.length = 8 * 512 := by rw [hI]; exact flatN_len _ HR.out.2.2.ok.fine.len 8
      have hI8 : U8 I := by
        have : ∀ n, U8 (flatN n x.c) := by
          intro n
          induction n with
          | zero => exact fun i => by simp [flatN]
          | succ n ih => rw [flatN]; exact ih.append (HR.out.2.2.ok.u8 n)
        rw [hI]; exact this 8
      obtain ⟨hO, hN, hFl⟩ := loadD_ok hIl (by omega) (by omega) hI8
      have hAl : Alike x (loadD I) := by
        refine ⟨HR.out.2.2.N.trans hN.symm, ?_, HR.out.2.2.pw, HR.out.2.2.fl⟩
        show x.c = secTo I (I.length / 512)
        rw [hIl, Nat.mul_div_cancel _ (by omega), hI, secTo_flat HR.out.2.2.ok.fine.len (fun m hm => HR.out.2.2.ok.fine.out m (by rw [HR.out.2.2.N]; exact hm))]
      have HBo : Hid (Bo x (loadD I) k) := ⟨hAl, HR.out.2.2.ok, hO, HR.out.2.2.rd, HR.out.2.2.wr, by show (0 : Int) ≤ _; omega, by show (0 : Int) ≤ _; omega⟩
      have HI : Hid (flatN x.N x.c = I ∧ I.length = 8 * 512 ∧ x.N = 8) := ⟨hIx, hIl, HR.out.2.2.N⟩
      clear hI hIx hIl hI8 hO hN hFl hAl
      go_wp2_with (first
        | (go_at_call 23
           obtain ⟨gI, hgI⟩ : ∃ gI, gI = wr.heap.size := ⟨_, rfl⟩
           have hIm := image_any d b x wr HR.out.2.1.dx HR.out.2.2.ok.fine
           rw [← hgI] at hIm
           refine Calls.mono hIm ?_
           rintro e w6 ⟨rfl, hb6, hk6⟩
           rw [HI.out.2.2, show 8 * 512 = 4096 from rfl]
           rw [HI.out.1] at hb6
           have HE6 : Hid (One w w6 d b x) := HR.out.2.1.no hk6
           have HI6 : Hid (Box w6 gI 5 (u8s I)) := hb6
           clear hIm hgI hb6 hk6)
        | (go_at_call 19
           obtain ⟨d2, hd2⟩ : ∃ d2, d2 = w6.heap.size + 1 := ⟨_, rfl⟩
           obtain ⟨b2, hb2⟩ : ∃ b2, b2 = w6.heap.size := ⟨_, rfl⟩
           have hL := loadYes_any gI 0 4096 8 4096 I w6 HI6.out.all HI.out.2.1 rfl (by decide) (by decide) (Nat.le_refl _) (by decide)
           rw [← hd2, ← hb2] at hL
           refine Calls.mono hL ?_
           rintro e w7 ⟨rfl, hd7, hk7⟩
           have HT7 : Hid (Two w w7 d b d2 b2 x (loadD I)) := by
             have h1 := HE6.out.kept.size
             have h2 := HE6.out.dx.ltd
             have h3 := HE6.out.dx.ltb
             exact ⟨HE6.out.dx.no hk7, hd7, HE6.out.kept.then hk7, ⟨HE6.out.lod, HE6.out.lob, by omega, by omega⟩, ⟨by omega, by omega⟩⟩
           clear hd7 hk7 hL hd2 hb2 HE6 HI6))
      go_loopw [11] (fun i wr => ∃ j : Nat, i = .int .i64 j ∧ ∃ x y, Hid (j ≤ l1 ∧ Two w wr d b d2 b2 x y ∧ Bo x y (k + j))) (fun i _ => l1 - (intOf i).toNat)
      case atStart => exact ⟨0, rfl, x, loadD I, Nat.zero_le _, HT7.out, HBo.out⟩
      case round =>
        clear HT7 HBo HI HR
        obtain ⟨j, rfl, x, y, HR⟩ := hrel
        by_cases hj : (j : Int) < (l1 : Int)
        · have hj' : j < ys.length := by have := HY.out.2.2.1; omega
          obtain ⟨it, hit⟩ : ∃ it, ys[j]? = some it := ⟨ys[j], List.getElem?_eq_getElem hj'⟩
          obtain ⟨sb, off, ha1, q0, q1, q2, q3⟩ := (HY.out.1.no HR.out.2.1.kept) j it hit
          have HO : Hid (StpOk w it) := HY.out.2.1 it (List.mem_of_getElem? hit)
          subst ha1
          have hlb : (l1 : Int) ≤ 140737488351232 := by have := HY.out.2.2.2; omega
          obtain ⟨r7, hr7⟩ : ∃ r7, r7 = roundOf it.k 7 := ⟨_, rfl⟩
          have hRd : ∀ w : World, Calls Try.prog 13 #[.int .i64 it.k, .int .i64 7] w fun e w' => e = .returned (.int .i64 r7) ∧ w' = w := by
            intro w; rw [hr7]; exact round_any it.k 7 w (by omega) (by omega)
          obtain ⟨w1, hw1⟩ : ∃ w1, w1 = wr.alloc (.cells #[.int .i64 it.k, .int .i64 it.n, .int .i64 it.m, .slice it.a it.l it.c] 53) := ⟨_, rfl⟩
          have HT1 : Hid (Two w w1 d b d2 b2 x y) := by rw [hw1]; exact HR.out.2.1.no ((Kept.refl No wr).alloc _)
          have HS1 : Hid (Box w1 wr.heap.size 53 #[.int .i64 it.k, .int .i64 it.n, .int .i64 it.m, .slice it.a it.l it.c]) := by rw [hw1]; exact Box.new _ _ _
          have HGS : Hid (wr.heap.size ≠ d ∧ ¬ DB d b wr.heap.size ∧ ¬ DB d2 b2 wr.heap.size) := by
            have h1 := HR.out.2.1.dx.ltd
            have h2 := HR.out.2.1.dx.ltb
            have h3 := HR.out.2.1.dy.ltd
            have h4 := HR.out.2.1.dy.ltb
            exact ⟨by omega, by rintro (e | e) <;> omega, by rintro (e | e) <;> omega⟩
          have s0 := HS1.out.cell 0
          have s1 := HS1.out.cell 1
          have s2 := HS1.out.cell 2
          have s3 := HS1.out.cell 3
          simp only [List.getElem?_toArray, List.getElem?_cons_zero, List.getElem?_cons_succ] at s0 s1 s2 s3
          have TX : Hid (1 = 1) := rfl
          clear hj' hit hr7
          by_cases h3 : r7 = 3
          · subst h3
            have HR7 : Hid (∀ w : World, Calls Try.prog 13 #[.int .i64 it.k, .int .i64 7] w fun e w' => e = .returned (.int .i64 3) ∧ w' = w) := hRd
            clear hRd
            go_wp2_with (first
            | (go_at_call 13
               rw [← hw1]
               refine Calls.mono (HR7.out w1) ?_
               rintro e w' ⟨rfl, hw'⟩
               rw [hw']
               clear hw' w' hw1)
            | (go_at_call 30
               have hguard := TX
               clear hguard
               refine Calls.mono (start_any d b x w1 HT1.out.dx) ?_
               rintro e w2 ⟨rfl, hd2', hk2⟩
               have HT2 : Hid (Two w w2 d b d2 b2 (startD x) y) := HT1.out.left hk2.db hd2'
               have TY : Hid (1 = 1) := rfl
               clear hd2' hk2 TX)
            | (go_at_call 30
               have hguard := TY
               clear hguard
               refine Calls.mono (start_any d2 b2 y w2 HT2.out.dy) ?_
               rintro e wt ⟨rfl, hd3, hk3⟩
               have HT : Hid (Two w wt d b d2 b2 (startD x) (startD y)) := HT2.out.right hk3.db hd3
               have HB : Hid (Bo (startD x) (startD y) (k + (j + 1))) := HR.out.2.2.start
               have TA : Hid (1 = 1) := rfl
               clear hd3 hk3 TY HT2)
            | (go_at_call 15
               have hguard := TA
               clear hguard
               refine Calls.mono (fallen_any d b (startD x) wt HT.out.dx) ?_
               rintro e w' ⟨rfl, hw'⟩
               rw [hw']
               have TB : Hid (1 = 1) := rfl
               clear hw' w' TA)
            | (go_at_call 15
               have hguard := TB
               clear hguard
               refine Calls.mono (fallen_any d2 b2 (startD y) wt HT.out.dy) ?_
               rintro e w' ⟨rfl, hw'⟩
               rw [hw', ← HB.out.al.fl]
               have TC : Hid (1 = 1) := rfl
               clear hw' w' TB)
            | (go_at_call 23
               have hguard := TC
               clear hguard
               obtain ⟨gI, hgI⟩ : ∃ gI, gI = wt.heap.size := ⟨_, rfl⟩
               have hIm := image_any d b (startD x) wt HT.out.dx HB.out.ox.fine
               rw [← hgI] at hIm
               refine Calls.mono hIm ?_
               rintro e wu ⟨rfl, hbu, hku⟩
               have HTu : Hid (Two w wu d b d2 b2 (startD x) (startD y)) := HT.out.no hku
               have HIu : Hid (Box wu gI 5 (u8s (flatN (startD x).N (startD x).c))) := hbu
               have TD : Hid (1 = 1) := rfl
               clear hIm hgI hbu hku TC)
            | (go_at_call 23
               have hguard := TD
               clear hguard
               obtain ⟨gJ, hgJ⟩ : ∃ gJ, gJ = wu.heap.size := ⟨_, rfl⟩
               have hIm := image_any d2 b2 (startD y) wu HTu.out.dy HB.out.oy.fine
               rw [← hgJ] at hIm
               refine Calls.mono hIm ?_
               rintro e wv ⟨rfl, hbv, hkv⟩
               have HTv : Hid (Two w wv d b d2 b2 (startD x) (startD y)) := HTu.out.no hkv
               have HIv : Hid (Box wv gI 5 (u8s (flatN (startD x).N (startD x).c))) := HIu.out.kept hkv (fun e => e)
               have HJv : Hid (Box wv gJ 5 (u8s (flatN (startD y).N (startD y).c))) := hbv
               have TE : Hid (1 = 1) := rfl
               clear hIm hgJ hbv hkv TD HTu HIu)
            | (go_at_call 14
               have hguard := TE
               clear hguard
               have he : flatN (startD x).N (startD x).c = flatN (startD y).N (startD y).c := by rw [HB.out.al.N, HB.out.al.c]
               refine Calls.mono (same_any (some ⟨gI, 0, none⟩) (some ⟨gJ, 0, none⟩) _ _ _ _ _ _ wv HIv.out.all HJv.out.all (flatN_u8 HB.out.ox.u8 _) (flatN_u8 HB.out.oy.u8 _) (flatN_len _ HB.out.ox.fine.len _) (flatN_len _ HB.out.oy.fine.len _)) ?_
               rintro e w' ⟨rfl, hw'⟩
               rw [hw', decide_eq_true he]
               clear hw' w' he TE))
            go_roundw
            case rel => exact ⟨j + 1, by go_num, startD x, startD y, by omega, HTv.out, HB.out⟩
            case measure => simp [intOf]; omega
          · by_cases h2 : r7 = 2
            · subst h2
              have HR7 : Hid (∀ w : World, Calls Try.prog 13 #[.int .i64 it.k, .int .i64 7] w fun e w' => e = .returned (.int .i64 2) ∧ w' = w) := hRd
              clear hRd h3
              go_wp2_with (first
            | (go_at_call 13
               rw [← hw1]
               refine Calls.mono (HR7.out w1) ?_
               rintro e w' ⟨rfl, hw'⟩
               rw [hw']
               clear hw' w' hw1)
            | (go_at_call 29
               have hguard := TX
               clear hguard
               refine Calls.mono (arm_all d b x it.n it.m w1 HT1.out.dx) ?_
               rintro e w2 ⟨rfl, hd2', hk2⟩
               have HT2 : Hid (Two w w2 d b d2 b2 (armD x it.n it.m) y) := HT1.out.left hk2.db hd2'
               have s0 := (HS1.out.kept hk2 (fun e => HGS.out.1 e)).cell 0
               have s1 := (HS1.out.kept hk2 (fun e => HGS.out.1 e)).cell 1
               have s2 := (HS1.out.kept hk2 (fun e => HGS.out.1 e)).cell 2
               simp only [List.getElem?_toArray, List.getElem?_cons_zero, List.getElem?_cons_succ] at s0 s1 s2
               have TY : Hid (1 = 1) := rfl
               clear hd2' hk2 TX)
            | (go_at_call 29
               have hguard := TY
               clear hguard
               refine Calls.mono (arm_all d2 b2 y it.n it.m w2 HT2.out.dy) ?_
               rintro e wt ⟨rfl, hd3, hk3⟩
               have HT : Hid (Two w wt d b d2 b2 (armD x it.n it.m) (armD y it.n it.m)) := HT2.out.right hk3.db hd3
               have HB : Hid (Bo (armD x it.n it.m) (armD y it.n it.m) (k + (j + 1))) := HR.out.2.2.arm it.n it.m HO.out.inn.2
               have TA : Hid (1 = 1) := rfl
               clear hd3 hk3 TY HT2)
            | (go_at_call 15
               have hguard := TA
               clear hguard
               refine Calls.mono (fallen_any d b (armD x it.n it.m) wt HT.out.dx) ?_
               rintro e w' ⟨rfl, hw'⟩
               rw [hw']
               have TB : Hid (1 = 1) := rfl
               clear hw' w' TA)
            | (go_at_call 15
               have hguard := TB
               clear hguard
               refine Calls.mono (fallen_any d2 b2 (armD y it.n it.m) wt HT.out.dy) ?_
               rintro e w' ⟨rfl, hw'⟩
               rw [hw', ← HB.out.al.fl]
               have TC : Hid (1 = 1) := rfl
               clear hw' w' TB)
            | (go_at_call 23
               have hguard := TC
               clear hguard
               obtain ⟨gI, hgI⟩ : ∃ gI, gI = wt.heap.size := ⟨_, rfl⟩
               have hIm := image_any d b (armD x it.n it.m) wt HT.out.dx HB.out.ox.fine
               rw [← hgI] at hIm
               refine Calls.mono hIm ?_
               rintro e wu ⟨rfl, hbu, hku⟩
               have HTu : Hid (Two w wu d b d2 b2 (armD x it.n it.m) (armD y it.n it.m)) := HT.out.no hku
               have HIu : Hid (Box wu gI 5 (u8s (flatN (armD x it.n it.m).N (armD x it.n it.m).c))) := hbu
               have TD : Hid (1 = 1) := rfl
               clear hIm hgI hbu hku TC)
            | (go_at_call 23
               have hguard := TD
               clear hguard
               obtain ⟨gJ, hgJ⟩ : ∃ gJ, gJ = wu.heap.size := ⟨_, rfl⟩
               have hIm := image_any d2 b2 (armD y it.n it.m) wu HTu.out.dy HB.out.oy.fine
               rw [← hgJ] at hIm
               refine Calls.mono hIm ?_
               rintro e wv ⟨rfl, hbv, hkv⟩
               have HTv : Hid (Two w wv d b d2 b2 (armD x it.n it.m) (armD y it.n it.m)) := HTu.out.no hkv
               have HIv : Hid (Box wv gI 5 (u8s (flatN (armD x it.n it.m).N (armD x it.n it.m).c))) := HIu.out.kept hkv (fun e => e)
               have HJv : Hid (Box wv gJ 5 (u8s (flatN (armD y it.n it.m).N (armD y it.n it.m).c))) := hbv
               have TE : Hid (1 = 1) := rfl
               clear hIm hgJ hbv hkv TD HTu HIu)
            | (go_at_call 14
               have hguard := TE
               clear hguard
               have he : flatN (armD x it.n it.m).N (armD x it.n it.m).c = flatN (armD y it.n it.m).N (armD y it.n it.m).c := by rw [HB.out.al.N, HB.out.al.c]
               refine Calls.mono (same_any (some ⟨gI, 0, none⟩) (some ⟨gJ, 0, none⟩) _ _ _ _ _ _ wv HIv.out.all HJv.out.all (flatN_u8 HB.out.ox.u8 _) (flatN_u8 HB.out.oy.u8 _) (flatN_len _ HB.out.ox.fine.len _) (flatN_len _ HB.out.oy.fine.len _)) ?_
               rintro e w' ⟨rfl, hw'⟩
               rw [hw', decide_eq_true he]
               clear hw' w' he TE))
              go_roundw
              case rel => exact ⟨j + 1, by go_num, armD x it.n it.m, armD y it.n it.m, by omega, HTv.out, HB.out⟩
              case measure => simp [intOf]; omega
            · by_cases h1 : r7 = 1
              · subst h1
                have HR7 : Hid (∀ w : World, Calls Try.prog 13 #[.int .i64 it.k, .int .i64 7] w fun e w' => e = .returned (.int .i64 1) ∧ w' = w) := hRd
                clear hRd h2 h3
                go_wp2_with (go_at_call 13
                             rw [← hw1]
                             refine Calls.mono (HR7.out w1) ?_
                             rintro e w' ⟨rfl, hw'⟩
                             rw [hw']
                             clear hw' w' hw1)
                have HTd : Hid (Two w w1.drew d b d2 b2 x y) := HT1.out.no ((Kept.refl No w1).drew)
                have HSd : Hid (Box w1.drew wr.heap.size 53 #[.int .i64 it.k, .int .i64 it.n, .int .i64 it.m, .slice it.a it.l it.c]) := HS1.out
                have HQd : Hid (Nums .u8 w1.drew it.a it.bs) := HO.out.nums.no HTd.out.kept
                clear q0 q1 q2 q3 s0 s2
                go_region_held3 (fun w' => w'.cell? ⟨wr.heap.size, 1, none⟩ = some (.int .i64 it.n) ∧ w'.cell? ⟨wr.heap.size, 3, none⟩ = some (.slice it.a it.l it.c)) (go_keep) (first
                  | (go_at_call 25
                     have hguard := TX
                     clear hguard
                     refine Calls.mono (write_all d b it.n it.a it.l it.c it.bs x w1.drew HTd.out.dx HR.out.2.2.ox HQd.out HO.out.len HO.out.cap HO.out.cap2) ?_
                     rintro e w2 ⟨rfl, hd2', hk2⟩
                     have HT2 : Hid (Two w w2 d b d2 b2 (wrD x it.n it.bs) y) := HTd.out.left hk2 hd2'
                     have HQ2 : Hid (Nums .u8 w2 it.a it.bs) := HQd.out.apart HTd.out.dx hk2
                     have HS2 : Hid (Box w2 wr.heap.size 53 #[.int .i64 it.k, .int .i64 it.n, .int .i64 it.m, .slice it.a it.l it.c]) := HSd.out.kept hk2 (fun e => HGS.out.2.1 e)
                     have t1 := HS2.out.cell 1
                     have t3 := HS2.out.cell 3
                     simp only [List.getElem?_toArray, List.getElem?_cons_zero, List.getElem?_cons_succ] at t1 t3
                     have TY : Hid (1 = 1) := rfl
                     clear hd2' hk2 TX)
                  | (go_at_call 25
                     have hguard := TY
                     clear hguard
                     refine Calls.mono (write_all d2 b2 it.n it.a it.l it.c it.bs y w2 HT2.out.dy HR.out.2.2.oy HQ2.out HO.out.len HO.out.cap HO.out.cap2) ?_
                     rintro e wt ⟨rfl, hd3, hk3⟩
                     rw [← HR.out.2.2.al.wrE]
                     have HT : Hid (Two w wt d b d2 b2 (wrD x it.n it.bs) (wrD y it.n it.bs)) := HT2.out.right hk3 hd3
                     have HB : Hid (Bo (wrD x it.n it.bs) (wrD y it.n it.bs) (k + (j + 1))) := HR.out.2.2.write it.n HO.out.u8 (by have := HK0.out; have := HR.out.1; have := HY.out.2.2.2; omega)
                     have u1 := (HS2.out.kept hk3 (fun e => HGS.out.2.2 e)).cell 1
                     have u3 := (HS2.out.kept hk3 (fun e => HGS.out.2.2 e)).cell 3
                     simp only [List.getElem?_toArray, List.getElem?_cons_zero, List.getElem?_cons_succ] at u1 u3
                     have TA : Hid (1 = 1) := rfl
                     clear hd3 hk3 TY))
                go_wp2_with (first
            | (go_at_call 15
               have hguard := TA
               clear hguard
               refine Calls.mono (fallen_any d b (wrD x it.n it.bs) wt HT.out.dx) ?_
               rintro e w' ⟨rfl, hw'⟩
               rw [hw']
               have TB : Hid (1 = 1) := rfl
               clear hw' w' TA)
            | (go_at_call 15
               have hguard := TB
               clear hguard
               refine Calls.mono (fallen_any d2 b2 (wrD y it.n it.bs) wt HT.out.dy) ?_
               rintro e w' ⟨rfl, hw'⟩
               rw [hw', ← HB.out.al.fl]
               have TC : Hid (1 = 1) := rfl
               clear hw' w' TB)
            | (go_at_call 23
               have hguard := TC
               clear hguard
               obtain ⟨gI, hgI⟩ : ∃ gI, gI = wt.heap.size := ⟨_, rfl⟩
               have hIm := image_any d b (wrD x it.n it.bs) wt HT.out.dx HB.out.ox.fine
               rw [← hgI] at hIm
               refine Calls.mono hIm ?_
               rintro e wu ⟨rfl, hbu, hku⟩
               have HTu : Hid (Two w wu d b d2 b2 (wrD x it.n it.bs) (wrD y it.n it.bs)) := HT.out.no hku
               have HIu : Hid (Box wu gI 5 (u8s (flatN (wrD x it.n it.bs).N (wrD x it.n it.bs).c))) := hbu
               have TD : Hid (1 = 1) := rfl
               clear hIm hgI hbu hku TC)
            | (go_at_call 23
               have hguard := TD
               clear hguard
               obtain ⟨gJ, hgJ⟩ : ∃ gJ, gJ = wu.heap.size := ⟨_, rfl⟩
               have hIm := image_any d2 b2 (wrD y it.n it.bs) wu HTu.out.dy HB.out.oy.fine
               rw [← hgJ] at hIm
               refine Calls.mono hIm ?_
               rintro e wv ⟨rfl, hbv, hkv⟩
               have HTv : Hid (Two w wv d b d2 b2 (wrD x it.n it.bs) (wrD y it.n it.bs)) := HTu.out.no hkv
               have HIv : Hid (Box wv gI 5 (u8s (flatN (wrD x it.n it.bs).N (wrD x it.n it.bs).c))) := HIu.out.kept hkv (fun e => e)
               have HJv : Hid (Box wv gJ 5 (u8s (flatN (wrD y it.n it.bs).N (wrD y it.n it.bs).c))) := hbv
               have TE : Hid (1 = 1) := rfl
               clear hIm hgJ hbv hkv TD HTu HIu)
            | (go_at_call 14
               have hguard := TE
               clear hguard
               have he : flatN (wrD x it.n it.bs).N (wrD x it.n it.bs).c = flatN (wrD y it.n it.bs).N (wrD y it.n it.bs).c := by rw [HB.out.al.N, HB.out.al.c]
               refine Calls.mono (same_any (some ⟨gI, 0, none⟩) (some ⟨gJ, 0, none⟩) _ _ _ _ _ _ wv HIv.out.all HJv.out.all (flatN_u8 HB.out.ox.u8 _) (flatN_u8 HB.out.oy.u8 _) (flatN_len _ HB.out.ox.fine.len _) (flatN_len _ HB.out.oy.fine.len _)) ?_
               rintro e w' ⟨rfl, hw'⟩
               rw [hw', decide_eq_true he]
               clear hw' w' he TE))
                go_roundw
                case rel => exact ⟨j + 1, by go_num, wrD x it.n it.bs, wrD y it.n it.bs, by omega, HTv.out, HB.out⟩
                case measure => simp [intOf]; omega
              · have e3 : ((r7 : Int) == 3) = false := by simp; omega
                have e2 : ((r7 : Int) == 2) = false := by simp; omega
                have e1 : ((r7 : Int) == 1) = false := by simp; omega
                have HR7 : Hid _ := hRd
                clear hRd h1 h2 h3
                go_wp2_with (first
            | (go_at_call 13
               rw [← hw1]
               refine Calls.mono (HR7.out w1) ?_
               rintro e w' ⟨rfl, hw'⟩
               rw [hw']
               clear hw' w' hw1)
            | (go_at_call 12
               have hguard := TX
               clear hguard
               refine Calls.mono (read_all d b it.n x w1 HT1.out.dx HR.out.2.2.ox) ?_
               rintro e w2 ⟨a2, m2, bs2, rfl, hn2, hl2, hbs2, hat2, hd2', hk2⟩
               have HT2 : Hid (Two w w2 d b d2 b2 (rdD x it.n) y) := HT1.out.left hk2.db hd2'
               have HN2 : Hid (Nums .u8 w2 a2 bs2 ∧ bs2.length = m2 ∧ bs2 = (if refE x it.n = 0 then x.c it.n.toNat else [])) := ⟨hn2, hl2, hbs2⟩
               have HA2 : Hid (∀ q, At a2 q → w1.heap.size ≤ q) := hat2
               have s0 := (HS1.out.kept hk2 (fun e => HGS.out.1 e)).cell 0
               have s1 := (HS1.out.kept hk2 (fun e => HGS.out.1 e)).cell 1
               simp only [List.getElem?_toArray, List.getElem?_cons_zero, List.getElem?_cons_succ] at s0 s1
               have TY : Hid (1 = 1) := rfl
               clear hd2' hk2 TX hn2 hl2 hbs2 hat2)
            | (go_at_call 12
               have hguard := TY
               clear hguard
               refine Calls.mono (read_all d2 b2 it.n y w2 HT2.out.dy HR.out.2.2.oy) ?_
               rintro e wt ⟨a3, m3, bs3, rfl, hn3, hl3, hbs3, hat3, hd3, hk3⟩
               rw [← HR.out.2.2.al.refE]
               have HT : Hid (Two w wt d b d2 b2 (rdD x it.n) (rdD y it.n)) := HT2.out.right hk3.db hd3
               have HB : Hid (Bo (rdD x it.n) (rdD y it.n) (k + (j + 1))) := HR.out.2.2.read it.n (by have := HK0.out; have := HR.out.1; have := HY.out.2.2.2; omega)
               have hb23 : bs2 = bs3 := by rw [HN2.out.2.2, hbs3, HR.out.2.2.al.refE, HR.out.2.2.al.c]
               have HN3 : Hid (Nums .u8 wt a2 bs2 ∧ Nums .u8 wt a3 bs3 ∧ bs2.length = m2 ∧ bs3.length = m3 ∧ bs2 = bs3 ∧ U8 bs2) := by
                 refine ⟨HN2.out.1.kept hk3 (fun g off e eo => ?_), hn3, HN2.out.2.1, hl3, hb23, ?_⟩
                 · have h1 := HA2.out g ⟨_, e, rfl⟩
                   have h2 : g = d2 := eo
                   have h3 := HT1.out.dy.ltd
                   omega
                 · rw [HN2.out.2.2]
                   split
                   · exact HR.out.2.2.ox.u8 _
                   · exact fun i => by simp
               have TZ : Hid (1 = 1) := rfl
               clear hd3 hk3 TY HT2 HN2 HA2 hn3 hl3 hbs3 hat3 hb23)
            | (go_at_call 14
               have hguard := TZ
               clear hguard
               refine Calls.mono (same_any a2 a3 m2 m3 m2 m3 bs2 bs3 wt HN3.out.1 HN3.out.2.1 HN3.out.2.2.2.2.2 (HN3.out.2.2.2.2.1 ▸ HN3.out.2.2.2.2.2) HN3.out.2.2.1 HN3.out.2.2.2.1) ?_
               rintro e w' ⟨rfl, hw'⟩
               rw [hw', decide_eq_true HN3.out.2.2.2.2.1]
               have TA : Hid (1 = 1) := rfl
               clear hw' w' TZ)
            | (go_at_call 15
               have hguard := TA
               clear hguard
               refine Calls.mono (fallen_any d b (rdD x it.n) wt HT.out.dx) ?_
               rintro e w' ⟨rfl, hw'⟩
               rw [hw']
               have TB : Hid (1 = 1) := rfl
               clear hw' w' TA)
            | (go_at_call 15
               have hguard := TB
               clear hguard
               refine Calls.mono (fallen_any d2 b2 (rdD y it.n) wt HT.out.dy) ?_
               rintro e w' ⟨rfl, hw'⟩
               rw [hw', ← HB.out.al.fl]
               have TC : Hid (1 = 1) := rfl
               clear hw' w' TB)
            | (go_at_call 23
               have hguard := TC
               clear hguard
               obtain ⟨gI, hgI⟩ : ∃ gI, gI = wt.heap.size := ⟨_, rfl⟩
               have hIm := image_any d b (rdD x it.n) wt HT.out.dx HB.out.ox.fine
               rw [← hgI] at hIm
               refine Calls.mono hIm ?_
               rintro e wu ⟨rfl, hbu, hku⟩
               have HTu : Hid (Two w wu d b d2 b2 (rdD x it.n) (rdD y it.n)) := HT.out.no hku
               have HIu : Hid (Box wu gI 5 (u8s (flatN (rdD x it.n).N (rdD x it.n).c))) := hbu
               have TD : Hid (1 = 1) := rfl
               clear hIm hgI hbu hku TC)
            | (go_at_call 23
               have hguard := TD
               clear hguard
               obtain ⟨gJ, hgJ⟩ : ∃ gJ, gJ = wu.heap.size := ⟨_, rfl⟩
               have hIm := image_any d2 b2 (rdD y it.n) wu HTu.out.dy HB.out.oy.fine
               rw [← hgJ] at hIm
               refine Calls.mono hIm ?_
               rintro e wv ⟨rfl, hbv, hkv⟩
               have HTv : Hid (Two w wv d b d2 b2 (rdD x it.n) (rdD y it.n)) := HTu.out.no hkv
               have HIv : Hid (Box wv gI 5 (u8s (flatN (rdD x it.n).N (rdD x it.n).c))) := HIu.out.kept hkv (fun e => e)
               have HJv : Hid (Box wv gJ 5 (u8s (flatN (rdD y it.n).N (rdD y it.n).c))) := hbv
               have TE : Hid (1 = 1) := rfl
               clear hIm hgJ hbv hkv TD HTu HIu)
            | (go_at_call 14
               have hguard := TE
               clear hguard
               have he : flatN (rdD x it.n).N (rdD x it.n).c = flatN (rdD y it.n).N (rdD y it.n).c := by rw [HB.out.al.N, HB.out.al.c]
               refine Calls.mono (same_any (some ⟨gI, 0, none⟩) (some ⟨gJ, 0, none⟩) _ _ _ _ _ _ wv HIv.out.all HJv.out.all (flatN_u8 HB.out.ox.u8 _) (flatN_u8 HB.out.oy.u8 _) (flatN_len _ HB.out.ox.fine.len _) (flatN_len _ HB.out.oy.fine.len _)) ?_
               rintro e w' ⟨rfl, hw'⟩
               rw [hw', decide_eq_true he]
               clear hw' w' he TE))
                go_roundw
                case rel => exact ⟨j + 1, by go_num, rdD x it.n, rdD y it.n, by omega, HTv.out, HB.out⟩
                case measure => simp [intOf]; omega
        · go_wp2
          go_ret
          exact ⟨rfl, HR.out.2.1.kept⟩

end Go.Proofs.Ytppkjebiiheljaa
