import Derived.Test.YtpabpeppgpeaoaaXa
namespace Go.Proofs.Ytpabpeppgpeaoaa.Md
open Go.RowKit Gt
set_option linter.unusedVariables false
set_option linter.unusedSimpArgs false

open Gx in
/-- Lists of messages: their marks, what is put behind. -/
def DM : Gx.Kn Mg where
  E := 47
  R := 66
  c := 30
  cs := Mg.cs
  mm := fun i j => ⟨((500 + i : Nat) : Int), adZ, adZ, ((j : Nat) : Int), 0, kyZ, spZ, spZ, slZ, cZ, bvZ, slZ, false⟩
  mr := fun i j => ⟨((900 + i : Nat) : Int), adZ, adZ, ((j : Nat) : Int), 0, kyZ, spZ, spZ, slZ, cZ, bvZ, slZ, false⟩
  hc := fun _ => rfl
  h0 := by decide
  ne := by decide
theorem E107 : Try.prog.underlying 107 = some (.slice (Try.prog.elem 107)) := by kernel_rfl
theorem F107 : (Try.prog.info? (Try.prog.elem 107)).map (·.size) = some 1 := by kernel_rfl
theorem U107 : Try.prog.underlying 107 = some (.slice 66) := by kernel_rfl
theorem I66 : (Try.prog.info? 66).map (fun i => (i.zero, i.size, i.bytes)) = some (some (.slice none 0 0), 1, 24) := by kernel_rfl
namespace Gx
theorem Gz.newAt {w wr : World} {base lo : Nat} {ra : Option Addr} {rc : Nat} {K : List Sl} {ma : Option Addr} {mc : Nat} {M : List Sl} {c : Nat → Nat} (h : Gz DM w wr base lo ra rc K ma mc M c) {i : Nat} {e f : Sl} (he : K[i]? = some e) (hf : M[i]? = some f) {g k : Nat} (ha : f.a = some ⟨g, 0, none⟩) {x : Mg} (hx : (marksOf DM i e.l ++ growsOf DM i (c i))[k]? = some x) : ∀ (j : Nat) v, (Mg.cs x)[j]? = some v → wr.cell? ⟨g, 0 + k * 30 + j, none⟩ = some v := by
  have h3 := (h.each i e f he hf).2.2.1
  rw [ha] at h3
  exact OwG.at h3 hx
theorem Gz.oldAt {w wr : World} {base lo : Nat} {ra : Option Addr} {rc : Nat} {K : List Sl} {ma : Option Addr} {mc : Nat} {M : List Sl} {c : Nat → Nat} (h : Gz DM w wr base lo ra rc K ma mc M c) {i : Nat} {e f : Sl} (he : K[i]? = some e) (hf : M[i]? = some f) {g k : Nat} (ha : e.a = some ⟨g, 0, none⟩) (hk : k < e.l) : ∀ (j : Nat) v, (Mg.cs (DM.mm i k))[j]? = some v → wr.cell? ⟨g, 0 + k * 30 + j, none⟩ = some v := by
  have h3 := (h.each i e f he hf).2.1
  rw [ha] at h3
  exact OwG.at h3 (marksOf_at hk)
theorem mark_lo {i l c k : Nat} (h : k < l) : (marksOf DM i l ++ growsOf DM i c)[k]? = some (DM.mm i k) := by
  rw [List.getElem?_append_left (by rw [marksOf_len]; exact h)]; exact marksOf_at h
theorem mark_hi {i l c k : Nat} (h : l ≤ k) (h2 : k < l + c) : (marksOf DM i l ++ growsOf DM i c)[k]? = some (DM.mr i (k - l)) := by
  rw [List.getElem?_append_right (by rw [marksOf_len]; exact h), marksOf_len]; exact growsOf_at (by omega)
end Gx
open Gx
set_option maxRecDepth 100000 in
set_option maxHeartbeats 4000000 in
theorem grownM_any (rg rc n base lo : Nat) (K : List Sl) (Z : Nat → List Mg) (w : World) (hn : K.length = n) (h0 : 0 < n) (h9 : n ≤ 1000) (hR : Rw DM w base (some ⟨rg, 0, none⟩) rc K) (hE : Erow DM w lo K Z) (hlo : lo ≤ w.heap.size) : Calls Try.prog 49 #[.slice (some ⟨rg, 0, none⟩) n rc] w (fun e w' => e = .returned (.bool true) ∧ Kept (EB K) w w') := by
  obtain ⟨C, hC⟩ : ∃ C : Ending → World → Prop, C = (fun e w' => e = .returned (.bool true) ∧ Kept (EB K) w w') := ⟨_, rfl⟩
  have HC : Hid (C = (fun e w' => e = .returned (.bool true) ∧ Kept (EB K) w w')) := hC
  rw [← hC]
  clear hC
  have HR : Hid (Rw DM w base (some ⟨rg, 0, none⟩) rc K) := hR
  have HE : Hid (Erow DM w lo K Z) := hE
  have hrgl : rg < w.heap.size := Own.lt hR ⟨_, rfl, rfl⟩
  have getK : ∀ i, i < n → ∃ e, K[i]? = some e := fun i hi => ⟨_, List.getElem?_eq_getElem (by rw [hn]; exact hi)⟩
  clear hR hE
  go_enter Try.func49, Try.ntmps49
  go_upto_region 0 with fail
  refine WL.start <| uK (.bool false) <| WL.nil <| ?_
  try simp only [pS]
  go_upto_region 1 with fail
  refine WL.start <| uK (.int .i64 0) <| WL.nil <| ?_
  try simp only [pS]
  go_wp2
  go_loopw [3, 4] (fun v3 v4 wr => ∃ (i : Nat), v3 = .int .i64 ((i : Nat) : Int) ∧ i ≤ n ∧ Hid (Ph1 DM w wr base lo (some ⟨rg, 0, none⟩) rc K i)) (fun i _ _ => n - (intOf i).toNat)
  case atStart => exact ⟨0, by go_num, by omega, ⟨HR.out, Kept.refl _ _, Z, HE.out, fun q hq => absurd hq (Nat.not_lt_zero _)⟩⟩
  case round =>
    obtain ⟨i, rfl, hi, HP⟩ := hrel
    by_cases hlt : i < n
    · obtain ⟨e, he⟩ := getK i hlt
      have hel : e.l ≤ 2000000 := by obtain ⟨_, _, Z', hz, _⟩ := HP.out; exact (hz.ok i e he).2.2
      have HJ : Hid (Ph1j DM w wr base lo (some ⟨rg, 0, none⟩) rc K i 0) := HP.out.inner
      clear HP
      go_upto_region 2 with fail
      refine WL.start <| uK (.int .i64 ((i : Nat) : Int)) <| uK (.slice (some ⟨rg, 0, none⟩) n rc) <| uK (.int .i64 ((n : Nat) : Int)) <| uB .lss 3 (.int .i64 ((i : Nat) : Int)) (.int .i64 ((n : Nat) : Int)) (.bool true) (by rw [b_lss, decide_eq_true (by omega)]) <| WL.nil <| ?_
      try simp only [pS]
      go_upto_region 4 with fail
      refine WL.start <| uK (.int .i64 0) <| WL.nil <| ?_
      try simp only [pS]
      go_wp2
      go_loopw [4] (fun v4 wr => ∃ (j : Nat), v4 = .int .i64 ((j : Nat) : Int) ∧ j ≤ e.l ∧ Hid (Ph1j DM w wr base lo (some ⟨rg, 0, none⟩) rc K i j)) (fun j _ => e.l - (intOf j).toNat)
      case atStart => exact ⟨0, by go_num, by omega, HJ⟩
      case round =>
        clear HJ
        obtain ⟨j, rfl, hj, HJ⟩ := hrel
        by_cases hlj : j < e.l
        · obtain ⟨ge, hea⟩ := HJ.out.sm he hlj
          have hev : e.v = .slice (some ⟨ge, 0, none⟩) e.l e.k := by unfold Sl.v; rw [hea]
          obtain ⟨cs1, hst, hJ2⟩ := HJ.out.set he hlj hea (v := .agg (Mg.cells (DM.mm i j))) rfl S47 (Mg.oneL _)
          have hst : (storeVar 47 ⟨ge, 0 + j * 30, none⟩ (.agg (Mg.cells (DM.mm i j)))).run Try.prog wr = .ok () (wr.setRow ge cs1) := hst
          have HJ2 : Hid (Ph1j DM w (wr.setRow ge cs1) base lo (some ⟨rg, 0, none⟩) rc K i (j + 1)) := hJ2
          clear hJ2
          go_upto_region 5 with fail
          refine WL.start <| uK (.int .i64 ((j : Nat) : Int)) <| uK (.slice (some ⟨rg, 0, none⟩) n rc) <| uK (.int .i64 ((i : Nat) : Int)) <| uW (pV rg (0 + i * 1)) (exec_ixA 107 1 E107 F107 _ _ rfl rg 0 n rc i (by kernel_rfl) (by kernel_rfl) (by omega)) <| uL 66 ⟨rg, 0 + i * 1, none⟩ (e.v) (load_one (HJ.out.rowAt he) U66 rfl) <| uK (.int .i64 ((e.l : Nat) : Int)) <| uB .lss 3 (.int .i64 ((j : Nat) : Int)) (.int .i64 ((e.l : Nat) : Int)) (.bool true) (by rw [b_lss, decide_eq_true (by omega)]) <| WL.nil <| ?_
          try simp only [pS]
          go_upto_region 7 with fail
          refine WL.start <| uK (.slice (some ⟨rg, 0, none⟩) n rc) <| uK (.int .i64 ((i : Nat) : Int)) <| uW (pV rg (0 + i * 1)) (exec_ixA 107 1 E107 F107 _ _ rfl rg 0 n rc i (by kernel_rfl) (by kernel_rfl) (by omega)) <| uL 66 ⟨rg, 0 + i * 1, none⟩ (e.v) (load_one (HJ.out.rowAt he) U66 rfl) <| uK (.int .i64 ((j : Nat) : Int)) <| uK (.int .i64 ((i : Nat) : Int)) <| uB .add 3 (.int .i64 500) (.int .i64 ((i : Nat) : Int)) (.int .i64 ((500 + i : Nat) : Int)) (b_addw _ _ _ (by rw [IntKind.wrap_i64]; omega) _) <| ?_
          try simp only [pS]
          refine uK (.int .i64 ((j : Nat) : Int)) <| uW (.agg (Mg.cells ⟨((500 + i : Nat) : Int), adZ, adZ, ((j : Nat) : Int), 0, kyZ, spZ, spZ, slZ, cZ, bvZ, slZ, false⟩)) (exec_build 47 _ rfl (Mg.cells ⟨((500 + i : Nat) : Int), adZ, adZ, ((j : Nat) : Int), 0, kyZ, spZ, spZ, slZ, cZ, bvZ, slZ, false⟩) (by kernel_rfl)) <| uW (pV ge (0 + j * 30)) (exec_ixA 66 30 E66 F66 _ _ rfl ge 0 e.l e.k j (Eq.trans (b := e.v) (by kernel_rfl) hev) (by kernel_rfl) (by omega)) <| ?_
          try simp only [pS]
          refine uT 47 ⟨ge, 0 + j * 30, none⟩ (.agg (Mg.cells ⟨((500 + i : Nat) : Int), adZ, adZ, ((j : Nat) : Int), 0, kyZ, spZ, spZ, slZ, cZ, bvZ, slZ, false⟩)) (wr.setRow ge cs1) hst ?_
          try simp only [pS]
          refine WL.nil ?_
          try simp only [pS]
          go_upto_region 6 with fail
          refine WL.start <| uK (.int .i64 ((j : Nat) : Int)) <| uB .add 3 (.int .i64 ((j : Nat) : Int)) (.int .i64 1) (.int .i64 (((j + 1) : Nat) : Int)) (b_addw _ _ _ (by rw [IntKind.wrap_i64]; omega) _) <| uK (.int .i64 (((j + 1) : Nat) : Int)) <| WL.nil <| ?_
          try simp only [pS]
          go_wp2
          go_roundw
          case rel => exact ⟨j + 1, by go_num, by omega, HJ2⟩
          case measure => simp [intOf]; omega
        · obtain rfl : j = e.l := by omega
          have HP : Hid (Ph1 DM w wr base lo (some ⟨rg, 0, none⟩) rc K (i + 1)) := HJ.out.outer he
          go_upto_region 5 with fail
          refine WL.start <| uK (.int .i64 ((e.l : Nat) : Int)) <| uK (.slice (some ⟨rg, 0, none⟩) n rc) <| uK (.int .i64 ((i : Nat) : Int)) <| uW (pV rg (0 + i * 1)) (exec_ixA 107 1 E107 F107 _ _ rfl rg 0 n rc i (by kernel_rfl) (by kernel_rfl) (by omega)) <| uL 66 ⟨rg, 0 + i * 1, none⟩ (e.v) (load_one (HJ.out.rowAt he) U66 rfl) <| uK (.int .i64 ((e.l : Nat) : Int)) <| uB .lss 3 (.int .i64 ((e.l : Nat) : Int)) (.int .i64 ((e.l : Nat) : Int)) (.bool false) (by rw [b_lss, decide_eq_false (by omega)]) <| WL.nil <| ?_
          try simp only [pS]
          go_upto_region 3 with fail
          refine WL.start <| uK (.int .i64 ((i : Nat) : Int)) <| uB .add 3 (.int .i64 ((i : Nat) : Int)) (.int .i64 1) (.int .i64 (((i + 1) : Nat) : Int)) (b_addw _ _ _ (by rw [IntKind.wrap_i64]; omega) _) <| uK (.int .i64 (((i + 1) : Nat) : Int)) <| WL.nil <| ?_
          try simp only [pS]
          go_wp2
          go_roundw
          case rel => exact ⟨i + 1, by go_num, by omega, HP⟩
          case measure => simp [intOf]; omega
    · obtain rfl : n = i := by omega
      go_upto_region 2 with fail
      refine WL.start <| uK (.int .i64 ((n : Nat) : Int)) <| uK (.slice (some ⟨rg, 0, none⟩) n rc) <| uK (.int .i64 ((n : Nat) : Int)) <| uB .lss 3 (.int .i64 ((n : Nat) : Int)) (.int .i64 ((n : Nat) : Int)) (.bool false) (by rw [b_lss, decide_eq_false (by omega)]) <| WL.nil <| ?_
      try simp only [pS]
      go_upto_region 8 with fail
      refine WL.start <| uK (.slice none 0 0) <| WL.nil <| ?_
      try simp only [pS]
      obtain ⟨ma, mc, w5, hap0, hm, hk0, _⟩ := run_appN (w := wr) 107 107 66 1 24 (.slice none 0 0) U107 I66 rfl (by omega) wr.heap.size 0 0 none [] (Own.nil _ _ _ _) (some ⟨rg, 0, none⟩) n rc (K.map Sl.v) (by simp [hn]) (fun e => by cases e) (fun j u hj => ⟨_, rfl, World.ownsRow.cells HP.out.row (by rfl) j u hj⟩) (by intro u hu; obtain ⟨s, _, rfl⟩ := List.mem_map.1 hu; rfl) (by omega) (by omega) (Nat.le_refl _)
      rw [Nat.zero_add] at hap0 hm
      have hk0 : Kept No wr w5 := hk0.mono (fun k _ e => by obtain ⟨_, h, _⟩ := e; cases h)
      obtain ⟨mg, rfl⟩ := Own.sm hm h0
      have hm : Own 66 1 w5 wr.heap.size (some ⟨mg, 0, none⟩) mc K.length (K.map Sl.v) := by rw [hn]; exact hm
      have HZ : Hid (Gz DM w w5 base lo (some ⟨rg, 0, none⟩) rc K (some ⟨mg, 0, none⟩) mc K (fun _ => 0)) := Gz.start HP.out hn ⟨Z, HE.out⟩ (fun k e => by obtain ⟨_, h, rfl⟩ := e; cases h; exact hrgl) hm hk0
      clear hm hk0 HP
      go_upto_region 9 with fail
      refine WL.start <| uK (.slice none 0 0) <| uK (.slice (some ⟨rg, 0, none⟩) n rc) <| ?_
      try simp only [pS]
      refine uR (.slice (some ⟨mg, 0, none⟩) n mc) w5 (exec_appN _ _ 107 107 rfl _ _ (by kernel_rfl) (by kernel_rfl) hap0) ?_
      try simp only [pS]
      refine uK (.slice (some ⟨mg, 0, none⟩) n mc) <| WL.nil <| ?_
      try simp only [pS]
      go_upto_region 10 with fail
      refine WL.start <| uK (.int .i64 0) <| WL.nil <| ?_
      try simp only [pS]
      go_wp2
      go_loopw [6, 7] (fun v6 v7 wr => ∃ (k : Nat) (M : List Sl) (c : Nat → Nat), v6 = .int .i64 ((k : Nat) : Int) ∧ k ≤ 40 ∧ Hid (Gz DM w wr base lo (some ⟨rg, 0, none⟩) rc K (some ⟨mg, 0, none⟩) mc M c) ∧ Hid (∀ q, c q = k)) (fun i _ _ => 40 - (intOf i).toNat)
      case atStart => exact ⟨0, _, _, by go_num, by omega, HZ, show ∀ q : Nat, 0 = 0 from fun _ => rfl⟩
      case round =>
        clear HZ hap0
        obtain ⟨k, M, c, rfl, hk, HZ, HC40⟩ := hrel
        by_cases hlk : k < 40
        · skip
          go_upto_region 11 with fail
          refine WL.start <| uK (.int .i64 ((k : Nat) : Int)) <| uB .lss 3 (.int .i64 ((k : Nat) : Int)) (.int .i64 40) (.bool true) (by rw [b_lss, decide_eq_true (by omega)]) <| WL.nil <| ?_
          try simp only [pS]
          go_upto_region 13 with fail
          refine WL.start <| uK (.int .i64 0) <| WL.nil <| ?_
          try simp only [pS]
          go_wp2
          go_loopw [7] (fun v7 wr => ∃ (i : Nat) (M : List Sl) (c : Nat → Nat), v7 = .int .i64 ((i : Nat) : Int) ∧ i ≤ n ∧ Hid (Gz DM w wr base lo (some ⟨rg, 0, none⟩) rc K (some ⟨mg, 0, none⟩) mc M c) ∧ Hid (∀ q, c q = if q < i then k + 1 else k)) (fun i _ => n - (intOf i).toNat)
          case atStart => exact ⟨0, M, c, by go_num, by omega, HZ, show ∀ q, c q = if q < 0 then k + 1 else k from fun q => by rw [if_neg (Nat.not_lt_zero q)]; exact HC40.out q⟩
          case round =>
            clear HZ HC40
            obtain ⟨i, M, c, rfl, hi, HZ, HCi⟩ := hrel
            by_cases hlt : i < n
            · obtain ⟨e, he⟩ := getK i hlt
              obtain ⟨f, hf⟩ : ∃ f, M[i]? = some f := ⟨_, List.getElem?_eq_getElem (by rw [HZ.out.len, hn]; exact hlt)⟩
              have hck : c i = k := by rw [HCi.out i, if_neg (Nat.lt_irrefl i)]
              obtain ⟨a4, c4, w4, cs4, hap, hst, hZ2⟩ := HZ.out.grow he hf U66 I47 rfl (Mg.oneL _) (by decide) (by omega) (Nat.le_trans hlo HZ.out.kept.size) S66
              rw [hck] at hap
              have hap : (Builtin.append_ #[66, 66] 66 #[.slice f.a f.l f.k, .slice (some ⟨wr.heap.size, 0, none⟩) 1 1]).run Try.prog (wr.alloc (.cells (Mg.cells (DM.mr i k)) 47)) = .ok (.slice a4 (f.l + 1) c4) w4 := hap
              have hst : (storeVar 66 ⟨mg, 0 + i * 1, none⟩ (.slice a4 (f.l + 1) c4)).run Try.prog w4 = .ok () (w4.setRow mg cs4) := hst
              have HZ2 : Hid (Gz DM w (w4.setRow mg cs4) base lo (some ⟨rg, 0, none⟩) rc K (some ⟨mg, 0, none⟩) mc (M.set i ⟨a4, f.l + 1, c4⟩) (fun q => if q = i then c i + 1 else c q)) := hZ2
              have HCi2 : Hid (∀ q, (fun q => if q = i then c i + 1 else c q) q = if q < i + 1 then k + 1 else k) := show ∀ q, (fun q => if q = i then c i + 1 else c q) q = if q < i + 1 then k + 1 else k from fun q => by
                show (if q = i then c i + 1 else c q) = _
                by_cases hq : q = i
                · rw [if_pos hq, if_pos (by omega), hck]
                · rw [if_neg hq, HCi.out q]
                  by_cases hq2 : q < i
                  · rw [if_pos hq2, if_pos (by omega)]
                  · rw [if_neg hq2, if_neg (by omega)]
              clear hZ2
              go_upto_region 14 with fail
              refine WL.start <| uK (.int .i64 ((i : Nat) : Int)) <| uK (.slice (some ⟨rg, 0, none⟩) n rc) <| uK (.int .i64 ((n : Nat) : Int)) <| uB .lss 3 (.int .i64 ((i : Nat) : Int)) (.int .i64 ((n : Nat) : Int)) (.bool true) (by rw [b_lss, decide_eq_true (by omega)]) <| WL.nil <| ?_
              try simp only [pS]
              go_upto_region 16 with fail
              refine WL.start <| uK (.slice (some ⟨mg, 0, none⟩) n mc) <| uK (.int .i64 ((i : Nat) : Int)) <| uK (.slice (some ⟨mg, 0, none⟩) n mc) <| uK (.int .i64 ((i : Nat) : Int)) <| uW (pV mg (0 + i * 1)) (exec_ixA 107 1 E107 F107 _ _ rfl mg 0 n mc i (by kernel_rfl) (by kernel_rfl) (by omega)) <| uL 66 ⟨mg, 0 + i * 1, none⟩ (f.v) (load_one (HZ.out.more.at0 hf rfl).1 U66 rfl) <| uK (.int .i64 ((i : Nat) : Int)) <| ?_
              try simp only [pS]
              refine uB .add 3 (.int .i64 900) (.int .i64 ((i : Nat) : Int)) (.int .i64 ((900 + i : Nat) : Int)) (b_addw _ _ _ (by rw [IntKind.wrap_i64]; omega) _) <| uK (.int .i64 ((k : Nat) : Int)) <| uW (.agg (Mg.cells ⟨((900 + i : Nat) : Int), adZ, adZ, ((k : Nat) : Int), 0, kyZ, spZ, spZ, slZ, cZ, bvZ, slZ, false⟩)) (exec_build 47 _ rfl (Mg.cells ⟨((900 + i : Nat) : Int), adZ, adZ, ((k : Nat) : Int), 0, kyZ, spZ, spZ, slZ, cZ, bvZ, slZ, false⟩) (by kernel_rfl)) <| ?_
              try simp only [pS]
              refine uR (.slice (some ⟨wr.heap.size, 0, none⟩) 1 1) (wr.alloc (.cells (Mg.cells ⟨((900 + i : Nat) : Int), adZ, adZ, ((k : Nat) : Int), 0, kyZ, spZ, spZ, slZ, cZ, bvZ, slZ, false⟩) 47)) (exec_slice2 66 47 _ rfl (Mg.cells ⟨((900 + i : Nat) : Int), adZ, adZ, ((k : Nat) : Int), 0, kyZ, spZ, spZ, slZ, cZ, bvZ, slZ, false⟩) (.agg (Mg.cells ⟨((900 + i : Nat) : Int), adZ, adZ, ((k : Nat) : Int), 0, kyZ, spZ, spZ, slZ, cZ, bvZ, slZ, false⟩)) (by kernel_rfl) (by kernel_rfl)) ?_
              try simp only [pS]
              refine uR (.slice a4 (f.l + 1) c4) w4 (exec_appN _ _ 66 66 rfl _ _ (by kernel_rfl) (by kernel_rfl) hap) ?_
              try simp only [pS]
              refine uW (pV mg (0 + i * 1)) (exec_ixA 107 1 E107 F107 _ _ rfl mg 0 n mc i (by kernel_rfl) (by kernel_rfl) (by omega)) ?_
              try simp only [pS]
              refine uT 66 ⟨mg, 0 + i * 1, none⟩ (.slice a4 (f.l + 1) c4) (w4.setRow mg cs4) hst ?_
              try simp only [pS]
              refine WL.nil ?_
              try simp only [pS]
              go_upto_region 15 with fail
              refine WL.start <| uK (.int .i64 ((i : Nat) : Int)) <| uB .add 3 (.int .i64 ((i : Nat) : Int)) (.int .i64 1) (.int .i64 (((i + 1) : Nat) : Int)) (b_addw _ _ _ (by rw [IntKind.wrap_i64]; omega) _) <| uK (.int .i64 (((i + 1) : Nat) : Int)) <| WL.nil <| ?_
              try simp only [pS]
              go_wp2
              go_roundw
              case rel => exact ⟨i + 1, _, _, by go_num, by omega, HZ2, HCi2⟩
              case measure => simp [intOf]; omega
            · obtain rfl : n = i := by omega
              have HC2 : Hid (∃ M' c', Gz DM w wr base lo (some ⟨rg, 0, none⟩) rc K (some ⟨mg, 0, none⟩) mc M' c' ∧ ∀ q, c' q = k + 1) := ⟨M, fun _ => k + 1, ⟨HZ.out.row, HZ.out.kept, HZ.out.more, HZ.out.len, fun q e f he hf => by
                have hq : q < n := by rw [← hn]; exact (List.getElem?_eq_some_iff.1 he).1
                have h1 := HZ.out.each q e f he hf
                rw [HCi.out q, if_pos hq] at h1
                exact h1, HZ.out.dis, HZ.out.old, HZ.out.odis, HZ.out.rowOld⟩, fun _ => rfl⟩
              go_upto_region 14 with fail
              refine WL.start <| uK (.int .i64 ((n : Nat) : Int)) <| uK (.slice (some ⟨rg, 0, none⟩) n rc) <| uK (.int .i64 ((n : Nat) : Int)) <| uB .lss 3 (.int .i64 ((n : Nat) : Int)) (.int .i64 ((n : Nat) : Int)) (.bool false) (by rw [b_lss, decide_eq_false (by omega)]) <| WL.nil <| ?_
              try simp only [pS]
              go_upto_region 12 with fail
              refine WL.start <| uK (.int .i64 ((k : Nat) : Int)) <| uB .add 3 (.int .i64 ((k : Nat) : Int)) (.int .i64 1) (.int .i64 (((k + 1) : Nat) : Int)) (b_addw _ _ _ (by rw [IntKind.wrap_i64]; omega) _) <| uK (.int .i64 (((k + 1) : Nat) : Int)) <| WL.nil <| ?_
              try simp only [pS]
              go_wp2
              go_roundw
              case rel => exact (by obtain ⟨M', c', h1, h2⟩ := HC2.out; exact ⟨k + 1, M', c', by go_num, by omega, h1, h2⟩)
              case measure => simp [intOf]; omega
        · obtain rfl : k = 40 := by omega
          go_upto_region 11 with fail
          refine WL.start <| uK (.int .i64 ((40 : Nat) : Int)) <| uB .lss 3 (.int .i64 ((40 : Nat) : Int)) (.int .i64 40) (.bool false) (by rw [b_lss, decide_eq_false (by omega)]) <| WL.nil <| ?_
          try simp only [pS]
          go_upto_region 17 with fail
          refine WL.start <| uK (.int .i64 0) <| WL.nil <| ?_
          try simp only [pS]
          go_wp2
          go_loopw [8, 9, 10, 11, 12] (fun v8 v9 v10 v11 v12 wr => ∃ (i : Nat), v8 = .int .i64 ((i : Nat) : Int) ∧ i ≤ n ∧ Hid (Gz DM w wr base lo (some ⟨rg, 0, none⟩) rc K (some ⟨mg, 0, none⟩) mc M c)) (fun i _ _ _ _ _ => n - (intOf i).toNat)
          case atStart => exact ⟨0, by go_num, by omega, HZ⟩
          case round =>
            clear HZ
            obtain ⟨i, rfl, hi, HZ⟩ := hrel
            by_cases hlt : i < n
            · obtain ⟨e, he⟩ := getK i hlt
              obtain ⟨f, hf⟩ : ∃ f, M[i]? = some f := ⟨_, List.getElem?_eq_getElem (by rw [HZ.out.len, hn]; exact hlt)⟩
              obtain ⟨hfl, _, hfo, _, hel⟩ := HZ.out.each i e f he hf
              have hck : c i = 40 := HC40.out i
              rw [hck] at hfl hfo
              obtain ⟨gf, hfa⟩ : ∃ g, f.a = some ⟨g, 0, none⟩ := Own.sm hfo (by rw [gr_len2]; omega)
              have hfv : f.v = .slice (some ⟨gf, 0, none⟩) f.l f.k := by unfold Sl.v; rw [hfa]
              clear hfo
              go_upto_region 18 with fail
              refine WL.start <| uK (.int .i64 ((i : Nat) : Int)) <| uK (.slice (some ⟨rg, 0, none⟩) n rc) <| uK (.int .i64 ((n : Nat) : Int)) <| uB .lss 3 (.int .i64 ((i : Nat) : Int)) (.int .i64 ((n : Nat) : Int)) (.bool true) (by rw [b_lss, decide_eq_true (by omega)]) <| WL.nil <| ?_
              try simp only [pS]
              go_upto_region 20 with fail
              refine WL.start <| uK (.slice (some ⟨rg, 0, none⟩) n rc) <| uK (.int .i64 ((i : Nat) : Int)) <| uW (pV rg (0 + i * 1)) (exec_ixA 107 1 E107 F107 _ _ rfl rg 0 n rc i (by kernel_rfl) (by kernel_rfl) (by omega)) <| uL 66 ⟨rg, 0 + i * 1, none⟩ (e.v) (load_one ((HZ.out.row.at0 he rfl).1) U66 rfl) <| uK (.int .i64 ((e.l : Nat) : Int)) <| uK (.int .i64 ((e.l : Nat) : Int)) <| WL.nil <| ?_
              try simp only [pS]
              go_upto_region 21 with fail
              refine WL.start <| uK (.int .i64 0) <| WL.nil <| ?_
              try simp only [pS]
              go_wp2
              go_loopw [10, 11, 12] (fun v10 v11 v12 wr => ∃ (k : Nat), v10 = .int .i64 ((k : Nat) : Int) ∧ k ≤ e.l + 40 ∧ Hid (Gz DM w wr base lo (some ⟨rg, 0, none⟩) rc K (some ⟨mg, 0, none⟩) mc M c)) (fun i _ _ _ => e.l + 40 - (intOf i).toNat)
              case atStart => exact ⟨0, by go_num, by omega, HZ⟩
              case round =>
                clear HZ
                obtain ⟨k, rfl, hk, HZ⟩ := hrel
                by_cases hlk : k < e.l + 40
                · by_cases hke : e.l ≤ k
                  · have hN : ∀ (j : Nat) v, (Mg.cs (DM.mr i (k - e.l)))[j]? = some v → wr.cell? ⟨gf, 0 + k * 30 + j, none⟩ = some v := HZ.out.newAt he hf hfa (by rw [hck]; exact mark_hi hke hlk)
                    go_upto_region 22 with fail
                    refine WL.start <| uK (.int .i64 ((k : Nat) : Int)) <| uK (.int .i64 ((e.l : Nat) : Int)) <| uB .add 3 (.int .i64 ((e.l : Nat) : Int)) (.int .i64 40) (.int .i64 (((e.l + 40) : Nat) : Int)) (b_addw _ _ _ (by rw [IntKind.wrap_i64]; omega) _) <| uB .lss 3 (.int .i64 ((k : Nat) : Int)) (.int .i64 (((e.l + 40) : Nat) : Int)) (.bool true) (by rw [b_lss, decide_eq_true (by omega)]) <| WL.nil <| ?_
                    try simp only [pS]
                    go_upto_region 24 with fail
                    refine WL.start <| uK (.int .i64 ((i : Nat) : Int)) <| uB .add 3 (.int .i64 500) (.int .i64 ((i : Nat) : Int)) (.int .i64 ((500 + i : Nat) : Int)) (b_addw _ _ _ (by rw [IntKind.wrap_i64]; omega) _) <| uK (.int .i64 ((500 + i : Nat) : Int)) <| WL.nil <| ?_
                    try simp only [pS]
                    go_upto_region 25 with fail
                    refine WL.start <| uK (.int .i64 ((k : Nat) : Int)) <| uK (.int .i64 ((k : Nat) : Int)) <| WL.nil <| ?_
                    try simp only [pS]
                    go_upto_region 26 with fail
                    refine WL.start <| uK (.int .i64 ((k : Nat) : Int)) <| uK (.int .i64 ((e.l : Nat) : Int)) <| uB .geq 3 (.int .i64 ((k : Nat) : Int)) (.int .i64 ((e.l : Nat) : Int)) (.bool true) (by rw [b_geq, decide_eq_true (by omega)]) <| WL.nil <| ?_
                    try simp only [pS]
                    go_upto_region 27 with fail
                    refine WL.start <| uK (.int .i64 ((i : Nat) : Int)) <| uB .add 3 (.int .i64 900) (.int .i64 ((i : Nat) : Int)) (.int .i64 ((900 + i : Nat) : Int)) (b_addw _ _ _ (by rw [IntKind.wrap_i64]; omega) _) <| uK (.int .i64 ((900 + i : Nat) : Int)) <| WL.nil <| ?_
                    try simp only [pS]
                    go_upto_region 28 with fail
                    refine WL.start <| uK (.int .i64 ((k : Nat) : Int)) <| uK (.int .i64 ((e.l : Nat) : Int)) <| uB .sub 3 (.int .i64 ((k : Nat) : Int)) (.int .i64 ((e.l : Nat) : Int)) (.int .i64 ((k - e.l : Nat) : Int)) (b_subw _ _ _ (by rw [IntKind.wrap_i64]; omega) _) <| uK (.int .i64 ((k - e.l : Nat) : Int)) <| WL.nil <| ?_
                    try simp only [pS]
                    go_upto_region 29 with fail
                    refine WL.start <| uK (.slice (some ⟨mg, 0, none⟩) n mc) <| uK (.int .i64 ((i : Nat) : Int)) <| uW (pV mg (0 + i * 1)) (exec_ixA 107 1 E107 F107 _ _ rfl mg 0 n mc i (by kernel_rfl) (by kernel_rfl) (by omega)) <| uL 66 ⟨mg, 0 + i * 1, none⟩ (f.v) (load_one (HZ.out.more.at0 hf rfl).1 U66 rfl) <| uK (.int .i64 ((k : Nat) : Int)) <| uW (pV gf (0 + k * 30)) (exec_ixA 66 30 E66 F66 _ _ rfl gf 0 f.l f.k k (Eq.trans (b := f.v) (by kernel_rfl) hfv) (by kernel_rfl) (by omega)) <| uK (pV gf (0 + k * 30)) <| ?_
                    try simp only [pS]
                    refine uL 3 ⟨gf, 0 + k * 30, none⟩ (.int .i64 ((900 + i : Nat) : Int)) (load_one (hN 0 _ rfl) U3 rfl) <| uK (.int .i64 ((900 + i : Nat) : Int)) <| uB .neq 3 (.int .i64 ((900 + i : Nat) : Int)) (.int .i64 ((900 + i : Nat) : Int)) (.bool false) (by rw [b_neq, beq_self_eq_true]; rfl) <| uK (.bool false) <| uK (.slice (some ⟨mg, 0, none⟩) n mc) <| uK (.int .i64 ((i : Nat) : Int)) <| uW (pV mg (0 + i * 1)) (exec_ixA 107 1 E107 F107 _ _ rfl mg 0 n mc i (by kernel_rfl) (by kernel_rfl) (by omega)) <| uL 66 ⟨mg, 0 + i * 1, none⟩ (f.v) (load_one (HZ.out.more.at0 hf rfl).1 U66 rfl) <| ?_
                    try simp only [pS]
                    refine uK (.int .i64 ((k : Nat) : Int)) <| uW (pV gf (0 + k * 30)) (exec_ixA 66 30 E66 F66 _ _ rfl gf 0 f.l f.k k (Eq.trans (b := f.v) (by kernel_rfl) hfv) (by kernel_rfl) (by omega)) <| uK (pV gf (0 + k * 30 + 5)) <| uL 3 ⟨gf, 0 + k * 30 + 5, none⟩ (.int .i64 ((k - e.l : Nat) : Int)) (load_one (hN 5 _ rfl) U3 rfl) <| uK (.int .i64 ((k - e.l : Nat) : Int)) <| uB .neq 3 (.int .i64 ((k - e.l : Nat) : Int)) (.int .i64 ((k - e.l : Nat) : Int)) (.bool false) (by rw [b_neq, beq_self_eq_true]; rfl) <| uK (.bool false) <| uK (.bool false) <| ?_
                    try simp only [pS]
                    refine uK (.int .i64 ((k : Nat) : Int)) <| uK (.int .i64 ((e.l : Nat) : Int)) <| uB .lss 3 (.int .i64 ((k : Nat) : Int)) (.int .i64 ((e.l : Nat) : Int)) (.bool false) (by rw [b_lss, decide_eq_false (by omega)]) <| uK (.bool false) <| uZ <| uZ <| uZ <| uZ <| ?_
                    try simp only [pS]
                    refine uZ <| uZ <| uZ <| uZ <| uZ <| uZ <| uZ <| uZ <| ?_
                    try simp only [pS]
                    refine uZ <| uZ <| uZ <| uZ <| uZ <| uZ <| uZ <| uZ <| ?_
                    try simp only [pS]
                    refine uZ <| uZ <| uK (.bool false) <| uK (.bool false) <| WL.nil <| ?_
                    try simp only [pS]
                    go_upto_region 23 with fail
                    refine WL.start <| uK (.int .i64 ((k : Nat) : Int)) <| uB .add 3 (.int .i64 ((k : Nat) : Int)) (.int .i64 1) (.int .i64 (((k + 1) : Nat) : Int)) (b_addw _ _ _ (by rw [IntKind.wrap_i64]; omega) _) <| uK (.int .i64 (((k + 1) : Nat) : Int)) <| WL.nil <| ?_
                    try simp only [pS]
                    go_wp2
                    go_roundw
                    case rel => exact ⟨k + 1, by go_num, by omega, HZ⟩
                    case measure => simp [intOf]; omega
                  · have hN : ∀ (j : Nat) v, (Mg.cs (DM.mm i k))[j]? = some v → wr.cell? ⟨gf, 0 + k * 30 + j, none⟩ = some v := HZ.out.newAt he hf hfa (by rw [hck]; exact mark_lo (by omega))
                    obtain ⟨ge, hea⟩ : ∃ g, e.a = some ⟨g, 0, none⟩ := Own.sm (HZ.out.each i e f he hf).2.1 (by rw [marksOf_len]; omega)
                    have hev : e.v = .slice (some ⟨ge, 0, none⟩) e.l e.k := by unfold Sl.v; rw [hea]
                    have hO : ∀ (j : Nat) v, (Mg.cs (DM.mm i k))[j]? = some v → wr.cell? ⟨ge, 0 + k * 30 + j, none⟩ = some v := HZ.out.oldAt he hf hea (by omega)
                    go_upto_region 22 with fail
                    refine WL.start <| uK (.int .i64 ((k : Nat) : Int)) <| uK (.int .i64 ((e.l : Nat) : Int)) <| uB .add 3 (.int .i64 ((e.l : Nat) : Int)) (.int .i64 40) (.int .i64 (((e.l + 40) : Nat) : Int)) (b_addw _ _ _ (by rw [IntKind.wrap_i64]; omega) _) <| uB .lss 3 (.int .i64 ((k : Nat) : Int)) (.int .i64 (((e.l + 40) : Nat) : Int)) (.bool true) (by rw [b_lss, decide_eq_true (by omega)]) <| WL.nil <| ?_
                    try simp only [pS]
                    go_upto_region 24 with fail
                    refine WL.start <| uK (.int .i64 ((i : Nat) : Int)) <| uB .add 3 (.int .i64 500) (.int .i64 ((i : Nat) : Int)) (.int .i64 ((500 + i : Nat) : Int)) (b_addw _ _ _ (by rw [IntKind.wrap_i64]; omega) _) <| uK (.int .i64 ((500 + i : Nat) : Int)) <| WL.nil <| ?_
                    try simp only [pS]
                    go_upto_region 25 with fail
                    refine WL.start <| uK (.int .i64 ((k : Nat) : Int)) <| uK (.int .i64 ((k : Nat) : Int)) <| WL.nil <| ?_
                    try simp only [pS]
                    go_upto_region 26 with fail
                    refine WL.start <| uK (.int .i64 ((k : Nat) : Int)) <| uK (.int .i64 ((e.l : Nat) : Int)) <| uB .geq 3 (.int .i64 ((k : Nat) : Int)) (.int .i64 ((e.l : Nat) : Int)) (.bool false) (by rw [b_geq, decide_eq_false (by omega)]) <| WL.nil <| ?_
                    try simp only [pS]
                    go_upto_region 29 with fail
                    refine WL.start <| uK (.slice (some ⟨mg, 0, none⟩) n mc) <| uK (.int .i64 ((i : Nat) : Int)) <| uW (pV mg (0 + i * 1)) (exec_ixA 107 1 E107 F107 _ _ rfl mg 0 n mc i (by kernel_rfl) (by kernel_rfl) (by omega)) <| uL 66 ⟨mg, 0 + i * 1, none⟩ (f.v) (load_one (HZ.out.more.at0 hf rfl).1 U66 rfl) <| uK (.int .i64 ((k : Nat) : Int)) <| uW (pV gf (0 + k * 30)) (exec_ixA 66 30 E66 F66 _ _ rfl gf 0 f.l f.k k (Eq.trans (b := f.v) (by kernel_rfl) hfv) (by kernel_rfl) (by omega)) <| uK (pV gf (0 + k * 30)) <| ?_
                    try simp only [pS]
                    refine uL 3 ⟨gf, 0 + k * 30, none⟩ (.int .i64 ((500 + i : Nat) : Int)) (load_one (hN 0 _ rfl) U3 rfl) <| uK (.int .i64 ((500 + i : Nat) : Int)) <| uB .neq 3 (.int .i64 ((500 + i : Nat) : Int)) (.int .i64 ((500 + i : Nat) : Int)) (.bool false) (by rw [b_neq, beq_self_eq_true]; rfl) <| uK (.bool false) <| uK (.slice (some ⟨mg, 0, none⟩) n mc) <| uK (.int .i64 ((i : Nat) : Int)) <| uW (pV mg (0 + i * 1)) (exec_ixA 107 1 E107 F107 _ _ rfl mg 0 n mc i (by kernel_rfl) (by kernel_rfl) (by omega)) <| uL 66 ⟨mg, 0 + i * 1, none⟩ (f.v) (load_one (HZ.out.more.at0 hf rfl).1 U66 rfl) <| ?_
                    try simp only [pS]
                    refine uK (.int .i64 ((k : Nat) : Int)) <| uW (pV gf (0 + k * 30)) (exec_ixA 66 30 E66 F66 _ _ rfl gf 0 f.l f.k k (Eq.trans (b := f.v) (by kernel_rfl) hfv) (by kernel_rfl) (by omega)) <| uK (pV gf (0 + k * 30 + 5)) <| uL 3 ⟨gf, 0 + k * 30 + 5, none⟩ (.int .i64 ((k : Nat) : Int)) (load_one (hN 5 _ rfl) U3 rfl) <| uK (.int .i64 ((k : Nat) : Int)) <| uB .neq 3 (.int .i64 ((k : Nat) : Int)) (.int .i64 ((k : Nat) : Int)) (.bool false) (by rw [b_neq, beq_self_eq_true]; rfl) <| uK (.bool false) <| uK (.bool false) <| ?_
                    try simp only [pS]
                    refine uK (.int .i64 ((k : Nat) : Int)) <| uK (.int .i64 ((e.l : Nat) : Int)) <| uB .lss 3 (.int .i64 ((k : Nat) : Int)) (.int .i64 ((e.l : Nat) : Int)) (.bool true) (by rw [b_lss, decide_eq_true (by omega)]) <| uK (.bool true) <| uK (.slice (some ⟨rg, 0, none⟩) n rc) <| uK (.int .i64 ((i : Nat) : Int)) <| uW (pV rg (0 + i * 1)) (exec_ixA 107 1 E107 F107 _ _ rfl rg 0 n rc i (by kernel_rfl) (by kernel_rfl) (by omega)) <| uL 66 ⟨rg, 0 + i * 1, none⟩ (e.v) (load_one ((HZ.out.row.at0 he rfl).1) U66 rfl) <| ?_
                    try simp only [pS]
                    refine uK (.int .i64 ((k : Nat) : Int)) <| uW (pV ge (0 + k * 30)) (exec_ixA 66 30 E66 F66 _ _ rfl ge 0 e.l e.k k (Eq.trans (b := e.v) (by kernel_rfl) hev) (by kernel_rfl) (by omega)) <| uK (pV ge (0 + k * 30)) <| uL 3 ⟨ge, 0 + k * 30, none⟩ (.int .i64 ((500 + i : Nat) : Int)) (load_one (hO 0 _ rfl) U3 rfl) <| uK (.int .i64 ((500 + i : Nat) : Int)) <| uB .neq 3 (.int .i64 ((500 + i : Nat) : Int)) (.int .i64 ((500 + i : Nat) : Int)) (.bool false) (by rw [b_neq, beq_self_eq_true]; rfl) <| uK (.bool false) <| uK (.slice (some ⟨rg, 0, none⟩) n rc) <| ?_
                    try simp only [pS]
                    refine uK (.int .i64 ((i : Nat) : Int)) <| uW (pV rg (0 + i * 1)) (exec_ixA 107 1 E107 F107 _ _ rfl rg 0 n rc i (by kernel_rfl) (by kernel_rfl) (by omega)) <| uL 66 ⟨rg, 0 + i * 1, none⟩ (e.v) (load_one ((HZ.out.row.at0 he rfl).1) U66 rfl) <| uK (.int .i64 ((k : Nat) : Int)) <| uW (pV ge (0 + k * 30)) (exec_ixA 66 30 E66 F66 _ _ rfl ge 0 e.l e.k k (Eq.trans (b := e.v) (by kernel_rfl) hev) (by kernel_rfl) (by omega)) <| uK (pV ge (0 + k * 30 + 5)) <| uL 3 ⟨ge, 0 + k * 30 + 5, none⟩ (.int .i64 ((k : Nat) : Int)) (load_one (hO 5 _ rfl) U3 rfl) <| uK (.int .i64 ((k : Nat) : Int)) <| ?_
                    try simp only [pS]
                    refine uB .neq 3 (.int .i64 ((k : Nat) : Int)) (.int .i64 ((k : Nat) : Int)) (.bool false) (by rw [b_neq, beq_self_eq_true]; rfl) <| uK (.bool false) <| uK (.bool false) <| uK (.bool false) <| WL.nil <| ?_
                    try simp only [pS]
                    go_upto_region 23 with fail
                    refine WL.start <| uK (.int .i64 ((k : Nat) : Int)) <| uB .add 3 (.int .i64 ((k : Nat) : Int)) (.int .i64 1) (.int .i64 (((k + 1) : Nat) : Int)) (b_addw _ _ _ (by rw [IntKind.wrap_i64]; omega) _) <| uK (.int .i64 (((k + 1) : Nat) : Int)) <| WL.nil <| ?_
                    try simp only [pS]
                    go_wp2
                    go_roundw
                    case rel => exact ⟨k + 1, by go_num, by omega, HZ⟩
                    case measure => simp [intOf]; omega
                · skip
                  go_upto_region 22 with fail
                  refine WL.start <| uK (.int .i64 ((k : Nat) : Int)) <| uK (.int .i64 ((e.l : Nat) : Int)) <| uB .add 3 (.int .i64 ((e.l : Nat) : Int)) (.int .i64 40) (.int .i64 (((e.l + 40) : Nat) : Int)) (b_addw _ _ _ (by rw [IntKind.wrap_i64]; omega) _) <| uB .lss 3 (.int .i64 ((k : Nat) : Int)) (.int .i64 (((e.l + 40) : Nat) : Int)) (.bool false) (by rw [b_lss, decide_eq_false (by omega)]) <| WL.nil <| ?_
                  try simp only [pS]
                  go_upto_region 19 with fail
                  refine WL.start <| uK (.int .i64 ((i : Nat) : Int)) <| uB .add 3 (.int .i64 ((i : Nat) : Int)) (.int .i64 1) (.int .i64 (((i + 1) : Nat) : Int)) (b_addw _ _ _ (by rw [IntKind.wrap_i64]; omega) _) <| uK (.int .i64 (((i + 1) : Nat) : Int)) <| WL.nil <| ?_
                  try simp only [pS]
                  go_wp2
                  go_roundw
                  case rel => exact ⟨i + 1, by go_num, by omega, HZ⟩
                  case measure => simp [intOf]; omega
            · skip
              go_upto_region 18 with fail
              refine WL.start <| uK (.int .i64 ((i : Nat) : Int)) <| uK (.slice (some ⟨rg, 0, none⟩) n rc) <| uK (.int .i64 ((n : Nat) : Int)) <| uB .lss 3 (.int .i64 ((i : Nat) : Int)) (.int .i64 ((n : Nat) : Int)) (.bool false) (by rw [b_lss, decide_eq_false (by omega)]) <| WL.nil <| ?_
              try simp only [pS]
              go_upto_region 31 with fail
              refine WL.start <| uK (.bool true) <| WL.nil <| ?_
              try simp only [pS]
              go_wp2
              rw [HC.out]
              exact ⟨rfl, HZ.out.kept⟩

end Go.Proofs.Ytpabpeppgpeaoaa.Md
