import Derived.Test.YtfemlnfknebalabH
namespace Go.Proofs.Ytfemlnfknebalab
open Go.RowKit
set_option linter.unusedVariables false
set_option linter.unusedSimpArgs false

theorem enL_del (es : List En) (i : Nat) : enL (delL es i) = enL (es.take i) ++ enL (es.drop (i + 1)) := by unfold delL; rw [enL_app]
theorem run_delA {w : World} (ty g i n c : Nat) (cur B : List Value) (hb : Box w g 34 cur.toArray) (hi : i < n) (hn : n ≤ c) (hcl : cur.length = c * 4) (hB : B.length = (n - (i + 1)) * 4) (hsrc : ∀ j u, B[j]? = some u → cur[(i + 1) * 4 + j]? = some u) (h1 : ∀ u ∈ B, u.oneCell' = true) :
    (Builtin.append_ #[23, 23] ty #[.slice (some ⟨g, 0, none⟩) i c, sliced (some ⟨g, 0, none⟩) (i + 1) n c 4]).run Try.prog w = .ok (.slice (some ⟨g, 0, none⟩) (n - 1) c) (w.setRow g (putL cur (i * 4) B).toArray) := by
  obtain ⟨i0, hq, hz0, hz1, hz2⟩ := info_parts Try.info54
  have key : ∀ ad : Addr, (∀ j u, B[j]? = some u → w.cell? (ad.add j) = some u) → ∀ cc, (Builtin.append_ #[23, 23] ty #[.slice (some ⟨g, 0, none⟩) i c, .slice (some ad) (n - (i + 1)) cc]).run Try.prog w = .ok (.slice (some ⟨g, 0, none⟩) (n - 1) c) (w.setRow g (putL cur (i * 4) B).toArray) := by
    intro ad had cc
    have := run_append_room (P := Try.prog) w 23 ty 34 i0 Try.und22 hq g i c cur.toArray hb ad (n - (i + 1)) cc B (by rw [hz1]; exact hB) had h1 (by omega) (by rw [hz1, hB, List.size_toArray, hcl]; omega)
    rw [this, hz1, show i + (n - (i + 1)) = n - 1 by omega]
    unfold putL
    rw [List.append_assoc]
  unfold sliced
  split
  · rename_i e
    have : B = [] := List.eq_nil_of_length_eq_zero (by rw [hB]; omega)
    subst this
    exact key _ (fun j u hj => by simp at hj) _
  · exact key _ (fun j u hj => by
      simp only [addr_add]
      rw [hb.cell, List.getElem?_toArray, show 0 + (i + 1) * 4 + j = (i + 1) * 4 + j by omega]
      exact hsrc j u hj) _
def DelE (w : World) (base : Nat) (s : Sl) (es : List En) (i : Nat) (e : Ending) (w' : World) : Prop := ∃ s' : Sl, e = .returned s'.v ∧ OwE w' base s' (delL es i) ∧ Kept (At s.a) w w' ∧ (∀ k, At s'.a k → At s.a k)
set_option maxRecDepth 100000 in
set_option maxHeartbeats 4000000 in
theorem del_own (g n c i base : Nat) (es : List En) (cur : List Value) (w : World) (hlen : es.length = n) (hbg : base ≤ g) (hgx : Box w g 34 cur.toArray) (hnc : n ≤ c) (hcm : c ≤ 9223372036854775807) (hcl : cur.length = c * 4) (htk : cur.take (n * 4) = enL es) (hi : i < n) (hb : (n + 1) * 40 ≤ 140737488355328) : Calls Try.prog 39 #[.slice (some ⟨g, 0, none⟩) n c, .int .i64 ((i : Nat) : Int), .int .i64 (((i + 1) : Nat) : Int)] w (DelE w base ⟨some ⟨g, 0, none⟩, n, c⟩ es i) := by
  obtain ⟨C, hC⟩ : ∃ C : Ending → World → Prop, C = (DelE w base ⟨some ⟨g, 0, none⟩, n, c⟩ es i) := ⟨_, rfl⟩
  have HC : Hid (C = (DelE w base ⟨some ⟨g, 0, none⟩, n, c⟩ es i)) := hC
  rw [← hC]
  clear hC
  have hAl : (enL (es.take i)).length = i * 4 := by rw [enL_len, List.length_take, hlen]; congr 1; omega
  have hBl : (enL (es.drop (i + 1))).length = (n - (i + 1)) * 4 := by rw [enL_len, List.length_drop, hlen]
  have hcut : enL es = enL (es.take i) ++ ((eAt es i).cs ++ enL (es.drop (i + 1))) := by
    have h0 : es.drop i = eAt es i :: es.drop (i + 1) := by
      have hi' : i < es.length := by omega
      rw [List.drop_eq_getElem_cons hi']
      congr 1
      simp [eAt, List.getElem?_eq_getElem hi']
    rw [enL_cut es i, h0, show (eAt es i :: es.drop (i + 1)) = [eAt es i] ++ es.drop (i + 1) from rfl, enL_app, enL_1]
  have hsrc : ∀ j u, (enL (es.drop (i + 1)))[j]? = some u → cur[(i + 1) * 4 + j]? = some u := by
    intro j u hj
    have hj2 := (List.getElem?_eq_some_iff.1 hj).1
    have h1 : (enL es)[(i + 1) * 4 + j]? = some u := by
      rw [hcut, ← List.append_assoc, List.getElem?_append_right (by rw [List.length_append, hAl]; show i * 4 + 4 ≤ _; omega), List.length_append, hAl, show (i + 1) * 4 + j - (i * 4 + (eAt es i).cs.length) = j by show (i + 1) * 4 + j - (i * 4 + 4) = j; omega]
      exact hj
    rw [← htk, List.getElem?_take] at h1
    split at h1
    · exact h1
    · cases h1
  have hdel : enL (delL es i) = enL (es.take i) ++ enL (es.drop (i + 1)) := enL_del es i
  have hlen2 : (delL es i).length = n - 1 := by rw [delL_len _ _ (by omega), hlen]
  have hBone := enL_one (es.drop (i + 1))
  have hX : (eAt es i).cs.length = 4 := rfl
  generalize (eAt es i).cs = X at hcut hX
  generalize enL (es.take i) = A at hAl hcut hdel
  generalize enL (es.drop (i + 1)) = B at hBl hcut hsrc hdel hBone
  have HTk : Hid (cur.take (A.length + 4 + B.length) = A ++ (X ++ B)) := by
    show _ = _
    rw [← hcut, ← htk, hAl, hBl]; congr 1; omega
  have HX : Hid (X.length = 4) := hX
  have HIns : Hid (enL (delL es i) = A ++ B) := hdel
  have HLn2 : Hid ((delL es i).length = n - 1) := hlen2
  have HAl : Hid (A.length = i * 4) := hAl
  have HBl : Hid (B.length = (n - (i + 1)) * 4) := hBl
  have HSrc : Hid (∀ j u, B[j]? = some u → cur[(i + 1) * 4 + j]? = some u) := hsrc
  have HBone : Hid (∀ v ∈ B, v.oneCell' = true) := hBone
  have HCl : Hid (cur.length = c * 4) := hcl
  have HGX : Hid (Box w g 34 cur.toArray) := hgx
  have HK : Hid (Kept (At (some ⟨g, 0, none⟩)) w w) := Kept.refl _ _
  clear hAl hcut hdel hBl hsrc hlen2 hcl hgx htk hlen hBone hX
  go_enter Try.func39, Try.ntmps39
  go_upto_region 0 with fail
  refine WL.start ?_
  refine tK (.slice none 0 0) ?_
  try simp only [pA, pB, p1, p2, p3]
  refine WL.nil ?_
  try simp only [pA, pB, p1, p2, p3]
  go_upto_region 1 with fail
  refine WL.start ?_
  refine tK (.slice (some ⟨g, 0, none⟩) n c) ?_
  try simp only [pA, pB, p1, p2, p3]
  refine tK (.int .i64 ((i : Nat) : Int)) ?_
  try simp only [pA, pB, p1, p2, p3]
  refine tK (.int .i64 (((i + 1) : Nat) : Int)) ?_
  try simp only [pA, pB, p1, p2, p3]
  refine tK (.slice (some ⟨g, 0, none⟩) n c) ?_
  try simp only [pA, pB, p1, p2, p3]
  refine tK (.int .i64 ((n : Nat) : Int)) ?_
  try simp only [pA, pB, p1, p2, p3]
  refine tW (sliced (some ⟨g, 0, none⟩) i (i + 1) n 4) (exec_slLHM 23 _ _ _ _ rfl 4 Try.und22e Try.size22e _ n c i (i + 1) n (by kernel_rfl) (by kernel_rfl) (by kernel_rfl) (by kernel_rfl) (by omega) (by omega) (by omega)) ?_
  try simp only [pA, pB, p1, p2, p3]
  refine WL.nil ?_
  try simp only [pA, pB, p1, p2, p3]
  go_upto_region 2 with fail
  refine WL.start ?_
  refine tK (.int .i64 ((i : Nat) : Int)) ?_
  try simp only [pA, pB, p1, p2, p3]
  refine tK (.int .i64 (((i + 1) : Nat) : Int)) ?_
  try simp only [pA, pB, p1, p2, p3]
  refine tW (.bool false) (exec_bin .eql 3 _ _ _ rfl (.int .i64 ((i : Nat) : Int)) (.int .i64 (((i + 1) : Nat) : Int)) (.bool false) (by kernel_rfl) (by kernel_rfl) (by kernel_rfl) (b_eqB _ _ _ (by rw [beq_eq_false_iff_ne]; omega) _)) ?_
  try simp only [pA, pB, p1, p2, p3]
  refine WL.nil ?_
  try simp only [pA, pB, p1, p2, p3]
  go_upto_region 4 with fail
  refine WL.start ?_
  refine tK (.slice (some ⟨g, 0, none⟩) n c) ?_
  try simp only [pA, pB, p1, p2, p3]
  refine tK (.int .i64 ((n : Nat) : Int)) ?_
  try simp only [pA, pB, p1, p2, p3]
  refine tK (.int .i64 ((n : Nat) : Int)) ?_
  try simp only [pA, pB, p1, p2, p3]
  refine WL.nil ?_
  try simp only [pA, pB, p1, p2, p3]
  go_upto_region 5 with fail
  refine wp_region_held_drew (S := fun w' => True) rfl trivial (fun hH => ?_)
  have HGX : Hid (Box (w.drew) g 34 cur.toArray) := HGX.out
  have HK : Hid (Kept (At (some ⟨g, 0, none⟩)) w (w.drew)) := HK.out.drew
  generalize w.drew = wk1 at HGX HK ⊢
  refine aK (i := 0) (oi := { dst := some 20, op := Op.move (Operand.tmp 0), type := 23, pos := "slices.go:232", after := #[], guard := none }) (v := .slice (some ⟨g, 0, none⟩) n c) hH ?_
  try simp only [pA, pB, p1, p2, p3]
  refine aK (i := 1) (oi := { dst := some 21, op := Op.move (Operand.tmp 1), type := 3, pos := "slices.go:232", after := #[], guard := none }) (v := .int .i64 ((i : Nat) : Int)) hH ?_
  try simp only [pA, pB, p1, p2, p3]
  refine aT (i := 2) (oi := { dst := some 22, op := Op.slice 23 (Operand.tmp 20) none (some (Operand.tmp 21)) none, type := 23, pos := "slices.go:232", after := #[{ on := 0, ground := Ground.data }, { on := 1, ground := Ground.data }], guard := none }) (v := .slice (some ⟨g, 0, none⟩) i c) (fun w' hw => exec_slH' 23 _ _ rfl 4 Try.und22e Try.size22e g 0 n c i (by kernel_rfl) (by kernel_rfl) (by omega)) hH ?_
  try simp only [pA, pB, p1, p2, p3]
  refine aK (i := 3) (oi := { dst := some 23, op := Op.move (Operand.tmp 0), type := 23, pos := "slices.go:232", after := #[], guard := none }) (v := .slice (some ⟨g, 0, none⟩) n c) hH ?_
  try simp only [pA, pB, p1, p2, p3]
  refine aK (i := 4) (oi := { dst := some 24, op := Op.move (Operand.tmp 2), type := 3, pos := "slices.go:232", after := #[], guard := none }) (v := .int .i64 (((i + 1) : Nat) : Int)) hH ?_
  try simp only [pA, pB, p1, p2, p3]
  refine aT (i := 5) (oi := { dst := some 25, op := Op.slice 23 (Operand.tmp 23) (some (Operand.tmp 24)) none none, type := 23, pos := "slices.go:232", after := #[{ on := 3, ground := Ground.data }, { on := 4, ground := Ground.data }], guard := none }) (v := sliced (some ⟨g, 0, none⟩) (i + 1) n c 4) (fun w' hw => exec_slL 23 _ _ rfl 4 Try.und22e Try.size22e _ n c (i + 1) (by kernel_rfl) (by kernel_rfl) (by omega)) hH ?_
  try simp only [pA, pB, p1, p2, p3]
  refine any_step (i := 6) (o := { dst := some 26, op := Op.call { callee := Callee.builtin Builtin.append, args := #[Operand.tmp 22, Operand.tmp 25], argTypes := #[23, 23] }, type := 23, pos := "slices.go:232", after := #[{ on := 2, ground := Ground.data }, { on := 5, ground := Ground.data }], guard := none }) (w' := wk1.setRow g (putL cur (i * 4) B).toArray) (v := .slice (some ⟨g, 0, none⟩) (n - 1) c) rfl (by kernel_rfl) (by kernel_rfl) (exec_appN _ _ 23 23 rfl _ _ (by kernel_rfl) (by kernel_rfl) (run_delA _ g i n c cur B HGX.out hi hnc HCl.out HBl.out HSrc.out HBone.out)) trivial (fun hH => ?_)
  try simp only [pA, pB, p1, p2, p3]
  have HGX : Hid (Box (wk1.setRow g (putL cur (i * 4) B).toArray) g 34 (putL cur (i * 4) B).toArray) := HGX.out.setRow _
  have HK : Hid (Kept (At (some ⟨g, 0, none⟩)) w (wk1.setRow g (putL cur (i * 4) B).toArray)) := HK.out.inRow ⟨_, rfl, rfl⟩ _
  generalize wk1.setRow g (putL cur (i * 4) B).toArray = wk2 at HGX HK ⊢
  refine aK (i := 7) (oi := { dst := some 0, op := Op.assign (Operand.tmp 26), type := 23, pos := "slices.go:232", after := #[{ on := 6, ground := Ground.data }, { on := 6, ground := Ground.chain }, { on := 0, ground := Ground.phase }, { on := 1, ground := Ground.phase }, { on := 2, ground := Ground.phase }, { on := 3, ground := Ground.phase }, { on := 4, ground := Ground.phase }, { on := 5, ground := Ground.phase }, { on := 6, ground := Ground.phase }], guard := none }) (v := .slice (some ⟨g, 0, none⟩) (n - 1) c) hH ?_
  try simp only [pA, pB, p1, p2, p3]
  refine wpAnyH_done (by kernel_rfl) ?_ _
  try simp only [pA, pB, p1, p2, p3]
  clear hH
  go_upto_region 6 with fail
  refine WL.start ?_
  refine tK (.slice (some ⟨g, 0, none⟩) (n - 1) c) ?_
  try simp only [pA, pB, p1, p2, p3]
  refine tK (.slice (some ⟨g, 0, none⟩) (n - 1) c) ?_
  try simp only [pA, pB, p1, p2, p3]
  refine tK (.int .i64 (((n - 1) : Nat) : Int)) ?_
  try simp only [pA, pB, p1, p2, p3]
  refine tK (.int .i64 ((n : Nat) : Int)) ?_
  try simp only [pA, pB, p1, p2, p3]
  refine tW (.slice (some ⟨g, 0 + (n - 1) * 4, none⟩) 1 (c - (n - 1))) (by rw [exec_slLH 23 _ _ _ rfl 4 Try.und22e Try.size22e (some ⟨g, 0, none⟩) (n - 1) c (n - 1) n (by kernel_rfl) (by kernel_rfl) (by kernel_rfl) (by omega) (by omega), sliced_in _ _ _ _ _ _ (show n - 1 < c by omega), show n - (n - 1) = 1 by omega]) ?_
  try simp only [pA, pB, p1, p2, p3]
  have HPL : Hid ((putL cur (i * 4) B).length = c * 4) := by
    show _ = _
    rw [putL_len (by rw [HCl.out, HBl.out]; omega), HCl.out]
  refine wp_runW (.tuple #[]) (wk2.setRow g (putL (putL cur (i * 4) B) (0 + (n - 1) * 4) enZ.cs).toArray) (exec_clear _ 23 rfl _ (by kernel_rfl) (run_clearN 23 _ 34 enZ.cs Try.und22 zero54 (by kernel_rfl) (off := 0 + (n - 1) * 4) HGX.out (c - (n - 1)) (by rw [HPL.out]; show 0 + (n - 1) * 4 + 4 ≤ _; omega) enZ.oneL)) (by kernel_rfl) ?_
  try simp only [pA, pB, p1, p2, p3]
  have HO : Hid (OwE (wk2.setRow g (putL (putL cur (i * 4) B) (0 + (n - 1) * 4) enZ.cs).toArray) base ⟨some ⟨g, 0, none⟩, n - 1, c⟩ (delL es i)) := by
    refine ⟨Own.shut (cur := putL (putL cur (i * 4) B) (0 + (n - 1) * 4) enZ.cs) hbg (HGX.out.setRow _) (show n - 1 ≤ c by omega) hcm ?_ ?_, HLn2.out⟩
    · rw [putL_len (by rw [HPL.out]; show 0 + (n - 1) * 4 + 4 ≤ _; omega), HPL.out]
    · rw [HIns.out]
      have h1 := del_row cur A X B enZ.cs 4 HX.out (by rw [HCl.out, HAl.out, HBl.out]; omega) rfl HTk.out
      rw [HAl.out, HBl.out, show i * 4 + (n - (i + 1)) * 4 = (n - 1) * 4 by omega] at h1
      rw [Nat.zero_add]
      exact h1
  have HK : Hid (Kept (At (some ⟨g, 0, none⟩)) w (wk2.setRow g (putL (putL cur (i * 4) B) (0 + (n - 1) * 4) enZ.cs).toArray)) := HK.out.inRow ⟨_, rfl, rfl⟩ _
  generalize wk2.setRow g (putL (putL cur (i * 4) B) (0 + (n - 1) * 4) enZ.cs).toArray = wk3 at HO HK ⊢
  refine WL.nil ?_
  try simp only [pA, pB, p1, p2, p3]
  go_upto_region 7 with fail
  refine WL.start ?_
  refine tK (.slice (some ⟨g, 0, none⟩) (n - 1) c) ?_
  try simp only [pA, pB, p1, p2, p3]
  refine tK (.slice (some ⟨g, 0, none⟩) (n - 1) c) ?_
  try simp only [pA, pB, p1, p2, p3]
  refine WL.nil ?_
  try simp only [pA, pB, p1, p2, p3]
  go_wp2
  rw [HC.out]
  exact ⟨⟨some ⟨g, 0, none⟩, n - 1, c⟩, rfl, HO.out, HK.out, fun k h => h⟩
theorem del_any (a : Option Addr) (n c i base : Nat) (es : List En) (w : World) (ho : OwE w base ⟨a, n, c⟩ es) (hi : i < n) (hb : (n + 1) * 40 ≤ 140737488355328) :
    Calls Try.prog 39 #[.slice a n c, .int .i64 ((i : Nat) : Int), .int .i64 (((i + 1) : Nat) : Int)] w (DelE w base ⟨a, n, c⟩ es i) := by
  obtain ⟨g, cur, rfl, h1, h2, h3, h4, h5, h6⟩ := Own.op ho.own (show 0 < n by omega)
  exact del_own g n c i base es cur w ho.len h1 h2 h3 h4 h5 h6 hi hb

end Go.Proofs.Ytfemlnfknebalab
