import Derived.Test.YtgiokkcdgoloaaaXm
namespace Go.Proofs.Ytgiokkcdgoloaaa.Md
open Go.RowKit
set_option linter.unusedVariables false
set_option linter.unusedSimpArgs false
section
variable {o : Oper} {a : Act} {w : World}
theorem exec_slL (t : TypeId) (x lo : Operand) (ho : o.op = .slice t x (some lo) none none) (c : Nat) (ht : Try.prog.underlying t = some (.slice (Try.prog.elem t))) (hs : (Try.prog.info? (Try.prog.elem t)).map (·.size) = some c) (ad : Option Addr) (len cap l : Nat)
 (hx : a.eval x = .slice ad len cap) (hl : a.eval lo = .int .i64 (l : Int)) (h : l ≤ len) : (execOp a.eval o).run Try.prog w = .ok (.value (sliced ad l len cap c)) w := by
 simp only [execOp, ho, hx, Option.map_some, Option.map_none, hl, Sem.run_bind, run_sliceAt_slice w t _ _ _ _ ht, run_slice_l w t ad len cap ht .i64 (l : Int) (by omega) (by omega), size_of hs, Result.andThen_ok, Sem.run_pure, Int.toNat_natCast]
end
theorem row_all {W : World} {base n k g : Nat} {a : Option Addr} {U : List Mg} (h : Own 52 30 W base a k n (mgL U)) (ha : a = some ⟨g, 0, none⟩) : ∀ (j : Nat) u, (mgL U)[j]? = some u → W.cell? ⟨g, j, none⟩ = some u := by
 intro j u hj
 subst ha
 have := World.ownsRow.cells h (by rfl) j u hj
 rw [addr_add, Nat.zero_add] at this
 exact this
theorem row_front {W : World} {base n k g : Nat} {a : Option Addr} {U : List Mg} (h : Own 52 30 W base a k n (mgL U)) (ha : a = some ⟨g, 0, none⟩) (i : Nat) : ∀ (j : Nat) u, (mgL (U.take i))[j]? = some u → ∃ ad, some (⟨g, 0, none⟩ : Addr) = some ad ∧ W.cell? (ad.add j) = some u := by
 intro j u hj
 refine ⟨_, rfl, ?_⟩
 rw [addr_add, Nat.zero_add]
 refine row_all h ha j u ?_
 have e : mgL U = mgL (U.take i) ++ mgL (U.drop i) := by rw [← mgL_app, List.take_append_drop]
 rw [e, List.getElem?_append_left (List.getElem?_eq_some_iff.1 hj).1]
 exact hj
theorem row_back {W : World} {base n k g : Nat} {a : Option Addr} {U : List Mg} (h : Own 52 30 W base a k n (mgL U)) (ha : a = some ⟨g, 0, none⟩) (hU : U.length = n) {i : Nat} (hi : i ≤ n) (hk : n ≤ k) : ∃ xa, sliced a i n k 30 = .slice xa (n - i) (k - i) ∧ (xa = none → k - i = 0) ∧ ∀ (j : Nat) u, (mgL (U.drop i))[j]? = some u → ∃ ad, xa = some ad ∧ W.cell? (ad.add j) = some u := by
 subst ha
 unfold sliced
 refine ⟨_, rfl, ?_, fun j u hj => ?_⟩
 · intro e
   split at e <;> simp at e
 · have hjl := (List.getElem?_eq_some_iff.1 hj).1
   rw [mgL_len, List.length_drop] at hjl
   rw [if_neg (by omega)]
   refine ⟨_, rfl, ?_⟩
   show W.cell? (((⟨g, 0, none⟩ : Addr).add (i * 30)).add j) = some u
   rw [addr_add, addr_add, Nat.zero_add]
   refine row_all h rfl _ u ?_
   have e : mgL U = mgL (U.take i) ++ mgL (U.drop i) := by rw [← mgL_app, List.take_append_drop]
   have hl : (mgL (U.take i)).length = i * 30 := by rw [mgL_len, List.length_take]; congr 1; omega
   rw [e, List.getElem?_append_right (by rw [hl]; omega), hl, Nat.add_sub_cancel_left]
   exact hj
theorem own_cap {T : TypeId} {c : Nat} {W : World} {base n k : Nat} {a : Option Addr} {vs : List Value} (h : Own T c W base a k n vs) : n ≤ k := by
 rcases h.2 with ⟨hv, hn⟩ | ⟨g, cap', cur, hv, hb, hg, hle, rest⟩
 · omega
 · simp only [Value.slice.injEq] at hv
   obtain ⟨_, _, rfl⟩ := hv
   exact hle
theorem Wg.newU {w W W2 : World} {n0 : Nat} {J0 J : Nat → Prop} {b : Nat} {v : Wv} {x : Wd} {mp : Nat → Option Nat} {I : Nat → Nat → Prop} {H : List Bl} {U : List Mg} {D : List Dv} {L : List Lv} {l : List (Nat × TypeId × Array Value)} {T : List Rowx} {Q : List (Sl × List Int)} (G : Wg w W n0 J0 J b v x mp I H U D L l T Q) (hk : Kept No W W2) {a2 : Option Addr} {k2 n : Nat} {U2 : List Mg} {un2 : List Pm} (ho : Own 52 30 W2 W.heap.size a2 k2 n (mgL U2)) (hU : Two2 (UnM W2 n0) un2 U2) :
 ∃ J2, Wg w (W2.setRow b (Wv.cells ⟨v.gp, v.hd, v.mm, v.aa, v.rr, v.gn, ⟨a2, n, k2⟩, v.ds, v.ls, v.now, v.br⟩)) n0 J0 J2 b ⟨v.gp, v.hd, v.mm, v.aa, v.rr, v.gn, ⟨a2, n, k2⟩, v.ds, v.ls, v.now, v.br⟩ { x with un := un2 } mp I H U2 D L l T Q := by
 obtain ⟨J2, h1, h2, h3⟩ := G.wa.setU (s := ⟨a2, n, k2⟩) (U2 := U2) (un2 := un2) hk.of_no (Own.lower ho G.wa.wl.n0W) (fun k e => .inr (Own.base ho e)) hU
 exact ⟨J2, G.upd h1 h2⟩
def TkO (w : World) (n0 : Nat) (J : Nat → Prop) (b : Nat) (x : Wd) (i : Nat) (e : Ending) (w' : World) : Prop := ∃ p m J2, x.un[i]? = some p ∧ e = .returned (.agg (Mg.cells m)) ∧ UnM w' n0 p m ∧ WAt w' n0 J2 b { x with un := x.un.take i ++ x.un.drop (i + 1) } ∧ Up5 w J w' J2
set_option maxRecDepth 100000 in
set_option maxHeartbeats 4000000 in
theorem take_any (n0 : Nat) (J : Nat → Prop) (b : Nat) (x : Wd) (at' : Int) (w : World) (hW : WAt w n0 J b x) (h0 : 0 < x.un.length) (hl : x.un.length ≤ 1000000) : Calls Try.prog 59 #[.pointer (some ⟨b, 0, none⟩), .int .i64 at'] w (TkO w n0 J b x (rndW at' x.un.length)) := by
 refine hideC fun C HC => ?_
 obtain ⟨v, mp, I, H, U, D, L, hA⟩ := hW
 have hul : x.un.length = v.un.l := by rw [hA.pt.un.1, hA.ul]
 have hUl := hA.ul
 rw [hul] at HC
 have hil := (rnd_mod at' v.un.l (by omega)).2
 have hrn : ∀ W : World, Calls Try.prog 20 #[.int .i64 at', .int .i64 (v.un.l : Int)] W (fun e w' => e = .returned (.int .i64 ((rndW at' v.un.l : Nat) : Int)) ∧ w' = W) := fun W => round_any at' v.un.l W (by omega) (by omega)
 generalize rndW at' v.un.l = i at HC hil hrn
 obtain ⟨gu, hgu⟩ := own_at hA.un (by omega)
 obtain ⟨p, hpi⟩ : ∃ p, x.un[i]? = some p := ⟨_, List.getElem?_eq_getElem (by omega)⟩
 obtain ⟨m, hmi, hpm⟩ := hA.pt.un.at hpi
 have hme := hpm.e
 have hcap := own_cap hA.un
 have HF : Hid (Wg w w n0 J J b v x mp I H U D L [] [] [(m.bl, p.z)]) := (Wg.start hA).byt (Q := []) (Q' := [(m.bl, p.z)]) (by simpa using hpm.b)
 clear hA hpm
 go_enter Try.func59, Try.ntmps59
 go_upto_region 0 with fail
 refine WL.start ?_
 refine uR (pV w.heap.size 0) (w.alloc (.cells (Mg.cells mgZ) 52)) (exec_alloc 52 rfl (Mg.cells mgZ) Z52) ?_
 try simp only [pS]
 have HF : Hid _ := HF.out.alloc 52 (Mg.cells mgZ)
 generalize w.alloc (.cells (Mg.cells mgZ) 52) = wk2 at HF ⊢
 generalize w.heap.size = gk1 at HF ⊢
 refine WL.nil ?_
 try simp only [pS]
 go_upto_region 1 with fail
 refine WL.start <| uK (.int .i64 at') <| uK (pV b 0) <| uK (pV b 0) <| uK (pV b 6) <| uL 71 ⟨b, 6, none⟩ (v.un.v) (ld1 HF.out.wbox 6 U71 rfl) <| uK (.int .i64 ((v.un.l : Nat) : Int)) <| ?_
 try simp only [pS]
 refine uC 20 #[.int .i64 at', .int .i64 ((v.un.l : Nat) : Int)] (hrn _) ?_
 rintro e wq ⟨rfl, hwq⟩
 rw [hwq]
 clear hwq wq
 refine ⟨.int .i64 ((i : Nat) : Int), rfl, ?_⟩
 try simp only [pS]
 refine uK (.int .i64 ((i : Nat) : Int)) <| WL.nil <| ?_
 try simp only [pS]
 go_upto_region 2 with fail
 refine WL.start <| uK (pV b 0) <| uK (pV b 0) <| uK (pV b 6) <| uL 71 ⟨b, 6, none⟩ (v.un.v) (ld1 HF.out.wbox 6 U71 rfl) <| uK (.int .i64 ((i : Nat) : Int)) <| uW (pV gu (0 + i * 30)) (exec_ixS 71 30 E71 F71 _ _ rfl hgu (by omega)) <| uL 52 ⟨gu, 0 + i * 30, none⟩ (.agg (Mg.cells m)) ((load_part (n := 0) (own_cell HF.out.wa.un hgu (mgL_c U) (by decide) hmi) (part_of (off := 0) (sub := Mg.cs m) (by kernel_rfl)) U52 rfl S52)) <| ?_
 try simp only [pS]
 refine uR (pV wk2.heap.size 0) (wk2.alloc (.cells (Mg.cells mgZ) 52)) (exec_alloc 52 rfl (Mg.cells mgZ) Z52) ?_
 try simp only [pS]
 have HF : Hid _ := HF.out.alloc 52 (Mg.cells mgZ)
 generalize wk2.alloc (.cells (Mg.cells mgZ) 52) = wk4 at HF ⊢
 generalize wk2.heap.size = gk3 at HF ⊢
 refine uT 52 ⟨gk3, 0, none⟩ (.agg (Mg.cells m)) (wk4.setRow gk3 (Mg.cells m)) (rs (Mg.cs mgZ) (Mg.cs m) (Mg.cs m) (HF.out.box 1 _ _ _ rfl) S52 (Mg.oneL _)) ?_
 try simp only [pS]
 have HF : Hid _ := HF.out.set 1 rfl (Mg.cells m)
 generalize wk4.setRow gk3 (Mg.cells m) = wk5 at HF ⊢
 refine WL.nil ?_
 try simp only [pS]
 go_upto_region 3 with fail
 refine WL.start <| uK (.slice none 0 0) <| WL.nil <| ?_
 try simp only [pS]
 go_upto_region 4 with fail
 refine WL.start <| uK (.slice none 0 0) <| uK (pV b 0) <| uK (pV b 0) <| uK (pV b 6) <| uL 71 ⟨b, 6, none⟩ (v.un.v) (ld1 HF.out.wbox 6 U71 rfl) <| uK (.int .i64 ((i : Nat) : Int)) <| uW (.slice (some ⟨gu, 0, none⟩) i v.un.k) ((exec_slH 71 _ _ rfl 30 E71 F71 (some ⟨gu, 0, none⟩) v.un.l v.un.k i (Eq.trans (b := v.un.v) (by kernel_rfl) (sl_v hgu)) (by kernel_rfl) (by omega)).trans (by rw [sliced0 _ _ _ _ (by omega)])) <| ?_
 try simp only [pS]
 obtain ⟨a1, k1, W1, hap1, ho1, hk1, _⟩ := run_appN (w := wk5) 71 71 52 30 312 _ U71 I52 rfl (by decide) wk5.heap.size 0 0 none [] (Own.nil _ _ _ _) (some ⟨gu, 0, none⟩) i v.un.k (mgL (U.take i)) (by rw [mgL_len, List.length_take]; congr 1; omega) (fun e => by cases e) (row_front HF.out.wa.un hgu i) (mgL_one _) (by omega) (by omega) (Nat.le_refl _)
 have hk01 : Kept No wk5 W1 := hk1.mono (fun k _ e => absurd e At.none)
 rw [Nat.zero_add] at hap1 ho1
 rw [List.nil_append] at ho1
 have HFa : Hid (Wg w W1 n0 J J b v x mp I H U D L [(gk1, 52, Mg.cells mgZ), (gk3, 52, Mg.cells m)] [] [(m.bl, p.z)]) := HF.out.no hk01
 refine uR (.slice a1 i k1) W1 (exec_appN _ _ 71 71 rfl _ _ (by kernel_rfl) (by kernel_rfl) hap1) ?_
 try simp only [pS]
 refine uK (.slice a1 i k1) <| WL.nil <| ?_
 try simp only [pS]
 go_upto_region 5 with fail
 refine WL.start <| uK (pV b 0) <| uK (.slice a1 i k1) <| uK (pV b 0) <| uK (pV b 0) <| uK (pV b 6) <| uL 71 ⟨b, 6, none⟩ (v.un.v) (load_one ((HFa.out.wbox).cell 6 |>.trans (by kernel_rfl)) U71 rfl) <| uK (.int .i64 ((i : Nat) : Int)) <| uB .add 3 (.int .i64 ((i : Nat) : Int)) (.int .i64 1) (.int .i64 (((i + 1) : Nat) : Int)) (b_addw _ _ _ (by rw [IntKind.wrap_i64]; omega) _) <| ?_
 try simp only [pS]
 obtain ⟨xa, hsl, hx0, hxc⟩ := row_back HFa.out.wa.un hgu hUl (i := i + 1) (by omega) hcap
 refine uW (.slice xa (v.un.l - (i + 1)) (v.un.k - (i + 1))) ((exec_slL 71 _ _ rfl 30 E71 F71 v.un.a v.un.l v.un.k (i + 1) (by kernel_rfl) (by kernel_rfl) (by omega)).trans (by rw [hsl])) ?_
 try simp only [pS]
 obtain ⟨a2, k2, W2, hap2, ho2, hk12, _⟩ := run_appN (w := W1) 71 71 52 30 312 _ U71 I52 rfl (by decide) wk5.heap.size i k1 a1 (mgL (U.take i)) ho1 xa (v.un.l - (i + 1)) (v.un.k - (i + 1)) (mgL (U.drop (i + 1))) (by rw [mgL_len, List.length_drop]; congr 1; omega) hx0 hxc (mgL_one _) (by omega) (by omega) hk01.size
 have hk02 : Kept No wk5 W2 := hk01.trans hk12 (fun _ e => e) (fun k hk e => by have := Own.base ho1 e; omega)
 rw [← mgL_app] at ho2
 obtain ⟨J2, hG⟩ := HF.out.newU hk02 (un2 := x.un.take i ++ x.un.drop (i + 1)) ho2 ((HF.out.wa.pt.un.cut i).mono (fun a c r => r.kept hk02 (fun _ e => e.elim)))
 have hbY := HF.out.wbox.kept hk02 (fun e => e)
 refine uR (.slice a2 (i + (v.un.l - (i + 1))) k2) W2 (exec_appN _ _ 71 71 rfl _ _ (by kernel_rfl) (by kernel_rfl) hap2) ?_
 try simp only [pS]
 refine uK (pV b 0) <| uK (pV b 6) <| ?_
 try simp only [pS]
 try clear HFa
 refine uT 71 ⟨b, 6, none⟩ (.slice a2 (i + (v.un.l - (i + 1))) k2) (W2.setRow b (Wv.cells ⟨v.gp, v.hd, v.mm, v.aa, v.rr, v.gn, ⟨a2, i + (v.un.l - (i + 1)), k2⟩, v.ds, v.ls, v.now, v.br⟩)) (rs (Wv.cs v) ([.slice a2 (i + (v.un.l - (i + 1))) k2]) (Wv.cs ⟨v.gp, v.hd, v.mm, v.aa, v.rr, v.gn, ⟨a2, i + (v.un.l - (i + 1)), k2⟩, v.ds, v.ls, v.now, v.br⟩) (hbY) S71 (by simp [Value.oneCell', Sl.v])) ?_
 try simp only [pS]
 have HF : Hid (Wg w (W2.setRow b (Wv.cells ⟨v.gp, v.hd, v.mm, v.aa, v.rr, v.gn, ⟨a2, i + (v.un.l - (i + 1)), k2⟩, v.ds, v.ls, v.now, v.br⟩)) n0 J J2 b ⟨v.gp, v.hd, v.mm, v.aa, v.rr, v.gn, ⟨a2, i + (v.un.l - (i + 1)), k2⟩, v.ds, v.ls, v.now, v.br⟩ ({ x with un := x.un.take i ++ x.un.drop (i + 1) }) mp I H (U.take i ++ U.drop (i + 1)) D L [(gk1, 52, Mg.cells mgZ), (gk3, 52, Mg.cells m)] [] [(m.bl, p.z)]) := hG
 try clear hG
 generalize W2.setRow b (Wv.cells ⟨v.gp, v.hd, v.mm, v.aa, v.rr, v.gn, ⟨a2, i + (v.un.l - (i + 1)), k2⟩, v.ds, v.ls, v.now, v.br⟩) = wk6 at HF ⊢
 refine WL.nil ?_
 try simp only [pS]
 go_upto_region 6 with fail
 refine WL.start <| uL 52 ⟨gk3, 0, none⟩ (.agg (Mg.cells m)) (run_load_part (cs := Mg.cs m) (sub := Mg.cs m) (HF.out.box 1 _ _ _ rfl) (Part.all _) U52 rfl S52) <| ?_
 try simp only [pS]
 refine uT 52 ⟨gk1, 0, none⟩ (.agg (Mg.cells m)) (wk6.setRow gk1 (Mg.cells m)) (rs (Mg.cs mgZ) (Mg.cs m) (Mg.cs m) (HF.out.box 0 _ _ _ rfl) S52 (Mg.oneL _)) ?_
 try simp only [pS]
 have HF : Hid _ := HF.out.set 0 rfl (Mg.cells m)
 generalize wk6.setRow gk1 (Mg.cells m) = wk7 at HF ⊢
 refine WL.nil ?_
 try simp only [pS]
 have HM : Hid (m = { mgP p with bl := m.bl }) := hme
 clear hme hrn
 set_option maxRecDepth 1000000 in
 go_wp2
 rw [HC.out]
 refine bodyPost_ret (results_row1 (by rfl) _ _ gk1 (Mg.cells m) (by rfl) (run_load_part (cs := Mg.cs m) (sub := Mg.cs m) (HF.out.box 0 _ _ _ rfl) (Part.all _) U52 rfl S52)) rfl ?_
 obtain ⟨J3, hW3, hup3⟩ := HF.out.out
 exact ⟨p, m, J3, hpi, rfl, ⟨HM.out, HF.out.qs 0 _ rfl⟩, hW3, hup3⟩
end Go.Proofs.Ytgiokkcdgoloaaa.Md
