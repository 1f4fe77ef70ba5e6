import Derived.Test.YtgiokkcdgoloaaaXn
namespace Go.Proofs.Ytgiokkcdgoloaaa.Md
open Go.RowKit
set_option linter.unusedVariables false
set_option linter.unusedSimpArgs false
structure Ev where
 k : Int
 a : Int
 d : Sl
def Ev.cs (x : Ev) : List Value := [.int .i64 x.k, .int .i64 x.a, x.d.v]
def Ev.cells (x : Ev) : Array Value := x.cs.toArray
theorem U107 : Try.prog.underlying 107 = some (.struct (Try.prog.fieldsOf 107)) := by kernel_rfl
theorem S107 : (Try.prog.info? 107).map (·.size) = some 3 := by kernel_rfl
def MOk (n : Nat) (p : Pm) : Prop := (p.too.cl = true ∧ (∃ c : Nat, c < 4 ∧ p.too.id = (c : Int) + 1) ∧ -9223372036854775808 ≤ p.st.n) ∨ (p.too.cl = false ∧ (∃ c : Nat, c < n ∧ p.too.id = (c : Int) + 1) ∧ (p.k = 1 ∨ p.k = 2))
structure EvB (x : Wd) : Prop where
 now : 0 ≤ x.now ∧ x.now ≤ 900000000
 ls : x.ls.length ≤ 900000
 ds : x.ds.length ≤ 900000
 n : x.n ≤ 100
 rd : ∀ c, -1000000000 ≤ x.rd c ∧ x.rd c ≤ 9000000000000000
 at' : ∀ c s, x.m c = some s → x.at' c < x.ds.length
 un : x.un.length ≤ 1000
 ok : ∀ p, p ∈ x.un → MOk x.n p
theorem deliver_any (n0 : Nat) (J : Nat → Prop) (b : Nat) (x : Wd) (p : Pm) (m : Mg) (w : World) (hW : WAt w n0 J b x) (hp : UnM w n0 p m) (hok : MOk x.n p) (hnow : 0 ≤ x.now ∧ x.now ≤ 900000000) (hl : x.ls.length ≤ 900000) (hn : x.n ≤ 100) (hat : ∀ c s, x.m c = some s → x.at' c < x.ds.length) :
 Calls Try.prog 47 #[.pointer (some ⟨b, 0, none⟩), .agg (Mg.cells m)] w (WOut w n0 J b (delW x p)) := by
 obtain ⟨he, hb⟩ := hp
 obtain ⟨k, fr, ⟨tc, ti⟩, op, rd, ky, st, z⟩ := p
 rw [he]
 rcases hok with ⟨h1, ⟨c, hc, h2⟩, h3⟩ | ⟨h1, ⟨c, hc, h2⟩, h3⟩
 · dsimp only at h1 h2 h3
   subst h1 h2
   have e : delW x ⟨k, fr, ⟨true, (c : Int) + 1⟩, op, rd, ky, st, z⟩ = clieW x ⟨k, fr, ⟨true, (c : Int) + 1⟩, op, rd, ky, st, z⟩ c := by
    unfold delW
    dsimp only
    rw [if_pos rfl, if_neg (by omega)]
    congr 1
    omega
   rw [e]
   exact deliver_c n0 J b x k fr c op rd ky st z m.bl w hW hb hc (fun t ht => hat c t ht) ⟨hnow.1, by omega⟩ hl h3
 · dsimp only at h1 h2 h3
   subst h1 h2
   have e : delW x ⟨k, fr, ⟨false, (c : Int) + 1⟩, op, rd, ky, st, z⟩ = servW x ⟨k, fr, ⟨false, (c : Int) + 1⟩, op, rd, ky, st, z⟩ := by
    unfold delW
    dsimp only
    rw [if_neg (by simp), if_neg (by omega)]
   rw [e]
   rcases h3 with h3 | h3
   · subst h3
     exact deliver_s1 n0 J b x fr c op rd ky st z m.bl w hW hb hc (by omega) hl
   · subst h3
     exact deliver_s2 n0 J b x fr c op rd ky st z m.bl w hW hb hc (by omega) hl
theorem exec_slice2m {o : Oper} {a : Act} {w : World} (parts : Array (Nat × Operand)) (ho : o.op = .buildSlice 71 2 parts) (m : Mg) (hp : (parts.map fun (i, x) => (i, a.eval x)) = #[(0, .agg (Mg.cells m)), (1, .agg (Mg.cells m))]) : (execOp a.eval o).run Try.prog w = .ok (.value (.slice (some ⟨w.heap.size, 0, none⟩) 2 2)) (w.alloc (.cells (mgL [m, m]).toArray 52)) := by
 have hr : (Instr.buildSlice 71 2 #[(0, .agg (Mg.cells m)), (1, .agg (Mg.cells m))]).run Try.prog w = .ok (.slice (some ⟨w.heap.size, 0, none⟩) 2 2) (w.alloc (.cells (mgL [m, m]).toArray 52)) := by kernel_rfl
 simp only [execOp, ho, Sem.run_bind, hp, hr, Result.andThen_ok, Sem.run_pure]
theorem Wg.pushU2 {w W : World} {n0 : Nat} {J0 J : Nat → Prop} {b : Nat} {v : Wv} {x : Wd} {mp : Nat → Option Nat} {I : Nat → Nat → Prop} {H : List Bl} {U : List Mg} {D : List Dv} {L : List Lv} {l : List (Nat × TypeId × Array Value)} {T : List Rowx} {Q : List (Sl × List Int)} (G : Wg w W n0 J0 J b v x mp I H U D L l T Q) (hl : v.un.l ≤ 1000000000) {e : Pm} {y : Mg} (hd : UnM W n0 e y) {g cc : Nat} (hnews : ∀ (j : Nat) u, (mgL [y, y])[j]? = some u → W.cell? ((⟨g, 0, none⟩ : Addr).add j) = some u) :
 ∃ a1 k1 W2, (Builtin.append_ #[71, 71] 71 #[v.un.v, .slice (some ⟨g, 0, none⟩) 2 cc]).run Try.prog W = .ok (.slice a1 (v.un.l + 2) k1) W2 ∧ Kept J W W2 ∧ Box W2 b 75 v.cells ∧ ∃ J2, Wg w (W2.setRow b (Wv.cells ⟨v.gp, v.hd, v.mm, v.aa, v.rr, v.gn, ⟨a1, v.un.l + 2, k1⟩, v.ds, v.ls, v.now, v.br⟩)) n0 J0 J2 b ⟨v.gp, v.hd, v.mm, v.aa, v.rr, v.gn, ⟨a1, v.un.l + 2, k1⟩, v.ds, v.ls, v.now, v.br⟩ { x with un := x.un ++ [e, e] } mp I H (U ++ [y, y]) D L l T Q := by
 have A := G.wa.wl
 obtain ⟨a1, k1, W2, h, ho, hk, hn⟩ := run_appN (w := W) 71 71 52 30 312 _ U71 I52 rfl (by decide) n0 v.un.l v.un.k v.un.a (mgL U) G.wa.un (some ⟨g, 0, none⟩) 2 cc (mgL [y, y]) (mgL_len _) (fun e => by cases e) (fun j u hj => ⟨_, rfl, hnews j u hj⟩) (mgL_one _) (by omega) (by omega) A.n0W
 have bb : ∀ {s : Sl} {z : List Int}, By W n0 s z → By W2 n0 s z := fun hb => A.by' (j := 6) (y := (v.un, 52, 30, mgL U)) rfl hk hb
 have h2 := (G.wa.pt.un.mono (fun a c r => (⟨r.e, bb r.b⟩ : UnM W2 n0 a c))).snoc (a := e) (b := y) ⟨hd.e, bb hd.b⟩
 have h3 := h2.snoc (a := e) (b := y) ⟨hd.e, bb hd.b⟩
 rw [List.append_assoc, List.append_assoc] at h3
 obtain ⟨J2, h4, h5, h6⟩ := G.wa.setU (s := ⟨a1, v.un.l + 2, k1⟩) (U2 := U ++ [y, y]) (un2 := x.un ++ [e, e]) hk (by rw [mgL_app]; exact ho) (fun k e => (hn k e).imp id (fun f => by omega)) h3
 exact ⟨a1, k1, W2, h, hk.mono (fun k _ e => A.rj 6 _ k rfl e), h6, J2, G.upd h4 h5⟩
theorem evW_1 (x : Wd) (a : Int) (z : List Int) : evW x 1 a z = begW x (rndW a 4) true z := by unfold evW; simp
theorem evW_2 (x : Wd) (a : Int) (z : List Int) : evW x 2 a z = begW x (rndW a 4) false [] := by unfold evW; simp
theorem evW_6 (x : Wd) (a : Int) (z : List Int) : evW x 6 a z = tickW x (rndW a 4) := by unfold evW; simp
theorem evW_7 (x : Wd) (a : Int) (z : List Int) : evW x 7 a z = { x with gone := upN x.gone (rndW a 4) true } := by unfold evW; simp
theorem evW_o (x : Wd) (k a : Int) (z : List Int) (h : k < 3 ∨ 5 < k) (h1 : k ≠ 1) (h2 : k ≠ 2) (h6 : k ≠ 6) (h7 : k ≠ 7) : evW x k a z = x := by
 unfold evW
 simp only [h1, h2, h6, h7, if_false]
 rw [if_pos (.inr h)]
theorem evW_e (x : Wd) (k a : Int) (z : List Int) (h : x.un.length = 0) (h1 : k ≠ 1) (h2 : k ≠ 2) (h6 : k ≠ 6) (h7 : k ≠ 7) : evW x k a z = x := by
 unfold evW
 simp only [h1, h2, h6, h7, if_false]
 rw [if_pos (.inl h)]
theorem evW_t {x : Wd} {k a : Int} {z : List Int} {p : Pm} (hp : x.un[rndW a x.un.length]? = some p) (h1 : 3 ≤ k) (h2 : k ≤ 5) : evW x k a z = if k = 3 then delW { x with un := x.un.take (rndW a x.un.length) ++ x.un.drop (rndW a x.un.length + 1) } p else if k = 5 then (if (x.un.take (rndW a x.un.length) ++ x.un.drop (rndW a x.un.length + 1)).length < 300 then { x with un := (x.un.take (rndW a x.un.length) ++ x.un.drop (rndW a x.un.length + 1)) ++ [p, p] } else { x with un := x.un.take (rndW a x.un.length) ++ x.un.drop (rndW a x.un.length + 1) }) else { x with un := x.un.take (rndW a x.un.length) ++ x.un.drop (rndW a x.un.length + 1) } := by
 have h0 : ¬ x.un.length = 0 := fun e => by
  have := (List.getElem?_eq_some_iff.1 hp).1
  omega
 unfold evW
 simp only [show ¬ k = 1 by omega, show ¬ k = 2 by omega, show ¬ k = 6 by omega, show ¬ k = 7 by omega, if_false]
 rw [if_neg (by omega), hp]
theorem tickW_no {x : Wd} {c : Nat} (h : x.m c = none) : tickW x c = x := by unfold tickW; rw [h]
theorem tickW_gone {x : Wd} {c : Nat} (h : x.gone c = true) : tickW x c = x := by
 unfold tickW
 split
 · rfl
 · rw [if_pos h]
theorem tickW_some {x : Wd} {c : Nat} {s : RM} (h : x.m c = some s) (hg : x.gone c = false) : tickW x c = sendW x (outs (s, tikP s)) := by
 unfold tickW
 rw [h]
 dsimp only
 rw [if_neg (by rw [hg]; simp)]
theorem upN_id {α : Type} (f : Nat → α) (c : Nat) {a : α} (h : f c = a) : upN f c a = f := by
 funext k
 unfold upN
 split
 · rename_i e; rw [e, h]
 · rfl
set_option maxRecDepth 100000 in
set_option maxHeartbeats 4000000 in
theorem event_1 (n0 : Nat) (J : Nat → Prop) (b : Nat) (x : Wd) (a : Int) (s : Sl) (z : List Int) (w : World) (hW : WAt w n0 J b x) (hz : By w n0 s z) (hB : EvB x) : Calls Try.prog 42 #[.pointer (some ⟨b, 0, none⟩), .agg (Ev.cells ⟨1, a, s⟩)] w (WOut w n0 J b (evW x 1 a z)) := by
 refine hideC fun C HC => ?_
 have hrn : ∀ W : World, Calls Try.prog 20 #[.int .i64 a, .int .i64 4] W (fun e w' => e = .returned (.int .i64 ((rndW a 4 : Nat) : Int)) ∧ w' = W) := fun W => round_any a 4 W (by decide) (by decide)
 have hc : rndW a 4 < 4 := (rnd_mod a 4 (by decide)).2
 obtain ⟨c, hcc⟩ : ∃ c, c = rndW a 4 := ⟨_, rfl⟩
 rw [← hcc] at hrn hc
 obtain ⟨v, mp, I, H, U, D, L, hA⟩ := hW
 have hml := hA.ml
 have hgl := hA.gl
 have hul : x.un.length = v.un.l := by rw [hA.pt.un.1, hA.ul]
 obtain ⟨gm, hgm⟩ := own_at hA.mm (by omega)
 obtain ⟨gg, hgg⟩ := own_at hA.gn (by omega)
 have HF : Hid (Wg w w n0 J J b v x mp I H U D L [] [] [(s, z)]) := (Wg.start hA).byt (Q := []) (Q' := [(s, z)]) (by simpa using hz)
 have HB : Hid (EvB x) := hB
 clear hA hz hB
 go_enter Try.func42, Try.ntmps42
 go_upto_region 0 with fail
 refine WL.start ?_
 refine uR (pV w.heap.size 0) (w.alloc (.cells (Ev.cells ⟨1, a, s⟩) 107)) (exec_box 107 _ rfl (Ev.cells ⟨1, a, s⟩) (by kernel_rfl)) ?_
 try simp only [pS]
 have HF : Hid _ := HF.out.alloc 107 (Ev.cells ⟨1, a, s⟩)
 generalize w.alloc (.cells (Ev.cells ⟨1, a, s⟩) 107) = wk2 at HF ⊢
 generalize w.heap.size = gk1 at HF ⊢
 refine WL.nil ?_
 try simp only [pS]
 go_upto_region 1 with fail
 refine WL.start <| uK (pV gk1 1) <| uL 3 ⟨gk1, 1, none⟩ (.int .i64 a) (ld1 (HF.out.box 0 _ _ _ rfl) 1 U3 rfl) <| ?_
 try simp only [pS]
 refine uC 20 #[.int .i64 a, .int .i64 4] (hrn _) ?_
 rintro e wq ⟨rfl, hwq⟩
 rw [hwq]
 clear hwq wq
 refine ⟨.int .i64 ((c : Nat) : Int), rfl, ?_⟩
 try simp only [pS]
 refine uK (.int .i64 ((c : Nat) : Int)) <| WL.nil <| ?_
 try simp only [pS]
 go_upto_region 2 with fail
 refine WL.start <| uK (pV gk1 0) <| uL 3 ⟨gk1, 0, none⟩ (.int .i64 1) (ld1 (HF.out.box 0 _ _ _ rfl) 0 U3 rfl) <| WL.nil <| ?_
 try simp only [pS]
 go_upto_region 3 with fail
 refine WL.start <| uB .eql 3 (.int .i64 1) (.int .i64 1) (.bool true) (by rw [b_eql]; rfl) <| uK (.bool true) <| WL.nil <| ?_
 try simp only [pS]
 go_upto_region 4 with fail
 refine WL.start <| uK (pV b 0) <| uK (.int .i64 ((c : Nat) : Int)) <| uK (pV gk1 2) <| uL 25 ⟨gk1, 2, none⟩ (s.v) (ld1 (HF.out.box 0 _ _ _ rfl) 2 U25 rfl) <| ?_
 try simp only [pS]
 refine uC 21 #[pV b 0, .int .i64 ((c : Nat) : Int), .bool true, s.v] (begin_w n0 J b x c s z _ ⟨_, _, _, _, _, _, _, HF.out.wa⟩ hc (HF.out.qs 0 _ rfl) HB.out.now HB.out.ls HB.out.ds HB.out.n (HB.out.rd c)) ?_
 rintro e wk3 ⟨rfl, J2, ⟨v2, mp2, I2, H2, U2, D2, L2, hA2⟩, hup⟩
 have HF : Hid _ := HF.out.upd hA2 hup
 clear hA2 hup
 refine ⟨.tuple #[], rfl, ?_⟩
 try simp only [pS]
 refine WL.nil ?_
 try simp only [pS]
 go_upto_region 13 with fail
 refine WL.start <| uK (pV b 0) <| uK (pV b 0) <| uK (pV b 6) <| uL 71 ⟨b, 6, none⟩ (v2.un.v) (ld1 HF.out.wbox 6 U71 rfl) <| uK (.int .i64 ((v2.un.l : Nat) : Int)) <| ?_
 try simp only [pS]
 cases q1 : (((v2.un.l : Nat) : Int) == 0)
 ·skip
  refine uB .eql 3 (.int .i64 ((v2.un.l : Nat) : Int)) (.int .i64 0) (.bool false) (by rw [b_eql, q1]; try rfl) <| uK (.bool false) <| uK (pV gk1 0) <| uL 3 ⟨gk1, 0, none⟩ (.int .i64 1) (ld1 (HF.out.box 0 _ _ _ rfl) 0 U3 rfl) <| uB .lss 3 (.int .i64 1) (.int .i64 3) (.bool true) (by rw [b_lss]; rfl) <| uK (.bool true) <| uK (.bool true) <| uZ <| uZ <| uZ <| uK (.bool true) <| WL.nil <| ?_
  try simp only [pS]
  set_option maxRecDepth 1000000 in
  go_wp2
  rw [HC.out, evW_1, ← hcc]
  refine bodyPost_ret (v := .tuple #[]) (by kernel_rfl) rfl ⟨rfl, HF.out.out⟩
 ·skip
  refine uB .eql 3 (.int .i64 ((v2.un.l : Nat) : Int)) (.int .i64 0) (.bool true) (by rw [b_eql, q1]; try rfl) <| uK (.bool true) <| uZ <| uZ <| uZ <| uK (.bool true) <| uK (.bool true) <| uZ <| uZ <| uZ <| uK (.bool true) <| WL.nil <| ?_
  try simp only [pS]
  set_option maxRecDepth 1000000 in
  go_wp2
  rw [HC.out, evW_1, ← hcc]
  refine bodyPost_ret (v := .tuple #[]) (by kernel_rfl) rfl ⟨rfl, HF.out.out⟩
set_option maxRecDepth 100000 in
set_option maxHeartbeats 4000000 in
theorem event_2 (n0 : Nat) (J : Nat → Prop) (b : Nat) (x : Wd) (a : Int) (s : Sl) (z : List Int) (w : World) (hW : WAt w n0 J b x) (hz : By w n0 s z) (hB : EvB x) : Calls Try.prog 42 #[.pointer (some ⟨b, 0, none⟩), .agg (Ev.cells ⟨2, a, s⟩)] w (WOut w n0 J b (evW x 2 a z)) := by
 refine hideC fun C HC => ?_
 have hrn : ∀ W : World, Calls Try.prog 20 #[.int .i64 a, .int .i64 4] W (fun e w' => e = .returned (.int .i64 ((rndW a 4 : Nat) : Int)) ∧ w' = W) := fun W => round_any a 4 W (by decide) (by decide)
 have hc : rndW a 4 < 4 := (rnd_mod a 4 (by decide)).2
 obtain ⟨c, hcc⟩ : ∃ c, c = rndW a 4 := ⟨_, rfl⟩
 rw [← hcc] at hrn hc
 obtain ⟨v, mp, I, H, U, D, L, hA⟩ := hW
 have hml := hA.ml
 have hgl := hA.gl
 have hul : x.un.length = v.un.l := by rw [hA.pt.un.1, hA.ul]
 obtain ⟨gm, hgm⟩ := own_at hA.mm (by omega)
 obtain ⟨gg, hgg⟩ := own_at hA.gn (by omega)
 have HF : Hid (Wg w w n0 J J b v x mp I H U D L [] [] [(s, z)]) := (Wg.start hA).byt (Q := []) (Q' := [(s, z)]) (by simpa using hz)
 have HB : Hid (EvB x) := hB
 clear hA hz hB
 go_enter Try.func42, Try.ntmps42
 go_upto_region 0 with fail
 refine WL.start ?_
 refine uR (pV w.heap.size 0) (w.alloc (.cells (Ev.cells ⟨2, a, s⟩) 107)) (exec_box 107 _ rfl (Ev.cells ⟨2, a, s⟩) (by kernel_rfl)) ?_
 try simp only [pS]
 have HF : Hid _ := HF.out.alloc 107 (Ev.cells ⟨2, a, s⟩)
 generalize w.alloc (.cells (Ev.cells ⟨2, a, s⟩) 107) = wk2 at HF ⊢
 generalize w.heap.size = gk1 at HF ⊢
 refine WL.nil ?_
 try simp only [pS]
 go_upto_region 1 with fail
 refine WL.start <| uK (pV gk1 1) <| uL 3 ⟨gk1, 1, none⟩ (.int .i64 a) (ld1 (HF.out.box 0 _ _ _ rfl) 1 U3 rfl) <| ?_
 try simp only [pS]
 refine uC 20 #[.int .i64 a, .int .i64 4] (hrn _) ?_
 rintro e wq ⟨rfl, hwq⟩
 rw [hwq]
 clear hwq wq
 refine ⟨.int .i64 ((c : Nat) : Int), rfl, ?_⟩
 try simp only [pS]
 refine uK (.int .i64 ((c : Nat) : Int)) <| WL.nil <| ?_
 try simp only [pS]
 go_upto_region 2 with fail
 refine WL.start <| uK (pV gk1 0) <| uL 3 ⟨gk1, 0, none⟩ (.int .i64 2) (ld1 (HF.out.box 0 _ _ _ rfl) 0 U3 rfl) <| WL.nil <| ?_
 try simp only [pS]
 go_upto_region 3 with fail
 refine WL.start <| uB .eql 3 (.int .i64 2) (.int .i64 1) (.bool false) (by rw [b_eql]; rfl) <| uK (.bool false) <| WL.nil <| ?_
 try simp only [pS]
 go_upto_region 5 with fail
 refine WL.start <| uB .eql 3 (.int .i64 2) (.int .i64 2) (.bool true) (by rw [b_eql]; rfl) <| uK (.bool true) <| WL.nil <| ?_
 try simp only [pS]
 go_upto_region 6 with fail
 refine WL.start <| uK (pV b 0) <| uK (.int .i64 ((c : Nat) : Int)) <| ?_
 try simp only [pS]
 refine uC 21 #[pV b 0, .int .i64 ((c : Nat) : Int), .bool false, .slice none 0 0] (begin_r n0 J b x c _ ⟨_, _, _, _, _, _, _, HF.out.wa⟩ hc HB.out.now HB.out.ls HB.out.ds HB.out.n (HB.out.rd c)) ?_
 rintro e wk3 ⟨rfl, J2, ⟨v2, mp2, I2, H2, U2, D2, L2, hA2⟩, hup⟩
 have HF : Hid _ := HF.out.upd hA2 hup
 clear hA2 hup
 refine ⟨.tuple #[], rfl, ?_⟩
 try simp only [pS]
 refine WL.nil ?_
 try simp only [pS]
 go_upto_region 13 with fail
 refine WL.start <| uK (pV b 0) <| uK (pV b 0) <| uK (pV b 6) <| uL 71 ⟨b, 6, none⟩ (v2.un.v) (ld1 HF.out.wbox 6 U71 rfl) <| uK (.int .i64 ((v2.un.l : Nat) : Int)) <| ?_
 try simp only [pS]
 cases q1 : (((v2.un.l : Nat) : Int) == 0)
 ·skip
  refine uB .eql 3 (.int .i64 ((v2.un.l : Nat) : Int)) (.int .i64 0) (.bool false) (by rw [b_eql, q1]; try rfl) <| uK (.bool false) <| uK (pV gk1 0) <| uL 3 ⟨gk1, 0, none⟩ (.int .i64 2) (ld1 (HF.out.box 0 _ _ _ rfl) 0 U3 rfl) <| uB .lss 3 (.int .i64 2) (.int .i64 3) (.bool true) (by rw [b_lss]; rfl) <| uK (.bool true) <| uK (.bool true) <| uZ <| uZ <| uZ <| uK (.bool true) <| WL.nil <| ?_
  try simp only [pS]
  set_option maxRecDepth 1000000 in
  go_wp2
  rw [HC.out, evW_2, ← hcc]
  refine bodyPost_ret (v := .tuple #[]) (by kernel_rfl) rfl ⟨rfl, HF.out.out⟩
 ·skip
  refine uB .eql 3 (.int .i64 ((v2.un.l : Nat) : Int)) (.int .i64 0) (.bool true) (by rw [b_eql, q1]; try rfl) <| uK (.bool true) <| uZ <| uZ <| uZ <| uK (.bool true) <| uK (.bool true) <| uZ <| uZ <| uZ <| uK (.bool true) <| WL.nil <| ?_
  try simp only [pS]
  set_option maxRecDepth 1000000 in
  go_wp2
  rw [HC.out, evW_2, ← hcc]
  refine bodyPost_ret (v := .tuple #[]) (by kernel_rfl) rfl ⟨rfl, HF.out.out⟩
set_option maxRecDepth 100000 in
set_option maxHeartbeats 4000000 in
theorem event_6 (n0 : Nat) (J : Nat → Prop) (b : Nat) (x : Wd) (a : Int) (s : Sl) (z : List Int) (w : World) (hW : WAt w n0 J b x) (hz : By w n0 s z) (hB : EvB x) : Calls Try.prog 42 #[.pointer (some ⟨b, 0, none⟩), .agg (Ev.cells ⟨6, a, s⟩)] w (WOut w n0 J b (evW x 6 a z)) := by
 refine hideC fun C HC => ?_
 have hrn : ∀ W : World, Calls Try.prog 20 #[.int .i64 a, .int .i64 4] W (fun e w' => e = .returned (.int .i64 ((rndW a 4 : Nat) : Int)) ∧ w' = W) := fun W => round_any a 4 W (by decide) (by decide)
 have hc : rndW a 4 < 4 := (rnd_mod a 4 (by decide)).2
 obtain ⟨c, hcc⟩ : ∃ c, c = rndW a 4 := ⟨_, rfl⟩
 rw [← hcc] at hrn hc
 obtain ⟨v, mp, I, H, U, D, L, hA⟩ := hW
 have hml := hA.ml
 have hgl := hA.gl
 have hul : x.un.length = v.un.l := by rw [hA.pt.un.1, hA.ul]
 obtain ⟨gm, hgm⟩ := own_at hA.mm (by omega)
 obtain ⟨gg, hgg⟩ := own_at hA.gn (by omega)
 have HF : Hid (Wg w w n0 J J b v x mp I H U D L [] [] [(s, z)]) := (Wg.start hA).byt (Q := []) (Q' := [(s, z)]) (by simpa using hz)
 have HB : Hid (EvB x) := hB
 clear hA hz hB
 go_enter Try.func42, Try.ntmps42
 go_upto_region 0 with fail
 refine WL.start ?_
 refine uR (pV w.heap.size 0) (w.alloc (.cells (Ev.cells ⟨6, a, s⟩) 107)) (exec_box 107 _ rfl (Ev.cells ⟨6, a, s⟩) (by kernel_rfl)) ?_
 try simp only [pS]
 have HF : Hid _ := HF.out.alloc 107 (Ev.cells ⟨6, a, s⟩)
 generalize w.alloc (.cells (Ev.cells ⟨6, a, s⟩) 107) = wk2 at HF ⊢
 generalize w.heap.size = gk1 at HF ⊢
 refine WL.nil ?_
 try simp only [pS]
 go_upto_region 1 with fail
 refine WL.start <| uK (pV gk1 1) <| uL 3 ⟨gk1, 1, none⟩ (.int .i64 a) (ld1 (HF.out.box 0 _ _ _ rfl) 1 U3 rfl) <| ?_
 try simp only [pS]
 refine uC 20 #[.int .i64 a, .int .i64 4] (hrn _) ?_
 rintro e wq ⟨rfl, hwq⟩
 rw [hwq]
 clear hwq wq
 refine ⟨.int .i64 ((c : Nat) : Int), rfl, ?_⟩
 try simp only [pS]
 refine uK (.int .i64 ((c : Nat) : Int)) <| WL.nil <| ?_
 try simp only [pS]
 go_upto_region 2 with fail
 refine WL.start <| uK (pV gk1 0) <| uL 3 ⟨gk1, 0, none⟩ (.int .i64 6) (ld1 (HF.out.box 0 _ _ _ rfl) 0 U3 rfl) <| WL.nil <| ?_
 try simp only [pS]
 go_upto_region 3 with fail
 refine WL.start <| uB .eql 3 (.int .i64 6) (.int .i64 1) (.bool false) (by rw [b_eql]; rfl) <| uK (.bool false) <| WL.nil <| ?_
 try simp only [pS]
 go_upto_region 5 with fail
 refine WL.start <| uB .eql 3 (.int .i64 6) (.int .i64 2) (.bool false) (by rw [b_eql]; rfl) <| uK (.bool false) <| WL.nil <| ?_
 try simp only [pS]
 go_upto_region 7 with fail
 refine WL.start <| uB .eql 3 (.int .i64 6) (.int .i64 6) (.bool true) (by rw [b_eql]; rfl) <| uK (.bool true) <| WL.nil <| ?_
 try simp only [pS]
 cases hm : x.m c with
 | none =>
  have hmp : mp c = none := HF.out.wa.wl.mn c hm
  have hfin := tickW_no hm
  go_upto_region 8 with fail
  refine WL.start <| uK (pV b 0) <| uK (pV b 0) <| uK (pV b 2) <| uL 69 ⟨b, 2, none⟩ (v.mm.v) (ld1 HF.out.wbox 2 U69 rfl) <| uK (.int .i64 ((c : Nat) : Int)) <| uW (pV gm (0 + c * 1)) (exec_ixS 69 1 E69 F69 _ _ rfl hgm (by omega)) <| uL 31 ⟨gm, 0 + c * 1, none⟩ (.nilIface) (load_one ((HF.out.wa.mmc hgm hc).trans (by rw [hmp]; rfl)) U31 V31) <| uB .neq 31 (.nilIface) (.nilIface) (.bool false) (neq31_t _) <| uK (.bool false) <| uZ <| uZ <| uZ <| uZ <| uZ <| uZ <| uZ <| uZ <| uK (.bool false) <| WL.nil <| ?_
  try simp only [pS]
  go_upto_region 13 with fail
  refine WL.start <| uK (pV b 0) <| uK (pV b 0) <| uK (pV b 6) <| uL 71 ⟨b, 6, none⟩ (v.un.v) (ld1 HF.out.wbox 6 U71 rfl) <| uK (.int .i64 ((v.un.l : Nat) : Int)) <| ?_
  try simp only [pS]
  cases q1 : (((v.un.l : Nat) : Int) == 0)
  ·skip
   refine uB .eql 3 (.int .i64 ((v.un.l : Nat) : Int)) (.int .i64 0) (.bool false) (by rw [b_eql, q1]; try rfl) <| uK (.bool false) <| uK (pV gk1 0) <| uL 3 ⟨gk1, 0, none⟩ (.int .i64 6) (ld1 (HF.out.box 0 _ _ _ rfl) 0 U3 rfl) <| uB .lss 3 (.int .i64 6) (.int .i64 3) (.bool false) (by rw [b_lss]; rfl) <| uK (.bool false) <| uK (.bool false) <| uK (pV gk1 0) <| uL 3 ⟨gk1, 0, none⟩ (.int .i64 6) (ld1 (HF.out.box 0 _ _ _ rfl) 0 U3 rfl) <| uB .gtr 3 (.int .i64 6) (.int .i64 5) (.bool true) (by rw [b_gtr]; rfl) <| uK (.bool true) <| WL.nil <| ?_
   try simp only [pS]
   set_option maxRecDepth 1000000 in
   go_wp2
   rw [HC.out, evW_6, ← hcc, hfin]
   refine bodyPost_ret (v := .tuple #[]) (by kernel_rfl) rfl ⟨rfl, HF.out.out⟩
  ·skip
   refine uB .eql 3 (.int .i64 ((v.un.l : Nat) : Int)) (.int .i64 0) (.bool true) (by rw [b_eql, q1]; try rfl) <| uK (.bool true) <| uZ <| uZ <| uZ <| uK (.bool true) <| uK (.bool true) <| uZ <| uZ <| uZ <| uK (.bool true) <| WL.nil <| ?_
   try simp only [pS]
   set_option maxRecDepth 1000000 in
   go_wp2
   rw [HC.out, evW_6, ← hcc, hfin]
   refine bodyPost_ret (v := .tuple #[]) (by kernel_rfl) rfl ⟨rfl, HF.out.out⟩
 | some u =>
  obtain ⟨m, hmp, hM⟩ := HF.out.wa.wl.mc c u hm
  have hsl : (outs (u, tikP u)).length ≤ 1000 := by
   have h1 := ss_tik hM
   have h2 := hM.len
   unfold outs
   rw [List.length_map]
   dsimp only
   omega
  clear hM
  cases hgo : x.gone c with
  | true =>
   have hfin := tickW_gone hgo
   go_upto_region 8 with fail
   refine WL.start <| uK (pV b 0) <| uK (pV b 0) <| uK (pV b 2) <| uL 69 ⟨b, 2, none⟩ (v.mm.v) (ld1 HF.out.wbox 2 U69 rfl) <| uK (.int .i64 ((c : Nat) : Int)) <| uW (pV gm (0 + c * 1)) (exec_ixS 69 1 E69 F69 _ _ rfl hgm (by omega)) <| uL 31 ⟨gm, 0 + c * 1, none⟩ (.iface 115 (pV m 0)) (load_one ((HF.out.wa.mmc hgm hc).trans (by rw [hmp]; rfl)) U31 V31) <| uB .neq 31 (.iface 115 (pV m 0)) (.nilIface) (.bool true) (neq31_f _ _) <| uK (.bool true) <| uK (pV b 0) <| uK (pV b 0) <| uK (pV b 5) <| uL 70 ⟨b, 5, none⟩ (v.gn.v) (ld1 HF.out.wbox 5 U70 rfl) <| uK (.int .i64 ((c : Nat) : Int)) <| uW (pV gg (0 + c * 1)) (exec_ixS 70 1 E70 F70 _ _ rfl hgg (by omega)) <| uL 4 ⟨gg, 0 + c * 1, none⟩ (.bool true) (load_one ((HF.out.wa.gnc hgg hc).trans (by rw [hgo])) U4 rfl) <| uK (.bool false) <| uK (.bool false) <| WL.nil <| ?_
   try simp only [pS]
   go_upto_region 13 with fail
   refine WL.start <| uK (pV b 0) <| uK (pV b 0) <| uK (pV b 6) <| uL 71 ⟨b, 6, none⟩ (v.un.v) (ld1 HF.out.wbox 6 U71 rfl) <| uK (.int .i64 ((v.un.l : Nat) : Int)) <| ?_
   try simp only [pS]
   cases q2 : (((v.un.l : Nat) : Int) == 0)
   ·skip
    refine uB .eql 3 (.int .i64 ((v.un.l : Nat) : Int)) (.int .i64 0) (.bool false) (by rw [b_eql, q2]; try rfl) <| uK (.bool false) <| uK (pV gk1 0) <| uL 3 ⟨gk1, 0, none⟩ (.int .i64 6) (ld1 (HF.out.box 0 _ _ _ rfl) 0 U3 rfl) <| uB .lss 3 (.int .i64 6) (.int .i64 3) (.bool false) (by rw [b_lss]; rfl) <| uK (.bool false) <| uK (.bool false) <| uK (pV gk1 0) <| uL 3 ⟨gk1, 0, none⟩ (.int .i64 6) (ld1 (HF.out.box 0 _ _ _ rfl) 0 U3 rfl) <| uB .gtr 3 (.int .i64 6) (.int .i64 5) (.bool true) (by rw [b_gtr]; rfl) <| uK (.bool true) <| WL.nil <| ?_
    try simp only [pS]
    set_option maxRecDepth 1000000 in
    go_wp2
    rw [HC.out, evW_6, ← hcc, hfin]
    refine bodyPost_ret (v := .tuple #[]) (by kernel_rfl) rfl ⟨rfl, HF.out.out⟩
   ·skip
    refine uB .eql 3 (.int .i64 ((v.un.l : Nat) : Int)) (.int .i64 0) (.bool true) (by rw [b_eql, q2]; try rfl) <| uK (.bool true) <| uZ <| uZ <| uZ <| uK (.bool true) <| uK (.bool true) <| uZ <| uZ <| uZ <| uK (.bool true) <| WL.nil <| ?_
    try simp only [pS]
    set_option maxRecDepth 1000000 in
    go_wp2
    rw [HC.out, evW_6, ← hcc, hfin]
    refine bodyPost_ret (v := .tuple #[]) (by kernel_rfl) rfl ⟨rfl, HF.out.out⟩
  | false =>
   have hfin := tickW_some hm hgo
   go_upto_region 8 with fail
   refine WL.start <| uK (pV b 0) <| uK (pV b 0) <| uK (pV b 2) <| uL 69 ⟨b, 2, none⟩ (v.mm.v) (ld1 HF.out.wbox 2 U69 rfl) <| uK (.int .i64 ((c : Nat) : Int)) <| uW (pV gm (0 + c * 1)) (exec_ixS 69 1 E69 F69 _ _ rfl hgm (by omega)) <| uL 31 ⟨gm, 0 + c * 1, none⟩ (.iface 115 (pV m 0)) (load_one ((HF.out.wa.mmc hgm hc).trans (by rw [hmp]; rfl)) U31 V31) <| uB .neq 31 (.iface 115 (pV m 0)) (.nilIface) (.bool true) (neq31_f _ _) <| uK (.bool true) <| uK (pV b 0) <| uK (pV b 0) <| uK (pV b 5) <| uL 70 ⟨b, 5, none⟩ (v.gn.v) (ld1 HF.out.wbox 5 U70 rfl) <| uK (.int .i64 ((c : Nat) : Int)) <| uW (pV gg (0 + c * 1)) (exec_ixS 70 1 E70 F70 _ _ rfl hgg (by omega)) <| uL 4 ⟨gg, 0 + c * 1, none⟩ (.bool false) (load_one ((HF.out.wa.gnc hgg hc).trans (by rw [hgo])) U4 rfl) <| uK (.bool true) <| uK (.bool true) <| WL.nil <| ?_
   try simp only [pS]
   go_upto_region 9 with fail
   refine WL.start <| uK (pV b 0) <| uK (pV b 0) <| uK (pV b 2) <| uL 69 ⟨b, 2, none⟩ (v.mm.v) (ld1 HF.out.wbox 2 U69 rfl) <| uK (.int .i64 ((c : Nat) : Int)) <| uW (pV gm (0 + c * 1)) (exec_ixS 69 1 E69 F69 _ _ rfl hgm (by omega)) <| uL 31 ⟨gm, 0 + c * 1, none⟩ (.iface 115 (pV m 0)) (load_one ((HF.out.wa.mmc hgm hc).trans (by rw [hmp]; rfl)) U31 V31) <| ?_
   try simp only [pS]
   refine uC 86 #[pV m 0] (tick_M5 (HF.out.mch hm hmp)) ?_
   rintro e wk3 hO
   obtain ⟨la, lc, ms, I2, J2, rfl, hL, hU2, hJ2, hG⟩ := HF.out.tell hmp hO (toOk_tik _)
   have HF : Hid (Wg w wk3 n0 J J2 b v ({ x with m := upN x.m c (some u) }) mp I2 H U D L [(gk1, 107, Ev.cells ⟨6, a, s⟩)] [] [(s, z)]) := hG
   clear hG hO
   have HF : Hid (Wg w wk3 n0 J J2 b v x mp I2 H U D L [(gk1, 107, Ev.cells ⟨6, a, s⟩)] [] [(s, z)]) := by
    have h1 := HF.out
    rw [upN_id _ _ hm] at h1
    exact h1
   refine ⟨.slice la ms.length lc, rfl, ?_⟩
   try simp only [pS]
   refine uK (.slice la ms.length lc) <| WL.nil <| ?_
   try simp only [pS]
   go_upto_region 10 with fail
   refine WL.start <| uK (pV b 0) <| uK (.slice la ms.length lc) <| ?_
   try simp only [pS]
   refine uC 45 #[pV b 0, .slice la ms.length lc] (send_any n0 J2 b x ⟨la, ms.length, lc⟩ (outs (u, tikP u)) ms _ ⟨_, _, _, _, _, _, _, HF.out.wa⟩ hL hJ2 hU2 (by have := hsl; have := HB.out.ls; omega)) ?_
   rintro e wk4 ⟨rfl, Jq, ⟨vq, mpq, Iq, Hq, Uq, Dq, Lq, hAq⟩, hup⟩
   have HF : Hid _ := HF.out.upd hAq hup
   clear hAq hup
   refine ⟨.tuple #[], rfl, ?_⟩
   try simp only [pS]
   refine WL.nil ?_
   try simp only [pS]
   go_upto_region 13 with fail
   refine WL.start <| uK (pV b 0) <| uK (pV b 0) <| uK (pV b 6) <| uL 71 ⟨b, 6, none⟩ (vq.un.v) (ld1 HF.out.wbox 6 U71 rfl) <| uK (.int .i64 ((vq.un.l : Nat) : Int)) <| ?_
   try simp only [pS]
   cases q3 : (((vq.un.l : Nat) : Int) == 0)
   ·skip
    refine uB .eql 3 (.int .i64 ((vq.un.l : Nat) : Int)) (.int .i64 0) (.bool false) (by rw [b_eql, q3]; try rfl) <| uK (.bool false) <| uK (pV gk1 0) <| uL 3 ⟨gk1, 0, none⟩ (.int .i64 6) (ld1 (HF.out.box 0 _ _ _ rfl) 0 U3 rfl) <| uB .lss 3 (.int .i64 6) (.int .i64 3) (.bool false) (by rw [b_lss]; rfl) <| uK (.bool false) <| uK (.bool false) <| uK (pV gk1 0) <| uL 3 ⟨gk1, 0, none⟩ (.int .i64 6) (ld1 (HF.out.box 0 _ _ _ rfl) 0 U3 rfl) <| uB .gtr 3 (.int .i64 6) (.int .i64 5) (.bool true) (by rw [b_gtr]; rfl) <| uK (.bool true) <| WL.nil <| ?_
    try simp only [pS]
    set_option maxRecDepth 1000000 in
    go_wp2
    rw [HC.out, evW_6, ← hcc, hfin]
    refine bodyPost_ret (v := .tuple #[]) (by kernel_rfl) rfl ⟨rfl, HF.out.out⟩
   ·skip
    refine uB .eql 3 (.int .i64 ((vq.un.l : Nat) : Int)) (.int .i64 0) (.bool true) (by rw [b_eql, q3]; try rfl) <| uK (.bool true) <| uZ <| uZ <| uZ <| uK (.bool true) <| uK (.bool true) <| uZ <| uZ <| uZ <| uK (.bool true) <| WL.nil <| ?_
    try simp only [pS]
    set_option maxRecDepth 1000000 in
    go_wp2
    rw [HC.out, evW_6, ← hcc, hfin]
    refine bodyPost_ret (v := .tuple #[]) (by kernel_rfl) rfl ⟨rfl, HF.out.out⟩
set_option maxRecDepth 100000 in
set_option maxHeartbeats 4000000 in
theorem event_7 (n0 : Nat) (J : Nat → Prop) (b : Nat) (x : Wd) (a : Int) (s : Sl) (z : List Int) (w : World) (hW : WAt w n0 J b x) (hz : By w n0 s z) (hB : EvB x) : Calls Try.prog 42 #[.pointer (some ⟨b, 0, none⟩), .agg (Ev.cells ⟨7, a, s⟩)] w (WOut w n0 J b (evW x 7 a z)) := by
 refine hideC fun C HC => ?_
 have hrn : ∀ W : World, Calls Try.prog 20 #[.int .i64 a, .int .i64 4] W (fun e w' => e = .returned (.int .i64 ((rndW a 4 : Nat) : Int)) ∧ w' = W) := fun W => round_any a 4 W (by decide) (by decide)
 have hc : rndW a 4 < 4 := (rnd_mod a 4 (by decide)).2
 obtain ⟨c, hcc⟩ : ∃ c, c = rndW a 4 := ⟨_, rfl⟩
 rw [← hcc] at hrn hc
 obtain ⟨v, mp, I, H, U, D, L, hA⟩ := hW
 have hml := hA.ml
 have hgl := hA.gl
 have hul : x.un.length = v.un.l := by rw [hA.pt.un.1, hA.ul]
 obtain ⟨gm, hgm⟩ := own_at hA.mm (by omega)
 obtain ⟨gg, hgg⟩ := own_at hA.gn (by omega)
 have HF : Hid (Wg w w n0 J J b v x mp I H U D L [] [] [(s, z)]) := (Wg.start hA).byt (Q := []) (Q' := [(s, z)]) (by simpa using hz)
 have HB : Hid (EvB x) := hB
 clear hA hz hB
 go_enter Try.func42, Try.ntmps42
 go_upto_region 0 with fail
 refine WL.start ?_
 refine uR (pV w.heap.size 0) (w.alloc (.cells (Ev.cells ⟨7, a, s⟩) 107)) (exec_box 107 _ rfl (Ev.cells ⟨7, a, s⟩) (by kernel_rfl)) ?_
 try simp only [pS]
 have HF : Hid _ := HF.out.alloc 107 (Ev.cells ⟨7, a, s⟩)
 generalize w.alloc (.cells (Ev.cells ⟨7, a, s⟩) 107) = wk2 at HF ⊢
 generalize w.heap.size = gk1 at HF ⊢
 refine WL.nil ?_
 try simp only [pS]
 go_upto_region 1 with fail
 refine WL.start <| uK (pV gk1 1) <| uL 3 ⟨gk1, 1, none⟩ (.int .i64 a) (ld1 (HF.out.box 0 _ _ _ rfl) 1 U3 rfl) <| ?_
 try simp only [pS]
 refine uC 20 #[.int .i64 a, .int .i64 4] (hrn _) ?_
 rintro e wq ⟨rfl, hwq⟩
 rw [hwq]
 clear hwq wq
 refine ⟨.int .i64 ((c : Nat) : Int), rfl, ?_⟩
 try simp only [pS]
 refine uK (.int .i64 ((c : Nat) : Int)) <| WL.nil <| ?_
 try simp only [pS]
 go_upto_region 2 with fail
 refine WL.start <| uK (pV gk1 0) <| uL 3 ⟨gk1, 0, none⟩ (.int .i64 7) (ld1 (HF.out.box 0 _ _ _ rfl) 0 U3 rfl) <| WL.nil <| ?_
 try simp only [pS]
 go_upto_region 3 with fail
 refine WL.start <| uB .eql 3 (.int .i64 7) (.int .i64 1) (.bool false) (by rw [b_eql]; rfl) <| uK (.bool false) <| WL.nil <| ?_
 try simp only [pS]
 go_upto_region 5 with fail
 refine WL.start <| uB .eql 3 (.int .i64 7) (.int .i64 2) (.bool false) (by rw [b_eql]; rfl) <| uK (.bool false) <| WL.nil <| ?_
 try simp only [pS]
 go_upto_region 7 with fail
 refine WL.start <| uB .eql 3 (.int .i64 7) (.int .i64 6) (.bool false) (by rw [b_eql]; rfl) <| uK (.bool false) <| WL.nil <| ?_
 try simp only [pS]
 go_upto_region 11 with fail
 refine WL.start <| uB .eql 3 (.int .i64 7) (.int .i64 7) (.bool true) (by rw [b_eql]; rfl) <| uK (.bool true) <| WL.nil <| ?_
 try simp only [pS]
 go_upto_region 12 with fail
 refine WL.start <| uK (pV b 0) <| uK (pV b 0) <| uK (pV b 5) <| uL 70 ⟨b, 5, none⟩ (v.gn.v) (ld1 HF.out.wbox 5 U70 rfl) <| uK (.int .i64 ((c : Nat) : Int)) <| uW (pV gg (0 + c * 1)) (exec_ixS 70 1 E70 F70 _ _ rfl hgg (by omega)) <| ?_
 try simp only [pS]
 obtain ⟨csg, J2, hst, hG⟩ := HF.out.setG hgg hc true
 refine uT 4 ⟨gg, 0 + c * 1, none⟩ (.bool true) (wk2.setRow gg csg) hst ?_
 try simp only [pS]
 have HF : Hid (Wg w (wk2.setRow gg csg) n0 J J2 b v ({ x with gone := upN x.gone c true }) mp I H U D L [(gk1, 107, Ev.cells ⟨7, a, s⟩)] [] [(s, z)]) := hG
 clear hG hst
 generalize wk2.setRow gg csg = wk3 at HF ⊢
 refine WL.nil ?_
 try simp only [pS]
 go_upto_region 13 with fail
 refine WL.start <| uK (pV b 0) <| uK (pV b 0) <| uK (pV b 6) <| uL 71 ⟨b, 6, none⟩ (v.un.v) (ld1 HF.out.wbox 6 U71 rfl) <| uK (.int .i64 ((v.un.l : Nat) : Int)) <| ?_
 try simp only [pS]
 cases q1 : (((v.un.l : Nat) : Int) == 0)
 ·skip
  refine uB .eql 3 (.int .i64 ((v.un.l : Nat) : Int)) (.int .i64 0) (.bool false) (by rw [b_eql, q1]; try rfl) <| uK (.bool false) <| uK (pV gk1 0) <| uL 3 ⟨gk1, 0, none⟩ (.int .i64 7) (ld1 (HF.out.box 0 _ _ _ rfl) 0 U3 rfl) <| uB .lss 3 (.int .i64 7) (.int .i64 3) (.bool false) (by rw [b_lss]; rfl) <| uK (.bool false) <| uK (.bool false) <| uK (pV gk1 0) <| uL 3 ⟨gk1, 0, none⟩ (.int .i64 7) (ld1 (HF.out.box 0 _ _ _ rfl) 0 U3 rfl) <| uB .gtr 3 (.int .i64 7) (.int .i64 5) (.bool true) (by rw [b_gtr]; rfl) <| uK (.bool true) <| WL.nil <| ?_
  try simp only [pS]
  set_option maxRecDepth 1000000 in
  go_wp2
  rw [HC.out, evW_7, ← hcc]
  refine bodyPost_ret (v := .tuple #[]) (by kernel_rfl) rfl ⟨rfl, HF.out.out⟩
 ·skip
  refine uB .eql 3 (.int .i64 ((v.un.l : Nat) : Int)) (.int .i64 0) (.bool true) (by rw [b_eql, q1]; try rfl) <| uK (.bool true) <| uZ <| uZ <| uZ <| uK (.bool true) <| uK (.bool true) <| uZ <| uZ <| uZ <| uK (.bool true) <| WL.nil <| ?_
  try simp only [pS]
  set_option maxRecDepth 1000000 in
  go_wp2
  rw [HC.out, evW_7, ← hcc]
  refine bodyPost_ret (v := .tuple #[]) (by kernel_rfl) rfl ⟨rfl, HF.out.out⟩
set_option maxRecDepth 100000 in
set_option maxHeartbeats 4000000 in
theorem event_o1 (n0 : Nat) (J : Nat → Prop) (b : Nat) (x : Wd) (k a : Int) (s : Sl) (z : List Int) (w : World) (hW : WAt w n0 J b x) (hz : By w n0 s z) (hB : EvB x) (hk : k < 3) (hk1 : k ≠ 1) (hk2 : k ≠ 2) (hk6 : k ≠ 6) (hk7 : k ≠ 7) : Calls Try.prog 42 #[.pointer (some ⟨b, 0, none⟩), .agg (Ev.cells ⟨k, a, s⟩)] w (WOut w n0 J b (evW x k a z)) := by
 refine hideC fun C HC => ?_
 have hrn : ∀ W : World, Calls Try.prog 20 #[.int .i64 a, .int .i64 4] W (fun e w' => e = .returned (.int .i64 ((rndW a 4 : Nat) : Int)) ∧ w' = W) := fun W => round_any a 4 W (by decide) (by decide)
 have hc : rndW a 4 < 4 := (rnd_mod a 4 (by decide)).2
 obtain ⟨c, hcc⟩ : ∃ c, c = rndW a 4 := ⟨_, rfl⟩
 rw [← hcc] at hrn hc
 obtain ⟨v, mp, I, H, U, D, L, hA⟩ := hW
 have hml := hA.ml
 have hgl := hA.gl
 have hul : x.un.length = v.un.l := by rw [hA.pt.un.1, hA.ul]
 obtain ⟨gm, hgm⟩ := own_at hA.mm (by omega)
 obtain ⟨gg, hgg⟩ := own_at hA.gn (by omega)
 have HF : Hid (Wg w w n0 J J b v x mp I H U D L [] [] [(s, z)]) := (Wg.start hA).byt (Q := []) (Q' := [(s, z)]) (by simpa using hz)
 have HB : Hid (EvB x) := hB
 clear hA hz hB
 go_enter Try.func42, Try.ntmps42
 go_upto_region 0 with fail
 refine WL.start ?_
 refine uR (pV w.heap.size 0) (w.alloc (.cells (Ev.cells ⟨k, a, s⟩) 107)) (exec_box 107 _ rfl (Ev.cells ⟨k, a, s⟩) (by kernel_rfl)) ?_
 try simp only [pS]
 have HF : Hid _ := HF.out.alloc 107 (Ev.cells ⟨k, a, s⟩)
 generalize w.alloc (.cells (Ev.cells ⟨k, a, s⟩) 107) = wk2 at HF ⊢
 generalize w.heap.size = gk1 at HF ⊢
 refine WL.nil ?_
 try simp only [pS]
 go_upto_region 1 with fail
 refine WL.start <| uK (pV gk1 1) <| uL 3 ⟨gk1, 1, none⟩ (.int .i64 a) (ld1 (HF.out.box 0 _ _ _ rfl) 1 U3 rfl) <| ?_
 try simp only [pS]
 refine uC 20 #[.int .i64 a, .int .i64 4] (hrn _) ?_
 rintro e wq ⟨rfl, hwq⟩
 rw [hwq]
 clear hwq wq
 refine ⟨.int .i64 ((c : Nat) : Int), rfl, ?_⟩
 try simp only [pS]
 refine uK (.int .i64 ((c : Nat) : Int)) <| WL.nil <| ?_
 try simp only [pS]
 go_upto_region 2 with fail
 refine WL.start <| uK (pV gk1 0) <| uL 3 ⟨gk1, 0, none⟩ (.int .i64 k) (ld1 (HF.out.box 0 _ _ _ rfl) 0 U3 rfl) <| WL.nil <| ?_
 try simp only [pS]
 go_upto_region 3 with fail
 refine WL.start <| uB .eql 3 (.int .i64 k) (.int .i64 1) (.bool false) (by rw [b_eql, beq_eq_false_iff_ne.2 (by omega)]) <| uK (.bool false) <| WL.nil <| ?_
 try simp only [pS]
 go_upto_region 5 with fail
 refine WL.start <| uB .eql 3 (.int .i64 k) (.int .i64 2) (.bool false) (by rw [b_eql, beq_eq_false_iff_ne.2 (by omega)]) <| uK (.bool false) <| WL.nil <| ?_
 try simp only [pS]
 go_upto_region 7 with fail
 refine WL.start <| uB .eql 3 (.int .i64 k) (.int .i64 6) (.bool false) (by rw [b_eql, beq_eq_false_iff_ne.2 (by omega)]) <| uK (.bool false) <| WL.nil <| ?_
 try simp only [pS]
 go_upto_region 11 with fail
 refine WL.start <| uB .eql 3 (.int .i64 k) (.int .i64 7) (.bool false) (by rw [b_eql, beq_eq_false_iff_ne.2 (by omega)]) <| uK (.bool false) <| WL.nil <| ?_
 try simp only [pS]
 go_upto_region 13 with fail
 refine WL.start <| uK (pV b 0) <| uK (pV b 0) <| uK (pV b 6) <| uL 71 ⟨b, 6, none⟩ (v.un.v) (ld1 HF.out.wbox 6 U71 rfl) <| uK (.int .i64 ((v.un.l : Nat) : Int)) <| ?_
 try simp only [pS]
 cases q1 : (((v.un.l : Nat) : Int) == 0)
 ·skip
  refine uB .eql 3 (.int .i64 ((v.un.l : Nat) : Int)) (.int .i64 0) (.bool false) (by rw [b_eql, q1]; try rfl) <| uK (.bool false) <| uK (pV gk1 0) <| uL 3 ⟨gk1, 0, none⟩ (.int .i64 k) (ld1 (HF.out.box 0 _ _ _ rfl) 0 U3 rfl) <| uB .lss 3 (.int .i64 k) (.int .i64 3) (.bool true) (by rw [b_lss, decide_eq_true (by omega)]) <| uK (.bool true) <| uK (.bool true) <| uZ <| uZ <| uZ <| uK (.bool true) <| WL.nil <| ?_
  try simp only [pS]
  set_option maxRecDepth 1000000 in
  go_wp2
  rw [HC.out, evW_o x k a z (by omega) hk1 hk2 hk6 hk7]
  refine bodyPost_ret (v := .tuple #[]) (by kernel_rfl) rfl ⟨rfl, HF.out.out⟩
 ·skip
  refine uB .eql 3 (.int .i64 ((v.un.l : Nat) : Int)) (.int .i64 0) (.bool true) (by rw [b_eql, q1]; try rfl) <| uK (.bool true) <| uZ <| uZ <| uZ <| uK (.bool true) <| uK (.bool true) <| uZ <| uZ <| uZ <| uK (.bool true) <| WL.nil <| ?_
  try simp only [pS]
  set_option maxRecDepth 1000000 in
  go_wp2
  rw [HC.out, evW_o x k a z (by omega) hk1 hk2 hk6 hk7]
  refine bodyPost_ret (v := .tuple #[]) (by kernel_rfl) rfl ⟨rfl, HF.out.out⟩
set_option maxRecDepth 100000 in
set_option maxHeartbeats 4000000 in
theorem event_o2 (n0 : Nat) (J : Nat → Prop) (b : Nat) (x : Wd) (k a : Int) (s : Sl) (z : List Int) (w : World) (hW : WAt w n0 J b x) (hz : By w n0 s z) (hB : EvB x) (hk : 5 < k) (hk1 : k ≠ 1) (hk2 : k ≠ 2) (hk6 : k ≠ 6) (hk7 : k ≠ 7) : Calls Try.prog 42 #[.pointer (some ⟨b, 0, none⟩), .agg (Ev.cells ⟨k, a, s⟩)] w (WOut w n0 J b (evW x k a z)) := by
 refine hideC fun C HC => ?_
 have hrn : ∀ W : World, Calls Try.prog 20 #[.int .i64 a, .int .i64 4] W (fun e w' => e = .returned (.int .i64 ((rndW a 4 : Nat) : Int)) ∧ w' = W) := fun W => round_any a 4 W (by decide) (by decide)
 have hc : rndW a 4 < 4 := (rnd_mod a 4 (by decide)).2
 obtain ⟨c, hcc⟩ : ∃ c, c = rndW a 4 := ⟨_, rfl⟩
 rw [← hcc] at hrn hc
 obtain ⟨v, mp, I, H, U, D, L, hA⟩ := hW
 have hml := hA.ml
 have hgl := hA.gl
 have hul : x.un.length = v.un.l := by rw [hA.pt.un.1, hA.ul]
 obtain ⟨gm, hgm⟩ := own_at hA.mm (by omega)
 obtain ⟨gg, hgg⟩ := own_at hA.gn (by omega)
 have HF : Hid (Wg w w n0 J J b v x mp I H U D L [] [] [(s, z)]) := (Wg.start hA).byt (Q := []) (Q' := [(s, z)]) (by simpa using hz)
 have HB : Hid (EvB x) := hB
 clear hA hz hB
 go_enter Try.func42, Try.ntmps42
 go_upto_region 0 with fail
 refine WL.start ?_
 refine uR (pV w.heap.size 0) (w.alloc (.cells (Ev.cells ⟨k, a, s⟩) 107)) (exec_box 107 _ rfl (Ev.cells ⟨k, a, s⟩) (by kernel_rfl)) ?_
 try simp only [pS]
 have HF : Hid _ := HF.out.alloc 107 (Ev.cells ⟨k, a, s⟩)
 generalize w.alloc (.cells (Ev.cells ⟨k, a, s⟩) 107) = wk2 at HF ⊢
 generalize w.heap.size = gk1 at HF ⊢
 refine WL.nil ?_
 try simp only [pS]
 go_upto_region 1 with fail
 refine WL.start <| uK (pV gk1 1) <| uL 3 ⟨gk1, 1, none⟩ (.int .i64 a) (ld1 (HF.out.box 0 _ _ _ rfl) 1 U3 rfl) <| ?_
 try simp only [pS]
 refine uC 20 #[.int .i64 a, .int .i64 4] (hrn _) ?_
 rintro e wq ⟨rfl, hwq⟩
 rw [hwq]
 clear hwq wq
 refine ⟨.int .i64 ((c : Nat) : Int), rfl, ?_⟩
 try simp only [pS]
 refine uK (.int .i64 ((c : Nat) : Int)) <| WL.nil <| ?_
 try simp only [pS]
 go_upto_region 2 with fail
 refine WL.start <| uK (pV gk1 0) <| uL 3 ⟨gk1, 0, none⟩ (.int .i64 k) (ld1 (HF.out.box 0 _ _ _ rfl) 0 U3 rfl) <| WL.nil <| ?_
 try simp only [pS]
 go_upto_region 3 with fail
 refine WL.start <| uB .eql 3 (.int .i64 k) (.int .i64 1) (.bool false) (by rw [b_eql, beq_eq_false_iff_ne.2 (by omega)]) <| uK (.bool false) <| WL.nil <| ?_
 try simp only [pS]
 go_upto_region 5 with fail
 refine WL.start <| uB .eql 3 (.int .i64 k) (.int .i64 2) (.bool false) (by rw [b_eql, beq_eq_false_iff_ne.2 (by omega)]) <| uK (.bool false) <| WL.nil <| ?_
 try simp only [pS]
 go_upto_region 7 with fail
 refine WL.start <| uB .eql 3 (.int .i64 k) (.int .i64 6) (.bool false) (by rw [b_eql, beq_eq_false_iff_ne.2 (by omega)]) <| uK (.bool false) <| WL.nil <| ?_
 try simp only [pS]
 go_upto_region 11 with fail
 refine WL.start <| uB .eql 3 (.int .i64 k) (.int .i64 7) (.bool false) (by rw [b_eql, beq_eq_false_iff_ne.2 (by omega)]) <| uK (.bool false) <| WL.nil <| ?_
 try simp only [pS]
 go_upto_region 13 with fail
 refine WL.start <| uK (pV b 0) <| uK (pV b 0) <| uK (pV b 6) <| uL 71 ⟨b, 6, none⟩ (v.un.v) (ld1 HF.out.wbox 6 U71 rfl) <| uK (.int .i64 ((v.un.l : Nat) : Int)) <| ?_
 try simp only [pS]
 cases q1 : (((v.un.l : Nat) : Int) == 0)
 ·skip
  refine uB .eql 3 (.int .i64 ((v.un.l : Nat) : Int)) (.int .i64 0) (.bool false) (by rw [b_eql, q1]; try rfl) <| uK (.bool false) <| uK (pV gk1 0) <| uL 3 ⟨gk1, 0, none⟩ (.int .i64 k) (ld1 (HF.out.box 0 _ _ _ rfl) 0 U3 rfl) <| uB .lss 3 (.int .i64 k) (.int .i64 3) (.bool false) (by rw [b_lss, decide_eq_false (by omega)]) <| uK (.bool false) <| uK (.bool false) <| uK (pV gk1 0) <| uL 3 ⟨gk1, 0, none⟩ (.int .i64 k) (ld1 (HF.out.box 0 _ _ _ rfl) 0 U3 rfl) <| uB .gtr 3 (.int .i64 k) (.int .i64 5) (.bool true) (by rw [b_gtr, decide_eq_true (by omega)]) <| uK (.bool true) <| WL.nil <| ?_
  try simp only [pS]
  set_option maxRecDepth 1000000 in
  go_wp2
  rw [HC.out, evW_o x k a z (by omega) hk1 hk2 hk6 hk7]
  refine bodyPost_ret (v := .tuple #[]) (by kernel_rfl) rfl ⟨rfl, HF.out.out⟩
 ·skip
  refine uB .eql 3 (.int .i64 ((v.un.l : Nat) : Int)) (.int .i64 0) (.bool true) (by rw [b_eql, q1]; try rfl) <| uK (.bool true) <| uZ <| uZ <| uZ <| uK (.bool true) <| uK (.bool true) <| uZ <| uZ <| uZ <| uK (.bool true) <| WL.nil <| ?_
  try simp only [pS]
  set_option maxRecDepth 1000000 in
  go_wp2
  rw [HC.out, evW_o x k a z (by omega) hk1 hk2 hk6 hk7]
  refine bodyPost_ret (v := .tuple #[]) (by kernel_rfl) rfl ⟨rfl, HF.out.out⟩
set_option maxRecDepth 100000 in
set_option maxHeartbeats 4000000 in
theorem event_3 (n0 : Nat) (J : Nat → Prop) (b : Nat) (x : Wd) (a : Int) (s : Sl) (z : List Int) (w : World) (hW : WAt w n0 J b x) (hz : By w n0 s z) (hB : EvB x) : Calls Try.prog 42 #[.pointer (some ⟨b, 0, none⟩), .agg (Ev.cells ⟨3, a, s⟩)] w (WOut w n0 J b (evW x 3 a z)) := by
 refine hideC fun C HC => ?_
 have hrn : ∀ W : World, Calls Try.prog 20 #[.int .i64 a, .int .i64 4] W (fun e w' => e = .returned (.int .i64 ((rndW a 4 : Nat) : Int)) ∧ w' = W) := fun W => round_any a 4 W (by decide) (by decide)
 have hc : rndW a 4 < 4 := (rnd_mod a 4 (by decide)).2
 obtain ⟨c, hcc⟩ : ∃ c, c = rndW a 4 := ⟨_, rfl⟩
 rw [← hcc] at hrn hc
 obtain ⟨v, mp, I, H, U, D, L, hA⟩ := hW
 have hml := hA.ml
 have hgl := hA.gl
 have hul : x.un.length = v.un.l := by rw [hA.pt.un.1, hA.ul]
 obtain ⟨gm, hgm⟩ := own_at hA.mm (by omega)
 obtain ⟨gg, hgg⟩ := own_at hA.gn (by omega)
 have HF : Hid (Wg w w n0 J J b v x mp I H U D L [] [] [(s, z)]) := (Wg.start hA).byt (Q := []) (Q' := [(s, z)]) (by simpa using hz)
 have HB : Hid (EvB x) := hB
 clear hA hz hB
 go_enter Try.func42, Try.ntmps42
 go_upto_region 0 with fail
 refine WL.start ?_
 refine uR (pV w.heap.size 0) (w.alloc (.cells (Ev.cells ⟨3, a, s⟩) 107)) (exec_box 107 _ rfl (Ev.cells ⟨3, a, s⟩) (by kernel_rfl)) ?_
 try simp only [pS]
 have HF : Hid _ := HF.out.alloc 107 (Ev.cells ⟨3, a, s⟩)
 generalize w.alloc (.cells (Ev.cells ⟨3, a, s⟩) 107) = wk2 at HF ⊢
 generalize w.heap.size = gk1 at HF ⊢
 refine WL.nil ?_
 try simp only [pS]
 go_upto_region 1 with fail
 refine WL.start <| uK (pV gk1 1) <| uL 3 ⟨gk1, 1, none⟩ (.int .i64 a) (ld1 (HF.out.box 0 _ _ _ rfl) 1 U3 rfl) <| ?_
 try simp only [pS]
 refine uC 20 #[.int .i64 a, .int .i64 4] (hrn _) ?_
 rintro e wq ⟨rfl, hwq⟩
 rw [hwq]
 clear hwq wq
 refine ⟨.int .i64 ((c : Nat) : Int), rfl, ?_⟩
 try simp only [pS]
 refine uK (.int .i64 ((c : Nat) : Int)) <| WL.nil <| ?_
 try simp only [pS]
 go_upto_region 2 with fail
 refine WL.start <| uK (pV gk1 0) <| uL 3 ⟨gk1, 0, none⟩ (.int .i64 3) (ld1 (HF.out.box 0 _ _ _ rfl) 0 U3 rfl) <| WL.nil <| ?_
 try simp only [pS]
 go_upto_region 3 with fail
 refine WL.start <| uB .eql 3 (.int .i64 3) (.int .i64 1) (.bool false) (by rw [b_eql]; rfl) <| uK (.bool false) <| WL.nil <| ?_
 try simp only [pS]
 go_upto_region 5 with fail
 refine WL.start <| uB .eql 3 (.int .i64 3) (.int .i64 2) (.bool false) (by rw [b_eql]; rfl) <| uK (.bool false) <| WL.nil <| ?_
 try simp only [pS]
 go_upto_region 7 with fail
 refine WL.start <| uB .eql 3 (.int .i64 3) (.int .i64 6) (.bool false) (by rw [b_eql]; rfl) <| uK (.bool false) <| WL.nil <| ?_
 try simp only [pS]
 go_upto_region 11 with fail
 refine WL.start <| uB .eql 3 (.int .i64 3) (.int .i64 7) (.bool false) (by rw [b_eql]; rfl) <| uK (.bool false) <| WL.nil <| ?_
 try simp only [pS]
 go_upto_region 13 with fail
 refine WL.start <| uK (pV b 0) <| uK (pV b 0) <| uK (pV b 6) <| uL 71 ⟨b, 6, none⟩ (v.un.v) (ld1 HF.out.wbox 6 U71 rfl) <| uK (.int .i64 ((v.un.l : Nat) : Int)) <| ?_
 try simp only [pS]
 cases q1 : (((v.un.l : Nat) : Int) == 0)
 ·skip
  refine uB .eql 3 (.int .i64 ((v.un.l : Nat) : Int)) (.int .i64 0) (.bool false) (by rw [b_eql, q1]; try rfl) <| uK (.bool false) <| uK (pV gk1 0) <| uL 3 ⟨gk1, 0, none⟩ (.int .i64 3) (ld1 (HF.out.box 0 _ _ _ rfl) 0 U3 rfl) <| uB .lss 3 (.int .i64 3) (.int .i64 3) (.bool false) (by rw [b_lss]; rfl) <| uK (.bool false) <| uK (.bool false) <| uK (pV gk1 0) <| uL 3 ⟨gk1, 0, none⟩ (.int .i64 3) (ld1 (HF.out.box 0 _ _ _ rfl) 0 U3 rfl) <| uB .gtr 3 (.int .i64 3) (.int .i64 5) (.bool false) (by rw [b_gtr]; rfl) <| uK (.bool false) <| WL.nil <| ?_
  try simp only [pS]
  have h0 : 0 < x.un.length := by have := beq_eq_false_iff_ne.1 q1; omega
  go_upto_region 14 with fail
  refine WL.start <| uK (pV b 0) <| uK (pV gk1 1) <| uL 3 ⟨gk1, 1, none⟩ (.int .i64 a) (ld1 (HF.out.box 0 _ _ _ rfl) 1 U3 rfl) <| ?_
  try simp only [pS]
  refine uC 59 #[pV b 0, .int .i64 a] (take_any n0 J b x a _ ⟨_, _, _, _, _, _, _, HF.out.wa⟩ h0 (by have := HB.out.un; omega)) ?_
  rintro e wk3 ⟨p, m, J2, hpi, rfl, hpm, ⟨v2, mp2, I2, H2, U2, D2, L2, hA2⟩, hup⟩
  have hme := hpm.e
  have hpb := hpm.b
  have HF : Hid _ := HF.out.upd hA2 hup
  clear hA2 hup
  have HF : Hid (Wg w wk3 n0 J J2 b v2 ({ x with un := x.un.take (rndW a x.un.length) ++ x.un.drop (rndW a x.un.length + 1) }) mp2 I2 H2 U2 D2 L2 [(gk1, 107, Ev.cells ⟨3, a, s⟩)] [] [(s, z), (m.bl, p.z)]) := HF.out.byt (Q := [(s, z)]) (Q' := [(m.bl, p.z)]) (by simpa using hpb)
  have HM : Hid (m = { mgP p with bl := m.bl }) := hme
  clear hme hpb hpm
  have hu2 := HF.out.unl
  refine ⟨.agg (Mg.cells m), rfl, ?_⟩
  try simp only [pS]
  refine uR (pV wk3.heap.size 0) (wk3.alloc (.cells (Mg.cells mgZ) 52)) (exec_alloc 52 rfl (Mg.cells mgZ) Z52) ?_
  try simp only [pS]
  have HF : Hid _ := HF.out.alloc 52 (Mg.cells mgZ)
  generalize wk3.alloc (.cells (Mg.cells mgZ) 52) = wk5 at HF ⊢
  generalize wk3.heap.size = gk4 at HF ⊢
  refine uT 52 ⟨gk4, 0, none⟩ (.agg (Mg.cells m)) (wk5.setRow gk4 (Mg.cells m)) (rs (Mg.cs mgZ) (Mg.cs m) (Mg.cs m) (HF.out.box 1 _ _ _ rfl) S52 (Mg.oneL _)) ?_
  try simp only [pS]
  have HF : Hid _ := HF.out.set 1 rfl (Mg.cells m)
  generalize wk5.setRow gk4 (Mg.cells m) = wk6 at HF ⊢
  refine WL.nil ?_
  try simp only [pS]
  go_upto_region 15 with fail
  refine WL.start <| uK (pV gk1 0) <| uL 3 ⟨gk1, 0, none⟩ (.int .i64 3) (ld1 (HF.out.box 0 _ _ _ rfl) 0 U3 rfl) <| uB .eql 3 (.int .i64 3) (.int .i64 3) (.bool true) (by rw [b_eql]; rfl) <| WL.nil <| ?_
  try simp only [pS]
  go_upto_region 16 with fail
  refine WL.start <| uK (pV b 0) <| uL 52 ⟨gk4, 0, none⟩ (.agg (Mg.cells m)) (run_load_part (cs := Mg.cs m) (sub := Mg.cs m) (HF.out.box 1 _ _ _ rfl) (Part.all _) U52 rfl S52) <| ?_
  try simp only [pS]
  refine uC 47 #[pV b 0, .agg (Mg.cells m)] (deliver_any n0 J2 b { x with un := x.un.take (rndW a x.un.length) ++ x.un.drop (rndW a x.un.length + 1) } p m _ ⟨_, _, _, _, _, _, _, HF.out.wa⟩ ⟨HM.out, HF.out.qs 1 _ rfl⟩ (HB.out.ok p (List.mem_of_getElem? hpi)) HB.out.now HB.out.ls HB.out.n HB.out.at') ?_
  rintro e wk7 ⟨rfl, Jq, ⟨vq, mpq, Iq, Hq, Uq, Dq, Lq, hAq⟩, hup⟩
  have HF : Hid _ := HF.out.upd hAq hup
  clear hAq hup
  refine ⟨.tuple #[], rfl, ?_⟩
  try simp only [pS]
  refine WL.nil ?_
  try simp only [pS]
  go_upto_region 17 with fail
  refine WL.start <| uK (pV gk1 0) <| uL 3 ⟨gk1, 0, none⟩ (.int .i64 3) (ld1 (HF.out.box 0 _ _ _ rfl) 0 U3 rfl) <| uB .eql 3 (.int .i64 3) (.int .i64 5) (.bool false) (by rw [b_eql]; rfl) <| uK (.bool false) <| uZ <| uZ <| uZ <| uZ <| uZ <| uZ <| uK (.bool false) <| WL.nil <| ?_
  try simp only [pS]
  set_option maxRecDepth 1000000 in
  go_wp2
  rw [HC.out, evW_t hpi (by decide) (by decide), if_pos rfl]
  refine bodyPost_end (v := .tuple #[]) (by kernel_rfl) rfl ⟨rfl, HF.out.out⟩
 ·skip
  refine uB .eql 3 (.int .i64 ((v.un.l : Nat) : Int)) (.int .i64 0) (.bool true) (by rw [b_eql, q1]; try rfl) <| uK (.bool true) <| uZ <| uZ <| uZ <| uK (.bool true) <| uK (.bool true) <| uZ <| uZ <| uZ <| uK (.bool true) <| WL.nil <| ?_
  try simp only [pS]
  set_option maxRecDepth 1000000 in
  go_wp2
  rw [HC.out, evW_e x 3 a z (by have := beq_iff_eq.1 q1; omega) (by decide) (by decide) (by decide) (by decide)]
  refine bodyPost_ret (v := .tuple #[]) (by kernel_rfl) rfl ⟨rfl, HF.out.out⟩
set_option maxRecDepth 100000 in
set_option maxHeartbeats 4000000 in
theorem event_4 (n0 : Nat) (J : Nat → Prop) (b : Nat) (x : Wd) (a : Int) (s : Sl) (z : List Int) (w : World) (hW : WAt w n0 J b x) (hz : By w n0 s z) (hB : EvB x) : Calls Try.prog 42 #[.pointer (some ⟨b, 0, none⟩), .agg (Ev.cells ⟨4, a, s⟩)] w (WOut w n0 J b (evW x 4 a z)) := by
 refine hideC fun C HC => ?_
 have hrn : ∀ W : World, Calls Try.prog 20 #[.int .i64 a, .int .i64 4] W (fun e w' => e = .returned (.int .i64 ((rndW a 4 : Nat) : Int)) ∧ w' = W) := fun W => round_any a 4 W (by decide) (by decide)
 have hc : rndW a 4 < 4 := (rnd_mod a 4 (by decide)).2
 obtain ⟨c, hcc⟩ : ∃ c, c = rndW a 4 := ⟨_, rfl⟩
 rw [← hcc] at hrn hc
 obtain ⟨v, mp, I, H, U, D, L, hA⟩ := hW
 have hml := hA.ml
 have hgl := hA.gl
 have hul : x.un.length = v.un.l := by rw [hA.pt.un.1, hA.ul]
 obtain ⟨gm, hgm⟩ := own_at hA.mm (by omega)
 obtain ⟨gg, hgg⟩ := own_at hA.gn (by omega)
 have HF : Hid (Wg w w n0 J J b v x mp I H U D L [] [] [(s, z)]) := (Wg.start hA).byt (Q := []) (Q' := [(s, z)]) (by simpa using hz)
 have HB : Hid (EvB x) := hB
 clear hA hz hB
 go_enter Try.func42, Try.ntmps42
 go_upto_region 0 with fail
 refine WL.start ?_
 refine uR (pV w.heap.size 0) (w.alloc (.cells (Ev.cells ⟨4, a, s⟩) 107)) (exec_box 107 _ rfl (Ev.cells ⟨4, a, s⟩) (by kernel_rfl)) ?_
 try simp only [pS]
 have HF : Hid _ := HF.out.alloc 107 (Ev.cells ⟨4, a, s⟩)
 generalize w.alloc (.cells (Ev.cells ⟨4, a, s⟩) 107) = wk2 at HF ⊢
 generalize w.heap.size = gk1 at HF ⊢
 refine WL.nil ?_
 try simp only [pS]
 go_upto_region 1 with fail
 refine WL.start <| uK (pV gk1 1) <| uL 3 ⟨gk1, 1, none⟩ (.int .i64 a) (ld1 (HF.out.box 0 _ _ _ rfl) 1 U3 rfl) <| ?_
 try simp only [pS]
 refine uC 20 #[.int .i64 a, .int .i64 4] (hrn _) ?_
 rintro e wq ⟨rfl, hwq⟩
 rw [hwq]
 clear hwq wq
 refine ⟨.int .i64 ((c : Nat) : Int), rfl, ?_⟩
 try simp only [pS]
 refine uK (.int .i64 ((c : Nat) : Int)) <| WL.nil <| ?_
 try simp only [pS]
 go_upto_region 2 with fail
 refine WL.start <| uK (pV gk1 0) <| uL 3 ⟨gk1, 0, none⟩ (.int .i64 4) (ld1 (HF.out.box 0 _ _ _ rfl) 0 U3 rfl) <| WL.nil <| ?_
 try simp only [pS]
 go_upto_region 3 with fail
 refine WL.start <| uB .eql 3 (.int .i64 4) (.int .i64 1) (.bool false) (by rw [b_eql]; rfl) <| uK (.bool false) <| WL.nil <| ?_
 try simp only [pS]
 go_upto_region 5 with fail
 refine WL.start <| uB .eql 3 (.int .i64 4) (.int .i64 2) (.bool false) (by rw [b_eql]; rfl) <| uK (.bool false) <| WL.nil <| ?_
 try simp only [pS]
 go_upto_region 7 with fail
 refine WL.start <| uB .eql 3 (.int .i64 4) (.int .i64 6) (.bool false) (by rw [b_eql]; rfl) <| uK (.bool false) <| WL.nil <| ?_
 try simp only [pS]
 go_upto_region 11 with fail
 refine WL.start <| uB .eql 3 (.int .i64 4) (.int .i64 7) (.bool false) (by rw [b_eql]; rfl) <| uK (.bool false) <| WL.nil <| ?_
 try simp only [pS]
 go_upto_region 13 with fail
 refine WL.start <| uK (pV b 0) <| uK (pV b 0) <| uK (pV b 6) <| uL 71 ⟨b, 6, none⟩ (v.un.v) (ld1 HF.out.wbox 6 U71 rfl) <| uK (.int .i64 ((v.un.l : Nat) : Int)) <| ?_
 try simp only [pS]
 cases q1 : (((v.un.l : Nat) : Int) == 0)
 ·skip
  refine uB .eql 3 (.int .i64 ((v.un.l : Nat) : Int)) (.int .i64 0) (.bool false) (by rw [b_eql, q1]; try rfl) <| uK (.bool false) <| uK (pV gk1 0) <| uL 3 ⟨gk1, 0, none⟩ (.int .i64 4) (ld1 (HF.out.box 0 _ _ _ rfl) 0 U3 rfl) <| uB .lss 3 (.int .i64 4) (.int .i64 3) (.bool false) (by rw [b_lss]; rfl) <| uK (.bool false) <| uK (.bool false) <| uK (pV gk1 0) <| uL 3 ⟨gk1, 0, none⟩ (.int .i64 4) (ld1 (HF.out.box 0 _ _ _ rfl) 0 U3 rfl) <| uB .gtr 3 (.int .i64 4) (.int .i64 5) (.bool false) (by rw [b_gtr]; rfl) <| uK (.bool false) <| WL.nil <| ?_
  try simp only [pS]
  have h0 : 0 < x.un.length := by have := beq_eq_false_iff_ne.1 q1; omega
  go_upto_region 14 with fail
  refine WL.start <| uK (pV b 0) <| uK (pV gk1 1) <| uL 3 ⟨gk1, 1, none⟩ (.int .i64 a) (ld1 (HF.out.box 0 _ _ _ rfl) 1 U3 rfl) <| ?_
  try simp only [pS]
  refine uC 59 #[pV b 0, .int .i64 a] (take_any n0 J b x a _ ⟨_, _, _, _, _, _, _, HF.out.wa⟩ h0 (by have := HB.out.un; omega)) ?_
  rintro e wk3 ⟨p, m, J2, hpi, rfl, hpm, ⟨v2, mp2, I2, H2, U2, D2, L2, hA2⟩, hup⟩
  have hme := hpm.e
  have hpb := hpm.b
  have HF : Hid _ := HF.out.upd hA2 hup
  clear hA2 hup
  have HF : Hid (Wg w wk3 n0 J J2 b v2 ({ x with un := x.un.take (rndW a x.un.length) ++ x.un.drop (rndW a x.un.length + 1) }) mp2 I2 H2 U2 D2 L2 [(gk1, 107, Ev.cells ⟨4, a, s⟩)] [] [(s, z), (m.bl, p.z)]) := HF.out.byt (Q := [(s, z)]) (Q' := [(m.bl, p.z)]) (by simpa using hpb)
  have HM : Hid (m = { mgP p with bl := m.bl }) := hme
  clear hme hpb hpm
  have hu2 := HF.out.unl
  refine ⟨.agg (Mg.cells m), rfl, ?_⟩
  try simp only [pS]
  refine uR (pV wk3.heap.size 0) (wk3.alloc (.cells (Mg.cells mgZ) 52)) (exec_alloc 52 rfl (Mg.cells mgZ) Z52) ?_
  try simp only [pS]
  have HF : Hid _ := HF.out.alloc 52 (Mg.cells mgZ)
  generalize wk3.alloc (.cells (Mg.cells mgZ) 52) = wk5 at HF ⊢
  generalize wk3.heap.size = gk4 at HF ⊢
  refine uT 52 ⟨gk4, 0, none⟩ (.agg (Mg.cells m)) (wk5.setRow gk4 (Mg.cells m)) (rs (Mg.cs mgZ) (Mg.cs m) (Mg.cs m) (HF.out.box 1 _ _ _ rfl) S52 (Mg.oneL _)) ?_
  try simp only [pS]
  have HF : Hid _ := HF.out.set 1 rfl (Mg.cells m)
  generalize wk5.setRow gk4 (Mg.cells m) = wk6 at HF ⊢
  refine WL.nil ?_
  try simp only [pS]
  go_upto_region 15 with fail
  refine WL.start <| uK (pV gk1 0) <| uL 3 ⟨gk1, 0, none⟩ (.int .i64 4) (ld1 (HF.out.box 0 _ _ _ rfl) 0 U3 rfl) <| uB .eql 3 (.int .i64 4) (.int .i64 3) (.bool false) (by rw [b_eql]; rfl) <| WL.nil <| ?_
  try simp only [pS]
  go_upto_region 17 with fail
  refine WL.start <| uK (pV gk1 0) <| uL 3 ⟨gk1, 0, none⟩ (.int .i64 4) (ld1 (HF.out.box 0 _ _ _ rfl) 0 U3 rfl) <| uB .eql 3 (.int .i64 4) (.int .i64 5) (.bool false) (by rw [b_eql]; rfl) <| uK (.bool false) <| uZ <| uZ <| uZ <| uZ <| uZ <| uZ <| uK (.bool false) <| WL.nil <| ?_
  try simp only [pS]
  set_option maxRecDepth 1000000 in
  go_wp2
  rw [HC.out, evW_t hpi (by decide) (by decide), if_neg (by decide), if_neg (by decide)]
  refine bodyPost_end (v := .tuple #[]) (by kernel_rfl) rfl ⟨rfl, HF.out.out⟩
 ·skip
  refine uB .eql 3 (.int .i64 ((v.un.l : Nat) : Int)) (.int .i64 0) (.bool true) (by rw [b_eql, q1]; try rfl) <| uK (.bool true) <| uZ <| uZ <| uZ <| uK (.bool true) <| uK (.bool true) <| uZ <| uZ <| uZ <| uK (.bool true) <| WL.nil <| ?_
  try simp only [pS]
  set_option maxRecDepth 1000000 in
  go_wp2
  rw [HC.out, evW_e x 4 a z (by have := beq_iff_eq.1 q1; omega) (by decide) (by decide) (by decide) (by decide)]
  refine bodyPost_ret (v := .tuple #[]) (by kernel_rfl) rfl ⟨rfl, HF.out.out⟩
set_option maxRecDepth 100000 in
set_option maxHeartbeats 4000000 in
theorem event_5 (n0 : Nat) (J : Nat → Prop) (b : Nat) (x : Wd) (a : Int) (s : Sl) (z : List Int) (w : World) (hW : WAt w n0 J b x) (hz : By w n0 s z) (hB : EvB x) : Calls Try.prog 42 #[.pointer (some ⟨b, 0, none⟩), .agg (Ev.cells ⟨5, a, s⟩)] w (WOut w n0 J b (evW x 5 a z)) := by
 refine hideC fun C HC => ?_
 have hrn : ∀ W : World, Calls Try.prog 20 #[.int .i64 a, .int .i64 4] W (fun e w' => e = .returned (.int .i64 ((rndW a 4 : Nat) : Int)) ∧ w' = W) := fun W => round_any a 4 W (by decide) (by decide)
 have hc : rndW a 4 < 4 := (rnd_mod a 4 (by decide)).2
 obtain ⟨c, hcc⟩ : ∃ c, c = rndW a 4 := ⟨_, rfl⟩
 rw [← hcc] at hrn hc
 obtain ⟨v, mp, I, H, U, D, L, hA⟩ := hW
 have hml := hA.ml
 have hgl := hA.gl
 have hul : x.un.length = v.un.l := by rw [hA.pt.un.1, hA.ul]
 obtain ⟨gm, hgm⟩ := own_at hA.mm (by omega)
 obtain ⟨gg, hgg⟩ := own_at hA.gn (by omega)
 have HF : Hid (Wg w w n0 J J b v x mp I H U D L [] [] [(s, z)]) := (Wg.start hA).byt (Q := []) (Q' := [(s, z)]) (by simpa using hz)
 have HB : Hid (EvB x) := hB
 clear hA hz hB
 go_enter Try.func42, Try.ntmps42
 go_upto_region 0 with fail
 refine WL.start ?_
 refine uR (pV w.heap.size 0) (w.alloc (.cells (Ev.cells ⟨5, a, s⟩) 107)) (exec_box 107 _ rfl (Ev.cells ⟨5, a, s⟩) (by kernel_rfl)) ?_
 try simp only [pS]
 have HF : Hid _ := HF.out.alloc 107 (Ev.cells ⟨5, a, s⟩)
 generalize w.alloc (.cells (Ev.cells ⟨5, a, s⟩) 107) = wk2 at HF ⊢
 generalize w.heap.size = gk1 at HF ⊢
 refine WL.nil ?_
 try simp only [pS]
 go_upto_region 1 with fail
 refine WL.start <| uK (pV gk1 1) <| uL 3 ⟨gk1, 1, none⟩ (.int .i64 a) (ld1 (HF.out.box 0 _ _ _ rfl) 1 U3 rfl) <| ?_
 try simp only [pS]
 refine uC 20 #[.int .i64 a, .int .i64 4] (hrn _) ?_
 rintro e wq ⟨rfl, hwq⟩
 rw [hwq]
 clear hwq wq
 refine ⟨.int .i64 ((c : Nat) : Int), rfl, ?_⟩
 try simp only [pS]
 refine uK (.int .i64 ((c : Nat) : Int)) <| WL.nil <| ?_
 try simp only [pS]
 go_upto_region 2 with fail
 refine WL.start <| uK (pV gk1 0) <| uL 3 ⟨gk1, 0, none⟩ (.int .i64 5) (ld1 (HF.out.box 0 _ _ _ rfl) 0 U3 rfl) <| WL.nil <| ?_
 try simp only [pS]
 go_upto_region 3 with fail
 refine WL.start <| uB .eql 3 (.int .i64 5) (.int .i64 1) (.bool false) (by rw [b_eql]; rfl) <| uK (.bool false) <| WL.nil <| ?_
 try simp only [pS]
 go_upto_region 5 with fail
 refine WL.start <| uB .eql 3 (.int .i64 5) (.int .i64 2) (.bool false) (by rw [b_eql]; rfl) <| uK (.bool false) <| WL.nil <| ?_
 try simp only [pS]
 go_upto_region 7 with fail
 refine WL.start <| uB .eql 3 (.int .i64 5) (.int .i64 6) (.bool false) (by rw [b_eql]; rfl) <| uK (.bool false) <| WL.nil <| ?_
 try simp only [pS]
 go_upto_region 11 with fail
 refine WL.start <| uB .eql 3 (.int .i64 5) (.int .i64 7) (.bool false) (by rw [b_eql]; rfl) <| uK (.bool false) <| WL.nil <| ?_
 try simp only [pS]
 go_upto_region 13 with fail
 refine WL.start <| uK (pV b 0) <| uK (pV b 0) <| uK (pV b 6) <| uL 71 ⟨b, 6, none⟩ (v.un.v) (ld1 HF.out.wbox 6 U71 rfl) <| uK (.int .i64 ((v.un.l : Nat) : Int)) <| ?_
 try simp only [pS]
 cases q1 : (((v.un.l : Nat) : Int) == 0)
 ·skip
  refine uB .eql 3 (.int .i64 ((v.un.l : Nat) : Int)) (.int .i64 0) (.bool false) (by rw [b_eql, q1]; try rfl) <| uK (.bool false) <| uK (pV gk1 0) <| uL 3 ⟨gk1, 0, none⟩ (.int .i64 5) (ld1 (HF.out.box 0 _ _ _ rfl) 0 U3 rfl) <| uB .lss 3 (.int .i64 5) (.int .i64 3) (.bool false) (by rw [b_lss]; rfl) <| uK (.bool false) <| uK (.bool false) <| uK (pV gk1 0) <| uL 3 ⟨gk1, 0, none⟩ (.int .i64 5) (ld1 (HF.out.box 0 _ _ _ rfl) 0 U3 rfl) <| uB .gtr 3 (.int .i64 5) (.int .i64 5) (.bool false) (by rw [b_gtr]; rfl) <| uK (.bool false) <| WL.nil <| ?_
  try simp only [pS]
  have h0 : 0 < x.un.length := by have := beq_eq_false_iff_ne.1 q1; omega
  go_upto_region 14 with fail
  refine WL.start <| uK (pV b 0) <| uK (pV gk1 1) <| uL 3 ⟨gk1, 1, none⟩ (.int .i64 a) (ld1 (HF.out.box 0 _ _ _ rfl) 1 U3 rfl) <| ?_
  try simp only [pS]
  refine uC 59 #[pV b 0, .int .i64 a] (take_any n0 J b x a _ ⟨_, _, _, _, _, _, _, HF.out.wa⟩ h0 (by have := HB.out.un; omega)) ?_
  rintro e wk3 ⟨p, m, J2, hpi, rfl, hpm, ⟨v2, mp2, I2, H2, U2, D2, L2, hA2⟩, hup⟩
  have hme := hpm.e
  have hpb := hpm.b
  have HF : Hid _ := HF.out.upd hA2 hup
  clear hA2 hup
  have HF : Hid (Wg w wk3 n0 J J2 b v2 ({ x with un := x.un.take (rndW a x.un.length) ++ x.un.drop (rndW a x.un.length + 1) }) mp2 I2 H2 U2 D2 L2 [(gk1, 107, Ev.cells ⟨5, a, s⟩)] [] [(s, z), (m.bl, p.z)]) := HF.out.byt (Q := [(s, z)]) (Q' := [(m.bl, p.z)]) (by simpa using hpb)
  have HM : Hid (m = { mgP p with bl := m.bl }) := hme
  clear hme hpb hpm
  have hu2 := HF.out.unl
  refine ⟨.agg (Mg.cells m), rfl, ?_⟩
  try simp only [pS]
  refine uR (pV wk3.heap.size 0) (wk3.alloc (.cells (Mg.cells mgZ) 52)) (exec_alloc 52 rfl (Mg.cells mgZ) Z52) ?_
  try simp only [pS]
  have HF : Hid _ := HF.out.alloc 52 (Mg.cells mgZ)
  generalize wk3.alloc (.cells (Mg.cells mgZ) 52) = wk5 at HF ⊢
  generalize wk3.heap.size = gk4 at HF ⊢
  refine uT 52 ⟨gk4, 0, none⟩ (.agg (Mg.cells m)) (wk5.setRow gk4 (Mg.cells m)) (rs (Mg.cs mgZ) (Mg.cs m) (Mg.cs m) (HF.out.box 1 _ _ _ rfl) S52 (Mg.oneL _)) ?_
  try simp only [pS]
  have HF : Hid _ := HF.out.set 1 rfl (Mg.cells m)
  generalize wk5.setRow gk4 (Mg.cells m) = wk6 at HF ⊢
  refine WL.nil ?_
  try simp only [pS]
  go_upto_region 15 with fail
  refine WL.start <| uK (pV gk1 0) <| uL 3 ⟨gk1, 0, none⟩ (.int .i64 5) (ld1 (HF.out.box 0 _ _ _ rfl) 0 U3 rfl) <| uB .eql 3 (.int .i64 5) (.int .i64 3) (.bool false) (by rw [b_eql]; rfl) <| WL.nil <| ?_
  try simp only [pS]
  go_upto_region 17 with fail
  refine WL.start <| uK (pV gk1 0) <| uL 3 ⟨gk1, 0, none⟩ (.int .i64 5) (ld1 (HF.out.box 0 _ _ _ rfl) 0 U3 rfl) <| uB .eql 3 (.int .i64 5) (.int .i64 5) (.bool true) (by rw [b_eql]; rfl) <| uK (.bool true) <| uK (pV b 0) <| uK (pV b 0) <| uK (pV b 6) <| uL 71 ⟨b, 6, none⟩ (v2.un.v) (ld1 HF.out.wbox 6 U71 rfl) <| uK (.int .i64 ((v2.un.l : Nat) : Int)) <| ?_
  try simp only [pS]
  cases q2 : (decide (((v2.un.l : Nat) : Int) < 300))
  ·skip
   refine uB .lss 3 (.int .i64 ((v2.un.l : Nat) : Int)) (.int .i64 300) (.bool false) (by rw [b_lss, q2]; try rfl) <| uK (.bool false) <| WL.nil <| ?_
   try simp only [pS]
   set_option maxRecDepth 1000000 in
   go_wp2
   rw [HC.out, evW_t hpi (by decide) (by decide), if_neg (by decide), if_pos rfl, if_neg (by have h1 := of_decide_eq_false q2; have h2 : (x.un.take (rndW a x.un.length) ++ x.un.drop (rndW a x.un.length + 1)).length = v2.un.l := hu2; omega)]
   refine bodyPost_end (v := .tuple #[]) (by kernel_rfl) rfl ⟨rfl, HF.out.out⟩
  ·skip
   refine uB .lss 3 (.int .i64 ((v2.un.l : Nat) : Int)) (.int .i64 300) (.bool true) (by rw [b_lss, q2]; try rfl) <| uK (.bool true) <| WL.nil <| ?_
   try simp only [pS]
   go_upto_region 18 with fail
   refine wp_region_held_drew (S := fun w' => Box w' gk4 52 (Mg.cells m)) rfl (HF.out.drew.box 1 _ _ _ rfl) (fun hH => ?_)
   have HF : Hid _ := HF.out.drew
   generalize wk6.drew = wk7 at HF hH ⊢
   refine xV 0 100 (pV b 0) hH <| xV 1 101 (pV b 0) hH <| xV 2 102 (pV b 0) hH <| xV 3 103 (pV b 6) hH <| xL 5 105 52 ⟨gk4, 0, none⟩ (.agg (Mg.cells m)) (fun _ hw => run_load_part (cs := Mg.cs m) (sub := Mg.cs m) (hw) (Part.all _) U52 rfl S52) hH <| xL 6 106 52 ⟨gk4, 0, none⟩ (.agg (Mg.cells m)) (fun _ hw => run_load_part (cs := Mg.cs m) (sub := Mg.cs m) (hw) (Part.all _) U52 rfl S52) hH <| ?_
   try simp only [pS]
   refine any_pick (rs := [4, 7]) (by kernel_rfl) (by simp) ?_
   intro i hi
   rcases pick2 hi with rfl | rfl
   ·skip
    clear hi
    refine step_run (i := 4) (o := { dst := some 104, op := Op.load 71 (Operand.tmp 103), type := 71, pos := "world.go:217", after := #[{ on := 3, ground := Ground.data }], guard := none }) (v := v2.un.v) (w' := wk7) rfl (by kernel_rfl) (exec_load 71 _ rfl ⟨b, 6, none⟩ (by kernel_rfl) (v2.un.v) (ld1 HF.out.wbox 6 U71 rfl)) hH (fun hH => ?_)
    try simp only [pS]
    refine any_step (i := 7) (o := { dst := some 107, op := Op.buildSlice 71 2 #[(0, Operand.tmp 105), (1, Operand.tmp 106)], type := 71, pos := "world.go:217", after := #[{ on := 5, ground := Ground.data }, { on := 6, ground := Ground.data }], guard := none }) rfl (by kernel_rfl) (by kernel_rfl) (exec_slice2m _ rfl m (by kernel_rfl)) ((hH.alloc _)) (fun hH => ?_)
    try simp only [pS]
    have HF : Hid _ := HF.out.alloc 52 ((mgL ([m, m])).toArray)
    generalize wk7.alloc (.cells ((mgL ([m, m])).toArray) 52) = wk9 at HF hH ⊢
    generalize wk7.heap.size = gk8 at HF ⊢
    obtain ⟨a1, k1, W2, hap, hkJ, hbY, J3, hG⟩ := HF.out.pushU2 (e := p) (y := m) (g := gk8) (cc := 2) (by have := HF.out.unl; have := HB.out.un; simp only [List.length_append, List.length_take, List.length_drop] at *; omega) ⟨HM.out, HF.out.qs 1 _ rfl⟩ (fun j u hj => by rw [addr_add, Nat.zero_add, (HF.out.box 2 _ _ _ rfl).cell, List.getElem?_toArray]; exact hj)
    refine xP 8 108 (.slice a1 (v2.un.l + 2) k1) (w' := W2) (exec_appN _ _ 71 71 rfl _ _ (by kernel_rfl) (by kernel_rfl) hap) ((HF.out.boxJ hkJ 1 rfl)) (fun hH => ?_)
    try simp only [pS]
    refine xV 9 109 (pV b 0) hH <| xV 10 110 (pV b 6) hH <| ?_
    try simp only [pS]
    refine xS 11 71 ⟨b, 6, none⟩ (.slice a1 (v2.un.l + 2) k1) (w' := W2.setRow b (Wv.cells ⟨v2.gp, v2.hd, v2.mm, v2.aa, v2.rr, v2.gn, ⟨a1, v2.un.l + 2, k1⟩, v2.ds, v2.ls, v2.now, v2.br⟩)) (rs (Wv.cs v2) ([.slice a1 (v2.un.l + 2) k1]) (Wv.cs ⟨v2.gp, v2.hd, v2.mm, v2.aa, v2.rr, v2.gn, ⟨a1, v2.un.l + 2, k1⟩, v2.ds, v2.ls, v2.now, v2.br⟩) (hbY) S71 (by simp [Value.oneCell', Sl.v])) ((hG.box 1 _ _ _ rfl)) (fun hH => ?_)
    try simp only [pS]
    have HF : Hid (Wg w (W2.setRow b (Wv.cells ⟨v2.gp, v2.hd, v2.mm, v2.aa, v2.rr, v2.gn, ⟨a1, v2.un.l + 2, k1⟩, v2.ds, v2.ls, v2.now, v2.br⟩)) n0 J J3 b ⟨v2.gp, v2.hd, v2.mm, v2.aa, v2.rr, v2.gn, ⟨a1, v2.un.l + 2, k1⟩, v2.ds, v2.ls, v2.now, v2.br⟩ ({ x with un := (x.un.take (rndW a x.un.length) ++ x.un.drop (rndW a x.un.length + 1)) ++ [p, p] }) mp2 I2 H2 (U2 ++ [m, m]) D2 L2 [(gk1, 107, Ev.cells ⟨5, a, s⟩), (gk4, 52, Mg.cells m), (gk8, 52, (mgL ([m, m])).toArray)] [] [(s, z), (m.bl, p.z)]) := hG
    try clear hG
    generalize W2.setRow b (Wv.cells ⟨v2.gp, v2.hd, v2.mm, v2.aa, v2.rr, v2.gn, ⟨a1, v2.un.l + 2, k1⟩, v2.ds, v2.ls, v2.now, v2.br⟩) = wk10 at HF hH ⊢
    refine wpAnyH_done (by kernel_rfl) ?_ _
    try simp only [pS]
    clear hH
    set_option maxRecDepth 1000000 in
    go_wp2
    rw [HC.out, evW_t hpi (by decide) (by decide), if_neg (by decide), if_pos rfl, if_pos (by have h1 := of_decide_eq_true q2; have h2 : (x.un.take (rndW a x.un.length) ++ x.un.drop (rndW a x.un.length + 1)).length = v2.un.l := hu2; omega)]
    refine bodyPost_end (v := .tuple #[]) (by kernel_rfl) rfl ⟨rfl, HF.out.out⟩
   ·skip
    clear hi
    refine step_run (i := 7) (o := { dst := some 107, op := Op.buildSlice 71 2 #[(0, Operand.tmp 105), (1, Operand.tmp 106)], type := 71, pos := "world.go:217", after := #[{ on := 5, ground := Ground.data }, { on := 6, ground := Ground.data }], guard := none }) rfl (by kernel_rfl) (exec_slice2m _ rfl m (by kernel_rfl)) ((hH.alloc _)) (fun hH => ?_)
    try simp only [pS]
    have HF : Hid _ := HF.out.alloc 52 ((mgL ([m, m])).toArray)
    generalize wk7.alloc (.cells ((mgL ([m, m])).toArray) 52) = wk12 at HF hH ⊢
    generalize wk7.heap.size = gk11 at HF ⊢
    refine xP 4 104 v2.un.v (w' := wk12) (exec_load 71 _ rfl ⟨b, 6, none⟩ (by kernel_rfl) (v2.un.v) (ld1 HF.out.wbox 6 U71 rfl)) hH (fun hH => ?_)
    try simp only [pS]
    obtain ⟨a1, k1, W2, hap, hkJ, hbY, J3, hG⟩ := HF.out.pushU2 (e := p) (y := m) (g := gk11) (cc := 2) (by have := HF.out.unl; have := HB.out.un; simp only [List.length_append, List.length_take, List.length_drop] at *; omega) ⟨HM.out, HF.out.qs 1 _ rfl⟩ (fun j u hj => by rw [addr_add, Nat.zero_add, (HF.out.box 2 _ _ _ rfl).cell, List.getElem?_toArray]; exact hj)
    refine xP 8 108 (.slice a1 (v2.un.l + 2) k1) (w' := W2) (exec_appN _ _ 71 71 rfl _ _ (by kernel_rfl) (by kernel_rfl) hap) ((HF.out.boxJ hkJ 1 rfl)) (fun hH => ?_)
    try simp only [pS]
    refine xV 9 109 (pV b 0) hH <| xV 10 110 (pV b 6) hH <| ?_
    try simp only [pS]
    refine xS 11 71 ⟨b, 6, none⟩ (.slice a1 (v2.un.l + 2) k1) (w' := W2.setRow b (Wv.cells ⟨v2.gp, v2.hd, v2.mm, v2.aa, v2.rr, v2.gn, ⟨a1, v2.un.l + 2, k1⟩, v2.ds, v2.ls, v2.now, v2.br⟩)) (rs (Wv.cs v2) ([.slice a1 (v2.un.l + 2) k1]) (Wv.cs ⟨v2.gp, v2.hd, v2.mm, v2.aa, v2.rr, v2.gn, ⟨a1, v2.un.l + 2, k1⟩, v2.ds, v2.ls, v2.now, v2.br⟩) (hbY) S71 (by simp [Value.oneCell', Sl.v])) ((hG.box 1 _ _ _ rfl)) (fun hH => ?_)
    try simp only [pS]
    have HF : Hid (Wg w (W2.setRow b (Wv.cells ⟨v2.gp, v2.hd, v2.mm, v2.aa, v2.rr, v2.gn, ⟨a1, v2.un.l + 2, k1⟩, v2.ds, v2.ls, v2.now, v2.br⟩)) n0 J J3 b ⟨v2.gp, v2.hd, v2.mm, v2.aa, v2.rr, v2.gn, ⟨a1, v2.un.l + 2, k1⟩, v2.ds, v2.ls, v2.now, v2.br⟩ ({ x with un := (x.un.take (rndW a x.un.length) ++ x.un.drop (rndW a x.un.length + 1)) ++ [p, p] }) mp2 I2 H2 (U2 ++ [m, m]) D2 L2 [(gk1, 107, Ev.cells ⟨5, a, s⟩), (gk4, 52, Mg.cells m), (gk11, 52, (mgL ([m, m])).toArray)] [] [(s, z), (m.bl, p.z)]) := hG
    try clear hG
    generalize W2.setRow b (Wv.cells ⟨v2.gp, v2.hd, v2.mm, v2.aa, v2.rr, v2.gn, ⟨a1, v2.un.l + 2, k1⟩, v2.ds, v2.ls, v2.now, v2.br⟩) = wk13 at HF hH ⊢
    refine wpAnyH_done (by kernel_rfl) ?_ _
    try simp only [pS]
    clear hH
    set_option maxRecDepth 1000000 in
    go_wp2
    rw [HC.out, evW_t hpi (by decide) (by decide), if_neg (by decide), if_pos rfl, if_pos (by have h1 := of_decide_eq_true q2; have h2 : (x.un.take (rndW a x.un.length) ++ x.un.drop (rndW a x.un.length + 1)).length = v2.un.l := hu2; omega)]
    refine bodyPost_end (v := .tuple #[]) (by kernel_rfl) rfl ⟨rfl, HF.out.out⟩
 ·skip
  refine uB .eql 3 (.int .i64 ((v.un.l : Nat) : Int)) (.int .i64 0) (.bool true) (by rw [b_eql, q1]; try rfl) <| uK (.bool true) <| uZ <| uZ <| uZ <| uK (.bool true) <| uK (.bool true) <| uZ <| uZ <| uZ <| uK (.bool true) <| WL.nil <| ?_
  try simp only [pS]
  set_option maxRecDepth 1000000 in
  go_wp2
  rw [HC.out, evW_e x 5 a z (by have := beq_iff_eq.1 q1; omega) (by decide) (by decide) (by decide) (by decide)]
  refine bodyPost_ret (v := .tuple #[]) (by kernel_rfl) rfl ⟨rfl, HF.out.out⟩
theorem event_any (n0 : Nat) (J : Nat → Prop) (b : Nat) (x : Wd) (k a : Int) (s : Sl) (z : List Int) (w : World) (hW : WAt w n0 J b x) (hz : By w n0 s z) (hB : EvB x) : Calls Try.prog 42 #[.pointer (some ⟨b, 0, none⟩), .agg (Ev.cells ⟨k, a, s⟩)] w (WOut w n0 J b (evW x k a z)) := by
 by_cases h1 : k = 1
 · subst h1; exact event_1 n0 J b x a s z w hW hz hB
 by_cases h2 : k = 2
 · subst h2; exact event_2 n0 J b x a s z w hW hz hB
 by_cases h3 : k = 3
 · subst h3; exact event_3 n0 J b x a s z w hW hz hB
 by_cases h4 : k = 4
 · subst h4; exact event_4 n0 J b x a s z w hW hz hB
 by_cases h5 : k = 5
 · subst h5; exact event_5 n0 J b x a s z w hW hz hB
 by_cases h6 : k = 6
 · subst h6; exact event_6 n0 J b x a s z w hW hz hB
 by_cases h7 : k = 7
 · subst h7; exact event_7 n0 J b x a s z w hW hz hB
 by_cases h8 : k < 3
 · exact event_o1 n0 J b x k a s z w hW hz hB h8 h1 h2 h6 h7
 · exact event_o2 n0 J b x k a s z w hW hz hB (by omega) h1 h2 h6 h7
end Go.Proofs.Ytgiokkcdgoloaaa.Md
