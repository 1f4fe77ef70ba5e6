import Derived.Test.YtgiokkcdgoloaaaXe
namespace Go.Proofs.Ytgiokkcdgoloaaa.Md
open Go.RowKit
set_option linter.unusedVariables false
set_option linter.unusedSimpArgs false
theorem same_by {w : World} {n0 n1 : Nat} {s t : Sl} {y z : List Int} (h : By w n0 s y) (k : By w n1 t z) : Calls Try.prog 17 #[s.v, t.v] w fun e w' => e = .returned (.bool (eqB y z)) ∧ Kept No w w' := by
 have h1 := h.le
 have h2 := k.le
 have := same_any s.a t.a s.k t.k y z w (by omega) (by omega) h.rd.row k.rd.row
 rw [h.rd.len, k.rd.len] at this
 refine this.mono ?_
 rintro e w' ⟨he, n, rfl⟩
 exact ⟨he, (Kept.refl No w).drewN n⟩
def tgB (t : Sp) (e : Sp × List Int) : Bool := e.1.n == t.n && e.1.c == t.c
theorem laidW_some {x : Wd} {t : Sp} {z : List Int} {i : Nat} {e : Sp × List Int} (hn : (x.ls.take i).find? (tgB t) = none) (hi : x.ls[i]? = some e) (ht : eqS e.1 t = true) : laidW x t z = { x with br := x.br || !(decide (e.2 = z)) } := by
 have h : x.ls.find? (tgB t) = some e := by
  have e1 : x.ls = x.ls.take i ++ (e :: x.ls.drop (i + 1)) := by
   obtain ⟨hl, he⟩ := List.getElem?_eq_some_iff.1 hi
   rw [← he, List.getElem_cons_drop, List.take_append_drop]
  rw [e1, List.find?_append, hn]
  have : tgB t e = true := by unfold tgB; unfold eqS at ht; simpa using ht
  simp [List.find?_cons, this]
 unfold laidW
 have h' : x.ls.find? (fun e => e.1.n == t.n && e.1.c == t.c) = some e := h
 rw [h']
theorem laidW_none {x : Wd} {t : Sp} {z : List Int} (hn : (x.ls.take x.ls.length).find? (tgB t) = none) : laidW x t z = { x with ls := x.ls ++ [(t, z)] } := by
 rw [List.take_length] at hn
 have h' : x.ls.find? (fun e => e.1.n == t.n && e.1.c == t.c) = none := hn
 unfold laidW
 rw [h']
theorem find_next {ls : List (Sp × List Int)} {t : Sp} {i : Nat} {e : Sp × List Int} (hn : (ls.take i).find? (tgB t) = none) (hi : ls[i]? = some e) (ht : eqS e.1 t = false) : (ls.take (i + 1)).find? (tgB t) = none := by
 rw [List.take_add_one, hi, List.find?_append, hn]
 have : tgB t e = false := by unfold tgB; unfold eqS at ht; simpa using ht
 simp [List.find?_cons, this]
set_option maxRecDepth 100000 in
set_option maxHeartbeats 4000000 in
theorem laid_any (n0 : Nat) (J : Nat → Prop) (b : Nat) (x : Wd) (t : Sp) (s : Sl) (z : List Int) (w : World) (hW : WAt w n0 J b x) (hz : By w n0 s z) (hl : x.ls.length ≤ 1000000) : Calls Try.prog 60 #[.pointer (some ⟨b, 0, none⟩), .agg t.cells, s.v] w (WOut w n0 J b (laidW x t z)) := by
 refine hideC fun C HC => ?_
 obtain ⟨v, mp, I, H, U, D, L, hA⟩ := hW
 have hll : x.ls.length = v.ls.l := by rw [hA.pt.ls.1, hA.ll]
 have hvn := hA.now
 have hvb := hA.br
 have HF : Hid (Wg w w n0 J J b v x mp I H U D L [] [] [(s, z)]) := (Wg.start hA).byt (Q := []) (Q' := [(s, z)]) (by simpa using hz)
 clear hA hz
 go_enter Try.func60, Try.ntmps60
 go_upto_region 0 with fail
 refine WL.start ?_
 refine uR (pV w.heap.size 0) (w.alloc (.cells (Sp.cells t) 41)) (exec_box 41 _ rfl (Sp.cells t) (by kernel_rfl)) ?_
 try simp only [pS]
 have HF : Hid _ := HF.out.alloc 41 (Sp.cells t)
 generalize w.alloc (.cells (Sp.cells t) 41) = wk2 at HF ⊢
 generalize w.heap.size = gk1 at HF ⊢
 refine WL.nil ?_
 try simp only [pS]
 go_upto_region 1 with fail
 refine WL.start <| uK (.int .i64 0) <| WL.nil <| ?_
 try simp only [pS]
 go_wp2
 go_loopw [6] (fun v6 wr => ∃ i : Nat, v6 = .int .i64 ((i : Nat) : Int) ∧ i ≤ v.ls.l ∧ (x.ls.take i).find? (tgB t) = none ∧ Hid (Wg w wr n0 J J b v x mp I H U D L [(gk1, 41, Sp.cells t)] [] [(s, z)])) (fun i _ => v.ls.l - (intOf i).toNat)
 case atStart => exact ⟨0, by go_num, by omega, by simp, HF⟩
 case round =>
  clear HF
  obtain ⟨i, rfl, hi, hno, HF⟩ := hrel
  by_cases hlt : i < v.ls.l
  · skip
    obtain ⟨e, hei⟩ : ∃ e, x.ls[i]? = some e := ⟨_, List.getElem?_eq_getElem (by omega)⟩
    obtain ⟨y, hyi, hyd⟩ := HF.out.wa.pt.ls.at hei
    have hye := hyd.s
    obtain ⟨gl, hgl⟩ := own_at HF.out.wa.ls (by omega)
    go_upto_region 2 with fail
    refine WL.start <| uK (.int .i64 ((i : Nat) : Int)) <| uK (pV b 0) <| uK (pV b 0) <| uK (pV b 8) <| uL 73 ⟨b, 8, none⟩ (v.ls.v) (ld1 HF.out.wbox 8 U73 rfl) <| uK (.int .i64 ((v.ls.l : Nat) : Int)) <| uB .lss 3 (.int .i64 ((i : Nat) : Int)) (.int .i64 ((v.ls.l : Nat) : Int)) (.bool true) (by rw [b_lss, decide_eq_true (by omega)]) <| WL.nil <| ?_
    try simp only [pS]
    go_upto_region 4 with fail
    refine wp_region_held_drew (S := fun w' => Wg w w' n0 J J b v x mp I H U D L [(gk1, 41, Sp.cells t)] [] [(s, z)]) rfl (HF.out.drew) (fun hH => ?_)
    have HF : Hid _ := HF.out.drew
    generalize wr.drew = wk3 at HF hH ⊢
    refine xV 0 16 (pV b 0) hH <| xV 1 17 (pV b 0) hH <| xV 2 18 (pV b 8) hH <| xL 3 19 73 ⟨b, 8, none⟩ v.ls.v (fun _ hw => ld1 hw.wbox 8 U73 rfl) hH <| xV 4 20 (.int .i64 ((i : Nat) : Int)) hH <| xU 5 21 (pV gl (0 + i * 3)) (fun w' hw => exec_ixS 73 3 E73 F73 _ _ rfl hgl (by omega)) hH <| xV 6 22 (pV gl (0 + i * 3)) hH <| xL 7 23 41 ⟨gl, 0 + i * 3, none⟩ (.agg (Sp.cells y.t)) (fun _ hw => (load_part (n := 0) (own_cell hw.wa.ls hgl (lvL_c L) (by decide) hyi) (part_of (off := 0) (sub := Sp.cs y.t) (by kernel_rfl)) U41 rfl S41)) hH <| xL 8 24 41 ⟨gk1, 0, none⟩ (.agg (Sp.cells t)) (fun _ hw => run_load_part (cs := Sp.cs t) (sub := Sp.cs t) (hw.box 0 _ _ _ rfl) (Part.all _) U41 rfl S41) hH <| ?_
    try simp only [pS]
    cases q1 : (eqS y.t t)
    ·skip
     refine xB 9 25 .eql 41 (.agg (Sp.cells y.t)) (.agg (Sp.cells t)) (.bool false) (fun _ _ => by rw [eqS_eql, q1]; try rfl) hH ?_
     try simp only [pS]
     refine wpAnyH_done (by kernel_rfl) ?_ _
     try simp only [pS]
     clear hH
     have hno2 := find_next hno hei (by rw [← hye]; exact q1)
     go_upto_region 3 with fail
     refine WL.start <| uK (.int .i64 ((i : Nat) : Int)) <| uB .add 3 (.int .i64 ((i : Nat) : Int)) (.int .i64 1) (.int .i64 (((i + 1) : Nat) : Int)) (b_addw _ _ _ (by rw [IntKind.wrap_i64]; omega) _) <| uK (.int .i64 (((i + 1) : Nat) : Int)) <| WL.nil <| ?_
     try simp only [pS]
     go_wp2
     go_roundw
     case rel => exact ⟨i + 1, by go_num, by omega, hno2, HF⟩
     case measure => simp [intOf]; omega
    ·skip
     refine xB 9 25 .eql 41 (.agg (Sp.cells y.t)) (.agg (Sp.cells t)) (.bool true) (fun _ _ => by rw [eqS_eql, q1]; try rfl) hH ?_
     try simp only [pS]
     refine wpAnyH_done (by kernel_rfl) ?_ _
     try simp only [pS]
     clear hH
     have hy2 : By wk3 n0 y.d e.2 := (HF.out.wa.pt.ls.2 i e y hei hyi).b
     have hlw := laidW_some (z := z) hno hei (by rw [← hye]; exact q1)
     go_upto_region 5 with fail
     refine WL.start <| uK (pV b 0) <| uK (pV b 0) <| uK (pV b 0) <| uK (pV b 10) <| uL 4 ⟨b, 10, none⟩ (.bool v.br) (ld1 HF.out.wbox 10 U4 rfl) <| uK (.bool v.br) <| ?_
     try simp only [pS]
     cases q2 : (v.br)
     ·skip
      try simp only [q2]
      refine uK (pV b 0) <| uK (pV b 0) <| uK (pV b 8) <| uL 73 ⟨b, 8, none⟩ (v.ls.v) (ld1 HF.out.wbox 8 U73 rfl) <| uK (.int .i64 ((i : Nat) : Int)) <| uW (pV gl (0 + i * 3)) (exec_ixS 73 3 E73 F73 _ _ rfl hgl (by omega)) <| uK (pV gl (0 + i * 3 + 2)) <| uL 25 ⟨gl, 0 + i * 3 + 2, none⟩ (y.d.v) (load_one ((own_cell HF.out.wa.ls hgl (lvL_c L) (by decide) hyi) 2 _ (by kernel_rfl)) U25 rfl) <| uK (s.v) <| ?_
      try simp only [pS]
      refine uC 17 #[y.d.v, s.v] (same_by hy2 (HF.out.qs 0 _ rfl)) ?_
      rintro e wk4 ⟨rfl, hk⟩
      have HF : Hid _ := HF.out.no hk
      clear hk
      refine ⟨.bool (eqB e.2 z), rfl, ?_⟩
      try simp only [pS]
      cases q3 : ((eqB e.2 z))
      ·skip
       try simp only [q3]
       refine uK (.bool true) <| uK (.bool true) <| uK (pV b 0) <| uK (pV b 10) <| ?_
       try simp only [pS]
       have hG := HF.out.flag v.now true
       refine uT 4 ⟨b, 10, none⟩ (.bool true) (wk4.setRow b (Wv.cells ⟨v.gp, v.hd, v.mm, v.aa, v.rr, v.gn, v.un, v.ds, v.ls, v.now, true⟩)) (rs (Wv.cs v) ([.bool true]) (Wv.cs ⟨v.gp, v.hd, v.mm, v.aa, v.rr, v.gn, v.un, v.ds, v.ls, v.now, true⟩) (HF.out.wbox) S4 (by simp [Value.oneCell', Sl.v])) ?_
       try simp only [pS]
       have HF : Hid (Wg w (wk4.setRow b (Wv.cells ⟨v.gp, v.hd, v.mm, v.aa, v.rr, v.gn, v.un, v.ds, v.ls, v.now, true⟩)) n0 J J b ⟨v.gp, v.hd, v.mm, v.aa, v.rr, v.gn, v.un, v.ds, v.ls, v.now, true⟩ ({ x with now := v.now, br := true }) mp I H U D L [(gk1, 41, Sp.cells t)] [] [(s, z)]) := hG
       try clear hG
       generalize wk4.setRow b (Wv.cells ⟨v.gp, v.hd, v.mm, v.aa, v.rr, v.gn, v.un, v.ds, v.ls, v.now, true⟩) = wk5 at HF ⊢
       refine WL.nil ?_
       try simp only [pS]
       go_wp2
       rw [HC.out]
       have e1 : laidW x t z = { x with now := v.now, br := true } := by
        rw [hlw]
        have h1 : ({ x with now := v.now, br := true } : Wd) = { x with br := true } := by rw [hvn]
        rw [h1]
        congr 1
        rw [← hvb]
        simp [eqB, q1, q2, q3] at *
        try simp [*]
       rw [e1]
       refine bodyPost_ret (v := .tuple #[]) (by kernel_rfl) rfl ⟨rfl, HF.out.out⟩
      ·skip
       try simp only [q3]
       refine uK (.bool false) <| uK (.bool false) <| uK (pV b 0) <| uK (pV b 10) <| ?_
       try simp only [pS]
       have hG := HF.out.flag v.now false
       refine uT 4 ⟨b, 10, none⟩ (.bool false) (wk4.setRow b (Wv.cells ⟨v.gp, v.hd, v.mm, v.aa, v.rr, v.gn, v.un, v.ds, v.ls, v.now, false⟩)) (rs (Wv.cs v) ([.bool false]) (Wv.cs ⟨v.gp, v.hd, v.mm, v.aa, v.rr, v.gn, v.un, v.ds, v.ls, v.now, false⟩) (HF.out.wbox) S4 (by simp [Value.oneCell', Sl.v])) ?_
       try simp only [pS]
       have HF : Hid (Wg w (wk4.setRow b (Wv.cells ⟨v.gp, v.hd, v.mm, v.aa, v.rr, v.gn, v.un, v.ds, v.ls, v.now, false⟩)) n0 J J b ⟨v.gp, v.hd, v.mm, v.aa, v.rr, v.gn, v.un, v.ds, v.ls, v.now, false⟩ ({ x with now := v.now, br := false }) mp I H U D L [(gk1, 41, Sp.cells t)] [] [(s, z)]) := hG
       try clear hG
       generalize wk4.setRow b (Wv.cells ⟨v.gp, v.hd, v.mm, v.aa, v.rr, v.gn, v.un, v.ds, v.ls, v.now, false⟩) = wk6 at HF ⊢
       refine WL.nil ?_
       try simp only [pS]
       go_wp2
       rw [HC.out]
       have e1 : laidW x t z = { x with now := v.now, br := false } := by
        rw [hlw]
        have h1 : ({ x with now := v.now, br := false } : Wd) = { x with br := false } := by rw [hvn]
        rw [h1]
        congr 1
        rw [← hvb]
        simp [eqB, q1, q2, q3] at *
        try simp [*]
       rw [e1]
       refine bodyPost_ret (v := .tuple #[]) (by kernel_rfl) rfl ⟨rfl, HF.out.out⟩
     ·skip
      try simp only [q2]
      refine uZ <| uZ <| uZ <| uZ <| uZ <| uZ <| uZ <| uZ <| uZ <| uZ <| uZ <| uK (.bool true) <| uK (pV b 0) <| uK (pV b 10) <| ?_
      try simp only [pS]
      have hG := HF.out.flag v.now true
      refine uT 4 ⟨b, 10, none⟩ (.bool true) (wk3.setRow b (Wv.cells ⟨v.gp, v.hd, v.mm, v.aa, v.rr, v.gn, v.un, v.ds, v.ls, v.now, true⟩)) (rs (Wv.cs v) ([.bool true]) (Wv.cs ⟨v.gp, v.hd, v.mm, v.aa, v.rr, v.gn, v.un, v.ds, v.ls, v.now, true⟩) (HF.out.wbox) S4 (by simp [Value.oneCell', Sl.v])) ?_
      try simp only [pS]
      have HF : Hid (Wg w (wk3.setRow b (Wv.cells ⟨v.gp, v.hd, v.mm, v.aa, v.rr, v.gn, v.un, v.ds, v.ls, v.now, true⟩)) n0 J J b ⟨v.gp, v.hd, v.mm, v.aa, v.rr, v.gn, v.un, v.ds, v.ls, v.now, true⟩ ({ x with now := v.now, br := true }) mp I H U D L [(gk1, 41, Sp.cells t)] [] [(s, z)]) := hG
      try clear hG
      generalize wk3.setRow b (Wv.cells ⟨v.gp, v.hd, v.mm, v.aa, v.rr, v.gn, v.un, v.ds, v.ls, v.now, true⟩) = wk7 at HF ⊢
      refine WL.nil ?_
      try simp only [pS]
      go_wp2
      rw [HC.out]
      have e1 : laidW x t z = { x with now := v.now, br := true } := by
       rw [hlw]
       have h1 : ({ x with now := v.now, br := true } : Wd) = { x with br := true } := by rw [hvn]
       rw [h1]
       congr 1
       rw [← hvb]
       simp [eqB, q1, q2] at *
       try simp [*]
      rw [e1]
      refine bodyPost_ret (v := .tuple #[]) (by kernel_rfl) rfl ⟨rfl, HF.out.out⟩
  · skip
    obtain rfl : i = v.ls.l := by omega
    have hlw := laidW_none (x := x) (t := t) (z := z) (by rw [hll]; exact hno)
    go_upto_region 2 with fail
    refine WL.start <| uK (.int .i64 ((v.ls.l : Nat) : Int)) <| uK (pV b 0) <| uK (pV b 0) <| uK (pV b 8) <| uL 73 ⟨b, 8, none⟩ (v.ls.v) (ld1 HF.out.wbox 8 U73 rfl) <| uK (.int .i64 ((v.ls.l : Nat) : Int)) <| uB .lss 3 (.int .i64 ((v.ls.l : Nat) : Int)) (.int .i64 ((v.ls.l : Nat) : Int)) (.bool false) (by rw [b_lss, decide_eq_false (by omega)]) <| WL.nil <| ?_
    try simp only [pS]
    go_upto_region 6 with fail
    refine wp_region_held_drew (S := fun w' => Box w' gk1 41 (Sp.cells t)) rfl (HF.out.drew.box 0 _ _ _ rfl) (fun hH => ?_)
    have HF : Hid _ := HF.out.drew
    generalize wr.drew = wk8 at HF hH ⊢
    refine xV 0 46 (pV b 0) hH <| xV 1 47 (pV b 0) hH <| xV 2 48 (pV b 0) hH <| xV 3 49 (pV b 8) hH <| xL 5 51 41 ⟨gk1, 0, none⟩ (.agg (Sp.cells t)) (fun _ hw => run_load_part (cs := Sp.cs t) (sub := Sp.cs t) (hw) (Part.all _) U41 rfl S41) hH <| xV 7 53 s.v hH <| ?_
    try simp only [pS]
    refine any_pick (rs := [4, 6]) (by kernel_rfl) (by simp) ?_
    intro i hi
    rcases pick2 hi with rfl | rfl
    ·skip
     clear hi
     refine step_run (i := 4) (o := { dst := some 50, op := Op.load 73 (Operand.tmp 49), type := 73, pos := "world.go:105", after := #[{ on := 3, ground := Ground.data }], guard := none }) (v := v.ls.v) (w' := wk8) rfl (by kernel_rfl) (exec_load 73 _ rfl ⟨b, 8, none⟩ (by kernel_rfl) (v.ls.v) (ld1 HF.out.wbox 8 U73 rfl)) hH (fun hH => ?_)
     try simp only [pS]
     refine xP 6 52 (.slice (some ⟨wk8.heap.size, 0, none⟩) 0 0) (w' := wk8.alloc (.cells #[] 5)) (exec_sl0 25 5 rfl (sl0_5 _)) ((hH.alloc _)) (fun hH => ?_)
     try simp only [pS]
     have HFa : Hid (Wg w (wk8.alloc (.cells #[] 5)) n0 J J b v x mp I H U D L [(gk1, 41, Sp.cells t)] [] [(s, z)]) := HF.out.no ((Kept.refl No _).alloc _)
     have hzB : By wk8 n0 s z := HF.out.qs 0 _ rfl
     obtain ⟨a2, k2, wbk9, hap0, ho2, hk⟩ := run_cpy (w := wk8) 25 25 5 1 1 _ U25 I5 rfl (by decide) s.a s.l s.k (u8L z) (by rw [Nat.mul_one]; simpa [u8L] using hzB.rd.len) hzB.rd.cap hzB.rd.src (num_one .u8 z) (by have := hzB.le; have := hzB.rd.len; omega) (by have := hzB.le; have := hzB.rd.len; omega)
     have hyB : By wbk9 n0 ⟨a2, s.l, k2⟩ z := by
      have := hzB.rd.len
      rw [← this] at ho2 ⊢
      exact By.own ho2 hzB.le
     have hH2 : Box wbk9 gk1 41 (Sp.cells t) := ((HF.out.no hk).box 0 _ _ _ rfl)
     have HF : Hid (Wg w wbk9 n0 J J b v x mp I H U D L [(gk1, 41, Sp.cells t)] [] [(s, z), (⟨a2, s.l, k2⟩, z)]) := (HF.out.no hk).byt (Q := [(s, z)]) (Q' := [(⟨a2, s.l, k2⟩, z)]) (by simpa using hyB)
     refine xP 8 54 (.slice a2 s.l k2) (w' := wbk9) (exec_appN _ _ 25 25 rfl _ _ (by kernel_rfl) (by kernel_rfl) hap0) hH2 (fun hH => ?_)
     clear hH2 hap0 hk hyB hzB ho2
     try clear HFa
     try simp only [pS]
     refine xU 9 55 (.agg (Lv.cells ⟨t, ⟨a2, s.l, k2⟩⟩)) (fun w' hw => exec_build 147 _ rfl (Lv.cells ⟨t, ⟨a2, s.l, k2⟩⟩) (by kernel_rfl)) hH ?_
     try simp only [pS]
     refine any_step (i := 10) (o := { dst := some 56, op := Op.buildSlice 73 1 #[(0, Operand.tmp 55)], type := 73, pos := "world.go:105", after := #[{ on := 9, ground := Ground.data }], guard := none }) rfl (by kernel_rfl) (by kernel_rfl) (exec_slice2 73 147 _ rfl (Lv.cells ⟨t, ⟨a2, s.l, k2⟩⟩) (.agg (Lv.cells ⟨t, ⟨a2, s.l, k2⟩⟩)) (by kernel_rfl) (by kernel_rfl)) ((hH.alloc _)) (fun hH => ?_)
     try simp only [pS]
     have HF : Hid _ := HF.out.alloc 147 (Lv.cells ⟨t, ⟨a2, s.l, k2⟩⟩)
     generalize wbk9.alloc (.cells (Lv.cells ⟨t, ⟨a2, s.l, k2⟩⟩) 147) = wk11 at HF hH ⊢
     generalize wbk9.heap.size = gk10 at HF ⊢
     obtain ⟨a1, k1, W2, hap, hkJ, hbY, J2, hG⟩ := HF.out.pushL (e := (t, z)) (y := ⟨t, ⟨a2, s.l, k2⟩⟩) (g := gk10) (cc := 1) (by omega) ⟨rfl, HF.out.qs 1 _ rfl⟩ (fun j u hj => by rw [addr_add, Nat.zero_add, (HF.out.box 1 _ _ _ rfl).cell]; simpa [Lv.cells] using hj)
     refine xP 11 57 (.slice a1 (v.ls.l + 1) k1) (w' := W2) (exec_appN _ _ 73 73 rfl _ _ (by kernel_rfl) (by kernel_rfl) hap) ((HF.out.boxJ hkJ 0 rfl)) (fun hH => ?_)
     try simp only [pS]
     refine xV 12 58 (pV b 0) hH <| xV 13 59 (pV b 8) hH <| ?_
     try simp only [pS]
     refine xS 14 73 ⟨b, 8, none⟩ (.slice a1 (v.ls.l + 1) k1) (w' := W2.setRow b (Wv.cells ⟨v.gp, v.hd, v.mm, v.aa, v.rr, v.gn, v.un, v.ds, ⟨a1, v.ls.l + 1, k1⟩, v.now, v.br⟩)) (rs (Wv.cs v) ([.slice a1 (v.ls.l + 1) k1]) (Wv.cs ⟨v.gp, v.hd, v.mm, v.aa, v.rr, v.gn, v.un, v.ds, ⟨a1, v.ls.l + 1, k1⟩, v.now, v.br⟩) (hbY) S73 (by simp [Value.oneCell', Sl.v])) ((hG.box 0 _ _ _ rfl)) (fun hH => ?_)
     try simp only [pS]
     have HF : Hid (Wg w (W2.setRow b (Wv.cells ⟨v.gp, v.hd, v.mm, v.aa, v.rr, v.gn, v.un, v.ds, ⟨a1, v.ls.l + 1, k1⟩, v.now, v.br⟩)) n0 J J2 b ⟨v.gp, v.hd, v.mm, v.aa, v.rr, v.gn, v.un, v.ds, ⟨a1, v.ls.l + 1, k1⟩, v.now, v.br⟩ ({ x with ls := x.ls ++ [(t, z)] }) mp I H U D (L ++ [⟨t, ⟨a2, s.l, k2⟩⟩]) [(gk1, 41, Sp.cells t), (gk10, 147, Lv.cells ⟨t, ⟨a2, s.l, k2⟩⟩)] [] [(s, z), (⟨a2, s.l, k2⟩, z)]) := hG
     try clear hG
     generalize W2.setRow b (Wv.cells ⟨v.gp, v.hd, v.mm, v.aa, v.rr, v.gn, v.un, v.ds, ⟨a1, v.ls.l + 1, k1⟩, v.now, v.br⟩) = wk12 at HF hH ⊢
     refine wpAnyH_done (by kernel_rfl) ?_ _
     try simp only [pS]
     clear hH
     go_wp2
     rw [HC.out, hlw]
     refine bodyPost_end (v := .tuple #[]) (by kernel_rfl) rfl ⟨rfl, HF.out.out⟩
    ·skip
     clear hi
     refine step_run (i := 6) (o := { dst := some 52, op := Op.buildSlice 25 0 #[], type := 25, pos := "world.go:105", after := #[], guard := none }) (v := .slice (some ⟨wk8.heap.size, 0, none⟩) 0 0) (w' := wk8.alloc (.cells #[] 5)) rfl (by kernel_rfl) (exec_sl0 25 5 rfl (sl0_5 _)) ((hH.alloc _)) (fun hH => ?_)
     try simp only [pS]
     have HFa : Hid (Wg w (wk8.alloc (.cells #[] 5)) n0 J J b v x mp I H U D L [(gk1, 41, Sp.cells t)] [] [(s, z)]) := HF.out.no ((Kept.refl No _).alloc _)
     refine any_pick (rs := [4, 8]) (by kernel_rfl) (by simp) ?_
     intro i hi
     rcases pick2 hi with rfl | rfl
     ·skip
      clear hi
      refine step_run (i := 4) (o := { dst := some 50, op := Op.load 73 (Operand.tmp 49), type := 73, pos := "world.go:105", after := #[{ on := 3, ground := Ground.data }], guard := none }) (v := v.ls.v) (w' := wk8.alloc (.cells #[] 5)) rfl (by kernel_rfl) (exec_load 73 _ rfl ⟨b, 8, none⟩ (by kernel_rfl) (v.ls.v) (load_one ((HFa.out.wbox).cell 8 |>.trans (by kernel_rfl)) U73 rfl)) hH (fun hH => ?_)
      try simp only [pS]
      have hzB : By wk8 n0 s z := HF.out.qs 0 _ rfl
      obtain ⟨a2, k2, wbk13, hap0, ho2, hk⟩ := run_cpy (w := wk8) 25 25 5 1 1 _ U25 I5 rfl (by decide) s.a s.l s.k (u8L z) (by rw [Nat.mul_one]; simpa [u8L] using hzB.rd.len) hzB.rd.cap hzB.rd.src (num_one .u8 z) (by have := hzB.le; have := hzB.rd.len; omega) (by have := hzB.le; have := hzB.rd.len; omega)
      have hyB : By wbk13 n0 ⟨a2, s.l, k2⟩ z := by
       have := hzB.rd.len
       rw [← this] at ho2 ⊢
       exact By.own ho2 hzB.le
      have hH2 : Box wbk13 gk1 41 (Sp.cells t) := ((HF.out.no hk).box 0 _ _ _ rfl)
      have HF : Hid (Wg w wbk13 n0 J J b v x mp I H U D L [(gk1, 41, Sp.cells t)] [] [(s, z), (⟨a2, s.l, k2⟩, z)]) := (HF.out.no hk).byt (Q := [(s, z)]) (Q' := [(⟨a2, s.l, k2⟩, z)]) (by simpa using hyB)
      refine xP 8 54 (.slice a2 s.l k2) (w' := wbk13) (exec_appN _ _ 25 25 rfl _ _ (by kernel_rfl) (by kernel_rfl) hap0) hH2 (fun hH => ?_)
      clear hH2 hap0 hk hyB hzB ho2
      try clear HFa
      try simp only [pS]
      refine xU 9 55 (.agg (Lv.cells ⟨t, ⟨a2, s.l, k2⟩⟩)) (fun w' hw => exec_build 147 _ rfl (Lv.cells ⟨t, ⟨a2, s.l, k2⟩⟩) (by kernel_rfl)) hH ?_
      try simp only [pS]
      refine any_step (i := 10) (o := { dst := some 56, op := Op.buildSlice 73 1 #[(0, Operand.tmp 55)], type := 73, pos := "world.go:105", after := #[{ on := 9, ground := Ground.data }], guard := none }) rfl (by kernel_rfl) (by kernel_rfl) (exec_slice2 73 147 _ rfl (Lv.cells ⟨t, ⟨a2, s.l, k2⟩⟩) (.agg (Lv.cells ⟨t, ⟨a2, s.l, k2⟩⟩)) (by kernel_rfl) (by kernel_rfl)) ((hH.alloc _)) (fun hH => ?_)
      try simp only [pS]
      have HF : Hid _ := HF.out.alloc 147 (Lv.cells ⟨t, ⟨a2, s.l, k2⟩⟩)
      generalize wbk13.alloc (.cells (Lv.cells ⟨t, ⟨a2, s.l, k2⟩⟩) 147) = wk15 at HF hH ⊢
      generalize wbk13.heap.size = gk14 at HF ⊢
      obtain ⟨a1, k1, W2, hap, hkJ, hbY, J2, hG⟩ := HF.out.pushL (e := (t, z)) (y := ⟨t, ⟨a2, s.l, k2⟩⟩) (g := gk14) (cc := 1) (by omega) ⟨rfl, HF.out.qs 1 _ rfl⟩ (fun j u hj => by rw [addr_add, Nat.zero_add, (HF.out.box 1 _ _ _ rfl).cell]; simpa [Lv.cells] using hj)
      refine xP 11 57 (.slice a1 (v.ls.l + 1) k1) (w' := W2) (exec_appN _ _ 73 73 rfl _ _ (by kernel_rfl) (by kernel_rfl) hap) ((HF.out.boxJ hkJ 0 rfl)) (fun hH => ?_)
      try simp only [pS]
      refine xV 12 58 (pV b 0) hH <| xV 13 59 (pV b 8) hH <| ?_
      try simp only [pS]
      refine xS 14 73 ⟨b, 8, none⟩ (.slice a1 (v.ls.l + 1) k1) (w' := W2.setRow b (Wv.cells ⟨v.gp, v.hd, v.mm, v.aa, v.rr, v.gn, v.un, v.ds, ⟨a1, v.ls.l + 1, k1⟩, v.now, v.br⟩)) (rs (Wv.cs v) ([.slice a1 (v.ls.l + 1) k1]) (Wv.cs ⟨v.gp, v.hd, v.mm, v.aa, v.rr, v.gn, v.un, v.ds, ⟨a1, v.ls.l + 1, k1⟩, v.now, v.br⟩) (hbY) S73 (by simp [Value.oneCell', Sl.v])) ((hG.box 0 _ _ _ rfl)) (fun hH => ?_)
      try simp only [pS]
      have HF : Hid (Wg w (W2.setRow b (Wv.cells ⟨v.gp, v.hd, v.mm, v.aa, v.rr, v.gn, v.un, v.ds, ⟨a1, v.ls.l + 1, k1⟩, v.now, v.br⟩)) n0 J J2 b ⟨v.gp, v.hd, v.mm, v.aa, v.rr, v.gn, v.un, v.ds, ⟨a1, v.ls.l + 1, k1⟩, v.now, v.br⟩ ({ x with ls := x.ls ++ [(t, z)] }) mp I H U D (L ++ [⟨t, ⟨a2, s.l, k2⟩⟩]) [(gk1, 41, Sp.cells t), (gk14, 147, Lv.cells ⟨t, ⟨a2, s.l, k2⟩⟩)] [] [(s, z), (⟨a2, s.l, k2⟩, z)]) := hG
      try clear hG
      generalize W2.setRow b (Wv.cells ⟨v.gp, v.hd, v.mm, v.aa, v.rr, v.gn, v.un, v.ds, ⟨a1, v.ls.l + 1, k1⟩, v.now, v.br⟩) = wk16 at HF hH ⊢
      refine wpAnyH_done (by kernel_rfl) ?_ _
      try simp only [pS]
      clear hH
      go_wp2
      rw [HC.out, hlw]
      refine bodyPost_end (v := .tuple #[]) (by kernel_rfl) rfl ⟨rfl, HF.out.out⟩
     ·skip
      clear hi
      have hzB : By wk8 n0 s z := HF.out.qs 0 _ rfl
      obtain ⟨a2, k2, wbk17, hap0, ho2, hk⟩ := run_cpy (w := wk8) 25 25 5 1 1 _ U25 I5 rfl (by decide) s.a s.l s.k (u8L z) (by rw [Nat.mul_one]; simpa [u8L] using hzB.rd.len) hzB.rd.cap hzB.rd.src (num_one .u8 z) (by have := hzB.le; have := hzB.rd.len; omega) (by have := hzB.le; have := hzB.rd.len; omega)
      have hyB : By wbk17 n0 ⟨a2, s.l, k2⟩ z := by
       have := hzB.rd.len
       rw [← this] at ho2 ⊢
       exact By.own ho2 hzB.le
      have hH2 : Box wbk17 gk1 41 (Sp.cells t) := ((HF.out.no hk).box 0 _ _ _ rfl)
      have HF : Hid (Wg w wbk17 n0 J J b v x mp I H U D L [(gk1, 41, Sp.cells t)] [] [(s, z), (⟨a2, s.l, k2⟩, z)]) := (HF.out.no hk).byt (Q := [(s, z)]) (Q' := [(⟨a2, s.l, k2⟩, z)]) (by simpa using hyB)
      refine step_run (i := 8) (o := { dst := some 54, op := Op.call { callee := Callee.builtin Builtin.append, args := #[Operand.tmp 52, Operand.tmp 53], argTypes := #[25, 25] }, type := 25, pos := "world.go:105", after := #[{ on := 6, ground := Ground.data }, { on := 7, ground := Ground.data }], guard := none }) (v := .slice a2 s.l k2) (w' := wbk17) rfl (by kernel_rfl) (exec_appN _ _ 25 25 rfl _ _ (by kernel_rfl) (by kernel_rfl) hap0) hH2 (fun hH => ?_)
      clear hH2 hap0 hk hyB hzB ho2
      try clear HFa
      try simp only [pS]
      refine xU 9 55 (.agg (Lv.cells ⟨t, ⟨a2, s.l, k2⟩⟩)) (fun w' hw => exec_build 147 _ rfl (Lv.cells ⟨t, ⟨a2, s.l, k2⟩⟩) (by kernel_rfl)) hH ?_
      try simp only [pS]
      refine any_pick (rs := [4, 10]) (by kernel_rfl) (by simp) ?_
      intro i hi
      rcases pick2 hi with rfl | rfl
      ·skip
       clear hi
       refine step_run (i := 4) (o := { dst := some 50, op := Op.load 73 (Operand.tmp 49), type := 73, pos := "world.go:105", after := #[{ on := 3, ground := Ground.data }], guard := none }) (v := v.ls.v) (w' := wbk17) rfl (by kernel_rfl) (exec_load 73 _ rfl ⟨b, 8, none⟩ (by kernel_rfl) (v.ls.v) (ld1 HF.out.wbox 8 U73 rfl)) hH (fun hH => ?_)
       try simp only [pS]
       refine any_step (i := 10) (o := { dst := some 56, op := Op.buildSlice 73 1 #[(0, Operand.tmp 55)], type := 73, pos := "world.go:105", after := #[{ on := 9, ground := Ground.data }], guard := none }) rfl (by kernel_rfl) (by kernel_rfl) (exec_slice2 73 147 _ rfl (Lv.cells ⟨t, ⟨a2, s.l, k2⟩⟩) (.agg (Lv.cells ⟨t, ⟨a2, s.l, k2⟩⟩)) (by kernel_rfl) (by kernel_rfl)) ((hH.alloc _)) (fun hH => ?_)
       try simp only [pS]
       have HF : Hid _ := HF.out.alloc 147 (Lv.cells ⟨t, ⟨a2, s.l, k2⟩⟩)
       generalize wbk17.alloc (.cells (Lv.cells ⟨t, ⟨a2, s.l, k2⟩⟩) 147) = wk19 at HF hH ⊢
       generalize wbk17.heap.size = gk18 at HF ⊢
       obtain ⟨a1, k1, W2, hap, hkJ, hbY, J2, hG⟩ := HF.out.pushL (e := (t, z)) (y := ⟨t, ⟨a2, s.l, k2⟩⟩) (g := gk18) (cc := 1) (by omega) ⟨rfl, HF.out.qs 1 _ rfl⟩ (fun j u hj => by rw [addr_add, Nat.zero_add, (HF.out.box 1 _ _ _ rfl).cell]; simpa [Lv.cells] using hj)
       refine xP 11 57 (.slice a1 (v.ls.l + 1) k1) (w' := W2) (exec_appN _ _ 73 73 rfl _ _ (by kernel_rfl) (by kernel_rfl) hap) ((HF.out.boxJ hkJ 0 rfl)) (fun hH => ?_)
       try simp only [pS]
       refine xV 12 58 (pV b 0) hH <| xV 13 59 (pV b 8) hH <| ?_
       try simp only [pS]
       refine xS 14 73 ⟨b, 8, none⟩ (.slice a1 (v.ls.l + 1) k1) (w' := W2.setRow b (Wv.cells ⟨v.gp, v.hd, v.mm, v.aa, v.rr, v.gn, v.un, v.ds, ⟨a1, v.ls.l + 1, k1⟩, v.now, v.br⟩)) (rs (Wv.cs v) ([.slice a1 (v.ls.l + 1) k1]) (Wv.cs ⟨v.gp, v.hd, v.mm, v.aa, v.rr, v.gn, v.un, v.ds, ⟨a1, v.ls.l + 1, k1⟩, v.now, v.br⟩) (hbY) S73 (by simp [Value.oneCell', Sl.v])) ((hG.box 0 _ _ _ rfl)) (fun hH => ?_)
       try simp only [pS]
       have HF : Hid (Wg w (W2.setRow b (Wv.cells ⟨v.gp, v.hd, v.mm, v.aa, v.rr, v.gn, v.un, v.ds, ⟨a1, v.ls.l + 1, k1⟩, v.now, v.br⟩)) n0 J J2 b ⟨v.gp, v.hd, v.mm, v.aa, v.rr, v.gn, v.un, v.ds, ⟨a1, v.ls.l + 1, k1⟩, v.now, v.br⟩ ({ x with ls := x.ls ++ [(t, z)] }) mp I H U D (L ++ [⟨t, ⟨a2, s.l, k2⟩⟩]) [(gk1, 41, Sp.cells t), (gk18, 147, Lv.cells ⟨t, ⟨a2, s.l, k2⟩⟩)] [] [(s, z), (⟨a2, s.l, k2⟩, z)]) := hG
       try clear hG
       generalize W2.setRow b (Wv.cells ⟨v.gp, v.hd, v.mm, v.aa, v.rr, v.gn, v.un, v.ds, ⟨a1, v.ls.l + 1, k1⟩, v.now, v.br⟩) = wk20 at HF hH ⊢
       refine wpAnyH_done (by kernel_rfl) ?_ _
       try simp only [pS]
       clear hH
       go_wp2
       rw [HC.out, hlw]
       refine bodyPost_end (v := .tuple #[]) (by kernel_rfl) rfl ⟨rfl, HF.out.out⟩
      ·skip
       clear hi
       refine step_run (i := 10) (o := { dst := some 56, op := Op.buildSlice 73 1 #[(0, Operand.tmp 55)], type := 73, pos := "world.go:105", after := #[{ on := 9, ground := Ground.data }], guard := none }) rfl (by kernel_rfl) (exec_slice2 73 147 _ rfl (Lv.cells ⟨t, ⟨a2, s.l, k2⟩⟩) (.agg (Lv.cells ⟨t, ⟨a2, s.l, k2⟩⟩)) (by kernel_rfl) (by kernel_rfl)) ((hH.alloc _)) (fun hH => ?_)
       try simp only [pS]
       have HF : Hid _ := HF.out.alloc 147 (Lv.cells ⟨t, ⟨a2, s.l, k2⟩⟩)
       generalize wbk17.alloc (.cells (Lv.cells ⟨t, ⟨a2, s.l, k2⟩⟩) 147) = wk22 at HF hH ⊢
       generalize wbk17.heap.size = gk21 at HF ⊢
       refine xP 4 50 v.ls.v (w' := wk22) (exec_load 73 _ rfl ⟨b, 8, none⟩ (by kernel_rfl) (v.ls.v) (ld1 HF.out.wbox 8 U73 rfl)) hH (fun hH => ?_)
       try simp only [pS]
       obtain ⟨a1, k1, W2, hap, hkJ, hbY, J2, hG⟩ := HF.out.pushL (e := (t, z)) (y := ⟨t, ⟨a2, s.l, k2⟩⟩) (g := gk21) (cc := 1) (by omega) ⟨rfl, HF.out.qs 1 _ rfl⟩ (fun j u hj => by rw [addr_add, Nat.zero_add, (HF.out.box 1 _ _ _ rfl).cell]; simpa [Lv.cells] using hj)
       refine xP 11 57 (.slice a1 (v.ls.l + 1) k1) (w' := W2) (exec_appN _ _ 73 73 rfl _ _ (by kernel_rfl) (by kernel_rfl) hap) ((HF.out.boxJ hkJ 0 rfl)) (fun hH => ?_)
       try simp only [pS]
       refine xV 12 58 (pV b 0) hH <| xV 13 59 (pV b 8) hH <| ?_
       try simp only [pS]
       refine xS 14 73 ⟨b, 8, none⟩ (.slice a1 (v.ls.l + 1) k1) (w' := W2.setRow b (Wv.cells ⟨v.gp, v.hd, v.mm, v.aa, v.rr, v.gn, v.un, v.ds, ⟨a1, v.ls.l + 1, k1⟩, v.now, v.br⟩)) (rs (Wv.cs v) ([.slice a1 (v.ls.l + 1) k1]) (Wv.cs ⟨v.gp, v.hd, v.mm, v.aa, v.rr, v.gn, v.un, v.ds, ⟨a1, v.ls.l + 1, k1⟩, v.now, v.br⟩) (hbY) S73 (by simp [Value.oneCell', Sl.v])) ((hG.box 0 _ _ _ rfl)) (fun hH => ?_)
       try simp only [pS]
       have HF : Hid (Wg w (W2.setRow b (Wv.cells ⟨v.gp, v.hd, v.mm, v.aa, v.rr, v.gn, v.un, v.ds, ⟨a1, v.ls.l + 1, k1⟩, v.now, v.br⟩)) n0 J J2 b ⟨v.gp, v.hd, v.mm, v.aa, v.rr, v.gn, v.un, v.ds, ⟨a1, v.ls.l + 1, k1⟩, v.now, v.br⟩ ({ x with ls := x.ls ++ [(t, z)] }) mp I H U D (L ++ [⟨t, ⟨a2, s.l, k2⟩⟩]) [(gk1, 41, Sp.cells t), (gk21, 147, Lv.cells ⟨t, ⟨a2, s.l, k2⟩⟩)] [] [(s, z), (⟨a2, s.l, k2⟩, z)]) := hG
       try clear hG
       generalize W2.setRow b (Wv.cells ⟨v.gp, v.hd, v.mm, v.aa, v.rr, v.gn, v.un, v.ds, ⟨a1, v.ls.l + 1, k1⟩, v.now, v.br⟩) = wk23 at HF hH ⊢
       refine wpAnyH_done (by kernel_rfl) ?_ _
       try simp only [pS]
       clear hH
       go_wp2
       rw [HC.out, hlw]
       refine bodyPost_end (v := .tuple #[]) (by kernel_rfl) rfl ⟨rfl, HF.out.out⟩
end Go.Proofs.Ytgiokkcdgoloaaa.Md
