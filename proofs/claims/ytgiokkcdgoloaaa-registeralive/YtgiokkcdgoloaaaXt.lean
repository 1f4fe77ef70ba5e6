import Derived.Test.YtgiokkcdgoloaaaXs
namespace Go.Proofs.Ytgiokkcdgoloaaa.Md
open Go.RowKit
set_option linter.unusedVariables false
set_option linter.unusedSimpArgs false
theorem DdM.no {W W' : World} {n0 : Nat} {p : Dd} {v : Dv} (h : DdM W n0 p v) (hk : Kept No W W') : DdM W' n0 p v := ⟨h.e, h.b.no hk, h.c.no hk⟩
theorem rests_any (n0 : Nat) (J : Nat → Prop) (b : Nat) (v : Wv) (x : Wd) (mp : Nat → Option Nat) (I : Nat → Nat → Prop) (H : List Bl) (U : List Mg) (D : List Dv) (L : List Lv) (p : Dd) (e : Dv) (w : World) (hW : WA w n0 J b v x mp I H U D L) (hed : DdM w n0 p e) (hr : RestsW x p) (hdl : x.ds.length ≤ 1000000000) : Calls Try.prog 43 #[.pointer (some ⟨b, 0, none⟩), .agg (Dv.cells e)] w (TrR w) := by
 obtain ⟨he, hb, hc⟩ := hed
 generalize e.da = da at he hb
 generalize e.r.da = ra at he hc
 subst he
 unfold RestsW at hr
 cases hw : p.wr with
 | true =>
  rw [if_pos hw] at hr
  exact rests_w n0 J b v x mp I H U D L p.cl p.beg p.en p.er da ra p.st [] w hW hr.1 (by have := hc.rd.len; rw [hr.2] at this; exact this.symm)
 | false =>
  rw [if_neg (by rw [hw]; decide)] at hr
  by_cases h0 : p.st.n = 0 ∧ p.st.c = 0
  · rw [if_pos h0] at hr
    have hs : p.st = spZ := by
     cases hp : p.st
     rw [hp] at h0
     have e1 := h0.1
     have e2 := h0.2
     dsimp only at e1 e2
     rw [e1, e2]
     rfl
    rw [hs]
    exact rests_z n0 J b v x mp I H U D L p.cl p.beg p.en p.er da ra p.st [] w hW (by rw [hr] at hc; exact hc)
  · rw [if_neg h0] at hr
    obtain ⟨j, d, h1, h2, h3, h4, h5, h6⟩ := hr
    exact rests_l n0 J b v x mp I H U D L p.cl p.beg p.en p.er da ra p.st p.rz w j d hW hc (by
     cases hq : eqS p.st spZ with
     | false => rfl
     | true => exact absurd (by rw [eqS_iff.1 hq]; exact ⟨rfl, rfl⟩) h0) h1 h2 h3 h4 h5 h6 hdl
theorem after_true {p q : Sp} {ab : Bool} (h : if ab then slt p q else sle p q) : aftB p q ab = true := by
 unfold aftB
 unfold slt sle at h
 cases hq : eqS p q with
 | true =>
  rw [eqS_iff.1 hq] at h
  cases ab
  · rfl
  · exfalso
    rw [if_pos rfl] at h
    omega
 | false =>
  rw [if_neg (by decide), Bool.or_eq_true, Bool.and_eq_true, decide_eq_true_eq, beq_iff_eq, decide_eq_true_eq]
  have hne : p.n = q.n → p.c ≠ q.c := fun e1 e2 => by
   have : p = q := by
    cases p; cases q
    dsimp only at e1 e2
    rw [e1, e2]
   rw [this, eqS_refl] at hq
   cases hq
  cases ab
  · rw [if_neg (by decide)] at h
    omega
  · rw [if_pos rfl] at h
    omega
set_option maxRecDepth 100000 in
set_option maxHeartbeats 4000000 in
theorem right_any (n0 : Nat) (J : Nat → Prop) (b : Nat) (v : Wv) (x : Wd) (mp : Nat → Option Nat) (I : Nat → Nat → Prop) (H : List Bl) (U : List Mg) (D : List Dv) (L : List Lv) (w : World) (hW : WA w n0 J b v x mp I H U D L) (hR : RightW x) (hdl : x.ds.length ≤ 1000000000) : Calls Try.prog 19 #[.pointer (some ⟨b, 0, none⟩)] w (TrR w) := by
 refine hideC fun C HC => ?_
 have hxd : x.ds.length = v.ds.l := by rw [hW.pt.ds.1, hW.dl]
 have hbr : v.br = false := by rw [hW.br, hR.1]
 have HR : Hid (RightW x) := hR
 have HF : Hid (Rg w w n0 J b v x mp I H U D L [] []) := Rg.start hW (by simp)
 clear hW hR
 go_enter Try.func19, Try.ntmps19
 go_upto_region 0 with fail
 refine WL.start <| uK (.bool false) <| WL.nil <| ?_
 try simp only [pS]
 go_upto_region 1 with fail
 refine WL.start <| uK (.int .i64 0) <| WL.nil <| ?_
 try simp only [pS]
 go_wp2
 go_loopw [3] (fun v3 wr => ∃ i : Nat, v3 = .int .i64 ((i : Nat) : Int) ∧ i ≤ v.ds.l ∧ Hid (Rg w wr n0 J b v x mp I H U D L [] [])) (fun i _ => v.ds.l - (intOf i).toNat)
 case atStart => exact ⟨0, by go_num, by omega, HF⟩
 case round =>
  rename World => wo
  clear HF
  obtain ⟨i, rfl, hi, HF⟩ := hrel
  by_cases hlt : i < v.ds.l
  · skip
    obtain ⟨a, hai⟩ : ∃ a, x.ds[i]? = some a := ⟨_, List.getElem?_eq_getElem (by omega)⟩
    obtain ⟨e, hei, hed⟩ := HF.out.wa0.pt.ds.at hai
    obtain ⟨gd, hgd⟩ := own_at HF.out.wa0.ds (by omega)
    have hwr : e.wr = a.wr := by rw [hed.e]
    have hbg : e.beg = a.beg := by rw [hed.e]
    have hen : e.en = a.en := by rw [hed.e]
    have her : e.r.er = a.er := by rw [hed.e]
    have hes : e.r.st = a.st := by rw [hed.e]
    have HE : Hid (DdM w n0 a e) := hed
    clear hed
    go_upto_region 2 with fail
    refine WL.start <| uK (.int .i64 ((i : Nat) : Int)) <| uK (pV b 0) <| uK (pV b 0) <| uK (pV b 7) <| uL 72 ⟨b, 7, none⟩ (v.ds.v) (ld1 HF.out.wbox 7 U72 rfl) <| uK (.int .i64 ((v.ds.l : Nat) : Int)) <| uB .lss 3 (.int .i64 ((i : Nat) : Int)) (.int .i64 ((v.ds.l : Nat) : Int)) (.bool true) (by rw [b_lss, decide_eq_true (by omega)]) <| WL.nil <| ?_
    try simp only [pS]
    go_upto_region 4 with fail
    refine WL.start <| uK (pV b 0) <| uK (pV b 0) <| uK (pV b 7) <| uL 72 ⟨b, 7, none⟩ (v.ds.v) (ld1 HF.out.wbox 7 U72 rfl) <| uK (.int .i64 ((i : Nat) : Int)) <| uW (pV gd (0 + i * 16)) (exec_ixS 72 16 E72 F72 _ _ rfl hgd (by omega)) <| uL 109 ⟨gd, 0 + i * 16, none⟩ (.agg (Dv.cells e)) ((load_part (n := 0) (own_cell HF.out.wa.ds hgd (dvL_c D) (by decide) hei) (part_of (off := 0) (sub := Dv.cs e) (by kernel_rfl)) U109 rfl S109)) <| ?_
    try simp only [pS]
    refine uR (pV wo.heap.size 0) (wo.alloc (.cells (Dv.cells dvZ) 109)) (exec_alloc 109 rfl (Dv.cells dvZ) Z109) ?_
    try simp only [pS]
    have HF : Hid _ := HF.out.alloc 109 (Dv.cells dvZ)
    generalize wo.alloc (.cells (Dv.cells dvZ) 109) = wk2 at HF ⊢
    generalize wo.heap.size = gk1 at HF ⊢
    refine uT 109 ⟨gk1, 0, none⟩ (.agg (Dv.cells e)) (wk2.setRow gk1 (Dv.cells e)) (rs (Dv.cs dvZ) (Dv.cs e) (Dv.cs e) (HF.out.box 0 _ _ _ rfl) S109 (Dv.oneL _)) ?_
    try simp only [pS]
    have HF : Hid _ := HF.out.set 0 rfl (Dv.cells e)
    generalize wk2.setRow gk1 (Dv.cells e) = wk3 at HF ⊢
    refine WL.nil ?_
    try simp only [pS]
    go_upto_region 5 with fail
    refine WL.start <| uK (pV gk1 3) <| uL 3 ⟨gk1, 3, none⟩ (.int .i64 e.en) (ld1 (HF.out.box 0 _ _ _ rfl) 3 U3 rfl) <| ?_
    try simp only [pS]
    cases q1 : (e.en == 0)
    ·skip
     refine uB .eql 3 (.int .i64 e.en) (.int .i64 0) (.bool false) (by rw [b_eql, q1]; try rfl) <| uK (.bool false) <| uK (pV gk1 5) <| uK (pV gk1 5) <| uL 86 ⟨gk1, 5, none⟩ (.int .i64 e.r.er) (ld1 (HF.out.box 0 _ _ _ rfl) 5 U86 rfl) <| ?_
     try simp only [pS]
     cases q2 : (e.r.er == 0)
     ·skip
      refine uB .neq 86 (.int .i64 e.r.er) (.int .i64 0) (.bool true) (by rw [b_neq86, q2]; try rfl) <| uK (.bool true) <| WL.nil <| ?_
      try simp only [pS]
      have HF : Hid (Rg w wk3 n0 J b v x mp I H U D L [] []) := Rg.front (l := []) HF.out
      go_upto_region 3 with fail
      refine WL.start <| uK (.int .i64 ((i : Nat) : Int)) <| uB .add 3 (.int .i64 ((i : Nat) : Int)) (.int .i64 1) (.int .i64 (((i + 1) : Nat) : Int)) (b_addw _ _ _ (by rw [IntKind.wrap_i64]; omega) _) <| uK (.int .i64 (((i + 1) : Nat) : Int)) <| WL.nil <| ?_
      try simp only [pS]
      go_wp2
      go_roundw
      case rel => exact ⟨i + 1, by go_num, by omega, HF⟩
      case measure => simp [intOf]; omega
     ·skip
      refine uB .neq 86 (.int .i64 e.r.er) (.int .i64 0) (.bool false) (by rw [b_neq86, q2]; try rfl) <| uK (.bool false) <| WL.nil <| ?_
      try simp only [pS]
      go_upto_region 6 with fail
      refine WL.start <| uK (pV b 0) <| uL 109 ⟨gk1, 0, none⟩ (.agg (Dv.cells e)) (run_load_part (cs := Dv.cs e) (sub := Dv.cs e) (HF.out.box 0 _ _ _ rfl) (Part.all _) U109 rfl S109) <| ?_
      try simp only [pS]
      have hae : a.en ≠ 0 := fun f => by rw [hen, f, beq_self_eq_true] at q1; cases q1
      have hao : a.er = 0 := by rw [← her]; exact beq_iff_eq.1 q2
      obtain ⟨hrs, hpr⟩ := HR.out.2 i a hai hae hao
      have HP : Hid (∀ (k : Nat) (b : Dd), k ≠ i → x.ds[k]? = some b → b.en ≠ 0 → b.er = 0 → ¬ (a.wr = true ∧ b.wr = true ∧ a.st = b.st) ∧ (a.en < b.beg → if b.wr then slt a.st b.st else sle a.st b.st)) := hpr
      clear hpr
      refine uC 43 #[pV b 0, .agg (Dv.cells e)] (rests_any n0 J b v x mp I H U D L a e _ HF.out.wa (HE.out.no HF.out.kept) hrs hdl) ?_
      rintro e wk4 ⟨rfl, hk⟩
      have HF : Hid _ := HF.out.no hk
      clear hk
      refine ⟨.bool true, rfl, ?_⟩
      try simp only [pS]
      refine uK (.bool false) <| WL.nil <| ?_
      try simp only [pS]
      go_upto_region 8 with fail
      refine WL.start <| uK (.int .i64 0) <| WL.nil <| ?_
      try simp only [pS]
      go_wp2
      go_loopw [5] (fun v5 wr => ∃ k : Nat, v5 = .int .i64 ((k : Nat) : Int) ∧ k ≤ v.ds.l ∧ Hid (Rg w wr n0 J b v x mp I H U D L [(gk1, 109, Dv.cells e)] [])) (fun k _ => v.ds.l - (intOf k).toNat)
      case atStart => exact ⟨0, by go_num, by omega, HF⟩
      case round =>
       rename World => wi
       clear HF
       obtain ⟨k, rfl, hk, HF⟩ := hrel
       by_cases hlk : k < v.ds.l
       · skip
         obtain ⟨c, hck⟩ : ∃ c, x.ds[k]? = some c := ⟨_, List.getElem?_eq_getElem (by omega)⟩
         obtain ⟨g, hgk, hgd'⟩ := HF.out.wa0.pt.ds.at hck
         have kwr : g.wr = c.wr := by rw [hgd'.e]
         have kbg : g.beg = c.beg := by rw [hgd'.e]
         have ken : g.en = c.en := by rw [hgd'.e]
         have ker : g.r.er = c.er := by rw [hgd'.e]
         have kes : g.r.st = c.st := by rw [hgd'.e]
         clear hgd'
         go_upto_region 9 with fail
         refine WL.start <| uK (.int .i64 ((k : Nat) : Int)) <| uK (pV b 0) <| uK (pV b 0) <| uK (pV b 7) <| uL 72 ⟨b, 7, none⟩ (v.ds.v) (ld1 HF.out.wbox 7 U72 rfl) <| uK (.int .i64 ((v.ds.l : Nat) : Int)) <| uB .lss 3 (.int .i64 ((k : Nat) : Int)) (.int .i64 ((v.ds.l : Nat) : Int)) (.bool true) (by rw [b_lss, decide_eq_true (by omega)]) <| WL.nil <| ?_
         try simp only [pS]
         go_upto_region 11 with fail
         refine WL.start <| uK (pV b 0) <| uK (pV b 0) <| uK (pV b 7) <| uL 72 ⟨b, 7, none⟩ (v.ds.v) (ld1 HF.out.wbox 7 U72 rfl) <| uK (.int .i64 ((k : Nat) : Int)) <| uW (pV gd (0 + k * 16)) (exec_ixS 72 16 E72 F72 _ _ rfl hgd (by omega)) <| uL 109 ⟨gd, 0 + k * 16, none⟩ (.agg (Dv.cells g)) ((load_part (n := 0) (own_cell HF.out.wa.ds hgd (dvL_c D) (by decide) hgk) (part_of (off := 0) (sub := Dv.cs g) (by kernel_rfl)) U109 rfl S109)) <| ?_
         try simp only [pS]
         refine uR (pV wi.heap.size 0) (wi.alloc (.cells (Dv.cells dvZ) 109)) (exec_alloc 109 rfl (Dv.cells dvZ) Z109) ?_
         try simp only [pS]
         have HF : Hid _ := HF.out.alloc 109 (Dv.cells dvZ)
         generalize wi.alloc (.cells (Dv.cells dvZ) 109) = wk6 at HF ⊢
         generalize wi.heap.size = gk5 at HF ⊢
         refine uT 109 ⟨gk5, 0, none⟩ (.agg (Dv.cells g)) (wk6.setRow gk5 (Dv.cells g)) (rs (Dv.cs dvZ) (Dv.cs g) (Dv.cs g) (HF.out.box 1 _ _ _ rfl) S109 (Dv.oneL _)) ?_
         try simp only [pS]
         have HF : Hid _ := HF.out.set 1 rfl (Dv.cells g)
         generalize wk6.setRow gk5 (Dv.cells g) = wk7 at HF ⊢
         refine WL.nil ?_
         try simp only [pS]
         go_upto_region 12 with fail
         refine WL.start <| uK (.int .i64 ((k : Nat) : Int)) <| uK (.int .i64 ((i : Nat) : Int)) <| ?_
         try simp only [pS]
         cases q3 : (((k : Nat) : Int) == ((i : Nat) : Int))
         ·skip
          refine uB .eql 3 (.int .i64 ((k : Nat) : Int)) (.int .i64 ((i : Nat) : Int)) (.bool false) (by rw [b_eql, q3]; try rfl) <| uK (.bool false) <| uK (pV gk5 3) <| uL 3 ⟨gk5, 3, none⟩ (.int .i64 g.en) (ld1 (HF.out.box 1 _ _ _ rfl) 3 U3 rfl) <| ?_
          try simp only [pS]
          cases q4 : (g.en == 0)
          ·skip
           refine uB .eql 3 (.int .i64 g.en) (.int .i64 0) (.bool false) (by rw [b_eql, q4]; try rfl) <| uK (.bool false) <| uK (.bool false) <| uK (pV gk5 5) <| uK (pV gk5 5) <| uL 86 ⟨gk5, 5, none⟩ (.int .i64 g.r.er) (ld1 (HF.out.box 1 _ _ _ rfl) 5 U86 rfl) <| ?_
           try simp only [pS]
           cases q5 : (g.r.er == 0)
           ·skip
            refine uB .neq 86 (.int .i64 g.r.er) (.int .i64 0) (.bool true) (by rw [b_neq86, q5]; try rfl) <| uK (.bool true) <| WL.nil <| ?_
            try simp only [pS]
            have HF : Hid (Rg w wk7 n0 J b v x mp I H U D L [(gk1, 109, Dv.cells e)] []) := Rg.front (l := [(gk1, 109, Dv.cells e)]) HF.out
            go_upto_region 10 with fail
            refine WL.start <| uK (.int .i64 ((k : Nat) : Int)) <| uB .add 3 (.int .i64 ((k : Nat) : Int)) (.int .i64 1) (.int .i64 (((k + 1) : Nat) : Int)) (b_addw _ _ _ (by rw [IntKind.wrap_i64]; omega) _) <| uK (.int .i64 (((k + 1) : Nat) : Int)) <| WL.nil <| ?_
            try simp only [pS]
            go_wp2
            go_roundw
            case rel => exact ⟨k + 1, by go_num, by omega, HF⟩
            case measure => simp [intOf]; omega
           ·skip
            refine uB .neq 86 (.int .i64 g.r.er) (.int .i64 0) (.bool false) (by rw [b_neq86, q5]; try rfl) <| uK (.bool false) <| WL.nil <| ?_
            try simp only [pS]
            have hki : k ≠ i := fun f => by
             rw [f, beq_self_eq_true] at q3
             cases q3
            have hbe : c.en ≠ 0 := fun f => by rw [ken, f, beq_self_eq_true] at q4; cases q4
            have hbo : c.er = 0 := by rw [← ker]; exact beq_iff_eq.1 q5
            obtain ⟨hp1, hp2⟩ := HP.out k c hki hck hbe hbo
            go_upto_region 13 with fail
            refine WL.start <| uK (pV gk1 0) <| uL 4 ⟨gk1, 0, none⟩ (.bool e.wr) (ld1 (HF.out.box 0 _ _ _ rfl) 0 U4 rfl) <| uK (.bool e.wr) <| ?_
            try simp only [pS]
            cases q6 : (e.wr)
            ·skip
             try simp only [q6]
             refine uZ <| uZ <| uK (.bool false) <| uK (.bool false) <| uZ <| uZ <| uZ <| uZ <| uZ <| uZ <| uZ <| uK (.bool false) <| WL.nil <| ?_
             try simp only [pS]
             go_upto_region 15 with fail
             refine WL.start <| uK (pV gk1 3) <| uL 3 ⟨gk1, 3, none⟩ (.int .i64 e.en) (ld1 (HF.out.box 0 _ _ _ rfl) 3 U3 rfl) <| uK (pV gk5 2) <| uL 3 ⟨gk5, 2, none⟩ (.int .i64 g.beg) (ld1 (HF.out.box 1 _ _ _ rfl) 2 U3 rfl) <| ?_
             try simp only [pS]
             cases q7 : (decide (e.en < g.beg))
             ·skip
              refine uB .lss 3 (.int .i64 e.en) (.int .i64 g.beg) (.bool false) (by rw [b_lss, q7]; try rfl) <| uK (.bool false) <| uZ <| uZ <| uZ <| uZ <| uZ <| uZ <| uZ <| uZ <| uZ <| uZ <| uK (.bool false) <| WL.nil <| ?_
              try simp only [pS]
              have HF : Hid (Rg w wk7 n0 J b v x mp I H U D L [(gk1, 109, Dv.cells e)] []) := Rg.front (l := [(gk1, 109, Dv.cells e)]) HF.out
              go_upto_region 10 with fail
              refine WL.start <| uK (.int .i64 ((k : Nat) : Int)) <| uB .add 3 (.int .i64 ((k : Nat) : Int)) (.int .i64 1) (.int .i64 (((k + 1) : Nat) : Int)) (b_addw _ _ _ (by rw [IntKind.wrap_i64]; omega) _) <| uK (.int .i64 (((k + 1) : Nat) : Int)) <| WL.nil <| ?_
              try simp only [pS]
              go_wp2
              go_roundw
              case rel => exact ⟨k + 1, by go_num, by omega, HF⟩
              case measure => simp [intOf]; omega
             ·skip
              refine uB .lss 3 (.int .i64 e.en) (.int .i64 g.beg) (.bool true) (by rw [b_lss, q7]; try rfl) <| uK (.bool true) <| uK (pV gk1 5) <| uK (pV gk1 13) <| uL 41 ⟨gk1, 13, none⟩ (.agg (Sp.cells e.r.st)) (run_load_part (cs := Dv.cs e) (sub := Sp.cs e.r.st) (HF.out.box 0 _ _ _ rfl) (part_of (by kernel_rfl)) U41 rfl S41) <| uK (pV gk5 5) <| uK (pV gk5 13) <| uL 41 ⟨gk5, 13, none⟩ (.agg (Sp.cells g.r.st)) (run_load_part (cs := Dv.cs g) (sub := Sp.cs g.r.st) (HF.out.box 1 _ _ _ rfl) (part_of (by kernel_rfl)) U41 rfl S41) <| uK (pV gk5 0) <| uL 4 ⟨gk5, 0, none⟩ (.bool g.wr) (ld1 (HF.out.box 1 _ _ _ rfl) 0 U4 rfl) <| ?_
              try simp only [pS]
              refine uC 44 #[.agg (Sp.cells e.r.st), .agg (Sp.cells g.r.st), .bool g.wr] (after_any e.r.st g.r.st g.wr _) ?_
              rintro e wk8 ⟨rfl, hk⟩
              have HF : Hid _ := HF.out.no hk
              clear hk
              refine ⟨.bool true, by rw [show aftB e.r.st g.r.st g.wr = true from by rw [hes, kes, kwr]; exact after_true (hp2 (by rw [← hen, ← kbg]; exact of_decide_eq_true q7))], ?_⟩
              try simp only [pS]
              refine uK (.bool false) <| uK (.bool false) <| WL.nil <| ?_
              try simp only [pS]
              have HF : Hid (Rg w wk8 n0 J b v x mp I H U D L [(gk1, 109, Dv.cells e)] []) := Rg.front (l := [(gk1, 109, Dv.cells e)]) HF.out
              go_upto_region 10 with fail
              refine WL.start <| uK (.int .i64 ((k : Nat) : Int)) <| uB .add 3 (.int .i64 ((k : Nat) : Int)) (.int .i64 1) (.int .i64 (((k + 1) : Nat) : Int)) (b_addw _ _ _ (by rw [IntKind.wrap_i64]; omega) _) <| uK (.int .i64 (((k + 1) : Nat) : Int)) <| WL.nil <| ?_
              try simp only [pS]
              go_wp2
              go_roundw
              case rel => exact ⟨k + 1, by go_num, by omega, HF⟩
              case measure => simp [intOf]; omega
            ·skip
             try simp only [q6]
             refine uK (pV gk5 0) <| uL 4 ⟨gk5, 0, none⟩ (.bool g.wr) (ld1 (HF.out.box 1 _ _ _ rfl) 0 U4 rfl) <| uK (.bool g.wr) <| uK (.bool g.wr) <| ?_
             try simp only [pS]
             cases q8 : (g.wr)
             ·skip
              try simp only [q8]
              refine uZ <| uZ <| uZ <| uZ <| uZ <| uZ <| uZ <| uK (.bool false) <| WL.nil <| ?_
              try simp only [pS]
              go_upto_region 15 with fail
              refine WL.start <| uK (pV gk1 3) <| uL 3 ⟨gk1, 3, none⟩ (.int .i64 e.en) (ld1 (HF.out.box 0 _ _ _ rfl) 3 U3 rfl) <| uK (pV gk5 2) <| uL 3 ⟨gk5, 2, none⟩ (.int .i64 g.beg) (ld1 (HF.out.box 1 _ _ _ rfl) 2 U3 rfl) <| ?_
              try simp only [pS]
              cases q9 : (decide (e.en < g.beg))
              ·skip
               refine uB .lss 3 (.int .i64 e.en) (.int .i64 g.beg) (.bool false) (by rw [b_lss, q9]; try rfl) <| uK (.bool false) <| uZ <| uZ <| uZ <| uZ <| uZ <| uZ <| uZ <| uZ <| uZ <| uZ <| uK (.bool false) <| WL.nil <| ?_
               try simp only [pS]
               have HF : Hid (Rg w wk7 n0 J b v x mp I H U D L [(gk1, 109, Dv.cells e)] []) := Rg.front (l := [(gk1, 109, Dv.cells e)]) HF.out
               go_upto_region 10 with fail
               refine WL.start <| uK (.int .i64 ((k : Nat) : Int)) <| uB .add 3 (.int .i64 ((k : Nat) : Int)) (.int .i64 1) (.int .i64 (((k + 1) : Nat) : Int)) (b_addw _ _ _ (by rw [IntKind.wrap_i64]; omega) _) <| uK (.int .i64 (((k + 1) : Nat) : Int)) <| WL.nil <| ?_
               try simp only [pS]
               go_wp2
               go_roundw
               case rel => exact ⟨k + 1, by go_num, by omega, HF⟩
               case measure => simp [intOf]; omega
              ·skip
               refine uB .lss 3 (.int .i64 e.en) (.int .i64 g.beg) (.bool true) (by rw [b_lss, q9]; try rfl) <| uK (.bool true) <| uK (pV gk1 5) <| uK (pV gk1 13) <| uL 41 ⟨gk1, 13, none⟩ (.agg (Sp.cells e.r.st)) (run_load_part (cs := Dv.cs e) (sub := Sp.cs e.r.st) (HF.out.box 0 _ _ _ rfl) (part_of (by kernel_rfl)) U41 rfl S41) <| uK (pV gk5 5) <| uK (pV gk5 13) <| uL 41 ⟨gk5, 13, none⟩ (.agg (Sp.cells g.r.st)) (run_load_part (cs := Dv.cs g) (sub := Sp.cs g.r.st) (HF.out.box 1 _ _ _ rfl) (part_of (by kernel_rfl)) U41 rfl S41) <| uK (pV gk5 0) <| uL 4 ⟨gk5, 0, none⟩ (.bool g.wr) (ld1 (HF.out.box 1 _ _ _ rfl) 0 U4 rfl) <| ?_
               try simp only [pS]
               refine uC 44 #[.agg (Sp.cells e.r.st), .agg (Sp.cells g.r.st), .bool g.wr] (after_any e.r.st g.r.st g.wr _) ?_
               rintro e wk9 ⟨rfl, hk⟩
               have HF : Hid _ := HF.out.no hk
               clear hk
               refine ⟨.bool true, by rw [show aftB e.r.st g.r.st g.wr = true from by rw [hes, kes, kwr]; exact after_true (hp2 (by rw [← hen, ← kbg]; exact of_decide_eq_true q9))], ?_⟩
               try simp only [pS]
               refine uK (.bool false) <| uK (.bool false) <| WL.nil <| ?_
               try simp only [pS]
               have HF : Hid (Rg w wk9 n0 J b v x mp I H U D L [(gk1, 109, Dv.cells e)] []) := Rg.front (l := [(gk1, 109, Dv.cells e)]) HF.out
               go_upto_region 10 with fail
               refine WL.start <| uK (.int .i64 ((k : Nat) : Int)) <| uB .add 3 (.int .i64 ((k : Nat) : Int)) (.int .i64 1) (.int .i64 (((k + 1) : Nat) : Int)) (b_addw _ _ _ (by rw [IntKind.wrap_i64]; omega) _) <| uK (.int .i64 (((k + 1) : Nat) : Int)) <| WL.nil <| ?_
               try simp only [pS]
               go_wp2
               go_roundw
               case rel => exact ⟨k + 1, by go_num, by omega, HF⟩
               case measure => simp [intOf]; omega
             ·skip
              try simp only [q8]
              refine uK (pV gk1 5) <| uK (pV gk1 13) <| uL 41 ⟨gk1, 13, none⟩ (.agg (Sp.cells e.r.st)) (run_load_part (cs := Dv.cs e) (sub := Sp.cs e.r.st) (HF.out.box 0 _ _ _ rfl) (part_of (by kernel_rfl)) U41 rfl S41) <| uK (pV gk5 5) <| uK (pV gk5 13) <| uL 41 ⟨gk5, 13, none⟩ (.agg (Sp.cells g.r.st)) (run_load_part (cs := Dv.cs g) (sub := Sp.cs g.r.st) (HF.out.box 1 _ _ _ rfl) (part_of (by kernel_rfl)) U41 rfl S41) <| ?_
              try simp only [pS]
              cases q10 : (eqS e.r.st g.r.st)
              ·skip
               refine uB .eql 41 (.agg (Sp.cells e.r.st)) (.agg (Sp.cells g.r.st)) (.bool false) (by rw [eqS_eql, q10]; try rfl) <| uK (.bool false) <| WL.nil <| ?_
               try simp only [pS]
               go_upto_region 15 with fail
               refine WL.start <| uK (pV gk1 3) <| uL 3 ⟨gk1, 3, none⟩ (.int .i64 e.en) (ld1 (HF.out.box 0 _ _ _ rfl) 3 U3 rfl) <| uK (pV gk5 2) <| uL 3 ⟨gk5, 2, none⟩ (.int .i64 g.beg) (ld1 (HF.out.box 1 _ _ _ rfl) 2 U3 rfl) <| ?_
               try simp only [pS]
               cases q11 : (decide (e.en < g.beg))
               ·skip
                refine uB .lss 3 (.int .i64 e.en) (.int .i64 g.beg) (.bool false) (by rw [b_lss, q11]; try rfl) <| uK (.bool false) <| uZ <| uZ <| uZ <| uZ <| uZ <| uZ <| uZ <| uZ <| uZ <| uZ <| uK (.bool false) <| WL.nil <| ?_
                try simp only [pS]
                have HF : Hid (Rg w wk7 n0 J b v x mp I H U D L [(gk1, 109, Dv.cells e)] []) := Rg.front (l := [(gk1, 109, Dv.cells e)]) HF.out
                go_upto_region 10 with fail
                refine WL.start <| uK (.int .i64 ((k : Nat) : Int)) <| uB .add 3 (.int .i64 ((k : Nat) : Int)) (.int .i64 1) (.int .i64 (((k + 1) : Nat) : Int)) (b_addw _ _ _ (by rw [IntKind.wrap_i64]; omega) _) <| uK (.int .i64 (((k + 1) : Nat) : Int)) <| WL.nil <| ?_
                try simp only [pS]
                go_wp2
                go_roundw
                case rel => exact ⟨k + 1, by go_num, by omega, HF⟩
                case measure => simp [intOf]; omega
               ·skip
                refine uB .lss 3 (.int .i64 e.en) (.int .i64 g.beg) (.bool true) (by rw [b_lss, q11]; try rfl) <| uK (.bool true) <| uK (pV gk1 5) <| uK (pV gk1 13) <| uL 41 ⟨gk1, 13, none⟩ (.agg (Sp.cells e.r.st)) (run_load_part (cs := Dv.cs e) (sub := Sp.cs e.r.st) (HF.out.box 0 _ _ _ rfl) (part_of (by kernel_rfl)) U41 rfl S41) <| uK (pV gk5 5) <| uK (pV gk5 13) <| uL 41 ⟨gk5, 13, none⟩ (.agg (Sp.cells g.r.st)) (run_load_part (cs := Dv.cs g) (sub := Sp.cs g.r.st) (HF.out.box 1 _ _ _ rfl) (part_of (by kernel_rfl)) U41 rfl S41) <| uK (pV gk5 0) <| uL 4 ⟨gk5, 0, none⟩ (.bool g.wr) (ld1 (HF.out.box 1 _ _ _ rfl) 0 U4 rfl) <| ?_
                try simp only [pS]
                refine uC 44 #[.agg (Sp.cells e.r.st), .agg (Sp.cells g.r.st), .bool g.wr] (after_any e.r.st g.r.st g.wr _) ?_
                rintro e wk10 ⟨rfl, hk⟩
                have HF : Hid _ := HF.out.no hk
                clear hk
                refine ⟨.bool true, by rw [show aftB e.r.st g.r.st g.wr = true from by rw [hes, kes, kwr]; exact after_true (hp2 (by rw [← hen, ← kbg]; exact of_decide_eq_true q11))], ?_⟩
                try simp only [pS]
                refine uK (.bool false) <| uK (.bool false) <| WL.nil <| ?_
                try simp only [pS]
                have HF : Hid (Rg w wk10 n0 J b v x mp I H U D L [(gk1, 109, Dv.cells e)] []) := Rg.front (l := [(gk1, 109, Dv.cells e)]) HF.out
                go_upto_region 10 with fail
                refine WL.start <| uK (.int .i64 ((k : Nat) : Int)) <| uB .add 3 (.int .i64 ((k : Nat) : Int)) (.int .i64 1) (.int .i64 (((k + 1) : Nat) : Int)) (b_addw _ _ _ (by rw [IntKind.wrap_i64]; omega) _) <| uK (.int .i64 (((k + 1) : Nat) : Int)) <| WL.nil <| ?_
                try simp only [pS]
                go_wp2
                go_roundw
                case rel => exact ⟨k + 1, by go_num, by omega, HF⟩
                case measure => simp [intOf]; omega
              ·skip
               refine uB .eql 41 (.agg (Sp.cells e.r.st)) (.agg (Sp.cells g.r.st)) (.bool true) (by rw [eqS_eql, q10]; try rfl) <| uK (.bool true) <| WL.nil <| ?_
               try simp only [pS]
               exact absurd ⟨hwr.symm.trans q6, kwr.symm.trans q8, by rw [← hes, ← kes]; exact eqS_iff.1 q10⟩ hp1
          ·skip
           refine uB .eql 3 (.int .i64 g.en) (.int .i64 0) (.bool true) (by rw [b_eql, q4]; try rfl) <| uK (.bool true) <| uK (.bool true) <| uZ <| uZ <| uZ <| uZ <| uK (.bool true) <| WL.nil <| ?_
           try simp only [pS]
           have HF : Hid (Rg w wk7 n0 J b v x mp I H U D L [(gk1, 109, Dv.cells e)] []) := Rg.front (l := [(gk1, 109, Dv.cells e)]) HF.out
           go_upto_region 10 with fail
           refine WL.start <| uK (.int .i64 ((k : Nat) : Int)) <| uB .add 3 (.int .i64 ((k : Nat) : Int)) (.int .i64 1) (.int .i64 (((k + 1) : Nat) : Int)) (b_addw _ _ _ (by rw [IntKind.wrap_i64]; omega) _) <| uK (.int .i64 (((k + 1) : Nat) : Int)) <| WL.nil <| ?_
           try simp only [pS]
           go_wp2
           go_roundw
           case rel => exact ⟨k + 1, by go_num, by omega, HF⟩
           case measure => simp [intOf]; omega
         ·skip
          refine uB .eql 3 (.int .i64 ((k : Nat) : Int)) (.int .i64 ((i : Nat) : Int)) (.bool true) (by rw [b_eql, q3]; try rfl) <| uK (.bool true) <| uZ <| uZ <| uZ <| uK (.bool true) <| uK (.bool true) <| uZ <| uZ <| uZ <| uZ <| uK (.bool true) <| WL.nil <| ?_
          try simp only [pS]
          have HF : Hid (Rg w wk7 n0 J b v x mp I H U D L [(gk1, 109, Dv.cells e)] []) := Rg.front (l := [(gk1, 109, Dv.cells e)]) HF.out
          go_upto_region 10 with fail
          refine WL.start <| uK (.int .i64 ((k : Nat) : Int)) <| uB .add 3 (.int .i64 ((k : Nat) : Int)) (.int .i64 1) (.int .i64 (((k + 1) : Nat) : Int)) (b_addw _ _ _ (by rw [IntKind.wrap_i64]; omega) _) <| uK (.int .i64 (((k + 1) : Nat) : Int)) <| WL.nil <| ?_
          try simp only [pS]
          go_wp2
          go_roundw
          case rel => exact ⟨k + 1, by go_num, by omega, HF⟩
          case measure => simp [intOf]; omega
       · skip
         go_upto_region 9 with fail
         refine WL.start <| uK (.int .i64 ((k : Nat) : Int)) <| uK (pV b 0) <| uK (pV b 0) <| uK (pV b 7) <| uL 72 ⟨b, 7, none⟩ (v.ds.v) (ld1 HF.out.wbox 7 U72 rfl) <| uK (.int .i64 ((v.ds.l : Nat) : Int)) <| uB .lss 3 (.int .i64 ((k : Nat) : Int)) (.int .i64 ((v.ds.l : Nat) : Int)) (.bool false) (by rw [b_lss, decide_eq_false (by omega)]) <| WL.nil <| ?_
         try simp only [pS]
         have HF : Hid (Rg w wi n0 J b v x mp I H U D L [] []) := Rg.front (l := []) HF.out
         go_upto_region 3 with fail
         refine WL.start <| uK (.int .i64 ((i : Nat) : Int)) <| uB .add 3 (.int .i64 ((i : Nat) : Int)) (.int .i64 1) (.int .i64 (((i + 1) : Nat) : Int)) (b_addw _ _ _ (by rw [IntKind.wrap_i64]; omega) _) <| uK (.int .i64 (((i + 1) : Nat) : Int)) <| WL.nil <| ?_
         try simp only [pS]
         go_wp2
         go_roundw
         case rel => exact ⟨i + 1, by go_num, by omega, HF⟩
         case measure => simp [intOf]; omega
    ·skip
     refine uB .eql 3 (.int .i64 e.en) (.int .i64 0) (.bool true) (by rw [b_eql, q1]; try rfl) <| uK (.bool true) <| uZ <| uZ <| uZ <| uZ <| uK (.bool true) <| WL.nil <| ?_
     try simp only [pS]
     have HF : Hid (Rg w wk3 n0 J b v x mp I H U D L [] []) := Rg.front (l := []) HF.out
     go_upto_region 3 with fail
     refine WL.start <| uK (.int .i64 ((i : Nat) : Int)) <| uB .add 3 (.int .i64 ((i : Nat) : Int)) (.int .i64 1) (.int .i64 (((i + 1) : Nat) : Int)) (b_addw _ _ _ (by rw [IntKind.wrap_i64]; omega) _) <| uK (.int .i64 (((i + 1) : Nat) : Int)) <| WL.nil <| ?_
     try simp only [pS]
     go_wp2
     go_roundw
     case rel => exact ⟨i + 1, by go_num, by omega, HF⟩
     case measure => simp [intOf]; omega
  · skip
    go_upto_region 2 with fail
    refine WL.start <| uK (.int .i64 ((i : Nat) : Int)) <| uK (pV b 0) <| uK (pV b 0) <| uK (pV b 7) <| uL 72 ⟨b, 7, none⟩ (v.ds.v) (ld1 HF.out.wbox 7 U72 rfl) <| uK (.int .i64 ((v.ds.l : Nat) : Int)) <| uB .lss 3 (.int .i64 ((i : Nat) : Int)) (.int .i64 ((v.ds.l : Nat) : Int)) (.bool false) (by rw [b_lss, decide_eq_false (by omega)]) <| WL.nil <| ?_
    try simp only [pS]
    go_upto_region 17 with fail
    refine WL.start <| uK (pV b 0) <| uK (pV b 0) <| uK (pV b 10) <| uL 4 ⟨b, 10, none⟩ (.bool v.br) (ld1 HF.out.wbox 10 U4 rfl) <| ?_
    try simp only [pS]
    cases q12 : (v.br)
    ·skip
     try simp only [q12]
     refine uK (.bool true) <| uK (.bool true) <| WL.nil <| ?_
     try simp only [pS]
     go_wp2
     rw [HC.out]
     exact ⟨rfl, HF.out.kept⟩
    ·skip
     try simp only [q12]
     refine uK (.bool false) <| uK (.bool false) <| WL.nil <| ?_
     try simp only [pS]
     rw [hbr] at q12
     cases q12
end Go.Proofs.Ytgiokkcdgoloaaa.Md
