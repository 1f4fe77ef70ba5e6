import Derived.Test.YtcgnbpaaalmkoabCe
namespace Go.Proofs.Ytcgnbpaaalmkoab
open Go.RowKit
set_option linter.unusedVariables false
set_option linter.unusedSimpArgs false

/-- Changes as they are told: without lists, and what the lists hold. -/
def scalC (x : Ch) : Ch := ⟨x.ky, ⟨x.b.s, slZ⟩, x.i, ⟨x.bk.up, slZ, slZ⟩⟩
def hAt (xs : List Ch) (i : Nat) : Ch := xs[i]?.getD chZ
structure ChRd (W : World) (x z : Ch) (bs : List Int) (es : List En) (ls : List La) : Prop where
  s : scalC x = z
  b : RdB W x.b.d bs
  e : RdE W x.bk.e es
  l : RdL W x.bk.l ls
theorem ChRd.no {W W' : World} {x z : Ch} {bs : List Int} {es : List En} {ls : List La} (h : ChRd W x z bs es ls) (hk : Kept No W W') : ChRd W' x z bs es ls := ⟨h.s, h.b.no hk, h.e.no hk, h.l.no hk⟩
structure TkRd (W : World) (s : Sl) (z : List Ch) (bs : List Int) (es : List En) (ls : List La) (X : List Ch) : Prop where
  len : X.length = s.l
  row : RowsAt 24 W s.a (X.map Ch.cs)
  zl : z.length = s.l
  el : ∀ i, i < s.l → ChRd W (hAt X i) (hAt z i) bs es ls
theorem TkRd.no {W W' : World} {s : Sl} {z : List Ch} {bs : List Int} {es : List En} {ls : List La} {X : List Ch} (h : TkRd W s z bs es ls X) (hk : Kept No W W') : TkRd W' s z bs es ls X := ⟨h.len, h.row.no hk, h.zl, fun i hi => (h.el i hi).no hk⟩
theorem TkRd.at {W : World} {s : Sl} {z : List Ch} {bs : List Int} {es : List En} {ls : List La} {X : List Ch} (h : TkRd W s z bs es ls X) {i : Nat} (hi : i < s.l) : ∃ b off, s.a = some ⟨b, off, none⟩ ∧ ∀ (j : Nat) v, (Ch.cs (hAt X i))[j]? = some v → W.cell? ⟨b, off + i * 24 + j, none⟩ = some v :=
  h.row i (Ch.cs (hAt X i)) (by rw [List.getElem?_map, List.getElem?_eq_getElem (by rw [h.len]; exact hi)]; unfold hAt; rw [List.getElem?_eq_getElem (by rw [h.len]; exact hi)]; rfl)
theorem like_ch {W : World} {x y z : Ch} {bs : List Int} {es : List En} {ls : List La} (h : ChRd W x z bs es ls) (g : ChRd W y z bs es ls) : ∃ (yd : Sl) (ea : Option Addr) (ek : Nat) (la : Option Addr) (lk : Nat), y = ⟨x.ky, ⟨x.b.s, yd⟩, x.i, ⟨x.bk.up, ⟨ea, x.bk.e.l, ek⟩, ⟨la, x.bk.l.l, lk⟩⟩⟩ ∧ RdB W yd bs ∧ RdE W ⟨ea, x.bk.e.l, ek⟩ es ∧ RdL W ⟨la, x.bk.l.l, lk⟩ ls := by
  have hs : scalC x = scalC y := h.s.trans g.s.symm
  have g1 : y.bk.e.l = x.bk.e.l := by rw [← g.e.len, ← h.e.len]
  have g2 : y.bk.l.l = x.bk.l.l := by rw [← g.l.len, ← h.l.len]
  have gb := g.b
  have ge := g.e
  have gl := g.l
  clear h g
  obtain ⟨ky, ⟨s, d⟩, i, ⟨up, ⟨ea, el, ek⟩, ⟨la, ll, lk⟩⟩⟩ := x
  obtain ⟨ky', ⟨s', d'⟩, i', ⟨up', ⟨ea', el', ek'⟩, ⟨la', ll', lk'⟩⟩⟩ := y
  simp only [scalC, Ch.mk.injEq, Bl.mk.injEq, Bv.mk.injEq, and_true] at hs
  obtain ⟨rfl, rfl, rfl, rfl⟩ := hs
  have g1 : el' = el := g1
  have g2 : ll' = ll := g2
  subst g1 g2
  exact ⟨d', ea', ek', la', lk', rfl, gb, ge, gl⟩
theorem part_at {cs sub : List Value} {n j : Nat} {v : Value} (h : (cs.drop n).take sub.length = sub) (hv : sub[j]? = some v) : cs[n + j]? = some v := part_of h j v hv
set_option maxRecDepth 100000 in
set_option maxHeartbeats 4000000 in
theorem sameH_any (xa ya : Option Addr) (n xk yk : Nat) (z : List Ch) (bs : List Int) (es : List En) (ls : List La) (X Y : List Ch) (w : World) (h1 : TkRd w ⟨xa, n, xk⟩ z bs es ls X) (h2 : TkRd w ⟨ya, n, yk⟩ z bs es ls Y) (hn : n ≤ 4000000000000) (hne : es.length ≤ 4000000000000) (hnl : ls.length ≤ 4000000000000) : Calls Try.prog 14 #[.slice xa n xk, .slice ya n yk] w (fun e w' => e = .returned (.bool true) ∧ Kept No w w') := by
  obtain ⟨C, hC⟩ : ∃ C : Ending → World → Prop, C = (fun e w' => e = .returned (.bool true) ∧ Kept No w w') := ⟨_, rfl⟩
  have HC : Hid (C = (fun e w' => e = .returned (.bool true) ∧ Kept No w w')) := hC
  rw [← hC]
  clear hC
  have H1 : Hid (TkRd w ⟨xa, n, xk⟩ z bs es ls X) := h1
  have H2 : Hid (TkRd w ⟨ya, n, yk⟩ z bs es ls Y) := h2
  clear h1 h2
  have HF : Hid (Fr No w w []) := Fr.start _ _
  go_enter Try.func14, Try.ntmps14
  go_upto_region 0 with fail
  refine WL.start ?_
  refine tK (.bool false) ?_
  try simp only [pS]
  refine WL.nil ?_
  try simp only [pS]
  go_upto_region 1 with fail
  refine WL.start ?_
  refine tK (.slice xa n xk) ?_
  refine tK (.int .i64 ((n : Nat) : Int)) ?_
  refine tK (.slice ya n yk) ?_
  refine tK (.int .i64 ((n : Nat) : Int)) ?_
  refine tW (.bool false) (eB .neq 3 _ _ _ rfl (.int .i64 ((n : Nat) : Int)) (.int .i64 ((n : Nat) : Int)) _ (by rw [b_neq, beq_self_eq_true]; rfl)) ?_
  try simp only [pS]
  refine WL.nil ?_
  try simp only [pS]
  go_upto_region 3 with fail
  refine WL.start ?_
  refine tK (.int .i64 0) ?_
  try simp only [pS]
  refine WL.nil ?_
  try simp only [pS]
  go_wp2
  go_loopw [5] (fun v5 wr => ∃ i : Nat, v5 = .int .i64 ((i : Nat) : Int) ∧ i ≤ n ∧ Hid (Fr No w wr [])) (fun i _ => n - (intOf i).toNat)
  case atStart => exact ⟨0, by go_num, by omega, HF⟩
  case round =>
    clear HF
    obtain ⟨i, rfl, hi, HF⟩ := hrel
    by_cases hlt : i < n
    · skip
      obtain ⟨pb, po, hcx⟩ := H1.out.at (i := i) hlt
      have hca := hcx.1
      have hcc := hcx.2
      obtain ⟨qb, qo, hdx⟩ := H2.out.at (i := i) hlt
      have hda := hdx.1
      have hdd := hdx.2
      clear hcx hdx
      have hs1 : Hid (Value.slice xa n xk = .slice (some ⟨pb, po, none⟩) n xk) := congrArg (fun a => Value.slice a n xk) hca
      have hs2 : Hid (Value.slice ya n yk = .slice (some ⟨qb, qo, none⟩) n yk) := congrArg (fun a => Value.slice a n yk) hda
      have e1 := H1.out.el i hlt
      have e2 := H2.out.el i hlt
      obtain ⟨x, hx⟩ : ∃ x, x = hAt X i := ⟨_, rfl⟩
      rw [← hx] at hcc e1
      obtain ⟨yd, ea, ek, la, lk, hy, hyb, hye, hyl⟩ := like_ch e1 e2
      rw [hy] at hdd
      have HXb : Hid (RdB w x.b.d bs) := e1.b
      have HXe : Hid (RdE w x.bk.e es) := e1.e
      have HXl : Hid (RdL w x.bk.l ls) := e1.l
      have HYb : Hid (RdB w yd bs) := hyb
      have HYe : Hid (RdE w ⟨ea, x.bk.e.l, ek⟩ es) := hye
      have HYl : Hid (RdL w ⟨la, x.bk.l.l, lk⟩ ls) := hyl
      have hxe : x.bk.e.l ≤ 4000000000000 := by rw [← e1.e.len]; exact hne
      have hxl : x.bk.l.l ≤ 4000000000000 := by rw [← e1.l.len]; exact hnl
      have ckp : Hid (∀ (j : Nat) v, (Ky.cs x.ky)[j]? = some v → w.cell? ⟨pb, po + i * 24 + j, none⟩ = some v) := fun j v hv => by
        have hj : j < 4 := (List.getElem?_eq_some_iff.1 hv).1
        have h := hcc (0 + j) v (by rw [Nat.zero_add, show Ch.cs _ = Ky.cs _ ++ _ from rfl, List.getElem?_append_left hj]; exact hv)
        rw [show po + i * 24 + j = po + i * 24 + (0 + j) by omega]
        exact h
      have csp : Hid (∀ (j : Nat) v, (Sp.cs x.b.s)[j]? = some v → w.cell? ⟨pb, po + i * 24 + 4 + j, none⟩ = some v) := fun j v hv => by
        have hj : j < 2 := (List.getElem?_eq_some_iff.1 hv).1
        have h := hcc (4 + j) v (part_at (n := 4) (sub := Sp.cs _) rfl hv)
        rw [show po + i * 24 + 4 + j = po + i * 24 + (4 + j) by omega]
        exact h
      have cip : Hid (∀ (j : Nat) v, (In.cs x.i)[j]? = some v → w.cell? ⟨pb, po + i * 24 + 7 + j, none⟩ = some v) := fun j v hv => by
        have hj : j < 14 := (List.getElem?_eq_some_iff.1 hv).1
        have h := hcc (7 + j) v (part_at (n := 7) (sub := In.cs _) rfl hv)
        rw [show po + i * 24 + 7 + j = po + i * 24 + (7 + j) by omega]
        exact h
      have cbp : Hid (∀ (j : Nat) v, (Bv.cs x.bk)[j]? = some v → w.cell? ⟨pb, po + i * 24 + 21 + j, none⟩ = some v) := fun j v hv => by
        have hj : j < 3 := (List.getElem?_eq_some_iff.1 hv).1
        have h := hcc (21 + j) v (part_at (n := 21) (sub := Bv.cs _) rfl hv)
        rw [show po + i * 24 + 21 + j = po + i * 24 + (21 + j) by omega]
        exact h
      have cdp : Hid (w.cell? ⟨pb, po + i * 24 + 4 + 2, none⟩ = some x.b.d.v) := hcc 6 _ rfl
      have ckq : Hid (∀ (j : Nat) v, (Ky.cs x.ky)[j]? = some v → w.cell? ⟨qb, qo + i * 24 + j, none⟩ = some v) := fun j v hv => by
        have hj : j < 4 := (List.getElem?_eq_some_iff.1 hv).1
        have h := hdd (0 + j) v (by rw [Nat.zero_add, show Ch.cs _ = Ky.cs _ ++ _ from rfl, List.getElem?_append_left hj]; exact hv)
        rw [show qo + i * 24 + j = qo + i * 24 + (0 + j) by omega]
        exact h
      have csq : Hid (∀ (j : Nat) v, (Sp.cs x.b.s)[j]? = some v → w.cell? ⟨qb, qo + i * 24 + 4 + j, none⟩ = some v) := fun j v hv => by
        have hj : j < 2 := (List.getElem?_eq_some_iff.1 hv).1
        have h := hdd (4 + j) v (part_at (n := 4) (sub := Sp.cs _) rfl hv)
        rw [show qo + i * 24 + 4 + j = qo + i * 24 + (4 + j) by omega]
        exact h
      have ciq : Hid (∀ (j : Nat) v, (In.cs x.i)[j]? = some v → w.cell? ⟨qb, qo + i * 24 + 7 + j, none⟩ = some v) := fun j v hv => by
        have hj : j < 14 := (List.getElem?_eq_some_iff.1 hv).1
        have h := hdd (7 + j) v (part_at (n := 7) (sub := In.cs _) rfl hv)
        rw [show qo + i * 24 + 7 + j = qo + i * 24 + (7 + j) by omega]
        exact h
      have cbq : Hid (∀ (j : Nat) v, (Bv.cs ⟨x.bk.up, ⟨ea, x.bk.e.l, ek⟩, ⟨la, x.bk.l.l, lk⟩⟩)[j]? = some v → w.cell? ⟨qb, qo + i * 24 + 21 + j, none⟩ = some v) := fun j v hv => by
        have hj : j < 3 := (List.getElem?_eq_some_iff.1 hv).1
        have h := hdd (21 + j) v (part_at (n := 21) (sub := Bv.cs _) rfl hv)
        rw [show qo + i * 24 + 21 + j = qo + i * 24 + (21 + j) by omega]
        exact h
      have cdq : Hid (w.cell? ⟨qb, qo + i * 24 + 4 + 2, none⟩ = some yd.v) := hdd 6 _ rfl
      clear hcc hdd hx hca hda e1 e2 hy hyb hye hyl
      go_upto_region 4 with fail
      refine WL.start ?_
      refine tK (.int .i64 ((i : Nat) : Int)) ?_
      refine tK (.slice xa n xk) ?_
      refine tK (.int .i64 ((n : Nat) : Int)) ?_
      refine tW (.bool true) (eB .lss 3 _ _ _ rfl (.int .i64 ((i : Nat) : Int)) (.int .i64 ((n : Nat) : Int)) _ (by rw [b_lss, decide_eq_true (by omega)])) ?_
      try simp only [pS]
      refine WL.nil ?_
      try simp only [pS]
      go_upto_region 6 with fail
      refine wp_region_held_drew (S := fun w' => Fr No w w' []) rfl (HF.out.drew) (fun hH => ?_)
      have HF : Hid (Fr No w (wr.drew) []) := HF.out.drew
      generalize wr.drew = wk1 at HF hH ⊢
      refine aT (i := 0) (oi := { dst := some 17, op := Op.move (Operand.tmp 0), type := 56, pos := "law.go:69", after := #[], guard := none }) (v := .slice xa n xk) (fun _ _ => by kernel_rfl) hH ?_
      try simp only [pS]
      refine aT (i := 1) (oi := { dst := some 18, op := Op.move (Operand.tmp 5), type := 3, pos := "law.go:69", after := #[], guard := none }) (v := .int .i64 ((i : Nat) : Int)) (fun _ _ => by kernel_rfl) hH ?_
      try simp only [pS]
      refine aT (i := 2) (oi := { dst := some 19, op := Op.indexAddr 56 (Operand.tmp 17) (Operand.tmp 18), type := 0, pos := "law.go:69", after := #[{ on := 0, ground := Ground.data }, { on := 1, ground := Ground.data }], guard := none }) (v := .pointer (some ⟨pb, po + i * 24, none⟩)) (fun w' hw => exec_ixA 56 24 Try.und61e Try.size61e _ _ rfl pb po n xk i (Eq.trans (b := .slice xa n xk) (by kernel_rfl) hs1.out) (by kernel_rfl) hlt) hH ?_
      try simp only [pS]
      refine aT (i := 3) (oi := { dst := some 20, op := Op.fieldAddr 67 (Operand.tmp 19) 0, type := 0, pos := "law.go:69", after := #[{ on := 2, ground := Ground.data }], guard := none }) (v := .pointer (some ⟨pb, po + i * 24, none⟩)) (fun _ _ => by kernel_rfl) hH ?_
      try simp only [pS]
      refine aT (i := 4) (oi := { dst := some 21, op := Op.load 39 (Operand.tmp 20), type := 39, pos := "law.go:69", after := #[{ on := 3, ground := Ground.data }], guard := none }) (v := .agg (Ky.cells x.ky)) (fun w' hw => eL 39 _ rfl ⟨pb, po + i * 24, none⟩ (load_cells (it := Ky.cs x.ky) (fun j v hv => hw.kept.cell (ckp.out j v hv) (fun e => e)) Try.und23 rfl Try.size23)) hH ?_
      try simp only [pS]
      refine aT (i := 5) (oi := { dst := some 22, op := Op.move (Operand.tmp 1), type := 59, pos := "law.go:69", after := #[], guard := none }) (v := .slice ya n yk) (fun _ _ => by kernel_rfl) hH ?_
      try simp only [pS]
      refine aT (i := 6) (oi := { dst := some 23, op := Op.move (Operand.tmp 5), type := 3, pos := "law.go:69", after := #[], guard := none }) (v := .int .i64 ((i : Nat) : Int)) (fun _ _ => by kernel_rfl) hH ?_
      try simp only [pS]
      refine aT (i := 7) (oi := { dst := some 24, op := Op.indexAddr 59 (Operand.tmp 22) (Operand.tmp 23), type := 0, pos := "law.go:69", after := #[{ on := 5, ground := Ground.data }, { on := 6, ground := Ground.data }], guard := none }) (v := .pointer (some ⟨qb, qo + i * 24, none⟩)) (fun w' hw => exec_ixA 59 24 Try.und64e Try.size64e _ _ rfl qb qo n yk i (Eq.trans (b := .slice ya n yk) (by kernel_rfl) hs2.out) (by kernel_rfl) hlt) hH ?_
      try simp only [pS]
      refine aT (i := 8) (oi := { dst := some 25, op := Op.fieldAddr 89 (Operand.tmp 24) 0, type := 0, pos := "law.go:69", after := #[{ on := 7, ground := Ground.data }], guard := none }) (v := .pointer (some ⟨qb, qo + i * 24, none⟩)) (fun _ _ => by kernel_rfl) hH ?_
      try simp only [pS]
      refine aT (i := 9) (oi := { dst := some 26, op := Op.load 39 (Operand.tmp 25), type := 39, pos := "law.go:69", after := #[{ on := 8, ground := Ground.data }], guard := none }) (v := .agg (Ky.cells x.ky)) (fun w' hw => eL 39 _ rfl ⟨qb, qo + i * 24, none⟩ (load_cells (it := Ky.cs x.ky) (fun j v hv => hw.kept.cell (ckq.out j v hv) (fun e => e)) Try.und23 rfl Try.size23)) hH ?_
      try simp only [pS]
      refine aT (i := 10) (oi := { dst := some 27, op := Op.binOp BinOp.neq 39 (Operand.tmp 21) (Operand.tmp 26) 39, type := 4, pos := "law.go:69", after := #[{ on := 4, ground := Ground.data }, { on := 9, ground := Ground.data }], guard := none }) (v := .bool false) (fun w' hw => eB .neq 39 _ _ _ rfl (.agg (Ky.cells x.ky)) (.agg (Ky.cells x.ky)) _ (by rw [eqK_neq, eqK_refl]; rfl)) hH ?_
      try simp only [pS]
      refine aT (i := 11) (oi := { dst := some 28, op := Op.move (Operand.tmp 27), type := 4, pos := "law.go:69", after := #[{ on := 10, ground := Ground.data }], guard := none }) (v := .bool false) (fun _ _ => by kernel_rfl) hH ?_
      try simp only [pS]
      refine aT (i := 12) (oi := { dst := some 29, op := Op.move (Operand.tmp 0), type := 56, pos := "law.go:69", after := #[{ on := 11, ground := Ground.guard }], guard := some (11, false) }) (v := .slice xa n xk) (fun _ _ => by kernel_rfl) hH ?_
      try simp only [pS]
      refine aT (i := 13) (oi := { dst := some 30, op := Op.move (Operand.tmp 5), type := 3, pos := "law.go:69", after := #[{ on := 11, ground := Ground.guard }], guard := some (11, false) }) (v := .int .i64 ((i : Nat) : Int)) (fun _ _ => by kernel_rfl) hH ?_
      try simp only [pS]
      refine aT (i := 14) (oi := { dst := some 31, op := Op.indexAddr 56 (Operand.tmp 29) (Operand.tmp 30), type := 0, pos := "law.go:69", after := #[{ on := 12, ground := Ground.data }, { on := 13, ground := Ground.data }, { on := 11, ground := Ground.guard }], guard := some (11, false) }) (v := .pointer (some ⟨pb, po + i * 24, none⟩)) (fun w' hw => exec_ixA 56 24 Try.und61e Try.size61e _ _ rfl pb po n xk i (Eq.trans (b := .slice xa n xk) (by kernel_rfl) hs1.out) (by kernel_rfl) hlt) hH ?_
      try simp only [pS]
      refine aT (i := 15) (oi := { dst := some 32, op := Op.fieldAddr 67 (Operand.tmp 31) 1, type := 0, pos := "law.go:69", after := #[{ on := 14, ground := Ground.data }, { on := 11, ground := Ground.guard }], guard := some (11, false) }) (v := .pointer (some ⟨pb, po + i * 24 + 4, none⟩)) (fun _ _ => by kernel_rfl) hH ?_
      try simp only [pS]
      refine aT (i := 16) (oi := { dst := some 33, op := Op.fieldAddr 26 (Operand.tmp 32) 0, type := 0, pos := "law.go:69", after := #[{ on := 15, ground := Ground.data }, { on := 11, ground := Ground.guard }], guard := some (11, false) }) (v := .pointer (some ⟨pb, po + i * 24 + 4, none⟩)) (fun _ _ => by kernel_rfl) hH ?_
      try simp only [pS]
      refine aT (i := 17) (oi := { dst := some 34, op := Op.load 23 (Operand.tmp 33), type := 23, pos := "law.go:69", after := #[{ on := 16, ground := Ground.data }, { on := 11, ground := Ground.guard }], guard := some (11, false) }) (v := .agg (Sp.cells x.b.s)) (fun w' hw => eL 23 _ rfl ⟨pb, po + i * 24 + 4, none⟩ (load_cells (it := Sp.cs x.b.s) (fun j v hv => hw.kept.cell (csp.out j v hv) (fun e => e)) Try.und25 rfl Try.size25)) hH ?_
      try simp only [pS]
      refine aT (i := 18) (oi := { dst := some 35, op := Op.move (Operand.tmp 1), type := 59, pos := "law.go:69", after := #[{ on := 11, ground := Ground.guard }], guard := some (11, false) }) (v := .slice ya n yk) (fun _ _ => by kernel_rfl) hH ?_
      try simp only [pS]
      refine aT (i := 19) (oi := { dst := some 36, op := Op.move (Operand.tmp 5), type := 3, pos := "law.go:69", after := #[{ on := 11, ground := Ground.guard }], guard := some (11, false) }) (v := .int .i64 ((i : Nat) : Int)) (fun _ _ => by kernel_rfl) hH ?_
      try simp only [pS]
      refine aT (i := 20) (oi := { dst := some 37, op := Op.indexAddr 59 (Operand.tmp 35) (Operand.tmp 36), type := 0, pos := "law.go:69", after := #[{ on := 18, ground := Ground.data }, { on := 19, ground := Ground.data }, { on := 11, ground := Ground.guard }], guard := some (11, false) }) (v := .pointer (some ⟨qb, qo + i * 24, none⟩)) (fun w' hw => exec_ixA 59 24 Try.und64e Try.size64e _ _ rfl qb qo n yk i (Eq.trans (b := .slice ya n yk) (by kernel_rfl) hs2.out) (by kernel_rfl) hlt) hH ?_
      try simp only [pS]
      refine aT (i := 21) (oi := { dst := some 38, op := Op.fieldAddr 89 (Operand.tmp 37) 1, type := 0, pos := "law.go:69", after := #[{ on := 20, ground := Ground.data }, { on := 11, ground := Ground.guard }], guard := some (11, false) }) (v := .pointer (some ⟨qb, qo + i * 24 + 4, none⟩)) (fun _ _ => by kernel_rfl) hH ?_
      try simp only [pS]
      refine aT (i := 22) (oi := { dst := some 39, op := Op.fieldAddr 26 (Operand.tmp 38) 0, type := 0, pos := "law.go:69", after := #[{ on := 21, ground := Ground.data }, { on := 11, ground := Ground.guard }], guard := some (11, false) }) (v := .pointer (some ⟨qb, qo + i * 24 + 4, none⟩)) (fun _ _ => by kernel_rfl) hH ?_
      try simp only [pS]
      refine aT (i := 23) (oi := { dst := some 40, op := Op.load 23 (Operand.tmp 39), type := 23, pos := "law.go:69", after := #[{ on := 22, ground := Ground.data }, { on := 11, ground := Ground.guard }], guard := some (11, false) }) (v := .agg (Sp.cells x.b.s)) (fun w' hw => eL 23 _ rfl ⟨qb, qo + i * 24 + 4, none⟩ (load_cells (it := Sp.cs x.b.s) (fun j v hv => hw.kept.cell (csq.out j v hv) (fun e => e)) Try.und25 rfl Try.size25)) hH ?_
      try simp only [pS]
      refine aT (i := 24) (oi := { dst := some 41, op := Op.binOp BinOp.neq 23 (Operand.tmp 34) (Operand.tmp 40) 23, type := 4, pos := "law.go:69", after := #[{ on := 17, ground := Ground.data }, { on := 23, ground := Ground.data }, { on := 11, ground := Ground.guard }], guard := some (11, false) }) (v := .bool false) (fun w' hw => eB .neq 23 _ _ _ rfl (.agg (Sp.cells x.b.s)) (.agg (Sp.cells x.b.s)) _ (by rw [eqS_neq, eqS_refl]; rfl)) hH ?_
      try simp only [pS]
      refine aT (i := 25) (oi := { dst := some 42, op := Op.pick (Operand.tmp 28) (Operand.const (Value.bool true)) (Operand.tmp 41), type := 4, pos := "law.go:69", after := #[{ on := 11, ground := Ground.data }, { on := 24, ground := Ground.data }], guard := none }) (v := .bool false) (fun _ _ => by kernel_rfl) hH ?_
      try simp only [pS]
      refine aT (i := 26) (oi := { dst := some 43, op := Op.move (Operand.tmp 42), type := 4, pos := "law.go:69", after := #[{ on := 25, ground := Ground.data }, { on := 11, ground := Ground.chain }], guard := none }) (v := .bool false) (fun _ _ => by kernel_rfl) hH ?_
      try simp only [pS]
      refine aT (i := 27) (oi := { dst := some 44, op := Op.move (Operand.tmp 0), type := 56, pos := "law.go:69", after := #[{ on := 26, ground := Ground.guard }], guard := some (26, false) }) (v := .slice xa n xk) (fun _ _ => by kernel_rfl) hH ?_
      try simp only [pS]
      refine aT (i := 28) (oi := { dst := some 45, op := Op.move (Operand.tmp 5), type := 3, pos := "law.go:69", after := #[{ on := 26, ground := Ground.guard }], guard := some (26, false) }) (v := .int .i64 ((i : Nat) : Int)) (fun _ _ => by kernel_rfl) hH ?_
      try simp only [pS]
      refine aT (i := 29) (oi := { dst := some 46, op := Op.indexAddr 56 (Operand.tmp 44) (Operand.tmp 45), type := 0, pos := "law.go:69", after := #[{ on := 27, ground := Ground.data }, { on := 28, ground := Ground.data }, { on := 26, ground := Ground.guard }], guard := some (26, false) }) (v := .pointer (some ⟨pb, po + i * 24, none⟩)) (fun w' hw => exec_ixA 56 24 Try.und61e Try.size61e _ _ rfl pb po n xk i (Eq.trans (b := .slice xa n xk) (by kernel_rfl) hs1.out) (by kernel_rfl) hlt) hH ?_
      try simp only [pS]
      refine aT (i := 30) (oi := { dst := some 47, op := Op.fieldAddr 67 (Operand.tmp 46) 1, type := 0, pos := "law.go:69", after := #[{ on := 29, ground := Ground.data }, { on := 26, ground := Ground.guard }], guard := some (26, false) }) (v := .pointer (some ⟨pb, po + i * 24 + 4, none⟩)) (fun _ _ => by kernel_rfl) hH ?_
      try simp only [pS]
      refine aT (i := 31) (oi := { dst := some 48, op := Op.fieldAddr 26 (Operand.tmp 47) 1, type := 0, pos := "law.go:69", after := #[{ on := 30, ground := Ground.data }, { on := 26, ground := Ground.guard }], guard := some (26, false) }) (v := .pointer (some ⟨pb, po + i * 24 + 4 + 2, none⟩)) (fun _ _ => by kernel_rfl) hH ?_
      try simp only [pS]
      refine aT (i := 32) (oi := { dst := some 49, op := Op.load 24 (Operand.tmp 48), type := 24, pos := "law.go:69", after := #[{ on := 31, ground := Ground.data }, { on := 26, ground := Ground.guard }], guard := some (26, false) }) (v := x.b.d.v) (fun w' hw => eL 24 _ rfl ⟨pb, po + i * 24 + 4 + 2, none⟩ (load_one (hw.kept.cell (cdp.out) (fun e => e)) Try.und26 rfl)) hH ?_
      try simp only [pS]
      refine aT (i := 33) (oi := { dst := some 50, op := Op.move (Operand.tmp 1), type := 59, pos := "law.go:69", after := #[{ on := 26, ground := Ground.guard }], guard := some (26, false) }) (v := .slice ya n yk) (fun _ _ => by kernel_rfl) hH ?_
      try simp only [pS]
      refine aT (i := 34) (oi := { dst := some 51, op := Op.move (Operand.tmp 5), type := 3, pos := "law.go:69", after := #[{ on := 26, ground := Ground.guard }], guard := some (26, false) }) (v := .int .i64 ((i : Nat) : Int)) (fun _ _ => by kernel_rfl) hH ?_
      try simp only [pS]
      refine aT (i := 35) (oi := { dst := some 52, op := Op.indexAddr 59 (Operand.tmp 50) (Operand.tmp 51), type := 0, pos := "law.go:69", after := #[{ on := 33, ground := Ground.data }, { on := 34, ground := Ground.data }, { on := 26, ground := Ground.guard }], guard := some (26, false) }) (v := .pointer (some ⟨qb, qo + i * 24, none⟩)) (fun w' hw => exec_ixA 59 24 Try.und64e Try.size64e _ _ rfl qb qo n yk i (Eq.trans (b := .slice ya n yk) (by kernel_rfl) hs2.out) (by kernel_rfl) hlt) hH ?_
      try simp only [pS]
      refine aT (i := 36) (oi := { dst := some 53, op := Op.fieldAddr 89 (Operand.tmp 52) 1, type := 0, pos := "law.go:69", after := #[{ on := 35, ground := Ground.data }, { on := 26, ground := Ground.guard }], guard := some (26, false) }) (v := .pointer (some ⟨qb, qo + i * 24 + 4, none⟩)) (fun _ _ => by kernel_rfl) hH ?_
      try simp only [pS]
      refine aT (i := 37) (oi := { dst := some 54, op := Op.fieldAddr 26 (Operand.tmp 53) 1, type := 0, pos := "law.go:69", after := #[{ on := 36, ground := Ground.data }, { on := 26, ground := Ground.guard }], guard := some (26, false) }) (v := .pointer (some ⟨qb, qo + i * 24 + 4 + 2, none⟩)) (fun _ _ => by kernel_rfl) hH ?_
      try simp only [pS]
      refine aT (i := 38) (oi := { dst := some 55, op := Op.load 24 (Operand.tmp 54), type := 24, pos := "law.go:69", after := #[{ on := 37, ground := Ground.data }, { on := 26, ground := Ground.guard }], guard := some (26, false) }) (v := yd.v) (fun w' hw => eL 24 _ rfl ⟨qb, qo + i * 24 + 4 + 2, none⟩ (load_one (hw.kept.cell (cdq.out) (fun e => e)) Try.und26 rfl)) hH ?_
      try simp only [pS]
      refine any_call (i := 39) (o := { dst := some 56, op := Op.call { callee := Callee.value (Operand.func 17), args := #[Operand.tmp 49, Operand.tmp 55], argTypes := #[24, 24] }, type := 4, pos := "law.go:69", after := #[{ on := 32, ground := Ground.data }, { on := 38, ground := Ground.data }, { on := 26, ground := Ground.chain }, { on := 26, ground := Ground.guard }], guard := some (26, false) }) rfl (by kernel_rfl) (by kernel_rfl) 17 #[x.b.d.v, yd.v] (by kernel_rfl) _ (sameB_any x.b.d yd bs _ (HXb.out.no HF.out.kept) (HYb.out.no HF.out.kept)) ?_
      rintro e wq ⟨rfl, hwq⟩
      rw [hwq]
      clear hwq wq
      refine ⟨.bool true, rfl, hH, fun hH => ?_⟩
      try simp only [pS]
      refine aT (i := 40) (oi := { dst := some 57, op := Op.unOp UnOp.not 4 (Operand.tmp 56), type := 4, pos := "law.go:69", after := #[{ on := 39, ground := Ground.data }, { on := 26, ground := Ground.guard }], guard := some (26, false) }) (v := .bool false) (fun _ _ => by kernel_rfl) hH ?_
      try simp only [pS]
      refine aT (i := 41) (oi := { dst := some 58, op := Op.pick (Operand.tmp 43) (Operand.const (Value.bool true)) (Operand.tmp 57), type := 4, pos := "law.go:69", after := #[{ on := 26, ground := Ground.data }, { on := 40, ground := Ground.data }], guard := none }) (v := .bool false) (fun _ _ => by kernel_rfl) hH ?_
      try simp only [pS]
      refine aT (i := 42) (oi := { dst := some 59, op := Op.move (Operand.tmp 58), type := 4, pos := "law.go:69", after := #[{ on := 41, ground := Ground.data }, { on := 39, ground := Ground.chain }], guard := none }) (v := .bool false) (fun _ _ => by kernel_rfl) hH ?_
      try simp only [pS]
      refine aT (i := 43) (oi := { dst := some 60, op := Op.move (Operand.tmp 0), type := 56, pos := "law.go:69", after := #[{ on := 42, ground := Ground.guard }], guard := some (42, false) }) (v := .slice xa n xk) (fun _ _ => by kernel_rfl) hH ?_
      try simp only [pS]
      refine aT (i := 44) (oi := { dst := some 61, op := Op.move (Operand.tmp 5), type := 3, pos := "law.go:69", after := #[{ on := 42, ground := Ground.guard }], guard := some (42, false) }) (v := .int .i64 ((i : Nat) : Int)) (fun _ _ => by kernel_rfl) hH ?_
      try simp only [pS]
      refine aT (i := 45) (oi := { dst := some 62, op := Op.indexAddr 56 (Operand.tmp 60) (Operand.tmp 61), type := 0, pos := "law.go:69", after := #[{ on := 43, ground := Ground.data }, { on := 44, ground := Ground.data }, { on := 42, ground := Ground.guard }], guard := some (42, false) }) (v := .pointer (some ⟨pb, po + i * 24, none⟩)) (fun w' hw => exec_ixA 56 24 Try.und61e Try.size61e _ _ rfl pb po n xk i (Eq.trans (b := .slice xa n xk) (by kernel_rfl) hs1.out) (by kernel_rfl) hlt) hH ?_
      try simp only [pS]
      refine aT (i := 46) (oi := { dst := some 63, op := Op.fieldAddr 67 (Operand.tmp 62) 2, type := 0, pos := "law.go:69", after := #[{ on := 45, ground := Ground.data }, { on := 42, ground := Ground.guard }], guard := some (42, false) }) (v := .pointer (some ⟨pb, po + i * 24 + 7, none⟩)) (fun _ _ => by kernel_rfl) hH ?_
      try simp only [pS]
      refine aT (i := 47) (oi := { dst := some 64, op := Op.load 65 (Operand.tmp 63), type := 65, pos := "law.go:69", after := #[{ on := 46, ground := Ground.data }, { on := 42, ground := Ground.guard }], guard := some (42, false) }) (v := .agg (In.cells x.i)) (fun w' hw => eL 65 _ rfl ⟨pb, po + i * 24 + 7, none⟩ (load_cells (it := In.cs x.i) (fun j v hv => hw.kept.cell (cip.out j v hv) (fun e => e)) Try.und70 rfl Try.size70)) hH ?_
      try simp only [pS]
      refine aT (i := 48) (oi := { dst := some 65, op := Op.move (Operand.tmp 1), type := 59, pos := "law.go:69", after := #[{ on := 42, ground := Ground.guard }], guard := some (42, false) }) (v := .slice ya n yk) (fun _ _ => by kernel_rfl) hH ?_
      try simp only [pS]
      refine aT (i := 49) (oi := { dst := some 66, op := Op.move (Operand.tmp 5), type := 3, pos := "law.go:69", after := #[{ on := 42, ground := Ground.guard }], guard := some (42, false) }) (v := .int .i64 ((i : Nat) : Int)) (fun _ _ => by kernel_rfl) hH ?_
      try simp only [pS]
      refine aT (i := 50) (oi := { dst := some 67, op := Op.indexAddr 59 (Operand.tmp 65) (Operand.tmp 66), type := 0, pos := "law.go:69", after := #[{ on := 48, ground := Ground.data }, { on := 49, ground := Ground.data }, { on := 42, ground := Ground.guard }], guard := some (42, false) }) (v := .pointer (some ⟨qb, qo + i * 24, none⟩)) (fun w' hw => exec_ixA 59 24 Try.und64e Try.size64e _ _ rfl qb qo n yk i (Eq.trans (b := .slice ya n yk) (by kernel_rfl) hs2.out) (by kernel_rfl) hlt) hH ?_
      try simp only [pS]
      refine aT (i := 51) (oi := { dst := some 68, op := Op.fieldAddr 89 (Operand.tmp 67) 2, type := 0, pos := "law.go:69", after := #[{ on := 50, ground := Ground.data }, { on := 42, ground := Ground.guard }], guard := some (42, false) }) (v := .pointer (some ⟨qb, qo + i * 24 + 7, none⟩)) (fun _ _ => by kernel_rfl) hH ?_
      try simp only [pS]
      refine aT (i := 52) (oi := { dst := some 69, op := Op.load 65 (Operand.tmp 68), type := 65, pos := "law.go:69", after := #[{ on := 51, ground := Ground.data }, { on := 42, ground := Ground.guard }], guard := some (42, false) }) (v := .agg (In.cells x.i)) (fun w' hw => eL 65 _ rfl ⟨qb, qo + i * 24 + 7, none⟩ (load_cells (it := In.cs x.i) (fun j v hv => hw.kept.cell (ciq.out j v hv) (fun e => e)) Try.und70 rfl Try.size70)) hH ?_
      try simp only [pS]
      refine aT (i := 53) (oi := { dst := some 70, op := Op.binOp BinOp.neq 65 (Operand.tmp 64) (Operand.tmp 69) 65, type := 4, pos := "law.go:69", after := #[{ on := 47, ground := Ground.data }, { on := 52, ground := Ground.data }, { on := 42, ground := Ground.guard }], guard := some (42, false) }) (v := .bool false) (fun w' hw => eB .neq 65 _ _ _ rfl (.agg (In.cells x.i)) (.agg (In.cells x.i)) _ (by rw [eqI_neq, eqI_refl]; rfl)) hH ?_
      try simp only [pS]
      refine aT (i := 54) (oi := { dst := some 71, op := Op.pick (Operand.tmp 59) (Operand.const (Value.bool true)) (Operand.tmp 70), type := 4, pos := "law.go:69", after := #[{ on := 42, ground := Ground.data }, { on := 53, ground := Ground.data }], guard := none }) (v := .bool false) (fun _ _ => by kernel_rfl) hH ?_
      try simp only [pS]
      refine aT (i := 55) (oi := { dst := some 72, op := Op.move (Operand.tmp 71), type := 4, pos := "law.go:69", after := #[{ on := 54, ground := Ground.data }, { on := 42, ground := Ground.chain }], guard := none }) (v := .bool false) (fun _ _ => by kernel_rfl) hH ?_
      try simp only [pS]
      refine aT (i := 56) (oi := { dst := some 73, op := Op.move (Operand.tmp 0), type := 56, pos := "law.go:69", after := #[{ on := 55, ground := Ground.guard }], guard := some (55, false) }) (v := .slice xa n xk) (fun _ _ => by kernel_rfl) hH ?_
      try simp only [pS]
      refine aT (i := 57) (oi := { dst := some 74, op := Op.move (Operand.tmp 5), type := 3, pos := "law.go:69", after := #[{ on := 55, ground := Ground.guard }], guard := some (55, false) }) (v := .int .i64 ((i : Nat) : Int)) (fun _ _ => by kernel_rfl) hH ?_
      try simp only [pS]
      refine aT (i := 58) (oi := { dst := some 75, op := Op.indexAddr 56 (Operand.tmp 73) (Operand.tmp 74), type := 0, pos := "law.go:69", after := #[{ on := 56, ground := Ground.data }, { on := 57, ground := Ground.data }, { on := 55, ground := Ground.guard }], guard := some (55, false) }) (v := .pointer (some ⟨pb, po + i * 24, none⟩)) (fun w' hw => exec_ixA 56 24 Try.und61e Try.size61e _ _ rfl pb po n xk i (Eq.trans (b := .slice xa n xk) (by kernel_rfl) hs1.out) (by kernel_rfl) hlt) hH ?_
      try simp only [pS]
      refine aT (i := 59) (oi := { dst := some 76, op := Op.fieldAddr 67 (Operand.tmp 75) 3, type := 0, pos := "law.go:69", after := #[{ on := 58, ground := Ground.data }, { on := 55, ground := Ground.guard }], guard := some (55, false) }) (v := .pointer (some ⟨pb, po + i * 24 + 21, none⟩)) (fun _ _ => by kernel_rfl) hH ?_
      try simp only [pS]
      refine aT (i := 60) (oi := { dst := some 77, op := Op.load 30 (Operand.tmp 76), type := 30, pos := "law.go:69", after := #[{ on := 59, ground := Ground.data }, { on := 55, ground := Ground.guard }], guard := some (55, false) }) (v := .agg (Bv.cells x.bk)) (fun w' hw => eL 30 _ rfl ⟨pb, po + i * 24 + 21, none⟩ (load_cells (it := Bv.cs x.bk) (fun j v hv => hw.kept.cell (cbp.out j v hv) (fun e => e)) Try.und32 rfl Try.size32)) hH ?_
      try simp only [pS]
      refine aT (i := 61) (oi := { dst := some 78, op := Op.move (Operand.tmp 1), type := 59, pos := "law.go:69", after := #[{ on := 55, ground := Ground.guard }], guard := some (55, false) }) (v := .slice ya n yk) (fun _ _ => by kernel_rfl) hH ?_
      try simp only [pS]
      refine aT (i := 62) (oi := { dst := some 79, op := Op.move (Operand.tmp 5), type := 3, pos := "law.go:69", after := #[{ on := 55, ground := Ground.guard }], guard := some (55, false) }) (v := .int .i64 ((i : Nat) : Int)) (fun _ _ => by kernel_rfl) hH ?_
      try simp only [pS]
      refine aT (i := 63) (oi := { dst := some 80, op := Op.indexAddr 59 (Operand.tmp 78) (Operand.tmp 79), type := 0, pos := "law.go:69", after := #[{ on := 61, ground := Ground.data }, { on := 62, ground := Ground.data }, { on := 55, ground := Ground.guard }], guard := some (55, false) }) (v := .pointer (some ⟨qb, qo + i * 24, none⟩)) (fun w' hw => exec_ixA 59 24 Try.und64e Try.size64e _ _ rfl qb qo n yk i (Eq.trans (b := .slice ya n yk) (by kernel_rfl) hs2.out) (by kernel_rfl) hlt) hH ?_
      try simp only [pS]
      refine aT (i := 64) (oi := { dst := some 81, op := Op.fieldAddr 89 (Operand.tmp 80) 3, type := 0, pos := "law.go:69", after := #[{ on := 63, ground := Ground.data }, { on := 55, ground := Ground.guard }], guard := some (55, false) }) (v := .pointer (some ⟨qb, qo + i * 24 + 21, none⟩)) (fun _ _ => by kernel_rfl) hH ?_
      try simp only [pS]
      refine aT (i := 65) (oi := { dst := some 82, op := Op.load 30 (Operand.tmp 81), type := 30, pos := "law.go:69", after := #[{ on := 64, ground := Ground.data }, { on := 55, ground := Ground.guard }], guard := some (55, false) }) (v := .agg (Bv.cells ⟨x.bk.up, ⟨ea, x.bk.e.l, ek⟩, ⟨la, x.bk.l.l, lk⟩⟩)) (fun w' hw => eL 30 _ rfl ⟨qb, qo + i * 24 + 21, none⟩ (load_cells (it := Bv.cs ⟨x.bk.up, ⟨ea, x.bk.e.l, ek⟩, ⟨la, x.bk.l.l, lk⟩⟩) (fun j v hv => hw.kept.cell (cbq.out j v hv) (fun e => e)) Try.und32 rfl Try.size32)) hH ?_
      try simp only [pS]
      refine any_call (i := 66) (o := { dst := some 83, op := Op.call { callee := Callee.value (Operand.func 26), args := #[Operand.tmp 77, Operand.tmp 82], argTypes := #[30, 30] }, type := 4, pos := "law.go:69", after := #[{ on := 60, ground := Ground.data }, { on := 65, ground := Ground.data }, { on := 55, ground := Ground.chain }, { on := 55, ground := Ground.guard }], guard := some (55, false) }) rfl (by kernel_rfl) (by kernel_rfl) 26 #[.agg (Bv.cells x.bk), .agg (Bv.cells ⟨x.bk.up, ⟨ea, x.bk.e.l, ek⟩, ⟨la, x.bk.l.l, lk⟩⟩)] (by kernel_rfl) _ (sameK_any x.bk.up x.bk.e.a ea x.bk.l.a la x.bk.e.l x.bk.l.l x.bk.e.k ek x.bk.l.k lk es ls _ (HXe.out.no HF.out.kept) (HYe.out.no HF.out.kept) (HXl.out.no HF.out.kept) (HYl.out.no HF.out.kept) hxe hxl) ?_
      rintro e wk2 ⟨rfl, hk⟩
      have hH2 : Fr No w wk2 [] := hH.no hk
      have HF : Hid (Fr No w (wk2) []) := HF.out.no hk
      clear hk
      refine ⟨.bool true, rfl, hH2, fun hH => ?_⟩
      clear hH2
      try simp only [pS]
      refine aT (i := 67) (oi := { dst := some 84, op := Op.unOp UnOp.not 4 (Operand.tmp 83), type := 4, pos := "law.go:69", after := #[{ on := 66, ground := Ground.data }, { on := 55, ground := Ground.guard }], guard := some (55, false) }) (v := .bool false) (fun _ _ => by kernel_rfl) hH ?_
      try simp only [pS]
      refine aT (i := 68) (oi := { dst := some 85, op := Op.pick (Operand.tmp 72) (Operand.const (Value.bool true)) (Operand.tmp 84), type := 4, pos := "law.go:69", after := #[{ on := 55, ground := Ground.data }, { on := 67, ground := Ground.data }], guard := none }) (v := .bool false) (fun _ _ => by kernel_rfl) hH ?_
      try simp only [pS]
      refine wpAnyH_done (by kernel_rfl) ?_ _
      try simp only [pS]
      clear hH
      go_upto_region 5 with fail
      refine WL.start ?_
      refine tK (.int .i64 ((i : Nat) : Int)) ?_
      refine tW (.int .i64 (((i + 1) : Nat) : Int)) (eB .add 3 _ _ _ rfl (.int .i64 ((i : Nat) : Int)) (.int .i64 1) _ (b_addw _ _ _ (by rw [IntKind.wrap_i64]; omega) _)) ?_
      refine tK (.int .i64 (((i + 1) : Nat) : Int)) ?_
      try simp only [pS]
      refine WL.nil ?_
      try simp only [pS]
      go_wp2
      go_roundw
      case rel => exact ⟨i + 1, by go_num, by omega, HF⟩
      case measure => simp [intOf]; omega
    · skip
      go_upto_region 4 with fail
      refine WL.start ?_
      refine tK (.int .i64 ((i : Nat) : Int)) ?_
      refine tK (.slice xa n xk) ?_
      refine tK (.int .i64 ((n : Nat) : Int)) ?_
      refine tW (.bool false) (eB .lss 3 _ _ _ rfl (.int .i64 ((i : Nat) : Int)) (.int .i64 ((n : Nat) : Int)) _ (by rw [b_lss, decide_eq_false (by omega)])) ?_
      try simp only [pS]
      refine WL.nil ?_
      try simp only [pS]
      go_upto_region 8 with fail
      refine WL.start ?_
      refine tK (.bool true) ?_
      try simp only [pS]
      refine WL.nil ?_
      try simp only [pS]
      go_wp2
      rw [HC.out]
      exact ⟨rfl, HF.out.kept⟩

end Go.Proofs.Ytcgnbpaaalmkoab
