import Derived.Test.YtgdnofacgfjaeaaGreatNu
import Derived.Test.YtgdnofacgfjaeaaGreatWiZx
import Derived.Test.YtgdnofacgfjaeaaGreatWiCa
namespace Go.Proofs.YtgdnofacgfjaeaaGreat.Md
open Go.RowKit
set_option linter.unusedVariables false
set_option linter.unusedSimpArgs false
structure RdS (w : World) (x : Sl) (ss : List Sl) : Prop where
  row : RowsAt 1 w x.a (ss.map (fun s => [s.v]))
  len : ss.length = x.l
def sAt (ss : List Sl) (i : Nat) : Sl := ss[i]?.getD slZ
theorem RdS.at' {w : World} {s : Sl} {es : List Sl} (h : RdS w s es) {i : Nat} (hi : i < s.l) : ∃ b off, s.v = .slice (some ⟨b, off, none⟩) s.l s.k ∧ ∀ (j : Nat) v, [(sAt es i).v][j]? = some v → w.cell? ⟨b, off + i * 1 + j, none⟩ = some v := by
  obtain ⟨b, off, ha, hc⟩ := h.row i [(sAt es i).v] (by rw [List.getElem?_map, show es[i]? = some (sAt es i) by simp [sAt, List.getElem?_eq_getElem (show i < es.length by rw [h.len]; exact hi)]]; rfl)
  exact ⟨b, off, by unfold Sl.v; rw [ha], hc⟩
theorem E66 : Tryz.prog.underlying 66 = some (.slice (Tryz.prog.elem 66)) := by kernel_rfl
theorem F66 : (Tryz.prog.info? (Tryz.prog.elem 66)).map (·.size) = some 1 := by kernel_rfl
def SealO (w : World) (zs : List Int) (e : Ending) (w' : World) : Prop := ∃ s : Sl, e = .returned s.v ∧ Wi.Sl w' s.a s.l s.k zs ∧ Kept No w w'
theorem sealC (x : Sl) (ys : List Int) (w : World) (h : Wi.Sl w x.a x.l x.k ys) : ∃ zs, Calls Tryz.prog 26 #[x.v] w (SealO w zs) := by
  by_cases hl : x.l ≤ 131072
  · refine ⟨Wi.sealOf ys, (Wi.rseal_any x.a x.l x.k ys w h.len hl h.bytes h.u8 h.nil).mono ?_⟩
    rintro e w' ⟨a', c', rfl, hO, hk⟩
    exact ⟨⟨a', x.l + 12, c'⟩, rfl, hO.sl (by rw [Wi.sealOf_len, h.len]) (Wi.sealOf_u8 h.u8) (by show x.l + 12 ≤ _; omega), kw hk⟩
  · refine ⟨[], (Wi.rseal_long x.a x.l x.k w (by omega) (by have := h.bd; omega)).mono ?_⟩
    rintro e w' ⟨rfl, rfl⟩
    exact ⟨slZ, rfl, ⟨rfl, fun i hi => absurd hi (Nat.not_lt_zero _), Wi.U8.nil, Nat.le_refl _, by show 0 ≤ _; omega, Nat.zero_le _, fun _ => rfl⟩, Kept.refl _ _⟩
section
variable {ops : Array Oper} {a : Act} {w : World} {Q : Exit → Act → World → Prop} {md : Region.Mode} {S : Nat → Prop} {w0 : World} {l : List (Nat × TypeId × Array Value)} {fuel : Nat} {listed : Array Bool}
theorem ySl (i d : Nat) {f : FuncId} {args : Array Value} (hc : ∃ zs, Calls Tryz.prog f args w (SealO w zs)) (HF : Hid (Fq S w0 w l))
    (h : ∀ (s : Sl) zs w', Hid (Fq S w0 w' l) → Hid (Wi.Sl w' s.a s.l s.k zs) → wpAnyH Tryz.prog md ops Q (fun w' => Hid (Fq S w0 w' l)) fuel (listed.setIfInBounds i true) (a.put (some d) s.v) w')
    (hi : ops[i]? = some (opA ops i) := by kernel_rfl) (hd : (opA ops i).dst = some d := by kernel_rfl) (hr : Region.ready md ops listed = [i] := by kernel_rfl) (hrun : (execOp a.eval (opA ops i)).run Tryz.prog w = .ok (.enter f args) w := by kernel_rfl) (hw : Region.wanted (opA ops i) (yielded ops a.tmps) = true := by kernel_rfl) : wpAnyH Tryz.prog md ops Q (fun w' => Hid (Fq S w0 w' l)) (fuel + 1) listed a w := by
  obtain ⟨zs, hc⟩ := hc
  exact any_call hi hr hw f args hrun _ hc (by rintro e w' ⟨s, rfl, h1, hk⟩; exact ⟨_, rfl, HF.out.no hk, fun HF => by rw [hd]; exact h s zs w' HF h1⟩)
end
set_option maxRecDepth 100000 in
set_option maxHeartbeats 4000000 in
theorem readsWalk (c : Cg) (xr xb : Sl) (zs : List Int) (ra rb : List Sl) (w : World) (hc : CgIn w c zs) (h1 : RdS w xr ra) (h2 : ∀ i, i < xr.l → ∃ ys, Wi.Sl w (sAt ra i).a (sAt ra i).l (sAt ra i).k ys) (h3 : RdS w xb rb) (h4 : ∀ i, i < xb.l → ∃ ys, Wi.Sl w (sAt rb i).a (sAt rb i).l (sAt rb i).k ys) (n1 : xr.l ≤ 281474976710656) (n2 : xb.l ≤ 281474976710656) : Calls Tryz.prog 7 #[.agg (Cg.cells c), xr.v, xb.v] w (fun e w' => e = .returned (.bool true) ∧ Kept No w w') := by
  refine hidC fun C HC => ?_
  have HCg : Hid (CgIn w c zs) := hc
  have HA : Hid (RdS w xr ra) := h1
  have HAI : Hid (∀ i, i < xr.l → ∃ ys, Wi.Sl w (sAt ra i).a (sAt ra i).l (sAt ra i).k ys) := h2
  have HB : Hid (RdS w xb rb) := h3
  have HBI : Hid (∀ i, i < xb.l → ∃ ys, Wi.Sl w (sAt rb i).a (sAt rb i).l (sAt rb i).k ys) := h4
  clear hc h1 h2 h3 h4
  have HF : Hid (Fq No w w []) := Fq.start _ _
  go_enter Tryz.func7, Tryz.ntmps7
  go_upto_region 0 with fail
  refine WL.start <| xB (Cg.cells c) HF fun g1 w2 HF => tK (.bool false) <| WL.nil <| ?_
  try simp only [pS]
  go_upto_region 1 with fail
  refine WL.start <| tK (.int .i64 0) <| WL.nil <| ?_
  try simp only [pS]
  go_wp2
  go_loopw [7] (fun v7 wr => ∃ i : Nat, v7 = .int .i64 ((i : Nat) : Int) ∧ i ≤ xr.l ∧ Hid (Fq No w wr [(g1, 24, Cg.cells c)])) (fun v7 _ => xr.l - (intOf v7).toNat)
  case atStart => exact ⟨0, by go_num, by omega, HF⟩
  case round =>
    clear HF
    obtain ⟨i, rfl, hi, HF⟩ := hrel
    by_cases hlt : i < xr.l
    ·skip
     obtain ⟨b, off, hsl, hc⟩ := RdS.at' HA.out (i := i) (by omega)
     obtain ⟨ys, hmi⟩ := HAI.out i hlt
     have HI : Hid (Wi.Sl w (sAt ra i).a (sAt ra i).l (sAt ra i).k ys) := hmi
     clear hmi
     go_upto_region 2 with fail
     refine WL.start <| tK (.int .i64 ((i : Nat) : Int)) <| tK (xr.v) <| tK (.int .i64 ((xr.l : Nat) : Int)) <| bN (lI (a := ((i : Nat) : Int)) (b := ((xr.l : Nat) : Int)) (decide_eq_true (by omega))) <| WL.nil <| ?_
     try simp only [pS]
     go_upto_region 4 with fail
     refine wp_region_held_drew (S := fun w' => Hid (Fq No w w' [(g1, 24, Cg.cells c)])) rfl (show Hid _ from HF.out.drew) (fun hH => ?_)
     replace HF : Hid (Fq No w wr.drew [(g1, 24, Cg.cells c)]) := hH
     clear hH
     generalize wr.drew = w3 at HF ⊢
     refine yK 0 15 HF (xr.v) <| yK 1 16 HF (.int .i64 ((i : Nat) : Int)) <| yT 2 17 HF (zI (s := xr) (i := i) hsl E66 F66 (by omega)) <| yT 3 18 HF (zL fun w HF => (load_one (HF.out.kept.cell (hc 0 _ rfl) (fun e => e)) U35 rfl)) <| yT 4 19 HF (zP (Cg.cs c) 0 0 U24 S24 (Cg.cs c) rfl) <| yC 5 20 (readWalk (sAt ra i) ys c zs _ (HCg.out.no HF.out.kept) (HI.out.no (wk HF.out.kept))) rfl HF fun w4 HF => yK 6 21 HF (.bool false) <| ?_
     try simp only [pS]
     refine wpAnyH_done (by kernel_rfl) ?_ _
     try simp only [pS]
     go_upto_region 3 with fail
     refine WL.start <| tK (.int .i64 ((i : Nat) : Int)) <| bN (v := .int .i64 (((i + 1) : Nat) : Int)) (b_addw ((i : Nat) : Int) 1 (((i + 1) : Nat) : Int) (by rw [IntKind.wrap_i64]; omega)) <| tK (.int .i64 (((i + 1) : Nat) : Int)) <| WL.nil <| ?_
     try simp only [pS]
     go_wp2
     go_roundw
     case rel => exact ⟨i + 1, by go_num, by omega, HF⟩
     case measure => simp [intOf]; omega
    ·skip
     go_upto_region 2 with fail
     refine WL.start <| tK (.int .i64 ((i : Nat) : Int)) <| tK (xr.v) <| tK (.int .i64 ((xr.l : Nat) : Int)) <| bN (lI (a := ((i : Nat) : Int)) (b := ((xr.l : Nat) : Int)) (decide_eq_false (by omega))) <| WL.nil <| ?_
     try simp only [pS]
     go_upto_region 6 with fail
     refine WL.start <| tK (.int .i64 0) <| WL.nil <| ?_
     try simp only [pS]
     go_wp2
     go_loopw [8] (fun v8 wr => ∃ i : Nat, v8 = .int .i64 ((i : Nat) : Int) ∧ i ≤ xb.l ∧ Hid (Fq No w wr [(g1, 24, Cg.cells c)])) (fun v8 _ => xb.l - (intOf v8).toNat)
     case atStart => exact ⟨0, by go_num, by omega, HF⟩
     case round =>
       clear HF
       obtain ⟨i, rfl, hi, HF⟩ := hrel
       by_cases hlt : i < xb.l
       ·skip
        obtain ⟨b, off, hsl, hc⟩ := RdS.at' HB.out (i := i) (by omega)
        obtain ⟨ys, hmi⟩ := HBI.out i hlt
        have HI : Hid (Wi.Sl w (sAt rb i).a (sAt rb i).l (sAt rb i).k ys) := hmi
        clear hmi
        go_upto_region 7 with fail
        refine WL.start <| tK (.int .i64 ((i : Nat) : Int)) <| tK (xb.v) <| tK (.int .i64 ((xb.l : Nat) : Int)) <| bN (lI (a := ((i : Nat) : Int)) (b := ((xb.l : Nat) : Int)) (decide_eq_true (by omega))) <| WL.nil <| ?_
        try simp only [pS]
        go_upto_region 9 with fail
        refine wp_region_held_drew (S := fun w' => Hid (Fq No w w' [(g1, 24, Cg.cells c)])) rfl (show Hid _ from HF.out.drew) (fun hH => ?_)
        replace HF : Hid (Fq No w wr.drew [(g1, 24, Cg.cells c)]) := hH
        clear hH
        generalize wr.drew = w5 at HF ⊢
        refine yK 0 28 HF (xb.v) <| yK 1 29 HF (.int .i64 ((i : Nat) : Int)) <| yT 2 30 HF (zI (s := xb) (i := i) hsl E66 F66 (by omega)) <| yT 3 31 HF (zL fun w HF => (load_one (HF.out.kept.cell (hc 0 _ rfl) (fun e => e)) U35 rfl)) <| yT 5 33 HF (zP (Cg.cs c) 0 0 U24 S24 (Cg.cs c) rfl) <| ?_
        try simp only [pS]
        refine ySl 4 32 (sealC (sAt rb i) ys _ (HI.out.no (wk HF.out.kept))) HF fun s6 zs2 w7 HF HX2 => ?_
        try simp only [pS]
        refine yC 6 34 (readWalk s6 zs2 c zs _ (HCg.out.no HF.out.kept) HX2.out) rfl HF fun w8 HF => yK 7 35 HF (.bool false) <| ?_
        try simp only [pS]
        refine wpAnyH_done (by kernel_rfl) ?_ _
        try simp only [pS]
        go_upto_region 8 with fail
        refine WL.start <| tK (.int .i64 ((i : Nat) : Int)) <| bN (v := .int .i64 (((i + 1) : Nat) : Int)) (b_addw ((i : Nat) : Int) 1 (((i + 1) : Nat) : Int) (by rw [IntKind.wrap_i64]; omega)) <| tK (.int .i64 (((i + 1) : Nat) : Int)) <| WL.nil <| ?_
        try simp only [pS]
        go_wp2
        go_roundw
        case rel => exact ⟨i + 1, by go_num, by omega, HF⟩
        case measure => simp [intOf]; omega
       ·skip
        go_upto_region 7 with fail
        refine WL.start <| tK (.int .i64 ((i : Nat) : Int)) <| tK (xb.v) <| tK (.int .i64 ((xb.l : Nat) : Int)) <| bN (lI (a := ((i : Nat) : Int)) (b := ((xb.l : Nat) : Int)) (decide_eq_false (by omega))) <| WL.nil <| ?_
        try simp only [pS]
        go_upto_region 11 with fail
        refine WL.start <| cB (callw (Wi.known_any _)) rfl HF fun w9 HF => tK (.bool true) <| WL.nil <| ?_
        try simp only [pS]
        go_wp2
        rw [HC.out]
        exact ⟨ret_bool (rfl), HF.out.kept⟩
open Go.ChangeShapes Go.WideShapes Go.ChangeAt Go.RowKit
open Go.ChangeMaps (open_string shut_string)
instance : Inhabited Sl := ⟨slZ⟩
theorem U66 : Tryz.prog.underlying 66 = some (.slice 35) := by kernel_rfl
theorem slice_ok {H : Type} {enc : TypeId × Value → H} {W : World} {fuel : Nat} {v : Value} {x : DataW H × List MemPlace}
    (hf : DataW.trod enc Tryz.prog W 0 (fun _ => true) true fuel 35 [v] = some x) (hs : ∀ n ∈ x.1.weights Tryz.prog 35, n ≤ reachBytes) :
    ∃ (s : Sl) (xs : List Int), v = s.v ∧ Wi.Sl W s.a s.l s.k xs := by
  rcases Go.Deep.open_slice Tryz.und26 hf with ⟨hcs, _⟩ | ⟨ad, l, cp, m, n, D, PP, hcs, hq, hl, hm, hmm, hx, hel⟩
  · simp at hcs
    exact ⟨slZ, [], hcs, ⟨rfl, fun i hi => absurd hi (Nat.not_lt_zero _), Wi.U8.nil, Nat.le_refl _, by show 0 ≤ _; omega, Nat.zero_le _, fun _ => rfl⟩⟩
  · simp at hcs
    simp only [if_true] at hmm
    subst hmm
    have hb2 : m ≤ 140737488351232 := by
      have h1 := hs _ (by rw [hx]; simp only [DataW.weights, Tryz.und26]; exact List.mem_cons_self ..)
      rw [Tryz.bytes5] at h1
      simp [reachBytes] at h1
      omega
    have hb : l ≤ 140737488351232 := by
      have h1 := hs _ (by rw [hx]; simp only [DataW.weights, Tryz.und26]; exact List.mem_cons_self ..)
      rw [Tryz.bytes5] at h1
      simp [reachBytes] at h1
      omega
    rw [Tryz.cells5] at hel
    have key : ∀ i, i < l → ∃ z : Int, W.cells? 0 (ad.add (i * 1)) 1 = some [.int .u8 z] ∧ 0 ≤ z ∧ z ≤ 255 := by
      intro i hi
      obtain ⟨cs', hc, htr⟩ := hel i (by omega)
      obtain ⟨z, e, _, wz⟩ := DataW.trod_int Tryz.und5 htr
      subst e
      exact ⟨z, hc, wu_lo wz, wu_hi wz⟩
    obtain ⟨f, hfm⟩ := Go.Deep.choose_lt key
    refine ⟨⟨some ad, l, m⟩, (List.range l).map f, hcs, ⟨by simp, ?_, u8_map hfm, (by show l ≤ m; omega), (by show m ≤ _; omega), hb, fun e => by cases e⟩⟩
    intro i hi0
    have hi : i < l := by simpa using hi0
    have hc := (hfm i hi).1
    have hcs := (World.cells?_some hc).2.2 0 (by omega)
    obtain ⟨b, off, spot⟩ := ad
    have h00' : [Value.int .u8 (f i)][0]? = some (.int .u8 (f i)) := rfl
    rw [h00'] at hcs
    have hspot : spot = none := by
      have h0 := (World.cells?_some (hfm 0 (by omega)).1).2.2 0 (by omega)
      have h00 : [Value.int .u8 (f 0)][0]? = some (.int .u8 (f 0)) := rfl
      rw [h00] at h0
      have := World.cell?_spot h0
      simpa [Addr.add] using this
    subst hspot
    refine ⟨b, off, rfl, ?_⟩
    rw [Go.Deep.add_add, addr_add] at hcs
    rw [show off + i = off + (i * 1 + 0) by omega]
    simpa [hi] using hcs
theorem one_cell {H : Type} {enc : TypeId × Value → H} {W : World} {fuel : Nat} {l : List Value} {x : DataW H × List MemPlace} (h : DataW.trod enc Tryz.prog W 0 (fun _ => true) true fuel 35 l = some x) : ∃ v, l = [v] := by
  rcases Go.Deep.open_slice Tryz.und26 h with ⟨hcs, _⟩ | ⟨ad, l2, cp, m, n, D, PP, hcs, _⟩
  · exact ⟨_, hcs⟩
  · exact ⟨_, hcs⟩
set_option maxRecDepth 100000 in
theorem opened_ss (H : Type) (enc : TypeId × Value → H) (W : World) (a0 : Option Addr) (len0 cap0 : Nat) (d0 : DataW H) (p0 : List MemPlace)
    (h0 : DataW.Trod enc Tryz.prog W 0 (fun _ => true) true 66 (.slice a0 len0 cap0) d0 p0) {ts : List TypeId} {ds : List (DataW H)} (hsz : (DataW.weightsEach Tryz.prog ts ds).all (· ≤ reachBytes) = true) {j : Nat} (ht : ts[j]? = some 66) (hd : ds[j]? = some d0) :
    ∃ xs : List Sl, RdS W ⟨a0, len0, cap0⟩ xs ∧ (∀ i, i < len0 → ∃ ys, Wi.Sl W (sAt xs i).a (sAt xs i).l (sAt xs i).k ys) ∧ len0 ≤ 281474976710656 := by
  obtain ⟨fuel, hf⟩ := h0
  have hf' : DataW.trod enc Tryz.prog W 0 (fun _ => true) true fuel 66 [.slice a0 len0 cap0] = some (d0, p0) := hf
  obtain ⟨s, xs, hv, h1, h2, h3, h4⟩ := rows_ok (fun s : Sl => [s.v]) 1 24 66 35 U66 (by kernel_rfl) (by kernel_rfl) (by omega) (fun _ => rfl) (fun x => ∃ ys, Wi.Sl W x.a x.l x.k ys)
    (fun fuel l x h hs => by
      obtain ⟨v, rfl⟩ : ∃ v, l = [v] := one_cell h
      obtain ⟨s, ys, rfl, hm⟩ := slice_ok h hs
      exact ⟨s, rfl, ys, hm⟩) hf' (fun n hn => by
      have := List.all_eq_true.1 hsz _ (DataW.weights_mem_each ht hd n hn)
      simpa using this)
  obtain ⟨sa, sn, sk⟩ := s
  simp only [Sl.v, Value.slice.injEq] at hv
  obtain ⟨rfl, rfl, rfl⟩ := hv
  exact ⟨xs, ⟨h1, h2⟩, h3, by simp only at h4; omega⟩
end Go.Proofs.YtgdnofacgfjaeaaGreat.Md
