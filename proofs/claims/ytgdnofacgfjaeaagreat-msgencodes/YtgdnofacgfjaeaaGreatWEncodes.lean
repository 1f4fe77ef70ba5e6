import Derived.Test.YtgdnofacgfjaeaaGreatLc
import Derived.Test.YtgdnofacgfjaeaaGreatLb
import Derived.Test.YtgdnofacgfjaeaaGreatWiCb
import Derived.Test.YtgdnofacgfjaeaaGreatWiZx
namespace Go.Proofs.YtgdnofacgfjaeaaGreat.Md
set_option maxRecDepth 100000
set_option maxHeartbeats 4000000
open Go.RowKit
set_option linter.unusedVariables false
set_option linter.unusedSimpArgs false
theorem allOf_its {base : Nat} {w : World} (xs : List Wi.Item) (h : ∀ x ∈ xs, OkX base w x) : Wi.allOf xs = putTs (xs.map itOf) := by
  suffices H : ∀ (xs : List Wi.Item) st, (∀ x ∈ xs, OkX base w x) → xs.foldl Wi.putIt st = (xs.map itOf).foldl putT st by exact H xs _ h
  intro xs
  induction xs with
  | nil => intro st _; rfl
  | cons x r ih =>
    intro st h
    rw [List.foldl_cons, List.map_cons, List.foldl_cons, ih _ (fun y hy => h y (List.mem_cons_of_mem _ hy))]
    congr 1
    rcases (h x (List.mem_cons_self ..)).kd with e | e
    · unfold Wi.putIt itOf; rw [if_pos e, if_pos e]; rfl
    · unfold Wi.putIt itOf; rw [if_neg (by omega), if_neg (by omega), if_neg (by omega)]; rfl
theorem tot_its {base : Nat} {w : World} (xs : List Wi.Item) (h : ∀ x ∈ xs, OkX base w x) : Wi.tot xs ≤ itsLen (xs.map itOf) := by
  induction xs with
  | nil => exact Nat.le_refl _
  | cons x r ih =>
    have h1 := ih (fun y hy => h y (List.mem_cons_of_mem _ hy))
    have h2 := h x (List.mem_cons_self ..)
    rw [List.map_cons, len_cons]
    have : Wi.tot (x :: r) = (10 + x.m) + Wi.tot r := by simp [Wi.tot]
    rcases h2.kd with e | e
    · have h3 : itOf x = .n x.n := by unfold itOf; rw [if_pos e]
      have := h2.m0 e
      rw [h3, len_n]; omega
    · have h3 : itOf x = .b x.zs := by unfold itOf; rw [if_neg (by omega)]
      have := h2.ok.sl.len
      rw [h3, len_b]; omega
theorem its_rows {w : World} {base : Nat} {a : Option Addr} {n c : Nat} {xs : List Wi.Item} (h : Own 182 3 w base a c n (itsV xs)) : Wi.Its w a xs := by
  have hr := Own.rows (xs := xs.map itmV) h (by intro y hy; obtain ⟨x, _, rfl⟩ := List.mem_map.1 hy; rfl) (by omega)
  intro i x hx
  obtain ⟨b, off, e, hc⟩ := hr i (itmV x) (by rw [List.getElem?_map, hx]; rfl)
  exact ⟨b, off, e, hc 0 _ rfl, hc 1 _ rfl, hc 2 _ rfl⟩
section
variable {base g : Nat} {T : List It} {ok : ∀ x ∈ T, itOk x} {len : itsLen T ≤ 131072}
theorem r_body (w : World) (a : Option Addr) (h : (rSink base g T ok len).St w a T) : Calls Tryz.prog 120 #[.pointer (some ⟨g, 0, none⟩)] w (fun e w' => ∃ s : Sl, e = .returned s.v ∧ RdB w' s (encB T) ∧ Kept No w w') := by
  refine hidC fun C HC => ?_
  obtain ⟨xs, n, c, hO⟩ := h
  have hn : n ≤ 13108 := by
    have h2 := itsLen_ge T
    have h3 : T.length = n := by rw [← hO.is, List.length_map, hO.len]
    omega
  have e1 : Wi.allOf xs = some (encB T) := by rw [allOf_its xs hO.ok, hO.is, putTs_some ok]
  have HD := Wi.rDone_q a n c xs w hO.len (by omega) (its_rows hO.own) (fun x hx => (hO.ok x hx).ok) (by have := tot_its xs hO.ok; rw [hO.is] at this; omega)
  rw [e1] at HD
  have HD2 : Hid _ := HD
  have HB : Hid (Box w g 104 #[.slice a n c]) := hO.box
  clear HD hO
  go_enter Tryz.func120, Tryz.ntmps120
  go_upto_region 0 with fail
  refine WL.start <| tK (.slice none 0 0) <| WL.nil <| ?_
  try simp only [pS]
  go_upto_region 1 with fail
  refine WL.start <| tK (pg g 0) <| tK (pg g 0) <| tK (pg g 0) <| lR (load_one (HB.out.cell 0) U102 rfl) ?_
  try simp only [pS]
  refine wp_callW 180 #[.slice a n c] (by kernel_rfl) _ HD2.out (by kernel_rfl) ?_
  rintro e w' ⟨a', n', c', rfl, rfl, hO, hk⟩
  refine ⟨_, rfl, ?_⟩
  try simp only [pS]
  refine tK (.tuple #[.slice a' (encB T).length c', .int .i64 0]) <| tK (.slice a' (encB T).length c') <| tK (.int .i64 0) <| tK (.slice a' (encB T).length c') <| tK (.int .i64 0) <| WL.nil <| ?_
  try simp only [pS]
  go_upto_region 2 with fail
  refine WL.start <| tK (.slice a' (encB T).length c') <| tK (.slice a' (encB T).length c') <| WL.nil <| ?_
  try simp only [pS]
  go_wp2
  rw [HC.out]
  exact ⟨⟨a', _, c'⟩, rfl, own_rdB hO rfl, kw hk⟩
theorem r_done (w : World) (a : Option Addr) (h : (rSink base g T ok len).St w a T) : Calls Tryz.prog 55 #[.pointer (some ⟨g, 0, none⟩)] w (fun e w' => ∃ s : Sl, e = .returned s.v ∧ RdB w' s (Wi.sealOf (encB T)) ∧ s.l ≤ 131084 ∧ Kept No w w') := by
  refine hidC fun C HC => ?_
  have HD : Hid _ := r_body (ok := ok) (len := len) w a h
  have hbl := encB_len ok
  clear h
  go_enter Tryz.func55, Tryz.ntmps55
  go_upto_region 0 with fail
  refine WL.start <| tK (.slice none 0 0) <| WL.nil <| ?_
  try simp only [pS]
  go_upto_region 1 with fail
  refine WL.start <| tK (pg g 0) ?_
  try simp only [pS]
  refine wp_callW 120 #[.pointer (some ⟨g, 0, none⟩)] (by kernel_rfl) _ HD.out (by kernel_rfl) ?_
  rintro e w' ⟨⟨sa, sn, sc⟩, rfl, hr, hk⟩
  refine ⟨_, rfl, ?_⟩
  try simp only [pS]
  refine wp_callW 26 #[.slice sa sn sc] (by kernel_rfl) _ (Wi.rseal_any sa sn sc (encB T) w' hr.len (by have := hr.len; show sn ≤ _; simp only at this; omega) hr.row (encB_u8 ok) hr.cap) (by kernel_rfl) ?_
  rintro e w2 ⟨a', c', rfl, hO, hk2⟩
  refine ⟨_, rfl, ?_⟩
  try simp only [pS]
  refine tK (.slice a' (sn + 12) c') <| WL.nil <| ?_
  try simp only [pS]
  go_wp2
  rw [HC.out]
  exact ⟨⟨a', sn + 12, c'⟩, rfl, own_rdB hO (by rw [Wi.sealOf_len, hr.len]), by have := hr.len; show sn + 12 ≤ _; simp only at this; omega, hk.thenNo (kw hk2)⟩
end
theorem Fq.sink {w0 w : World} {l : List (Nat × TypeId × Array Value)} {g : Nat} {T : List It} {ok : ∀ x ∈ T, itOk x} {len : itsLen T ≤ 131072} (h : Fq No w0 w (l ++ [(g, 104, #[.slice none 0 0])])) (ht : ∀ (i : Nat) g' t cs, l[i]? = some (g', t, cs) → ¬ (t = 104 ∨ t = 182 ∨ t = 5)) :
    Kf (rSink w0.heap.size g T ok len) w0 w none ([] ++ []) l := by
  have hl : (l ++ [(g, 104, #[.slice none 0 0])])[l.length]? = some (g, 104, #[.slice none 0 0]) := by rw [List.getElem?_append_right (Nat.le_refl _), Nat.sub_self]; rfl
  have hg : w0.heap.size ≤ g := (h.low _ _ _ _ hl).elim id False.elim
  have hf := h.front
  exact ⟨hf.kept.of_no, Nat.le_refl _, ⟨none, ⟨[], 0, 0, ⟨h.box _ _ _ _ hl, ⟨rfl, .inl ⟨rfl, rfl⟩⟩, rfl, rfl, fun x hx => by simp at hx, hg⟩⟩, fun k hk => absurd hk At.none⟩, hf.box, fun i g' t cs hi => (hf.low i g' t cs hi).elim id False.elim, hf.inj, fun i g' t cs hi => ht i g' t cs hi⟩
theorem Kf.keptNo {w0 w : World} {g : Nat} {T L : List It} {ok : ∀ x ∈ T, itOk x} {len : itsLen T ≤ 131072} {l : List (Nat × TypeId × Array Value)} (h : Kf (rSink w0.heap.size g T ok len) w0 w none L l) (hg : w0.heap.size ≤ g) : Kept No w0 w :=
  h.kept.mono (fun k hk e => by
    rcases e with e | e
    · have e1 : k = g := e
      omega
    · exact absurd e At.none)
section
variable {ops : Array Oper} {rest : List Oper} {o : Oper} {a : Act} {w : World} {Q : Exit → Act → World → Prop} {w0 : World} {l : List (Nat × TypeId × Array Value)}
theorem cD {f : FuncId} {args : Array Value} {bytes : List Int} (hc : Calls Tryz.prog f args w (fun e w' => ∃ s : Sl, e = .returned s.v ∧ RdB w' s bytes ∧ s.l ≤ 131084 ∧ Kept No w w')) (HK : Kept No w0 w)
    (h : ∀ (s : Sl) w', Hid (Kept No w0 w') → Hid (RdB w' s bytes) → s.l ≤ 131084 → WL ops Q rest (a.put o.dst s.v) w') (hrun : (execOp a.eval o).run Tryz.prog w = .ok (.enter f args) w := by kernel_rfl) (hw : Region.wanted o (yielded ops a.tmps) = true := by kernel_rfl) : WL ops Q (o :: rest) a w :=
  wp_callW f args hrun _ hc hw (by rintro e w' ⟨s, rfl, h1, h2, hk⟩; exact ⟨_, rfl, h s w' (HK.thenNo hk) h1 h2⟩)
end
theorem tys_ok {l : List (Nat × TypeId × Array Value)} (h : l.all (fun x => !(x.2.1 == 104 || (x.2.1 == 182 || x.2.1 == 5))) = true) : ∀ (i : Nat) g' t cs, l[i]? = some (g', t, cs) → ¬ (t = 104 ∨ t = 182 ∨ t = 5) := by
  intro i g' t cs hi e
  have := List.all_eq_true.1 h _ (List.mem_of_getElem? hi)
  rcases e with rfl | rfl | rfl <;> cases this
section
variable {ops : Array Oper} {a : Act} {w : World} {Q : Exit → Act → World → Prop} {md : Region.Mode} {S : Nat → Prop} {w0 : World} {l : List (Nat × TypeId × Array Value)} {fuel : Nat} {listed : Array Bool}
theorem yE (i d : Nat) {f : FuncId} {args : Array Value} {err : Int} {bytes : List Int} (hc : Calls Tryz.prog f args w (EncO w err bytes)) (HF : Hid (Fq S w0 w l))
    (h : ∀ (s : Sl) w', Hid (Fq S w0 w' l) → Hid (Kept No w w') → Hid (RdB w' s bytes) → s.l ≤ 131084 → wpAnyH Tryz.prog md ops Q (fun w' => Hid (Fq S w0 w' l)) fuel (listed.setIfInBounds i true) (a.put (some d) (.tuple #[s.v, .int .i64 err])) w')
    (hi : ops[i]? = some (opA ops i) := by kernel_rfl) (hd : (opA ops i).dst = some d := by kernel_rfl) (hr : Region.ready md ops listed = [i] := by kernel_rfl) (hrun : (execOp a.eval (opA ops i)).run Tryz.prog w = .ok (.enter f args) w := by kernel_rfl) (hw : Region.wanted (opA ops i) (yielded ops a.tmps) = true := by kernel_rfl) : wpAnyH Tryz.prog md ops Q (fun w' => Hid (Fq S w0 w' l)) (fuel + 1) listed a w :=
  any_call hi hr hw f args hrun _ hc (by rintro e w' ⟨s, rfl, h1, h2, hk⟩; exact ⟨_, rfl, HF.out.no hk, fun HF => by rw [hd]; exact h s w' HF hk h1 h2⟩)
end
theorem p_Encode (m : Mg) (c : Cg) (zs : List Int) (bs : List Int) (es : List En) (ls : List La) (cs : List Cm) (w : World) (hc : CgIn w c zs) (hm : MgIn w m bs es ls cs) : Calls Tryz.prog 22 #[.agg (Mg.cells m), .agg (Cg.cells c)] w (EncO w (jdg (cfgP c zs) (msgP c.bl c.rm c.bu zs m bs es ls cs) 50) (encR (cfgP c zs && msgP c.bl c.rm c.bu zs m bs es ls cs) (msgIts m bs es ls cs))) := by
  refine hidC fun C HC => ?_
  have HCg : Hid (CgIn w c zs) := hc
  have HI : Hid (MgIn w m bs es ls cs) := hm
  clear hc hm
  have HF : Hid (Fq No w w []) := Fq.start _ _
  go_enter Tryz.func22, Tryz.ntmps22
  go_upto_region 0 with fail
  refine WL.start <| xB (Mg.cells m) HF fun g1 w2 HF => xB (Cg.cells c) HF fun g3 w4 HF => tK (.slice none 0 0) <| tK (.int .i64 0) <| WL.nil <| ?_
  try simp only [pS]
  go_upto_region 1 with fail
  refine WL.start <| lP (Mg.cs m) HF 0 0 U45 S45 (Mg.cs m) rfl <| lP (Cg.cs c) HF 1 0 U24 S24 (Cg.cs c) rfl <| cEn (p_packM m c zs bs es ls cs _ (HCg.out.no HF.out.kept) (HI.out.no HF.out.kept)) HF fun s5 w6 HF HR hs => tK (s5.v) <| tK (.int .i64 (jdg (cfgP c zs) (msgP c.bl c.rm c.bu zs m bs es ls cs) 50)) <| tK (s5.v) <| tK (.int .i64 (jdg (cfgP c zs) (msgP c.bl c.rm c.bu zs m bs es ls cs) 50)) <| WL.nil <| ?_
  try simp only [pS]
  go_wp2
  rw [HC.out]
  exact ⟨s5, rfl, HR.out, hs, HF.out.kept⟩
theorem r_Encode0 (m : Mg) (c : Cg) (zs : List Int) (bs : List Int) (es : List En) (ls : List La) (cs : List Cm) (w : World) (hc : CgIn w c zs) (hm : MgIn w m bs es ls cs) : Calls Tryz.prog 23 #[.agg (Mg.cells m), .agg (Cg.cells c)] w (EncO w (jdg (cfgP c zs) (msgR c.bl c.rm c.bu zs m bs es ls cs) 50) (encR (cfgP c zs && msgR c.bl c.rm c.bu zs m bs es ls cs) (msgIts m bs es ls cs))) := by
  refine hidC fun C HC => ?_
  have HCg : Hid (CgIn w c zs) := hc
  have HI : Hid (MgIn w m bs es ls cs) := hm
  clear hc hm
  have HF : Hid (Fq No w w []) := Fq.start _ _
  go_enter Tryz.func23, Tryz.ntmps23
  go_upto_region 0 with fail
  refine WL.start <| xB (Mg.cells m) HF fun g1 w2 HF => xB (Cg.cells c) HF fun g3 w4 HF => tK (.slice none 0 0) <| tK (.int .i64 0) <| WL.nil <| ?_
  try simp only [pS]
  go_upto_region 1 with fail
  refine WL.start <| lP (Cg.cs c) HF 1 0 U24 S24 (Cg.cs c) rfl <| ?_
  try simp only [pS]
  cases q1 : (cfgP c zs)
  ·skip
   refine cB (cfg_is c zs _ (HCg.out.no HF.out.kept)) q1 HF fun w5 HF => tK (.bool true) <| WL.nil <| ?_
   try simp only [pS]
   go_upto_region 2 with fail
   refine WL.start <| tK (.slice none 0 0) <| tK (.int .i64 20) <| WL.nil <| ?_
   try simp only [pS]
   have hv : jdg (cfgP c zs) (msgR c.bl c.rm c.bu zs m bs es ls cs) 50 = 20 := by simp only [jdg, cond_true, cond_false, q1]
   have he : encR (cfgP c zs && msgR c.bl c.rm c.bu zs m bs es ls cs) (msgIts m bs es ls cs) = [] := by simp only [encR, cond_true, cond_false, Bool.and_true, Bool.and_false, Bool.true_and, Bool.false_and, q1]
   go_wp2
   rw [HC.out, hv, he]
   exact ⟨slZ, rfl, RdB.nilS _, Nat.zero_le _, HF.out.kept⟩
  refine cB (cfg_is c zs _ (HCg.out.no HF.out.kept)) q1 HF fun w6 HF => tK (.bool false) <| WL.nil <| ?_
  try simp only [pS]
  go_upto_region 3 with fail
  refine WL.start <| lP (Mg.cs m) HF 0 0 U45 S45 (Mg.cs m) rfl <| lP (Cg.cs c) HF 1 0 U24 S24 (Cg.cs c) rfl <| ?_
  try simp only [pS]
  cases q2 : (msgR c.bl c.rm c.bu zs m bs es ls cs)
  ·skip
   refine cB (r_Is m c zs bs es ls cs _ (cfg_bl q1) (cfg_bu q1) (HCg.out.r.no HF.out.kept) (HI.out.b.no HF.out.kept) (HI.out.e.no HF.out.kept) (HI.out.l.no HF.out.kept) (HI.out.c.no HF.out.kept) (by have := HCg.out.n; omega) (by have := HI.out.nb; omega) (by have := HI.out.ne; omega) (by have := HI.out.nl; omega) (by have := HI.out.nc; omega)) q2 HF fun w7 HF => tK (.bool true) <| WL.nil <| ?_
   try simp only [pS]
   go_upto_region 4 with fail
   refine WL.start <| tK (.slice none 0 0) <| tK (.int .i64 50) <| WL.nil <| ?_
   try simp only [pS]
   have hv : jdg (cfgP c zs) (msgR c.bl c.rm c.bu zs m bs es ls cs) 50 = 50 := by simp only [jdg, cond_true, cond_false, q1, q2]
   have he : encR (cfgP c zs && msgR c.bl c.rm c.bu zs m bs es ls cs) (msgIts m bs es ls cs) = [] := by simp only [encR, cond_true, cond_false, Bool.and_true, Bool.and_false, Bool.true_and, Bool.false_and, q1, q2]
   go_wp2
   rw [HC.out, hv, he]
   exact ⟨slZ, rfl, RdB.nilS _, Nat.zero_le _, HF.out.kept⟩
  refine cB (r_Is m c zs bs es ls cs _ (cfg_bl q1) (cfg_bu q1) (HCg.out.r.no HF.out.kept) (HI.out.b.no HF.out.kept) (HI.out.e.no HF.out.kept) (HI.out.l.no HF.out.kept) (HI.out.c.no HF.out.kept) (by have := HCg.out.n; omega) (by have := HI.out.nb; omega) (by have := HI.out.ne; omega) (by have := HI.out.nl; omega) (by have := HI.out.nc; omega)) q2 HF fun w8 HF => tK (.bool false) <| WL.nil <| ?_
  try simp only [pS]
  go_upto_region 5 with fail
  refine WL.start <| bD (#[.slice none 0 0]) <| xB (#[.slice none 0 0]) HF fun g9 w10 HF => ?_
  try simp only [pS]
  have hB := cfgP_bd q1
  have hmp : msgP c.bl c.rm c.bu zs m bs es ls cs = true := by rw [msg_eq HI.out.e.len HI.out.l.len (by have := hB.2; omega)]; exact q2
  obtain ⟨hok, hlen⟩ := msg_ok' (cfg_bl q1) (by have := hB.2; omega) (by have := hB.1.2; omega) (cfg_ids q1) HI.out.u HI.out.b.len HI.out.e.len HI.out.l.len HI.out.c.len hmp
  have HI2 : Hid (MgIn w10 m bs es ls cs) := HI.out.no HF.out.kept
  have hg : w.heap.size ≤ g9 := (HF.out.low 2 _ _ _ rfl).elim id False.elim
  have HF : Hid (Kf (rSink w.heap.size g9 (msgIts m bs es ls cs) hok hlen) w w10 none ([] ++ []) [(g1, 45, Mg.cells m), (g3, 24, Cg.cells c)]) := Fq.sink HF.out (tys_ok rfl)
  refine tK (pg g9 0) <| WL.nil <| ?_
  try simp only [pS]
  go_upto_region 6 with fail
  refine WL.start <| tK (pg g9 0) <| kP (Mg.cs m) HF 0 0 U45 S45 (Mg.cs m) rfl <| kC (msgIts m bs es ls cs) HF (fun a0 h0 => r_put m bs es ls cs _ a0 _ h0 List.prefix_rfl HI2.out.b HI2.out.e HI2.out.l HI2.out.c (low_B HI.out.b) (low_E HI.out.e) (low_L HI.out.l) (low_C HI.out.c) (by have := HI.out.ne; omega) (by have := HI.out.nl; omega) (by have := HI.out.nc; omega)) fun w11 HF => ?_
  try simp only [pS]
  have HF : Hid (Kf (rSink w.heap.size g9 (msgIts m bs es ls cs) hok hlen) w w11 none (msgIts m bs es ls cs) [(g1, 45, Mg.cells m), (g3, 24, Cg.cells c)]) := HF
  obtain ⟨a1, h1, _⟩ := HF.out.st
  have HK : Hid (Kept No w w11) := Kf.keptNo HF.out hg
  clear HF
  refine WL.nil <| ?_
  try simp only [pS]
  go_upto_region 7 with fail
  refine WL.start <| tK (pg g9 0) <| cD (r_done _ a1 h1) HK.out fun s12 w13 HK HR hs => tK (s12.v) <| tK (.int .i64 0) <| WL.nil <| ?_
  try simp only [pS]
  have hv : jdg (cfgP c zs) (msgR c.bl c.rm c.bu zs m bs es ls cs) 50 = 0 := by simp only [jdg, cond_true, cond_false, q1, q2]
  have he : encR (cfgP c zs && msgR c.bl c.rm c.bu zs m bs es ls cs) (msgIts m bs es ls cs) = Wi.sealOf (encB (msgIts m bs es ls cs)) := by simp only [encR, cond_true, cond_false, Bool.and_true, Bool.and_false, Bool.true_and, Bool.false_and, q1, q2]
  go_wp2
  rw [HC.out, hv, he]
  exact ⟨s12, rfl, HR.out, hs, HK.out⟩
theorem and_msg (c : Cg) (zs : List Int) (m : Mg) (bs : List Int) (es : List En) (ls : List La) (cs : List Cm) (he : es.length = m.bk.e.l) (hl : ls.length = m.bk.l.l) :
    (cfgP c zs && msgR c.bl c.rm c.bu zs m bs es ls cs) = (cfgP c zs && msgP c.bl c.rm c.bu zs m bs es ls cs) := by
  cases hq : cfgP c zs with
  | false => rfl
  | true => rw [msg_eq he hl (by have := (cfgP_bd hq).2; omega)]
theorem r_Encode (m : Mg) (c : Cg) (zs : List Int) (bs : List Int) (es : List En) (ls : List La) (cs : List Cm) (w : World) (hc : CgIn w c zs) (hm : MgIn w m bs es ls cs) : Calls Tryz.prog 23 #[.agg (Mg.cells m), .agg (Cg.cells c)] w (EncO w (jdg (cfgP c zs) (msgP c.bl c.rm c.bu zs m bs es ls cs) 50) (encR (cfgP c zs && msgP c.bl c.rm c.bu zs m bs es ls cs) (msgIts m bs es ls cs))) := by
  rw [← jdgM c zs m bs es ls cs 50 hm.e.len hm.l.len, ← and_msg c zs m bs es ls cs hm.e.len hm.l.len]; exact r_Encode0 m c zs bs es ls cs w hc hm
theorem p_EncodeL (m : Mg) (c : Cg) (zs : List Int) (bs : List Int) (es : List En) (ls : List La) (cs : List Cm) (gb g g2 gc k : Nat) (w : World) (hc : CgIn w (lnC c k) zs) (hm : MgIn w (lnM m gb g g2 gc) bs es ls cs) : Calls Tryz.prog 22 #[.agg (Mg.cells (lnM m gb g g2 gc)), .agg (Cg.cells (lnC c k))] w (EncO w (jdg (cfgP c zs) (msgP c.bl c.rm c.bu zs m bs es ls cs) 50) (encR (cfgP c zs && msgP c.bl c.rm c.bu zs m bs es ls cs) (msgIts m bs es ls cs))) := p_Encode (lnM m gb g g2 gc) (lnC c k) zs bs es ls cs w hc hm
structure RdM (w : World) (s : Sl) (ms : List Mg) : Prop where
  row : RowsAt 30 w s.a (ms.map Mg.cs)
  len : ms.length = s.l
structure RdK (w : World) (s : Sl) (ks : List Bv) : Prop where
  row : RowsAt 3 w s.a (ks.map Bv.cs)
  len : ks.length = s.l
def gAt (ms : List Mg) (i : Nat) : Mg := ms[i]?.getD mgZ
def kAt (ks : List Bv) (i : Nat) : Bv := ks[i]?.getD bvZ
theorem RdM.at' {w : World} {s : Sl} {es : List Mg} (h : RdM w s es) {i : Nat} (hi : i < s.l) : ∃ b off, s.v = .slice (some ⟨b, off, none⟩) s.l s.k ∧ ∀ (j : Nat) v, (gAt es i).cs[j]? = some v → w.cell? ⟨b, off + i * 30 + j, none⟩ = some v := by
  obtain ⟨b, off, ha, hc⟩ := h.row i (gAt es i).cs (by rw [List.getElem?_map, show es[i]? = some (gAt es i) by simp [gAt, List.getElem?_eq_getElem (show i < es.length by rw [h.len]; exact hi)]]; rfl)
  exact ⟨b, off, by unfold Sl.v; rw [ha], hc⟩
theorem RdK.at' {w : World} {s : Sl} {es : List Bv} (h : RdK w s es) {i : Nat} (hi : i < s.l) : ∃ b off, s.v = .slice (some ⟨b, off, none⟩) s.l s.k ∧ ∀ (j : Nat) v, (kAt es i).cs[j]? = some v → w.cell? ⟨b, off + i * 3 + j, none⟩ = some v := by
  obtain ⟨b, off, ha, hc⟩ := h.row i (kAt es i).cs (by rw [List.getElem?_map, show es[i]? = some (kAt es i) by simp [kAt, List.getElem?_eq_getElem (show i < es.length by rw [h.len]; exact hi)]]; rfl)
  exact ⟨b, off, by unfold Sl.v; rw [ha], hc⟩
theorem load_M {w : World} {b off i : Nat} {e : Mg} (hc : ∀ (j : Nat) v, e.cs[j]? = some v → w.cell? ⟨b, off + i * 30 + j, none⟩ = some v) : (loadVar 45 ⟨b, off + i * 30, none⟩).run Tryz.prog w = .ok (.agg e.cells) w := load_at hc U45 rfl S45
theorem CgIn.lent {w : World} {c : Cg} {zs : List Int} {g : Nat} (hb : Box w g 3 (i64L (zs ++ [-77])).toArray) (hl : zs.length = c.sv.l) (hn : c.sv.l ≤ 17592186043904) : CgIn w (lnC c g) zs := ⟨RdI.lent hb hl, hn⟩
theorem MgIn.lent {w : World} {m : Mg} {bs : List Int} {es : List En} {ls : List La} {cs : List Cm} {gb g g2 gc : Nat} {w0 : World} (h : MgIn w0 m bs es ls cs)
    (h1 : Box w gb 5 (u8L (bs ++ mk3 3)).toArray) (h2 : Box w g 92 (enL (es ++ [enK])).toArray) (h3 : Box w g2 94 (laL (ls ++ [laK])).toArray) (h4 : Box w gc 39 (cmL (cs ++ [cmK])).toArray) : MgIn w (lnM m gb g g2 gc) bs es ls cs :=
  ⟨RdB.lent h1 h.b.len, RdE.lent h2 h.e.len, RdL.lent h3 h.l.len, RdC.lent h4 h.c.len, h.nb, h.ne, h.nl, h.nc, h.u⟩
theorem BkIn.lent {w : World} {x : Bv} {es : List En} {ls : List La} {g g2 : Nat} {w0 : World} (h : BkIn w0 x es ls)
    (h2 : Box w g 92 (enL (es ++ [enK])).toArray) (h3 : Box w g2 94 (laL (ls ++ [laK])).toArray) : BkIn w (lnB x g g2) es ls :=
  ⟨RdE.lent h2 h.e.len, RdL.lent h3 h.l.len, h.ne, h.nl⟩
set_option maxRecDepth 100000 in
set_option maxHeartbeats 4000000 in
theorem encodesWalk (c : Cg) (xm : Sl) (zs : List Int) (ms : List Mg) (w : World) (hc : CgIn w c zs) (h1 : RdM w xm ms) (h2 : ∀ i, i < xm.l → ∃ bs es ls cs, MgIn w (gAt ms i) bs es ls cs) (n1 : xm.l ≤ 281474976710656) : Calls Tryz.prog 4 #[.agg (Cg.cells c), xm.v] w (fun e w' => e = .returned (.bool true) ∧ Kept No w w') := by
  refine hidC fun C HC => ?_
  have HCg : Hid (CgIn w c zs) := hc
  have HM : Hid (RdM w xm ms) := h1
  have HMI : Hid (∀ i, i < xm.l → ∃ bs es ls cs, MgIn w (gAt ms i) bs es ls cs) := h2
  clear hc h1 h2
  have HF : Hid (Fq No w w []) := Fq.start _ _
  go_enter Tryz.func4, Tryz.ntmps4
  go_upto_region 0 with fail
  refine WL.start <| xB (Cg.cells c) HF fun g1 w2 HF => tK (.bool false) <| WL.nil <| ?_
  try simp only [pS]
  go_upto_region 1 with fail
  refine WL.start <| lP (Cg.cs c) HF 0 0 U24 S24 (Cg.cs c) rfl <| cJ (lendC c zs _ (HCg.out.r.no HF.out.kept) HCg.out.n) HF fun g3 w4 HF => xA (Cg.cells cgZ) Z24 HF fun g5 w6 HF => sB (Cg.cs (lnC c g3)) (Cg.cs (lnC c g3)) HF 2 0 (v := .agg (Cg.cells (lnC c g3))) rfl S24 (Cg.oneL _) (Cg.cs cgZ) rfl fun w7 HF => WL.nil <| ?_
  try simp only [pS]
  go_upto_region 2 with fail
  refine WL.start <| tK (.int .i64 0) <| WL.nil <| ?_
  try simp only [pS]
  go_wp2
  go_loopw [6] (fun v6 wr => ∃ i : Nat, v6 = .int .i64 ((i : Nat) : Int) ∧ i ≤ xm.l ∧ Hid (Fq No w wr [(g1, 24, Cg.cells c), (g3, 3, (i64L (zs ++ [-77])).toArray), (g5, 24, Cg.cells (lnC c g3))])) (fun v6 _ => xm.l - (intOf v6).toNat)
  case atStart => exact ⟨0, by go_num, by omega, HF⟩
  case round =>
    clear HF
    obtain ⟨i, rfl, hi, HF⟩ := hrel
    by_cases hlt : i < xm.l
    ·skip
     obtain ⟨b, off, hsl, hc⟩ := RdM.at' HM.out (i := i) (by omega)
     obtain ⟨bs, es, ls, cs, hmi⟩ := HMI.out i hlt
     have HI : Hid (MgIn w (gAt ms i) bs es ls cs) := hmi
     clear hmi
     go_upto_region 3 with fail
     refine WL.start <| tK (.int .i64 ((i : Nat) : Int)) <| tK (xm.v) <| tK (.int .i64 ((xm.l : Nat) : Int)) <| bN (lI (a := ((i : Nat) : Int)) (b := ((xm.l : Nat) : Int)) (decide_eq_true (by omega))) <| WL.nil <| ?_
     try simp only [pS]
     go_upto_region 5 with fail
     refine WL.start <| tK (xm.v) <| tK (.int .i64 ((i : Nat) : Int)) <| iS (s := xm) (i := i) hsl E25 F25 (by omega) <| lR (load_M (fun j v h => HF.out.kept.cell (hc j v h) (fun e => e))) <| cJ4 (lendM (gAt ms i) bs es ls cs _ (HI.out.b.no HF.out.kept) (HI.out.e.no HF.out.kept) (HI.out.l.no HF.out.kept) (HI.out.c.no HF.out.kept) HI.out.nb HI.out.ne HI.out.nl HI.out.nc) HF fun g8 g9 g10 g11 w12 HF => xA (Mg.cells mgZ) Z45 HF fun g13 w14 HF => sB (Mg.cs (lnM (gAt ms i) g8 g9 g10 g11)) (Mg.cs (lnM (gAt ms i) g8 g9 g10 g11)) HF 7 0 (v := .agg (Mg.cells (lnM (gAt ms i) g8 g9 g10 g11))) rfl S45 (Mg.oneL _) (Mg.cs mgZ) rfl fun w15 HF => WL.nil <| ?_
     try simp only [pS]
     go_upto_region 6 with fail
     refine WL.start <| lP (Mg.cs (lnM (gAt ms i) g8 g9 g10 g11)) HF 7 0 U45 S45 (Mg.cs (lnM (gAt ms i) g8 g9 g10 g11)) rfl <| lP (Cg.cs (lnC c g3)) HF 2 0 U24 S24 (Cg.cs (lnC c g3)) rfl <| cEn (p_EncodeL (gAt ms i) c zs bs es ls cs g8 g9 g10 g11 g3 _ (CgIn.lent (HF.out.box 1 _ _ _ rfl) HCg.out.r.len HCg.out.n) (HI.out.lent (HF.out.box 3 _ _ _ rfl) (HF.out.box 4 _ _ _ rfl) (HF.out.box 5 _ _ _ rfl) (HF.out.box 6 _ _ _ rfl))) HF fun s16 w17 HF HRa hsa => tK (.tuple #[s16.v, .int .i64 (jdg (cfgP c zs) (msgP c.bl c.rm c.bu zs (gAt ms i) bs es ls cs) 50)]) <| tK (s16.v) <| tK (.int .i64 (jdg (cfgP c zs) (msgP c.bl c.rm c.bu zs (gAt ms i) bs es ls cs) 50)) <| tK (s16.v) <| tK (.int .i64 (jdg (cfgP c zs) (msgP c.bl c.rm c.bu zs (gAt ms i) bs es ls cs) 50)) <| WL.nil <| ?_
     try simp only [pS]
     go_upto_region 7 with fail
     replace HRa : Hid _ := HRa.out.no (Kept.refl No _).drew
     refine wp_region_held_drew (S := fun w' => Hid (Fq No w w' [(g1, 24, Cg.cells c), (g3, 3, (i64L (zs ++ [-77])).toArray), (g5, 24, Cg.cells (lnC c g3)), (g8, 5, (u8L (bs ++ mk3 3)).toArray), (g9, 92, (enL (es ++ [enK])).toArray), (g10, 94, (laL (ls ++ [laK])).toArray), (g11, 39, (cmL (cs ++ [cmK])).toArray), (g13, 45, Mg.cells (lnM (gAt ms i) g8 g9 g10 g11))])) rfl (show Hid _ from HF.out.drew) (fun hH => ?_)
     replace HF : Hid (Fq No w w17.drew [(g1, 24, Cg.cells c), (g3, 3, (i64L (zs ++ [-77])).toArray), (g5, 24, Cg.cells (lnC c g3)), (g8, 5, (u8L (bs ++ mk3 3)).toArray), (g9, 92, (enL (es ++ [enK])).toArray), (g10, 94, (laL (ls ++ [laK])).toArray), (g11, 39, (cmL (cs ++ [cmK])).toArray), (g13, 45, Mg.cells (lnM (gAt ms i) g8 g9 g10 g11))]) := hH
     clear hH
     generalize w17.drew = w18 at HF HRa ⊢
     refine yK 0 32 HF (xm.v) <| yK 1 33 HF (.int .i64 ((i : Nat) : Int)) <| yT 2 34 HF (zI (s := xm) (i := i) hsl E25 F25 (by omega)) <| yT 3 35 HF (zL fun w HF => (load_M (fun j v h => HF.out.kept.cell (hc j v h) (fun e => e)))) <| yT 4 36 HF (zP (Cg.cs c) 0 0 U24 S24 (Cg.cs c) rfl) <| yE 5 37 (r_Encode (gAt ms i) c zs bs es ls cs _ (HCg.out.no HF.out.kept) (HI.out.no HF.out.kept)) HF fun s19 w20 HF hkk HRb hsb => ?_
     try simp only [pS]
     replace HRa : Hid _ := HRa.out.no hkk.out
     clear hkk
     refine yK 6 31 HF (.tuple #[s19.v, .int .i64 (jdg (cfgP c zs) (msgP c.bl c.rm c.bu zs (gAt ms i) bs es ls cs) 50)]) <| yK 7 38 HF (s19.v) <| yK 8 39 HF (.int .i64 (jdg (cfgP c zs) (msgP c.bl c.rm c.bu zs (gAt ms i) bs es ls cs) 50)) <| yK 9 10 HF (s19.v) <| yK 10 11 HF (.int .i64 (jdg (cfgP c zs) (msgP c.bl c.rm c.bu zs (gAt ms i) bs es ls cs) 50)) <| ?_
     try simp only [pS]
     refine wpAnyH_done (by kernel_rfl) ?_ _
     try simp only [pS]
     go_upto_region 8 with fail
     replace HRa : Hid _ := HRa.out.no (Kept.refl No _).drew
     replace HRb : Hid _ := HRb.out.no (Kept.refl No _).drew
     refine wp_region_held_drew (S := fun w' => Hid (Fq No w w' [(g1, 24, Cg.cells c), (g3, 3, (i64L (zs ++ [-77])).toArray), (g5, 24, Cg.cells (lnC c g3)), (g8, 5, (u8L (bs ++ mk3 3)).toArray), (g9, 92, (enL (es ++ [enK])).toArray), (g10, 94, (laL (ls ++ [laK])).toArray), (g11, 39, (cmL (cs ++ [cmK])).toArray), (g13, 45, Mg.cells (lnM (gAt ms i) g8 g9 g10 g11))])) rfl (show Hid _ from HF.out.drew) (fun hH => ?_)
     replace HF : Hid (Fq No w w20.drew [(g1, 24, Cg.cells c), (g3, 3, (i64L (zs ++ [-77])).toArray), (g5, 24, Cg.cells (lnC c g3)), (g8, 5, (u8L (bs ++ mk3 3)).toArray), (g9, 92, (enL (es ++ [enK])).toArray), (g10, 94, (laL (ls ++ [laK])).toArray), (g11, 39, (cmL (cs ++ [cmK])).toArray), (g13, 45, Mg.cells (lnM (gAt ms i) g8 g9 g10 g11))]) := hH
     clear hH
     generalize w20.drew = w21 at HF HRa HRb ⊢
     refine yK 0 40 HF (.int .i64 (jdg (cfgP c zs) (msgP c.bl c.rm c.bu zs (gAt ms i) bs es ls cs) 50)) <| yK 1 41 HF (.int .i64 (jdg (cfgP c zs) (msgP c.bl c.rm c.bu zs (gAt ms i) bs es ls cs) 50)) <| yT 2 42 HF (zN (nI1 (beq_self_eq_true ((jdg (cfgP c zs) (msgP c.bl c.rm c.bu zs (gAt ms i) bs es ls cs) 50))))) <| yK 3 43 HF (.bool false) <| yK 4 44 HF (s16.v) <| yK 5 45 HF (s19.v) <| yC 6 46 (sameB s16 s19 (encR (cfgP c zs && msgP c.bl c.rm c.bu zs (gAt ms i) bs es ls cs) (msgIts (gAt ms i) bs es ls cs)) _ HRa.out HRb.out (by omega)) rfl HF fun w22 HF => yK 7 47 HF (.bool false) <| ?_
     try simp only [pS]
     refine yK 8 48 HF (.bool false) <| yK 9 49 HF (.bool false) <| yT 10 50 HF (zP (Mg.cs (lnM (gAt ms i) g8 g9 g10 g11)) 7 0 U45 S45 (Mg.cs (lnM (gAt ms i) g8 g9 g10 g11)) rfl) <| yK 11 51 HF (xm.v) <| yK 12 52 HF (.int .i64 ((i : Nat) : Int)) <| yT 13 53 HF (zI (s := xm) (i := i) hsl E25 F25 (by omega)) <| yT 14 54 HF (zL fun w HF => (load_M (fun j v h => HF.out.kept.cell (hc j v h) (fun e => e)))) <| yC 15 55 (keptM (gAt ms i) g8 g9 g10 g11 bs es ls cs _ (HI.out.b.no HF.out.kept) (HI.out.e.no HF.out.kept) (HI.out.l.no HF.out.kept) (HI.out.c.no HF.out.kept) (HF.out.box 3 _ _ _ rfl) (HF.out.box 4 _ _ _ rfl) (HF.out.box 5 _ _ _ rfl) (HF.out.box 6 _ _ _ rfl) HI.out.nb HI.out.ne HI.out.nl HI.out.nc) rfl HF fun w23 HF => ?_
     try simp only [pS]
     refine yK 16 56 HF (.bool false) <| yK 17 57 HF (.bool false) <| ?_
     try simp only [pS]
     refine wpAnyH_done (by kernel_rfl) ?_ _
     try simp only [pS]
     go_upto_region 4 with fail
     refine WL.start <| tK (.int .i64 ((i : Nat) : Int)) <| bN (v := .int .i64 (((i + 1) : Nat) : Int)) (b_addw ((i : Nat) : Int) 1 (((i + 1) : Nat) : Int) (by rw [IntKind.wrap_i64]; omega)) <| tK (.int .i64 (((i + 1) : Nat) : Int)) <| WL.nil <| ?_
     try simp only [pS]
     go_wp2
     go_roundw
     case rel => exact ⟨i + 1, by go_num, by omega, Fq.front (l := [(g1, 24, Cg.cells c), (g3, 3, (i64L (zs ++ [-77])).toArray), (g5, 24, Cg.cells (lnC c g3))]) (m := [(g8, 5, (u8L (bs ++ mk3 3)).toArray), (g9, 92, (enL (es ++ [enK])).toArray), (g10, 94, (laL (ls ++ [laK])).toArray), (g11, 39, (cmL (cs ++ [cmK])).toArray), (g13, 45, Mg.cells (lnM (gAt ms i) g8 g9 g10 g11))]) HF⟩
     case measure => simp [intOf]; omega
    ·skip
     go_upto_region 3 with fail
     refine WL.start <| tK (.int .i64 ((i : Nat) : Int)) <| tK (xm.v) <| tK (.int .i64 ((xm.l : Nat) : Int)) <| bN (lI (a := ((i : Nat) : Int)) (b := ((xm.l : Nat) : Int)) (decide_eq_false (by omega))) <| WL.nil <| ?_
     try simp only [pS]
     go_upto_region 10 with fail
     refine WL.start <| lP (Cg.cs (lnC c g3)) HF 2 0 U24 S24 (Cg.cs (lnC c g3)) rfl <| lP (Cg.cs c) HF 0 0 U24 S24 (Cg.cs c) rfl <| cB (keptC c g3 zs _ (HCg.out.r.no HF.out.kept) (HF.out.box 1 _ _ _ rfl) HCg.out.n) rfl HF fun w24 HF => tK (.bool true) <| cB (callw (Wi.known_any _)) rfl HF fun w25 HF => tK (.bool true) <| tK (.bool true) <| WL.nil <| ?_
     try simp only [pS]
     go_wp2
     rw [HC.out]
     exact ⟨ret_bool (rfl), HF.out.kept⟩
end Go.Proofs.YtgdnofacgfjaeaaGreat.Md
