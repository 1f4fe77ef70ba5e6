import Derived.Test.YtpabpeppgpeaoaaG
namespace Go.Proofs.Ytpabpeppgpeaoaa
open Go.RowKit Gt
set_option linter.unusedVariables false
set_option linter.unusedSimpArgs false
theorem mem_getD {zs : List Int} {v : Int} : v ∈ zs ↔ ∃ m, m < zs.length ∧ zs[m]?.getD 0 = v := by
  constructor
  · intro h
    obtain ⟨m, hm⟩ := List.mem_iff_getElem?.1 h
    exact ⟨m, (List.getElem?_eq_some_iff.1 hm).1, by rw [hm]; rfl⟩
  · rintro ⟨m, hm, e⟩
    rw [List.getElem?_eq_getElem hm] at e
    have e' : zs[m] = v := e
    rw [← e']; exact List.getElem_mem hm
def hasB (zs : List Int) (v : Int) : Bool := decide (v ∈ zs)
def IxP (zs : List Int) (v : Int) (e : Ending) : Prop := ∃ r : Int, e = .returned (.int .i64 r) ∧ (0 ≤ r ↔ v ∈ zs)
theorem ixp_no {zs : List Int} {v : Int} (h : ∀ m, m < zs.length → zs[m]?.getD 0 ≠ v) : IxP zs v (.returned (.int .i64 (-1))) :=
  ⟨-1, rfl, ⟨fun e => by omega, fun e => by obtain ⟨m, hm, e'⟩ := mem_getD.1 e; exact absurd e' (h m hm)⟩⟩
theorem ixp_yes {zs : List Int} {v : Int} {k : Nat} (hk : k < zs.length) (h : zs[k]?.getD 0 = v) : IxP zs v (.returned (.int .i64 (k : Int))) :=
  ⟨(k : Int), rfl, ⟨fun _ => mem_getD.2 ⟨k, hk, h⟩, fun _ => by omega⟩⟩
set_option maxHeartbeats 400000 in
theorem index_any (a : Option Addr) (cap : Nat) (zs : List Int) (v : Int) (w : World) (hm : zs.length ≤ 17592186043904) (hb : Nums .i64 w a zs) :
    Calls Try.prog 89 #[.slice a zs.length cap, .int .i64 v] w fun e w' => IxP zs v e ∧ w' = w := by
  have HB : Hid (Nums .i64 w a zs) := hb
  clear hb
  go_enter Try.func89, Try.ntmps89
  go_wp2
  go_loopw [8] (fun i wr => ∃ k : Nat, k ≤ zs.length ∧ i = .int .i64 (k : Int) ∧ Hid (∀ m, m < k → zs[m]?.getD 0 ≠ v) ∧ wr = w) (fun i _ => zs.length - (intOf i).toNat)
  case atStart => exact ⟨0, Nat.zero_le _, rfl, fun j hj => absurd hj (Nat.not_lt_zero _), rfl⟩
  case round =>
    obtain ⟨k, hk, rfl, HE, rfl⟩ := hrel
    by_cases hlt : k < zs.length
    · obtain ⟨b, off, rfl, hc⟩ := HB.out k hlt
      obtain ⟨z, hz⟩ : ∃ z, zs[k]?.getD 0 = z := ⟨_, rfl⟩
      rw [hz] at hc
      have HZ : Hid (zs[k]?.getD 0 = z) := hz
      clear hz
      by_cases hv : v = z
      · subst hv
        go_wp2
        go_ret
        exact ⟨ixp_yes hlt HZ.out, rfl⟩
      · have hv' : (v == z) = false := by simpa using hv
        have HE2 : Hid (∀ m, m < k + 1 → zs[m]?.getD 0 ≠ v) := fun m hm e => by
          by_cases em : m = k
          · subst em; rw [HZ.out] at e; exact hv e.symm
          · exact HE.out m (by omega) e
        clear HE hv
        go_wp2
        go_roundw
        case rel => exact ⟨k + 1, by omega, by go_num, HE2, trivial⟩
        case measure => simp [intOf]; omega
    · obtain rfl : k = zs.length := by omega
      go_wp2
      go_ret
      exact ⟨ixp_no HE.out, rfl⟩
theorem contains_any (a : Option Addr) (cap : Nat) (zs : List Int) (v : Int) (w : World) (hm : zs.length ≤ 17592186043904) (hb : Nums .i64 w a zs) :
    Calls Try.prog 78 #[.slice a zs.length cap, .int .i64 v] w fun e w' => e = .returned (.bool (hasB zs v)) ∧ w' = w := by
  have HB : Hid (Nums .i64 w a zs) := hb
  clear hb
  go_enter Try.func78, Try.ntmps78
  go_wp2_with fail
  refine (index_any a cap zs v w hm HB.out).mono ?_
  rintro e w1 ⟨⟨r, rfl, hr⟩, rfl⟩
  have HR : Hid (0 ≤ r ↔ v ∈ zs) := hr
  clear hr
  go_wp2
  go_ret
  refine ⟨ret_bool ?_, rfl⟩
  unfold hasB
  rw [Bool.eq_iff_iff]
  simpa using HR.out

/-- A question's cells. -/
theorem q30 {w : World} {q : Nat} {m : Ms} {h : Nat} {rf : Bool} (hb : Box w q 111 (qcs m h rf).toArray) : w.cell? ⟨q, 30, none⟩ = some (.pointer (some ⟨h, 0, none⟩)) ∧ w.cell? ⟨q, 31, none⟩ = some (.bool rf) := ⟨hb.cell 30, hb.cell 31⟩
def hearS (x : TS Unit) (s : Int) : TS Unit := if s ∈ missL x then takeS x s () else x
def HearOut (w : World) (h b cap : Nat) (a : Option Addr) (x : TS Unit) (s : Int) (e : Ending) (w' : World) : Prop :=
  e = .returned (.bool (decide (s ∈ missL x))) ∧ Tal 132 U.ans w' h b a cap (hearS x s) ∧ Kept (Tb2 h b) w w'
set_option maxRecDepth 100000 in
set_option maxHeartbeats 2000000 in
theorem hear_any (q h b cap : Nat) (a : Option Addr) (m : Ms) (rf : Bool) (x : TS Unit) (s : Int) (w : World) (hq : Box w q 111 (qcs m h rf).toArray) (hT : Tal 132 U.ans w h b a cap x) :
    Calls Try.prog 57 #[.pointer (some ⟨q, 0, none⟩), .int .i64 s] w (HearOut w h b cap a x s) := by
  have HT : Hid (Tal 132 U.ans w h b a cap x) := hT
  have HQ : Hid (∀ W, Kept No w W → W.cell? ⟨q, 30, none⟩ = some (.pointer (some ⟨h, 0, none⟩))) := fun W hk => (q30 (hq.kept hk (fun e => e))).1
  have c30 := (q30 hq).1
  have hml : (missL x).length ≤ 17592186043904 := Nat.le_trans (List.length_filter_le _ _) hT.len
  refine hideC fun C HC => ?_
  clear hq hT
  cases hs : decide (s ∈ missL x) with
  | false =>
    have HS : Hid (decide (s ∈ missL x) = false) := hs
    clear hs
    go_enter Try.func57, Try.ntmps57
    go_wp2_with (first
      | (go_at_call 34
         refine Calls.mono (U.missing_any h b cap a x w HT.out) ?_
         rintro e w1 ⟨a1, c1, rfl, ho, hk⟩
         have HK1 : Hid (Kept No w w1) := hk
         have HN1 : Hid (Nums .i64 w1 a1 (missL x)) := ho.nums rfl
         clear ho hk)
      | (go_at_call 78
         refine Calls.mono (contains_any a1 c1 (missL x) s w1 hml HN1.out) ?_
         rintro e w2 ⟨rfl, rfl⟩
         unfold hasB
         rw [HS.out]))
    rw [HC.out]
    exact ⟨by rw [HS.out]; rfl, by unfold hearS; rw [if_neg (of_decide_eq_false HS.out)]; exact HT.out.no HK1.out, HK1.out.of_no⟩
  | true =>
    have HS : Hid (decide (s ∈ missL x) = true) := hs
    clear hs
    go_enter Try.func57, Try.ntmps57
    go_wp2_with (first
      | (go_at_call 34
         refine Calls.mono (U.missing_any h b cap a x w HT.out) ?_
         rintro e w1 ⟨a1, c1, rfl, ho, hk⟩
         have HK1 : Hid (Kept No w w1) := hk
         have HN1 : Hid (Nums .i64 w1 a1 (missL x)) := ho.nums rfl
         have d30 := HQ.out w1 hk
         clear ho hk)
      | (go_at_call 78
         refine Calls.mono (contains_any a1 c1 (missL x) s w1 hml HN1.out) ?_
         rintro e w2 ⟨rfl, rfl⟩
         unfold hasB
         rw [HS.out])
      | (go_at_call 79
         refine Calls.mono (U.take_any h b cap a x s () _ (HT.out.no HK1.out)) ?_
         rintro e w3 ⟨rfl, hT3, hk3⟩
         have HT3 : Hid (Tal 132 U.ans w3 h b a cap (takeS x s ())) := hT3
         have HK3 : Hid (Kept (Tb2 h b) w w3) := (HK1.out.of_no : Kept (Tb2 h b) w _).then hk3
         clear hT3 hk3))
    rw [HC.out]
    exact ⟨by rw [HS.out]; rfl, by unfold hearS; rw [if_pos (of_decide_eq_true HS.out)]; exact HT3.out, HK3.out⟩

set_option maxRecDepth 100000 in
theorem asked0_any (p : Nat) (v : Pv) (w : World) (h : Box w p 94 v.cells) (hp : v.ph = .nilIface) : Calls Try.prog 50 #[.pointer (some ⟨p, 0, none⟩)] w (fun e w' => e = .returned (.pointer none) ∧ w' = w) := by
  obtain ⟨c7, c17, c19, c20, c21⟩ := Pv.cel h
  rw [hp] at c21
  clear h hp c7 c17 c19 c20
  go_enter Try.func50, Try.ntmps50
  go_wp2
  go_ret
  exact ⟨rfl, rfl⟩
theorem self_any (q : Nat) (w : World) : Calls Try.prog 114 #[.pointer (some ⟨q, 0, none⟩)] w (fun e w' => e = .returned (.pointer (some ⟨q, 0, none⟩)) ∧ w' = w) := by
  go_enter Try.func114, Try.ntmps114
  go_wp2
  go_ret
  exact ⟨rfl, rfl⟩
set_option maxRecDepth 100000 in
theorem askedP_any (p q t : Nat) (v : Pv) (w : World) (h : Box w p 94 v.cells) (hp : v.ph = phPre q t) : Calls Try.prog 50 #[.pointer (some ⟨p, 0, none⟩)] w (fun e w' => e = .returned (.pointer (some ⟨q, 0, none⟩)) ∧ w' = w) := by
  obtain ⟨c7, c17, c19, c20, c21⟩ := Pv.cel h
  rw [hp] at c21
  unfold phPre at c21
  have hm : ∀ W : World, (method 303 155 (.agg #[.pointer (some ⟨q, 0, none⟩), .pointer (some ⟨t, 0, none⟩)]) "cairn/proposer.asked").run Try.prog W = .ok (114, .pointer (some ⟨q, 0, none⟩)) W := fun W => by kernel_rfl
  clear h hp c7 c17 c19 c20
  go_enter Try.func50, Try.ntmps50
  go_wp2_with (go_at_call 114
               refine Calls.mono (self_any q _) ?_
               rintro e w1 ⟨rfl, rfl⟩)
  go_ret
  exact ⟨rfl, rfl⟩

set_option maxRecDepth 100000 in
theorem askedA_any (p q t : Nat) (v : Pv) (w : World) (h : Box w p 94 v.cells) (hp : v.ph = phAcc q t) : Calls Try.prog 50 #[.pointer (some ⟨p, 0, none⟩)] w (fun e w' => e = .returned (.pointer (some ⟨q, 0, none⟩)) ∧ w' = w) := by
  obtain ⟨c7, c17, c19, c20, c21⟩ := Pv.cel h
  rw [hp] at c21
  unfold phAcc at c21
  have hm : ∀ W : World, (method 303 162 (.agg #[.pointer (some ⟨q, 0, none⟩), .pointer (some ⟨t, 0, none⟩)]) "cairn/proposer.asked").run Try.prog W = .ok (114, .pointer (some ⟨q, 0, none⟩)) W := fun W => by kernel_rfl
  clear h hp c7 c17 c19 c20
  go_enter Try.func50, Try.ntmps50
  go_wp2_with (go_at_call 114
               refine Calls.mono (self_any q _) ?_
               rintro e w1 ⟨rfl, rfl⟩)
  go_ret
  exact ⟨rfl, rfl⟩
theorem end_any (w : World) : Calls Try.prog 115 #[.agg #[]] w (fun e w' => e = .returned (.pointer none) ∧ Kept No w w') := by
  go_enter Try.func115, Try.ntmps115
  go_wp2
  go_ret
  exact ⟨rfl, by repeat (first | exact Kept.refl _ _ | apply Kept.alloc)⟩
/-- At an end nobody is asked. -/
theorem askedE_any (p : Nat) (T : TypeId) (x : Value) (v : Pv) (w : World) (h : Box w p 94 v.cells) (hp : v.ph = .iface T x) (hm : ∀ W : World, (method 303 T x "cairn/proposer.asked").run Try.prog W = .ok (115, .agg #[]) W) : Calls Try.prog 50 #[.pointer (some ⟨p, 0, none⟩)] w (fun e w' => e = .returned (.pointer none) ∧ Kept No w w') := by
  obtain ⟨c7, c17, c19, c20, c21⟩ := Pv.cel h
  rw [hp] at c21
  clear h hp c7 c17 c19 c20
  go_enter Try.func50, Try.ntmps50
  go_wp2_with (go_at_call 115
               refine Calls.mono (end_any _) ?_
               rintro e w1 ⟨rfl, hk⟩
               have HK : Hid _ := hk
               clear hk)
  go_ret
  exact ⟨rfl, HK.out⟩
theorem meth_dec (c : Cm) (W : World) : (method 303 118 (.agg c.cells) "cairn/proposer.asked").run Try.prog W = .ok (115, .agg #[]) W := by kernel_rfl
theorem meth_tri (u : Int) (e l : Sl) (W : World) : (method 303 120 (.agg #[.int .i64 u, e.v, l.v]) "cairn/proposer.asked").run Try.prog W = .ok (115, .agg #[]) W := by kernel_rfl
theorem meth_worn (W : World) : (method 303 140 (.agg #[]) "cairn/proposer.asked").run Try.prog W = .ok (115, .agg #[]) W := by kernel_rfl

theorem load_24 {w : World} {ad : Addr} {v : Value} (hc : w.cell? ad = some v) : (loadVar 24 ad).run Try.prog w = .ok v w := load_one hc Try.und24 rfl
/-- A question, asked of a group. -/
def QOut (w : World) (zs : List Int) (m : Ms) (e : Ending) (w' : World) : Prop :=
  ∃ q h b a cap, e = .returned (.pointer (some ⟨q, 0, none⟩)) ∧ Box w' q 111 (qcs m h false).toArray ∧ Tal 132 U.ans w' h b a cap (tNew Unit zs (zs.length : Int)) ∧ w.heap.size ≤ q ∧ w.heap.size ≤ h ∧ w.heap.size ≤ b ∧ (∀ k, At a k → w.heap.size ≤ k) ∧ Kept No w w'
set_option maxRecDepth 100000 in
set_option maxHeartbeats 4000000 in
theorem question_any (p : Nat) (v : Pv) (m : Ms) (zs : List Int) (w : World) (h : Box w p 94 v.cells) (hz : zs.length = v.ga.l) (hn : v.ga.l ≤ 17592186043904) (hg : Nums .i64 w v.ga.a zs) : Calls Try.prog 73 #[.pointer (some ⟨p, 0, none⟩), .agg m.cells] w (QOut w zs m) := by
  refine hideC fun C HC => ?_
  have HPW : Hid (Box w p 94 v.cells) := h
  have HZ : Hid (zs.length = v.ga.l) := hz
  have HG : Hid (Nums .i64 w v.ga.a zs) := hg
  have hpl := h.lt
  clear h hz hg
  go_enter Try.func73, Try.ntmps73
  go_upto_region 0 with fail
  refine WL.start ?_
  refine uR (pV w.heap.size 0) (w.alloc (.cells m.cells 47)) (exec_box 47 _ rfl m.cells (by kernel_rfl)) ?_
  try simp only [pS]
  refine uK (.pointer none) <| WL.nil <| ?_
  try simp only [pS]
  obtain ⟨wk0, hw0⟩ : ∃ wk0, wk0 = w.alloc (.cells m.cells 47) := ⟨_, rfl⟩
  rw [← hw0]
  have HK : Hid (Kept No w wk0) := by rw [hw0]; exact (Kept.refl No w).alloc _
  have HP : Hid (Box wk0 (p) 94 (v.cells)) := by rw [hw0]; exact HPW.out.alloc _
  have H3 : Hid (Box wk0 (w.heap.size) 47 (m.cells)) := by rw [hw0]; exact Box.new _ _ _
  have HLT : Hid (w.heap.size < wk0.heap.size) := H3.out.lt
  obtain ⟨B3, hB3⟩ : ∃ B3, B3 = w.heap.size := ⟨_, rfl⟩
  rw [← hB3] at H3 HLT ⊢
  have HO : Hid (w.heap.size ≤ B3 ∧ p < w.heap.size) := ⟨by omega, hpl⟩
  clear hw0 hB3 hpl HPW
  go_upto_region 1 with fail
  refine wp_region_held_drew (S := fun w' => Box w' (p) 94 (v.cells) ∧ Box w' (B3) 47 (m.cells)) rfl ⟨HP.out, H3.out⟩ (fun hH => ?_)
  have HP : Hid (Box wk0.drew (p) 94 (v.cells)) := HP.out
  have H3 : Hid (Box wk0.drew (B3) 47 (m.cells)) := H3.out
  have HK : Hid (Kept No w wk0.drew) := HK.out.drew
  have HLT : Hid (B3 < wk0.drew.heap.size) := HLT.out
  generalize wk0.drew = wk1 at HP H3 HK HLT hH ⊢
  refine xL 0 5 47 ⟨B3, 0, none⟩ (.agg (m.cells)) (fun _ hw => load_Ms hw.2) hH <| xV 1 6 (pV p 0) hH <| xV 2 7 (pV p 0) hH <| xV 3 8 (pV p 7) hH <| xL 4 9 24 ⟨p, 7, none⟩ (.slice v.ga.a v.ga.l v.ga.k) (fun _ hw => load_24 (hw.1.cell 7)) hH <| xV 5 10 (pV p 0) hH <| ?_
  try simp only [pS]
  refine xV 6 11 (pV p 0) hH <| xV 7 12 (pV p 7) hH <| xL 8 13 24 ⟨p, 7, none⟩ (.slice v.ga.a v.ga.l v.ga.k) (fun _ hw => load_24 (hw.1.cell 7)) hH <| xV 9 14 (.int .i64 (v.ga.l : Int)) hH <| ?_
  try simp only [pS]
  have HKc : Hid (Kept No w wk1) := HK.out
  refine xC 10 15 33 #[.slice v.ga.a v.ga.l v.ga.k, .int .i64 (v.ga.l : Int)] (U.new_any v.ga.a v.ga.l v.ga.k zs (v.ga.l : Int) wk1 HZ.out hn (HG.out.no HK.out)) ?_
  rintro e wn ⟨ha, hc, rfl, hT, hF, hk⟩
  have HT : Hid (Tal 132 U.ans wn (wk1.heap.size + 1) wk1.heap.size ha hc (tNew Unit zs (v.ga.l : Int))) := hT
  have HF : Hid (∀ k, At ha k → wk1.heap.size ≤ k) := hF
  have HSZ : Hid (w.heap.size ≤ wk1.heap.size) := HK.out.size
  have HP : Hid (Box wn (p) 94 (v.cells)) := HP.out.kept hk (fun e => e)
  have H3 : Hid (Box wn (B3) 47 (m.cells)) := H3.out.kept hk (fun e => e)
  have HK : Hid (Kept No w wn) := HK.out.then hk
  refine ⟨.pointer (some ⟨wk1.heap.size + 1, 0, none⟩), rfl, ⟨HP.out, H3.out⟩, fun hH => ?_⟩
  try simp only [pS]
  clear hT hF hk HLT
  generalize wk1.heap.size = Bh at HT HF HSZ ⊢
  clear HKc
  refine xU 11 16 (.agg (qcs m (Bh + 1) false).toArray) (fun w' hw => exec_build 111 _ rfl ((qcs m (Bh + 1) false).toArray) (by kernel_rfl)) hH ?_
  try simp only [pS]
  refine xP 12 17 (pV wn.heap.size 0) (w' := wn.alloc (.cells (qcs m (Bh + 1) false).toArray 111)) (exec_box 111 _ rfl _ (by kernel_rfl)) ⟨HP.out.alloc _, H3.out.alloc _⟩ (fun hH => ?_)
  try simp only [pS]
  refine xV 13 4 (pV wn.heap.size 0) hH ?_
  try simp only [pS]
  refine wpAnyH_done (by kernel_rfl) ?_ _
  try simp only [pS]
  clear hH
  go_wp2
  rw [HC.out]
  have ez : (zs.length : Int) = (v.ga.l : Int) := by rw [HZ.out]
  refine ⟨wn.heap.size, Bh + 1, Bh, ha, hc, rfl, Box.new _ _ _, ?_, HK.out.size, by have := HSZ.out; omega, HSZ.out, fun k e => Nat.le_trans HSZ.out (HF.out k e), HK.out.alloc _⟩
  rw [ez]
  exact HT.out.no ((Kept.refl No wn).alloc _)

end Go.Proofs.Ytpabpeppgpeaoaa
