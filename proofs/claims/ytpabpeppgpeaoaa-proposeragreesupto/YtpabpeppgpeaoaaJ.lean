import Derived.Test.YtpabpeppgpeaoaaG
namespace Go.Proofs.Ytpabpeppgpeaoaa
open Go.RowKit Gt
set_option linter.unusedVariables false
set_option linter.unusedSimpArgs false

theorem mem_getD {zs : List Int} {v : Int} : v ∈ zs ↔ ∃ m, m < zs.length ∧ zs[m]?.getD 0 = v := by
  constructor
  · intro h
    obtain ⟨m, hm⟩ := List.mem_iff_getElem?.1 h
    exact ⟨m, (List.getElem?_eq_some_iff.1 hm).1, by rw [hm]; rfl⟩
  · rintro ⟨m, hm, e⟩
    rw [List.getElem?_eq_getElem hm] at e
    have e' : zs[m] = v := e
    rw [← e']; exact List.getElem_mem hm
def hasB (zs : List Int) (v : Int) : Bool := decide (v ∈ zs)
def IxP (zs : List Int) (v : Int) (e : Ending) : Prop := ∃ r : Int, e = .returned (.int .i64 r) ∧ (0 ≤ r ↔ v ∈ zs)
theorem ixp_no {zs : List Int} {v : Int} (h : ∀ m, m < zs.length → zs[m]?.getD 0 ≠ v) : IxP zs v (.returned (.int .i64 (-1))) :=
  ⟨-1, rfl, ⟨fun e => by omega, fun e => by obtain ⟨m, hm, e'⟩ := mem_getD.1 e; exact absurd e' (h m hm)⟩⟩
theorem ixp_yes {zs : List Int} {v : Int} {k : Nat} (hk : k < zs.length) (h : zs[k]?.getD 0 = v) : IxP zs v (.returned (.int .i64 (k : Int))) :=
  ⟨(k : Int), rfl, ⟨fun _ => mem_getD.2 ⟨k, hk, h⟩, fun _ => by omega⟩⟩
set_option maxHeartbeats 400000 in
theorem index_any (a : Option Addr) (cap : Nat) (zs : List Int) (v : Int) (w : World) (hm : zs.length ≤ 17592186043904) (hb : Nums .i64 w a zs) :
    Calls Try.prog 89 #[.slice a zs.length cap, .int .i64 v] w fun e w' => IxP zs v e ∧ w' = w := by
  have HB : Hid (Nums .i64 w a zs) := hb
  clear hb
  go_enter Try.func89, Try.ntmps89
  go_wp2
  go_loopw [8] (fun i wr => ∃ k : Nat, k ≤ zs.length ∧ i = .int .i64 (k : Int) ∧ Hid (∀ m, m < k → zs[m]?.getD 0 ≠ v) ∧ wr = w) (fun i _ => zs.length - (intOf i).toNat)
  case atStart => exact ⟨0, Nat.zero_le _, rfl, fun j hj => absurd hj (Nat.not_lt_zero _), rfl⟩
  case round =>
    obtain ⟨k, hk, rfl, HE, rfl⟩ := hrel
    by_cases hlt : k < zs.length
    · obtain ⟨b, off, rfl, hc⟩ := HB.out k hlt
      obtain ⟨z, hz⟩ : ∃ z, zs[k]?.getD 0 = z := ⟨_, rfl⟩
      rw [hz] at hc
      have HZ : Hid (zs[k]?.getD 0 = z) := hz
      clear hz
      by_cases hv : v = z
      · subst hv
        go_wp2
        go_ret
        exact ⟨ixp_yes hlt HZ.out, rfl⟩
      · have hv' : (v == z) = false := by simpa using hv
        have HE2 : Hid (∀ m, m < k + 1 → zs[m]?.getD 0 ≠ v) := fun m hm e => by
          by_cases em : m = k
          · subst em; rw [HZ.out] at e; exact hv e.symm
          · exact HE.out m (by omega) e
        clear HE hv
        go_wp2
        go_roundw
        case rel => exact ⟨k + 1, by omega, by go_num, HE2, trivial⟩
        case measure => simp [intOf]; omega
    · obtain rfl : k = zs.length := by omega
      go_wp2
      go_ret
      exact ⟨ixp_no HE.out, rfl⟩
theorem contains_any (a : Option Addr) (cap : Nat) (zs : List Int) (v : Int) (w : World) (hm : zs.length ≤ 17592186043904) (hb : Nums .i64 w a zs) :
    Calls Try.prog 78 #[.slice a zs.length cap, .int .i64 v] w fun e w' => e = .returned (.bool (hasB zs v)) ∧ w' = w := by
  have HB : Hid (Nums .i64 w a zs) := hb
  clear hb
  go_enter Try.func78, Try.ntmps78
  go_wp2_with fail
  refine (index_any a cap zs v w hm HB.out).mono ?_
  rintro e w1 ⟨⟨r, rfl, hr⟩, rfl⟩
  have HR : Hid (0 ≤ r ↔ v ∈ zs) := hr
  clear hr
  go_wp2
  go_ret
  refine ⟨ret_bool ?_, rfl⟩
  unfold hasB
  rw [Bool.eq_iff_iff]
  simpa using HR.out

/-- A question's cells. -/
theorem q30 {w : World} {q : Nat} {m : Ms} {h : Nat} {rf : Bool} (hb : Box w q 111 (qcs m h rf).toArray) : w.cell? ⟨q, 30, none⟩ = some (.pointer (some ⟨h, 0, none⟩)) ∧ w.cell? ⟨q, 31, none⟩ = some (.bool rf) := ⟨hb.cell 30, hb.cell 31⟩
def hearS (x : TS Unit) (s : Int) : TS Unit := if s ∈ missL x then takeS x s () else x
def HearOut (w : World) (h b cap : Nat) (a : Option Addr) (x : TS Unit) (s : Int) (e : Ending) (w' : World) : Prop :=
  e = .returned (.bool (decide (s ∈ missL x))) ∧ Tal 132 U.ans w' h b a cap (hearS x s) ∧ Kept (Tb2 h b) w w'
set_option maxRecDepth 100000 in
set_option maxHeartbeats 2000000 in
theorem hear_any (q h b cap : Nat) (a : Option Addr) (m : Ms) (rf : Bool) (x : TS Unit) (s : Int) (w : World) (hq : Box w q 111 (qcs m h rf).toArray) (hT : Tal 132 U.ans w h b a cap x) :
    Calls Try.prog 57 #[.pointer (some ⟨q, 0, none⟩), .int .i64 s] w (HearOut w h b cap a x s) := by
  have HT : Hid (Tal 132 U.ans w h b a cap x) := hT
  have HQ : Hid (∀ W, Kept No w W → W.cell? ⟨q, 30, none⟩ = some (.pointer (some ⟨h, 0, none⟩))) := fun W hk => (q30 (hq.kept hk (fun e => e))).1
  have c30 := (q30 hq).1
  have hml : (missL x).length ≤ 17592186043904 := Nat.le_trans (List.length_filter_le _ _) hT.len
  refine hideC fun C HC => ?_
  clear hq hT
  cases hs : decide (s ∈ missL x) with
  | false =>
    have HS : Hid (decide (s ∈ missL x) = false) := hs
    clear hs
    go_enter Try.func57, Try.ntmps57
    go_wp2_with (first
      | (go_at_call 34
         refine Calls.mono (U.missing_any h b cap a x w HT.out) ?_
         rintro e w1 ⟨a1, c1, rfl, ho, hk⟩
         have HK1 : Hid (Kept No w w1) := hk
         have HN1 : Hid (Nums .i64 w1 a1 (missL x)) := ho.nums rfl
         clear ho hk)
      | (go_at_call 78
         refine Calls.mono (contains_any a1 c1 (missL x) s w1 hml HN1.out) ?_
         rintro e w2 ⟨rfl, rfl⟩
         unfold hasB
         rw [HS.out]))
    rw [HC.out]
    exact ⟨by rw [HS.out]; rfl, by unfold hearS; rw [if_neg (of_decide_eq_false HS.out)]; exact HT.out.no HK1.out, HK1.out.of_no⟩
  | true =>
    have HS : Hid (decide (s ∈ missL x) = true) := hs
    clear hs
    go_enter Try.func57, Try.ntmps57
    go_wp2_with (first
      | (go_at_call 34
         refine Calls.mono (U.missing_any h b cap a x w HT.out) ?_
         rintro e w1 ⟨a1, c1, rfl, ho, hk⟩
         have HK1 : Hid (Kept No w w1) := hk
         have HN1 : Hid (Nums .i64 w1 a1 (missL x)) := ho.nums rfl
         have d30 := HQ.out w1 hk
         clear ho hk)
      | (go_at_call 78
         refine Calls.mono (contains_any a1 c1 (missL x) s w1 hml HN1.out) ?_
         rintro e w2 ⟨rfl, rfl⟩
         unfold hasB
         rw [HS.out])
      | (go_at_call 79
         refine Calls.mono (U.take_any h b cap a x s () _ (HT.out.no HK1.out)) ?_
         rintro e w3 ⟨rfl, hT3, hk3⟩
         have HT3 : Hid (Tal 132 U.ans w3 h b a cap (takeS x s ())) := hT3
         have HK3 : Hid (Kept (Tb2 h b) w w3) := (HK1.out.of_no : Kept (Tb2 h b) w _).then hk3
         clear hT3 hk3))
    rw [HC.out]
    exact ⟨by rw [HS.out]; rfl, by unfold hearS; rw [if_pos (of_decide_eq_true HS.out)]; exact HT3.out, HK3.out⟩

set_option maxRecDepth 100000 in
theorem asked0_any (p : Nat) (v : Pv) (w : World) (h : Box w p 94 v.cells) (hp : v.ph = .nilIface) : Calls Try.prog 50 #[.pointer (some ⟨p, 0, none⟩)] w (fun e w' => e = .returned (.pointer none) ∧ w' = w) := by
  obtain ⟨c7, c17, c19, c20, c21⟩ := Pv.cel h
  rw [hp] at c21
  clear h hp c7 c17 c19 c20
  go_enter Try.func50, Try.ntmps50
  go_wp2
  go_ret
  exact ⟨rfl, rfl⟩
theorem self_any (q : Nat) (w : World) : Calls Try.prog 114 #[.pointer (some ⟨q, 0, none⟩)] w (fun e w' => e = .returned (.pointer (some ⟨q, 0, none⟩)) ∧ w' = w) := by
  go_enter Try.func114, Try.ntmps114
  go_wp2
  go_ret
  exact ⟨rfl, rfl⟩
set_option maxRecDepth 100000 in
theorem askedP_any (p q t : Nat) (v : Pv) (w : World) (h : Box w p 94 v.cells) (hp : v.ph = phPre q t) : Calls Try.prog 50 #[.pointer (some ⟨p, 0, none⟩)] w (fun e w' => e = .returned (.pointer (some ⟨q, 0, none⟩)) ∧ w' = w) := by
  obtain ⟨c7, c17, c19, c20, c21⟩ := Pv.cel h
  rw [hp] at c21
  unfold phPre at c21
  have hm : ∀ W : World, (method 303 155 (.agg #[.pointer (some ⟨q, 0, none⟩), .pointer (some ⟨t, 0, none⟩)]) "cairn/proposer.asked").run Try.prog W = .ok (114, .pointer (some ⟨q, 0, none⟩)) W := fun W => by kernel_rfl
  clear h hp c7 c17 c19 c20
  go_enter Try.func50, Try.ntmps50
  go_wp2_with (go_at_call 114
               refine Calls.mono (self_any q _) ?_
               rintro e w1 ⟨rfl, rfl⟩)
  go_ret
  exact ⟨rfl, rfl⟩
end Go.Proofs.Ytpabpeppgpeaoaa
namespace Go.Proofs.Ytpabpeppgpeaoaa
open Go.RowKit Gt
set_option linter.unusedVariables false
set_option linter.unusedSimpArgs false

set_option maxRecDepth 100000 in
theorem askedA_any (p q t : Nat) (v : Pv) (w : World) (h : Box w p 94 v.cells) (hp : v.ph = phAcc q t) : Calls Try.prog 50 #[.pointer (some ⟨p, 0, none⟩)] w (fun e w' => e = .returned (.pointer (some ⟨q, 0, none⟩)) ∧ w' = w) := by
  obtain ⟨c7, c17, c19, c20, c21⟩ := Pv.cel h
  rw [hp] at c21
  unfold phAcc at c21
  have hm : ∀ W : World, (method 303 162 (.agg #[.pointer (some ⟨q, 0, none⟩), .pointer (some ⟨t, 0, none⟩)]) "cairn/proposer.asked").run Try.prog W = .ok (114, .pointer (some ⟨q, 0, none⟩)) W := fun W => by kernel_rfl
  clear h hp c7 c17 c19 c20
  go_enter Try.func50, Try.ntmps50
  go_wp2_with (go_at_call 114
               refine Calls.mono (self_any q _) ?_
               rintro e w1 ⟨rfl, rfl⟩)
  go_ret
  exact ⟨rfl, rfl⟩
theorem end_any (w : World) : Calls Try.prog 115 #[.agg #[]] w (fun e w' => e = .returned (.pointer none) ∧ Kept No w w') := by
  go_enter Try.func115, Try.ntmps115
  go_wp2
  go_ret
  exact ⟨rfl, by repeat (first | exact Kept.refl _ _ | apply Kept.alloc)⟩
/-- At an end nobody is asked. -/
theorem askedE_any (p : Nat) (T : TypeId) (x : Value) (v : Pv) (w : World) (h : Box w p 94 v.cells) (hp : v.ph = .iface T x) (hm : ∀ W : World, (method 303 T x "cairn/proposer.asked").run Try.prog W = .ok (115, .agg #[]) W) : Calls Try.prog 50 #[.pointer (some ⟨p, 0, none⟩)] w (fun e w' => e = .returned (.pointer none) ∧ Kept No w w') := by
  obtain ⟨c7, c17, c19, c20, c21⟩ := Pv.cel h
  rw [hp] at c21
  clear h hp c7 c17 c19 c20
  go_enter Try.func50, Try.ntmps50
  go_wp2_with (go_at_call 115
               refine Calls.mono (end_any _) ?_
               rintro e w1 ⟨rfl, hk⟩
               have HK : Hid _ := hk
               clear hk)
  go_ret
  exact ⟨rfl, HK.out⟩
theorem meth_dec (c : Cm) (W : World) : (method 303 118 (.agg c.cells) "cairn/proposer.asked").run Try.prog W = .ok (115, .agg #[]) W := by kernel_rfl
theorem meth_tri (u : Int) (e l : Sl) (W : World) : (method 303 120 (.agg #[.int .i64 u, e.v, l.v]) "cairn/proposer.asked").run Try.prog W = .ok (115, .agg #[]) W := by kernel_rfl
theorem meth_worn (W : World) : (method 303 140 (.agg #[]) "cairn/proposer.asked").run Try.prog W = .ok (115, .agg #[]) W := by kernel_rfl

theorem load_24 {w : World} {ad : Addr} {v : Value} (hc : w.cell? ad = some v) : (loadVar 24 ad).run Try.prog w = .ok v w := load_one hc Try.und24 rfl
/-- A question, asked of a group. -/
def QOut (w : World) (zs : List Int) (m : Ms) (e : Ending) (w' : World) : Prop :=
  ∃ q h b a cap, e = .returned (.pointer (some ⟨q, 0, none⟩)) ∧ Box w' q 111 (qcs m h false).toArray ∧ Tal 132 U.ans w' h b a cap (tNew Unit zs (zs.length : Int)) ∧ w.heap.size ≤ q ∧ w.heap.size ≤ h ∧ w.heap.size ≤ b ∧ (∀ k, At a k → w.heap.size ≤ k) ∧ Kept No w w'
set_option maxRecDepth 100000 in
set_option maxHeartbeats 4000000 in
theorem question_any (p : Nat) (v : Pv) (m : Ms) (zs : List Int) (w : World) (h : Box w p 94 v.cells) (hz : zs.length = v.ga.l) (hn : v.ga.l ≤ 17592186043904) (hg : Nums .i64 w v.ga.a zs) : Calls Try.prog 73 #[.pointer (some ⟨p, 0, none⟩), .agg m.cells] w (QOut w zs m) := by
  refine hideC fun C HC => ?_
  have HPW : Hid (Box w p 94 v.cells) := h
  have HZ : Hid (zs.length = v.ga.l) := hz
  have HG : Hid (Nums .i64 w v.ga.a zs) := hg
  have hpl := h.lt
  clear h hz hg
  go_enter Try.func73, Try.ntmps73
  go_upto_region 0 with fail
  refine WL.start ?_
  refine uR (pV w.heap.size 0) (w.alloc (.cells m.cells 47)) (exec_box 47 _ rfl m.cells (by kernel_rfl)) ?_
  try simp only [pS]
  refine uK (.pointer none) <| WL.nil <| ?_
  try simp only [pS]
  obtain ⟨wk0, hw0⟩ : ∃ wk0, wk0 = w.alloc (.cells m.cells 47) := ⟨_, rfl⟩
  rw [← hw0]
  have HK : Hid (Kept No w wk0) := by rw [hw0]; exact (Kept.refl No w).alloc _
  have HP : Hid (Box wk0 (p) 94 (v.cells)) := by rw [hw0]; exact HPW.out.alloc _
  have H3 : Hid (Box wk0 (w.heap.size) 47 (m.cells)) := by rw [hw0]; exact Box.new _ _ _
  have HLT : Hid (w.heap.size < wk0.heap.size) := H3.out.lt
  obtain ⟨B3, hB3⟩ : ∃ B3, B3 = w.heap.size := ⟨_, rfl⟩
  rw [← hB3] at H3 HLT ⊢
  have HO : Hid (w.heap.size ≤ B3 ∧ p < w.heap.size) := ⟨by omega, hpl⟩
  clear hw0 hB3 hpl HPW
  go_upto_region 1 with fail
  refine wp_region_held_drew (S := fun w' => Box w' (p) 94 (v.cells) ∧ Box w' (B3) 47 (m.cells)) rfl ⟨HP.out, H3.out⟩ (fun hH => ?_)
  have HP : Hid (Box wk0.drew (p) 94 (v.cells)) := HP.out
  have H3 : Hid (Box wk0.drew (B3) 47 (m.cells)) := H3.out
  have HK : Hid (Kept No w wk0.drew) := HK.out.drew
  have HLT : Hid (B3 < wk0.drew.heap.size) := HLT.out
  generalize wk0.drew = wk1 at HP H3 HK HLT hH ⊢
  refine xL 0 5 47 ⟨B3, 0, none⟩ (.agg (m.cells)) (fun _ hw => load_Ms hw.2) hH <| xV 1 6 (pV p 0) hH <| xV 2 7 (pV p 0) hH <| xV 3 8 (pV p 7) hH <| xL 4 9 24 ⟨p, 7, none⟩ (.slice v.ga.a v.ga.l v.ga.k) (fun _ hw => load_24 (hw.1.cell 7)) hH <| xV 5 10 (pV p 0) hH <| ?_
  try simp only [pS]
  refine xV 6 11 (pV p 0) hH <| xV 7 12 (pV p 7) hH <| xL 8 13 24 ⟨p, 7, none⟩ (.slice v.ga.a v.ga.l v.ga.k) (fun _ hw => load_24 (hw.1.cell 7)) hH <| xV 9 14 (.int .i64 (v.ga.l : Int)) hH <| ?_
  try simp only [pS]
  have HKc : Hid (Kept No w wk1) := HK.out
  refine xC 10 15 33 #[.slice v.ga.a v.ga.l v.ga.k, .int .i64 (v.ga.l : Int)] (U.new_any v.ga.a v.ga.l v.ga.k zs (v.ga.l : Int) wk1 HZ.out hn (HG.out.no HK.out)) ?_
  rintro e wn ⟨ha, hc, rfl, hT, hF, hk⟩
  have HT : Hid (Tal 132 U.ans wn (wk1.heap.size + 1) wk1.heap.size ha hc (tNew Unit zs (v.ga.l : Int))) := hT
  have HF : Hid (∀ k, At ha k → wk1.heap.size ≤ k) := hF
  have HSZ : Hid (w.heap.size ≤ wk1.heap.size) := HK.out.size
  have HP : Hid (Box wn (p) 94 (v.cells)) := HP.out.kept hk (fun e => e)
  have H3 : Hid (Box wn (B3) 47 (m.cells)) := H3.out.kept hk (fun e => e)
  have HK : Hid (Kept No w wn) := HK.out.then hk
  refine ⟨.pointer (some ⟨wk1.heap.size + 1, 0, none⟩), rfl, ⟨HP.out, H3.out⟩, fun hH => ?_⟩
  try simp only [pS]
  clear hT hF hk HLT
  generalize wk1.heap.size = Bh at HT HF HSZ ⊢
  clear HKc
  refine xU 11 16 (.agg (qcs m (Bh + 1) false).toArray) (fun w' hw => exec_build 111 _ rfl ((qcs m (Bh + 1) false).toArray) (by kernel_rfl)) hH ?_
  try simp only [pS]
  refine xP 12 17 (pV wn.heap.size 0) (w' := wn.alloc (.cells (qcs m (Bh + 1) false).toArray 111)) (exec_box 111 _ rfl _ (by kernel_rfl)) ⟨HP.out.alloc _, H3.out.alloc _⟩ (fun hH => ?_)
  try simp only [pS]
  refine xV 13 4 (pV wn.heap.size 0) hH ?_
  try simp only [pS]
  refine wpAnyH_done (by kernel_rfl) ?_ _
  try simp only [pS]
  clear hH
  go_wp2
  rw [HC.out]
  have ez : (zs.length : Int) = (v.ga.l : Int) := by rw [HZ.out]
  refine ⟨wn.heap.size, Bh + 1, Bh, ha, hc, rfl, Box.new _ _ _, ?_, HK.out.size, by have := HSZ.out; omega, HSZ.out, fun k e => Nat.le_trans HSZ.out (HF.out k e), HK.out.alloc _⟩
  rw [ez]
  exact HT.out.no ((Kept.refl No wn).alloc _)

end Go.Proofs.Ytpabpeppgpeaoaa
namespace Go.Proofs.Ytpabpeppgpeaoaa
open Go.RowKit Gt
set_option linter.unusedVariables false
set_option linter.unusedSimpArgs false

theorem box_row {W : World} {b t e c n₀ n cap : Nat} {cs : Array Value} {a : Option Addr} {vs : List Value} (hb : Box W b t cs) (hte : t ≠ e) (ho : Own e c W n₀ a cap n vs) {k : Nat} (hk : At a k) : k ≠ b := by
  rintro rfl
  obtain ⟨ad, rfl, rfl⟩ := hk
  rcases ho.2 with ⟨e', _⟩ | ⟨g, cap', cur, e', _, hgb, _⟩
  · cases e'
  · cases e'
    unfold Box at hb
    rw [hb] at hgb
    simp at hgb
    exact hte hgb.2


theorem Try.size92 : (Try.prog.info? 92).map (·.size) = some 1 := by kernel_rfl
theorem store_ph {w : World} {p : Nat} {v : Pv} (h : Box w p 94 v.cells) (x : Value) (hx : x.cells = #[x]) (h1 : x.oneCell' = true) : (storeVar 92 ⟨p, 21, none⟩ x).run Try.prog w = .ok () (w.setRow p ({ v with ph := x } : Pv).cells) :=
  run_store_at (vs := [x]) h (by rw [hx]) Try.size92 (by rw [Pv.len]; exact Nat.le_of_ble_eq_true rfl) (by simpa using h1)
theorem Pv.partN (v : Pv) : Part v.cs 17 [.int .i64 v.n, .int .i64 v.cl] := fun j x h => by
  match j, h with
  | 0, h => exact h
  | 1, h => exact h
theorem load_pB {w : World} {p : Nat} {v : Pv} (h : Box w p 94 v.cells) : (loadVar 39 ⟨p, 17, none⟩).run Try.prog w = .ok (.agg #[.int .i64 v.n, .int .i64 v.cl]) w := run_load_part h v.partN Try.und39 rfl Try.size39
theorem load_Q {w : World} {q h : Nat} {m : Ms} {rf : Bool} (hb : Box w q 111 (qcs m h rf).toArray) : (loadVar 47 ⟨q, 0, none⟩).run Try.prog w = .ok (.agg m.cells) w :=
  run_load_part hb (fun j v e => by
    have hj := (List.getElem?_eq_some_iff.1 e).1
    rw [Nat.zero_add]
    unfold qcs
    rw [List.getElem?_append_left hj]
    exact e) Try.und47' rfl Try.size47
/-- A tally lies apart from a block of another type. -/
theorem tal_ne {α : Type} {f : Option α → Value} {T : TypeId} {W : World} {t b cap g ty : Nat} {a : Option Addr} {x : TS α} {cs : Array Value} (h : Tal T f W t b a cap x) (hb : Box W g ty cs) (hT : T ≠ ty) (h3 : ty ≠ 3) {k : Nat} (hk : TB t b a k) (e : k = g) : False := by
  subst e
  rcases hk with rfl | rfl | hk
  · exact box_ne h.box hb hT rfl
  · obtain ⟨es, c, hm, _⟩ := h.map
    unfold Box at hb
    rw [hm] at hb
    cases hb
  · exact box_row hb h3 h.row hk rfl
/-- The first phase's message. -/
def prepM (v : Pv) : Ms := v.msg { msZ with k := 3, st := ⟨v.n, v.cl⟩ }
def PrepOut (w : World) (p : Nat) (v : Pv) (zs : List Int) (e : Ending) (w' : World) : Prop :=
  ∃ (q h b : Nat) (a : Option Addr) (cap t tb : Nat) (ta : Option Addr) (tc : Nat) (la : Option Addr) (lc : Nat), e = .returned (.slice la zs.length lc) ∧ Own 47 30 w' w.heap.size la lc zs.length (msL (zs.map (prepM v).to)) ∧
    Box w' p 94 ({ v with ph := phPre q t } : Pv).cells ∧ Box w' q 111 (qcs (prepM v) h false).toArray ∧ Tal 132 U.ans w' h b a cap (tNew Unit zs (zs.length : Int)) ∧ Tal 170 V.ans w' t tb ta tc (tNew V.Vt zs (needN zs.length)) ∧ b ≠ tb ∧
    (w.heap.size ≤ q ∧ w.heap.size ≤ h ∧ w.heap.size ≤ b ∧ w.heap.size ≤ t ∧ w.heap.size ≤ tb) ∧ (∀ k, At a k → w.heap.size ≤ k) ∧ (∀ k, At ta k → w.heap.size ≤ k) ∧ Kept (Only p) w w'
theorem prepare_no (p : Nat) (v : Pv) (n r : Int) (w : World) (h : Box w p 94 v.cells) (ho : (okN n && okN r) = false) : Calls Try.prog 48 #[.pointer (some ⟨p, 0, none⟩), .int .i64 n, .int .i64 r] w (fun e w' => e = .returned (.slice none 0 0) ∧ Box w' p 94 ({ v with ph := phWorn } : Pv).cells ∧ Kept (Only p) w w') := by
  obtain ⟨C, hC⟩ : ∃ C, C = (fun (e : Ending) (w' : World) => e = .returned (.slice none 0 0) ∧ Box w' p 94 ({ v with ph := phWorn } : Pv).cells ∧ Kept (Only p) w w') := ⟨_, rfl⟩
  have HC : Hid (C = fun e w' => e = .returned (.slice none 0 0) ∧ Box w' p 94 ({ v with ph := phWorn } : Pv).cells ∧ Kept (Only p) w w') := hC
  rw [← hC]
  have HM : Hid (Calls Try.prog 72 #[.pointer (some ⟨p, 0, none⟩), .int .i64 n, .int .i64 r] w (MovOut w p v n r)) := moved_any p v n r w h
  have HN : Hid ((okN n && okN r) = false) := ho
  clear h hC ho
  go_enter Try.func48, Try.ntmps48
  go_wp2_with (go_at_call 72
               refine Calls.mono HM.out ?_
               rintro e w1 ⟨rfl, hb, hk⟩
               rw [movP_no HN.out] at hb
               have HB : Hid (Box w1 p 94 ({ v with ph := phWorn } : Pv).cells) := hb
               have HK : Hid (Kept (Only p) w w1) := hk
               rw [HN.out]
               clear hb hk)
  rw [HC.out]
  exact ⟨rfl, HB.out, HK.out⟩
set_option maxRecDepth 100000 in
set_option maxHeartbeats 4000000 in
theorem prepare_yes (p : Nat) (v0 : Pv) (n r : Int) (zs : List Int) (ww : World) (h : Box ww p 94 v0.cells) (ho : (okN n && okN r) = true) (hz : zs.length = v0.ga.l) (hn : v0.ga.l ≤ 2000000) (hg : Own 3 1 ww 0 v0.ga.a v0.ga.k v0.ga.l (zs.map (Value.int .i64))) :
    Calls Try.prog 48 #[.pointer (some ⟨p, 0, none⟩), .int .i64 n, .int .i64 r] ww (PrepOut ww p (movP v0 n r) zs) := by
  refine hideC fun C HC => ?_
  have HMv : Hid (Calls Try.prog 72 #[.pointer (some ⟨p, 0, none⟩), .int .i64 n, .int .i64 r] ww (MovOut ww p v0 n r)) := moved_any p v0 n r ww h
  have HN : Hid ((okN n && okN r) = true) := ho
  have ega : (movP v0 n r).ga = v0.ga := by rw [movP_yes ho]
  rw [← ega] at hz hn hg
  have HOff : Hid (∀ k, At (movP v0 n r).ga.a k → k ≠ p) := fun k hk => box_row h (by decide) hg hk
  generalize hv : movP v0 n r = v at HC hz hn hg HOff
  have HV : Hid (movP v0 n r = v) := hv
  have HZ : Hid (zs.length = v.ga.l) := hz
  have HG0 : Hid (Own 3 1 ww 0 v.ga.a v.ga.k v.ga.l (zs.map (Value.int .i64))) := hg
  have hpl := h.lt
  have HPL : Hid (p < ww.heap.size) := hpl
  clear h ho ega hz hg hv hpl
  go_enter Try.func48, Try.ntmps48
  go_upto_region 3 with (go_at_call 72
                         refine Calls.mono HMv.out ?_
                         rintro e w ⟨rfl, hb, hk⟩
                         rw [HV.out] at hb
                         have HP : Hid (Box w (p) 94 (v.cells)) := hb
                         have HK0 : Hid (Kept (Only p) ww w) := hk
                         rw [HN.out]
                         clear hb hk)
  have HG : Hid (Own 3 1 w 0 v.ga.a v.ga.k v.ga.l (zs.map (Value.int .i64))) := HG0.out.kept HK0.out (fun k e f => HOff.out k e f)
  have HK : Hid (Kept No w w) := Kept.refl _ _
  have HLT : Hid (p < w.heap.size) := HP.out.lt
  have HLW : Hid (ww.heap.size ≤ w.heap.size) := HK0.out.size
  clear HG0 HMv HN HV
  refine WL.start <| uK (pV p 0) <| uK (pV p 0) <| uK (pV p 0) <| uK (pV p 0) <| uK (pV p 17) <| uL 39 ⟨p, 17, none⟩ (.agg #[.int .i64 v.n, .int .i64 v.cl]) (load_pB HP.out) <| uW (.agg (({ msZ with k := 3, st := ⟨v.n, v.cl⟩ } : Ms).cells)) (exec_build 47 _ rfl (({ msZ with k := 3, st := ⟨v.n, v.cl⟩ } : Ms).cells) (by kernel_rfl)) <| ?_
  try simp only [pS]
  refine uC 74 #[pV p 0, .agg (({ msZ with k := 3, st := ⟨v.n, v.cl⟩ } : Ms).cells)] (message_any p v { msZ with k := 3, st := ⟨v.n, v.cl⟩ } w HP.out) ?_
  rintro e wk1 ⟨rfl, hk⟩
  have HP : Hid (Box wk1 (p) 94 (v.cells)) := HP.out.kept hk (fun e => e)
  have HK : Hid (Kept No w wk1) := HK.out.then hk
  have HG : Hid (Own 3 1 (wk1) 0 v.ga.a v.ga.k v.ga.l (zs.map (Value.int .i64))) := HG.out.no hk
  have HLT : Hid (p < wk1.heap.size) := Nat.lt_of_lt_of_le HLT.out hk.size
  clear hk
  refine ⟨.agg (prepM v).cells, rfl, ?_⟩
  try simp only [pS]
  refine uC 73 #[pV p 0, .agg (prepM v).cells] (question_any p v (prepM v) zs wk1 HP.out HZ.out (by omega) (HG.out.nums HZ.out)) ?_
  rintro e wq ⟨q, h, b, a, cap, rfl, hq, hT, g1, g2, g3, g4, hk⟩
  have hsz := HK.out.size
  have HQ : Hid (Box wq (q) 111 ((qcs (prepM v) h false).toArray)) := hq
  have HT : Hid (Tal 132 U.ans wq h b a cap (tNew Unit zs (zs.length : Int))) := hT
  have HFr : Hid (w.heap.size ≤ q ∧ w.heap.size ≤ h ∧ w.heap.size ≤ b ∧ ∀ k, At a k → w.heap.size ≤ k) := ⟨by omega, by omega, by omega, fun k e => by have := g4 k e; omega⟩
  have HP : Hid (Box wq (p) 94 (v.cells)) := HP.out.kept hk (fun e => e)
  have HG : Hid (Own 3 1 wq 0 v.ga.a v.ga.k v.ga.l (zs.map (Value.int .i64))) := HG.out.no hk
  have HK : Hid (Kept No w wq) := HK.out.then hk
  have HLT : Hid (p < wq.heap.size) := HP.out.lt
  clear hq hT g1 g2 g3 g4 hk hsz
  refine ⟨.pointer (some ⟨q, 0, none⟩), rfl, ?_⟩
  try simp only [pS]
  refine uK (pV q 0) <| WL.nil <| ?_
  try simp only [pS]
  go_upto_region 4 with fail
  have C7 : Hid (wq.cell? ⟨p, 7, none⟩ = some (.slice v.ga.a v.ga.l v.ga.k)) := HP.out.cell 7
  refine wp_region_held_drew (S := fun w' => w'.cell? ⟨p, 7, none⟩ = some (.slice v.ga.a v.ga.l v.ga.k)) rfl C7.out (fun hH => ?_)
  have HP : Hid (Box wq.drew (p) 94 (v.cells)) := HP.out
  have HQ : Hid (Box wq.drew (q) 111 ((qcs (prepM v) h false).toArray)) := HQ.out
  have C7 : Hid (wq.drew.cell? ⟨p, 7, none⟩ = some (.slice v.ga.a v.ga.l v.ga.k)) := C7.out
  have HK : Hid (Kept No w wq.drew) := HK.out.drew
  have HG : Hid (Own 3 1 (wq.drew) 0 v.ga.a v.ga.k v.ga.l (zs.map (Value.int .i64))) := HG.out.no (Kept.refl No _).drew
  have HT : Hid (Tal 132 U.ans (wq.drew) h b a cap (tNew Unit zs (zs.length : Int))) := HT.out.no (Kept.refl No _).drew
  have HLT : Hid (p < wq.drew.heap.size) := HLT.out
  generalize wq.drew = wk2 at HP HQ C7 HK HLT hH HG HT ⊢
  refine xV 0 22 (pV p 0) hH <| xV 1 23 (pV q 0) hH <| xV 2 24 (pV p 0) hH <| xV 3 25 (pV p 0) hH <| xV 4 26 (pV p 7) hH <| xL 5 27 24 ⟨p, 7, none⟩ (.slice v.ga.a v.ga.l v.ga.k) (fun _ hw => load_24 hw) hH <| ?_
  try simp only [pS]
  refine xV 6 28 (pV p 0) hH ?_
  try simp only [pS]
  refine xC 7 29 76 #[pV p 0] (need_any p v wk2 HP.out (by omega)) ?_
  rintro e wq ⟨rfl, hwq⟩
  rw [hwq]
  clear hwq wq
  refine ⟨.int .i64 (needN v.ga.l), rfl, hH, fun hH => ?_⟩
  try simp only [pS]
  have HSt : Hid (w.heap.size ≤ wk2.heap.size) := HK.out.size
  have HBl : Hid (b < wk2.heap.size) := HT.out.map.lt
  refine xC 8 30 75 #[.slice v.ga.a v.ga.l v.ga.k, .int .i64 (needN v.ga.l)] (V.new_any v.ga.a v.ga.l v.ga.k zs (needN v.ga.l) wk2 HZ.out (by omega) (HG.out.nums HZ.out)) ?_
  rintro e wt ⟨ta, tc, rfl, hT2, hF2, hk⟩
  have HT2 : Hid (Tal 170 V.ans wt (wk2.heap.size + 1) wk2.heap.size ta tc (tNew V.Vt zs (needN v.ga.l))) := hT2
  have HF2 : Hid (∀ k, At ta k → wk2.heap.size ≤ k) := hF2
  have HP : Hid (Box wt (p) 94 (v.cells)) := HP.out.kept hk (fun e => e)
  have HQ : Hid (Box wt (q) 111 ((qcs (prepM v) h false).toArray)) := HQ.out.kept hk (fun e => e)
  have HG : Hid (Own 3 1 wt 0 v.ga.a v.ga.k v.ga.l (zs.map (Value.int .i64))) := HG.out.no hk
  have HT : Hid (Tal 132 U.ans wt h b a cap (tNew Unit zs (zs.length : Int))) := HT.out.no hk
  have HK : Hid (Kept No w wt) := HK.out.then hk
  have C7 : Hid (wt.cell? ⟨p, 7, none⟩ = some (.slice v.ga.a v.ga.l v.ga.k)) := HP.out.cell 7
  refine ⟨.pointer (some ⟨wk2.heap.size + 1, 0, none⟩), rfl, C7.out, fun hH => ?_⟩
  try simp only [pS]
  clear hT2 hF2 hk HLT
  generalize wk2.heap.size = Bt at HT2 HF2 HSt HBl ⊢
  refine xU 9 31 (.agg (#[pV q 0, pV (Bt + 1) 0])) (fun w' hw => exec_build 155 _ rfl (#[pV q 0, pV (Bt + 1) 0]) (by kernel_rfl)) hH <| xV 10 32 (phPre q (Bt + 1)) hH <| xV 11 33 (pV p 0) hH <| xV 12 34 (pV p 21) hH <| ?_
  try simp only [pS]
  refine xS 13 92 ⟨p, 21, none⟩ (phPre q (Bt + 1)) (store_ph HP.out (phPre q (Bt + 1)) rfl rfl) ((HP.out.setRow _).cell 7) (fun hH => ?_)
  try simp only [pS]
  refine wpAnyH_done (by kernel_rfl) ?_ _
  try simp only [pS]
  clear hH C7
  obtain ⟨wu, hwu⟩ : ∃ wu, wu = wt.setRow p ({ v with ph := phPre q (Bt + 1) } : Pv).cells := ⟨_, rfl⟩
  have hks : Kept (Only p) wt wu := by rw [hwu]; exact Kept.setRow _ _ _
  have hqp : q ≠ p := box_ne HQ.out HP.out (by decide)
  have HQ : Hid (Box wu (q) 111 ((qcs (prepM v) h false).toArray)) := HQ.out.kept hks hqp
  have HT : Hid (Tal 132 U.ans wu h b a cap (tNew Unit zs (zs.length : Int))) := HT.out.kept hks (fun k e f => tal_ne HT.out HP.out (by decide) (by decide) e f)
  have HT2 : Hid (Tal 170 V.ans wu (Bt + 1) Bt ta tc (tNew V.Vt zs (needN v.ga.l))) := HT2.out.kept hks (fun k e f => tal_ne HT2.out HP.out (by decide) (by decide) e f)
  have HG : Hid (Own 3 1 wu 0 v.ga.a v.ga.k v.ga.l (zs.map (Value.int .i64))) := HG.out.kept hks (fun k e f => HOff.out k e f)
  have HP : Hid (Box wu (p) 94 (({ v with ph := phPre q (Bt + 1) } : Pv).cells)) := by rw [hwu]; exact HP.out.setRow _
  have HKp : Hid (Kept (Only p) w wu) := (HK.out.of_no : Kept (Only p) w wt).then hks
  rw [← hwu]
  clear hwu hks hqp HK
  have HK : Hid (Kept No wu wu) := Kept.refl _ _
  have HLT : Hid (p < wu.heap.size) := HP.out.lt
  go_upto_region 5 with fail
  refine wp_region_held_drew (S := fun w' => Box w' (p) 94 (({ v with ph := phPre q (Bt + 1) } : Pv).cells) ∧ Box w' (q) 111 ((qcs (prepM v) h false).toArray)) rfl ⟨HP.out, HQ.out⟩ (fun hH => ?_)
  refine xV 0 35 (pV p 0) hH <| xV 1 36 (pV p 0) hH <| xV 2 37 (pV p 7) hH <| xL 3 38 24 ⟨p, 7, none⟩ (.slice v.ga.a v.ga.l v.ga.k) (fun _ hw => load_24 (hw.1.cell 7)) hH <| xV 4 39 (pV q 0) hH <| xV 5 40 (pV q 0) hH <| ?_
  try simp only [pS]
  refine xV 6 41 (pV q 0) hH <| xL 7 42 47 ⟨q, 0, none⟩ (.agg (prepM v).cells) (fun _ hw => load_Q hw.2) hH <| ?_
  try simp only [pS]
  refine xC 8 43 51 #[.slice v.ga.a v.ga.l v.ga.k, .agg (prepM v).cells] (toEach_any v.ga.a v.ga.l v.ga.k zs (prepM v) wu.drew HZ.out hn ((HG.out.no (Kept.refl No wu).drew).nums HZ.out)) ?_
  rintro e wz ⟨la, lc, rfl, hL, hk⟩
  have hk1 : Kept No wu wz := (Kept.refl No wu).drew.then hk
  have hl : (zs.map (prepM v).to).length = zs.length := List.length_map _
  rw [hl] at hL ⊢
  have HL : Hid (Own 47 30 wz wu.drew.heap.size la lc zs.length (msL (zs.map (prepM v).to))) := hL
  have HK1 : Hid (Kept No wu wz) := hk1
  have HPz : Hid (Box wz (p) 94 (({ v with ph := phPre q (Bt + 1) } : Pv).cells)) := HP.out.kept hk1 (fun e => e)
  have HQz : Hid (Box wz (q) 111 ((qcs (prepM v) h false).toArray)) := HQ.out.kept hk1 (fun e => e)
  refine ⟨.slice la zs.length lc, rfl, ⟨HPz.out, HQz.out⟩, fun hH => ?_⟩
  try simp only [pS]
  refine xV 9 6 (.slice la zs.length lc) hH ?_
  try simp only [pS]
  refine wpAnyH_done (by kernel_rfl) ?_ _
  try simp only [pS]
  clear hH hL hk hk1 hl
  go_wp2
  rw [HC.out]
  have hfr := HFr.out
  have hlw := HLW.out
  have hst := HSt.out
  have hsu : w.heap.size ≤ wu.heap.size := HKp.out.size
  refine ⟨q, h, b, a, cap, Bt + 1, Bt, ta, tc, la, lc, rfl, Own.lower HL.out (by show ww.heap.size ≤ wu.heap.size; omega), HPz.out, HQz.out, HT.out.no HK1.out, ?_, by have := HBl.out; omega, ⟨by omega, by omega, by omega, by omega, by omega⟩, fun k e => by have := hfr.2.2.2 k e; omega, fun k e => by have := HF2.out k e; omega, (HK0.out.then HKp.out).then HK1.out.of_no⟩
  rw [HZ.out]
  exact HT2.out.no HK1.out

end Go.Proofs.Ytpabpeppgpeaoaa
