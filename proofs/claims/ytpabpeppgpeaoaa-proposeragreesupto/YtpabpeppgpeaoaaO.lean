import Derived.Test.YtpabpeppgpeaoaaJ
namespace Go.Proofs.Ytpabpeppgpeaoaa
open Go.RowKit Gt
set_option linter.unusedVariables false
set_option linter.unusedSimpArgs false

set_option maxRecDepth 100000 in
/-- A second beginning. -/
theorem begin_again (p : Nat) (T : TypeId) (x : Value) (v : Pv) (w : World) (h : Box w p 94 v.cells) (hp : v.ph = .iface T x) : Calls Try.prog 18 #[.pointer (some ⟨p, 0, none⟩)] w (fun e w' => e = .returned (.slice none 0 0) ∧ w' = w) := by
  obtain ⟨c7, c17, c19, c20, c21⟩ := Pv.cel h
  rw [hp] at c21
  clear h hp c7 c17 c19 c20
  go_enter Try.func18, Try.ntmps18
  go_wp2
  go_ret
  exact ⟨rfl, rfl⟩
set_option maxRecDepth 100000 in
set_option maxHeartbeats 2000000 in
theorem begin_no (p : Nat) (v : Pv) (w : World) (h : Box w p 94 v.cells) (hp : v.ph = .nilIface) (ho : (okN v.n && okN v.rd) = false) : Calls Try.prog 18 #[.pointer (some ⟨p, 0, none⟩)] w (fun e w' => e = .returned (.slice none 0 0) ∧ Box w' p 94 ({ v with ph := phWorn } : Pv).cells ∧ Kept (Only p) w w') := by
  refine hideC fun C HC => ?_
  have HPr : Hid (∀ W, Kept No w W → Calls Try.prog 48 #[.pointer (some ⟨p, 0, none⟩), .int .i64 v.n, .int .i64 v.rd] W (fun e w' => e = .returned (.slice none 0 0) ∧ Box w' p 94 ({ v with ph := phWorn } : Pv).cells ∧ Kept (Only p) W w')) := fun W hk => prepare_no p v v.n v.rd W (h.kept hk (fun e => e)) ho
  obtain ⟨c7, c17, c19, c20, c21⟩ := Pv.cel h
  rw [hp] at c21
  have C1 : Hid (w.cell? ⟨p, 17, none⟩ = some (.int .i64 v.n)) := c17
  have C2 : Hid (w.cell? ⟨p, 20, none⟩ = some (.int .i64 v.rd)) := c20
  clear h hp c7 c17 c19 c20 ho
  go_enter Try.func18, Try.ntmps18
  go_upto_region 3 with fail
  clear c21
  refine wp_region_held_drew (S := fun w' => w'.cell? ⟨p, 17, none⟩ = some (.int .i64 v.n) ∧ w'.cell? ⟨p, 20, none⟩ = some (.int .i64 v.rd)) rfl ⟨C1.out, C2.out⟩ (fun hH => ?_)
  refine xV 0 8 (pV p 0) hH <| xV 1 9 (pV p 0) hH <| xV 2 10 (pV p 0) hH <| xV 3 11 (pV p 17) hH <| xV 4 12 (pV p 17) hH <| xL 5 13 3 ⟨p, 17, none⟩ (.int .i64 v.n) (fun _ hw => load_N hw.1) hH <| ?_
  try simp only [pS]
  refine xV 6 14 (pV p 0) hH <| xV 7 15 (pV p 0) hH <| xV 8 16 (pV p 20) hH <| xL 9 17 3 ⟨p, 20, none⟩ (.int .i64 v.rd) (fun _ hw => load_N hw.2) hH <| ?_
  try simp only [pS]
  refine xC 10 18 48 #[pV p 0, .int .i64 v.n, .int .i64 v.rd] (HPr.out w.drew (Kept.refl No w).drew) ?_
  rintro e w1 ⟨rfl, hb, hk⟩
  have HB : Hid (Box w1 p 94 ({ v with ph := phWorn } : Pv).cells) := hb
  have HK : Hid (Kept (Only p) w w1) := ((Kept.refl (Only p) w).drew).then hk
  refine ⟨.slice none 0 0, rfl, ⟨hb.cell 17, hb.cell 20⟩, fun hH => ?_⟩
  clear hb hk
  try simp only [pS]
  refine xV 11 2 (.slice none 0 0) hH ?_
  try simp only [pS]
  refine wpAnyH_done (by kernel_rfl) ?_ _
  try simp only [pS]
  clear hH
  go_wp2
  rw [HC.out]
  exact ⟨rfl, HB.out, HK.out⟩
theorem movP_self {v : Pv} (h : (okN v.n && okN v.rd) = true) : movP v v.n v.rd = { v with top := max v.top v.n } := by rw [movP_yes h]
set_option maxRecDepth 100000 in
set_option maxHeartbeats 2000000 in
theorem begin_yes (p : Nat) (v : Pv) (zs : List Int) (w : World) (h : Box w p 94 v.cells) (hp : v.ph = .nilIface) (ho : (okN v.n && okN v.rd) = true) (hz : zs.length = v.ga.l) (hn : v.ga.l ≤ 2000000) (hg : Own 3 1 w 0 v.ga.a v.ga.k v.ga.l (zs.map (Value.int .i64))) : Calls Try.prog 18 #[.pointer (some ⟨p, 0, none⟩)] w (PrepOut w p (movP v v.n v.rd) zs) := by
  refine hideC fun C HC => ?_
  have HPr : Hid (∀ W, Kept No w W → Calls Try.prog 48 #[.pointer (some ⟨p, 0, none⟩), .int .i64 v.n, .int .i64 v.rd] W (PrepOut W p (movP v v.n v.rd) zs)) := fun W hk => prepare_yes p v v.n v.rd zs W (h.kept hk (fun e => e)) ho hz hn (hg.no hk)
  have HMs : Hid (movP v v.n v.rd = { v with top := max v.top v.n }) := movP_self ho
  obtain ⟨c7, c17, c19, c20, c21⟩ := Pv.cel h
  rw [hp] at c21
  have C1 : Hid (w.cell? ⟨p, 17, none⟩ = some (.int .i64 v.n)) := c17
  have C2 : Hid (w.cell? ⟨p, 20, none⟩ = some (.int .i64 v.rd)) := c20
  clear h hp c7 c17 c19 c20 ho hz hn hg
  go_enter Try.func18, Try.ntmps18
  go_upto_region 3 with fail
  clear c21
  refine wp_region_held_drew (S := fun w' => w'.cell? ⟨p, 17, none⟩ = some (.int .i64 v.n) ∧ w'.cell? ⟨p, 20, none⟩ = some (.int .i64 v.rd)) rfl ⟨C1.out, C2.out⟩ (fun hH => ?_)
  refine xV 0 8 (pV p 0) hH <| xV 1 9 (pV p 0) hH <| xV 2 10 (pV p 0) hH <| xV 3 11 (pV p 17) hH <| xV 4 12 (pV p 17) hH <| xL 5 13 3 ⟨p, 17, none⟩ (.int .i64 v.n) (fun _ hw => load_N hw.1) hH <| ?_
  try simp only [pS]
  refine xV 6 14 (pV p 0) hH <| xV 7 15 (pV p 0) hH <| xV 8 16 (pV p 20) hH <| xL 9 17 3 ⟨p, 20, none⟩ (.int .i64 v.rd) (fun _ hw => load_N hw.2) hH <| ?_
  try simp only [pS]
  refine xC 10 18 48 #[pV p 0, .int .i64 v.n, .int .i64 v.rd] (HPr.out w.drew (Kept.refl No w).drew) ?_
  rintro e w1 ⟨q, h, b, a, cap, t, tb, ta, tc, la, lc, rfl, g1, g2, g3, g4, g5, g6, g7, g8, g9, g10⟩
  have g2' := g2
  rw [HMs.out] at g2'
  have HA : Hid (PrepOut w p (movP v v.n v.rd) zs (.returned (.slice la zs.length lc)) w1) := ⟨q, h, b, a, cap, t, tb, ta, tc, la, lc, rfl, g1, g2, g3, g4, g5, g6, g7, g8, g9, ((Kept.refl (Only p) w).drew).then g10⟩
  refine ⟨.slice la zs.length lc, rfl, ⟨g2'.cell 17, g2'.cell 20⟩, fun hH => ?_⟩
  clear g1 g2 g2' g3 g4 g5 g6 g7 g8 g9 g10
  try simp only [pS]
  refine xV 11 2 (.slice la zs.length lc) hH ?_
  try simp only [pS]
  refine wpAnyH_done (by kernel_rfl) ?_ _
  try simp only [pS]
  clear hH
  go_wp2
  rw [HC.out]
  exact HA.out

end Go.Proofs.Ytpabpeppgpeaoaa
namespace Go.Proofs.Ytpabpeppgpeaoaa
open Go.RowKit Gt
set_option linter.unusedVariables false
set_option linter.unusedSimpArgs false

def wr1 (n : Int) : Int := IntKind.i64.wrap (n + 1)
theorem addN (a : Int) (w : World) : (binOp .add 3 (.int .i64 a) (.int .i64 1)).run Try.prog w = .ok (.int .i64 (wr1 a)) w := by
  first | kernel_rfl | simp [binOp, Op.intArith, wr1]
set_option maxRecDepth 100000 in
/-- Nobody is asked: nothing is told. -/
theorem tick_none (p : Nat) (w : World) (hA : Calls Try.prog 50 #[.pointer (some ⟨p, 0, none⟩)] w (fun e w' => e = .returned (.pointer none) ∧ Kept No w w')) : Calls Try.prog 25 #[.pointer (some ⟨p, 0, none⟩)] w (fun e w' => e = .returned (.slice none 0 0) ∧ Kept No w w') := by
  have HA : Hid (Calls Try.prog 50 #[.pointer (some ⟨p, 0, none⟩)] w (fun e w' => e = .returned (.pointer none) ∧ Kept No w w')) := hA
  clear hA
  go_enter Try.func25, Try.ntmps25
  go_wp2_with (go_at_call 50
               refine Calls.mono HA.out ?_
               rintro e w1 ⟨rfl, hk⟩
               have HK : Hid (Kept No w w1) := hk
               clear hk)
  go_ret
  exact ⟨rfl, HK.out⟩
theorem Try.und87 : Try.prog.underlying 87 = some (.pointer 132) := by kernel_rfl
theorem load_87 {w : World} {ad : Addr} {v : Value} (hc : w.cell? ad = some v) : (loadVar 87 ad).run Try.prog w = .ok v w := load_one hc Try.und87 rfl
theorem ptr_some (q : Nat) (w : World) : (binOp .eql 108 (.pointer (some ⟨q, 0, none⟩)) (.pointer none)).run Try.prog w = .ok (.bool false) w := by
  first | kernel_rfl | simp [binOp, Op.equal, Op.equalIn]
set_option maxRecDepth 100000 in
set_option maxHeartbeats 2000000 in
/-- Those who have not answered are asked once more. -/
theorem tick_more (p q h b cap : Nat) (a : Option Addr) (m : Ms) (x : TS Unit) (w : World) (hA : Calls Try.prog 50 #[.pointer (some ⟨p, 0, none⟩)] w (fun e w' => e = .returned (.pointer (some ⟨q, 0, none⟩)) ∧ w' = w)) (hq : Box w q 111 (qcs m h false).toArray) (hT : Tal 132 U.ans w h b a cap x) (hl : x.g.length ≤ 2000000) :
    Calls Try.prog 25 #[.pointer (some ⟨p, 0, none⟩)] w (MsgsOut w ((missL x).map m.to)) := by
  refine hideC fun C HC => ?_
  have HA : Hid (Calls Try.prog 50 #[.pointer (some ⟨p, 0, none⟩)] w (fun e w' => e = .returned (.pointer (some ⟨q, 0, none⟩)) ∧ w' = w)) := hA
  have HQ : Hid (Box w (q) 111 ((qcs m h false).toArray)) := hq
  have HT : Hid (Tal 132 U.ans w h b a cap x) := hT
  have hml : (missL x).length ≤ 2000000 := Nat.le_trans (List.length_filter_le _ _) hl
  have c31 := (q30 hq).2
  have hps := ptr_some q
  clear hA hq hT hl
  go_enter Try.func25, Try.ntmps25
  go_upto_region 6 with (go_at_call 50
                         refine Calls.mono HA.out ?_
                         rintro e w1 ⟨rfl, rfl⟩)
  clear c31 hps HA
  refine wp_region_held_drew (S := fun w' => Box w' (q) 111 ((qcs m h false).toArray)) rfl HQ.out (fun hH => ?_)
  refine xV 0 24 (pV q 0) hH <| xV 1 25 (pV q 0) hH <| xV 2 26 (pV q 30) hH <| xL 3 27 87 ⟨q, 30, none⟩ (pV h 0) (fun _ hw => load_87 (hw.cell 30)) hH <| xV 5 29 (pV q 0) hH <| xV 6 30 (pV q 0) hH <| ?_
  try simp only [pS]
  refine xV 7 31 (pV q 0) hH <| xL 8 32 47 ⟨q, 0, none⟩ (.agg m.cells) (fun _ hw => load_Q hw) hH <| ?_
  try simp only [pS]
  refine xC 4 28 34 #[pV h 0] (U.missing_any h b cap a x w1.drew (HT.out.no (Kept.refl No _).drew)) ?_
  rintro e w2 ⟨ma, mc, rfl, hO, hk⟩
  have HN : Hid (Nums .i64 w2 ma (missL x)) := hO.nums rfl
  have HK2 : Hid (Kept No w1 w2) := (Kept.refl No w1).drew.then hk
  have HQ2 : Hid (Box w2 (q) 111 ((qcs m h false).toArray)) := HQ.out.kept HK2.out (fun e => e)
  refine ⟨.slice ma (missL x).length mc, rfl, HQ2.out, fun hH => ?_⟩
  clear hO hk
  try simp only [pS]
  refine xC 9 33 51 #[.slice ma (missL x).length mc, .agg m.cells] (toEach_any ma (missL x).length mc (missL x) m w2 rfl hml HN.out) ?_
  rintro e w3 ⟨la, lc, rfl, hL, hk⟩
  have HL : Hid (Own 47 30 w3 w2.heap.size la lc ((missL x).map m.to).length (msL ((missL x).map m.to))) := hL
  have HK3 : Hid (Kept No w1 w3) := HK2.out.then hk
  have HS2 : Hid (w1.heap.size ≤ w2.heap.size) := HK2.out.size
  refine ⟨.slice la ((missL x).map m.to).length lc, rfl, HQ.out.kept HK3.out (fun e => e), fun hH => ?_⟩
  clear hL hk
  try simp only [pS]
  refine xV 10 2 (.slice la ((missL x).map m.to).length lc) hH ?_
  try simp only [pS]
  refine wpAnyH_done (by kernel_rfl) ?_ _
  try simp only [pS]
  clear hH
  go_wp2
  rw [HC.out]
  exact ⟨la, lc, rfl, Own.lower HL.out HS2.out, HK3.out⟩
  
set_option maxRecDepth 100000 in
set_option maxHeartbeats 2000000 in
theorem tick_no (p q h : Nat) (m : Ms) (v : Pv) (w : World) (hb : Box w p 94 v.cells) (hA : Calls Try.prog 50 #[.pointer (some ⟨p, 0, none⟩)] w (fun e w' => e = .returned (.pointer (some ⟨q, 0, none⟩)) ∧ w' = w)) (hq : Box w q 111 (qcs m h true).toArray) (ho : (okN (wr1 v.top) && okN (wr1 v.rd)) = false) : Calls Try.prog 25 #[.pointer (some ⟨p, 0, none⟩)] w (fun e w' => e = .returned (.slice none 0 0) ∧ Box w' p 94 ({ v with ph := phWorn } : Pv).cells ∧ Kept (Only p) w w') := by
  refine hideC fun C HC => ?_
  have HA : Hid (Calls Try.prog 50 #[.pointer (some ⟨p, 0, none⟩)] w (fun e w' => e = .returned (.pointer (some ⟨q, 0, none⟩)) ∧ w' = w)) := hA
  have HPr : Hid (∀ W, Kept No w W → Calls Try.prog 48 #[.pointer (some ⟨p, 0, none⟩), .int .i64 (wr1 v.top), .int .i64 (wr1 v.rd)] W (fun e w' => e = .returned (.slice none 0 0) ∧ Box w' p 94 ({ v with ph := phWorn } : Pv).cells ∧ Kept (Only p) W w')) := fun W hk => prepare_no p v (wr1 v.top) (wr1 v.rd) W (hb.kept hk (fun e => e)) ho
  have HB : Hid (Box w p 94 v.cells) := hb
  have c31 := (q30 hq).2
  have hps := ptr_some q
  clear hb hA hq ho
  go_enter Try.func25, Try.ntmps25
  go_upto_region 5 with (go_at_call 50
                         refine Calls.mono HA.out ?_
                         rintro e w1 ⟨rfl, rfl⟩)
  clear c31 hps HA
  refine wp_region_held_drew (S := fun _ => True) rfl trivial (fun hH => ?_)
  have D1 : Hid (w1.drew.cell? ⟨p, 19, none⟩ = some (.int .i64 v.top)) := (Pv.cel HB.out).2.2.1
  have D2 : Hid (w1.drew.cell? ⟨p, 20, none⟩ = some (.int .i64 v.rd)) := (Pv.cel HB.out).2.2.2.1
  refine xV 0 12 (pV p 0) hH <| xV 1 13 (pV p 0) hH <| xV 2 14 (pV p 0) hH <| xV 3 15 (pV p 19) hH <| xV 6 18 (pV p 0) hH <| xV 7 19 (pV p 0) hH <| ?_
  try simp only [pS]
  refine xV 8 20 (pV p 20) hH ?_
  try simp only [pS]
  refine any_pick (rs := [4, 9]) (by kernel_rfl) (by simp) ?_
  intro i hi
  rcases pick2 hi with rfl | rfl
  ·skip
   clear hi
   refine step_run (i := 4) (o := { dst := some 16, op := Op.load 3 (Operand.tmp 15), type := 3, pos := "proposer.go:70", after := #[{ on := 3, ground := Ground.data }], guard := none }) (v := .int .i64 v.top) (w' := w1.drew) rfl (by kernel_rfl) (exec_load 3 _ rfl ⟨p, 19, none⟩ (by kernel_rfl) _ (load_N D1.out)) trivial (fun hH => ?_)
   try simp only [pS]
   refine xB 5 17 .add 3 (.int .i64 v.top) (.int .i64 1) (.int .i64 (wr1 v.top)) (fun _ _ => addN _ _) hH ?_
   try simp only [pS]
   refine xP 9 21 (.int .i64 v.rd) (w' := w1.drew) (exec_load 3 _ rfl ⟨p, 20, none⟩ (by kernel_rfl) _ (load_N D2.out)) trivial (fun hH => ?_)
   try simp only [pS]
   refine xB 10 22 .add 3 (.int .i64 v.rd) (.int .i64 1) (.int .i64 (wr1 v.rd)) (fun _ _ => addN _ _) hH ?_
   try simp only [pS]
   refine xC 11 23 48 #[pV p 0, .int .i64 (wr1 v.top), .int .i64 (wr1 v.rd)] (HPr.out w1.drew (Kept.refl No w1).drew) ?_
   rintro e w2 ⟨rfl, hb, hk⟩
   have HB2 : Hid (Box w2 p 94 ({ v with ph := phWorn } : Pv).cells) := hb
   have HK : Hid (Kept (Only p) w1 w2) := ((Kept.refl (Only p) w1).drew).then hk
   refine ⟨.slice none 0 0, rfl, trivial, fun hH => ?_⟩
   clear hb hk
   try simp only [pS]
   refine xV 12 2 (.slice none 0 0) hH ?_
   try simp only [pS]
   refine wpAnyH_done (by kernel_rfl) ?_ _
   try simp only [pS]
   clear hH
   go_wp2
   rw [HC.out]
   exact ⟨rfl, HB2.out, HK.out⟩
  ·skip
   clear hi
   refine step_run (i := 9) (o := { dst := some 21, op := Op.load 3 (Operand.tmp 20), type := 3, pos := "proposer.go:70", after := #[{ on := 8, ground := Ground.data }], guard := none }) (v := .int .i64 v.rd) (w' := w1.drew) rfl (by kernel_rfl) (exec_load 3 _ rfl ⟨p, 20, none⟩ (by kernel_rfl) _ (load_N D2.out)) trivial (fun hH => ?_)
   try simp only [pS]
   refine xB 10 22 .add 3 (.int .i64 v.rd) (.int .i64 1) (.int .i64 (wr1 v.rd)) (fun _ _ => addN _ _) hH ?_
   try simp only [pS]
   refine xP 4 16 (.int .i64 v.top) (w' := w1.drew) (exec_load 3 _ rfl ⟨p, 19, none⟩ (by kernel_rfl) _ (load_N D1.out)) trivial (fun hH => ?_)
   try simp only [pS]
   refine xB 5 17 .add 3 (.int .i64 v.top) (.int .i64 1) (.int .i64 (wr1 v.top)) (fun _ _ => addN _ _) hH ?_
   try simp only [pS]
   refine xC 11 23 48 #[pV p 0, .int .i64 (wr1 v.top), .int .i64 (wr1 v.rd)] (HPr.out w1.drew (Kept.refl No w1).drew) ?_
   rintro e w2 ⟨rfl, hb, hk⟩
   have HB2 : Hid (Box w2 p 94 ({ v with ph := phWorn } : Pv).cells) := hb
   have HK : Hid (Kept (Only p) w1 w2) := ((Kept.refl (Only p) w1).drew).then hk
   refine ⟨.slice none 0 0, rfl, trivial, fun hH => ?_⟩
   clear hb hk
   try simp only [pS]
   refine xV 12 2 (.slice none 0 0) hH ?_
   try simp only [pS]
   refine wpAnyH_done (by kernel_rfl) ?_ _
   try simp only [pS]
   clear hH
   go_wp2
   rw [HC.out]
   exact ⟨rfl, HB2.out, HK.out⟩
set_option maxRecDepth 100000 in
set_option maxHeartbeats 2000000 in
theorem tick_yes (p q h : Nat) (m : Ms) (v : Pv) (zs : List Int) (w : World) (hb : Box w p 94 v.cells) (hA : Calls Try.prog 50 #[.pointer (some ⟨p, 0, none⟩)] w (fun e w' => e = .returned (.pointer (some ⟨q, 0, none⟩)) ∧ w' = w)) (hq : Box w q 111 (qcs m h true).toArray) (ho : (okN (wr1 v.top) && okN (wr1 v.rd)) = true) (hz : zs.length = v.ga.l) (hn : v.ga.l ≤ 2000000) (hg : Own 3 1 w 0 v.ga.a v.ga.k v.ga.l (zs.map (Value.int .i64))) : Calls Try.prog 25 #[.pointer (some ⟨p, 0, none⟩)] w (PrepOut w p (movP v (wr1 v.top) (wr1 v.rd)) zs) := by
  refine hideC fun C HC => ?_
  have HA : Hid (Calls Try.prog 50 #[.pointer (some ⟨p, 0, none⟩)] w (fun e w' => e = .returned (.pointer (some ⟨q, 0, none⟩)) ∧ w' = w)) := hA
  have HPr : Hid (∀ W, Kept No w W → Calls Try.prog 48 #[.pointer (some ⟨p, 0, none⟩), .int .i64 (wr1 v.top), .int .i64 (wr1 v.rd)] W (PrepOut W p (movP v (wr1 v.top) (wr1 v.rd)) zs)) := fun W hk => prepare_yes p v (wr1 v.top) (wr1 v.rd) zs W (hb.kept hk (fun e => e)) ho hz hn (hg.no hk)
  have HB : Hid (Box w p 94 v.cells) := hb
  have c31 := (q30 hq).2
  have hps := ptr_some q
  clear hb hA hq ho hz hn hg
  go_enter Try.func25, Try.ntmps25
  go_upto_region 5 with (go_at_call 50
                         refine Calls.mono HA.out ?_
                         rintro e w1 ⟨rfl, rfl⟩)
  clear c31 hps HA
  refine wp_region_held_drew (S := fun _ => True) rfl trivial (fun hH => ?_)
  have D1 : Hid (w1.drew.cell? ⟨p, 19, none⟩ = some (.int .i64 v.top)) := (Pv.cel HB.out).2.2.1
  have D2 : Hid (w1.drew.cell? ⟨p, 20, none⟩ = some (.int .i64 v.rd)) := (Pv.cel HB.out).2.2.2.1
  refine xV 0 12 (pV p 0) hH <| xV 1 13 (pV p 0) hH <| xV 2 14 (pV p 0) hH <| xV 3 15 (pV p 19) hH <| xV 6 18 (pV p 0) hH <| xV 7 19 (pV p 0) hH <| ?_
  try simp only [pS]
  refine xV 8 20 (pV p 20) hH ?_
  try simp only [pS]
  refine any_pick (rs := [4, 9]) (by kernel_rfl) (by simp) ?_
  intro i hi
  rcases pick2 hi with rfl | rfl
  ·skip
   clear hi
   refine step_run (i := 4) (o := { dst := some 16, op := Op.load 3 (Operand.tmp 15), type := 3, pos := "proposer.go:70", after := #[{ on := 3, ground := Ground.data }], guard := none }) (v := .int .i64 v.top) (w' := w1.drew) rfl (by kernel_rfl) (exec_load 3 _ rfl ⟨p, 19, none⟩ (by kernel_rfl) _ (load_N D1.out)) trivial (fun hH => ?_)
   try simp only [pS]
   refine xB 5 17 .add 3 (.int .i64 v.top) (.int .i64 1) (.int .i64 (wr1 v.top)) (fun _ _ => addN _ _) hH ?_
   try simp only [pS]
   refine xP 9 21 (.int .i64 v.rd) (w' := w1.drew) (exec_load 3 _ rfl ⟨p, 20, none⟩ (by kernel_rfl) _ (load_N D2.out)) trivial (fun hH => ?_)
   try simp only [pS]
   refine xB 10 22 .add 3 (.int .i64 v.rd) (.int .i64 1) (.int .i64 (wr1 v.rd)) (fun _ _ => addN _ _) hH ?_
   try simp only [pS]
   refine xC 11 23 48 #[pV p 0, .int .i64 (wr1 v.top), .int .i64 (wr1 v.rd)] (HPr.out w1.drew (Kept.refl No w1).drew) ?_
   rintro e w2 ⟨q', h', b, a, cap, t, tb, ta, tc, la, lc, rfl, g1, g2, g3, g4, g5, g6, g7, g8, g9, g10⟩
   have HF : Hid (PrepOut w1 p (movP v (wr1 v.top) (wr1 v.rd)) zs (.returned (.slice la zs.length lc)) w2) := ⟨q', h', b, a, cap, t, tb, ta, tc, la, lc, rfl, g1, g2, g3, g4, g5, g6, g7, g8, g9, ((Kept.refl (Only p) w1).drew).then g10⟩
   refine ⟨.slice la zs.length lc, rfl, trivial, fun hH => ?_⟩
   clear g1 g2 g3 g4 g5 g6 g7 g8 g9 g10
   try simp only [pS]
   refine xV 12 2 (.slice la zs.length lc) hH ?_
   try simp only [pS]
   refine wpAnyH_done (by kernel_rfl) ?_ _
   try simp only [pS]
   clear hH
   go_wp2
   rw [HC.out]
   exact HF.out
  ·skip
   clear hi
   refine step_run (i := 9) (o := { dst := some 21, op := Op.load 3 (Operand.tmp 20), type := 3, pos := "proposer.go:70", after := #[{ on := 8, ground := Ground.data }], guard := none }) (v := .int .i64 v.rd) (w' := w1.drew) rfl (by kernel_rfl) (exec_load 3 _ rfl ⟨p, 20, none⟩ (by kernel_rfl) _ (load_N D2.out)) trivial (fun hH => ?_)
   try simp only [pS]
   refine xB 10 22 .add 3 (.int .i64 v.rd) (.int .i64 1) (.int .i64 (wr1 v.rd)) (fun _ _ => addN _ _) hH ?_
   try simp only [pS]
   refine xP 4 16 (.int .i64 v.top) (w' := w1.drew) (exec_load 3 _ rfl ⟨p, 19, none⟩ (by kernel_rfl) _ (load_N D1.out)) trivial (fun hH => ?_)
   try simp only [pS]
   refine xB 5 17 .add 3 (.int .i64 v.top) (.int .i64 1) (.int .i64 (wr1 v.top)) (fun _ _ => addN _ _) hH ?_
   try simp only [pS]
   refine xC 11 23 48 #[pV p 0, .int .i64 (wr1 v.top), .int .i64 (wr1 v.rd)] (HPr.out w1.drew (Kept.refl No w1).drew) ?_
   rintro e w2 ⟨q', h', b, a, cap, t, tb, ta, tc, la, lc, rfl, g1, g2, g3, g4, g5, g6, g7, g8, g9, g10⟩
   have HF : Hid (PrepOut w1 p (movP v (wr1 v.top) (wr1 v.rd)) zs (.returned (.slice la zs.length lc)) w2) := ⟨q', h', b, a, cap, t, tb, ta, tc, la, lc, rfl, g1, g2, g3, g4, g5, g6, g7, g8, g9, ((Kept.refl (Only p) w1).drew).then g10⟩
   refine ⟨.slice la zs.length lc, rfl, trivial, fun hH => ?_⟩
   clear g1 g2 g3 g4 g5 g6 g7 g8 g9 g10
   try simp only [pS]
   refine xV 12 2 (.slice la zs.length lc) hH ?_
   try simp only [pS]
   refine wpAnyH_done (by kernel_rfl) ?_ _
   try simp only [pS]
   clear hH
   go_wp2
   rw [HC.out]
   exact HF.out

end Go.Proofs.Ytpabpeppgpeaoaa
namespace Go.Proofs.Ytpabpeppgpeaoaa
open Go.RowKit Gt
set_option linter.unusedVariables false
set_option linter.unusedSimpArgs false

/-- What the group is told at the end. -/
def lrnM (v : Pv) (c : Cm) : Ms := v.msg { msZ with k := 5, c := c }
def LearnOut (w : World) (p : Nat) (v : Pv) (c : Cm) (zs : List Int) (e : Ending) (w' : World) : Prop :=
  ∃ (la : Option Addr) (lc : Nat), e = .returned (.slice la zs.length lc) ∧ Own 47 30 w' w.heap.size la lc zs.length (msL (zs.map (lrnM v c).to)) ∧ Box w' p 94 ({ v with ph := phDec c } : Pv).cells ∧ Kept (Only p) w w'
set_option maxRecDepth 100000 in
set_option maxHeartbeats 2000000 in
theorem learn_any (p : Nat) (v : Pv) (c : Cm) (zs : List Int) (ww : World) (h : Box ww p 94 v.cells) (hz : zs.length = v.ga.l) (hn : v.ga.l ≤ 2000000) (hg : Own 3 1 ww 0 v.ga.a v.ga.k v.ga.l (zs.map (Value.int .i64))) :
    Calls Try.prog 83 #[.pointer (some ⟨p, 0, none⟩), .agg c.cells] ww (LearnOut ww p v c zs) := by
  refine hideC fun C HC => ?_
  have HPW : Hid (Box ww p 94 v.cells) := h
  have HZ : Hid (zs.length = v.ga.l) := hz
  have HG0 : Hid (Own 3 1 ww 0 v.ga.a v.ga.k v.ga.l (zs.map (Value.int .i64))) := hg
  have HOff : Hid (∀ k, At v.ga.a k → k ≠ p) := fun k hk => box_row h (by decide) hg hk
  have hpl := h.lt
  clear h hz hg
  go_enter Try.func83, Try.ntmps83
  go_upto_region 0 with fail
  refine WL.start ?_
  refine uR (pV ww.heap.size 0) (ww.alloc (.cells c.cells 28)) (exec_box 28 _ rfl c.cells (by kernel_rfl)) ?_
  try simp only [pS]
  refine uK (.slice none 0 0) <| WL.nil <| ?_
  try simp only [pS]
  obtain ⟨wa, hwa⟩ : ∃ wa, wa = ww.alloc (.cells c.cells 28) := ⟨_, rfl⟩
  rw [← hwa]
  have HKa : Hid (Kept No ww wa) := by rw [hwa]; exact (Kept.refl No ww).alloc _
  have HP : Hid (Box wa (p) 94 (v.cells)) := by rw [hwa]; exact HPW.out.alloc _
  have H3 : Hid (Box wa (ww.heap.size) 28 (c.cells)) := by rw [hwa]; exact Box.new _ _ _
  obtain ⟨B3, hB3⟩ : ∃ B3, B3 = ww.heap.size := ⟨_, rfl⟩
  rw [← hB3] at H3 ⊢
  have HB3 : Hid (p < B3) := by show _ < _; omega
  clear hwa hB3 hpl HPW
  go_upto_region 1 with fail
  refine WL.start <| uK (pV p 0) <| uL 28 ⟨B3, 0, none⟩ (.agg c.cells) (load_C H3.out) <| uW (.agg (c.cells)) (exec_build 118 _ rfl (c.cells) (by kernel_rfl)) <| uK (phDec c) <| uK (pV p 0) <| uK (pV p 21) <| ?_
  try simp only [pS]
  refine uT 92 ⟨p, 21, none⟩ (phDec c) _ (store_ph HP.out (phDec c) rfl rfl) ?_
  try simp only [pS]
  refine WL.nil ?_
  try simp only [pS]
  obtain ⟨w, hw⟩ : ∃ w, w = wa.setRow p ({ v with ph := phDec c } : Pv).cells := ⟨_, rfl⟩
  have hks : Kept (Only p) wa w := by rw [hw]; exact Kept.setRow _ _ _
  have H3 : Hid (Box w (B3) 28 (c.cells)) := H3.out.kept hks (fun e => by have e : B3 = p := e; have := HB3.out; omega)
  have HG : Hid (Own 3 1 w 0 v.ga.a v.ga.k v.ga.l (zs.map (Value.int .i64))) := (HG0.out.no HKa.out).kept hks (fun k e f => HOff.out k e f)
  have HP : Hid (Box w (p) 94 (({ v with ph := phDec c } : Pv).cells)) := by rw [hw]; exact HP.out.setRow _
  have HKp : Hid (Kept (Only p) ww w) := (HKa.out.of_no : Kept (Only p) ww wa).then hks
  rw [← hw]
  clear hw hks HG0
  go_upto_region 2 with fail
  refine wp_region_held_drew (S := fun w' => Box w' (p) 94 (({ v with ph := phDec c } : Pv).cells) ∧ Box w' (B3) 28 (c.cells)) rfl ⟨HP.out, H3.out⟩ (fun hH => ?_)
  refine xV 0 11 (pV p 0) hH <| xV 1 12 (pV p 0) hH <| xV 2 13 (pV p 7) hH <| xL 3 14 24 ⟨p, 7, none⟩ (.slice v.ga.a v.ga.l v.ga.k) (fun _ hw => load_24 (hw.1.cell 7)) hH <| xV 4 15 (pV p 0) hH <| xL 5 16 28 ⟨B3, 0, none⟩ (.agg c.cells) (fun _ hw => load_C hw.2) hH <| ?_
  try simp only [pS]
  refine xU 6 17 (.agg (({ msZ with k := 5, c := c } : Ms).cells)) (fun w' hw => exec_build 47 _ rfl (({ msZ with k := 5, c := c } : Ms).cells) (by kernel_rfl)) hH ?_
  try simp only [pS]
  refine xC 7 18 74 #[pV p 0, .agg ({ msZ with k := 5, c := c } : Ms).cells] (message_any p { v with ph := phDec c } { msZ with k := 5, c := c } w.drew HP.out) ?_
  rintro e w2 ⟨rfl, hk⟩
  have HK2 : Hid (Kept No w w2) := (Kept.refl No w).drew.then hk
  have HP2 : Hid (Box w2 (p) 94 (({ v with ph := phDec c } : Pv).cells)) := HP.out.kept HK2.out (fun e => e)
  have H32 : Hid (Box w2 (B3) 28 (c.cells)) := H3.out.kept HK2.out (fun e => e)
  refine ⟨.agg (lrnM v c).cells, rfl, ⟨HP2.out, H32.out⟩, fun hH => ?_⟩
  clear hk
  try simp only [pS]
  refine xC 8 19 51 #[.slice v.ga.a v.ga.l v.ga.k, .agg (lrnM v c).cells] (toEach_any v.ga.a v.ga.l v.ga.k zs (lrnM v c) w2 HZ.out hn ((HG.out.no HK2.out).nums HZ.out)) ?_
  rintro e w3 ⟨la, lc, rfl, hL, hk⟩
  have hl : (zs.map (lrnM v c).to).length = zs.length := List.length_map _
  rw [hl] at hL ⊢
  have HL : Hid (Own 47 30 w3 w2.heap.size la lc zs.length (msL (zs.map (lrnM v c).to))) := hL
  have HK3 : Hid (Kept No w w3) := HK2.out.then hk
  have HP3 : Hid (Box w3 (p) 94 (({ v with ph := phDec c } : Pv).cells)) := HP.out.kept HK3.out (fun e => e)
  have HS2 : Hid (ww.heap.size ≤ w2.heap.size) := Nat.le_trans HKp.out.size HK2.out.size
  refine ⟨.slice la zs.length lc, rfl, ⟨HP3.out, H3.out.kept HK3.out (fun e => e)⟩, fun hH => ?_⟩
  clear hL hk hl
  try simp only [pS]
  refine xV 9 4 (.slice la zs.length lc) hH ?_
  try simp only [pS]
  refine wpAnyH_done (by kernel_rfl) ?_ _
  try simp only [pS]
  clear hH
  go_wp2
  rw [HC.out]
  exact ⟨la, lc, rfl, Own.lower HL.out HS2.out, HP3.out, HKp.out.then HK3.out.of_no⟩

end Go.Proofs.Ytpabpeppgpeaoaa
