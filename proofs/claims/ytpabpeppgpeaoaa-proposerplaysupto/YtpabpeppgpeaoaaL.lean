import Derived.Test.YtpabpeppgpeaoaaJ
namespace Go.Proofs.Ytpabpeppgpeaoaa
open Go.RowKit Gt
set_option linter.unusedVariables false
set_option linter.unusedSimpArgs false

set_option maxRecDepth 100000 in
/-- A second beginning. -/
theorem begin_again (p : Nat) (T : TypeId) (x : Value) (v : Pv) (w : World) (h : Box w p 94 v.cells) (hp : v.ph = .iface T x) : Calls Try.prog 18 #[.pointer (some ⟨p, 0, none⟩)] w (fun e w' => e = .returned (.slice none 0 0) ∧ w' = w) := by
  obtain ⟨c7, c17, c19, c20, c21⟩ := Pv.cel h
  rw [hp] at c21
  clear h hp c7 c17 c19 c20
  go_enter Try.func18, Try.ntmps18
  go_wp2
  go_ret
  exact ⟨rfl, rfl⟩
set_option maxRecDepth 100000 in
set_option maxHeartbeats 2000000 in
theorem begin_no (p : Nat) (v : Pv) (w : World) (h : Box w p 94 v.cells) (hp : v.ph = .nilIface) (ho : (okN v.n && okN v.rd) = false) : Calls Try.prog 18 #[.pointer (some ⟨p, 0, none⟩)] w (fun e w' => e = .returned (.slice none 0 0) ∧ Box w' p 94 ({ v with ph := phWorn } : Pv).cells ∧ Kept (Only p) w w') := by
  refine hideC fun C HC => ?_
  have HPr : Hid (∀ W, Kept No w W → Calls Try.prog 48 #[.pointer (some ⟨p, 0, none⟩), .int .i64 v.n, .int .i64 v.rd] W (fun e w' => e = .returned (.slice none 0 0) ∧ Box w' p 94 ({ v with ph := phWorn } : Pv).cells ∧ Kept (Only p) W w')) := fun W hk => prepare_no p v v.n v.rd W (h.kept hk (fun e => e)) ho
  obtain ⟨c7, c17, c19, c20, c21⟩ := Pv.cel h
  rw [hp] at c21
  have C1 : Hid (w.cell? ⟨p, 17, none⟩ = some (.int .i64 v.n)) := c17
  have C2 : Hid (w.cell? ⟨p, 20, none⟩ = some (.int .i64 v.rd)) := c20
  clear h hp c7 c17 c19 c20 ho
  go_enter Try.func18, Try.ntmps18
  go_upto_region 3 with fail
  clear c21
  refine wp_region_held_drew (S := fun w' => w'.cell? ⟨p, 17, none⟩ = some (.int .i64 v.n) ∧ w'.cell? ⟨p, 20, none⟩ = some (.int .i64 v.rd)) rfl ⟨C1.out, C2.out⟩ (fun hH => ?_)
  refine xV 0 8 (pV p 0) hH <| xV 1 9 (pV p 0) hH <| xV 2 10 (pV p 0) hH <| xV 3 11 (pV p 17) hH <| xV 4 12 (pV p 17) hH <| xL 5 13 3 ⟨p, 17, none⟩ (.int .i64 v.n) (fun _ hw => load_N hw.1) hH <| ?_
  try simp only [pS]
  refine xV 6 14 (pV p 0) hH <| xV 7 15 (pV p 0) hH <| xV 8 16 (pV p 20) hH <| xL 9 17 3 ⟨p, 20, none⟩ (.int .i64 v.rd) (fun _ hw => load_N hw.2) hH <| ?_
  try simp only [pS]
  refine xC 10 18 48 #[pV p 0, .int .i64 v.n, .int .i64 v.rd] (HPr.out w.drew (Kept.refl No w).drew) ?_
  rintro e w1 ⟨rfl, hb, hk⟩
  have HB : Hid (Box w1 p 94 ({ v with ph := phWorn } : Pv).cells) := hb
  have HK : Hid (Kept (Only p) w w1) := ((Kept.refl (Only p) w).drew).then hk
  refine ⟨.slice none 0 0, rfl, ⟨hb.cell 17, hb.cell 20⟩, fun hH => ?_⟩
  clear hb hk
  try simp only [pS]
  refine xV 11 2 (.slice none 0 0) hH ?_
  try simp only [pS]
  refine wpAnyH_done (by kernel_rfl) ?_ _
  try simp only [pS]
  clear hH
  go_wp2
  rw [HC.out]
  exact ⟨rfl, HB.out, HK.out⟩
theorem movP_self {v : Pv} (h : (okN v.n && okN v.rd) = true) : movP v v.n v.rd = { v with top := max v.top v.n } := by rw [movP_yes h]
set_option maxRecDepth 100000 in
set_option maxHeartbeats 2000000 in
theorem begin_yes (p : Nat) (v : Pv) (zs : List Int) (w : World) (h : Box w p 94 v.cells) (hp : v.ph = .nilIface) (ho : (okN v.n && okN v.rd) = true) (hz : zs.length = v.ga.l) (hn : v.ga.l ≤ 2000000) (hg : Own 3 1 w 0 v.ga.a v.ga.k v.ga.l (zs.map (Value.int .i64))) : Calls Try.prog 18 #[.pointer (some ⟨p, 0, none⟩)] w (PrepOut w p (movP v v.n v.rd) zs) := by
  refine hideC fun C HC => ?_
  have HPr : Hid (∀ W, Kept No w W → Calls Try.prog 48 #[.pointer (some ⟨p, 0, none⟩), .int .i64 v.n, .int .i64 v.rd] W (PrepOut W p (movP v v.n v.rd) zs)) := fun W hk => prepare_yes p v v.n v.rd zs W (h.kept hk (fun e => e)) ho hz hn (hg.no hk)
  have HMs : Hid (movP v v.n v.rd = { v with top := max v.top v.n }) := movP_self ho
  obtain ⟨c7, c17, c19, c20, c21⟩ := Pv.cel h
  rw [hp] at c21
  have C1 : Hid (w.cell? ⟨p, 17, none⟩ = some (.int .i64 v.n)) := c17
  have C2 : Hid (w.cell? ⟨p, 20, none⟩ = some (.int .i64 v.rd)) := c20
  clear h hp c7 c17 c19 c20 ho hz hn hg
  go_enter Try.func18, Try.ntmps18
  go_upto_region 3 with fail
  clear c21
  refine wp_region_held_drew (S := fun w' => w'.cell? ⟨p, 17, none⟩ = some (.int .i64 v.n) ∧ w'.cell? ⟨p, 20, none⟩ = some (.int .i64 v.rd)) rfl ⟨C1.out, C2.out⟩ (fun hH => ?_)
  refine xV 0 8 (pV p 0) hH <| xV 1 9 (pV p 0) hH <| xV 2 10 (pV p 0) hH <| xV 3 11 (pV p 17) hH <| xV 4 12 (pV p 17) hH <| xL 5 13 3 ⟨p, 17, none⟩ (.int .i64 v.n) (fun _ hw => load_N hw.1) hH <| ?_
  try simp only [pS]
  refine xV 6 14 (pV p 0) hH <| xV 7 15 (pV p 0) hH <| xV 8 16 (pV p 20) hH <| xL 9 17 3 ⟨p, 20, none⟩ (.int .i64 v.rd) (fun _ hw => load_N hw.2) hH <| ?_
  try simp only [pS]
  refine xC 10 18 48 #[pV p 0, .int .i64 v.n, .int .i64 v.rd] (HPr.out w.drew (Kept.refl No w).drew) ?_
  rintro e w1 ⟨q, h, b, a, cap, t, tb, ta, tc, la, lc, rfl, g1, g2, g3, g4, g5, g6, g7, g8, g9, g10⟩
  have g2' := g2
  rw [HMs.out] at g2'
  have HA : Hid (PrepOut w p (movP v v.n v.rd) zs (.returned (.slice la zs.length lc)) w1) := ⟨q, h, b, a, cap, t, tb, ta, tc, la, lc, rfl, g1, g2, g3, g4, g5, g6, g7, g8, g9, ((Kept.refl (Only p) w).drew).then g10⟩
  refine ⟨.slice la zs.length lc, rfl, ⟨g2'.cell 17, g2'.cell 20⟩, fun hH => ?_⟩
  clear g1 g2 g2' g3 g4 g5 g6 g7 g8 g9 g10
  try simp only [pS]
  refine xV 11 2 (.slice la zs.length lc) hH ?_
  try simp only [pS]
  refine wpAnyH_done (by kernel_rfl) ?_ _
  try simp only [pS]
  clear hH
  go_wp2
  rw [HC.out]
  exact HA.out

end Go.Proofs.Ytpabpeppgpeaoaa
