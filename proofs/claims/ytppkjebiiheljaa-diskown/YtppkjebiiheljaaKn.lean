import Derived.Test.YtppkjebiiheljaaOk
namespace Go.Proofs.Ytppkjebiiheljaa
open Go.RowKit
set_option linter.unusedVariables false
set_option linter.unusedSimpArgs false

def seven : List Int := 7 :: List.replicate 511 0
theorem seven_len : seven.length = 512 := by unfold seven; rw [List.length_cons, List.length_replicate]
theorem seven_u8 : U8 seven := by
  rw [U8.iff]
  intro x hx
  rcases List.mem_cons.1 hx with rfl | h
  · omega
  · rw [(List.mem_replicate.1 h).2]; omega
theorem seven_set : (u8s zs).setIfInBounds 0 (.int .u8 7) = u8s seven := by
  have : zs = 0 :: List.replicate 511 0 := by unfold zs; rfl
  rw [this]
  unfold seven u8s
  simp only [List.map_cons, List.setIfInBounds_toArray, List.set_cons_zero]
theorem zs_at0 : (u8s zs)[0]? = some (.int .u8 0) := by
  have : zs = 0 :: List.replicate 511 0 := by unfold zs; rfl
  rw [this]
  unfold u8s
  simp only [List.map_cons, List.getElem?_toArray, List.getElem?_cons_zero]

theorem Box.all {q : IntKind} {w : World} {g : Nat} {t : TypeId} {zs : List Int} (h : Box w g t (zs.map (Value.int q)).toArray) : Nums q w (some ⟨g, 0, none⟩) zs := by
  have := h.nums zs.length
  rwa [List.take_length] at this

theorem flat2 (c : Nat → List Int) : flatN 2 c = c 0 ++ c 1 := by unfold flatN; unfold flatN; unfold flatN; rfl

/-- The small disk behind its one write. -/
def knD : DS := wrD (newD 2) 1 seven
theorem knE : wrE (newD 2) 1 512 = 0 := by rfl
theorem knD_c1 : knD.c 1 = seven := by
  unfold knD wrD
  rw [if_neg (by decide), if_neg (by rw [seven_len]; decide)]
  show tornS zs seven 512 = seven
  exact tornS_all zs_len seven_len
theorem knD_N : knD.N = 2 := by
  unfold knD wrD
  rw [if_neg (by decide), if_neg (by rw [seven_len]; decide)]
  rfl
theorem knD_fl : knD.fl = false := by
  unfold knD wrD
  rw [if_neg (by decide), if_neg (by rw [seven_len]; decide)]
  rfl
theorem knD_ok : Ok knD := (Ok.new (by omega) (by omega)).write 1 seven_u8 (by show (0 : Int) + 1 < _; omega)
theorem knD_rd : knD.rd = 0 := by
  unfold knD wrD
  rw [if_neg (by decide), if_neg (by rw [seven_len]; decide)]
  rfl
theorem knD_ref1 : refE knD 1 = 0 := by unfold refE; rw [knD_fl, knD_N]; rfl
theorem knD_ok2 : Ok (rdD knD 1) := knD_ok.read 1 (by rw [knD_rd]; decide)
theorem rdD_N (x : DS) (n : Int) : (rdD x n).N = x.N := by unfold rdD; split <;> rfl
theorem rdD_c (x : DS) (n : Int) : (rdD x n).c = x.c := by unfold rdD; split <;> rfl
theorem rdD_fl (x : DS) (n : Int) : (rdD x n).fl = x.fl := by unfold rdD; split <;> rfl
theorem rdD_pw (x : DS) (n : Int) : (rdD x n).pw = x.pw := by unfold rdD; split <;> rfl
theorem rdD_wr (x : DS) (n : Int) : (rdD x n).wr = x.wr := by unfold rdD; split <;> rfl
theorem knR_N : (rdD knD 1).N = 2 := (rdD_N _ _).trans knD_N
theorem knR_fl : (rdD knD 1).fl = false := (rdD_fl _ _).trans knD_fl
theorem knR_c1 : (rdD knD 1).c 1 = seven := (congrFun (rdD_c _ _) 1).trans knD_c1
theorem knD_ref2 : refE (rdD knD 1) 2 = 31 := by unfold refE; rw [knR_N, knR_fl]; rfl
theorem knR_at : (u8s (flatN (rdD knD 1).N (rdD knD 1).c))[512]? = some (.int .u8 7) := by
  have hl : ((rdD knD 1).c 0).length = 512 := knD_ok2.fine.len 0
  rw [knR_N, flat2, knR_c1]
  generalize (rdD knD 1).c 0 = s at hl
  unfold u8s seven
  rw [List.map_append, List.getElem?_toArray, List.getElem?_append_right (by rw [List.length_map]; omega), List.length_map, hl]
  rfl
theorem knE2 : wrE (rdD knD 1) 2 512 = 31 := by unfold wrE; rw [knD_ref2]; rfl

set_option maxRecDepth 100000 in
set_option maxHeartbeats 2000000 in
theorem known_any (w : World) : Calls Try.prog 9 #[] w fun e w' => e = .returned (.bool true) ∧ Kept No w w' := by
  obtain ⟨d, hd⟩ : ∃ d, d = w.heap.size + 1 := ⟨_, rfl⟩
  obtain ⟨b, hb⟩ : ∃ b, b = w.heap.size := ⟨_, rfl⟩
  have HN := newYes_any 2 w (by omega) (by omega)
  rw [← hd, ← hb] at HN
  have HN' : Hid _ := HN
  have HL : Hid (w.heap.size ≤ d ∧ w.heap.size ≤ b) := ⟨by omega, by omega⟩
  clear HN hd hb
  go_enter Try.func9, Try.ntmps9
  go_wp2_with (first
    | (go_at_call 10
       refine Calls.mono HN'.out ?_
       rintro e w1 ⟨rfl, hd1, hk1⟩
       have HD1 : Hid (Dsk w1 d b (newD 2)) := hd1
       have HK1 : Hid (Kept No w w1) := hk1
       clear hd1 hk1 HN')
    | (go_at_call 16
       refine Calls.mono (sectors_any d b (newD 2) w1 HD1.out) ?_
       rintro e w' ⟨rfl, hw'⟩
       rw [hw', show (newD 2).N = 2 from rfl]
       clear hw' w')
    | (refine wp_make512 rfl rfl ?_
       intro w2 HB2 hk2
       obtain ⟨g, hg⟩ : ∃ g, g = w1.heap.size := ⟨_, rfl⟩
       rw [← hg] at HB2
       rw [← hg]
       have HD2 : Hid (Dsk w2 d b (newD 2)) := HD1.out.no hk2
       have HK2 : Hid (Kept No w w2) := HK1.out.then hk2
       have HG : Hid (w.heap.size ≤ g ∧ d ≠ g ∧ b ≠ g) := ⟨by rw [hg]; exact HK1.out.size, by have := HD1.out.ltd; omega, by have := HD1.out.ltb; omega⟩
       have c0 := HB2.out.cell 0
       rw [zs_at0] at c0
       have f0 := HB2.out.frozen 0
       clear hk2 hg HD1)
    | (go_at_call 25
       have hne := HG.out.2.1
       have hne2 := HG.out.2.2
       have hd3 : Dsk (w2.setCell ⟨g, 0, none⟩ (.int .u8 7)) d b (newD 2) := HD2.out.kept ((Kept.refl (Only g) w2).setCell (fun _ => onlySelf g) _) (fun e => hne e) (fun e => hne2 e)
       have hb3 : Box (w2.setCell ⟨g, 0, none⟩ (.int .u8 7)) g 5 (u8s seven) := by have := HB2.out.set 0 (.int .u8 7); rw [seven_set] at this; exact this
       refine Calls.mono (write_all d b 1 (some ⟨g, 0, none⟩) 512 512 seven (newD 2) _ hd3 (Ok.new (by omega) (by omega)) hb3.all seven_len (by omega) (by omega)) ?_
       rintro e w4 ⟨rfl, hd4, hk4⟩
       rw [knE]
       have HD4 : Hid (Dsk w4 d b knD) := hd4
       have HB4 : Hid (Box w4 g 5 (u8s seven)) := hb3.kept hk4 (by rintro (e | e); exact hne e.symm; exact hne2 e.symm)
       have HK4 : Hid (Kept No w w4) := by
         have := HL.out
         have := HG.out.1
         refine (HK2.out.setCell (fun e => ?_) _).trans hk4 (fun _ e => e) (fun i hi e => ?_)
         · simp only at e; omega
         · rcases e with e | e <;> omega
       clear hd3 hb3 hd4 hk4 HD2 HB2 HK2 c0 f0)
    | (go_at_call 12
       refine Calls.mono (read_all d b 1 knD w4 HD4.out knD_ok) ?_
       rintro e w5 ⟨a5, m5, bs5, rfl, hn5, hl5, hbs5, hat5, hd5, hk5⟩
       rw [knD_ref1]
       rw [if_pos knD_ref1] at hbs5
       have hbs : bs5 = seven := hbs5.trans knD_c1
       subst hbs
       rw [seven_len] at hl5
       subst hl5
       have HN5 : Hid (Nums .u8 w5 a5 seven) := hn5
       have HD5 : Hid (Dsk w5 d b (rdD knD 1)) := hd5
       have HB5 : Hid (Box w5 g 5 (u8s seven)) := HB4.out.kept hk5 (fun e => HG.out.2.1 e.symm)
       have HK5 : Hid (Kept No w w5) := HK4.out.trans hk5 (fun _ e => e) (fun i hi e => by have : i = d := e; have := HL.out; omega)
       clear hn5 hd5 hk5 hbs5 hat5 HD4 HB4 HK4)
    | (go_at_call 23
       obtain ⟨gi, hgi⟩ : ∃ gi, gi = w5.heap.size := ⟨_, rfl⟩
       have hI := image_any d b (rdD knD 1) w5 HD5.out knD_ok2.fine
       rw [← hgi] at hI
       refine Calls.mono hI ?_
       rintro e w6 ⟨rfl, hb6, hk6⟩
       rw [knR_N, show 2 * 512 = 1024 from rfl]
       have c6 := hb6.cell 512
       rw [knR_at] at c6
       have HD6 : Hid (Dsk w6 d b (rdD knD 1)) := HD5.out.no hk6
       have HB6 : Hid (Box w6 g 5 (u8s seven)) := HB5.out.kept hk6 (fun e => e)
       have HN6 : Hid (Nums .u8 w6 a5 seven) := HN5.out.no hk6
       have HK6 : Hid (Kept No w w6) := HK5.out.then hk6
       clear hI hb6 hk6 hgi HD5 HB5 HN5 HK5)
    | (go_at_call 14
       refine Calls.mono (same_any a5 (some ⟨g, 0, none⟩) 512 512 512 512 seven seven w6 HN6.out HB6.out.all seven_u8 seven_u8 seven_len seven_len) ?_
       rintro e w' ⟨rfl, hw'⟩
       rw [hw', decide_eq_true (rfl : seven = seven)]
       clear hw' w')
    | (go_at_call 25
       refine Calls.mono (write_all d b 2 (some ⟨g, 0, none⟩) 512 512 seven (rdD knD 1) w6 HD6.out knD_ok2 HB6.out.all seven_len (by omega) (by omega)) ?_
       rintro e w7 ⟨rfl, hd7, hk7⟩
       rw [knE2]
       have HK7 : Hid (Kept No w w7) := HK6.out.trans hk7 (fun _ e => e) (fun i hi e => by have := HL.out; rcases e with e | e <;> omega)
       clear hd7 hk7))
  all_goals go_ret
  exact ⟨rfl, HK7.out⟩

end Go.Proofs.Ytppkjebiiheljaa
