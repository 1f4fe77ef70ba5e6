import Derived.Test.YtppkjebiiheljaaDq
namespace Go.Proofs.Ytppkjebiiheljaa
open Go.RowKit
set_option linter.unusedVariables false
set_option linter.unusedSimpArgs false

theorem ask65 (w : World) : (callMethod (.iface 65 (.agg #[])) "cairn/disk.ask" #[]).run Try.prog w = .ok (.enter 55 #[.agg #[]]) w := by kernel_rfl
theorem ask79 (v : Value) (w : World) : (callMethod (.iface 79 v) "cairn/disk.ask" #[]).run Try.prog w = .ok (.enter 56 #[v]) w := by kernel_rfl

theorem ask_pw (p : Option (Int × Int)) : ∃ f v, (∀ w, (callMethod (pwV p) "cairn/disk.ask" #[]).run Try.prog w = .ok (.enter f #[v]) w) ∧ ∀ w, Calls Try.prog f #[v] w fun e w' => e = .returned (.tuple #[.bool (holdsP p), .int .i64 (laidP p)]) ∧ Kept No w w' := by
  match p with
  | none => exact ⟨55, .agg #[], ask65, askSteady_any⟩
  | some (l, t) => exact ⟨56, .agg #[.int .i64 l, .int .i64 t], ask79 _, askArmed_any l t⟩

theorem wp_ask {ops : Array Oper} {rest : List Oper} {o : Oper} {a : Act} {w : World} {Q : Exit → Act → World → Prop} (hg : o.guard = none) (x : Operand) (ho : o.op = .call { callee := Callee.invoke x "cairn/disk.ask", args := #[], argTypes := #[] }) (p : Option (Int × Int)) (hx : a.eval x = pwV p)
    (h : ∀ w', Kept No w w' → wpList Try.prog ops Q rest (a.put o.dst (.tuple #[.bool (holdsP p), .int .i64 (laidP p)])) w') : wpList Try.prog ops Q (o :: rest) a w := by
  obtain ⟨f, v, h1, h2⟩ := ask_pw p
  refine wpList_plain hg fun K hK => ?_
  have hrun : (execOp a.eval o).run Try.prog w = .ok (.enter f #[v]) w := by
    simp only [execOp, ho, resolve, invoke, Sem.run_bind, Sem.run_pure, Result.andThen_ok]
    simp [hx, h1]
  unfold Oper.wp
  rw [hrun, Oper.upon_enter]
  refine Calls.mono (h2 w) ?_
  rintro e w' ⟨rfl, hk⟩
  exact hK _ _ (h w' hk)

theorem Try.und22 : Try.prog.underlying 22 = some (.slice 5) := by kernel_rfl
theorem Try.size5 : (Try.prog.info? 5).map (·.size) = some 1 := by kernel_rfl

/-- The first k bytes of the new, the others of the old. -/
def tornS (old new : List Int) (k : Nat) : List Int := new.take k ++ old.drop k
theorem tornS_len (old new : List Int) (k : Nat) (ho : old.length = 512) (hn : new.length = 512) (hk : k ≤ 512) : (tornS old new k).length = 512 := by simp [tornS]; omega

theorem writeNo_any (d b : Nat) (n : Int) (v : Value) (x : DS) (w : World) (h : Dsk w d b x) (he : refE x n ≠ 0) :
    Calls Try.prog 25 #[.pointer (some ⟨d, 0, none⟩), .int .i64 n, v] w fun e w' => e = .returned (.int .i64 (refE x n)) ∧ w' = w := by
  have HR : Hid _ := refusal_any d b x n w h
  clear h
  generalize refE x n = E at he HR
  have he' : (E == 0) = false := by simpa using he
  clear he
  go_enter Try.func25, Try.ntmps25
  go_wp2_with (go_at_call 31; refine Calls.mono HR.out ?_; rintro e w' ⟨rfl, rfl⟩)
  all_goals go_ret
  exact ⟨rfl, rfl⟩

theorem writeLen_any (d b : Nat) (n : Int) (a : Option Addr) (m cap : Nat) (x : DS) (w : World) (h : Dsk w d b x) (he : refE x n = 0) (hm : m ≠ 512) :
    Calls Try.prog 25 #[.pointer (some ⟨d, 0, none⟩), .int .i64 n, .slice a m cap] w fun e w' => e = .returned (.int .i64 32) ∧ w' = w := by
  have HR : Hid _ := he ▸ refusal_any d b x n w h
  clear h he
  have he' : ((m : Int) == 512) = false := by simp; omega
  clear hm
  go_enter Try.func25, Try.ntmps25
  go_wp2_with (go_at_call 31; refine Calls.mono HR.out ?_; rintro e w' ⟨rfl, rfl⟩)
  all_goals go_ret
  exact ⟨rfl, rfl⟩

theorem splice_torn (old new : List Int) (k : Nat) (ho : old.length = 512) (hn : new.length = 512) (hk : k ≤ 512) : (splice (old.map (Value.int .u8)) 0 ((new.take k).map (Value.int .u8))).toArray = u8s (tornS old new k) := by
  simp [splice, tornS, u8s, hn, Nat.min_eq_left hk]

set_option maxRecDepth 100000 in
set_option maxHeartbeats 2000000 in
theorem writeYes_any (d b n : Nat) (a : Option Addr) (cap k : Nat) (bs : List Int) (x : DS) (w : World) (h : Dsk w d b x) (hf : x.fl = false) (hn : n < x.N) (hl : (x.c n).length = 512) (hcap : 512 ≤ cap) (hcap2 : cap ≤ 4611686018427387904) (hb : Nums .u8 w a bs) (hbl : bs.length = 512) (h0 : 0 ≤ x.wr) (h1 : x.wr < 4611686018427387904) (hk : laidP x.pw = k) (hk5 : k ≤ 512)
    (hp : ∀ l t, x.pw = some (l, t) → 0 ≤ l ∧ l ≤ 9223372036854775807) :
    Calls Try.prog 25 #[.pointer (some ⟨d, 0, none⟩), .int .i64 n, .slice a 512 cap] w fun e w' => e = .returned (.int .i64 (if holdsP x.pw then 0 else 5)) ∧ Dsk w' d b { x with c := updC x.c n (tornS (x.c n) bs k), wr := x.wr + 1, pw := spentP x.pw, fl := !holdsP x.pw } ∧ Kept (DB d b) w w' := by
  have HR : Hid _ := refE_zero hf hn ▸ refusal_any d b x n w h
  have HD : Hid (Dsk w d b x) := h
  have HB : Hid (Nums .u8 w a bs) := hb
  have c2 := h.cells.2.2.1
  have hne := h.ne
  have hlt := h.ltd
  have hkc : k ≤ cap := by omega
  have hgd : (gOf x.c n).getD zs = x.c n := gOf_getD x.c n
  have HP : Hid (∀ l t, x.pw = some (l, t) → 0 ≤ l ∧ l ≤ 9223372036854775807) := hp
  have HF : Hid (x.fl = false) := hf
  obtain ⟨hd, hh⟩ : ∃ hd, holdsP x.pw = hd := ⟨_, rfl⟩
  obtain ⟨T, v, hpv⟩ : ∃ T v, pwV (spentP x.pw) = .iface T v := by
    cases spentP x.pw with
    | none => exact ⟨_, _, rfl⟩
    | some p => obtain ⟨l, t⟩ := p; exact ⟨_, _, rfl⟩
  have HV : Hid (pwV (spentP x.pw) = .iface T v) := hpv
  rw [hh]
  clear h hb hf hn hp hpv
  go_enter Try.func25, Try.ntmps25
  go_wp2_with (first
    | (go_at_call 31; refine Calls.mono HR.out ?_; rintro e w' ⟨rfl, hw'⟩; rw [hw']; clear hw' w' HR)
    | (refine wp_ask rfl _ rfl x.pw rfl ?_
       rintro w1 hk1
       rw [hk, hh]
       have HD1 : Hid (Dsk w1 d b x) := HD.out.no hk1
       have HB1 : Hid (Nums .u8 w1 a bs) := HB.out.no hk1
       have HK1 : Hid (Kept (DB d b) w w1) := hk1.of_no
       have c1 := HD1.out.cells.2.1
       clear hk1 HD HB)
    | (refine wp_lookupS rfl _ _ rfl b n rfl rfl (g := gOf x.c) HD1.out.2 ?_; rw [hgd])
    | (obtain ⟨g, hg⟩ : ∃ g, w1.heap.size = g := ⟨_, rfl⟩
       refine wp_allocS rfl rfl g hg ?_
       obtain ⟨w2, hw2⟩ : ∃ w2, w2 = w1.alloc (.cells (u8s zs) 72) := ⟨_, rfl⟩
       rw [← hw2]
       have HZ2 : Hid (Box w2 g 72 (u8s zs)) := by rw [hw2, ← hg]; exact Box.new _ _ _
       have HK2 : Hid (Kept No w1 w2) := by rw [hw2]; exact (Kept.refl No w1).alloc _
       clear hw2)
    | (refine wp_storeS rfl _ _ rfl g (x.c n) rfl rfl hl HZ2.out zs_len ?_
       intro w3 hb3 hk3 hs3
       have HS3 : Hid (Box w3 g 72 (u8s (x.c n))) := hb3
       have HK3 : Hid (Kept (Only g) w2 w3) := hk3
       clear hb3 hk3 hs3))
  refine wp_region_still_tail 4 (by kernel_rfl) (by kernel_rfl) ?_
  simp only [List.take_succ_cons, List.take_zero, List.drop_succ_cons, List.drop_zero]
  change wpStill _ _ w3.drew _ _ _
  still_step
  still_step
  still_step
  still_step
  refine wpStill_nil ?_
  refine wpList_copy_splice rfl (.tmp 34) (.tmp 37) 22 22 rfl 5 Try.und22 Try.size5 (some ⟨g, 0, none⟩) a 512 512 k cap rfl rfl g 0 ((x.c n).map (Value.int .u8)) 72 HS3.out ((bs.take k).map (Value.int .u8)) ?cl ?cp ?cf (num_one .u8 _) g w3.drew ⟨rfl, rfl, rfl, Nat.le_refl _, fun _ _ => rfl⟩ (Nat.le_refl _) ?_
  case cl => simp only [List.length_map, List.length_take, hbl]
  case cp =>
    intro h0
    refine ⟨rfl, ?_⟩
    have HB3 : Nums .u8 w3.drew a bs := (((HB1.out.no HK2.out).kept HK3.out (fun g' off e eo => by
      have hlt' : g' < w1.heap.size := by
        obtain ⟨b', off', e', hc⟩ := HB1.out 0 (by omega)
        rw [e] at e'
        cases e'
        exact World.block_lt_of_cell? w1 _ hc
      have : g' = g := eo
      omega)).no ((Kept.refl No w3).drew))
    have HB4 : Nums .u8 w3.drew a (bs.take k) := by
      intro i hi
      simp only [List.length_take] at hi
      obtain ⟨b', off', e', hc⟩ := HB3 i (by omega)
      refine ⟨b', off', e', ?_⟩
      rw [List.getElem?_take, if_pos (by omega)]
      exact hc
    exact HB4.src h0
  case cf => simp only [List.length_map, List.length_take, hbl, hl, Nat.min_eq_left hk5, Nat.zero_add]; exact hk5
  intro w4 HG4 hbel
  rw [splice_torn _ _ _ hl hbl hk5] at HG4
  have HS4 : Hid (Box w4 g 72 (u8s (tornS (x.c n) bs k))) := HG4.out
  have HK4 : Hid (Kept (fun k => g ≤ k) w1 w4) := by
    have k3 : Kept (fun k => g ≤ k) w1 w3 := HK2.out.trans HK3.out (fun _ e => e.elim) (fun i hi e => by have : i = g := e; omega)
    exact (k3.drew : Kept _ w1 w3.drew).then (below_kept hbel)
  have hltb : b < w1.heap.size := HD1.out.ltb
  have hltd : d < w1.heap.size := HD1.out.ltd
  have HD4 : Hid (Dsk w4 d b x) := HD1.out.kept HK4.out (by omega) (by omega)
  have HKA : Hid (Kept (DB d b) w w4) := HK1.out.trans HK4.out (fun _ e => e) (fun i hi e => by have := HK1.out.size; omega)
  have htl := tornS_len (x.c n) bs k hl hbl hk5
  have c4a := HD4.out.cells.2.2.2.2.2
  clear HK1 HK2 HK3 HK4 HS3 HZ2 HB1 HG4 hbel c1 c2 hgd
  obtain ⟨ts, hts⟩ : ∃ ts, ts = tornS (x.c n) bs k := ⟨_, rfl⟩
  rw [← hts] at HS4 htl
  have HTS : Hid (ts = tornS (x.c n) bs k) := hts
  have HH : Hid (holdsP x.pw = hd) := hh
  clear hts hh
  cases hd
  all_goals (go_wp2_with (first
    | (refine wp_loadS rfl _ rfl g ts rfl htl HS4.out ?_)
    | (go_at_call 32
       refine Calls.mono (put_any d b n ts x w4 HD4.out htl) ?_
       rintro e w5 ⟨rfl, hd5, hk5'⟩
       have HD5 : Hid (Dsk w5 d b { x with c := updC x.c n ts }) := hd5
       have HK5 : Hid (Kept (DB d b) w w5) := HKA.out.trans hk5' (fun _ e => e) (fun _ _ e => .inr e)
       have c5 := hd5.cells.2.2.2.2.2
       have f5 := hd5.1.frozen 5
       obtain ⟨w6, hw6⟩ : ∃ w6, w6 = w5.setCell ⟨d, 5, none⟩ (.int .i64 (x.wr + 1)) := ⟨_, rfl⟩
       have HD6 : Hid (Dsk w6 d b { x with c := updC x.c n ts, wr := x.wr + 1 }) := by rw [hw6]; exact hd5.put 5 _ _ rfl rfl
       have HK6 : Hid (Kept (DB d b) w w6) := by rw [hw6]; exact HK5.out.setCell (fun _ => .inl rfl) _
       have c6 := HD6.out.cells.2.2.1
       rw [hw6] at c6
       clear hd5 hk5' HD4)
    | (go_at_call 37
       rw [← hw6]
       refine Calls.mono (HV.out ▸ spent_any x.pw w6 HP.out) ?_
       rintro e w7 ⟨rfl, hk7⟩
       have HD7 : Hid (Dsk w7 d b { x with c := updC x.c n ts, wr := x.wr + 1 }) := HD6.out.no hk7
       have HK7 : Hid (Kept (DB d b) w w7) := HK6.out.then hk7.of_no
       have c7 := HD7.out.cells.2.2.1
       have f7 := HD7.out.1.frozen 2
       obtain ⟨w8, hw8⟩ : ∃ w8, w8 = w7.setCell ⟨d, 2, none⟩ (.iface T v) := ⟨_, rfl⟩
       have HD8 : Hid (Dsk w8 d b { x with c := updC x.c n ts, wr := x.wr + 1, pw := spentP x.pw }) := by rw [hw8, ← HV.out]; exact HD7.out.put 2 _ _ rfl rfl
       have HK8 : Hid (Kept (DB d b) w w8) := by rw [hw8]; exact HK7.out.setCell (fun _ => .inl rfl) _
       have c8 := HD8.out.cells.2.2.2.1
       have f8 := HD8.out.1.frozen 3
       rw [hw8] at c8 f8
       clear hk7 hw6)))
  · go_ret
    rw [← hw8, ← HTS.out]
    exact ⟨rfl, HD8.out.put 3 (.bool true) _ rfl rfl, HK8.out.setCell (fun _ => .inl rfl) _⟩
  · go_ret
    rw [← hw8, ← HTS.out]
    have := HD8.out
    rw [HF.out] at this
    exact ⟨rfl, this, HK8.out⟩

end Go.Proofs.Ytppkjebiiheljaa
