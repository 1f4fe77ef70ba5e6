import Derived.Test.YtgiokkcdgoloaabHg
namespace Go.Proofs.Ytgiokkcdgoloaab
open Go.RowKit
set_option linter.unusedVariables false
set_option linter.unusedSimpArgs false

section
attribute [local go_sem ↓] loadS_eq storeB_eq storeR_eq allocB_eq allocR_eq loadR_eq
attribute [local go_sem] run_allocB run_allocR

set_option maxRecDepth 100000 in
set_option maxHeartbeats 4000000 in
theorem takeA_layR (m : Nat) (a : Option Addr) (cap : Nat) (x : MS) (av : Value) (tb bb ct : Nat) (at' : Option Addr) (X : TS Bk) (d : MD) (kn kc : Int) (kz : List Int) (w : World) (hM : Mach w m a cap x 150 (.agg #[.iface 93 av, .pointer (some ⟨tb, 0, none⟩)])) (hT : Tal 153 ansB w tb bb at' ct X) (hok : MdOk d) (hhit : hitB x 11 d = true)
    (hmk : ∀ w, (method 280 93 av "cairn/register.keep").run Try.prog w = .ok (66, av) w) (hms : ∀ w, (method 280 93 av "cairn/register.settle").run Try.prog w = .ok (98, av) w) (hkp : ∀ wr, Kept No w wr → Calls Try.prog 66 #[av, .agg d.cells] wr (KeepOut wr kn kc kz)) (htb : takeB X d.fi = true) (hd : ∀ k, MB m a k → ¬ Tb2 tb bb k)
    (hcn : ∀ b, 2 ≤ cnt (takeS X d.fi b) ∧ cnt (takeS X d.fi b) ≤ 2000000000000)
    (pn pc : Bk → Int) (pa : Bk → Option Addr) (pl pk : Bk → Nat) (sn sc : Bk → Int) (da : Bk → Option Addr) (dl dc : Bk → Nat)
    (pz : Bk → List Int) (hpz : ∀ ka kk, (pz ⟨kn, kc, ka, kz.length, kk⟩).length = pl ⟨kn, kc, ka, kz.length, kk⟩ ∧ pl ⟨kn, kc, ka, kz.length, kk⟩ ≤ 140737488355328) (hpb : ∀ ka kk wr, Kept (Tb2 tb bb) w wr → OwnB wr w.heap.size ka kk kz → Bytes wr (pa ⟨kn, kc, ka, kz.length, kk⟩) (pz ⟨kn, kc, ka, kz.length, kk⟩) ∧ ¬ At (pa ⟨kn, kc, ka, kz.length, kk⟩) m) (hrd : x.rd < 1099511627776) (hrd0 : 0 ≤ x.rd) (hgl : x.g.length ≤ 400000000000)
    (hset : ∀ b, b.n = kn → b.c = kc → ∀ wr, Calls Try.prog 98 #[av, bkV (bestP ((gotL (takeS X d.fi b)).map Prod.snd)), .bool (!((gotL (takeS X d.fi b)).map Prod.snd).any (otherB (bestP ((gotL (takeS X d.fi b)).map Prod.snd))))] wr (SettleOut wr (pn b) (pc b) (pa b) (pl b) (pk b) 0 (sn b) (sc b) (da b) (dl b) (dc b) false)) :
    Calls Try.prog 84 #[.agg #[.iface 93 av, .pointer (some ⟨tb, 0, none⟩)], .pointer (some ⟨m, 0, none⟩), .agg d.cells] w (TakeLay w m a cap x tb bb ct at' X d.fi kn kc kz pn pc pa pl pk sn sc da dl dc pz) := by
  have HM : Hid (Mach w m a cap x 150 (.agg #[.iface 93 av, .pointer (some ⟨tb, 0, none⟩)])) := hM
  have HT : Hid (Tal 153 ansB w tb bb at' ct X) := hT
  have HOk : Hid (MdOk d) := hok
  have HH : Hid (hitB x 11 d = true) := hhit
  have HKp : Hid (∀ wr, Kept No w wr → Calls Try.prog 66 #[av, .agg d.cells] wr (KeepOut wr kn kc kz)) := hkp
  have HTb : Hid (takeB X d.fi = true) := htb
  have HDj : Hid (∀ k, MB m a k → ¬ Tb2 tb bb k) := hd
  clear hM hT hhit hkp htb hd
  obtain ⟨w1, hw1⟩ : ∃ w1, w1 = (w.alloc (.cells #[.iface 93 av, .pointer (some ⟨tb, 0, none⟩)] 150)).alloc (.cells d.cells 73) := ⟨_, rfl⟩
  obtain ⟨N, hN⟩ : ∃ N, N = w.heap.size := ⟨_, rfl⟩
  have HNN : Hid (N = w.heap.size) := hN
  have HK1 : Hid (Kept No w w1) := by rw [hw1]; exact ((Kept.refl No w).alloc _).alloc _
  have HX0 : Hid (Box w1 N 150 #[.iface 93 av, .pointer (some ⟨tb, 0, none⟩)]) := by rw [hw1, hN]; exact (Box.new _ _ _).alloc _
  have HX1 : Hid (Box w1 (N + 1) 73 d.cells) := by
    have h := Box.new (w.alloc (.cells #[.iface 93 av, .pointer (some ⟨tb, 0, none⟩)] 150)) 73 d.cells
    have e : (w.alloc (.cells #[.iface 93 av, .pointer (some ⟨tb, 0, none⟩)] 150)).heap.size = w.heap.size + 1 := by simp
    rw [e] at h
    rw [hw1, hN]
    exact h
  have HXc : Hid (∀ wr, Kept (Tb2 tb bb) w1 wr → (wr.cell? ⟨N, 0, none⟩ = some (.iface 93 av) ∧ wr.cell? ⟨N, 1, none⟩ = some (.pointer (some ⟨tb, 0, none⟩)) ∧ wr.cell? ⟨N + 1, 2, none⟩ = some (.int .i64 d.fi)) ∧ Box wr (N + 1) 73 d.cells) := fun wr hk => by
    have hlt1 := HT.out.box.lt
    have hlt2 := HT.out.map.lt
    have hn := HNN.out
    have h0 := HX0.out.kept hk (fun e => by rcases e with e | e <;> omega)
    have h1 := HX1.out.kept hk (fun e => by rcases e with e | e <;> omega)
    exact ⟨⟨h0.cell 0, h0.cell 1, md_at h1 2 (by omega)⟩, h1⟩
  have HCn : Hid (∀ b, 2 ≤ cnt (takeS X d.fi b) ∧ cnt (takeS X d.fi b) ≤ 2000000000000) := hcn
  have HSet : Hid (∀ b, b.n = kn → b.c = kc → ∀ wr, Calls Try.prog 98 #[av, bkV (bestP ((gotL (takeS X d.fi b)).map Prod.snd)), .bool (!((gotL (takeS X d.fi b)).map Prod.snd).any (otherB (bestP ((gotL (takeS X d.fi b)).map Prod.snd))))] wr (SettleOut wr (pn b) (pc b) (pa b) (pl b) (pk b) 0 (sn b) (sc b) (da b) (dl b) (dc b) false)) := hset
  have HPz : Hid _ := hpz
  have HPb : Hid _ := hpb
  clear hcn hset hpz hpb
  go_enter Try.func84, Try.ntmps84
  go_upto_region 1 with (refine wp_boxV rfl 73 _ rfl d.cells rfl (w.heap.size + 1) (by simp) ?_)
  rw [← hw1, ← hN]
  clear hw1 hN
  obtain ⟨⟨x0, x1, x2⟩, x3⟩ := HXc.out w1 (Kept.refl _ _)
  have x4 : Box w1.drew (N + 1) 73 d.cells := x3
  have HKr : Hid (Kept No w1 w1.drew) := (Kept.refl No w1).drew
  have hld : ∀ w', Box w' (N + 1) 73 d.cells → Sem.run Try.prog (loadS ⟨N + 1, 0, none⟩) w' = .ok (.agg d.cells) w' := fun w' hb => run_loadS _ d w' hb hok
  go_region_held3 (fun w' => (w'.cell? ⟨N, 0, none⟩ = some (.iface 93 av) ∧ w'.cell? ⟨N, 1, none⟩ = some (.pointer (some ⟨tb, 0, none⟩)) ∧ w'.cell? ⟨N + 1, 2, none⟩ = some (.int .i64 d.fi)) ∧ Box w' (N + 1) 73 d.cells) (go_keep) (first
    | (go_at_call 86
       refine Calls.mono (answered_any m a cap x _ _ d 11 w1.drew (HM.out.no (HK1.out.then HKr.out))) ?_
       rintro e w2 ⟨rfl, hk2⟩
       rw [HH.out]
       have HK2 : Hid (Kept No w1 w2) := HKr.out.then hk2
       obtain ⟨⟨y0, y1, y2⟩, y3⟩ := HXc.out w2 HK2.out.of_no
       clear hk2)
    | (go_at_call 66
       refine Calls.mono (HKp.out w2 (HK1.out.then HK2.out)) ?_
       rintro e w3 ⟨ka, kk, rfl, hO3, hk3⟩
       have HK3 : Hid (Kept No w1 w3) := HK2.out.then hk3
       have HO3 : Hid (OwnB w3 w2.heap.size ka kk kz) := hO3
       obtain ⟨⟨z0, z1, z2⟩, z3⟩ := HXc.out w3 HK3.out.of_no
       clear hO3 hk3)
    | (go_at_call 83
       refine Calls.mono (take_anyB tb bb ct at' X d.fi ⟨kn, kc, ka, kz.length, kk⟩ w3 (HT.out.no (HK1.out.then HK3.out))) ?_
       rintro e w4 ⟨rfl, hT4, hk4⟩
       rw [HTb.out]
       have HT4 : Hid (Tal 153 ansB w4 tb bb at' ct (takeS X d.fi ⟨kn, kc, ka, kz.length, kk⟩)) := hT4
       have HK4 : Hid (Kept (Tb2 tb bb) w w4) := ((HK1.out.then HK3.out).of_no).then hk4
       have HK14 : Hid (Kept (Tb2 tb bb) w1 w4) := HK3.out.of_no.then hk4
       have HO4 : Hid (OwnB w4 w.heap.size ka kk kz) := by
         have hlt1 := HT.out.box.lt
         have hlt2 := HT.out.map.lt
         have hs := (HK1.out.then HK2.out).size
         exact Own.lower (HO3.out.kept hk4 (fun k hk e => by have := HO3.out.base hk; rcases e with e | e <;> omega)) hs
       obtain ⟨⟨u0, u1, u2⟩, u3⟩ := HXc.out w4 HK14.out
       clear hT4 hk4))
  have HIN : Hid (IsN N (.iface 93 av) (.pointer (some ⟨tb, 0, none⟩)) w4) := by
    have hlt1 := HT.out.box.lt
    have hlt2 := HT.out.map.lt
    have hn := HNN.out
    exact HX0.out.kept HK14.out (fun e => by rcases e with e | e <;> omega)
  clear x0 x1 x2 x3 x4 y0 y1 y2 y3 z0 z1 z2 z3 u0 u1 u2 u3 hld hmk
  generalize HB : (⟨kn, kc, ka, kz.length, kk⟩ : Bk) = bk at HT4
  have HCn' := HCn.out bk
  have HSet' := HSet.out bk (by rw [← HB]) (by rw [← HB])
  generalize hX' : takeS X d.fi bk = X' at HT4 HCn' HSet'
  generalize hg : bestP ((gotL X').map Prod.snd) = g at HSet'
  generalize hal : (!((gotL X').map Prod.snd).any (otherB g)) = al at HSet'
  have HGr : Hid (∀ wr, Kept No w4 wr → Calls Try.prog 87 #[.pointer (some ⟨tb, 0, none⟩)] wr (fun e w' => e = .returned (.tuple #[.agg #[.int .i64 g.n, .int .i64 g.c, .slice g.a g.l g.k], .bool al]) ∧ Kept No wr w')) := fun wr hk => by
    refine (greatest_any tb bb ct at' X' wr (HT4.out.no hk) HCn'.2 HCn'.1).mono ?_
    rintro e w' ⟨rfl, hk'⟩
    rw [hg, hal]
    exact ⟨rfl, hk'⟩
  have HSt : Hid (∀ wr, Calls Try.prog 98 #[av, .agg #[.int .i64 g.n, .int .i64 g.c, .slice g.a g.l g.k], .bool al] wr (SettleOut wr (pn bk) (pc bk) (pa bk) (pl bk) (pk bk) 0 (sn bk) (sc bk) (da bk) (dl bk) (dc bk) false)) := HSet'
  obtain ⟨g1, g2, g3, g4, g5⟩ := g
  simp only at HGr HSt
  clear HSet' hg hal HSet HCn
  obtain ⟨pn', epn⟩ : ∃ q, q = pn bk := ⟨_, rfl⟩
  obtain ⟨pc', epc⟩ : ∃ q, q = pc bk := ⟨_, rfl⟩
  obtain ⟨pa', epa⟩ : ∃ q, q = pa bk := ⟨_, rfl⟩
  obtain ⟨pl', epl⟩ : ∃ q, q = pl bk := ⟨_, rfl⟩
  obtain ⟨pk', epk⟩ : ∃ q, q = pk bk := ⟨_, rfl⟩
  obtain ⟨sn', esn⟩ : ∃ q, q = sn bk := ⟨_, rfl⟩
  obtain ⟨sc', esc⟩ : ∃ q, q = sc bk := ⟨_, rfl⟩
  obtain ⟨da', eda⟩ : ∃ q, q = da bk := ⟨_, rfl⟩
  obtain ⟨dl', edl⟩ : ∃ q, q = dl bk := ⟨_, rfl⟩
  obtain ⟨dc', edc⟩ : ∃ q, q = dc bk := ⟨_, rfl⟩
  rw [← epn, ← epc, ← epa, ← epl, ← epk, ← esn, ← esc, ← eda, ← edl, ← edc] at HSt
  have Hpp : Hid (pn' = pn bk ∧ pc' = pc bk ∧ pa' = pa bk ∧ pl' = pl bk ∧ pk' = pk bk ∧ sn' = sn bk ∧ sc' = sc bk ∧ da' = da bk ∧ dl' = dl bk ∧ dc' = dc bk) := ⟨epn, epc, epa, epl, epk, esn, esc, eda, edl, edc⟩
  have HBk : Hid ((⟨kn, kc, ka, kz.length, kk⟩ : Bk) = bk) := HB
  have HX' : Hid (takeS X d.fi bk = X') := hX'
  clear HB hX' epn epc epa epl epk esn esc eda edl edc
  go_upto_region 3 with fail
  go_cut [7, 8, 9] from 10 (fun s7 s8 s9 wc => ∃ P R, s7 = .pointer (some ⟨P, 0, none⟩) ∧ s8 = .pointer (some ⟨R, 0, none⟩) ∧ s9 = .bool false ∧ Hid (Box wc P 31 #[.int .i64 pn', .int .i64 pc', .slice pa' pl' pk'] ∧ Box wc R 39 (resC 0 sn' sc' da' dl' dc') ∧ Kept No w4 wc))
  case first =>
    rename_i J0 K0 hJ0 hK0
    have hN4 : IsN N (.iface 93 av) (.pointer (some ⟨tb, 0, none⟩)) w4 := HIN.out
    have hN4d : IsN N (.iface 93 av) (.pointer (some ⟨tb, 0, none⟩)) w4.drew := HIN.out
    have HKr : Hid (Kept No w4 w4.drew) := (Kept.refl No w4).drew
    have l1 := Is57.new
    have l2 := Is90.new
    have l3 := @Is57.al
    have l4 := @Is90.al
    have l5 := @Is90.row
    have l6 : ∀ {w : World} {p : Nat} (cs : Array Value), Is57 w p → Is90 ((al90 w).setRow p cs) w.heap.size := fun cs h => (Is90.new _).row h.al cs
    have l7 : ∀ {w : World} {g : Nat} (cs : Array Value), Is90 w g → Is90 ((al57 w).setRow w.heap.size cs) g := fun cs h => h.al.row (Is57.new _) cs
    have m1 := @IsN.al57
    have m2 := @IsN.al90
    have m3 := @IsN.row57
    have m4 := @IsN.row90
    have m5 : ∀ {w : World}, IsN N (.iface 93 av) (.pointer (some ⟨tb, 0, none⟩)) w → w.cell? ⟨N, 0, none⟩ = some (.iface 93 av) := fun h => h.c0
    have m6 : ∀ {w : World}, IsN N (.iface 93 av) (.pointer (some ⟨tb, 0, none⟩)) w → w.cell? ⟨N, 1, none⟩ = some (.pointer (some ⟨tb, 0, none⟩)) := fun h => h.c1
    have r1 := @run_storeB
    have r2 : ∀ {w : World} {g : Nat}, Is90 w g → Sem.run Try.prog (storeR ⟨g, 0, none⟩ (.agg #[.int .i64 0, .string ⟨#[]⟩, .int .i64 0, .int .i64 0, .int .i64 0, .slice none 0 0, .slice da' dl' dc', .int .i64 0, .int .i64 sn', .int .i64 sc', .int .i64 0])) w = .ok () (w.setRow g #[.int .i64 0, .string ⟨#[]⟩, .int .i64 0, .int .i64 0, .int .i64 0, .slice none 0 0, .slice da' dl' dc', .int .i64 0, .int .i64 sn', .int .i64 sc', .int .i64 0]) := fun h => run_storeR' h _ rfl (resC_one 0 sn' sc' da' dl' dc')
    have ka57 : ∀ {a b : World}, Kept No a b → Kept No a (al57 b) := fun h => h.alloc _
    have ka90 : ∀ {a b : World}, Kept No a b → Kept No a (al90 b) := fun h => h.alloc _
    have HKa : Hid (∀ {a b : World}, Kept No a b → Kept No a (al57 b) ∧ Kept No a (al90 b)) := fun h => ⟨ka57 h, ka90 h⟩
    clear ka57 ka90
    go_region_held3 (fun w' => IsN N (.iface 93 av) (.pointer (some ⟨tb, 0, none⟩)) w') (first | assumption | simp (config := { maxDischargeDepth := 8 }) [*]) (first
      | (go_at_call 87
         refine Calls.mono (HGr.out _ (by first | exact HKr.out | exact (HKa.out HKr.out).1 | exact (HKa.out HKr.out).2 | exact (HKa.out (HKa.out HKr.out).1).2 | exact (HKa.out (HKa.out HKr.out).2).1)) ?_
         rintro e w5 ⟨rfl, hk5⟩
         have HK5 : Hid (Kept No w4 w5) := by first | exact HKr.out.then hk5 | exact (HKa.out HKr.out).1.then hk5 | exact (HKa.out HKr.out).2.then hk5 | exact (HKa.out (HKa.out HKr.out).1).2.then hk5 | exact (HKa.out (HKa.out HKr.out).2).1.then hk5
         have i57 := fun g (h : Is57 _ g) => (Box.kept h hk5 (fun e => e) : Is57 w5 g)
         have i90 := fun g (h : Is90 _ g) => (Box.kept h hk5 (fun e => e) : Is90 w5 g)
         try (have qA1 : Is57 w5 w4.heap.size := i57 _ (by first | exact Is57.new w4.drew | exact (Is57.new w4.drew).al))
         try (have qA2 : Is57 w5 (al90 w4.drew).heap.size := i57 _ (Is57.new (al90 w4.drew)))
         try (have qB1 : Is90 w5 w4.heap.size := i90 _ (by first | exact Is90.new w4.drew | exact (Is90.new w4.drew).al))
         try (have qB2 : Is90 w5 (al57 w4.drew).heap.size := i90 _ (Is90.new (al57 w4.drew)))
         clear i57 i90
         have hN5 : IsN N (.iface 93 av) (.pointer (some ⟨tb, 0, none⟩)) w5 := HIN.out.kept HK5.out (fun e => e)
         clear hk5)
      | (go_at_call 98
         refine Calls.mono (HSt.out _) ?_
         rintro e w6 ⟨rfl, hk6⟩
         have HK6 : Hid (Kept No w4 w6) := by first | exact HK5.out.then hk6 | exact (HKa.out HK5.out).1.then hk6 | exact (HKa.out HK5.out).2.then hk6 | exact (HKa.out (HKa.out HK5.out).1).2.then hk6 | exact (HKa.out (HKa.out HK5.out).2).1.then hk6
         have j57 := fun g (h : Is57 _ g) => (Box.kept h hk6 (fun e => e) : Is57 w6 g)
         have j90 := fun g (h : Is90 _ g) => (Box.kept h hk6 (fun e => e) : Is90 w6 g)
         try (have rA1 : Is57 w6 w4.heap.size := j57 _ (by first | exact qA1 | exact qA1.al))
         try (have rA2 : Is57 w6 (al90 w4.drew).heap.size := j57 _ (by first | exact qA2 | exact qA2.al))
         try (have rB1 : Is90 w6 w4.heap.size := j90 _ (by first | exact qB1 | exact qB1.al))
         try (have rB2 : Is90 w6 (al57 w4.drew).heap.size := j90 _ (by first | exact qB2 | exact qB2.al))
         try (have sA1 : Is57 w6 w5.heap.size := j57 _ (by first | exact Is57.new w5 | exact (Is57.new w5).al))
         try (have sA2 : Is57 w6 (al90 w5).heap.size := j57 _ (Is57.new (al90 w5)))
         try (have sB1 : Is90 w6 w5.heap.size := j90 _ (by first | exact Is90.new w5 | exact (Is90.new w5).al))
         try (have sB2 : Is90 w6 (al57 w5).heap.size := j90 _ (Is90.new (al57 w5)))
         clear j57 j90
         have hN6 : IsN N (.iface 93 av) (.pointer (some ⟨tb, 0, none⟩)) w6 := HIN.out.kept HK6.out (fun e => e)
         unfold resC
         clear hk6))
    all_goals (refine hK0 _ _ (Met.intro (hJ0 _ _ ?_)); (repeat apply Exists.intro); refine ⟨?_, rfl⟩)
    all_goals (
      have hs5 := HK5.out.size
      have hs6 := HK6.out.size
      have hd4 : w4.drew.heap.size = w4.heap.size := rfl
      refine ⟨_, _, rfl, rfl, rfl, fin2 (by first | assumption | exact Is57.new _ | exact (Is57.new _).al | exact Is57.al (by assumption)) (by first | assumption | exact Is90.new _ | exact (Is90.new _).al | exact Is90.al (by assumption)) (by first | exact HK6.out | exact (HKa.out HK6.out).1 | exact (HKa.out HK6.out).2 | exact (HKa.out (HKa.out HK6.out).1).2 | exact (HKa.out (HKa.out HK6.out).2).1) (by (try simp only [al57_size, al90_size]); omega) (by (try simp only [al57_size, al90_size]); omega) _ _⟩)
  case rest =>
    obtain ⟨P, R, rfl, rfl, rfl, HF⟩ := hcut
    have HP : Hid (Box wc P 31 #[.int .i64 pn', .int .i64 pc', .slice pa' pl' pk']) := HF.out.1
    have HR : Hid (Box wc R 39 #[.int .i64 0, .string ⟨#[]⟩, .int .i64 0, .int .i64 0, .int .i64 0, .slice none 0 0, .slice da' dl' dc', .int .i64 0, .int .i64 sn', .int .i64 sc', .int .i64 0]) := HF.out.2.1
    have HKc : Hid (Kept No w4 wc) := HF.out.2.2
    clear HF
    have HKw : Hid (Kept (Tb2 tb bb) w wc) := HK4.out.then HKc.out.of_no
    have HMc : Hid (Mach wc m a cap x 150 (.agg #[.iface 93 av, .pointer (some ⟨tb, 0, none⟩)])) := HM.out.kept HKw.out HDj.out
    have m8 : wc.cell? ⟨m, 8, none⟩ = some (.int .i64 x.rd) := HMc.out.box.cell 8
    have f8 := HMc.out.box.frozen 8
    have hne : (x.rd == 1099511627776) = false := by simp; omega
    obtain ⟨wd, hwd⟩ : ∃ wd, wd = wc.setCell ⟨m, 8, none⟩ (.int .i64 (x.rd + 1)) := ⟨_, rfl⟩
    have HMd : Hid (Mach wd m a cap { x with rd := x.rd + 1 } 150 (.agg #[.iface 93 av, .pointer (some ⟨tb, 0, none⟩)])) := by rw [hwd]; exact HMc.out.setRd _
    have hPm : P ≠ m := fun e => box_ne HP.out HMc.out.box (by decide) e
    have hRm : R ≠ m := fun e => box_ne HR.out HMc.out.box (by decide) e
    have HPd : Hid (Box wd P 31 #[.int .i64 pn', .int .i64 pc', .slice pa' pl' pk']) := by rw [hwd]; exact HP.out.other (p := ⟨m, 8, none⟩) hPm _
    have HRd : Hid (Box wd R 39 #[.int .i64 0, .string ⟨#[]⟩, .int .i64 0, .int .i64 0, .int .i64 0, .slice none 0 0, .slice da' dl' dc', .int .i64 0, .int .i64 sn', .int .i64 sc', .int .i64 0]) := by rw [hwd]; exact HR.out.other (p := ⟨m, 8, none⟩) hRm _
    have HKd : Hid (Kept (Only m) wc wd) := by rw [hwd]; exact (Kept.refl (Only m) wc).setCell (p := ⟨m, 8, none⟩) (fun _ => rfl) _
    have HRdn : Hid (x.rd < 1099511627776 ∧ 0 ≤ x.rd) := ⟨hrd, hrd0⟩
    clear hPm hRm
    go_upto_region 9 with fail
    rw [← hwd]
    clear hwd m8 f8 hne
    have HXd : Hid (∀ wr, Kept No wd wr → (wr.cell? ⟨P, 0, none⟩ = some (.int .i64 pn') ∧ wr.cell? ⟨P, 1, none⟩ = some (.int .i64 pc') ∧ wr.cell? ⟨P, 2, none⟩ = some (.slice pa' pl' pk') ∧ wr.cell? ⟨m, 7, none⟩ = some (.slice a x.g.length cap)) ∧ Box wr R 39 #[.int .i64 0, .string ⟨#[]⟩, .int .i64 0, .int .i64 0, .int .i64 0, .slice none 0 0, .slice da' dl' dc', .int .i64 0, .int .i64 sn', .int .i64 sc', .int .i64 0]) := fun wr hk => by
      have h1 := HPd.out.kept hk (fun e => e)
      have h2 := HRd.out.kept hk (fun e => e)
      have h3 := (HMd.out.no hk).box
      exact ⟨⟨h1.cell 0, h1.cell 1, h1.cell 2, h3.cell 7⟩, h2⟩
    obtain ⟨⟨x0, x1, x2, x3⟩, x4⟩ := HXd.out wd (Kept.refl _ _)
    have x5 : Box wd.drew R 39 #[.int .i64 0, .string ⟨#[]⟩, .int .i64 0, .int .i64 0, .int .i64 0, .slice none 0 0, .slice da' dl' dc', .int .i64 0, .int .i64 sn', .int .i64 sc', .int .i64 0] := x4
    have HKr : Hid (Kept No wd wd.drew) := (Kept.refl No wd).drew
    have hld : ∀ w', Box w' R 39 #[.int .i64 0, .string ⟨#[]⟩, .int .i64 0, .int .i64 0, .int .i64 0, .slice none 0 0, .slice da' dl' dc', .int .i64 0, .int .i64 sn', .int .i64 sc', .int .i64 0] → Sem.run Try.prog (loadR ⟨R, 0, none⟩) w' = .ok (.agg #[.int .i64 0, .string ⟨#[]⟩, .int .i64 0, .int .i64 0, .int .i64 0, .slice none 0 0, .slice da' dl' dc', .int .i64 0, .int .i64 sn', .int .i64 sc', .int .i64 0]) w' := fun w' hb => load90_run hb rfl
    have HNd : Hid x.g.Nodup := HMc.out.nd
    have hT4d : Tal 153 ansB wd tb bb at' ct X' := (HT4.out.no HKc.out).kept HKd.out (fun k hk e => by
      have : k = m := e
      subst this
      rcases hk with h | h | h
      · exact HDj.out k (.inl rfl) (.inl h)
      · exact HDj.out k (.inl rfl) (.inr h)
      · exact box_row HMc.out.box (by decide) (HT4.out.no HKc.out).row h rfl)
    have HT4d : Hid (Tal 153 ansB wd tb bb at' ct X') := hT4d
    have HO4d : Hid (OwnB wd w.heap.size ka kk kz) := (HO4.out.no HKc.out).kept HKd.out (fun k hk e => box_row HMc.out.box (by decide) (HO4.out.no HKc.out) hk e)
    have HKwd : Hid (Kept (fun k => k = m ∨ Tb2 tb bb k) w wd) := (HKw.out.mono (fun i _ e => .inr e)).then (HKd.out.mono (fun i _ e => .inl e))
    have hpz := HPz.out ka kk
    have hpb := HPb.out ka kk wc HKw.out (HO4.out.no HKc.out)
    rw [HBk.out, ← Hpp.out.2.2.2.1] at hpz
    rw [HBk.out, ← Hpp.out.2.2.1] at hpb
    have HPzz : Hid ((pz bk).length = pl' ∧ pl' ≤ 140737488355328) := hpz
    have HPbb : Hid (Bytes wd pa' (pz bk) ∧ ¬ At pa' m) := ⟨hpb.1.kept HKd.out (fun b off e h => hpb.2 ⟨_, e, h⟩), hpb.2⟩
    have HGl : Hid (x.g.length ≤ 400000000000) := hgl
    have HML : Hid (m < w.heap.size) := HM.out.box.lt
    clear hpz hpb hT4d
    go_region_held3 (fun w' => (w'.cell? ⟨P, 0, none⟩ = some (.int .i64 pn') ∧ w'.cell? ⟨P, 1, none⟩ = some (.int .i64 pc') ∧ w'.cell? ⟨P, 2, none⟩ = some (.slice pa' pl' pk') ∧ w'.cell? ⟨m, 7, none⟩ = some (.slice a x.g.length cap)) ∧ Box w' R 39 #[.int .i64 0, .string ⟨#[]⟩, .int .i64 0, .int .i64 0, .int .i64 0, .slice none 0 0, .slice da' dl' dc', .int .i64 0, .int .i64 sn', .int .i64 sc', .int .i64 0]) (go_keep) (first
      | (go_at_call 78
         refine Calls.mono (need_any m a cap _ _ _ wd.drew (HMd.out.no HKr.out)) ?_
         rintro e w7 ⟨rfl, rfl⟩)
      | (go_at_call 42
         refine Calls.mono (new_anyU a x.g.length cap x.g (needI x) wd.drew rfl (by have := HGl.out; omega) ((HMd.out.no HKr.out).row.nums rfl)) ?_
         rintro e w8 ⟨ua, ut, rfl, hT8, hf8, hk8⟩
         have hf8' : ∀ k, TB (wd.drew.heap.size + 1) wd.drew.heap.size ua k → wd.drew.heap.size ≤ k := by
           rintro k (rfl | rfl | hk)
           · omega
           · omega
           · exact hf8 k hk
         clear hf8
         have hsz : wd.drew.heap.size = wd.heap.size := rfl
         generalize wd.drew.heap.size + 1 = ub at hT8 hf8' ⊢
         generalize wd.drew.heap.size = ubb at hT8 hf8' hsz ⊢
         have HT8 : Hid (Tal 117 ansU w8 ub ubb ua ut (tNew Unit x.g (needI x))) := hT8
         have HF8 : Hid (∀ k, TB ub ubb ua k → wd.heap.size ≤ k) := by rw [← hsz]; exact hf8'
         have HK8 : Hid (Kept No wd w8) := HKr.out.then hk8
         obtain ⟨⟨y0, y1, y2, y3⟩, y4⟩ := HXd.out w8 HK8.out
         clear hT8 hf8' hk8 hsz)
      | (go_at_call 75
         refine Calls.mono (enterL_any m a cap { x with rd := x.rd + 1 } _ _ pn' pc' pa' pl' pk' 0 sn' sc' da' dl' dc' ub ubb ut ua (tNew Unit x.g (needI x)) (pz bk) w8 (HMd.out.no HK8.out) HT8.out (by show (uq x.g).length ≤ _; have := uq_len x.g; have := HGl.out; omega) HPzz.out.1 HPzz.out.2 (HPbb.out.1.no HK8.out) (fun e => by have := HF8.out m e; have := HML.out; have := HKwd.out.size; omega) HPbb.out.2) ?_
         rw [missL_new, uq_self HNd.out]
         rintro e w9 ⟨a9, c9, qs, rfl, hq, hm9, hM9, hk9⟩
         have HQ : Hid (qs.map Qm.sv = x.g) := hq
         have HM9 : Hid (Msgs w9 w8.heap.size a9 c9 { x with rd := x.rd + 1 } ⟨2, pn', pc', pl'⟩ (pz bk) qs) := hm9
         have HMM9 : Hid (Mach w9 m a cap { x with rd := x.rd + 1 } 163 (layV pn' pc' pa' pl' pk' 0 sn' sc' da' dl' dc' ub)) := hM9
         have HK9 : Hid (Kept (Only m) w8 w9) := hk9
         have hPm : P ≠ m := fun e => box_ne HPd.out HMd.out.box (by decide) e
         have hRm : R ≠ m := fun e => box_ne HRd.out HMd.out.box (by decide) e
         have z0 : w9.cell? ⟨P, 0, none⟩ = some (.int .i64 pn') := hk9.cell y0 (fun e => hPm e)
         have z1 : w9.cell? ⟨P, 1, none⟩ = some (.int .i64 pc') := hk9.cell y1 (fun e => hPm e)
         have z2 : w9.cell? ⟨P, 2, none⟩ = some (.slice pa' pl' pk') := hk9.cell y2 (fun e => hPm e)
         have z3 : w9.cell? ⟨m, 7, none⟩ = some (.slice a x.g.length cap) := hM9.box.cell 7
         have z4 : Box w9 R 39 #[.int .i64 0, .string ⟨#[]⟩, .int .i64 0, .int .i64 0, .int .i64 0, .slice none 0 0, .slice da' dl' dc', .int .i64 0, .int .i64 sn', .int .i64 sc', .int .i64 0] := y4.kept hk9 (fun e => hRm e)
         clear hq hm9 hM9 hk9 hPm hRm))
    go_wp2
    go_ret
    have hKall : Kept (fun k => k = m ∨ Tb2 tb bb k) w w9 := (HKwd.out.then HK8.out.of_no).then (HK9.out.mono (fun i _ e => .inl e))
    have hml := HML.out
    have hws := HKwd.out.size
    obtain ⟨q1, q2, q3, q4, q5, q6, q7, q8, q9, q10⟩ := Hpp.out
    refine ⟨ka, kk, ub, ubb, ut, ua, a9, c9, qs, bk, HBk.out.symm, rfl, HQ.out, ?_, ?_, HT8.out.kept HK9.out (fun k hk e => ?_), ?_, ?_, fun k hk => Nat.le_trans hws (HF8.out k hk), hKall⟩
    · rw [← q1, ← q2, ← q4]
      exact HM9.out.lower (Nat.le_trans hws HK8.out.size)
    · rw [← q1, ← q2, ← q3, ← q4, ← q5, ← q6, ← q7, ← q8, ← q9, ← q10]
      exact HMM9.out
    · have : k = m := e
      have := HF8.out k hk
      omega
    · rw [HX'.out]
      refine (HT4d.out.no HK8.out).kept HK9.out (fun k hk e => ?_)
      have e : k = m := e
      subst e
      rcases hk with h | h | h
      · exact HDj.out k (.inl rfl) (.inl h)
      · exact HDj.out k (.inl rfl) (.inr h)
      · exact box_row (HMd.out.no HK8.out).box (by decide) (HT4d.out.no HK8.out).row h rfl
    · exact (HO4d.out.no HK8.out).kept HK9.out (fun k hk e => box_row (HMd.out.no HK8.out).box (by decide) (HO4d.out.no HK8.out) hk e)
end

end Go.Proofs.Ytgiokkcdgoloaab
