import Derived.Test.YtmhjbkpojndhkabEc
import Derived.Test.YtmhjbkpojndhkabTi
namespace Go.Proofs.Ytmhjbkpojndhkab
open Go.RowKit
set_option linter.unusedVariables false
set_option linter.unusedSimpArgs false

/-- What stands between two rounds of the first loop. -/
def O1 (wr w : World) (lo t b : Nat) (at' : Option Addr) (ct k : Nat) (ka : Option Addr) (kc n : Nat) : Prop :=
  ∃ (K : List En) (X : TS), K.length = n ∧ n = 2 * k ∧ Own 22 1 wr lo ka kc n (K.map enV) ∧ Kr wr lo K T1 ∧ Tal wr t b at' ct X ∧ Kept No w wr ∧ lo ≤ wr.heap.size

theorem miss_le {w : World} {t b cap : Nat} {a : Option Addr} {x : TS} (h : Tal w t b a cap x) : (missL x).length ≤ 17592186043904 := by
  have h1 := List.length_filter_le (fun n => (x.v n).isNone) x.g
  have h2 := h.len
  unfold missL
  omega

set_option maxRecDepth 100000 in
set_option maxHeartbeats 4000000 in
theorem ownWalk (a0 : Option Addr) (n0 cap0 : Nat) (zs : List Int) (need : Int) (a2 : Option Addr) (n2 cap2 : Nat) (vs : List Vo) (w : World)
    (hz : zs.length = n0) (hn0 : n0 ≤ 17592186043904) (h0 : Nums .i64 w a0 zs) (hv : vs.length = n2) (hn2 : n2 ≤ 5864062014634) (h2 : Vts w a2 vs) :
    Calls Try.prog 4 #[.slice a0 n0 cap0, .int .i64 need, .slice a2 n2 cap2] w fun e w' => e = .returned (.bool true) ∧ Below w.heap.size w w' := by
  have HVl : Hid (vs.length = n2) := hv
  have H2 : Hid (Vts w a2 vs) := h2
  have HKn : Hid (∀ w : World, Calls Try.prog 6 #[] w fun e w' => e = .returned (.bool true) ∧ Kept No w w') := known_any
  have HNw : Hid (∀ W, Kept No w W → Calls Try.prog 17 #[.slice a0 n0 cap0, .int .i64 need] W (NewOut W zs need)) := fun W hk => new_any a0 n0 cap0 zs need W hz hn0 (h0.no hk)
  clear hz h0 hv h2
  go_enter Try.func4, Try.ntmps4
  go_wp2_with (first
    | (go_at_call 17
       refine Calls.mono (HNw.out w1 HK1.out) ?_
       rintro e w3 ⟨at', ct, rfl, hT, hF, hk⟩
       have HT3 : Hid (Tal w3 (w1.heap.size + 1) w1.heap.size at' ct (tNew zs need)) := hT
       have HK3 : Hid (Kept No w w3) := HK1.out.then hk
       clear hT hF hk)
    | (go_at_call 6
       refine Calls.mono (HKn.out _) ?_
       rintro e w1 ⟨rfl, hk1⟩
       have HK1 : Hid (Kept No w w1) := hk1
       clear hk1))
  have hwB : w.heap.size ≤ w1.heap.size := HK1.out.size
  have HLo : Hid (∀ q, TB (w1.heap.size + 1) w1.heap.size at' q → q < w3.heap.size) := fun q hq => HT3.out.lt hq
  have hlo1 : w1.heap.size + 1 < w3.heap.size := HT3.out.box.lt
  generalize w1.heap.size = B at hwB HT3 HLo hlo1 ⊢
  have hO0 : O1 w3 w w3.heap.size (B + 1) B at' ct 0 none 0 0 := ⟨[], tNew zs need, rfl, rfl, Own.nil _ _ _ _, Kr.nil _ _ _, HT3.out, HK3.out, Nat.le_refl _⟩
  have HO0 : Hid (O1 w3 w w3.heap.size (B + 1) B at' ct 0 none 0 0) := hO0
  clear hO0 HNw HK1 HT3 HK3
  generalize w3.heap.size = lo at HLo hlo1 HO0
  go_loopw [8, 9] (fun v vi wr => ∃ (k : Nat) (ka : Option Addr) (kc n : Nat), vi = .int .i64 k ∧ k ≤ 60 ∧ k ≤ n2 ∧ v = .slice ka n kc ∧ Hid (O1 wr w lo (B + 1) B at' ct k ka kc n)) (fun _ i _ => 60 - (intOf i).toNat)
  case atStart => exact ⟨0, none, 0, 0, by go_num, by omega, by omega, rfl, HO0⟩
  case round =>
    obtain ⟨k, ka, kc, n, rfl, hk60, hkn, rfl, HO⟩ := hrel
    clear HO0
    obtain ⟨K, X, hKl, hn2k, hKr, hKs, hX, hKw, hlw⟩ := HO.out
    by_cases hA : k < n2
    · have hA' : (k : Int) < (n2 : Int) := by omega
      have hk0 : (0 : Int) ≤ (k : Int) := by omega
      by_cases hB : k < 60
      · have hB' : (k : Int) < 60 := by omega
        have HX5 : Hid (Tal wr.drew (B + 1) B at' ct X) := hX.no ((Kept.refl No wr).drew)
        have HK5 : Hid (Kept No w wr.drew) := hKw.drew
        have HKr5 : Hid (Own 22 1 wr.drew lo ka kc n (K.map enV)) := hKr.no ((Kept.refl No wr).drew)
        have HKs5 : Hid (Kr wr.drew lo K T1) := hKs.no ((Kept.refl No wr).drew)
        have HKl : Hid (K.length = n ∧ n = 2 * k) := ⟨hKl, hn2k⟩
        have HLo5 : Hid (lo ≤ wr.drew.heap.size) := hlw
        clear hKl hn2k hKr hKs hX hKw HO hlw
        go_upto_region 10 with fail
        obtain ⟨b, off, rfl, e1, e2, e3⟩ := (H2.out.no HK5.out) k (by rw [HVl.out]; exact hA)
        generalize vAt vs k = u at e1 e2 e3
        obtain ⟨s, v, lk⟩ := u
        simp only at e1 e2 e3
        clear e3
        have HTk : Hid (Calls Try.prog 18 #[.pointer (some ⟨B + 1, 0, none⟩), .int .i64 s, .int .i64 v] wr.drew (TakeOut wr.drew (B + 1) B ct at' X s v)) := take_any _ _ _ _ X s v _ HX5.out
        refine wp_region_still_tail 11 (by kernel_rfl) (by kernel_rfl) ?_
        simp only [List.take_succ_cons, List.take_zero, List.drop_succ_cons, List.drop_zero]
        change wpStill _ _ wr.drew _ _ _
        still_step
        still_step
        still_step
        still_step
        still_step
        still_step
        still_step
        still_step
        still_step
        still_step
        still_step
        refine wpStill_nil ?_
        clear e1 e2
        go_wp2_with (first
          | (at_builtin
             have htok := HK9
             refine wp_appV rfl _ _ 33 22 1 24 (.slice none 0 0) Try.und33 Try.info22 rfl (by omega) rfl lo n kc ka (K.map enV) rfl (HKr9.out.no ((Kept.refl No w9).alloc _)) ⟨w9.heap.size, 0, none⟩ 2 2 [.slice am ml cm, .slice an ml cn] rfl rfl (cell_new2 _ _ _ _) (by simp [Value.oneCell']) (by have := HKl.out; omega) (by have := HKl.out; omega) (by omega) (by have := HLo9.out; simp; omega) (n + 2) rfl ?_
             intro g' cap'' w10 HO10 HK10
             clear htok)
          | (go_at_call 20
             refine Calls.mono (same_any am an ml ml cm cn MM MM w8 HMl.out.1 HMl.out.1 (by have := HMl.out.2; omega) (by have := HMl.out.2; omega) HN7.out HN8.out) ?_
             rintro e w9 ⟨rfl, hk9⟩
             rw [show decide (MM = MM) = true by simp]
             have HK9 : Hid (Kept No w8 w9) := hk9
             have HKr9 : Hid (Own 22 1 w9 lo ka kc n (K.map enV)) := HKr8.out.no hk9
             have HLo9 : Hid (lo ≤ w9.heap.size) := by have h1 := HLo8.out; have h2 := hk9.size; show _ ≤ _; omega
             clear hk9)
          | (go_at_call 19
             have htok := HO7
             refine Calls.mono (missing_any (B + 1) B ct at' (takeS X s v) w7 HT7.out) ?_
             rintro e w8 ⟨an, cn, rfl, hO, hk8⟩
             rw [← HMX.out.1] at hO ⊢
             rw [← HMX.out.2] at hO ⊢
             have HO8 : Hid (Own 3 1 w8 w7.heap.size an cn ml (MM.map (Value.int .i64))) := hO
             have HN8 : Hid (Nums .i64 w8 an MM) := hO.nums HMl.out.1
             have HN7 : Hid (Nums .i64 w8 am MM) := (HO7.out.nums HMl.out.1).no hk8
             have HK8 : Hid (Kept No w7 w8) := hk8
             have HKr8 : Hid (Own 22 1 w8 lo ka kc n (K.map enV)) := HKr7.out.no hk8
             have HLo8 : Hid (lo ≤ w8.heap.size) := by have h1 := HLo7.out; have h2 := hk8.size; show _ ≤ _; omega
             clear hO hk8 htok)
          | (go_at_call 19
             refine Calls.mono (missing_any (B + 1) B ct at' (takeS X s v) w6 HT6.out) ?_
             rintro e w7 ⟨am, cm, rfl, hO, hk7⟩
             obtain ⟨MM, hMM⟩ : ∃ MM, MM = missL (takeS X s v) := ⟨_, rfl⟩
             obtain ⟨ml, hml⟩ : ∃ ml, ml = MM.length := ⟨_, rfl⟩
             have HMX : Hid (MM = missL (takeS X s v) ∧ ml = MM.length) := ⟨hMM, hml⟩
             have HMl : Hid (MM.length = ml ∧ ml ≤ 17592186043904) := ⟨hml.symm, by rw [hml, hMM]; exact miss_le HT6.out⟩
             rw [← hMM] at hO ⊢
             rw [← hml] at hO ⊢
             have HO7 : Hid (Own 3 1 w7 w6.heap.size am cm ml (MM.map (Value.int .i64))) := hO
             have HT7 : Hid (Tal w7 (B + 1) B at' ct (takeS X s v)) := HT6.out.no hk7
             have HKr7 : Hid (Own 22 1 w7 lo ka kc n (K.map enV)) := HKr6.out.no hk7
             have HK7 : Hid (Kept No w6 w7) := hk7
             have HLo7 : Hid (lo ≤ w7.heap.size) := by have h1 := HLo6.out; have h2 := hk7.size; show _ ≤ _; omega
             clear hO hk7 hMM hml)
          | (go_at_call 18
             refine Calls.mono HTk.out ?_
             rintro e w6 ⟨rfl, hT6, hk6⟩
             have hoff : ∀ q, lo ≤ q → ¬ Tb2 (B + 1) B q := fun q hq e => by rcases e with rfl | rfl <;> omega
             have HT6 : Hid (Tal w6 (B + 1) B at' ct (takeS X s v)) := hT6
             have HKr6 : Hid (Own 22 1 w6 lo ka kc n (K.map enV)) := HKr5.out.kept hk6 (fun q hq => hoff q (HKr5.out.base hq))
             have HKs6 : Hid (Kr w6 lo K T1) := HKs5.out.kept hk6 (fun q hq => hoff q (HKs5.out.lo hq).1)
             have HK6 : Hid (Kept No w w6) := HK5.out.trans hk6 (fun _ e => e) (fun i hi e => by rcases e with rfl | rfl <;> omega)
             have HLo6 : Hid (lo ≤ w6.heap.size) := by have h1 := HLo5.out; have h2 := hk6.size; show _ ≤ _; omega
             clear hT6 hk6 hoff))
        have hK69 : Kept No w6 w9 := (HK7.out.then HK8.out).then HK9.out
        have hK910 : Kept (At ka) w9 w10 := (((Kept.refl No w9).alloc (.cells #[.slice am ml cm, .slice an ml cn] 22)).of_no : Kept (At ka) w9 _).then HK10.out
        have hKs9 : Kr w9 lo K T1 := HKs6.out.no hK69
        have hkaK : ∀ q, KB K q → ¬ At ka q := fun q ⟨i, hi, e⟩ f => by
          obtain ⟨vs', h1, _⟩ := hKs9.own i hi
          exact own_ne h1 HKr9.out (by decide) e f
        have hO7 : Own 3 1 w9 w6.heap.size am cm ml (MM.map (Value.int .i64)) := HO7.out.no (HK8.out.then HK9.out)
        have hO8 : Own 3 1 w9 w7.heap.size an cn ml (MM.map (Value.int .i64)) := HO8.out.no HK9.out
        have s67 := HK7.out.size
        have hlo6 := HLo6.out
        have hka7 : ∀ q, At am q → ¬ At ka q := fun q e f => own_ne hO7 HKr9.out (by decide) e f
        have hka8 : ∀ q, At an q → ¬ At ka q := fun q e f => own_ne hO8 HKr9.out (by decide) e f
        have hKs10 : Kr w10 lo (K ++ [⟨am, ml, cm⟩]) T1 := (hKs9.kept hK910 hkaK).add (e := ⟨am, ml, cm⟩) (Own.lower (hO7.kept hK910 hka7) (by omega)) (fun q e f => by
          have h1 := hO7.base e
          have h2 := (HKs6.out.lo f).2
          omega) HMl.out.2
        have hKs11 : Kr w10 lo (K ++ [⟨am, ml, cm⟩] ++ [⟨an, ml, cn⟩]) T1 := hKs10.add (e := ⟨an, ml, cn⟩) (Own.lower (hO8.kept hK910 hka8) (by omega)) (fun q e f => by
          have h1 := hO8.base e
          rcases KB_app f with f | f
          · have h2 := (HKs6.out.lo f).2; omega
          · have h2 := HO7.out.ltAt f; omega) HMl.out.2
        have hT10 : Tal w10 (B + 1) B at' ct (takeS X s v) := (HT6.out.no hK69).kept hK910 (fun q e f => by
          have h1 := HLo.out q e
          have h2 := HKr9.out.base f
          omega)
        have hKw10 : Kept No w w10 := (HK6.out.then hK69).trans hK910 (fun _ e => e) (fun i hi e => by have h2 := HKr9.out.base e; omega)
        have hs10 := hK910.size
        have hs69 := hK69.size
        refine ⟨⟨k + 1, some ⟨g', 0, none⟩, cap'', n + 2, by go_num, by omega, by omega, rfl, ⟨K ++ [⟨am, ml, cm⟩] ++ [⟨an, ml, cn⟩], takeS X s v, ?_, ?_, ?_, hKs11, hT10, hKw10, by omega⟩⟩, by simp [intOf]; omega⟩
        · simp [HKl.out.1]
        · have := HKl.out.2; omega
        · have := HO10.out
          simpa [enV] using this
      · have hB' : ¬ (k : Int) < 60 := by omega
        have HKr : Hid (Own 22 1 wr lo ka kc n (K.map enV)) := hKr
        have HKs : Hid (Kr wr lo K T1) := hKs
        have HX : Hid (Tal wr (B + 1) B at' ct X) := hX
        have HKw : Hid (Kept No w wr) := hKw
        have HKl : Hid (K.length = n) := hKl
        have hn120 : n ≤ 120 := by omega
        have HLw : Hid (lo ≤ wr.heap.size) := hlw
        have HKBlt : Hid (∀ q, KB K q → lo ≤ q ∧ q < wr.heap.size) := fun q hq => hKs.lo hq
        clear hKr hKs hX hKw hKl hlw hn2k HO H2 HVl
        obtain ⟨ML, hML⟩ : ∃ ML, ML = missL X := ⟨_, rfl⟩
        have HMl : Hid (ML.length ≤ 17592186043904) := by rw [hML]; exact miss_le HX.out
        have HMs : Hid (∀ W, Tal W (B + 1) B at' ct X → Calls Try.prog 19 #[.pointer (some ⟨B + 1, 0, none⟩)] W (MissOut W ML)) := fun W hT => by rw [hML]; exact missing_any _ _ _ _ X W hT
        clear hML
        obtain ⟨w4, hw4⟩ : ∃ w4, w4 = wr.alloc (.cells #[] 3) := ⟨_, rfl⟩
        have HK4 : Hid (Kept No wr w4) := by rw [hw4]; exact (Kept.refl No wr).alloc _
        have HB4 : Hid (Box w4 wr.heap.size 3 #[]) := by rw [hw4]; exact Box.new _ _ _
        go_wp2_with (first
          | (at_builtin
             have htok := HK5
             refine wp_appN rfl _ _ rfl wr.heap.size (.slice (some ⟨wr.heap.size, 0, none⟩) 0 0) [] rfl HE5.out a3 ML c3 rfl HC5.out HN5.out (by have := HMl.out; simp; omega) (by have := HS5.out; omega) ?_
             intro v' w6 hO6 hg6
             obtain ⟨al, cl, hv', HL6⟩ : ∃ al cl, v' = .slice al ML.length cl ∧ Own 3 1 w6 wr.heap.size al cl ML.length (ML.map (Value.int .i64)) := by
               rcases hO6.2 with ⟨e, h0⟩ | ⟨g, cap', cur, e, _⟩
               · have hz : ML.length = 0 := by simpa using h0
                 exact ⟨none, 0, by rw [e, hz], by
                   rw [e] at hO6
                   have h7 : w6.ownsRow wr.heap.size 3 1 (.slice none ML.length 0) ML.length (ML.map (Value.int .i64)) := by simpa [hz] using hO6
                   exact h7⟩
               · exact ⟨some ⟨g, 0, none⟩, cap', by simpa using e, by
                   rw [e] at hO6
                   have h7 : w6.ownsRow wr.heap.size 3 1 (.slice (some ⟨g, 0, none⟩) ML.length cap') ML.length (ML.map (Value.int .i64)) := by simpa using hO6
                   exact h7⟩
             subst hv'
             have HLs : Hid (Own 3 1 w6 wr.heap.size al cl ML.length (ML.map (Value.int .i64))) := HL6
             have HK6 : Hid (Kept No wr w6) := HK5.out.grown hg6 (fun q e hq => by simp only [Value.ownBlock, Option.some.injEq] at e; omega)
             clear hO6 hg6 HL6 htok)
          | (go_at_call 19
             rw [← hw4]
             refine Calls.mono (HMs.out w4 (HX.out.no HK4.out)) ?_
             rintro e w5 ⟨a3, c3, rfl, hO, hk5⟩
             have HN5 : Hid (Nums .i64 w5 a3 ML) := hO.nums rfl
             have HC5 : Hid (a3 = none → c3 = 0) := fun e0 => by
               rcases hO.cases (by simp) with ⟨_, h1, _⟩ | ⟨g, e1, _⟩
               · exact h1
               · rw [e0] at e1; cases e1
             have HK5 : Hid (Kept No wr w5) := HK4.out.then hk5
             have HB5 : Hid (Box w5 wr.heap.size 3 #[]) := HB4.out.kept hk5 (fun e => e)
             have HE5 : Hid (w5.ownsRow wr.heap.size 3 1 (.slice (some ⟨wr.heap.size, 0, none⟩) 0 0) ([] : List Int).length (([] : List Int).map (Value.int .i64))) := ⟨rfl, .inr ⟨wr.heap.size, 0, #[], rfl, Nat.le_refl _, HB5.out, Nat.le_refl _, by unfold maxLen; omega, rfl, rfl⟩⟩
             have HS5 : Hid (wr.heap.size < w5.heap.size) := HB5.out.lt
             clear hO hk5))
        clear hw4 HK4 HB4
        have HKr6 : Hid (∀ W, Kept (KB K) w6 W → Own 22 1 W lo ka kc n (K.map enV)) := fun W hk => (HKr.out.no HK6.out).kept hk (fun q e ⟨i, hi, f⟩ => by
          obtain ⟨vs', h1, _⟩ := (HKs.out.no HK6.out).own i hi
          exact own_ne h1 (HKr.out.no HK6.out) (by decide) f e)
        have HT6 : Hid (∀ W, Kept (KB K) w6 W → Tal W (B + 1) B at' ct X) := fun W hk => (HX.out.no HK6.out).kept hk (fun q e f => by
          have h1 := HLo.out q e
          have h2 := (HKBlt.out q f).1
          omega)
        have HL6 : Hid (∀ W, Kept (KB K) w6 W → Nums .i64 W al ML) := fun W hk => (HLs.out.kept hk (fun q e f => by
          have h1 := HLs.out.base e
          have h2 := (HKBlt.out q f).2
          omega)).nums rfl
        have HKw6 : Hid (∀ W, Kept (KB K) w6 W → Kept No w W) := fun W hk => (HKw.out.then HK6.out).trans hk (fun _ e => e) (fun i hi e => by
          have h2 := (HKBlt.out i e).1
          omega)
        have HKs6 : Hid (Kr w6 lo K (P2 K 0 0)) := kr_begin (HKs.out.no HK6.out)
        have HKB6 : Hid (∀ q, KB K q → q < w6.heap.size) := fun q hq => by have h1 := (HKBlt.out q hq).2; have h2 := HK6.out.size; omega
        have HDis : Hid (∀ i j, i < K.length → j < K.length → i ≠ j → ∀ k, At (enAt K i).a k → ¬ At (enAt K j).a k) := HKs.out.dis
        have HLen : Hid (∀ i, i < n → (enAt K i).l ≤ 17592186043904) := fun i hi => HKs.out.len i (by rw [HKl.out]; exact hi)
        have HEc : Hid (∀ W i, Kept (KB K) w6 W → i < n → ∃ g, ka = some ⟨g, 0, none⟩ ∧ W.cell? ⟨g, i, none⟩ = some (.slice (enAt K i).a (enAt K i).l (enAt K i).c)) := fun W i hk hi => by
          obtain ⟨g, v, e1, e2, e3, _⟩ := (HKr6.out W hk).at1 hi
          rw [en_at (by rw [HKl.out]; exact hi)] at e2
          cases e2
          exact ⟨g, e1, e3⟩
        clear HKr HKs HX HKw HLw HLs HKr6 HKBlt
        -- all are marked
        go_loopw [13] (fun vi wz => ∃ i : Nat, vi = .int .i64 i ∧ i ≤ n ∧ Hid (Kr wz lo K (P2 K i 0)) ∧ Hid (Kept (KB K) w6 wz)) (fun i _ => n - (intOf i).toNat)
        case atStart => exact ⟨0, by go_num, by omega, HKs6, Kept.refl _ _⟩
        case round =>
          obtain ⟨i, rfl, hi, HQ, HKi⟩ := hrel
          clear HKs6
          by_cases hil : i < n
          · have hil' : (i : Int) < (n : Int) := by omega
            have hi0 : (0 : Int) ≤ (i : Int) := by omega
            obtain ⟨kg, rfl, ec0⟩ := HEc.out wr i HKi.out hil
            have hel := HLen.out i hil
            go_wp2
            go_loopw [14] (fun vj wz => ∃ j : Nat, vj = .int .i64 j ∧ j ≤ (enAt K i).l ∧ Hid (Kr wz lo K (P2 K i j)) ∧ Hid (Kept (KB K) w6 wz)) (fun j _ => (enAt K i).l - (intOf j).toNat)
            case atStart => exact ⟨0, by go_num, by omega, HQ, HKi⟩
            case round =>
              obtain ⟨j, rfl, hj, HQj, HKj⟩ := hrel
              clear HQ HKi ec0
              obtain ⟨_, hke, ec⟩ := HEc.out wr i HKj.out hil
              cases hke
              by_cases hjl : j < (enAt K i).l
              · have hjl' : (j : Int) < ((enAt K i).l : Int) := by omega
                have hj0 : (0 : Int) ≤ (j : Int) := by omega
                obtain ⟨vs', ho, _⟩ := HQj.out.own i (by rw [HKl.out]; exact hil)
                obtain ⟨eg, ev, ea, _, e3, e4⟩ := ho.at1 hjl
                have HSt : Hid _ := kr_set HQj.out (by rw [HKl.out]; exact hil) ea hjl
                have HEa : Hid ((enAt K i).a = some ⟨eg, 0, none⟩) := ea
                rw [ea] at ec
                clear ho ea
                generalize (enAt K i).l = el at hel hj hjl hjl' ec ⊢
                generalize (enAt K i).c = ecap at ec
                go_wp2
                go_roundw
                case rel => exact ⟨j + 1, by go_num, by omega, HSt.out.1, HKj.out.then HSt.out.2⟩
                case measure => simp [intOf]; omega
              · have hjl' : ¬ (j : Int) < ((enAt K i).l : Int) := by omega
                obtain rfl : j = (enAt K i).l := by omega
                go_wp2
                go_roundw
                case rel => exact ⟨i + 1, by go_num, by omega, kr_next HQj.out, HKj⟩
                case measure => simp [intOf]; omega
          · have hil' : ¬ (i : Int) < (n : Int) := by omega
            obtain rfl : i = n := by omega
            have HO3 : Hid (O3 w6 wr lo K 0 none 0 []) := O3.start (by rw [HKl.out]; exact HQ.out) HKi.out
            clear HQ HKi
            go_wp2
            go_loopw [15, 16] (fun v vi wz => ∃ (q : Nat) (la : Option Addr) (lc : Nat), vi = .int .i64 q ∧ q ≤ i ∧ v = .slice la q lc ∧ Hid (∃ LL, O3 w6 wz lo K q la lc LL)) (fun _ q _ => i - (intOf q).toNat)
            case atStart => exact ⟨0, none, 0, by go_num, by omega, rfl, ⟨[], HO3.out⟩⟩
            case round =>
              obtain ⟨q, la, lc, rfl, hq, rfl, HI⟩ := hrel
              clear HO3
              obtain ⟨LL, hO3⟩ := HI.out
              have HO : Hid (O3 w6 wr lo K q la lc LL) := hO3
              clear hO3 HI
              by_cases hql : q < i
              · have hql' : (q : Int) < (i : Int) := by omega
                have hq0 : (0 : Int) ≤ (q : Int) := by omega
                obtain ⟨kg, rfl, ec⟩ := HEc.out wr q HO.out.kept hql
                have hel := HLen.out q hql
                obtain ⟨wi, hwi⟩ : ∃ wi, wi = wr := ⟨_, rfl⟩
                have HOi : Hid (O3 w6 wi lo K q la lc LL) := by rw [hwi]; exact HO
                have HG0 : Hid (Gw wi wr (enAt K q) 0 (mkV q) (.int .i64 (1000 + (q : Int))) (enAt K q).a (enAt K q).c) := by rw [hwi]; exact Gw.start _ (HO.out.rest q (Nat.le_refl _) (by rw [HKl.out]; exact hql))
                clear hwi HO
                go_wp2
                go_loopw [17, 18] (fun v vj wz => ∃ (j : Nat) (a' : Option Addr) (c' : Nat), vj = .int .i64 j ∧ j ≤ 70 ∧ v = .slice a' ((enAt K q).l + j) c' ∧ Hid (Gw wi wz (enAt K q) j (mkV q) (.int .i64 (1000 + (q : Int))) a' c')) (fun _ j _ => 70 - (intOf j).toNat)
                case atStart => exact ⟨0, (enAt K q).a, (enAt K q).c, by go_num, by omega, by rw [Nat.add_zero], HG0⟩
                case round =>
                  obtain ⟨j, a', c', rfl, hj, rfl, HG⟩ := hrel
                  clear HG0 ec
                  by_cases hjl : j < 70
                  · have hjl' : (j : Int) < 70 := by omega
                    have hqb : (q : Int) ≤ 120 := by omega
                    go_wp2_with (at_builtin
                                 refine wp_oneX rfl _ _ rfl wi wr (enAt K q) j (mkV q) (1000 + (q : Int)) a' c' _ rfl rfl HG.out rfl _ 1 rfl rfl (by omega) ((enAt K q).l + (j + 1)) (by omega) ?_
                                 intro a'' c'' w8 HG8)
                    go_roundw
                    case rel => exact ⟨j + 1, a'', c'', by go_num, by omega, rfl, HG8⟩
                    case measure => simp [intOf]; omega
                  · have hjl' : ¬ (j : Int) < 70 := by omega
                    obtain rfl : j = 70 := by omega
                    have HLr : Hid (Own 22 1 wr w6.heap.size la lc q (LL.map enV)) := HOi.out.lr.kept HG.out.kept (fun k e f => by
                      have h1 := HOi.out.lr.base e
                      have h2 := HKB6.out k ⟨q, by rw [HKl.out]; exact hql, f⟩
                      omega)
                    have HSz : Hid (w6.heap.size ≤ wr.heap.size) := by have h1 := HOi.out.kept.size; have h2 := HG.out.kept.size; show _ ≤ _; omega
                    go_wp2_with (at_builtin
                                 refine wp_appV rfl _ _ 33 22 1 24 (.slice none 0 0) Try.und33 Try.info22 rfl (by omega) rfl w6.heap.size q lc la (LL.map enV) rfl (HLr.out.no ((Kept.refl No wr).alloc _)) ⟨wr.heap.size, 0, none⟩ 1 1 [.slice a' ((enAt K q).l + 70) c'] rfl rfl (cell_new1 _ _ _) (by simp [Value.oneCell']) (by omega) (by omega) (by omega) (by have := HSz.out; simp; omega) (q + 1) rfl ?_
                                 intro g' lc' w9 HO9 HK9
                                 have HON : Hid (O3 w6 w9 lo K (q + 1) (some ⟨g', 0, none⟩) lc' (LL ++ [⟨a', (enAt K q).l + 70, c'⟩])) := HOi.out.step (by rw [HKl.out]; exact hql) HG.out HDis.out HKB6.out HO9.out HK9.out
                                 clear HO9 HK9)
                    go_roundw
                    case rel => exact ⟨q + 1, some ⟨g', 0, none⟩, lc', by go_num, by omega, rfl, ⟨_, HON.out⟩⟩
                    case measure => simp [intOf]; omega
              · have hql' : ¬ (q : Int) < (i : Int) := by omega
                obtain rfl : q = i := by omega
                generalize wr = w10 at HO ⊢
                have HLc : Hid (∀ W p, Kept No w10 W → p < q → ∃ g, la = some ⟨g, 0, none⟩ ∧ W.cell? ⟨g, p, none⟩ = some (.slice (enAt LL p).a (enAt LL p).l (enAt LL p).c)) := fun W p hk hp => by
                  obtain ⟨g, v, e1, e2, e3, _⟩ := (HO.out.lr.no hk).at1 hp
                  rw [en_at (by rw [HO.out.ll]; exact hp)] at e2
                  cases e2
                  exact ⟨g, e1, e3⟩
                go_wp2
                -- all are looked at
                go_loopw [19] (fun vi wz => ∃ p : Nat, vi = .int .i64 p ∧ p ≤ q ∧ Hid (Kept No w10 wz)) (fun p _ => q - (intOf p).toNat)
                case atStart => exact ⟨0, by go_num, by omega, Kept.refl _ _⟩
                case round =>
                  obtain ⟨p, rfl, hp, HKp⟩ := hrel
                  by_cases hpl : p < q
                  · have hpl' : (p : Int) < (q : Int) := by omega
                    have hp0 : (0 : Int) ≤ (p : Int) := by omega
                    obtain ⟨kg, rfl, ec⟩ := HEc.out wr p (HO.out.kept.then HKp.out.of_no) hpl
                    obtain ⟨lg, rfl, el⟩ := HLc.out wr p HKp.out hpl
                    have hel := HLen.out p hpl
                    have HLl : Hid ((enAt LL p).l = (enAt K p).l + 70) := (HO.out.lo' p hpl).1
                    rw [HLl.out] at el
                    have HMk : Hid (∀ W j, Kept No w10 W → j < (enAt K p).l → ∃ g, (enAt K p).a = some ⟨g, 0, none⟩ ∧ W.cell? ⟨g, j, none⟩ = some (mkV p)) := fun W j hk hj => by
                      obtain ⟨g, e1, e2⟩ := HO.out.mkd p hpl j hj
                      exact ⟨g, e1, hk.cell e2 (fun e => e)⟩
                    have HLo2 : Hid (∀ W, Kept No w10 W → Own 3 1 W 0 (enAt LL p).a (enAt LL p).c ((enAt K p).l + 70) (List.replicate (enAt K p).l (mkV p) ++ List.replicate 70 (gwV p))) := fun W hk => ((HO.out.lo' p hpl).2).no hk
                    have HEcp : Hid (∀ W, Kept No w10 W → W.cell? ⟨kg, p, none⟩ = some (.slice (enAt K p).a (enAt K p).l (enAt K p).c) ∧ W.cell? ⟨lg, p, none⟩ = some (.slice (enAt LL p).a ((enAt K p).l + 70) (enAt LL p).c)) := fun W hk => by
                      obtain ⟨_, e1, h1⟩ := HEc.out W p (HO.out.kept.then hk.of_no) hpl
                      cases e1
                      obtain ⟨_, e2, h2⟩ := HLc.out W p hk hpl
                      cases e2
                      rw [HLl.out] at h2
                      exact ⟨h1, h2⟩
                    have hpb : (p : Int) ≤ 120 := by omega
                    clear ec el
                    go_wp2
                    go_loopw [20] (fun vj wz => ∃ j : Nat, vj = .int .i64 j ∧ j ≤ (enAt K p).l + 70 ∧ Hid (Kept No w10 wz)) (fun j _ => (enAt K p).l + 70 - (intOf j).toNat)
                    case atStart => exact ⟨0, by go_num, by omega, HKp⟩
                    case round =>
                      obtain ⟨j, rfl, hj, HKj⟩ := hrel
                      obtain ⟨ec, el⟩ := HEcp.out wr HKj.out
                      by_cases hjl : j < (enAt K p).l
                      · obtain ⟨kb, eka, ek⟩ := HMk.out wr j HKj.out hjl
                        obtain ⟨lb, lv, ela, elv, elc, _⟩ := (HLo2.out wr HKj.out).at1 (i := j) (by omega)
                        rw [List.getElem?_append_left (by simpa using hjl), List.getElem?_replicate, if_pos hjl] at elv
                        cases elv
                        rw [eka] at ec
                        rw [ela] at el
                        simp only [mkV] at ek elc
                        generalize (enAt K p).l = l1 at hel hj hjl ec el ⊢
                        generalize (enAt K p).c = c1 at ec
                        generalize (enAt LL p).c = c2 at el
                        have hjl' : (j : Int) < (l1 : Int) := by omega
                        have hjl2 : (j : Int) < (l1 : Int) + 70 := by omega
                        have hjl3 : ¬ (l1 : Int) ≤ (j : Int) := by omega
                        have hj0 : (0 : Int) ≤ (j : Int) := by omega
                        go_wp2
                        go_roundw
                        case rel => exact ⟨j + 1, by go_num, by omega, HKj⟩
                        case measure => simp [intOf]; omega
                      · by_cases hj2 : j < (enAt K p).l + 70
                        · obtain ⟨lb, lv, ela, elv, elc, _⟩ := (HLo2.out wr HKj.out).at1 (i := j) hj2
                          rw [List.getElem?_append_right (by simpa using hjl), List.getElem?_replicate, if_pos (by rw [List.length_replicate]; omega)] at elv
                          cases elv
                          rw [ela] at el
                          simp only [gwV] at elc
                          generalize (enAt K p).l = l1 at hel hj hjl hj2 ec el ⊢
                          generalize (enAt K p).c = c1 at ec
                          generalize (enAt K p).a = a9 at ec
                          generalize (enAt LL p).c = c2 at el
                          have hjl' : ¬ (j : Int) < (l1 : Int) := by omega
                          have hjl2 : (j : Int) < (l1 : Int) + 70 := by omega
                          have hjl3 : (l1 : Int) ≤ (j : Int) := by omega
                          have hj0 : (0 : Int) ≤ (j : Int) := by omega
                          go_wp2
                          go_roundw
                          case rel => exact ⟨j + 1, by go_num, by omega, HKj⟩
                          case measure => simp [intOf]; omega
                        · obtain rfl : j = (enAt K p).l + 70 := by omega
                          generalize (enAt K p).l = l1 at hel hj hjl hj2 ec el ⊢
                          generalize (enAt K p).c = c1 at ec
                          generalize (enAt K p).a = a9 at ec
                          generalize (enAt LL p).c = c2 at el
                          generalize (enAt LL p).a = a8 at el
                          have hjl2 : ¬ ((l1 + 70 : Nat) : Int) < (l1 : Int) + 70 := by omega
                          go_wp2
                          go_roundw
                          case rel => exact ⟨p + 1, by go_num, by omega, HKj⟩
                          case measure => simp [intOf]; omega
                  · have hpl' : ¬ (p : Int) < (q : Int) := by omega
                    have HMs9 : Hid (Calls Try.prog 19 #[.pointer (some ⟨B + 1, 0, none⟩)] wr (MissOut wr ML)) := HMs.out wr (HT6.out wr (HO.out.kept.then HKp.out.of_no))
                    have HL9 : Hid (∀ W, Kept No wr W → Nums .i64 W al ML) := fun W hk => HL6.out W ((HO.out.kept.then HKp.out.of_no).then hk.of_no)
                    have HK9 : Hid (∀ W, Kept No wr W → Kept No w W) := fun W hk => HKw6.out W ((HO.out.kept.then HKp.out.of_no).then hk.of_no)
                    go_wp2_with (first
                      | (go_at_call 20
                         have htok := HNm
                         refine Calls.mono (same_any am al ML.length ML.length cm cl ML ML w11 rfl rfl (by have := HMl.out; omega) (by have := HMl.out; omega) HNm.out (HL9.out w11 HK11.out)) ?_
                         rintro e w12 ⟨rfl, hk⟩
                         rw [show decide (ML = ML) = true by simp]
                         have HK12 : Hid (Kept No wr w12) := HK11.out.then hk
                         clear hk htok)
                      | (go_at_call 19
                         refine Calls.mono HMs9.out ?_
                         rintro e w11 ⟨am, cm, rfl, hO, hk⟩
                         have HNm : Hid (Nums .i64 w11 am ML) := hO.nums rfl
                         have HK11 : Hid (Kept No wr w11) := hk
                         clear hO hk))
                    all_goals go_ret
                    all_goals exact ⟨rfl, (HK9.out _ HK12.out).below (Nat.le_refl _) (fun _ e => e.elim)⟩
    · have hA' : ¬ (k : Int) < (n2 : Int) := by omega
      have HKr : Hid (Own 22 1 wr lo ka kc n (K.map enV)) := hKr
      have HKs : Hid (Kr wr lo K T1) := hKs
      have HX : Hid (Tal wr (B + 1) B at' ct X) := hX
      have HKw : Hid (Kept No w wr) := hKw
      have HKl : Hid (K.length = n) := hKl
      have hn120 : n ≤ 120 := by omega
      have HLw : Hid (lo ≤ wr.heap.size) := hlw
      have HKBlt : Hid (∀ q, KB K q → lo ≤ q ∧ q < wr.heap.size) := fun q hq => hKs.lo hq
      clear hKr hKs hX hKw hKl hlw hn2k HO H2 HVl
      obtain ⟨ML, hML⟩ : ∃ ML, ML = missL X := ⟨_, rfl⟩
      have HMl : Hid (ML.length ≤ 17592186043904) := by rw [hML]; exact miss_le HX.out
      have HMs : Hid (∀ W, Tal W (B + 1) B at' ct X → Calls Try.prog 19 #[.pointer (some ⟨B + 1, 0, none⟩)] W (MissOut W ML)) := fun W hT => by rw [hML]; exact missing_any _ _ _ _ X W hT
      clear hML
      obtain ⟨w4, hw4⟩ : ∃ w4, w4 = wr.alloc (.cells #[] 3) := ⟨_, rfl⟩
      have HK4 : Hid (Kept No wr w4) := by rw [hw4]; exact (Kept.refl No wr).alloc _
      have HB4 : Hid (Box w4 wr.heap.size 3 #[]) := by rw [hw4]; exact Box.new _ _ _
      go_wp2_with (first
        | (at_builtin
           have htok := HK5
           refine wp_appN rfl _ _ rfl wr.heap.size (.slice (some ⟨wr.heap.size, 0, none⟩) 0 0) [] rfl HE5.out a3 ML c3 rfl HC5.out HN5.out (by have := HMl.out; simp; omega) (by have := HS5.out; omega) ?_
           intro v' w6 hO6 hg6
           obtain ⟨al, cl, hv', HL6⟩ : ∃ al cl, v' = .slice al ML.length cl ∧ Own 3 1 w6 wr.heap.size al cl ML.length (ML.map (Value.int .i64)) := by
             rcases hO6.2 with ⟨e, h0⟩ | ⟨g, cap', cur, e, _⟩
             · have hz : ML.length = 0 := by simpa using h0
               exact ⟨none, 0, by rw [e, hz], by
                 rw [e] at hO6
                 have h7 : w6.ownsRow wr.heap.size 3 1 (.slice none ML.length 0) ML.length (ML.map (Value.int .i64)) := by simpa [hz] using hO6
                 exact h7⟩
             · exact ⟨some ⟨g, 0, none⟩, cap', by simpa using e, by
                 rw [e] at hO6
                 have h7 : w6.ownsRow wr.heap.size 3 1 (.slice (some ⟨g, 0, none⟩) ML.length cap') ML.length (ML.map (Value.int .i64)) := by simpa using hO6
                 exact h7⟩
           subst hv'
           have HLs : Hid (Own 3 1 w6 wr.heap.size al cl ML.length (ML.map (Value.int .i64))) := HL6
           have HK6 : Hid (Kept No wr w6) := HK5.out.grown hg6 (fun q e hq => by simp only [Value.ownBlock, Option.some.injEq] at e; omega)
           clear hO6 hg6 HL6 htok)
        | (go_at_call 19
           rw [← hw4]
           refine Calls.mono (HMs.out w4 (HX.out.no HK4.out)) ?_
           rintro e w5 ⟨a3, c3, rfl, hO, hk5⟩
           have HN5 : Hid (Nums .i64 w5 a3 ML) := hO.nums rfl
           have HC5 : Hid (a3 = none → c3 = 0) := fun e0 => by
             rcases hO.cases (by simp) with ⟨_, h1, _⟩ | ⟨g, e1, _⟩
             · exact h1
             · rw [e0] at e1; cases e1
           have HK5 : Hid (Kept No wr w5) := HK4.out.then hk5
           have HB5 : Hid (Box w5 wr.heap.size 3 #[]) := HB4.out.kept hk5 (fun e => e)
           have HE5 : Hid (w5.ownsRow wr.heap.size 3 1 (.slice (some ⟨wr.heap.size, 0, none⟩) 0 0) ([] : List Int).length (([] : List Int).map (Value.int .i64))) := ⟨rfl, .inr ⟨wr.heap.size, 0, #[], rfl, Nat.le_refl _, HB5.out, Nat.le_refl _, by unfold maxLen; omega, rfl, rfl⟩⟩
           have HS5 : Hid (wr.heap.size < w5.heap.size) := HB5.out.lt
           clear hO hk5))
      clear hw4 HK4 HB4
      have HKr6 : Hid (∀ W, Kept (KB K) w6 W → Own 22 1 W lo ka kc n (K.map enV)) := fun W hk => (HKr.out.no HK6.out).kept hk (fun q e ⟨i, hi, f⟩ => by
        obtain ⟨vs', h1, _⟩ := (HKs.out.no HK6.out).own i hi
        exact own_ne h1 (HKr.out.no HK6.out) (by decide) f e)
      have HT6 : Hid (∀ W, Kept (KB K) w6 W → Tal W (B + 1) B at' ct X) := fun W hk => (HX.out.no HK6.out).kept hk (fun q e f => by
        have h1 := HLo.out q e
        have h2 := (HKBlt.out q f).1
        omega)
      have HL6 : Hid (∀ W, Kept (KB K) w6 W → Nums .i64 W al ML) := fun W hk => (HLs.out.kept hk (fun q e f => by
        have h1 := HLs.out.base e
        have h2 := (HKBlt.out q f).2
        omega)).nums rfl
      have HKw6 : Hid (∀ W, Kept (KB K) w6 W → Kept No w W) := fun W hk => (HKw.out.then HK6.out).trans hk (fun _ e => e) (fun i hi e => by
        have h2 := (HKBlt.out i e).1
        omega)
      have HKs6 : Hid (Kr w6 lo K (P2 K 0 0)) := kr_begin (HKs.out.no HK6.out)
      have HKB6 : Hid (∀ q, KB K q → q < w6.heap.size) := fun q hq => by have h1 := (HKBlt.out q hq).2; have h2 := HK6.out.size; omega
      have HDis : Hid (∀ i j, i < K.length → j < K.length → i ≠ j → ∀ k, At (enAt K i).a k → ¬ At (enAt K j).a k) := HKs.out.dis
      have HLen : Hid (∀ i, i < n → (enAt K i).l ≤ 17592186043904) := fun i hi => HKs.out.len i (by rw [HKl.out]; exact hi)
      have HEc : Hid (∀ W i, Kept (KB K) w6 W → i < n → ∃ g, ka = some ⟨g, 0, none⟩ ∧ W.cell? ⟨g, i, none⟩ = some (.slice (enAt K i).a (enAt K i).l (enAt K i).c)) := fun W i hk hi => by
        obtain ⟨g, v, e1, e2, e3, _⟩ := (HKr6.out W hk).at1 hi
        rw [en_at (by rw [HKl.out]; exact hi)] at e2
        cases e2
        exact ⟨g, e1, e3⟩
      clear HKr HKs HX HKw HLw HLs HKr6 HKBlt
      -- all are marked
      go_loopw [13] (fun vi wz => ∃ i : Nat, vi = .int .i64 i ∧ i ≤ n ∧ Hid (Kr wz lo K (P2 K i 0)) ∧ Hid (Kept (KB K) w6 wz)) (fun i _ => n - (intOf i).toNat)
      case atStart => exact ⟨0, by go_num, by omega, HKs6, Kept.refl _ _⟩
      case round =>
        obtain ⟨i, rfl, hi, HQ, HKi⟩ := hrel
        clear HKs6
        by_cases hil : i < n
        · have hil' : (i : Int) < (n : Int) := by omega
          have hi0 : (0 : Int) ≤ (i : Int) := by omega
          obtain ⟨kg, rfl, ec0⟩ := HEc.out wr i HKi.out hil
          have hel := HLen.out i hil
          go_wp2
          go_loopw [14] (fun vj wz => ∃ j : Nat, vj = .int .i64 j ∧ j ≤ (enAt K i).l ∧ Hid (Kr wz lo K (P2 K i j)) ∧ Hid (Kept (KB K) w6 wz)) (fun j _ => (enAt K i).l - (intOf j).toNat)
          case atStart => exact ⟨0, by go_num, by omega, HQ, HKi⟩
          case round =>
            obtain ⟨j, rfl, hj, HQj, HKj⟩ := hrel
            clear HQ HKi ec0
            obtain ⟨_, hke, ec⟩ := HEc.out wr i HKj.out hil
            cases hke
            by_cases hjl : j < (enAt K i).l
            · have hjl' : (j : Int) < ((enAt K i).l : Int) := by omega
              have hj0 : (0 : Int) ≤ (j : Int) := by omega
              obtain ⟨vs', ho, _⟩ := HQj.out.own i (by rw [HKl.out]; exact hil)
              obtain ⟨eg, ev, ea, _, e3, e4⟩ := ho.at1 hjl
              have HSt : Hid _ := kr_set HQj.out (by rw [HKl.out]; exact hil) ea hjl
              have HEa : Hid ((enAt K i).a = some ⟨eg, 0, none⟩) := ea
              rw [ea] at ec
              clear ho ea
              generalize (enAt K i).l = el at hel hj hjl hjl' ec ⊢
              generalize (enAt K i).c = ecap at ec
              go_wp2
              go_roundw
              case rel => exact ⟨j + 1, by go_num, by omega, HSt.out.1, HKj.out.then HSt.out.2⟩
              case measure => simp [intOf]; omega
            · have hjl' : ¬ (j : Int) < ((enAt K i).l : Int) := by omega
              obtain rfl : j = (enAt K i).l := by omega
              go_wp2
              go_roundw
              case rel => exact ⟨i + 1, by go_num, by omega, kr_next HQj.out, HKj⟩
              case measure => simp [intOf]; omega
        · have hil' : ¬ (i : Int) < (n : Int) := by omega
          obtain rfl : i = n := by omega
          have HO3 : Hid (O3 w6 wr lo K 0 none 0 []) := O3.start (by rw [HKl.out]; exact HQ.out) HKi.out
          clear HQ HKi
          go_wp2
          go_loopw [15, 16] (fun v vi wz => ∃ (q : Nat) (la : Option Addr) (lc : Nat), vi = .int .i64 q ∧ q ≤ i ∧ v = .slice la q lc ∧ Hid (∃ LL, O3 w6 wz lo K q la lc LL)) (fun _ q _ => i - (intOf q).toNat)
          case atStart => exact ⟨0, none, 0, by go_num, by omega, rfl, ⟨[], HO3.out⟩⟩
          case round =>
            obtain ⟨q, la, lc, rfl, hq, rfl, HI⟩ := hrel
            clear HO3
            obtain ⟨LL, hO3⟩ := HI.out
            have HO : Hid (O3 w6 wr lo K q la lc LL) := hO3
            clear hO3 HI
            by_cases hql : q < i
            · have hql' : (q : Int) < (i : Int) := by omega
              have hq0 : (0 : Int) ≤ (q : Int) := by omega
              obtain ⟨kg, rfl, ec⟩ := HEc.out wr q HO.out.kept hql
              have hel := HLen.out q hql
              obtain ⟨wi, hwi⟩ : ∃ wi, wi = wr := ⟨_, rfl⟩
              have HOi : Hid (O3 w6 wi lo K q la lc LL) := by rw [hwi]; exact HO
              have HG0 : Hid (Gw wi wr (enAt K q) 0 (mkV q) (.int .i64 (1000 + (q : Int))) (enAt K q).a (enAt K q).c) := by rw [hwi]; exact Gw.start _ (HO.out.rest q (Nat.le_refl _) (by rw [HKl.out]; exact hql))
              clear hwi HO
              go_wp2
              go_loopw [17, 18] (fun v vj wz => ∃ (j : Nat) (a' : Option Addr) (c' : Nat), vj = .int .i64 j ∧ j ≤ 70 ∧ v = .slice a' ((enAt K q).l + j) c' ∧ Hid (Gw wi wz (enAt K q) j (mkV q) (.int .i64 (1000 + (q : Int))) a' c')) (fun _ j _ => 70 - (intOf j).toNat)
              case atStart => exact ⟨0, (enAt K q).a, (enAt K q).c, by go_num, by omega, by rw [Nat.add_zero], HG0⟩
              case round =>
                obtain ⟨j, a', c', rfl, hj, rfl, HG⟩ := hrel
                clear HG0 ec
                by_cases hjl : j < 70
                · have hjl' : (j : Int) < 70 := by omega
                  have hqb : (q : Int) ≤ 120 := by omega
                  go_wp2_with (at_builtin
                               refine wp_oneX rfl _ _ rfl wi wr (enAt K q) j (mkV q) (1000 + (q : Int)) a' c' _ rfl rfl HG.out rfl _ 1 rfl rfl (by omega) ((enAt K q).l + (j + 1)) (by omega) ?_
                               intro a'' c'' w8 HG8)
                  go_roundw
                  case rel => exact ⟨j + 1, a'', c'', by go_num, by omega, rfl, HG8⟩
                  case measure => simp [intOf]; omega
                · have hjl' : ¬ (j : Int) < 70 := by omega
                  obtain rfl : j = 70 := by omega
                  have HLr : Hid (Own 22 1 wr w6.heap.size la lc q (LL.map enV)) := HOi.out.lr.kept HG.out.kept (fun k e f => by
                    have h1 := HOi.out.lr.base e
                    have h2 := HKB6.out k ⟨q, by rw [HKl.out]; exact hql, f⟩
                    omega)
                  have HSz : Hid (w6.heap.size ≤ wr.heap.size) := by have h1 := HOi.out.kept.size; have h2 := HG.out.kept.size; show _ ≤ _; omega
                  go_wp2_with (at_builtin
                               refine wp_appV rfl _ _ 33 22 1 24 (.slice none 0 0) Try.und33 Try.info22 rfl (by omega) rfl w6.heap.size q lc la (LL.map enV) rfl (HLr.out.no ((Kept.refl No wr).alloc _)) ⟨wr.heap.size, 0, none⟩ 1 1 [.slice a' ((enAt K q).l + 70) c'] rfl rfl (cell_new1 _ _ _) (by simp [Value.oneCell']) (by omega) (by omega) (by omega) (by have := HSz.out; simp; omega) (q + 1) rfl ?_
                               intro g' lc' w9 HO9 HK9
                               have HON : Hid (O3 w6 w9 lo K (q + 1) (some ⟨g', 0, none⟩) lc' (LL ++ [⟨a', (enAt K q).l + 70, c'⟩])) := HOi.out.step (by rw [HKl.out]; exact hql) HG.out HDis.out HKB6.out HO9.out HK9.out
                               clear HO9 HK9)
                  go_roundw
                  case rel => exact ⟨q + 1, some ⟨g', 0, none⟩, lc', by go_num, by omega, rfl, ⟨_, HON.out⟩⟩
                  case measure => simp [intOf]; omega
            · have hql' : ¬ (q : Int) < (i : Int) := by omega
              obtain rfl : q = i := by omega
              generalize wr = w10 at HO ⊢
              have HLc : Hid (∀ W p, Kept No w10 W → p < q → ∃ g, la = some ⟨g, 0, none⟩ ∧ W.cell? ⟨g, p, none⟩ = some (.slice (enAt LL p).a (enAt LL p).l (enAt LL p).c)) := fun W p hk hp => by
                obtain ⟨g, v, e1, e2, e3, _⟩ := (HO.out.lr.no hk).at1 hp
                rw [en_at (by rw [HO.out.ll]; exact hp)] at e2
                cases e2
                exact ⟨g, e1, e3⟩
              go_wp2
              -- all are looked at
              go_loopw [19] (fun vi wz => ∃ p : Nat, vi = .int .i64 p ∧ p ≤ q ∧ Hid (Kept No w10 wz)) (fun p _ => q - (intOf p).toNat)
              case atStart => exact ⟨0, by go_num, by omega, Kept.refl _ _⟩
              case round =>
                obtain ⟨p, rfl, hp, HKp⟩ := hrel
                by_cases hpl : p < q
                · have hpl' : (p : Int) < (q : Int) := by omega
                  have hp0 : (0 : Int) ≤ (p : Int) := by omega
                  obtain ⟨kg, rfl, ec⟩ := HEc.out wr p (HO.out.kept.then HKp.out.of_no) hpl
                  obtain ⟨lg, rfl, el⟩ := HLc.out wr p HKp.out hpl
                  have hel := HLen.out p hpl
                  have HLl : Hid ((enAt LL p).l = (enAt K p).l + 70) := (HO.out.lo' p hpl).1
                  rw [HLl.out] at el
                  have HMk : Hid (∀ W j, Kept No w10 W → j < (enAt K p).l → ∃ g, (enAt K p).a = some ⟨g, 0, none⟩ ∧ W.cell? ⟨g, j, none⟩ = some (mkV p)) := fun W j hk hj => by
                    obtain ⟨g, e1, e2⟩ := HO.out.mkd p hpl j hj
                    exact ⟨g, e1, hk.cell e2 (fun e => e)⟩
                  have HLo2 : Hid (∀ W, Kept No w10 W → Own 3 1 W 0 (enAt LL p).a (enAt LL p).c ((enAt K p).l + 70) (List.replicate (enAt K p).l (mkV p) ++ List.replicate 70 (gwV p))) := fun W hk => ((HO.out.lo' p hpl).2).no hk
                  have HEcp : Hid (∀ W, Kept No w10 W → W.cell? ⟨kg, p, none⟩ = some (.slice (enAt K p).a (enAt K p).l (enAt K p).c) ∧ W.cell? ⟨lg, p, none⟩ = some (.slice (enAt LL p).a ((enAt K p).l + 70) (enAt LL p).c)) := fun W hk => by
                    obtain ⟨_, e1, h1⟩ := HEc.out W p (HO.out.kept.then hk.of_no) hpl
                    cases e1
                    obtain ⟨_, e2, h2⟩ := HLc.out W p hk hpl
                    cases e2
                    rw [HLl.out] at h2
                    exact ⟨h1, h2⟩
                  have hpb : (p : Int) ≤ 120 := by omega
                  clear ec el
                  go_wp2
                  go_loopw [20] (fun vj wz => ∃ j : Nat, vj = .int .i64 j ∧ j ≤ (enAt K p).l + 70 ∧ Hid (Kept No w10 wz)) (fun j _ => (enAt K p).l + 70 - (intOf j).toNat)
                  case atStart => exact ⟨0, by go_num, by omega, HKp⟩
                  case round =>
                    obtain ⟨j, rfl, hj, HKj⟩ := hrel
                    obtain ⟨ec, el⟩ := HEcp.out wr HKj.out
                    by_cases hjl : j < (enAt K p).l
                    · obtain ⟨kb, eka, ek⟩ := HMk.out wr j HKj.out hjl
                      obtain ⟨lb, lv, ela, elv, elc, _⟩ := (HLo2.out wr HKj.out).at1 (i := j) (by omega)
                      rw [List.getElem?_append_left (by simpa using hjl), List.getElem?_replicate, if_pos hjl] at elv
                      cases elv
                      rw [eka] at ec
                      rw [ela] at el
                      simp only [mkV] at ek elc
                      generalize (enAt K p).l = l1 at hel hj hjl ec el ⊢
                      generalize (enAt K p).c = c1 at ec
                      generalize (enAt LL p).c = c2 at el
                      have hjl' : (j : Int) < (l1 : Int) := by omega
                      have hjl2 : (j : Int) < (l1 : Int) + 70 := by omega
                      have hjl3 : ¬ (l1 : Int) ≤ (j : Int) := by omega
                      have hj0 : (0 : Int) ≤ (j : Int) := by omega
                      go_wp2
                      go_roundw
                      case rel => exact ⟨j + 1, by go_num, by omega, HKj⟩
                      case measure => simp [intOf]; omega
                    · by_cases hj2 : j < (enAt K p).l + 70
                      · obtain ⟨lb, lv, ela, elv, elc, _⟩ := (HLo2.out wr HKj.out).at1 (i := j) hj2
                        rw [List.getElem?_append_right (by simpa using hjl), List.getElem?_replicate, if_pos (by rw [List.length_replicate]; omega)] at elv
                        cases elv
                        rw [ela] at el
                        simp only [gwV] at elc
                        generalize (enAt K p).l = l1 at hel hj hjl hj2 ec el ⊢
                        generalize (enAt K p).c = c1 at ec
                        generalize (enAt K p).a = a9 at ec
                        generalize (enAt LL p).c = c2 at el
                        have hjl' : ¬ (j : Int) < (l1 : Int) := by omega
                        have hjl2 : (j : Int) < (l1 : Int) + 70 := by omega
                        have hjl3 : (l1 : Int) ≤ (j : Int) := by omega
                        have hj0 : (0 : Int) ≤ (j : Int) := by omega
                        go_wp2
                        go_roundw
                        case rel => exact ⟨j + 1, by go_num, by omega, HKj⟩
                        case measure => simp [intOf]; omega
                      · obtain rfl : j = (enAt K p).l + 70 := by omega
                        generalize (enAt K p).l = l1 at hel hj hjl hj2 ec el ⊢
                        generalize (enAt K p).c = c1 at ec
                        generalize (enAt K p).a = a9 at ec
                        generalize (enAt LL p).c = c2 at el
                        generalize (enAt LL p).a = a8 at el
                        have hjl2 : ¬ ((l1 + 70 : Nat) : Int) < (l1 : Int) + 70 := by omega
                        go_wp2
                        go_roundw
                        case rel => exact ⟨p + 1, by go_num, by omega, HKj⟩
                        case measure => simp [intOf]; omega
                · have hpl' : ¬ (p : Int) < (q : Int) := by omega
                  have HMs9 : Hid (Calls Try.prog 19 #[.pointer (some ⟨B + 1, 0, none⟩)] wr (MissOut wr ML)) := HMs.out wr (HT6.out wr (HO.out.kept.then HKp.out.of_no))
                  have HL9 : Hid (∀ W, Kept No wr W → Nums .i64 W al ML) := fun W hk => HL6.out W ((HO.out.kept.then HKp.out.of_no).then hk.of_no)
                  have HK9 : Hid (∀ W, Kept No wr W → Kept No w W) := fun W hk => HKw6.out W ((HO.out.kept.then HKp.out.of_no).then hk.of_no)
                  go_wp2_with (first
                    | (go_at_call 20
                       have htok := HNm
                       refine Calls.mono (same_any am al ML.length ML.length cm cl ML ML w11 rfl rfl (by have := HMl.out; omega) (by have := HMl.out; omega) HNm.out (HL9.out w11 HK11.out)) ?_
                       rintro e w12 ⟨rfl, hk⟩
                       rw [show decide (ML = ML) = true by simp]
                       have HK12 : Hid (Kept No wr w12) := HK11.out.then hk
                       clear hk htok)
                    | (go_at_call 19
                       refine Calls.mono HMs9.out ?_
                       rintro e w11 ⟨am, cm, rfl, hO, hk⟩
                       have HNm : Hid (Nums .i64 w11 am ML) := hO.nums rfl
                       have HK11 : Hid (Kept No wr w11) := hk
                       clear hO hk))
                  all_goals go_ret
                  all_goals exact ⟨rfl, (HK9.out _ HK12.out).below (Nat.le_refl _) (fun _ e => e.elim)⟩

end Go.Proofs.Ytmhjbkpojndhkab
