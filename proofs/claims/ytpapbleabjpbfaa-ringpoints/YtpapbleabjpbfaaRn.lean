import Derived.Test.YtpapbleabjpbfaaPu
import Derived.Test.YtpapbleabjpbfaaNu
import Derived.Deep.RegionHeld3
namespace Go.Proofs.Ytpapbleabjpbfaa
open Go.RowKit
set_option linter.unusedVariables false
set_option linter.unusedSimpArgs false

/-- A ring of the document's: its servers rising, its points. -/
def RefAt (w : World) (base r : Nat) (zs : List Int) (f : Int) (p : Nat) (bu bl ro : Int) (ps : List (Int × Int)) : Prop :=
  ∃ sv v L, Box w r 34 #[sv, .int .i64 f, .int .i64 p, .int .i64 bu, .int .i64 bl, .int .i64 ro, v] ∧
    w.ownsRow base 3 1 sv zs.length (zs.map (Value.int .i64)) ∧ w.ownsRow base 74 3 v L.length (flat3 L) ∧ L.map pr = ps ∧ base ≤ r
theorem RefAt.no {w w' : World} {base r : Nat} {zs : List Int} {f : Int} {p : Nat} {bu bl ro : Int} {ps : List (Int × Int)} (h : RefAt w base r zs f p bu bl ro ps) (hk : Kept No w w') : RefAt w' base r zs f p bu bl ro ps := by
  obtain ⟨sv, v, L, h1, h2, h3, h4, h5⟩ := h
  exact ⟨sv, v, L, h1.kept hk (fun e => e), owns_no h2 hk, owns_no h3 hk, h4, h5⟩

set_option maxRecDepth 100000 in
set_option maxHeartbeats 4000000 in
theorem refNo_any (a : Option Addr) (cap : Nat) (zs : List Int) (f p bu bl ro : Int) (w : World) (hb : Nums .i64 w a zs) (hc : cfgB zs f p bu bl ro = false) :
    Calls Try.prog 32 #[cfgV (.slice a zs.length cap) f p bu bl ro] w fun e w' => e = .returned (.tuple #[.pointer none, .int .i64 20]) ∧ Kept No w w' := by
  have HR := is_any a cap zs f p bu bl ro (w.alloc (.cells #[.slice a zs.length cap, .int .i64 f, .int .i64 p, .int .i64 bu, .int .i64 bl, .int .i64 ro] 29)) (hb.no ((Kept.refl No w).alloc _))
  rw [hc] at HR
  have HR' : Hid _ := HR
  clear HR hb
  go_enter Try.func32, Try.ntmps32
  go_wp2_with (go_at_call 23; refine Calls.mono HR'.out ?_; rintro e w2 ⟨rfl, hk2⟩)
  go_ret2
  exact ⟨rfl, ((Kept.refl No w).alloc _).then hk2⟩

/-- The document's ring while it is made. -/
structure Mk (w4 w : World) (r base : Nat) (cv : List Value) (v : Value) (L : List T3) : Prop where
  box : Box w r 34 (cv ++ [v]).toArray
  own : w.ownsRow base 74 3 v L.length (flat3 L)
  ord : Ord3 L
  kept : Kept (fun k => k = r ∨ base ≤ k) w4 w
theorem Mk.put {w4 w w' : World} {r base : Nat} {cv : List Value} {v : Value} {L : List T3} {p : T3} (h : Mk w4 w r base cv v L) (hp : PutR w w' r base cv L p) : ∃ v' Q, InsP p L Q ∧ Mk w4 w' r base cv v' Q := by
  obtain ⟨v', qs, hi, hb, ho, hk⟩ := hp
  exact ⟨v', qs, hi, hb, ho, hi.ord h.ord, h.kept.then hk⟩
theorem Mk.no {w4 w w' : World} {r base : Nat} {cv : List Value} {v : Value} {L : List T3} (h : Mk w4 w r base cv v L) (hk : Kept No w w') : Mk w4 w' r base cv v L :=
  ⟨h.box.kept hk (fun e => e), owns_no h.own hk, h.ord, h.kept.then hk.of_no⟩
def MkR (w4 w : World) (r base : Nat) (cv : List Value) (T : List T3) : Prop := ∃ v L, Mk w4 w r base cv v L ∧ L.Perm T

theorem Own.lower' {t : TypeId} {c : Nat} {w : World} {base base' : Nat} {v : Value} {n : Nat} {vs : List Value} (h : w.ownsRow base t c v n vs) (hb : base' ≤ base) : w.ownsRow base' t c v n vs := by
  refine ⟨h.1, ?_⟩
  rcases h.2 with hn | ⟨g, cap', cur, hv, hb', rest⟩
  · exact .inl hn
  · exact .inr ⟨g, cap', cur, hv, by omega, rest⟩

theorem fnv_num2 (s : Int) (n : Nat) : fnv (eightsOf [s, n]) = numH (numH 2166136261 s) n := by
  unfold fnv eightsOf numH
  simp only [List.map_cons, List.map_nil, List.flatten_cons, List.flatten_nil, List.foldl_append, List.foldl_nil]

theorem rising2_any (a : Option Addr) (cap : Nat) (zs : List Int) (w : World) (hm : zs.length ≤ 64) (hb : Nums .i64 w a zs) (hz : ∀ z ∈ zs, 1 ≤ z ∧ z ≤ 255) :
    Calls Try.prog 52 #[.slice a zs.length cap] w fun e w' => ∃ v, e = .returned v ∧ w'.ownsRow w.heap.size 3 1 v zs.length ((sortI zs).map (Value.int .i64)) ∧ Kept No w w' := by
  have h := rising_any a cap zs.length zs w rfl hm hb
  rw [risN_sortI zs hz, sortI_len] at h
  exact h

attribute [local irreducible] numH risN

set_option maxRecDepth 100000 in
set_option maxHeartbeats 400000 in
theorem refYes_any (a : Option Addr) (cap : Nat) (zs : List Int) (f : Int) (p : Nat) (bu bl ro : Int) (w : World) (hb : Nums .i64 w a zs) (hc : cfgB zs f p bu bl ro = true) :
    Calls Try.prog 32 #[cfgV (.slice a zs.length cap) f p bu bl ro] w fun e w' => ∃ r, e = .returned (.tuple #[.pointer (some ⟨r, 0, none⟩), .int .i64 0]) ∧ RefAt w' w.heap.size r (sortI zs) f p bu bl ro (sortP (ptsOf (sortI zs) p)) ∧ Kept No w w' := by
  obtain ⟨⟨hf0, hf3, hf1, h64⟩, hg, ⟨hp1, hp2⟩, _⟩ := cfgB_true hc
  have HR := is_any a cap zs f p bu bl ro (w.alloc (.cells #[.slice a zs.length cap, .int .i64 f, .int .i64 p, .int .i64 bu, .int .i64 bl, .int .i64 ro] 29)) (hb.no ((Kept.refl No w).alloc _))
  rw [hc] at HR
  have HR' : Hid _ := HR
  have HB : Hid (Nums .i64 w a zs) := hb
  have HRi : Hid (∀ W, Kept No w W → Calls Try.prog 52 #[.slice a zs.length cap] W fun e w' => ∃ v, e = .returned v ∧ w'.ownsRow W.heap.size 3 1 v zs.length ((sortI zs).map (Value.int .i64)) ∧ Kept No W w') := fun W hk => rising2_any a cap zs W h64 (HB.out.no hk) (by
    intro z hz
    obtain ⟨i, hi, rfl⟩ := List.mem_iff_getElem.1 hz
    have := (hg i hi).1
    rw [List.getElem?_eq_getElem hi, Option.getD_some] at this
    exact this)
  clear HR hb hc hg hf0 hf3 hf1
  go_enter Try.func32, Try.ntmps32
  go_wp2_with fail
  refine Calls.mono HR'.out ?_
  rintro e w1 ⟨rfl, hk1⟩
  have HK1 : Hid (Kept No w w1) := ((Kept.refl No w).alloc _).then hk1
  have HC1 : Hid (Box w1 w.heap.size 29 #[.slice a zs.length cap, .int .i64 f, .int .i64 p, .int .i64 bu, .int .i64 bl, .int .i64 ro]) := (Box.new _ _ _).kept hk1 (fun e => e)
  have c0 := HC1.out.cell 0
  have c1 := HC1.out.cell 1
  have c2 := HC1.out.cell 2
  have c3 := HC1.out.cell 3
  have c4 := HC1.out.cell 4
  have c5 := HC1.out.cell 5
  simp only [List.getElem?_toArray, List.getElem?_cons_zero, List.getElem?_cons_succ] at c0 c1 c2 c3 c4 c5
  have c0a := (HC1.out.alloc (.cells #[.slice a zs.length cap, .int .i64 f, .int .i64 p, .int .i64 bu, .int .i64 bl, .int .i64 ro, .slice none 0 0] 34)).cell 0
  simp only [List.getElem?_toArray, List.getElem?_cons_zero] at c0a
  clear hk1 HR'
  go_wp2_with fail
  obtain ⟨w2, hw2⟩ : ∃ w2, w2 = w1.alloc (.cells #[.slice a zs.length cap, .int .i64 f, .int .i64 p, .int .i64 bu, .int .i64 bl, .int .i64 ro, .slice none 0 0] 34) := ⟨_, rfl⟩
  rw [← hw2]
  obtain ⟨r, hr⟩ : ∃ r, r = w1.heap.size := ⟨_, rfl⟩
  obtain ⟨cb, hcb⟩ : ∃ cb, cb = w.heap.size := ⟨_, rfl⟩
  have HB2 : Hid (Box w2 r 34 #[.slice a zs.length cap, .int .i64 f, .int .i64 p, .int .i64 bu, .int .i64 bl, .int .i64 ro, .slice none 0 0]) := by rw [hw2, hr]; exact Box.new _ _ _
  have HC2 : Hid (Box w2 cb 29 #[.slice a zs.length cap, .int .i64 f, .int .i64 p, .int .i64 bu, .int .i64 bl, .int .i64 ro]) := by rw [hw2, hcb]; exact HC1.out.alloc _
  have HK2 : Hid (Kept No w w2) := by rw [hw2]; exact HK1.out.alloc _
  have hcr : cb < r := by have := HC1.out.lt; omega
  have HCw : Hid (cb = w.heap.size) := hcb
  have hr2 : r < w2.heap.size := HB2.out.lt
  rw [← hr, ← hcb]
  clear hw2 hr hcb HC1 HK1 c0 c1 c2 c3 c4 c5 c0a
  refine Calls.mono (HRi.out w2 HK2.out) ?_
  rintro e w3 ⟨sv, rfl, ho3, hk3⟩
  obtain ⟨sa, sc, rfl⟩ := owns_slice ho3
  have HO3 : Hid (w3.ownsRow w2.heap.size 3 1 (.slice sa zs.length sc) zs.length ((sortI zs).map (Value.int .i64))) := ho3
  have HB3 : Hid (Box w3 r 34 #[.slice a zs.length cap, .int .i64 f, .int .i64 p, .int .i64 bu, .int .i64 bl, .int .i64 ro, .slice none 0 0]) := HB2.out.kept hk3 (fun e => e)
  have HC3 : Hid (Box w3 cb 29 #[.slice a zs.length cap, .int .i64 f, .int .i64 p, .int .i64 bu, .int .i64 bl, .int .i64 ro]) := HC2.out.kept hk3 (fun e => e)
  have HK3 : Hid (Kept No w w3) := HK2.out.then hk3
  have b0 := HB3.out.cell 0
  have g0 := HB3.out.frozen 0
  simp only [List.getElem?_toArray, List.getElem?_cons_zero] at b0
  clear ho3 hk3 HRi HB2 HC2
  go_wp2
  obtain ⟨w4, hw4⟩ : ∃ w4, w4 = w3.setCell { block := r, off := 0 } (Value.slice sa zs.length sc) := ⟨_, rfl⟩
  rw [← hw4]
  have HK34 : Hid (Kept (Only r) w3 w4) := by rw [hw4]; exact (Kept.refl (Only r) w3).setCell (p := ⟨r, 0, none⟩) (fun _ => rfl) _
  have HB4 : Hid (Box w4 r 34 ([Value.slice sa zs.length sc, .int .i64 f, .int .i64 p, .int .i64 bu, .int .i64 bl, .int .i64 ro] ++ [Value.slice none 0 0]).toArray) := by
    rw [hw4]; have := HB3.out.set 0 (Value.slice sa zs.length sc); exact this
  have HC4 : Hid (Box w4 cb 29 #[.slice a zs.length cap, .int .i64 f, .int .i64 p, .int .i64 bu, .int .i64 bl, .int .i64 ro]) := HC3.out.kept HK34.out (fun e => by have : cb = r := e; omega)
  have HO4 : Hid (w4.ownsRow w2.heap.size 3 1 (.slice sa zs.length sc) zs.length ((sortI zs).map (Value.int .i64))) := Own.kept (t := 3) (c := 1) HO3.out HK34.out (fun k hk e => by have h1 := Own.base (t := 3) (c := 1) HO3.out hk; have : k = r := e; omega)
  have HK4 : Hid (Kept No w w4) := HK3.out.trans HK34.out (fun _ e => e) (fun i hi e => by have : i = r := e; have := HCw.out; omega)
  obtain ⟨base, hbase⟩ : ∃ base, base = w4.heap.size := ⟨_, rfl⟩
  have hrb : r < base := by rw [hbase]; exact HB4.out.lt
  have HSa : Hid (∀ k, At sa k → k < base ∧ k ≠ r) := by
    intro k hk
    have h1 := Own.base (t := 3) (c := 1) HO4.out hk
    refine ⟨?_, by omega⟩
    obtain ⟨ad, rfl, rfl⟩ := hk
    rcases HO4.out.2 with ⟨e, _⟩ | ⟨g, c', cur, e, _, hg, _⟩
    · cases e
    · cases e; rw [hbase]; exact (Array.getElem?_eq_some_iff.1 hg).1
  have HNu : Hid (Nums .i64 w4 sa (sortI zs)) := Own.nums (t := 3) HO4.out (sortI_len zs)
  have HBw : Hid (base = w4.heap.size) := hbase
  have HW2 : Hid (w.heap.size ≤ w2.heap.size) := HK2.out.size
  clear hw4 HB3 HC3 HO3 HK3 HK34 b0 g0 hbase hr2 HK2
  obtain ⟨cv, hcv⟩ : ∃ cv, cv = [Value.slice sa zs.length sc, .int .i64 f, .int .i64 p, .int .i64 bu, .int .i64 bl, .int .i64 ro] := ⟨_, rfl⟩
  have HM0 : Hid (MkR w4 w4 r base cv (trips ((sortI zs).take 0) p)) := ⟨_, [], ⟨by rw [hcv]; exact HB4.out, ⟨rfl, .inl ⟨rfl, rfl⟩⟩, List.Pairwise.nil, Kept.refl _ _⟩, List.Perm.refl _⟩
  have HCv : Hid (cv = [Value.slice sa zs.length sc, .int .i64 f, .int .i64 p, .int .i64 bu, .int .i64 bl, .int .i64 ro]) := hcv
  have HSl : Hid ((sortI zs).length = zs.length) := sortI_len zs
  have HSr : Hid (∀ W v L, Mk w4 W r base cv v L → W.cell? ⟨r, 0, none⟩ = some (.slice sa zs.length sc) ∧ W.cell? ⟨cb, 2, none⟩ = some (.int .i64 p) ∧ ∀ k, k < zs.length → ∃ b off, sa = some ⟨b, off, none⟩ ∧ W.cell? ⟨b, off + k, none⟩ = some (.int .i64 ((sortI zs)[k]?.getD 0))) := by
    intro W v L hM
    refine ⟨?_, ?_, ?_⟩
    · have := hM.box.cell 0
      rw [HCv.out] at this
      exact this.trans rfl
    · have := (HC4.out.kept hM.kept (by omega)).cell 2
      exact this.trans rfl
    · intro k hk
      exact (HNu.out.kept hM.kept (fun b off e h => by have h2 := HSa.out b ⟨_, e, rfl⟩; omega)) k (by rw [HSl.out]; exact hk)
  generalize hss : sortI zs = ss at HM0 HO4 HNu HSl HSr
  have HSS : Hid (sortI zs = ss) := hss
  clear hss
  clear hcv HB4 HNu HC4
  have hn64 : (zs.length : Int) ≤ 64 := by omega
  go_loopw [5] (fun vi wr => ∃ (k : Nat), vi = .int .i64 k ∧ k ≤ zs.length ∧ Hid (MkR w4 wr r base cv (trips (ss.take k) p))) (fun i _ => zs.length - (intOf i).toNat)
  case atStart => exact ⟨0, rfl, Nat.zero_le _, HM0⟩
  case round =>
    obtain ⟨k, rfl, hk, HM⟩ := hrel
    clear HM0
    obtain ⟨v, L, hM, hP⟩ := HM.out
    obtain ⟨s0, s1, s2⟩ := HSr.out wr v L hM
    clear hM hP
    by_cases hlt : k < zs.length
    · have hlt' : (k : Int) < (zs.length : Int) := by omega
      obtain ⟨z, hz⟩ : ∃ z, ss[k]?.getD 0 = z := ⟨_, rfl⟩
      have HZ : Hid (ss[k]?.getD 0 = z) := hz
      obtain ⟨sb, soff, rfl, _⟩ := s2 k hlt
      clear s2 hz v L
      go_wp2
      go_loopw [6] (fun vj wr => ∃ (j : Nat), vj = .int .i64 j ∧ j ≤ p ∧ Hid (MkR w4 wr r base cv (trips (ss.take k) p ++ tripN z j))) (fun j _ => p - (intOf j).toNat)
      case atStart => exact ⟨0, rfl, Nat.zero_le _, by rw [show tripN z 0 = [] from rfl, List.append_nil]; exact HM⟩
      case round =>
        obtain ⟨j, rfl, hj, HMj⟩ := hrel
        clear HM s0 s1
        obtain ⟨v, L, hM, hP⟩ := HMj.out
        obtain ⟨s0, s1, s2⟩ := HSr.out wr v L hM
        by_cases hjl : j < p
        · have hjl' : (j : Int) < (p : Int) := by omega
          obtain ⟨sb', soff', e, s3⟩ := s2 k hlt
          cases e
          rw [HZ.out] at s3
          have HLn : Hid (L.length < 4096) := by
            show _ < _
            have h1 := hP.length_eq
            rw [List.length_append, trips_len] at h1
            have h2 : (tripN z j).length = j := by simp [tripN]
            have h3 : (ss.take k).length ≤ 63 := by simp; omega
            have h4 : (ss.take k).length * p ≤ 63 * 64 := Nat.mul_le_mul h3 (by omega)
            omega
          have b1 := numH_bd 2166136261 z (by omega) (by omega)
          have HN1 : Hid _ := fun W => number_any 2166136261 z (by omega) (by omega) W
          have HN2 : Hid _ := fun W => number_any (numH 2166136261 z) (j : Int) b1.1 b1.2 W
          have HPt : Hid (∀ W, Kept No wr W → Calls Try.prog 53 #[.pointer (some ⟨r, 0, none⟩), .agg #[.int .i64 (numH (numH 2166136261 z) (j : Int)), .int .i64 z, .int .i64 (j : Int)]] W fun e w' => e = .returned (.tuple #[]) ∧ PutR W w' r base cv L (numH (numH 2166136261 z) (j : Int), z, (j : Int))) := fun W hk =>
            put_any r base cv v L (numH (numH 2166136261 z) (j : Int), z, (j : Int)) W (by rw [HCv.out]; rfl) (hM.no hk).box hrb (by have := (hM.no hk).kept.size; have := HBw.out; omega) HLn.out (hM.no hk).own
          have HTr : Hid (tripAt z j = (numH (numH 2166136261 z) (j : Int), z, (j : Int))) := by show _ = _; rw [tripAt, fnv_num2]
          generalize numH (numH 2166136261 z) (j : Int) = x2 at HN2 HPt HTr
          generalize numH 2166136261 z = x1 at HN1 HN2
          have HMw : Hid (Mk w4 wr r base cv v L) := hM
          have HPw : Hid (L.Perm (trips (ss.take k) p ++ tripN z j)) := hP
          clear b1 hM hP s2
          have TX1 : True := trivial
          have TX2 : True := trivial
          have hk0 : (0 : Int) ≤ (k : Int) := by omega
          go_wp2
          go_region_held3 (fun w' => w'.cell? ⟨r, 0, none⟩ = some (Value.slice (some ⟨sb, soff, none⟩) zs.length sc) ∧ w'.cell? ⟨sb, soff + k, none⟩ = some (.int .i64 z)) (go_keep) (first
            | (go_at_call 41
               have hguard := TX1
               clear hguard TX1
               refine Calls.mono (HN1.out _) ?_
               rintro e w5 ⟨rfl, rfl⟩)
            | (go_at_call 41
               have hguard := TX2
               clear hguard TX2
               refine Calls.mono (HN2.out _) ?_
               rintro e w5 ⟨rfl, rfl⟩)
            | (go_at_call 53
               refine Calls.mono (HPt.out _ (by first | exact (Kept.refl No wr).drew | exact (Kept.refl No wr).drewN _)) ?_
               rintro e w6 ⟨rfl, hp6⟩
               obtain ⟨v6, Q6, hi6, hM6⟩ := (HMw.out.no (by first | exact (Kept.refl No wr).drew | exact (Kept.refl No wr).drewN _)).put hp6
               have HM6 : Hid (Mk w4 w6 r base cv v6 Q6) := hM6
               have HI6 : Hid (InsP (x2, z, (j : Int)) L Q6) := hi6
               obtain ⟨d0, d1, d2⟩ := HSr.out w6 v6 Q6 hM6
               obtain ⟨sb', soff', e, d3⟩ := d2 k hlt
               cases e
               rw [HZ.out] at d3
               clear hp6 hi6 hM6 d1 d2))
          go_wp2
          go_roundw
          case rel =>
            refine ⟨j + 1, by go_num, by omega, v6, Q6, HM6.out, ?_⟩
            rw [tripN_succ, HTr.out, ← List.append_assoc]
            exact HI6.out.perm.trans (HPw.out.append_right _)
          case measure => simp [intOf]; omega
        · have hjl' : ¬ (j : Int) < (p : Int) := by omega
          clear s2 hM hP
          have HE : Hid (trips (ss.take k) p ++ tripN z j = trips (ss.take (k + 1)) p) := by
            show _ = _
            rw [trips_snoc ss p k (by rw [HSl.out]; exact hlt), HZ.out, show j = p by omega]
          go_wp2
          go_roundw
          case rel => exact ⟨k + 1, by go_num, by omega, by rw [← HE.out]; exact HMj⟩
          case measure => simp [intOf]; omega
    · have hlt' : ¬ (k : Int) < (zs.length : Int) := by omega
      clear s2
      go_wp2
      go_ret2
      obtain ⟨v, L, hM, hP⟩ := HM.out
      rw [List.take_of_length_le (by rw [HSl.out]; omega)] at hP
      have hsz := hM.kept.size
      rw [HSS.out]
      refine ⟨r, rfl, ⟨_, v, L, by have := hM.box; rw [HCv.out] at this; exact this, ?_, ?_, trips_sort L ss p hP hM.ord, by have := HCw.out; omega⟩, ?_⟩
      · rw [HSl.out]
        exact (Own.kept (t := 3) (c := 1) HO4.out hM.kept (fun k hk e => by have := HSa.out k hk; omega)).lower HW2.out
      · exact Own.lower' hM.own (by have := HCw.out; omega)
      · exact HK4.out.trans hM.kept (fun _ e => e) (fun i hi e => by have := HCw.out; omega)

end Go.Proofs.Ytpapbleabjpbfaa
