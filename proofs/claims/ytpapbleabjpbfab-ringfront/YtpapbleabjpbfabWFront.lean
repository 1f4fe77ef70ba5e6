import Derived.Test.YtpapbleabjpbfabMd
import Derived.Test.YtpapbleabjpbfabCg
import Derived.Test.YtpapbleabjpbfabFt
import Derived.Test.YtpapbleabjpbfabTz
import Derived.Deep.RegionHeld3
namespace Go.Proofs.Ytpapbleabjpbfab
open Go.RowKit
set_option linter.unusedVariables false

/-- The row while it is turned. -/
def turnK (zs : List Int) (t k : Nat) : List Int := (rotL zs t).take k ++ zs.drop k ++ [-77]
theorem turnK_0 (zs : List Int) (t : Nat) : turnK zs t 0 = zs ++ [-77] := by simp [turnK]
theorem turnK_all (zs : List Int) (t : Nat) : turnK zs t zs.length = rotL zs t ++ [-77] := by
  rw [turnK, List.drop_length, List.append_nil, List.take_of_length_le (by rw [rotL_len]; exact Nat.le_refl _)]
theorem turnK_at {zs : List Int} {t k : Nat} (h : k < zs.length) : ((turnK zs t k).map (Value.int .i64)).toArray[k]? = some (.int .i64 (zs[k]?.getD 0)) := by
  have hl : ((rotL zs t).take k).length = k := by rw [List.length_take, rotL_len]; omega
  rw [List.getElem?_toArray, List.getElem?_map, turnK, List.append_assoc, List.getElem?_append_right (by omega), hl, Nat.sub_self, List.drop_eq_getElem_cons h, List.cons_append, List.getElem?_cons_zero, List.getElem?_eq_getElem h]
  rfl
theorem turnK_set {zs : List Int} {t k : Nat} (h : k < zs.length) : ((turnK zs t k).map (Value.int .i64)).toArray.setIfInBounds k (.int .i64 (zs[(k + t) % zs.length]?.getD 0)) = ((turnK zs t (k + 1)).map (Value.int .i64)).toArray := by
  have hl : ((rotL zs t).take k).length = k := by rw [List.length_take, rotL_len]; omega
  have hr : k < (rotL zs t).length := by rw [rotL_len]; exact h
  have e : (rotL zs t)[k] = zs[(k + t) % zs.length]?.getD 0 := by
    have := rotL_at zs t k h
    rwa [List.getElem?_eq_getElem hr, Option.getD_some] at this
  have hs : (turnK zs t k).set k (zs[(k + t) % zs.length]?.getD 0) = turnK zs t (k + 1) := by
    rw [turnK, turnK, List.append_assoc, List.append_assoc, List.set_append_right _ _ (by omega), hl, Nat.sub_self, List.drop_eq_getElem_cons h, List.take_succ_eq_append_getElem hr, e, List.cons_append, List.set_cons_zero, List.append_assoc]
    rfl
  rw [← hs, List.setIfInBounds_toArray, List.map_set]

set_option maxRecDepth 100000 in
set_option maxHeartbeats 8000000 in
theorem frontWalk (x : Cfg) (f' turn : Int) (a1 : Option Addr) (n1 c1 : Nat) (ks : List Ky) (a2 : Option Addr) (n2 c2 : Nat) (ss : List ByteArray) (w : World) (hx : CfgOk w x) (hf' : I64 f') (ht : I64 turn) (h1 : ks.length = n1) (hk : Keys w a1 ks) (hb1 : n1 ≤ 140737488355328) (h2 : ss.length = n2) (hs : Strs w a2 ss) (hsz : ∀ s ∈ ss, s.size ≤ 9223372036854775807) (hb2 : n2 ≤ 140737488355328) :
    Calls Try.prog 4 #[cfgV (.slice x.a x.n x.c) x.f x.p x.bu x.bl x.ro, .int .i64 f', .int .i64 turn, .slice a1 n1 c1, .slice a2 n2 c2] w fun e w' => e = .returned (.bool true) ∧ Below w.heap.size w w' := by
  have HL1 : Hid (ks.length = n1) := h1
  have HL2 : Hid (ss.length = n2) := h2
  have HKs : Hid (Keys w a1 ks) := hk
  have HSs : Hid (Strs w a2 ss) := hs
  have HSz : Hid (∀ s ∈ ss, s.size ≤ 9223372036854775807) := hsz
  clear h1 h2 hk hs hsz
  have hmix : Try.prog.follows .mixedOrders = true := by kernel_rfl
  obtain ⟨xa, xn, xc, zs, f, p, bu, bl, ro⟩ := x
  have hln : zs.length = xn := hx.len
  subst hln
  have HX : Hid (CfgOk w ⟨xa, zs.length, xc, zs, f, p, bu, bl, ro⟩) := hx
  have hle : zs.length ≤ 17592186043904 := hx.le
  clear hx
  simp only
  go_enter Try.func4, Try.ntmps4
  go_wp2_with fail
  obtain ⟨w0, hw0⟩ : ∃ w0, w0 = w.alloc (.cells #[.slice xa zs.length xc, .int .i64 f, .int .i64 p, .int .i64 bu, .int .i64 bl, .int .i64 ro] 24) := ⟨_, rfl⟩
  rw [← hw0]
  obtain ⟨cb, hcb⟩ : ∃ cb, cb = w.heap.size := ⟨_, rfl⟩
  have HC0 : Hid (Box w0 cb 24 #[.slice xa zs.length xc, .int .i64 f, .int .i64 p, .int .i64 bu, .int .i64 bl, .int .i64 ro]) := by rw [hw0, hcb]; exact Box.new _ _ _
  have HK0 : Hid (Kept No w w0) := by rw [hw0]; exact (Kept.refl No w).alloc _
  rw [← hcb]
  have HCw : Hid (cb = w.heap.size) := hcb
  clear hw0 hcb
  refine Calls.mono (known_any w0) ?_
  rintro e w1 ⟨rfl, hk1⟩
  have HC1 : Hid (Box w1 cb 24 #[.slice xa zs.length xc, .int .i64 f, .int .i64 p, .int .i64 bu, .int .i64 bl, .int .i64 ro]) := HC0.out.kept hk1 (fun e => e)
  have HK1 : Hid (Kept No w w1) := HK0.out.then hk1
  clear hk1 HC0 HK0
  have c0 := HC1.out.cell 0
  have c1 := HC1.out.cell 1
  have c2 := HC1.out.cell 2
  have c3 := HC1.out.cell 3
  have c4 := HC1.out.cell 4
  have c5 := HC1.out.cell 5
  simp only [List.getElem?_toArray, List.getElem?_cons_zero, List.getElem?_cons_succ] at c0 c1 c2 c3 c4 c5
  go_wp2_with fail
  refine Calls.mono (lend_any xa xc zs f p bu bl ro w1 hle (HX.out.nums.no HK1.out)) ?_
  rintro e w2 ⟨rfl, hb2', hk2⟩
  obtain ⟨gl, hgl⟩ : ∃ gl, gl = w1.heap.size + 2 := ⟨_, rfl⟩
  rw [← hgl] at hb2' ⊢
  have HL2' : Hid (Box w2 gl 3 ((zs ++ [-77]).map (Value.int .i64)).toArray) := hb2'
  have HC2 : Hid (Box w2 cb 24 #[.slice xa zs.length xc, .int .i64 f, .int .i64 p, .int .i64 bu, .int .i64 bl, .int .i64 ro]) := HC1.out.kept hk2 (fun e => e)
  have HK2 : Hid (Kept No w w2) := HK1.out.then hk2
  have hgw : w.heap.size ≤ gl := by have := HK1.out.size; omega
  have hgc : gl ≠ cb := by have := HC1.out.lt; omega
  clear hb2' hk2 hgl HK1 HC1 c0 c1 c2 c3 c4 c5
  go_wp2
  obtain ⟨w3, hw3⟩ : ∃ w3, w3 = w2.alloc (.cells #[.slice (some ⟨gl, 0, none⟩) zs.length (zs.length + 1), .int .i64 f, .int .i64 p, .int .i64 bu, .int .i64 bl, .int .i64 ro] 24) := ⟨_, rfl⟩
  rw [← hw3]
  obtain ⟨db, hdb⟩ : ∃ db, db = w2.heap.size := ⟨_, rfl⟩
  have HD3 : Hid (Box w3 db 24 #[.slice (some ⟨gl, 0, none⟩) zs.length (zs.length + 1), .int .i64 f, .int .i64 p, .int .i64 bu, .int .i64 bl, .int .i64 ro]) := by rw [hw3, hdb]; exact Box.new _ _ _
  have HL3 : Hid (Box w3 gl 3 ((zs ++ [-77]).map (Value.int .i64)).toArray) := by rw [hw3]; exact HL2'.out.alloc _
  have HC3 : Hid (Box w3 cb 24 #[.slice xa zs.length xc, .int .i64 f, .int .i64 p, .int .i64 bu, .int .i64 bl, .int .i64 ro]) := by rw [hw3]; exact HC2.out.alloc _
  have HK3 : Hid (Kept No w w3) := by rw [hw3]; exact HK2.out.alloc _
  have hgd : gl ≠ db := by have := HL2'.out.lt; omega
  rw [← hdb]
  clear hw3 hdb HL2' HC2 HK2
  have HXn : Hid (∀ W, Kept (Only gl) w3 W → Nums .i64 W xa zs) := fun W hk => by
    by_cases hz : 0 < zs.length
    · obtain ⟨b', off', e', hc⟩ := HX.out.nums 0 hz
      have hlt := World.block_lt_of_cell? w ⟨b', off' + 0, none⟩ hc
      exact (HX.out.nums.no HK3.out).kept hk (fun b off e h => by
        have h' : b = gl := h
        rw [e] at e'
        cases e'
        simp only at hlt
        omega)
    · exact fun i hi => absurd hi (by omega)
  go_loopw [12] (fun i wr => ∃ k : Nat, k ≤ zs.length ∧ i = .int .i64 k ∧ Hid (Box wr gl 3 ((turnK zs (tI turn zs.length).toNat k).map (Value.int .i64)).toArray) ∧ Hid (Kept (Only gl) w3 wr)) (fun i _ => zs.length - (intOf i).toNat)
  case atStart => exact ⟨0, Nat.zero_le _, rfl, by rw [turnK_0]; exact HL3, Kept.refl _ _⟩
  case round =>
    obtain ⟨k, hk, rfl, HT, HK⟩ := hrel
    have HCk : Hid (Box wr cb 24 #[.slice xa zs.length xc, .int .i64 f, .int .i64 p, .int .i64 bu, .int .i64 bl, .int .i64 ro]) := HC3.out.kept HK.out (fun e => hgc e.symm)
    have HDk : Hid (Box wr db 24 #[.slice (some ⟨gl, 0, none⟩) zs.length (zs.length + 1), .int .i64 f, .int .i64 p, .int .i64 bu, .int .i64 bl, .int .i64 ro]) := HD3.out.kept HK.out (fun e => hgd e.symm)
    have c0 := HCk.out.cell 0
    have d0 := HDk.out.cell 0
    simp only [List.getElem?_toArray, List.getElem?_cons_zero] at c0 d0
    by_cases hlt : k < zs.length
    · have hpos : 0 < zs.length := by omega
      obtain ⟨ht0, ht1⟩ := tI_bd turn zs.length hpos
      have HTi : Hid _ := fun W => turnIn_any turn zs.length hpos hle W
      have HTt : Hid (tI turn zs.length = ((tI turn zs.length).toNat : Int)) := by show _ = _; omega
      rw [HTt.out] at HTi ht1
      generalize (tI turn zs.length).toNat = tn at HT HTi HTt ht1
      have htn : tn < zs.length := by omega
      have HSt : Hid _ := turnK_set (t := tn) hlt
      have g1 := HT.out.cell k
      rw [turnK_at hlt] at g1
      have g2 := HT.out.frozen k
      obtain ⟨ix, hix⟩ : ∃ ix, ix = (k + tn) % zs.length := ⟨_, rfl⟩
      have hixm : ix < zs.length := by rw [hix]; exact Nat.mod_lt _ hpos
      have hmod : ((k : Int) + (tn : Int)).tmod (zs.length : Int) = (ix : Int) := by rw [hix, Int.tmod_eq_emod_of_nonneg (by omega), Int.natCast_emod, Int.natCast_add]
      rw [← hix] at HSt
      obtain ⟨b, off, rfl, hc⟩ := HXn.out wr HK.out ix hixm
      have hbw : b < w.heap.size := by
        obtain ⟨b', off', e', hc'⟩ := HX.out.nums ix hixm
        cases e'
        exact World.block_lt_of_cell? w ⟨b, off + ix, none⟩ hc'
      generalize zs[ix]?.getD 0 = z at hc HSt
      generalize zs[k]?.getD 0 = old at g1
      have HKs3 : Hid (Kept (Only gl) wr (wr.setCell ⟨gl, k, none⟩ (.int .i64 z))) := (Kept.refl (Only gl) wr).setCell (p := ⟨gl, k, none⟩) (fun _ => rfl) _
      have s0 : (wr.setCell ⟨gl, k, none⟩ (.int .i64 z)).cell? ⟨cb, 0, none⟩ = some (.slice (some ⟨b, off, none⟩) zs.length xc) := HKs3.out.cell c0 (fun e => hgc e.symm)
      have s1 : (wr.setCell ⟨gl, k, none⟩ (.int .i64 z)).cell? ⟨db, 0, none⟩ = some (.slice (some ⟨gl, 0, none⟩) zs.length (zs.length + 1)) := HKs3.out.cell d0 (fun e => hgd e.symm)
      have s2 : (wr.setCell ⟨gl, k, none⟩ (.int .i64 z)).cell? ⟨b, off + ix, none⟩ = some (.int .i64 z) := HKs3.out.cell hc (fun e => by have : b = gl := e; omega)
      have q1 : (k : Int) < (zs.length : Int) := by omega
      have q2 : (0 : Int) ≤ (k : Int) := by omega
      have q3 : (ix : Int) < (zs.length : Int) := by omega
      have q4 : (0 : Int) ≤ (ix : Int) := by omega
      have q5 : ¬ zs.length = 0 := by omega
      have q6 : IntKind.i64.wrap ((k : Int) + (tn : Int)) = (k : Int) + (tn : Int) := by rw [IntKind.wrap_i64]; omega
      clear hix ht0
      go_wp2
      go_region_held3 (fun w' => w'.cell? ⟨cb, 0, none⟩ = some (Value.slice (some ⟨b, off, none⟩) zs.length xc) ∧ w'.cell? ⟨db, 0, none⟩ = some (Value.slice (some ⟨gl, 0, none⟩) zs.length (zs.length + 1)) ∧ w'.cell? ⟨b, off + ix, none⟩ = some (.int .i64 z)) (go_keep) (first
        | (go_at_call 18
           refine Calls.mono (HTi.out _) ?_
           rintro e w5 ⟨rfl, rfl⟩))
      have HT2 : Hid (Box (wr.setCell ⟨gl, k, none⟩ (.int .i64 z)) gl 3 ((turnK zs tn (k + 1)).map (Value.int .i64)).toArray) := by
        have := HT.out.set k (.int .i64 z)
        rw [HSt.out] at this
        exact this
      have HK2 : Hid (Kept (Only gl) w3 (wr.setCell ⟨gl, k, none⟩ (.int .i64 z))) := HK.out.then HKs3.out
      clear s0 s1 s2 g1 g2 c0 d0 hc HCk HDk
      go_wp2
      go_roundw
      case rel => exact ⟨k + 1, by omega, by go_num, HT2.out.kept ((Kept.refl No _).drew) (fun e => e), HK2.out.drew⟩
      case measure => simp [intOf]; omega
    · obtain rfl : k = zs.length := by omega
      have HLe : Hid (Box wr gl 3 ((rotL zs (tI turn zs.length).toNat ++ [-77]).map (Value.int .i64)).toArray) := by rw [← turnK_all]; exact HT
      have hlt' : ¬ (zs.length : Int) < (zs.length : Int) := by omega
      have HKw : Hid (Kept No w wr) := HK3.out.trans HK.out (fun _ e => e) (fun i hi e => by have : i = gl := e; omega)
      have HXr : Hid (Nums .i64 wr xa zs) := HXn.out wr HK.out
      have HXo : Hid (∀ W, Kept No wr W → Nums .i64 W xa zs) := fun W hk => HXr.out.no hk
      clear HXn HT HK HL3 HC3 HD3 HK3 c0 d0 hlt
      have c0 := HCk.out.cell 0
      have c1 := HCk.out.cell 1
      have c2 := HCk.out.cell 2
      have c3 := HCk.out.cell 3
      have c4 := HCk.out.cell 4
      have c5 := HCk.out.cell 5
      simp only [List.getElem?_toArray, List.getElem?_cons_zero, List.getElem?_cons_succ] at c0 c1 c2 c3 c4 c5
      go_wp2_with fail
      refine Calls.mono (lend_any xa xc zs f p bu bl ro wr hle HXr.out) ?_
      rintro e w5 ⟨rfl, hb5, hk5⟩
      obtain ⟨gg, hgg⟩ : ∃ gg, gg = wr.heap.size + 2 := ⟨_, rfl⟩
      rw [← hgg] at hb5 ⊢
      have HG5 : Hid (Box w5 gg 3 ((zs ++ [-77]).map (Value.int .i64)).toArray) := hb5
      have HC5 : Hid (Box w5 cb 24 #[.slice xa zs.length xc, .int .i64 f, .int .i64 p, .int .i64 bu, .int .i64 bl, .int .i64 ro]) := HCk.out.kept hk5 (fun e => e)
      have HD5 : Hid (Box w5 db 24 #[.slice (some ⟨gl, 0, none⟩) zs.length (zs.length + 1), .int .i64 f, .int .i64 p, .int .i64 bu, .int .i64 bl, .int .i64 ro]) := HDk.out.kept hk5 (fun e => e)
      have HL5 : Hid (Box w5 gl 3 ((rotL zs (tI turn zs.length).toNat ++ [-77]).map (Value.int .i64)).toArray) := HLe.out.kept hk5 (fun e => e)
      have HK5 : Hid (Kept No w w5) := HKw.out.then hk5
      have HX5 : Hid (Nums .i64 w5 xa zs) := HXr.out.no hk5
      clear hb5 hk5 hgg HCk HDk HLe HKw HXr HXo c0 c1 c2 c3 c4 c5
      obtain ⟨w6, hw6⟩ : ∃ w6, w6 = w5.alloc (.cells #[.slice (some ⟨gg, 0, none⟩) zs.length (zs.length + 1), .int .i64 f', .int .i64 p, .int .i64 bu, .int .i64 bl, .int .i64 ro] 24) := ⟨_, rfl⟩
      obtain ⟨gb, hgb⟩ : ∃ gb, gb = w5.heap.size := ⟨_, rfl⟩
      have HC6 : Hid (Box w6 cb 24 #[.slice xa zs.length xc, .int .i64 f, .int .i64 p, .int .i64 bu, .int .i64 bl, .int .i64 ro]) := by rw [hw6]; exact HC5.out.alloc _
      have c0 := HC6.out.cell 0
      have c1 := HC6.out.cell 1
      have c2 := HC6.out.cell 2
      have c3 := HC6.out.cell 3
      have c4 := HC6.out.cell 4
      have c5 := HC6.out.cell 5
      simp only [List.getElem?_toArray, List.getElem?_cons_zero, List.getElem?_cons_succ] at c0 c1 c2 c3 c4 c5
      rw [hw6] at c0 c1 c2 c3 c4 c5
      go_wp2_with fail
      rw [← hw6, ← hgb]
      have HG6 : Hid (Box w6 gb 24 #[.slice (some ⟨gg, 0, none⟩) zs.length (zs.length + 1), .int .i64 f', .int .i64 p, .int .i64 bu, .int .i64 bl, .int .i64 ro]) := by rw [hw6, hgb]; exact Box.new _ _ _
      have HK56 : Hid (Kept No w5 w6) := by rw [hw6]; exact (Kept.refl No w5).alloc _
      have HK6 : Hid (Kept No w w6) := HK5.out.then HK56.out
      have HM6 : Hid (∀ W, Kept No w6 W → Nums .i64 W (some ⟨gg, 0, none⟩) zs ∧ Nums .i64 W (some ⟨gl, 0, none⟩) (rotL zs (tI turn zs.length).toNat) ∧ Nums .i64 W xa zs ∧ Box W db 24 #[.slice (some ⟨gl, 0, none⟩) zs.length (zs.length + 1), .int .i64 f, .int .i64 p, .int .i64 bu, .int .i64 bl, .int .i64 ro] ∧ Box W gb 24 #[.slice (some ⟨gg, 0, none⟩) zs.length (zs.length + 1), .int .i64 f', .int .i64 p, .int .i64 bu, .int .i64 bl, .int .i64 ro] ∧ Box W cb 24 #[.slice xa zs.length xc, .int .i64 f, .int .i64 p, .int .i64 bu, .int .i64 bl, .int .i64 ro]) := fun W hk => by
        have hk5 := HK56.out.then hk
        refine ⟨?_, ?_, HX5.out.no hk5, HD5.out.kept hk5 (fun e => e), HG6.out.kept hk (fun e => e), HC6.out.kept hk (fun e => e)⟩
        · have := (HG5.out.kept hk5 (fun e => e)).nums zs.length
          rw [lent_take] at this
          exact this
        · have := (HL5.out.kept hk5 (fun e => e)).nums (rotL zs (tI turn zs.length).toNat).length
          rw [lent_take] at this
          exact this
      clear hw6 hgb c0 c1 c2 c3 c4 c5 HG5 HC5 HD5 HL5 HK5 HX5 HK56 HC6 HG6
      refine Calls.mono (is_any xa xc zs f p bu bl ro w6 (HM6.out w6 (Kept.refl _ _)).2.2.1) ?_
      rintro e w7 ⟨rfl, hk7⟩
      have HK67 : Hid (Kept No w6 w7) := hk7
      clear hk7
      by_cases hc : cfgB zs f p bu bl ro = true
      · rw [hc]
        obtain ⟨_, _, _, _, hG7, _⟩ := HM6.out w7 HK67.out
        have c0 := hG7.cell 0
        have c1 := hG7.cell 1
        have c2 := hG7.cell 2
        have c3 := hG7.cell 3
        have c4 := hG7.cell 4
        have c5 := hG7.cell 5
        simp only [List.getElem?_toArray, List.getElem?_cons_zero, List.getElem?_cons_succ] at c0 c1 c2 c3 c4 c5
        have HCt : Hid (cfgB zs f p bu bl ro = true) := hc
        clear hG7 hc
        go_wp2_with fail
        refine Calls.mono (is_any (some ⟨gg, 0, none⟩) (zs.length + 1) zs f' p bu bl ro w7 (HM6.out w7 HK67.out).1) ?_
        rintro e w8 ⟨rfl, hk8⟩
        have HK68 : Hid (Kept No w6 w8) := HK67.out.then hk8
        clear hk8 HK67 c0 c1 c2 c3 c4 c5
        by_cases hc' : cfgB zs f' p bu bl ro = true
        · rw [hc']
          have HCg : Hid (cfgB zs f' p bu bl ro = true) := hc'
          clear hc'
          obtain ⟨⟨hf0, hf3, hf1, h64⟩, _, ⟨hp1, hp2⟩, ⟨hu1, hu2⟩, _⟩ := cfgB_true HCt.out
          obtain ⟨⟨hg0, hg3, _, _⟩, _⟩ := cfgB_true HCg.out
          obtain ⟨pn, hpn⟩ := Int.eq_ofNat_of_zero_le (show 0 ≤ p by omega)
          have hpn' : p = (pn : Int) := hpn
          subst hpn'
          have hz1 : 0 < zs.length := by omega
          have HPe : Hid ((rotL zs (tI turn zs.length).toNat).Perm zs) := rotL_perm zs _ (by have := tI_bd turn zs.length hz1; omega)
          have HAl : Hid (AllI (rotL zs (tI turn zs.length).toNat)) := allI_of (fun z hz => allI_mem HX.out.all z (HPe.out.subset hz))
          have HCr : Hid (cfgB (rotL zs (tI turn zs.length).toNat) f pn bu bl ro = true) := cfgB_perm HPe.out HCt.out
          have HSr : Hid (sortI (rotL zs (tI turn zs.length).toNat) = sortI zs) := sortI_perm HPe.out
          have HRl : Hid ((rotL zs (tI turn zs.length).toNat).length = zs.length) := rotL_len zs _
          have HMa : Hid (∀ W, Kept No w6 W → Calls Try.prog 9 #[cfgV (.slice xa zs.length xc) f pn bu bl ro] W fun e w' => ∃ r, e = .returned (.pointer (some ⟨r, 0, none⟩)) ∧ RingAt w' W.heap.size r (sortI zs) f pn bu bl ro (sortP (ptsOf (sortI zs) pn)) ∧ Kept No W w') := fun W hk =>
            made_any xa xc zs f pn bu bl ro W (HM6.out W hk).2.2.1 HX.out.all HCt.out
          have HMb : Hid (∀ W, Kept No w6 W → Calls Try.prog 9 #[cfgV (.slice (some ⟨gl, 0, none⟩) zs.length (zs.length + 1)) f pn bu bl ro] W fun e w' => ∃ r, e = .returned (.pointer (some ⟨r, 0, none⟩)) ∧ RingAt w' W.heap.size r (sortI zs) f pn bu bl ro (sortP (ptsOf (sortI zs) pn)) ∧ Kept No W w') := fun W hk => by
            have := made_any (some ⟨gl, 0, none⟩) (zs.length + 1) (rotL zs (tI turn zs.length).toNat) f pn bu bl ro W (HM6.out W hk).2.1 HAl.out HCr.out
            rw [HRl.out, HSr.out] at this
            exact this
          have HMc : Hid (∀ W, Kept No w6 W → Calls Try.prog 9 #[cfgV (.slice (some ⟨gg, 0, none⟩) zs.length (zs.length + 1)) f' pn bu bl ro] W fun e w' => ∃ r, e = .returned (.pointer (some ⟨r, 0, none⟩)) ∧ RingAt w' W.heap.size r (sortI zs) f' pn bu bl ro (sortP (ptsOf (sortI zs) pn)) ∧ Kept No W w') := fun W hk =>
            made_any (some ⟨gg, 0, none⟩) (zs.length + 1) zs f' pn bu bl ro W (HM6.out W hk).1 HX.out.all HCg.out
          obtain ⟨hps1, hps2⟩ := pts_pos HCt.out
          have HH : Hid (HashI (sortP (ptsOf (sortI zs) pn))) := pts_hash _ _
          have HRi : Hid (Rising (sortP (ptsOf (sortI zs) pn))) := pts_rising _ _
          have HSI : Hid (SrvI (sortP (ptsOf (sortI zs) pn))) := pts_srvI HCt.out
          have HSl : Hid ((sortI zs).length = zs.length) := sortI_len zs
          clear HPe HAl HCr HSr HRl HCt HCg hf1 hp1 hp2
          generalize sortP (ptsOf (sortI zs) pn) = ps at HMa HMb HMc hps1 hps2 HH HRi HSI
          generalize sortI zs = sz at HMa HMb HMc HSl
          obtain ⟨_, _, _, _, _, hC8⟩ := HM6.out w8 HK68.out
          have c0 := hC8.cell 0
          have c1 := hC8.cell 1
          have c2 := hC8.cell 2
          have c3 := hC8.cell 3
          have c4 := hC8.cell 4
          have c5 := hC8.cell 5
          simp only [List.getElem?_toArray, List.getElem?_cons_zero, List.getElem?_cons_succ] at c0 c1 c2 c3 c4 c5
          clear hC8
          go_wp2_with fail
          refine Calls.mono (HMa.out w8 HK68.out) ?_
          rintro e w9 ⟨r1, rfl, hr1, hk9⟩
          have HR1 : Hid (RingAt w9 w8.heap.size r1 sz f pn bu bl ro ps) := hr1
          have HK69 : Hid (Kept No w6 w9) := HK68.out.then hk9
          clear hr1 hk9 c0 c1 c2 c3 c4 c5 HMa HK68
          obtain ⟨_, _, _, hD9, _, _⟩ := HM6.out w9 HK69.out
          have c0 := hD9.cell 0
          have c1 := hD9.cell 1
          have c2 := hD9.cell 2
          have c3 := hD9.cell 3
          have c4 := hD9.cell 4
          have c5 := hD9.cell 5
          simp only [List.getElem?_toArray, List.getElem?_cons_zero, List.getElem?_cons_succ] at c0 c1 c2 c3 c4 c5
          clear hD9
          go_wp2_with fail
          refine Calls.mono (HMb.out w9 HK69.out) ?_
          rintro e wa ⟨r2, rfl, hr2, hka⟩
          have HR2 : Hid (RingAt wa w9.heap.size r2 sz f pn bu bl ro ps) := hr2
          have HR1a : Hid (RingAt wa w8.heap.size r1 sz f pn bu bl ro ps) := HR1.out.no hka
          have HK6a : Hid (Kept No w6 wa) := HK69.out.then hka
          clear hr2 hka c0 c1 c2 c3 c4 c5 HMb HK69 HR1
          obtain ⟨_, _, _, _, hGa, _⟩ := HM6.out wa HK6a.out
          have c0 := hGa.cell 0
          have c1 := hGa.cell 1
          have c2 := hGa.cell 2
          have c3 := hGa.cell 3
          have c4 := hGa.cell 4
          have c5 := hGa.cell 5
          simp only [List.getElem?_toArray, List.getElem?_cons_zero, List.getElem?_cons_succ] at c0 c1 c2 c3 c4 c5
          clear hGa
          go_wp2_with fail
          refine Calls.mono (HMc.out wa HK6a.out) ?_
          rintro e wb ⟨r3, rfl, hr3, hkb⟩
          have HKab : Hid (Kept No wa wb) := hkb
          have HK6b : Hid (Kept No w6 wb) := HK6a.out.then hkb
          have HRs : Hid (∀ W, Kept No wb W → RingAt W w8.heap.size r1 sz f pn bu bl ro ps ∧ RingAt W w9.heap.size r2 sz f pn bu bl ro ps ∧ RingAt W wa.heap.size r3 sz f' pn bu bl ro ps) := fun W hk => ⟨(HR1a.out.no HKab.out).no hk, (HR2.out.no HKab.out).no hk, hr3.no hk⟩
          clear hr3 hkb c0 c1 c2 c3 c4 c5 HMc HK6a HR1a HR2 HKab
          have hsz1 : 1 ≤ sz.length := by rw [HSl.out]; exact hz1
          have hsz2 : sz.length ≤ 64 := by rw [HSl.out]; exact h64
          have TX1 : True := trivial
          have TX2 : True := trivial
          go_wp2_with (first
            | (go_at_call 20
               have hguard := TX1
               clear hguard TX1
               refine Calls.mono (config_any w8.heap.size r1 sz f pn bu bl ro ps wb (HRs.out wb (Kept.refl _ _)).1 hsz1 hsz2) ?_
               rintro e wc ⟨gc, cc, rfl, hoc, hkc⟩
               have HNc : Hid (Nums .i64 wc (some ⟨gc, 0, none⟩) sz) := Own.nums hoc rfl
               have HKbc : Hid (Kept No wb wc) := hkc
               clear hoc hkc)
            | (go_at_call 20
               have hguard := TX2
               clear hguard TX2
               refine Calls.mono (config_any w9.heap.size r2 sz f pn bu bl ro ps wc (HRs.out wc HKbc.out).2.1 hsz1 hsz2) ?_
               rintro e wd ⟨gd, cd, rfl, hod, hkd⟩
               have HNd : Hid (Nums .i64 wd (some ⟨gd, 0, none⟩) sz) := Own.nums hod rfl
               have HNc2 : Hid (Nums .i64 wd (some ⟨gc, 0, none⟩) sz) := HNc.out.no hkd
               have HKbd : Hid (Kept No wb wd) := HKbc.out.then hkd
               clear hod hkd)
            | (go_at_call 19
               refine Calls.mono (sameConfig_any (some ⟨gc, 0, none⟩) (some ⟨gd, 0, none⟩) cc cd sz f pn bu bl ro wd hsz2 HNc2.out HNd.out) ?_
               rintro e we ⟨rfl, hke⟩
               have HKbe : Hid (Kept No wb we) := HKbd.out.then hke
               clear hke)
            | fail)
          have HKe : Hid (Kept No w6 we) := HK6b.out.then HKbe.out
          have HKwe : Hid (Kept No w we) := HK6.out.then HKe.out
          have HMe : Hid (∀ W, Kept No we W → Nums .i64 W xa zs ∧ W.cell? ⟨cb, 0, none⟩ = some (.slice xa zs.length xc)) := fun W hk => by
            obtain ⟨_, _, h3, _, _, h6⟩ := HM6.out W (HKe.out.then hk)
            exact ⟨h3, (h6.cell 0).trans rfl⟩
          have HRe : Hid (∀ W, Kept No we W → RingAt W w8.heap.size r1 sz f pn bu bl ro ps ∧ RingAt W w9.heap.size r2 sz f pn bu bl ro ps ∧ RingAt W wa.heap.size r3 sz f' pn bu bl ro ps) := fun W hk => HRs.out W (HKbe.out.then hk)
          obtain ⟨wn, hwn⟩ := Int.eq_ofNat_of_zero_le (show 0 ≤ 2 * f + 1 by omega)
          have HWn : Hid ((wn : Int) = 2 * f + 1 ∧ wn ≤ 7) := ⟨hwn.symm, by have : (wn : Int) = 2 * f + 1 := hwn.symm; omega⟩
          obtain ⟨wm, hwm⟩ := Int.eq_ofNat_of_zero_le (show 0 ≤ 2 * f' + 1 by omega)
          have HWm : Hid ((wm : Int) = 2 * f' + 1 ∧ wm ≤ 7) := ⟨hwm.symm, by have : (wm : Int) = 2 * f' + 1 := hwm.symm; omega⟩
          have HFf : Hid (0 ≤ f ∧ f ≤ 3 ∧ 0 ≤ f' ∧ f' ≤ 3 ∧ 1 ≤ bu ∧ bu ≤ 256 ∧ 1 ≤ ps.length ∧ ps.length ≤ 4096) := ⟨hf0, hf3, hg0, hg3, hu1, hu2, hps1, hps2⟩
          have HSh : Hid (∀ W s bits, Kept No we W → shareF (cntN ps s ps.length) = some bits → (Calls Try.prog 16 #[.pointer (some ⟨r1, 0, none⟩), .int .i64 s] W fun e w' => e = .returned (.float .f64 bits) ∧ Below W.heap.size W w') ∧ (Calls Try.prog 16 #[.pointer (some ⟨r2, 0, none⟩), .int .i64 s] W fun e w' => e = .returned (.float .f64 bits) ∧ Below W.heap.size W w') ∧ (Calls Try.prog 16 #[.pointer (some ⟨r3, 0, none⟩), .int .i64 s] W fun e w' => e = .returned (.float .f64 bits) ∧ Below W.heap.size W w')) := fun W s bits hk hb => by
            obtain ⟨h1, h2, h3⟩ := HRe.out W hk
            obtain ⟨sa, sn, sc, pg, pc, m, v1⟩ := h1.v
            obtain ⟨sa', sn', sc', pg', pc', m', v2⟩ := h2.v
            obtain ⟨sa'', sn'', sc'', pg'', pc'', m'', v3⟩ := h3.v
            have e1 := v1.len
            have e2 := v2.len
            have e3 := v3.len
            subst e1
            subst e2
            subst e3
            exact ⟨toBelow (share_any r1 sa sn sc f pn bu bl ro pg pc _ ps s W v1 HFf.out.2.2.2.2.2.2.2 HH.out bits hb), toBelow (share_any r2 sa' sn' sc' f pn bu bl ro pg' pc' _ ps s W v2 HFf.out.2.2.2.2.2.2.2 HH.out bits hb), toBelow (share_any r3 sa'' sn'' sc'' f' pn bu bl ro pg'' pc'' _ ps s W v3 HFf.out.2.2.2.2.2.2.2 HH.out bits hb)⟩
          have HBu : Hid (∀ W t, Kept No we W → t.size ≤ 9223372036854775807 → (Calls Try.prog 21 #[.pointer (some ⟨r1, 0, none⟩), .string t] W fun e w' => e = .returned (.int .i64 (fnv (strB t) % bu)) ∧ Below W.heap.size W w') ∧ (Calls Try.prog 21 #[.pointer (some ⟨r2, 0, none⟩), .string t] W fun e w' => e = .returned (.int .i64 (fnv (strB t) % bu)) ∧ Below W.heap.size W w') ∧ (Calls Try.prog 21 #[.pointer (some ⟨r3, 0, none⟩), .string t] W fun e w' => e = .returned (.int .i64 (fnv (strB t) % bu)) ∧ Below W.heap.size W w')) := fun W t hk ht => by
            obtain ⟨h1, h2, h3⟩ := HRe.out W hk
            obtain ⟨sa, sn, sc, pg, pc, m, v1⟩ := h1.v
            obtain ⟨sa', sn', sc', pg', pc', m', v2⟩ := h2.v
            obtain ⟨sa'', sn'', sc'', pg'', pc'', m'', v3⟩ := h3.v
            exact ⟨toBelow (bucket2_any r1 sa sn sc f pn bu bl ro pg pc m ps t W v1 HFf.out.2.2.2.2.1 HFf.out.2.2.2.2.2.1 ht), toBelow (bucket2_any r2 sa' sn' sc' f pn bu bl ro pg' pc' m' ps t W v2 HFf.out.2.2.2.2.1 HFf.out.2.2.2.2.2.1 ht), toBelow (bucket2_any r3 sa'' sn'' sc'' f' pn bu bl ro pg'' pc'' m'' ps t W v3 HFf.out.2.2.2.2.1 HFf.out.2.2.2.2.2.1 ht)⟩
          have HGy : Hid (∀ W kd a b c, Kept No we W → keyB kd a b c bu = true → (Calls Try.prog 12 #[.pointer (some ⟨r1, 0, none⟩), keyV kd a b c] W fun e w' => GrpR W w' e (grp ps (homeH kd a b c) wn)) ∧ (Calls Try.prog 12 #[.pointer (some ⟨r2, 0, none⟩), keyV kd a b c] W fun e w' => GrpR W w' e (grp ps (homeH kd a b c) wn)) ∧ (Calls Try.prog 12 #[.pointer (some ⟨r3, 0, none⟩), keyV kd a b c] W fun e w' => GrpR W w' e (grp ps (homeH kd a b c) wm))) := fun W kd a b c hk hkb => by
            obtain ⟨h1, h2, h3⟩ := HRe.out W hk
            obtain ⟨sa, sn, sc, pg, pc, m, v1⟩ := h1.v
            obtain ⟨sa', sn', sc', pg', pc', m', v2⟩ := h2.v
            obtain ⟨sa'', sn'', sc'', pg'', pc'', m'', v3⟩ := h3.v
            have e1 := v1.len
            have e2 := v2.len
            have e3 := v3.len
            obtain ⟨b1, b2, b3, b4, b5, b6, b7, b8⟩ := HFf.out
            refine ⟨(groupYes_any r1 sa sn sc f pn bu bl ro pg pc m wn ps kd a b c W v1 (by omega) (by omega) hkb (by omega) (by omega) HRi.out HSI.out b1 b2 HWn.out.1).mono ?_, (groupYes_any r2 sa' sn' sc' f pn bu bl ro pg' pc' m' wn ps kd a b c W v2 (by omega) (by omega) hkb (by omega) (by omega) HRi.out HSI.out b1 b2 HWn.out.1).mono ?_, (groupYes_any r3 sa'' sn'' sc'' f' pn bu bl ro pg'' pc'' m'' wm ps kd a b c W v3 (by omega) (by omega) hkb (by omega) (by omega) HRi.out HSI.out b3 b4 HWm.out.1).mono ?_⟩
            all_goals (rintro e w' ⟨g, hg, rfl, ho, hk'⟩; exact ⟨_, _, rfl, Own.nums ho rfl, hk'⟩)
          have HGn : Hid (∀ W kd a b c, Kept No we W → keyB kd a b c bu = false → (Calls Try.prog 12 #[.pointer (some ⟨r1, 0, none⟩), keyV kd a b c] W fun e w' => e = .returned (.tuple #[.slice none 0 0, .int .i64 21]) ∧ Kept No W w') ∧ (Calls Try.prog 12 #[.pointer (some ⟨r2, 0, none⟩), keyV kd a b c] W fun e w' => e = .returned (.tuple #[.slice none 0 0, .int .i64 21]) ∧ Kept No W w') ∧ (Calls Try.prog 12 #[.pointer (some ⟨r3, 0, none⟩), keyV kd a b c] W fun e w' => e = .returned (.tuple #[.slice none 0 0, .int .i64 21]) ∧ Kept No W w')) := fun W kd a b c hk hkb => by
            obtain ⟨h1, h2, h3⟩ := HRe.out W hk
            obtain ⟨sa, sn, sc, pg, pc, m, v1⟩ := h1.v
            obtain ⟨sa', sn', sc', pg', pc', m', v2⟩ := h2.v
            obtain ⟨sa'', sn'', sc'', pg'', pc'', m'', v3⟩ := h3.v
            obtain ⟨b1, b2, b3, b4, b5, b6, b7, b8⟩ := HFf.out
            exact ⟨groupNo_any r1 sa sn sc f pn bu bl ro pg pc m ps kd a b c W v1 (by omega) (by omega) hkb, groupNo_any r2 sa' sn' sc' f pn bu bl ro pg' pc' m' ps kd a b c W v2 (by omega) (by omega) hkb, groupNo_any r3 sa'' sn'' sc'' f' pn bu bl ro pg'' pc'' m'' ps kd a b c W v3 (by omega) (by omega) hkb⟩
          have HGl : Hid (∀ h, (grp ps h wn).length ≤ 7 ∧ (grp ps h wm).length ≤ 7) := fun h => ⟨Nat.le_trans (grpN_le ps (firstN ps h) wn ps.length) HWn.out.2, Nat.le_trans (grpN_le ps (firstN ps h) wm ps.length) HWm.out.2⟩
          clear HRe HRs HM6 HK6b HKbe HKe HK6 hwn hwm hf0 hf3 hg0 hg3 hu1 hu2 hps1 hps2 HRi HSI HH hsz1 hsz2 h64 HSl HWn HWm HNc HNd HNc2 HKbc HKbd
          go_loopw [17] (fun i wr => ∃ k : Nat, k ≤ zs.length ∧ i = .int .i64 k ∧ Hid (Kept No we wr)) (fun i _ => zs.length - (intOf i).toNat)
          case atStart => exact ⟨0, Nat.zero_le _, rfl, Kept.refl _ _⟩
          case round =>
            obtain ⟨k, hk, rfl, HK⟩ := hrel
            obtain ⟨hn0, c0⟩ := HMe.out wr HK.out
            by_cases hlt : k < zs.length
            · obtain ⟨b, off, rfl, hc⟩ := hn0 k hlt
              generalize zs[k]?.getD 0 = s at hc
              obtain ⟨bits, hsh, hor⟩ := shareF_some (cntN ps s ps.length)
              have z0 := fun dd os => cell_regrown hc dd os
              have z1 := fun dd os => cell_regrown c0 dd os
              have hk1 : (k : Int) < (zs.length : Int) := by omega
              have hk0 : (0 : Int) ≤ (k : Int) := by omega
              have HS1 : Hid (∀ W, Kept No wr W → _) := fun W hk => HSh.out W s bits (HK.out.then hk) hsh
              have hor' : (FloatKind.f64.format.order bits bits != some .eq) = false := by rw [hor]; rfl
              have hneq := fun W => float_same bits hor W
              clear hc hsh hn0
              go_wp2
              clear c0
              refine wp_region_quiet_below hmix (by kernel_rfl) ?_
              repeat (quiet_step (fail))
              quiet_step (exact Calls.regrown_of (HS1.out _ (kept_regrown _ _ _)).1)
              repeat (quiet_step (fail))
              quiet_step (exact Calls.regrown_of (HS1.out _ (kept_regrown _ _ _)).2.1)
              repeat (quiet_step (fail))
              quiet_step (exact Calls.regrown_of (HS1.out _ (kept_regrown _ _ _)).1)
              repeat (quiet_step (fail))
              quiet_step (exact Calls.regrown_of (HS1.out _ (kept_regrown _ _ _)).2.2)
              repeat (quiet_step (fail))
              refine wpQuiet_nil ?_
              intro _ hw'
              obtain ⟨⟨nq, osq⟩, hw''⟩ := hw'
              rw [hw'']
              simp only []
              have HKr : Hid (Kept No we (Sort.grow (redrawn wr nq) osq)) := HK.out.then (kept_regrown _ _ _)
              clear hw'' HK z0 z1 HS1
              generalize Sort.grow (redrawn wr nq) osq = wz at HKr
              go_wp2
              go_roundw
              case rel => exact ⟨k + 1, by omega, by go_num, HKr⟩
              case measure => simp [intOf]; omega
            · have hk1 : ¬ (k : Int) < (zs.length : Int) := by omega
              clear hn0
              go_wp2
              clear c0
              have HKn := HK
              clear HK
              go_loopw [18] (fun i wq => ∃ j : Nat, j ≤ n2 ∧ i = .int .i64 j ∧ Hid (Kept No we wq)) (fun i _ => n2 - (intOf i).toNat)
              case atStart => exact ⟨0, Nat.zero_le _, rfl, HKn⟩
              case round =>
                obtain ⟨j, hj, rfl, HK⟩ := hrel
                clear HKn
                by_cases hjl : j < n2
                · obtain ⟨t, htj⟩ : ∃ t, ss[j]? = some t := ⟨_, List.getElem?_eq_getElem (by rw [HL2.out]; exact hjl)⟩
                  have htz := HSz.out t (List.mem_of_getElem? htj)
                  obtain ⟨tb, toff, rfl, t0⟩ := (HSs.out.no (HKwe.out.then HK.out)) j t htj
                  have z0 := fun dd os => cell_regrown t0 dd os
                  have hj1 : (j : Int) < (n2 : Int) := by omega
                  have hj0 : (0 : Int) ≤ (j : Int) := by omega
                  have HS1 : Hid (∀ W, Kept No wr W → _) := fun W hk => HBu.out W t (HK.out.then hk) htz
                  generalize fnv (strB t) % bu = l1 at HS1
                  clear htj t0 htz
                  go_wp2
                  refine wp_region_quiet_below hmix (by kernel_rfl) ?_
                  repeat (quiet_step (fail))
                  quiet_step (exact Calls.regrown_of (HS1.out _ (kept_regrown _ _ _)).1)
                  repeat (quiet_step (fail))
                  quiet_step (exact Calls.regrown_of (HS1.out _ (kept_regrown _ _ _)).2.1)
                  repeat (quiet_step (fail))
                  quiet_step (exact Calls.regrown_of (HS1.out _ (kept_regrown _ _ _)).1)
                  repeat (quiet_step (fail))
                  quiet_step (exact Calls.regrown_of (HS1.out _ (kept_regrown _ _ _)).2.2)
                  repeat (quiet_step (fail))
                  refine wpQuiet_nil ?_
                  intro _ hw'
                  obtain ⟨⟨nq, osq⟩, hw''⟩ := hw'
                  rw [hw'']
                  simp only []
                  have HKr : Hid (Kept No we (Sort.grow (redrawn wr nq) osq)) := HK.out.then (kept_regrown _ _ _)
                  clear hw'' HK z0 HS1
                  generalize Sort.grow (redrawn wr nq) osq = wz at HKr
                  go_wp2
                  go_roundw
                  case rel => exact ⟨j + 1, by omega, by go_num, HKr⟩
                  case measure => simp [intOf]; omega
                · have hj1 : ¬ (j : Int) < (n2 : Int) := by omega
                  go_wp2
                  have HKn := HK
                  clear HK
                  go_loopw [19] (fun i wq => ∃ j : Nat, j ≤ n1 ∧ i = .int .i64 j ∧ Hid (Kept No we wq)) (fun i _ => n1 - (intOf i).toNat)
                  case atStart => exact ⟨0, Nat.zero_le _, rfl, HKn⟩
                  case round =>
                    obtain ⟨g, hg, rfl, HK⟩ := hrel
                    clear HKn
                    by_cases hgl : g < n1
                    · obtain ⟨y, hyk⟩ : ∃ y, ks[g]? = some y := ⟨_, List.getElem?_eq_getElem (by rw [HL1.out]; exact hgl)⟩
                      obtain ⟨kb, koff, rfl, y0, y1, y2, y3⟩ := (HKs.out.no (HKwe.out.then HK.out)) g y hyk
                      have hk1 : (g : Int) < (n1 : Int) := by omega
                      have HKy : Hid (∀ W, Kept No wr W → W.cell? ⟨kb, koff + g * 4, none⟩ = some (.int .i64 y.kd) ∧ W.cell? ⟨kb, koff + g * 4 + 1, none⟩ = some (.int .i64 y.a) ∧ W.cell? ⟨kb, koff + g * 4 + 2, none⟩ = some (.int .i64 y.b) ∧ W.cell? ⟨kb, koff + g * 4 + 3, none⟩ = some (.int .i64 y.c)) := fun W hk => ⟨hk.cell y0 id, hk.cell y1 id, hk.cell y2 id, hk.cell y3 id⟩
                      clear hyk
                      by_cases hkb : keyB y.kd y.a y.b y.c bu = true
                      · have HGk : Hid (∀ W, Kept No wr W → _) := fun W hk => HGy.out W y.kd y.a y.b y.c (HK.out.then hk) hkb
                        have HGf : Hid (∀ i, i < (grp ps (homeH y.kd y.a y.b y.c) wn).length → i < (grp ps (homeH y.kd y.a y.b y.c) wm).length → (grp ps (homeH y.kd y.a y.b y.c) wn)[i]?.getD 0 = (grp ps (homeH y.kd y.a y.b y.c) wm)[i]?.getD 0) := fun i h1 h2 => grp_front ps _ wn wm i h1 h2
                        have HGs : Hid ((grp ps (homeH y.kd y.a y.b y.c) wn).length ≤ 7 ∧ (grp ps (homeH y.kd y.a y.b y.c) wm).length ≤ 7) := HGl.out _
                        generalize grp ps (homeH y.kd y.a y.b y.c) wn = l1 at HGk HGf HGs
                        generalize grp ps (homeH y.kd y.a y.b y.c) wm = l3 at HGk HGf HGs
                        clear hkb
                        have TX1 : True := trivial
                        have TX2 : True := trivial
                        have TX3 : True := trivial
                        go_wp2_with (first
                          | (go_at_call 12
                             have hguard := TX1
                             clear hguard TX1
                             refine Calls.mono (HGk.out wr (Kept.refl _ _)).1 ?_
                             rintro e wf ⟨ga, gc, rfl, hn3, hk3⟩
                             have HN3 : Hid (Nums .i64 wf ga l1) := hn3
                             have HK3 : Hid (Kept No wr wf) := hk3
                             clear y0 y1 y2 y3
                             obtain ⟨y0, y1, y2, y3⟩ := HKy.out wf hk3
                             clear hn3 hk3)
                          | (go_at_call 12
                             have hguard := TX2
                             clear hguard TX2
                             refine Calls.mono (HGk.out wf HK3.out).2.1 ?_
                             rintro e wg ⟨ga2, gc2, rfl, hn4, hk4⟩
                             have HN4 : Hid (Nums .i64 wg ga2 l1) := hn4
                             have HN3b : Hid (Nums .i64 wg ga l1) := HN3.out.no hk4
                             have HK4 : Hid (Kept No wr wg) := HK3.out.then hk4
                             clear y0 y1 y2 y3
                             obtain ⟨y0, y1, y2, y3⟩ := HKy.out wg HK4.out
                             clear hn4 hk4)
                          | (go_at_call 12
                             have hguard := TX3
                             clear hguard TX3
                             refine Calls.mono (HGk.out wg HK4.out).2.2 ?_
                             rintro e wh ⟨ga3, gc3, rfl, hn5, hk5⟩
                             have HN5 : Hid (Nums .i64 wh ga3 l3) := hn5
                             have HN3c : Hid (Nums .i64 wh ga l1) := HN3b.out.no hk5
                             have HN4c : Hid (Nums .i64 wh ga2 l1) := HN4.out.no hk5
                             have HK5 : Hid (Kept No wr wh) := HK4.out.then hk5
                             clear hn5 hk5 y0 y1 y2 y3)
                          | (go_at_call 22
                             refine (sameInts_any ga ga2 gc gc2 l1 l1 wh (by have := HGs.out; omega) (by have := HGs.out; omega) HN3c.out HN4c.out).mono ?_
                             rintro e wi ⟨rfl, nn, hwi⟩
                             rw [eqB_refl, hwi]
                             clear hwi wi)
                          | fail)
                        have HKi : Hid (Kept No we (wh.drewN nn)) := (HK.out.then HK5.out).drewN _
                        have HNa : Hid (Nums .i64 (wh.drewN nn) ga l1) := HN3c.out.no (Kept.no_drewN _ _)
                        have HNb : Hid (Nums .i64 (wh.drewN nn) ga3 l3) := HN5.out.no (Kept.no_drewN _ _)
                        have hl7 : l1.length ≤ 7 := HGs.out.1
                        have hl8 : l3.length ≤ 7 := HGs.out.2
                        clear HGk HGs HN3 HN3b HN3c HN4 HN4c HN5 HK3 HK4 HK5 HK HKy
                        generalize wh.drewN nn = wi at HKi HNa HNb
                        go_loopw [26] (fun i wq => ∃ q : Nat, q ≤ l1.length ∧ i = .int .i64 q ∧ Hid (Kept No wi wq)) (fun i _ => l1.length - (intOf i).toNat)
                        case atStart => exact ⟨0, Nat.zero_le _, rfl, Kept.refl _ _⟩
                        case round =>
                          obtain ⟨q, hq, rfl, HKq⟩ := hrel
                          by_cases hq1 : q < l1.length
                          · by_cases hq3 : q < l3.length
                            · have HEq : Hid (l1[q]?.getD 0 = l3[q]?.getD 0) := HGf.out q hq1 hq3
                              obtain ⟨ab, aoff, rfl, ac⟩ := (HNa.out.no HKq.out) q hq1
                              obtain ⟨bb, boff, rfl, bc⟩ := (HNb.out.no HKq.out) q hq3
                              rw [HEq.out] at ac
                              generalize l3[q]?.getD 0 = v at ac bc
                              clear HEq
                              have q1 : (q : Int) < (l1.length : Int) := by omega
                              have q2 : (q : Int) < (l3.length : Int) := by omega
                              have q3 : (0 : Int) ≤ (q : Int) := by omega
                              go_wp2
                              go_quiet (fail)
                              go_wp2
                              go_roundw
                              case rel => exact ⟨q + 1, by omega, by go_num, HKq.out.drewN _⟩
                              case measure => simp [intOf]; omega
                            · have q1 : (q : Int) < (l1.length : Int) := by omega
                              have q2 : ¬ (q : Int) < (l3.length : Int) := by omega
                              go_wp2
                              go_roundw
                              case rel => exact ⟨g + 1, by omega, by go_num, HKi.out.then HKq.out⟩
                              case measure => simp [intOf]; omega
                          · have q1 : ¬ (q : Int) < (l1.length : Int) := by omega
                            go_wp2
                            go_roundw
                            case rel => exact ⟨g + 1, by omega, by go_num, HKi.out.then HKq.out⟩
                            case measure => simp [intOf]; omega
                      · have HGk : Hid (∀ W, Kept No wr W → _) := fun W hk => HGn.out W y.kd y.a y.b y.c (HK.out.then hk) (by simpa using hkb)
                        clear hkb
                        have TX1 : True := trivial
                        have TX2 : True := trivial
                        have TX3 : True := trivial
                        go_wp2_with (first
                          | (go_at_call 12
                             have hguard := TX1
                             clear hguard TX1
                             refine Calls.mono (HGk.out wr (Kept.refl _ _)).1 ?_
                             rintro e wf ⟨rfl, hk3⟩
                             have HK3 : Hid (Kept No wr wf) := hk3
                             clear y0 y1 y2 y3
                             obtain ⟨y0, y1, y2, y3⟩ := HKy.out wf hk3
                             clear hk3)
                          | (go_at_call 12
                             have hguard := TX2
                             clear hguard TX2
                             refine Calls.mono (HGk.out wf HK3.out).2.1 ?_
                             rintro e wg ⟨rfl, hk4⟩
                             have HK4 : Hid (Kept No wr wg) := HK3.out.then hk4
                             clear y0 y1 y2 y3
                             obtain ⟨y0, y1, y2, y3⟩ := HKy.out wg HK4.out
                             clear hk4)
                          | (go_at_call 12
                             have hguard := TX3
                             clear hguard TX3
                             refine Calls.mono (HGk.out wg HK4.out).2.2 ?_
                             rintro e wh ⟨rfl, hk5⟩
                             have HK5 : Hid (Kept No wr wh) := HK4.out.then hk5
                             clear hk5 y0 y1 y2 y3)
                          | (go_at_call 22
                             refine (sameInts_any none none 0 0 [] [] wh (by simp) (by simp) (Nums.nil _ _ _) (Nums.nil _ _ _)).mono ?_
                             rintro e wi ⟨rfl, nn, hwi⟩
                             rw [eqB_refl, hwi]
                             clear hwi wi)
                          | fail)
                        have HKi : Hid (Kept No we (wh.drewN nn)) := (HK.out.then HK5.out).drewN _
                        clear HGk HK3 HK4 HK5 HK HKy
                        generalize wh.drewN nn = wi at HKi
                        go_loopw [26] (fun i wq => i = .int .i64 0 ∧ Hid (Kept No wi wq)) (fun i _ => 0)
                        case atStart => exact ⟨rfl, Kept.refl _ _⟩
                        case round =>
                          obtain ⟨rfl, HKq⟩ := hrel
                          go_wp2
                          go_roundw
                          case rel => exact ⟨g + 1, by omega, by go_num, HKi.out.then HKq.out⟩
                          case measure => simp [intOf]; omega
                    · have hk1 : ¬ (g : Int) < (n1 : Int) := by omega
                      go_wp2
                      go_ret
                      exact ⟨rfl, (HKwe.out.then HK.out).below (Nat.le_refl _) (fun _ e => e.elim)⟩
        · have hcf : cfgB zs f' p bu bl ro = false := by simpa using hc'
          rw [hcf]
          go_wp2
          go_ret
          exact ⟨rfl, (HK6.out.then HK68.out).below (Nat.le_refl _) (fun _ e => e.elim)⟩
      · have hcf : cfgB zs f p bu bl ro = false := by simpa using hc
        rw [hcf]
        go_wp2
        go_ret
        exact ⟨rfl, (HK6.out.then HK67.out).below (Nat.le_refl _) (fun _ e => e.elim)⟩

end Go.Proofs.Ytpapbleabjpbfab
