import Derived.Test.YtpapbleabjpbfabGf
import Derived.Deep.CutBlock
namespace Go.Proofs.Ytpapbleabjpbfab
open Go.RowKit Gx
set_option linter.unusedVariables false
set_option linter.unusedSimpArgs false


theorem exec_load {o : Oper} {a : Act} {w : World} (t : TypeId) (x : Operand) (ho : o.op = .load t x) (ad : Addr) (hx : a.eval x = .pointer (some ad)) (v : Value) (hrun : (loadVar t ad).run Try.prog w = .ok v w) : (execOp a.eval o).run Try.prog w = .ok (.value v) w := by
  simp only [execOp, ho, hx, Instr.loadAt, Instr.sureAddr, Sem.run_bind, Sem.run_pure, Result.andThen_ok, hrun]
theorem fld24 (a : Option Addr) (n c : Nat) (f p bu bl ro : Int) (w : World) : Sem.run Try.prog (Instr.field 24 (.agg #[.slice a n c, .int .i64 f, .int .i64 p, .int .i64 bu, .int .i64 bl, .int .i64 ro]) 0) w = .ok (.slice a n c) w := by kernel_rfl
theorem load_cfg {w : World} {g : Nat} {a b c d e f : Value} (h : Box w g 24 #[a, b, c, d, e, f]) : (loadVar 24 ⟨g, 0, none⟩).run Try.prog w = .ok (.agg #[a, b, c, d, e, f]) w :=
  run_loadVar_row w g 24 24 _ (0, 0) _ h Try.underlying24 rfl (by kernel_rfl)
namespace Gx
theorem Tw.below {S : Nat → Prop} {W W' : World} {lo : Nat} {la : Option Addr} {lc : Nat} {K : List Ent} {Z : Nat → List Int} {ga : Option Addr} {gc : Nat} {G : List Ent} {Y : Nat → List Int} (h : Tw W lo la lc K Z ga gc G Y) (hk : Kept S W W') (hS : ∀ k, S k → k < lo) : Tw W' lo la lc K Z ga gc G Y :=
  ⟨h.rl.kept hk (fun k e f => by have := hS k f; have := h.rl.bs e; omega), h.el.kept hk (fun k e f => by have := hS k f; have := (h.el.low e).1; omega), h.rg.kept hk (fun k e f => by have := hS k f; have := h.rg.bs e; omega), h.eg.kept hk (fun k e f => by have := hS k f; have := (h.eg.low e).1; omega), h.d1, h.d2⟩
theorem Tw.grown {W W' : World} {lo : Nat} {la : Option Addr} {lc : Nat} {K : List Ent} {Z : Nat → List Int} {ga : Option Addr} {gc : Nat} {G : List Ent} {Y : Nat → List Int} (h : Tw W lo la lc K Z ga gc G Y) (hk : Kept (EB K) W W') : Rw W' lo ga gc G ∧ Erow W' lo G Y :=
  ⟨h.rg.kept hk (fun k e f => by
    obtain ⟨c1, h1⟩ := h.rg.typ e
    obtain ⟨_, _, c2, h2⟩ := h.el.low f
    exact typ_ne h1 h2 (by decide)), h.eg.kept hk (fun k e f => h.d1 k f e)⟩
end Gx
theorem not_cfg {L : List Int} {n : Nat} {f p bu bl ro : Int} (hn : 1 ≤ n) (hl : L.length = n + 1) (h : ∀ j, j < n → L[j]? = some (900 + (j : Int))) : cfgB (L.take n) f p bu bl ro = false := by
  cases hc : cfgB (L.take n) f p bu bl ro with
  | false => rfl
  | true =>
    exfalso
    have hg := (cfgB_true hc).2.1
    have h1 := (hg 0 (by rw [List.length_take]; omega)).1
    rw [List.getElem?_take, if_pos (by omega), h 0 (by omega)] at h1
    simp at h1
theorem all_cfg {L : List Int} {n : Nat} (hn : n ≤ 64) (h : ∀ j, j < n → L[j]? = some (900 + (j : Int))) : AllI (L.take n) := fun i => by
  rw [List.getElem?_take]
  by_cases hi : i < n
  · rw [if_pos hi, h i hi]
    show I64 (900 + (i : Int))
    constructor <;> omega
  · rw [if_neg hi]
    exact ⟨by decide, by decide⟩

set_option maxRecDepth 100000 in
set_option maxHeartbeats 8000000 in
theorem ownWalk (x : Cfg) (a1 : Option Addr) (n1 c1 : Nat) (ks : List Ky) (stop : Int) (w : World) (hx : CfgOk w x) (h1 : ks.length = n1) (hk : Keys w a1 ks) (hb1 : n1 ≤ 140737488355328) :
    Calls Try.prog 6 #[cfgV (.slice x.a x.n x.c) x.f x.p x.bu x.bl x.ro, .slice a1 n1 c1, .int .i64 stop] w fun e w' => e = .returned (.bool true) ∧ Below w.heap.size w w' := by
  have HL1 : Hid (ks.length = n1) := h1
  have HKs : Hid (Keys w a1 ks) := hk
  clear h1 hk
  obtain ⟨xa, xn, xc, zs, f, p, bu, bl, ro⟩ := x
  have hln : zs.length = xn := hx.len
  subst hln
  have HX : Hid (CfgOk w ⟨xa, zs.length, xc, zs, f, p, bu, bl, ro⟩) := hx
  have hle : zs.length ≤ 17592186043904 := hx.le
  clear hx
  simp only
  go_enter Try.func6, Try.ntmps6
  go_wp2_with fail
  obtain ⟨w0, hw0⟩ : ∃ w0, w0 = w.alloc (.cells #[.slice xa zs.length xc, .int .i64 f, .int .i64 p, .int .i64 bu, .int .i64 bl, .int .i64 ro] 24) := ⟨_, rfl⟩
  rw [← hw0]
  obtain ⟨cb, hcb⟩ : ∃ cb, cb = w.heap.size := ⟨_, rfl⟩
  have HC0 : Hid (Box w0 cb 24 #[.slice xa zs.length xc, .int .i64 f, .int .i64 p, .int .i64 bu, .int .i64 bl, .int .i64 ro]) := by rw [hw0, hcb]; exact Box.new _ _ _
  have HK0 : Hid (Kept No w w0) := by rw [hw0]; exact (Kept.refl No w).alloc _
  rw [← hcb]
  clear hw0 hcb
  refine Calls.mono (known_any w0) ?_
  rintro e w1 ⟨rfl, hk1⟩
  have HC1 : Hid (Box w1 cb 24 #[.slice xa zs.length xc, .int .i64 f, .int .i64 p, .int .i64 bu, .int .i64 bl, .int .i64 ro]) := HC0.out.kept hk1 (fun e => e)
  have HK1 : Hid (Kept No w w1) := HK0.out.then hk1
  clear hk1 HC0 HK0
  have c0 := HC1.out.cell 0
  have c1 := HC1.out.cell 1
  have c2 := HC1.out.cell 2
  have c3 := HC1.out.cell 3
  have c4 := HC1.out.cell 4
  have c5 := HC1.out.cell 5
  simp only [List.getElem?_toArray, List.getElem?_cons_zero, List.getElem?_cons_succ] at c0 c1 c2 c3 c4 c5
  go_wp2_with fail
  refine Calls.mono (is_any xa xc zs f p bu bl ro w1 (HX.out.nums.no HK1.out)) ?_
  rintro e w2 ⟨rfl, hk2⟩
  have HC2 : Hid (Box w2 cb 24 #[.slice xa zs.length xc, .int .i64 f, .int .i64 p, .int .i64 bu, .int .i64 bl, .int .i64 ro]) := HC1.out.kept hk2 (fun e => e)
  have HK2 : Hid (Kept No w w2) := HK1.out.then hk2
  clear hk2 HC1 HK1 c0 c1 c2 c3 c4 c5
  by_cases hcfg : cfgB zs f p bu bl ro = true
  rotate_left
  · have hcf : cfgB zs f p bu bl ro = false := by simpa using hcfg
    rw [hcf]
    go_wp2
    go_ret
    exact ⟨rfl, HK2.out.below (Nat.le_refl _) (fun _ e => e.elim)⟩
  rw [hcfg]
  obtain ⟨⟨hf0, hf3, hf1, h64⟩, hg, hp, hbu, -, -⟩ := cfgB_true hcfg
  obtain ⟨pn, rfl⟩ : ∃ pn : Nat, p = (pn : Int) := ⟨p.toNat, by omega⟩
  have HCf : Hid (cfgB zs f pn bu bl ro = true) := hcfg
  have h1n : 1 ≤ zs.length := by omega
  obtain ⟨wn, hwn⟩ : ∃ wn : Nat, (wn : Int) = 2 * f + 1 := ⟨(2 * f + 1).toNat, by omega⟩
  have HPp : Hid _ := pts_pos hcfg
  have HRi : Hid _ := pts_rising (sortI zs) pn
  have HSI : Hid _ := pts_srvI hcfg
  have HSo : Hid (Sorts (ptsOf (sortI zs) pn)) := sorts_all _ (pts_le hcfg)
  clear hcfg hg
  have c0 := HC2.out.cell 0
  have c1 := HC2.out.cell 1
  have c2 := HC2.out.cell 2
  have c3 := HC2.out.cell 3
  have c4 := HC2.out.cell 4
  have c5 := HC2.out.cell 5
  simp only [List.getElem?_toArray, List.getElem?_cons_zero, List.getElem?_cons_succ] at c0 c1 c2 c3 c4 c5
  go_wp2_with fail
  refine Calls.mono (lend_any xa xc zs f pn bu bl ro w2 hle (HX.out.nums.no HK2.out)) ?_
  rintro e w3 ⟨rfl, hb3, hk3⟩
  obtain ⟨gl, hgl⟩ : ∃ gl, gl = w2.heap.size + 2 := ⟨_, rfl⟩
  rw [← hgl] at hb3 ⊢
  have HL3 : Hid (Box w3 gl 3 ((zs ++ [-77]).map (Value.int .i64)).toArray) := hb3
  have HK3 : Hid (Kept No w w3) := HK2.out.then hk3
  have HGw : Hid (w.heap.size ≤ gl) := by show _ ≤ _; have := HK2.out.size; omega
  clear hb3 hk3 hgl HK2 HC2 c0 c1 c2 c3 c4 c5
  go_wp2_with fail
  obtain ⟨w4, hw4⟩ : ∃ w4, w4 = w3.alloc (.cells #[.slice (some ⟨gl, 0, none⟩) zs.length (zs.length + 1), .int .i64 f, .int .i64 pn, .int .i64 bu, .int .i64 bl, .int .i64 ro] 24) := ⟨_, rfl⟩
  rw [← hw4]
  obtain ⟨db, hdb⟩ : ∃ db, db = w3.heap.size := ⟨_, rfl⟩
  have HD4 : Hid (Box w4 db 24 #[.slice (some ⟨gl, 0, none⟩) zs.length (zs.length + 1), .int .i64 f, .int .i64 pn, .int .i64 bu, .int .i64 bl, .int .i64 ro]) := by rw [hw4, hdb]; exact Box.new _ _ _
  have HL4 : Hid (Box w4 gl 3 ((zs ++ [-77]).map (Value.int .i64)).toArray) := by rw [hw4]; exact HL3.out.alloc _
  have HK4 : Hid (Kept No w w4) := by rw [hw4]; exact HK3.out.alloc _
  have HGd : Hid (gl < db) := by have := HL3.out.lt; rw [hdb]; exact this
  rw [← hdb]
  clear hw4 hdb HL3 HK3
  have HN4 : Hid (Nums .i64 w4 (some ⟨gl, 0, none⟩) zs) := by have := HL4.out.nums zs.length; rw [lent_take] at this; exact this
  refine Calls.mono (newYes_any _ (zs.length + 1) zs.length zs f pn bu bl ro w4 rfl HN4.out HX.out.all HCf.out HSo.out) ?_
  rintro e w5 ⟨r, rfl, hr5, hk5⟩
  have HR5 : Hid (RingAt w5 w4.heap.size r (sortI zs) f pn bu bl ro (sortP (ptsOf (sortI zs) pn))) := hr5
  have HD5 : Hid (Box w5 db 24 #[.slice (some ⟨gl, 0, none⟩) zs.length (zs.length + 1), .int .i64 f, .int .i64 pn, .int .i64 bu, .int .i64 bl, .int .i64 ro]) := HD4.out.kept hk5 (fun e => e)
  have HL5 : Hid (Box w5 gl 3 ((zs ++ [-77]).map (Value.int .i64)).toArray) := HL4.out.kept hk5 (fun e => e)
  have HK5 : Hid (Kept No w w5) := HK4.out.then hk5
  have HG5 : Hid (gl < w4.heap.size ∧ w4.heap.size ≤ w5.heap.size) := ⟨HL4.out.lt, hk5.size⟩
  clear hr5 hk5 HN4 HD4 HL4 HK4 HSo
  have hsl : (sortI zs).length = zs.length := sortI_len zs
  generalize sortI zs = sz at *
  generalize sortP (ptsOf sz pn) = ps at *
  go_wp2_with fail
  refine Calls.mono (config_any w4.heap.size r sz f pn bu bl ro ps w5 HR5.out (by omega) (by omega)) ?_
  rintro e w6 ⟨vg, vc, rfl, ho6, hk6⟩
  rw [hsl] at ho6 ⊢
  have HO6 : Hid (OwI w6 w5.heap.size (some ⟨vg, 0, none⟩) vc sz) := by show Own _ _ _ _ _ _ _ _; rw [hsl]; exact ho6
  have HK6 : Hid (Kept No w5 w6) := hk6
  clear ho6 hk6
  obtain ⟨w7, hw7⟩ : ∃ w7, w7 = w6.alloc (.cells #[.slice (some ⟨vg, 0, none⟩) zs.length vc, .int .i64 f, .int .i64 pn, .int .i64 bu, .int .i64 bl, .int .i64 ro] 24) := ⟨_, rfl⟩
  have HW7 : Hid (Box w7 w6.heap.size 24 #[.slice (some ⟨vg, 0, none⟩) zs.length vc, .int .i64 f, .int .i64 pn, .int .i64 bu, .int .i64 bl, .int .i64 ro]) := by rw [hw7]; exact Box.new _ _ _
  have hs7 : w7.heap.size = w6.heap.size + 1 := by rw [hw7]; simp
  have HK7 : Hid (Kept No w6 w7) := by rw [hw7]; exact (Kept.refl No w6).alloc _
  have b0 := (HW7.out.alloc (.cells #[] 3)).cell 0
  simp only [List.getElem?_toArray, List.getElem?_cons_zero] at b0
  rw [hw7] at b0
  go_upto_block 0 with
    (at_builtin
     rw [← hw7]
     have HE8 : Hid (Box (w7.alloc (.cells #[] 3)) w7.heap.size 3 #[]) := Box.new _ _ _
     have HK8 : Hid (Kept No w7 (w7.alloc (.cells #[] 3))) := (Kept.refl No w7).alloc _
     go_must (refine wp_appE rfl _ _ rfl w6.heap.size w7.heap.size (by rw [hs7]; rfl) HE8.out (by omega) (some ⟨vg, 0, none⟩) zs.length vc sz hsl rfl (HO6.out.no (HK7.out.then HK8.out)).nums (fun e => by cases e) (by omega) ?_)
     intro wa cq w9 HO9 HK9 HA9
     have HW9 : Hid (Box w9 w6.heap.size 24 #[.slice (some ⟨vg, 0, none⟩) zs.length vc, .int .i64 f, .int .i64 pn, .int .i64 bu, .int .i64 bl, .int .i64 ro]) := (HW7.out.kept HK8.out (fun e => e)).kept HK9.out (fun e => by have e : w6.heap.size = w7.heap.size := e; omega)
     have q0 := HW9.out.cell 0
     have q1 := HW9.out.frozen 0
     simp only [List.getElem?_toArray, List.getElem?_cons_zero] at q0)
  clear b0 q0 q1
  obtain ⟨wz, hwz⟩ : ∃ wz, wz = w9.setCell ⟨w6.heap.size, 0, none⟩ (.slice wa zs.length cq) := ⟨_, rfl⟩
  rw [← hwz]
  obtain ⟨wb, hwb⟩ : ∃ wb, wb = w6.heap.size := ⟨_, rfl⟩
  rw [← hwb]
  have HKz : Hid (Kept No w5 wz) := by
    have k1 : Kept No w5 (w7.alloc (.cells #[] 3)) := (HK6.out.then HK7.out).alloc _
    have k2 : Kept No w5 w9 := k1.trans HK9.out (fun _ e => e) (fun i hi e => by have e : i = w7.heap.size := e; have := HK6.out.size; omega)
    rw [hwz]
    exact k2.setCell (p := ⟨w6.heap.size, 0, none⟩) (fun e => by have e : w6.heap.size < w5.heap.size := e; have := HK6.out.size; omega) _
  have HWz : Hid (Box wz wb 24 #[.slice wa zs.length cq, .int .i64 f, .int .i64 pn, .int .i64 bu, .int .i64 bl, .int .i64 ro]) := by
    rw [hwz, hwb]; exact HW9.out.set 0 _
  have HOz : Hid (OwI wz wb wa cq sz) := by
    rw [hwz, hwb]
    refine HO9.out.kept ((Kept.refl (Only w6.heap.size) w9).setCell (p := ⟨w6.heap.size, 0, none⟩) (fun _ => rfl) _) (fun k e f => ?_)
    have f : k = w6.heap.size := f
    rcases HA9.out k e with q | q
    · omega
    · have : (w7.alloc (.cells #[] 3)).heap.size = w7.heap.size + 1 := by simp
      omega
  have HRz : Hid (RingAt wz w4.heap.size r sz f pn bu bl ro ps) := HR5.out.no HKz.out
  have HDz : Hid (Box wz db 24 #[.slice (some ⟨gl, 0, none⟩) zs.length (zs.length + 1), .int .i64 f, .int .i64 pn, .int .i64 bu, .int .i64 bl, .int .i64 ro]) := HD5.out.kept HKz.out (fun e => e)
  have HLz : Hid (Box wz gl 3 ((zs ++ [-77]).map (Value.int .i64)).toArray) := HL5.out.kept HKz.out (fun e => e)
  have HKw : Hid (Kept No w wz) := HK5.out.then HKz.out
  have HGb : Hid (gl < wb) := by have h1 := HG5.out; have h2 := HK6.out.size; rw [hwb]; show _ < _; omega
  have HF : Hid (∀ W, Kept (Only gl) wz W → RingAt W w4.heap.size r sz f pn bu bl ro ps ∧ Box W db 24 #[.slice (some ⟨gl, 0, none⟩) zs.length (zs.length + 1), .int .i64 f, .int .i64 pn, .int .i64 bu, .int .i64 bl, .int .i64 ro] ∧ Box W wb 24 #[.slice wa zs.length cq, .int .i64 f, .int .i64 pn, .int .i64 bu, .int .i64 bl, .int .i64 ro] ∧ OwI W wb wa cq sz) := fun W hk =>
    ⟨HRz.out.kept hk (fun k e => by have e : k = gl := e; have := HG5.out.1; omega), HDz.out.kept hk (fun e => by have e : db = gl := e; have := HGd.out; omega), HWz.out.kept hk (fun e => by have e : wb = gl := e; have := HGb.out; omega), HOz.out.kept hk (fun k e f => by have f : k = gl := f; have := HGb.out; have := Own.base HOz.out e; omega)⟩
  have HGr : Hid (∀ W (x : Ky), Kept (Only gl) wz W → Calls Try.prog 12 #[.pointer (some ⟨r, 0, none⟩), keyV x.kd x.a x.b x.c] W fun e w' => ∃ ga gc er, e = .returned (.tuple #[.slice ga (grpL ps wn bu x).length gc, .int .i64 er]) ∧ OwI w' W.heap.size ga gc (grpL ps wn bu x) ∧ Kept No W w') := fun W x hk =>
    group_any w4.heap.size r sz f pn bu bl ro ps wn x W (HF.out W hk).1 (by omega) (by omega) HPp.out.1 HPp.out.2 HRi.out HSI.out hf0 hf3 hwn
  have hwn7 : wn ≤ 7 := by omega
  have HGw2 : Hid (gl < wz.heap.size ∧ w.heap.size ≤ wz.heap.size) := ⟨HLz.out.lt, HKw.out.size⟩
  clear hwz hwb HW7 hs7 HK7 HW9 HO9 HK9 HA9 HE8 HK8 HO6 HK6 HR5 HD5 HL5 HK5 hw7 HKz HRz HDz HWz HOz
  go_cut [11, 12, 13, 14, 15, 16, 17] from 49 to 87 (fun v11 v12 _ _ _ _ _ wc => ∃ (k : Nat) (ga : Option Addr) (gc : Nat) (la : Option Addr) (lc : Nat) (K G : List Ent) (Z Y : Nat → List Int), k ≤ n1 ∧ k ≤ 200 ∧ v11 = .slice ga k gc ∧ v12 = .slice la (2 * k) lc ∧ Hid (Lp wz ps wn bu ks k la lc K Z ga gc G Y wc))
  case first =>
    go_wp2
    go_loopw [11, 12, 13] (fun v11 v12 i wr => ∃ (k : Nat) (ga : Option Addr) (gc : Nat) (la : Option Addr) (lc : Nat) (K G : List Ent) (Z Y : Nat → List Int), k ≤ n1 ∧ k ≤ 200 ∧ i = .int .i64 (k : Int) ∧ v11 = .slice ga k gc ∧ v12 = .slice la (2 * k) lc ∧ Hid (Lp wz ps wn bu ks k la lc K Z ga gc G Y wr)) (fun _ _ i _ => 200 - (intOf i).toNat)
    case atStart => exact ⟨0, none, 0, none, 0, [], [], fun _ => [], fun _ => [], by omega, by omega, rfl, rfl, rfl, ⟨Kept.refl _ _, Tw.nil _ _ _ _, rfl, rfl, fun q x hq => absurd hq (Nat.not_lt_zero _)⟩⟩
    case round =>
      obtain ⟨k, ga, gc, la, lc, K, G, Z, Y, hkn, hk2, rfl, rfl, rfl, HP⟩ := hrel
      by_cases hlt : k < n1
      · have i1 : (k : Int) < (n1 : Int) := by omega
        by_cases hl2 : k < 200
        · have i2 : (k : Int) < 200 := by omega
          obtain ⟨x, hx⟩ : ∃ x, ks[k]? = some x := ⟨ks[k]'(by rw [HL1.out]; exact hlt), by rw [List.getElem?_eq_getElem]⟩
          have HXk : Hid (ks[k]? = some x) := hx
          obtain ⟨kb, koff, rfl, k0, k1, k2, k3⟩ := (HKs.out.no (HKw.out.then HP.out.kept)) k x hx
          have HKey : Hid (∀ W, Kept No wr W → W.cell? ⟨kb, koff + k * 4, none⟩ = some (.int .i64 x.kd) ∧ W.cell? ⟨kb, koff + k * 4 + 1, none⟩ = some (.int .i64 x.a) ∧ W.cell? ⟨kb, koff + k * 4 + 2, none⟩ = some (.int .i64 x.b) ∧ W.cell? ⟨kb, koff + k * 4 + 3, none⟩ = some (.int .i64 x.c)) := fun W hk => ⟨hk.cell k0 id, hk.cell k1 id, hk.cell k2 id, hk.cell k3 id⟩
          have HC : Hid (∀ W, Kept No wr W → Calls Try.prog 12 #[.pointer (some ⟨r, 0, none⟩), keyV x.kd x.a x.b x.c] W fun e w' => ∃ ga gc er, e = .returned (.tuple #[.slice ga (grpL ps wn bu x).length gc, .int .i64 er]) ∧ OwI w' W.heap.size ga gc (grpL ps wn bu x) ∧ Kept No W w') := fun W hk => HGr.out W x ((HP.out.kept.then hk).of_no)
          have HY : Hid (∀ q y, q < k + 1 → ks[q]? = some y → (fun i => if i = G.length then grpL ps wn bu x else Y i) q = grpL ps wn bu y) := fun q y hq hy => by
            have hgn := HP.out.gn
            by_cases e : q = k
            · subst e
              rw [HXk.out] at hy
              cases hy
              simp [hgn]
            · simp only [if_neg (show ¬ q = G.length by omega)]
              exact HP.out.gy q y (by omega) hy
          have hlx : (grpL ps wn bu x).length ≤ 7 := Nat.le_trans (grpL_le _ _ _ _) hwn7
          clear hx
          generalize grpL ps wn bu x = lx at HC HY hlx
          obtain ⟨kd, xa', xb', xc'⟩ := x
          simp only at k0 k1 k2 k3 HKey HC HY
          go_wp2_with fail
          refine Calls.mono (HC.out wr (Kept.refl _ _)) ?_
          rintro e wa1 ⟨g1, d1, er1, rfl, ho1, hk1⟩
          have HO1 : Hid (OwI wa1 wr.heap.size g1 d1 lx) := ho1
          have HK1 : Hid (Kept No wr wa1) := hk1
          obtain ⟨k0', k1', k2', k3'⟩ := HKey.out wa1 hk1
          clear ho1 hk1 k0 k1 k2 k3
          go_wp2_with fail
          refine Calls.mono (HC.out wa1 HK1.out) ?_
          rintro e wa2 ⟨g2, d2, er2, rfl, ho2, hk2'⟩
          have HO2 : Hid (OwI wa2 wa1.heap.size g2 d2 lx) := ho2
          have HK2 : Hid (Kept No wa1 wa2) := hk2'
          have HO12 : Hid (OwI wa2 wr.heap.size g1 d1 lx) := HO1.out.no hk2'
          have HTa : Hid (Tw wa2 wz.heap.size la lc K Z ga gc G Y) := HP.out.tw.no (HK1.out.then hk2')
          have HKa : Hid (Kept No wz wa2) := HP.out.kept.then (HK1.out.then hk2')
          have HBd : Hid ((∀ k, EB K k → k < wr.heap.size) ∧ (∀ k, EB G k → k < wr.heap.size) ∧ (∀ k, At g1 k → k < wa1.heap.size) ∧ (∀ k, At g2 k → k < wa2.heap.size) ∧ wz.heap.size ≤ wr.heap.size ∧ wr.heap.size ≤ wa1.heap.size ∧ wa1.heap.size ≤ wa2.heap.size) :=
            ⟨fun k e => (HP.out.tw.el.low e).2.1, fun k e => (HP.out.tw.eg.low e).2.1, fun k e => HO1.out.lt e, fun k e => HO2.out.lt e, HP.out.kept.size, HK1.out.size, HK2.out.size⟩
          have HPl : Hid (K.length = 2 * k ∧ G.length = k) := ⟨HP.out.kl, HP.out.gn⟩
          clear ho2 hk2' k0' k1' k2' k3' HC HKey HP HO1 HK1 HK2
          have HE3 : Hid (Box (wa2.alloc (.cells #[] 3)) wa2.heap.size 3 #[] ∧ Kept No wa2 (wa2.alloc (.cells #[] 3))) := ⟨Box.new _ _ _, (Kept.refl No _).alloc _⟩
          have TA : True := trivial
          have TB : True := trivial
          have TC : True := trivial
          go_wp2_with (first
            | (at_builtin
               have htok := TA
               go_must (refine wp_appE rfl _ _ rfl wa2.heap.size wa2.heap.size rfl HE3.out.1 (Nat.le_refl _) g1 lx.length d1 lx rfl rfl (HO12.out.no HE3.out.2).nums (Gx.Own.nilcap HO12.out) (by omega) ?_)
               intro a3 d3 wb1 HO3 HKb1 HA3
               have HK3 : Hid (Kept No wa2 wb1) := HE3.out.2.trans HKb1.out (fun _ e => e) (fun i hi e => by have e : i = wa2.heap.size := e; omega)
               have HE4 : Hid (Box (wb1.alloc (.cells #[.slice a3 lx.length d3] 22)) wb1.heap.size 22 ([(⟨a3, lx.length, d3⟩ : Ent)].map entV).toArray ∧ Kept No wb1 (wb1.alloc (.cells #[.slice a3 lx.length d3] 22))) := ⟨Box.new _ _ _, (Kept.refl No _).alloc _⟩
               have HT4 : Hid (Tw (wb1.alloc (.cells #[.slice a3 lx.length d3] 22)) wz.heap.size la lc K Z ga gc G Y) := HTa.out.no (HK3.out.then HE4.out.2)
               have HK4 : Hid (Kept No wz (wb1.alloc (.cells #[.slice a3 lx.length d3] 22))) := HKa.out.then (HK3.out.then HE4.out.2)
               clear htok TA HKb1)
            | (at_builtin
               have htok := TB
               go_must (refine wp_rowN rfl _ _ rfl wz.heap.size ga k gc G rfl HPl.out.2 HT4.out.rg wb1.heap.size 1 1 [⟨a3, lx.length, d3⟩] rfl rfl HE4.out.1 (by omega) HK4.out.size (k + 1) rfl ?_)
               intro ga' gc' wb2 HOg HCg
               have HT5 : Hid (Tw wb2 wz.heap.size la lc K Z ga' gc' (G ++ [⟨a3, lx.length, d3⟩]) (fun i => if i = G.length then lx else Y i)) := HT4.out.one (e3 := ⟨a3, lx.length, d3⟩) (B := wa2.heap.size) rfl (by show lx.length ≤ 1000000; omega) (HO3.out.no HE4.out.2) (by have := HBd.out; omega) (fun q e => by have h1 := HBd.out.2.1 q e; have := HBd.out; omega) (fun q e => by have h1 := HBd.out.1 q e; have := HBd.out; omega) HOg.out HCg.out
               have HK5 : Hid (Kept No wz wb2) := kept_row HK4.out (Nat.le_refl _) HT4.out.rg HCg.out
               have HQ1 : Hid (OwI wb2 wr.heap.size g1 d1 lx) := own_row (HO12.out.no (HK3.out.then HE4.out.2)) HT4.out.rg HCg.out
               have HQ2 : Hid (OwI wb2 wa1.heap.size g2 d2 lx) := own_row (HO2.out.no (HK3.out.then HE4.out.2)) HT4.out.rg HCg.out
               have HE6 : Hid (Box (wb2.alloc (.cells #[.slice g1 lx.length d1, .slice g2 lx.length d2] 22)) wb2.heap.size 22 ([(⟨g1, lx.length, d1⟩ : Ent), ⟨g2, lx.length, d2⟩].map entV).toArray ∧ Kept No wb2 (wb2.alloc (.cells #[.slice g1 lx.length d1, .slice g2 lx.length d2] 22))) := ⟨Box.new _ _ _, (Kept.refl No _).alloc _⟩
               have HT6 : Hid (Tw (wb2.alloc (.cells #[.slice g1 lx.length d1, .slice g2 lx.length d2] 22)) wz.heap.size la lc K Z ga' gc' (G ++ [⟨a3, lx.length, d3⟩]) (fun i => if i = G.length then lx else Y i)) := HT5.out.no HE6.out.2
               have HK6 : Hid (Kept No wz (wb2.alloc (.cells #[.slice g1 lx.length d1, .slice g2 lx.length d2] 22))) := HK5.out.then HE6.out.2
               have HB3 : Hid (∀ q, At a3 q → wa2.heap.size ≤ q) := fun q e => Own.base HO3.out e
               clear htok TB HOg HCg HT4 HT5 HK4 HK5 HE4 HE3 HTa HKa HK3 HO3 HA3)
            | (at_builtin
               have htok := TC
               go_must (refine wp_rowN rfl _ _ rfl wz.heap.size la (2 * k) lc K rfl HPl.out.1 HT6.out.rl wb2.heap.size 2 2 [⟨g1, lx.length, d1⟩, ⟨g2, lx.length, d2⟩] rfl rfl HE6.out.1 (by omega) HK6.out.size (2 * (k + 1)) (by omega) ?_)
               intro la' lc' wb3 HOl HCl
               clear htok TC))
          obtain ⟨Z2, hT7⟩ := HT6.out.two (e1 := ⟨g1, lx.length, d1⟩) (e2 := ⟨g2, lx.length, d2⟩) (B1 := wr.heap.size) (B2 := wa1.heap.size) (B3 := wa2.heap.size) rfl rfl (by show lx.length ≤ 1000000; omega) (by show lx.length ≤ 1000000; omega) (HQ1.out.no HE6.out.2) (HQ2.out.no HE6.out.2) (by have := HBd.out; omega) (by have := HBd.out; omega) HBd.out.1 HBd.out.2.2.1 HBd.out.2.2.2.1 (by have := HBd.out; omega) (fun q e => by
            rcases EB_app e with e | ⟨e', he, ha⟩
            · exact .inl (HBd.out.2.1 q e)
            · rw [List.mem_singleton.1 he] at ha; exact .inr (HB3.out q ha)) HOl.out HCl.out
          have HP2 : Hid (Lp wz ps wn bu ks (k + 1) la' lc' (K ++ [⟨g1, lx.length, d1⟩, ⟨g2, lx.length, d2⟩]) Z2 ga' gc' (G ++ [⟨a3, lx.length, d3⟩]) (fun i => if i = G.length then lx else Y i) wb3) :=
            ⟨kept_row HK6.out (Nat.le_refl _) HT6.out.rl HCl.out, hT7, by rw [List.length_append, HPl.out.1]; simp; omega, by rw [List.length_append, HPl.out.2]; simp, HY.out⟩
          clear hT7 HOl HCl HT6 HK6 HE6 HQ1 HQ2 HBd HPl HB3 HY HO12 HO2
          go_roundw
          case rel => exact ⟨k + 1, ga', gc', la', lc', _, _, Z2, _, by omega, by omega, by go_num, rfl, rfl, HP2⟩
          case measure => simp [intOf]; omega
        · have i2 : ¬ (k : Int) < 200 := by omega
          go_wp2
          go_meet
          case rel => exact ⟨k, ga, gc, la, lc, K, G, Z, Y, hkn, hk2, rfl, rfl, HP⟩
      · have i1 : ¬ (k : Int) < (n1 : Int) := by omega
        go_wp2
        go_meet
        case rel => exact ⟨k, ga, gc, la, lc, K, G, Z, Y, hkn, hk2, rfl, rfl, HP⟩
  case rest =>
    obtain ⟨k, ga, gc, la, lc, K, G, Z, Y, hkn, hk2, rfl, rfl, HP⟩ := hcut
    have HRc : Hid (∀ W, Kept (Only gl) wz W → Calls Try.prog 20 #[.pointer (some ⟨r, 0, none⟩)] W fun e w' => ∃ g c, e = .returned (.agg #[.slice (some ⟨g, 0, none⟩) zs.length c, .int .i64 f, .int .i64 pn, .int .i64 bu, .int .i64 bl, .int .i64 ro]) ∧ OwI w' W.heap.size (some ⟨g, 0, none⟩) c sz ∧ Kept No W w') := fun W hk =>
      (config_any w4.heap.size r sz f pn bu bl ro ps W (HF.out W hk).1 (by omega) (by omega)).mono (by
        rintro e w' ⟨g, c, rfl, ho, hk'⟩
        rw [hsl]
        exact ⟨g, c, rfl, ho, hk'⟩)
    have hfld := fld24
    go_wp2_with fail
    refine Calls.mono (HRc.out wc HP.out.kept.of_no) ?_
    rintro e wa1 ⟨v1, d1, rfl, ho1, hk1⟩
    have HO1 : Hid (OwI wa1 wc.heap.size (some ⟨v1, 0, none⟩) d1 sz) := ho1
    have HK1 : Hid (Kept No wc wa1) := hk1
    clear ho1 hk1
    go_wp2_with fail
    refine Calls.mono (HRc.out wa1 (HP.out.kept.then HK1.out).of_no) ?_
    rintro e wa2 ⟨v2, d2, rfl, ho2, hk2'⟩
    have HO2 : Hid (OwI wa2 wa1.heap.size (some ⟨v2, 0, none⟩) d2 sz) := ho2
    have HO12 : Hid (OwI wa2 wc.heap.size (some ⟨v1, 0, none⟩) d1 sz) := HO1.out.no hk2'
    have HE6 : Hid (Box (wa2.alloc (.cells #[.slice (some ⟨v1, 0, none⟩) zs.length d1, .slice (some ⟨v2, 0, none⟩) zs.length d2] 22)) wa2.heap.size 22 ([(⟨some ⟨v1, 0, none⟩, zs.length, d1⟩ : Ent), ⟨some ⟨v2, 0, none⟩, zs.length, d2⟩].map entV).toArray ∧ Kept No wa2 (wa2.alloc (.cells #[.slice (some ⟨v1, 0, none⟩) zs.length d1, .slice (some ⟨v2, 0, none⟩) zs.length d2] 22))) := ⟨Box.new _ _ _, (Kept.refl No _).alloc _⟩
    have HT6 : Hid (Tw (wa2.alloc (.cells #[.slice (some ⟨v1, 0, none⟩) zs.length d1, .slice (some ⟨v2, 0, none⟩) zs.length d2] 22)) wz.heap.size la lc K Z ga gc G Y) := HP.out.tw.no (HK1.out.then (Kept.then hk2' HE6.out.2))
    have HK6 : Hid (Kept No wz (wa2.alloc (.cells #[.slice (some ⟨v1, 0, none⟩) zs.length d1, .slice (some ⟨v2, 0, none⟩) zs.length d2] 22))) := HP.out.kept.then (HK1.out.then (Kept.then hk2' HE6.out.2))
    have HBd : Hid ((∀ k, EB K k → k < wc.heap.size) ∧ (∀ k, EB G k → k < wc.heap.size) ∧ (∀ k, At (some ⟨v1, 0, none⟩) k → k < wa1.heap.size) ∧ (∀ k, At (some ⟨v2, 0, none⟩) k → k < wa2.heap.size) ∧ wz.heap.size ≤ wc.heap.size ∧ wc.heap.size ≤ wa1.heap.size ∧ wa1.heap.size ≤ wa2.heap.size) :=
      ⟨fun k e => (HP.out.tw.el.low e).2.1, fun k e => (HP.out.tw.eg.low e).2.1, fun k e => HO1.out.lt e, fun k e => HO2.out.lt e, HP.out.kept.size, HK1.out.size, hk2'.size⟩
    have HPl : Hid ((K.length = 2 * k ∧ G.length = k) ∧ ∀ (q : Nat) (x : Ky), q < k → ks[q]? = some x → Y q = grpL ps wn bu x) := ⟨⟨HP.out.kl, HP.out.gn⟩, HP.out.gy⟩
    clear ho2 hk2' HO1 HK1 HP
    go_wp2_with
      (at_builtin
       go_must (refine wp_rowN rfl _ _ rfl wz.heap.size la (2 * k) lc K rfl HPl.out.1.1 HT6.out.rl wa2.heap.size 2 2 [⟨some ⟨v1, 0, none⟩, zs.length, d1⟩, ⟨some ⟨v2, 0, none⟩, zs.length, d2⟩] rfl rfl HE6.out.1 (by omega) HK6.out.size (2 * k + 2) rfl ?_)
       intro la' lc' wd HOl HCl)
    obtain ⟨Z2, hT7⟩ := HT6.out.two (e1 := ⟨some ⟨v1, 0, none⟩, zs.length, d1⟩) (e2 := ⟨some ⟨v2, 0, none⟩, zs.length, d2⟩) (B1 := wc.heap.size) (B2 := wa1.heap.size) (B3 := wa2.heap.size) (l1 := sz) (l2 := sz) hsl hsl (by show zs.length ≤ 1000000; omega) (by show zs.length ≤ 1000000; omega) (HO12.out.no HE6.out.2) (HO2.out.no HE6.out.2) (by have := HBd.out; omega) (by have := HBd.out; omega) HBd.out.1 HBd.out.2.2.1 HBd.out.2.2.2.1 (by have := HBd.out; omega) (fun q e => .inl (HBd.out.2.1 q e)) HOl.out HCl.out
    obtain ⟨KK, hKK⟩ : ∃ KK, KK = K ++ [(⟨some ⟨v1, 0, none⟩, zs.length, d1⟩ : Ent), ⟨some ⟨v2, 0, none⟩, zs.length, d2⟩] := ⟨_, rfl⟩
    rw [← hKK] at hT7
    have HT : Hid (Tw wd wz.heap.size la' lc' KK Z2 ga gc G Y) := hT7
    have HKL : Hid (KK.length = 2 * k + 2) := by show _ = _; rw [hKK, List.length_append, HPl.out.1.1]; rfl
    have HKd : Hid (Kept No wz wd) := kept_row HK6.out (Nat.le_refl _) HT6.out.rl HCl.out
    have HLd : Hid (Box wd gl 3 ((zs ++ [-77]).map (Value.int .i64)).toArray) := HLz.out.kept HKd.out (fun e => e)
    clear hT7 hKK HOl HCl HT6 HK6 HE6 HBd HO12 HO2
    go_wp2
    go_loopw [18] (fun i wr => ∃ (q : Nat) (L : List Int), q ≤ zs.length ∧ i = .int .i64 (q : Int) ∧ Hid (L.length = zs.length + 1 ∧ (∀ j, j < q → L[j]? = some (900 + (j : Int)))) ∧ Hid (Box wr gl 3 (L.map (Value.int .i64)).toArray) ∧ Hid (Kept (Only gl) wd wr)) (fun i _ => zs.length - (intOf i).toNat)
    case atStart => exact ⟨0, zs ++ [-77], Nat.zero_le _, rfl, ⟨by simp, fun j hj => absurd hj (Nat.not_lt_zero _)⟩, HLd, Kept.refl _ _⟩
    case round =>
      obtain ⟨q, L, hq, rfl, HL, HB, HK⟩ := hrel
      have HFr : Hid (Box wr db 24 #[.slice (some ⟨gl, 0, none⟩) zs.length (zs.length + 1), .int .i64 f, .int .i64 pn, .int .i64 bu, .int .i64 bl, .int .i64 ro]) := (HF.out wr (HKd.out.of_no.then HK.out)).2.1
      have c0 := HFr.out.cell 0
      simp only [List.getElem?_toArray, List.getElem?_cons_zero] at c0
      by_cases hlt : q < zs.length
      · have i1 : (q : Int) < (zs.length : Int) := by omega
        have hql : q < L.length := by rw [HL.out.1]; omega
        have c1 := HB.out.cell q
        have f1 := HB.out.frozen q
        rw [List.getElem?_toArray, List.getElem?_map, List.getElem?_eq_getElem hql] at c1
        simp only [Option.map_some] at c1
        generalize L[q] = old at c1
        have HB2 : Hid (Box (wr.setCell ⟨gl, q, none⟩ (.int .i64 (900 + (q : Int)))) gl 3 ((L.set q (900 + (q : Int))).map (Value.int .i64)).toArray) := by
          have := HB.out.set q (.int .i64 (900 + (q : Int)))
          rw [List.setIfInBounds_toArray, ← List.map_set] at this
          exact this
        have HK2 : Hid (Kept (Only gl) wd (wr.setCell ⟨gl, q, none⟩ (.int .i64 (900 + (q : Int))))) := HK.out.setCell (p := ⟨gl, q, none⟩) (fun _ => rfl) _
        have HL2 : Hid ((L.set q (900 + (q : Int))).length = zs.length + 1 ∧ (∀ j, j < q + 1 → (L.set q (900 + (q : Int)))[j]? = some (900 + (j : Int)))) := ⟨by rw [List.length_set]; exact HL.out.1, fun j hj => by
          by_cases e : j = q
          · subst e; rw [List.getElem?_set_self hql]
          · rw [List.getElem?_set_ne (fun h => e h.symm)]; exact HL.out.2 j (by omega)⟩
        clear HL HB HK HFr
        go_wp2
        go_roundw
        case rel => exact ⟨q + 1, _, by omega, by go_num, HL2, HB2, HK2⟩
        case measure => simp [intOf]; omega
      · have i1 : ¬ (q : Int) < (zs.length : Int) := by omega
        obtain rfl : q = zs.length := by omega
        go_upto_region 25 with fail
        have HTr : Hid (Tw wr wz.heap.size la' lc' KK Z2 ga gc G Y) := HT.out.below HK.out (fun k e => by have e : k = gl := e; have := HGw2.out.1; omega)
        have HKr : Hid (Kept (Only gl) wz wr) := (HKd.out.of_no).then HK.out
        clear HT HK HKd HLd HFr c0
        refine wp_region_held_drew (S := fun W => Box W wb 24 #[.slice wa zs.length cq, .int .i64 f, .int .i64 pn, .int .i64 bu, .int .i64 bl, .int .i64 ro]) rfl ((HF.out wr HKr.out).2.2.1.kept (Kept.refl No wr).drew (fun e => e)) (fun hH => ?_)
        have HTk : Hid (Tw wr.drew wz.heap.size la' lc' KK Z2 ga gc G Y) := HTr.out.no (Kept.refl No wr).drew
        have HKk : Hid (Kept (Only gl) wz wr.drew) := HKr.out.then ((Kept.refl No wr).drew.of_no)
        have HBk : Hid (Box wr.drew gl 3 (L.map (Value.int .i64)).toArray) := HB.out.kept (Kept.refl No wr).drew (fun e => e)
        clear HTr HKr HB
        generalize wr.drew = wk at HTk HKk HBk hH ⊢
        refine aT (i := 0) (oi := { dst := some 110, op := Op.move (Operand.tmp 12), type := 57, pos := "outright.go:251", after := #[], guard := none }) (v := .slice la' (2 * k + 2) lc') (fun _ _ => by kernel_rfl) hH ?_
        try simp only [pA, pB, p1, p2, p3]
        refine any_call (i := 1) (o := { dst := some 111, op := Op.call { callee := Callee.value (Operand.func 25), args := #[Operand.tmp 110], argTypes := #[57] }, type := 4, pos := "outright.go:251", after := #[{ on := 0, ground := Ground.data }], guard := none }) rfl (by kernel_rfl) (by kernel_rfl) 25 #[.slice la' (2 * k + 2) lc'] (by kernel_rfl) _ (grown_any la' (2 * k + 2) lc' wz.heap.size wz.heap.size KK Z2 wk HTk.out.rl HTk.out.el HKL.out (by omega) (by omega) HKk.out.size HKk.out.size (fun q e => Own.lt HTk.out.rl e)) ?_
        rintro e wl ⟨rfl, hk⟩
        have HG3 : Hid (Rw wl wz.heap.size ga gc G ∧ Erow wl wz.heap.size G Y) := HTk.out.grown hk
        have HEB : Hid (∀ q, EB KK q → wz.heap.size ≤ q) := fun q e => (HTk.out.el.low e).1
        have HKl : Hid (Kept (Only gl) wz wl) := HKk.out.trans hk (fun _ e => e) (fun i hi e => by have := HEB.out i e; omega)
        have HBl : Hid (Box wl gl 3 (L.map (Value.int .i64)).toArray) := HBk.out.kept hk (fun e => by have h1 := HEB.out _ e; have := HGw2.out.1; omega)
        clear hk HTk HKk HBk hH HEB
        refine ⟨.bool true, rfl, (HF.out wl HKl.out).2.2.1, fun hH => ?_⟩
        try simp only [pA, pB, p1, p2, p3]
        refine aT (i := 2) (oi := { dst := some 112, op := Op.unOp UnOp.not 4 (Operand.tmp 111), type := 4, pos := "outright.go:251", after := #[{ on := 1, ground := Ground.data }], guard := none }) (v := .bool false) (fun _ _ => by kernel_rfl) hH ?_
        try simp only [pA, pB, p1, p2, p3]
        refine aT (i := 3) (oi := { dst := some 113, op := Op.move (Operand.tmp 112), type := 4, pos := "outright.go:251", after := #[{ on := 2, ground := Ground.data }, { on := 1, ground := Ground.chain }], guard := none }) (v := .bool false) (fun _ _ => by kernel_rfl) hH ?_
        try simp only [pA, pB, p1, p2, p3]
        refine aT (i := 4) (oi := { dst := some 114, op := Op.move (Operand.tmp 8), type := 28, pos := "outright.go:251", after := #[{ on := 3, ground := Ground.guard }], guard := some (3, false) }) (v := .pointer (some ⟨r, 0, none⟩)) (fun _ _ => by kernel_rfl) hH ?_
        try simp only [pA, pB, p1, p2, p3]
        refine aT (i := 6) (oi := { dst := some 116, op := Op.load 24 (Operand.tmp 10), type := 24, pos := "outright.go:251", after := #[{ on := 3, ground := Ground.guard }], guard := some (3, false) }) (v := .agg #[.slice wa zs.length cq, .int .i64 f, .int .i64 pn, .int .i64 bu, .int .i64 bl, .int .i64 ro]) (fun w' hw => exec_load 24 _ rfl ⟨wb, 0, none⟩ (by kernel_rfl) _ (load_cfg hw)) hH ?_
        try simp only [pA, pB, p1, p2, p3]
        refine any_call (i := 5) (o := { dst := some 115, op := Op.call { callee := Callee.value (Operand.func 20), args := #[Operand.tmp 114], argTypes := #[28] }, type := 24, pos := "outright.go:251", after := #[{ on := 4, ground := Ground.data }, { on := 3, ground := Ground.chain }, { on := 3, ground := Ground.guard }], guard := some (3, false) }) rfl (by kernel_rfl) (by kernel_rfl) 20 #[.pointer (some ⟨r, 0, none⟩)] (by kernel_rfl) _ (HRc.out wl HKl.out) ?_
        rintro e wm ⟨v3, d3, rfl, ho3, hk3⟩
        have HO3 : Hid (OwI wm wl.heap.size (some ⟨v3, 0, none⟩) d3 sz) := ho3
        have HKm : Hid (Kept No wl wm) := hk3
        clear ho3 hk3 hH
        refine ⟨.agg #[.slice (some ⟨v3, 0, none⟩) zs.length d3, .int .i64 f, .int .i64 pn, .int .i64 bu, .int .i64 bl, .int .i64 ro], rfl, (HF.out wm (HKl.out.then HKm.out.of_no)).2.2.1, fun hH => ?_⟩
        try simp only [pA, pB, p1, p2, p3]
        have HSC : Hid (Calls Try.prog 19 #[.agg #[.slice (some ⟨v3, 0, none⟩) zs.length d3, .int .i64 f, .int .i64 pn, .int .i64 bu, .int .i64 bl, .int .i64 ro], .agg #[.slice wa zs.length cq, .int .i64 f, .int .i64 pn, .int .i64 bu, .int .i64 bl, .int .i64 ro]] wm fun e w' => e = .returned (.bool true) ∧ Kept No wm w') := by
          have h := sameConfig_any (some ⟨v3, 0, none⟩) wa d3 cq sz f pn bu bl ro wm (by omega) HO3.out.nums (HF.out wm (HKl.out.then HKm.out.of_no)).2.2.2.nums
          rw [hsl] at h
          exact h
        refine any_call (i := 7) (o := { dst := some 117, op := Op.call { callee := Callee.value (Operand.func 19), args := #[Operand.tmp 115, Operand.tmp 116], argTypes := #[24, 24] }, type := 4, pos := "outright.go:251", after := #[{ on := 5, ground := Ground.data }, { on := 6, ground := Ground.data }, { on := 5, ground := Ground.chain }, { on := 3, ground := Ground.guard }], guard := some (3, false) }) rfl (by kernel_rfl) (by kernel_rfl) 19 #[.agg #[.slice (some ⟨v3, 0, none⟩) zs.length d3, .int .i64 f, .int .i64 pn, .int .i64 bu, .int .i64 bl, .int .i64 ro], .agg #[.slice wa zs.length cq, .int .i64 f, .int .i64 pn, .int .i64 bu, .int .i64 bl, .int .i64 ro]] (by kernel_rfl) _ (HSC.out) ?_
        rintro e wn' ⟨rfl, hk⟩
        have HKn : Hid (Kept No wl wn') := HKm.out.then hk
        clear hk hH HSC HO3 HKm
        refine ⟨.bool true, rfl, (HF.out wn' (HKl.out.then HKn.out.of_no)).2.2.1, fun hH => ?_⟩
        try simp only [pA, pB, p1, p2, p3]
        refine aT (i := 8) (oi := { dst := some 118, op := Op.unOp UnOp.not 4 (Operand.tmp 117), type := 4, pos := "outright.go:251", after := #[{ on := 7, ground := Ground.data }, { on := 3, ground := Ground.guard }], guard := some (3, false) }) (v := .bool false) (fun _ _ => by kernel_rfl) hH ?_
        try simp only [pA, pB, p1, p2, p3]
        refine aT (i := 9) (oi := { dst := some 119, op := Op.pick (Operand.tmp 113) (Operand.const (Value.bool true)) (Operand.tmp 118), type := 4, pos := "outright.go:251", after := #[{ on := 3, ground := Ground.data }, { on := 8, ground := Ground.data }], guard := none }) (v := .bool false) (fun _ _ => by kernel_rfl) hH ?_
        try simp only [pA, pB, p1, p2, p3]
        refine aT (i := 10) (oi := { dst := some 120, op := Op.move (Operand.tmp 119), type := 4, pos := "outright.go:251", after := #[{ on := 9, ground := Ground.data }, { on := 7, ground := Ground.chain }], guard := none }) (v := .bool false) (fun _ _ => by kernel_rfl) hH ?_
        try simp only [pA, pB, p1, p2, p3]
        refine aT (i := 11) (oi := { dst := some 121, op := Op.move (Operand.tmp 8), type := 28, pos := "outright.go:251", after := #[{ on := 10, ground := Ground.guard }], guard := some (10, false) }) (v := .pointer (some ⟨r, 0, none⟩)) (fun _ _ => by kernel_rfl) hH ?_
        try simp only [pA, pB, p1, p2, p3]
        refine aT (i := 12) (oi := { dst := some 122, op := Op.move (Operand.tmp 2), type := 3, pos := "outright.go:251", after := #[{ on := 10, ground := Ground.guard }], guard := some (10, false) }) (v := .int .i64 stop) (fun _ _ => by kernel_rfl) hH ?_
        try simp only [pA, pB, p1, p2, p3]
        obtain ⟨qa, qn, qc, pg, pc, m, hv⟩ := (HF.out wn' (HKl.out.then HKn.out.of_no)).1.v
        refine any_call (i := 13) (o := { dst := some 123, op := Op.call { callee := Callee.value (Operand.func 26), args := #[Operand.tmp 121, Operand.tmp 122], argTypes := #[28, 3] }, type := 4, pos := "outright.go:251", after := #[{ on := 11, ground := Ground.data }, { on := 12, ground := Ground.data }, { on := 10, ground := Ground.chain }, { on := 10, ground := Ground.guard }], guard := some (10, false) }) rfl (by kernel_rfl) (by kernel_rfl) 26 #[.pointer (some ⟨r, 0, none⟩), .int .i64 stop] (by kernel_rfl) _ (again_any r qa qn qc f pn bu bl ro pg pc m ps stop wn' hv (by rw [← hv.len]; exact HPp.out.1) (by rw [← hv.len]; exact HPp.out.2)) ?_
        rintro e wo ⟨rfl, hb⟩
        have HKo : Hid (Kept No wl wo) := HKn.out.then (Kept.of_below hb)
        clear hb hH HKn
        refine ⟨.bool true, rfl, (HF.out wo (HKl.out.then HKo.out.of_no)).2.2.1, fun hH => ?_⟩
        try simp only [pA, pB, p1, p2, p3]
        refine aT (i := 14) (oi := { dst := some 124, op := Op.unOp UnOp.not 4 (Operand.tmp 123), type := 4, pos := "outright.go:251", after := #[{ on := 13, ground := Ground.data }, { on := 10, ground := Ground.guard }], guard := some (10, false) }) (v := .bool false) (fun _ _ => by kernel_rfl) hH ?_
        try simp only [pA, pB, p1, p2, p3]
        refine aT (i := 15) (oi := { dst := some 125, op := Op.pick (Operand.tmp 120) (Operand.const (Value.bool true)) (Operand.tmp 124), type := 4, pos := "outright.go:251", after := #[{ on := 10, ground := Ground.data }, { on := 14, ground := Ground.data }], guard := none }) (v := .bool false) (fun _ _ => by kernel_rfl) hH ?_
        try simp only [pA, pB, p1, p2, p3]
        refine wpAnyH_done (by kernel_rfl) ?_ _
        try simp only [pA, pB, p1, p2, p3]
        clear hH hv
        have HGo : Hid (Rw wo wz.heap.size ga gc G ∧ Erow wo wz.heap.size G Y) := ⟨HG3.out.1.no HKo.out, HG3.out.2.no HKo.out⟩
        have HBo : Hid (Box wo gl 3 (L.map (Value.int .i64)).toArray) := HBl.out.kept HKo.out (fun e => e)
        have HKO : Hid (Kept (Only gl) wz wo) := HKl.out.then HKo.out.of_no
        clear HG3 HBl HKl HKo
        go_wp2
        go_loopw [19] (fun i wr => ∃ (q : Nat), q ≤ k ∧ i = .int .i64 (q : Int) ∧ Hid (Kept No wo wr)) (fun i _ => k - (intOf i).toNat)
        case atStart => exact ⟨0, Nat.zero_le _, rfl, Kept.refl _ _⟩
        case round =>
          obtain ⟨q, hq, rfl, HKq⟩ := hrel
          by_cases hlt : q < k
          · have i1 : (q : Int) < (k : Int) := by omega
            have hqn : (q : Int) < (n1 : Int) := by omega
            obtain ⟨x, hx⟩ : ∃ x, ks[q]? = some x := ⟨ks[q]'(by rw [HL1.out]; omega), by rw [List.getElem?_eq_getElem]⟩
            have HKwq : Hid (Kept No w wr) := (HKw.out.trans HKO.out (fun _ e => e) (fun i hi e => by have e : i = gl := e; have := HGw.out; omega)).then HKq.out
            obtain ⟨kb, koff, rfl, k0, k1, k2, k3⟩ := (HKs.out.no HKwq.out) q x hx
            obtain ⟨⟨ea, el, ec⟩, he⟩ : ∃ e, G[q]? = some e := ⟨G[q]'(by rw [HPl.out.1.2]; exact hlt), by rw [List.getElem?_eq_getElem]⟩
            have hEq := HGo.out.2.ok q _ he
            rw [HPl.out.2 q x hlt hx] at hEq
            obtain ⟨hel, hO, -⟩ := hEq
            have hel : (grpL ps wn bu x).length = el := hel
            have HOq : Hid (OwI wo wz.heap.size ea ec (grpL ps wn bu x)) := hO
            have HC : Hid _ := HGr.out wr x (HKO.out.then HKq.out.of_no)
            have hlx : (grpL ps wn bu x).length ≤ 7 := Nat.le_trans (grpL_le _ _ _ _) hwn7
            obtain ⟨rg, hrg, hcr, -⟩ := HGo.out.1.at he
            subst hrg
            have HCr : Hid (wo.cell? ⟨rg, q, none⟩ = some (.slice ea el ec)) := hcr
            clear hO hx he hcr
            generalize grpL ps wn bu x = lx at HC HOq hel hlx
            subst hel
            obtain ⟨kd, xa', xb', xc'⟩ := x
            simp only at k0 k1 k2 k3 HC
            go_wp2_with fail
            refine Calls.mono HC.out ?_
            rintro e wp ⟨g1, d1', er1, rfl, ho1, hk1⟩
            have HO1 : Hid (OwI wp wr.heap.size g1 d1' lx) := ho1
            have HKp : Hid (Kept No wo wp) := HKq.out.then hk1
            have c1 := HKp.out.cell HCr.out (fun e => e)
            have HSI2 : Hid (Calls Try.prog 22 #[.slice g1 lx.length d1', .slice ea lx.length ec] wp fun e w' => e = .returned (.bool true) ∧ ∃ n, w' = wp.drewN n) := by
              have h := sameInts_any g1 ea d1' ec lx lx wp (by omega) (by omega) HO1.out.nums (HOq.out.no HKp.out).nums
              rw [eqB_refl] at h
              exact h
            clear ho1 hk1 HC k0 k1 k2 k3 HO1 HOq HCr
            go_wp2_with fail
            refine Calls.mono HSI2.out ?_
            rintro e wq ⟨rfl, nn, rfl⟩
            have HKv : Hid (Kept No wo (wp.drewN nn)) := HKp.out.then (Kept.no_drewN wp nn)
            clear HSI2 HKp HKq c1
            go_wp2
            go_roundw
            case rel => exact ⟨q + 1, by omega, by go_num, HKv⟩
            case measure => simp [intOf]; omega
          · have i1 : ¬ (q : Int) < (k : Int) := by omega
            have HFq : Hid (Box wr db 24 #[.slice (some ⟨gl, 0, none⟩) zs.length (zs.length + 1), .int .i64 f, .int .i64 pn, .int .i64 bu, .int .i64 bl, .int .i64 ro]) := (HF.out wr (HKO.out.then HKq.out.of_no)).2.1
            have HNo : Hid (Calls Try.prog 24 #[cfgV (.slice (some ⟨gl, 0, none⟩) zs.length (zs.length + 1)) f pn bu bl ro] wr fun e w' => e = .returned (.tuple #[.pointer none, .int .i64 20]) ∧ Kept No wr w') := newNo_any (some ⟨gl, 0, none⟩) (zs.length + 1) zs.length (L.take zs.length) f pn bu bl ro wr (by rw [List.length_take, HL.out.1]; omega) ((HBo.out.kept HKq.out (fun e => e)).nums zs.length) (all_cfg h64 HL.out.2) (by rw [List.length_take]; omega) (not_cfg h1n HL.out.1 HL.out.2)
            have HKwr : Hid (Kept No w wr) := (HKw.out.trans HKO.out (fun _ e => e) (fun i hi e => by have e : i = gl := e; have := HGw.out; omega)).then HKq.out
            have c0 := HFq.out.cell 0
            have c1 := HFq.out.cell 1
            have c2 := HFq.out.cell 2
            have c3 := HFq.out.cell 3
            have c4 := HFq.out.cell 4
            have c5 := HFq.out.cell 5
            simp only [List.getElem?_toArray, List.getElem?_cons_zero, List.getElem?_cons_succ] at c0 c1 c2 c3 c4 c5
            clear HGo HBo HKO HKq HFq
            go_wp2_with fail
            refine Calls.mono HNo.out ?_
            rintro e wx ⟨rfl, hkx⟩
            have HKx : Hid (Kept No w wx) := HKwr.out.then hkx
            clear hkx HNo HKwr c0 c1 c2 c3 c4 c5
            go_wp2_with fail
            refine Calls.mono (known_any wx) ?_
            rintro e wy ⟨rfl, hky⟩
            have HKy : Hid (Kept No w wy) := HKx.out.then hky
            clear hky HKx
            go_wp2
            go_ret
            exact ⟨rfl, HKy.out.below (Nat.le_refl _) (fun _ e => e.elim)⟩

end Go.Proofs.Ytpapbleabjpbfab
