import Derived.Test.YtgiokkcdgoloaaaXp
import Derived.Test.YtgiokkcdgoloaaaXu
import Derived.Test.YtgiokkcdgoloaaaXt
namespace Go.Proofs.Ytgiokkcdgoloaaa.Md
open Go.RowKit
set_option linter.unusedVariables false
set_option linter.unusedSimpArgs false
set_option maxRecDepth 100000 in
set_option maxHeartbeats 4000000 in
theorem exch_none (n0 : Nat) (J : Nat → Prop) (b : Nat) (x : Wd) (c : Nat) (su : Sl) (w : World) (hW : WAt w n0 J b x) (hc : c < 4) (hm : x.m c = none) : Calls Try.prog 22 #[.pointer (some ⟨b, 0, none⟩), .int .i64 ((c : Nat) : Int), su.v] w (WOut w n0 J b x) := by
  refine hideC fun C HC => ?_
  obtain ⟨v, mp, I, H, U, D, L, hA⟩ := hW
  have hml := hA.ml
  obtain ⟨gm, hgm⟩ := own_at hA.mm (by omega)
  have hmp : mp c = none := hA.wl.mn c hm
  have HF : Hid (Wg w w n0 J J b v x mp I H U D L [] [] []) := Wg.start hA
  clear hA
  go_enter Try.func22, Try.ntmps22
  go_upto_region 0 with fail
  refine WL.start ?_
  refine tK (.pointer (some ⟨b, 0, none⟩)) ?_
  try simp only [pA, pB, p1, p2, p3]
  refine tK (.pointer (some ⟨b, 0, none⟩)) ?_
  try simp only [pA, pB, p1, p2, p3]
  refine tK (.pointer (some ⟨b, 2, none⟩)) ?_
  try simp only [pA, pB, p1, p2, p3]
  refine tW (v.mm.v) (exec_load 69 _ rfl ⟨b, 2, none⟩ (by kernel_rfl) (v.mm.v) (ld1 HF.out.wbox 2 U69 rfl)) ?_
  try simp only [pA, pB, p1, p2, p3]
  refine tK (.int .i64 ((c : Nat) : Int)) ?_
  try simp only [pA, pB, p1, p2, p3]
  refine tW (.pointer (some ⟨gm, 0 + c * 1, none⟩)) (exec_ixS 69 1 E69 F69 _ _ rfl hgm (by omega)) ?_
  try simp only [pA, pB, p1, p2, p3]
  refine tW (.nilIface) (exec_load 31 _ rfl ⟨gm, 0 + c * 1, none⟩ (by kernel_rfl) (.nilIface) (load_one ((HF.out.wa.mmc hgm hc).trans (by rw [hmp]; rfl)) U31 V31)) ?_
  try simp only [pA, pB, p1, p2, p3]
  refine tW (.bool true) (exec_bin .eql 31 _ _ _ rfl (.nilIface) (.nilIface) (.bool true) (by kernel_rfl) (by kernel_rfl) (by kernel_rfl) (eql31_t _)) ?_
  try simp only [pA, pB, p1, p2, p3]
  refine WL.nil ?_
  try simp only [pA, pB, p1, p2, p3]
  set_option maxRecDepth 1000000 in
  go_wp2
  rw [HC.out]
  refine bodyPost_ret (v := .tuple #[]) (by kernel_rfl) rfl ⟨rfl, HF.out.out⟩
theorem exch_any (n0 : Nat) (J : Nat → Prop) (b : Nat) (x : Wd) (c : Nat) (su : Sl) (up : List Bool) (N Lb Db R : Nat) (w : World) (hW : WAt w n0 J b x) (hU : Own 4 1 w 0 su.a su.k su.l (bnL up)) (hUJ : ∀ k, At su.a k → ¬ J k) (hul : up.length = su.l) (hun : su.l = x.n) (hc : c < 4) (hI : ∃ G T, WInv x G T) (hg : x.gone c = false) (hq : QB N Lb Db R x) (hN : N ≤ 50000) (hLb : Lb ≤ 50000) (hDb : Db ≤ 50000) (hR : R ≤ 50000) (hx : x.un.length ≤ 90) :
    Calls Try.prog 22 #[.pointer (some ⟨b, 0, none⟩), .int .i64 ((c : Nat) : Int), su.v] w (WOut w n0 J b (exW x c up)) := by
  cases hm : x.m c with
  | none => rw [exW_none hm]; exact exch_none n0 J b x c su w hW hc hm
  | some u =>
    obtain ⟨G, T, hI⟩ := hI
    exact exch_some n0 J b x c su up u G T N Lb Db R w hW hU hUJ hul hun hc hm hI hg hq hN hLb hDb hR hx
theorem info4 : (Try.prog.info? 4).map (fun i => (i.zero, i.size, i.bytes)) = some (some (.bool false), 1, 1) := by kernel_rfl
theorem U70' : Try.prog.underlying 70 = some (.slice 4) := by kernel_rfl
theorem make_bl (w : World) (n : Nat) (hb : n ≤ 1000000) : (Instr.makeSlice 70 (.int .i64 (n : Int)) (.int .i64 (n : Int))).run Try.prog w = .ok (.slice (some ⟨w.heap.size, 0, none⟩) n n) (w.alloc (.cells (bnL (List.replicate n false)).toArray 4)) := by
  cases hq : Try.prog.info? 4 with
  | none => have := info4; simp [hq] at this
  | some i =>
    have h1 := info4
    simp only [hq, Option.map_some, Option.some.injEq, Prod.mk.injEq] at h1
    obtain ⟨hz, hs, hby⟩ := h1
    have h := run_make (P := Try.prog) w 70 4 i (.bool false) U70' hq hz .i64 .i64 (n : Int) (n : Int) (by omega) (by omega) (by rw [hby]; omega) (by omega)
    rw [h, hs, show bnL (List.replicate n false) = ((List.replicate n [Value.bool false]).flatten) by
      clear h
      induction n with
      | zero => rfl
      | succ n ih => rw [List.replicate_succ, List.replicate_succ, List.flatten_cons, ← ih (by omega)]; rfl]
    simp only [Int.toNat_natCast]
    rw [← made_row 1 [Value.bool false] rfl (by omega) n]
    rfl
section
variable {w W W2 : World} {n0 : Nat} {J0 J J2 S : Nat → Prop} {b : Nat} {v v2 : Wv} {x x2 : Wd} {mp mp2 : Nat → Option Nat} {I I2 : Nat → Nat → Prop} {H H2 : List Bl} {U U2 : List Mg} {D D2 : List Dv} {L L2 : List Lv} {Q Q' : List (Sl × List Int)} {su : Sl} {B : List Bool}
theorem Wg.madeB (G : Wg w W n0 J0 J b v x mp I H U D L [] [] Q) (n : Nat) (hb : n ≤ 1000000) : Wg w (W.alloc (.cells (bnL (List.replicate n false)).toArray 4)) n0 J0 J b v x mp I H U D L [] [(⟨some ⟨W.heap.size, 0, none⟩, n, n⟩, 4, 1, bnL (List.replicate n false))] Q ∧ w.heap.size ≤ W.heap.size := by
  have hk : Kept No W (W.alloc (.cells (bnL (List.replicate n false)).toArray 4)) := (Kept.refl No _).alloc _
  have G2 := G.no hk
  have hbx := Box.new W 4 (bnL (List.replicate n false)).toArray
  have hsz : (bnL (List.replicate n false)).toArray.size = n := by simp [bnL]
  have ho : Own 4 1 (W.alloc (.cells (bnL (List.replicate n false)).toArray 4)) 0 (some ⟨W.heap.size, 0, none⟩) n n (bnL (List.replicate n false)) :=
    ⟨by simp [bnL], .inr ⟨W.heap.size, n, _, rfl, Nat.zero_le _, hbx, Nat.le_refl _, by unfold maxLen; omega, by omega, by rw [Nat.mul_one]; exact List.take_of_length_le (by simp [bnL])⟩⟩
  refine ⟨G2.add (T := []) (y := ((⟨some ⟨W.heap.size, 0, none⟩, n, n⟩ : Sl), 4, 1, bnL (List.replicate n false))) (c := 0) ho (fun k e f => ?_) (by simp), G.fr.kept.size⟩
  have h1 := at_blk e
  have h2 := (G.wa.wl.jl k f).2
  omega
theorem Wg.setB (G : Wg w W n0 J0 J b v x mp I H U D L [] [(su, 4, 1, bnL B)] Q) (hb0 : ∀ k, At su.a k → w.heap.size ≤ k) {g : Nat} (hg : su.a = some ⟨g, 0, none⟩) {i : Nat} (hi : i < su.l) (r : Bool) :
    ∃ cs', (storeVar 4 ⟨g, 0 + i * 1, none⟩ (.bool r)).run Try.prog W = .ok () (W.setRow g cs') ∧ Wg w (W.setRow g cs') n0 J0 J b v x mp I H U D L [] [(su, 4, 1, bnL (B.set i r))] Q := by
  have ho : Own 4 1 W 0 su.a su.k su.l (bnL B) := G.tl 0 _ rfl
  have hgb := hb0 g ⟨_, hg, rfl⟩
  have hgj : ¬ J g := G.tj 0 _ g rfl ⟨_, hg, rfl⟩
  obtain ⟨cs', h1, h2⟩ := own_set1 (ty := 4) (u := .bool r) ho hg hi S4 rfl rfl
  have hk : Kept (Only g) W (W.setRow g cs') := Kept.setRow W g cs'
  have hS : ∀ k, Only g k → n0 ≤ k ∧ ¬ ∃ cs, Box W k 5 cs := fun k e => by
    have e : k = g := e
    subst e
    exact ⟨by have := G.nw; omega, fun hb => ty_ne hb (Own.ty ho ⟨_, hg, rfl⟩) (by decide)⟩
  have one : ∀ (i : Nat) (y : Rowx), [((su, 4, 1, bnL (B.set i r)) : Rowx)][i]? = some y → True := fun _ _ _ => trivial
  refine ⟨cs', h1, G.wa.kept hk (fun k e => .inr ⟨fun f => hgj ((show k = g from e) ▸ f), hS k e⟩), ⟨kept_row G.fr.kept (.inl hgb) cs', by simp, by simp, by simp⟩, G.ja, G.nw, by simp, fun q y hy => ?_, fun q y k hy e => ?_, by simp, fun q y hy => (G.qs q y hy).kept hk hS⟩
  · cases q with
    | zero => cases hy; unfold bnL at h2 ⊢; rw [List.map_set]; exact h2
    | succ q => cases hy
  · cases q with
    | zero => cases hy; exact G.tj 0 _ k rfl e
    | succ q => cases hy
theorem WA.gpl (h : WA W n0 J b v x mp I H U D L) : v.gp.l = x.n := by
  have := h.gp.1
  unfold itL at this
  rw [List.length_map, wdG_len] at this
  omega
end
def aliX (x : Wd) (c : Nat) : Wd := { x with un := [], gone := upN x.gone c false }
theorem aliX_ok {x : Wd} {G : Nat → Int → Sp} {T : Nat → Option Sp} {N Lb Db R : Nat} (h : WInv x G T) (hq : QB N Lb Db R x) (c : Nat) : WInv (aliX x c) G T ∧ QB N Lb Db R (aliX x c) ∧ (aliX x c).gone c = false ∧ (aliX x c).un = [] := by
  refine ⟨(h.less (l := []) (fun p hp => by cases hp)).like ⟨rfl, rfl, rfl, rfl, rfl, rfl⟩ h.br (fun p hp => by cases hp) h.laid, ⟨hq.now, hq.ls, hq.ds, hq.n, hq.rd, hq.mr, Nat.zero_le _, (fun p hp => by cases hp)⟩, ?_, rfl⟩
  show upN x.gone c false c = false
  unfold upN
  rw [if_pos rfl]
theorem beg_fix (x : Wd) (c : Nat) (wr : Bool) (z : List Int) : (begW x c wr z).gone = x.gone ∧ (begW x c wr z).n = x.n := by
  unfold begW
  split
  · exact ⟨rfl, rfl⟩
  · have h1 := Gro.look (sendW { x with m := upN x.m c (some (begP (machW x c wr z)).1), now := x.now + 1, at' := upN x.at' c x.ds.length, ds := x.ds ++ [⟨wr, (c : Int) + 1, x.now + 1, 0, z, 0, spZ, []⟩] } (outs (begP (machW x c wr z)))) c
    have h2 := Gro.send { x with m := upN x.m c (some (begP (machW x c wr z)).1), now := x.now + 1, at' := upN x.at' c x.ds.length, ds := x.ds ++ [⟨wr, (c : Int) + 1, x.now + 1, 0, z, 0, spZ, []⟩] } (outs (begP (machW x c wr z)))
    exact ⟨h1.gone.trans h2.gone, h1.n.trans h2.n⟩
def begX (x : Wd) (c : Nat) : Wd := { begW x c false [] with un := [] }
theorem begX_ok {x : Wd} {G : Nat → Int → Sp} {T : Nat → Option Sp} {N Lb Db R : Nat} (h : WInv x G T) (hq : QB N Lb Db R x) {c : Nat} (hc : c < 4) (hg : x.gone c = false) (hm : x.m c = none) (hR : R ≤ 1000000) : (∃ G' T', WInv (begX x c) G' T') ∧ QB (N + 2) (Lb + 7) (Db + 1) (R + 1) (begX x c) ∧ (begX x c).gone c = false ∧ (begX x c).un = [] ∧ (begX x c).n = x.n ∧
    ∃ s X, (begX x c).m c = some s ∧ s.ph = .ask X ∧ (∀ i, X.v i = none) ∧ s.aim = .rd 3 := by
  obtain ⟨G', h1⟩ := h.beg c hc false []
  have q1 := hq.beg c false []
  obtain ⟨f1, f2⟩ := beg_fix x c false []
  obtain ⟨s, X, e1, e2, e3, e4⟩ := beg_read (x := x) hm hg (hq.rd c).1 (by have := (hq.rd c).2; omega)
  exact ⟨⟨G', T, h1.less (l := []) (fun p hp => by cases hp)⟩, ⟨q1.now, q1.ls, q1.ds, q1.n, q1.rd, q1.mr, Nat.zero_le _, (fun p hp => by cases hp)⟩, by show (begW x c false []).gone c = false; rw [f1]; exact hg, rfl, f2, s, X, e1, e2, e3, e4⟩
theorem exX_ok {x : Wd} {G : Nat → Int → Sp} {T : Nat → Option Sp} {N Lb Db R : Nat} {up : List Bool} {c : Nat} (w : World) (h : WInv x G T) (hq : QB N Lb Db R x) (hg : x.gone c = false) (hx : x.un.length ≤ 30) (hx0 : x.un.length = 0 → True) : (∃ T', WInv (exW x c up) G T') ∧ QB (N + 400) (Lb + 1400) (Db + 200) (R + 200) (exW x c up) ∧ (exW x c up).gone c = false ∧ (exW x c up).un.length ≤ 7 * (x.un.length + 7) ∧ (exW x c up).n = x.n := by
  obtain ⟨T', k1, k2, k3⟩ := exW_inv (up := up) h hg hq.n hx
  exact ⟨⟨T', k1⟩, exW_qb (w := w) h hq hg hx, by rw [k2.gone]; exact hg, k3, k2.n⟩
theorem exX_right {x : Wd} {G : Nat → Int → Sp} {T : Nat → Option Sp} {N Lb Db R : Nat} {up : List Bool} {c : Nat} (h : WInv x G T) (hq : QB N Lb Db R x) (hg : x.gone c = false) (hx : x.un = []) : RightW (exW (exW x c up) c up) := by
  obtain ⟨T', k1, k2, k3⟩ := exW_inv (up := up) h hg hq.n (by rw [hx]; simp)
  cases hm : (exW x c up).m c with
  | none => rw [exW_none hm]; exact k1.right
  | some s =>
    have h1 := k1.tick c
    have hg2 : (exW x c up).gone c = false := by rw [k2.gone]; exact hg
    rw [tick_send hm hg2] at h1
    rw [exW_some hm]
    obtain ⟨T1, m1⟩ := exK_inv false up h1
    obtain ⟨T2, m2⟩ := exK_inv true up m1
    exact m2.right
theorem ds_len {x : Wd} {G : Nat → Int → Sp} {T : Nat → Option Sp} {N Lb Db R : Nat} {up : List Bool} {c : Nat} (w : World) (h : WInv x G T) (hq : QB N Lb Db R x) (hg : x.gone c = false) (hx : x.un = []) : (exW (exW x c up) c up).ds.length ≤ Db + 10000 := by
  have q1 := exW_qb (up := up) (w := w) h hq hg (by rw [hx]; simp)
  obtain ⟨T', k1, k2, k3⟩ := exW_inv (up := up) h hg hq.n (by rw [hx]; simp)
  have hg2 : (exW x c up).gone c = false := by rw [k2.gone]; exact hg
  rw [hx] at k3
  simp only [List.length_nil] at k3
  cases hm : (exW x c up).m c with
  | none => rw [exW_none hm]; have := q1.ds; omega
  | some s =>
    rw [exW_some hm]
    have h1 := k1.tick c
    have q2 := q1.tick (w := w) c (fun s hs => k1.tikL hs)
    rw [tick_send hm hg2] at h1 q2
    have hss : (outs (s, tikP s)).length ≤ 7 := by
      rw [outs_len]
      have e1 := k1.tikL hm
      have e2 := (q1.mr c s hm).2.2
      have e3 := q1.n
      show (tikP s).ss.length ≤ 7
      omega
    have hlen := send_len (outs (s, tikP s)) (exW x c up)
    generalize sendW (exW x c up) (outs (s, tikP s)) = x1 at h1 q2 hlen
    obtain ⟨⟨T1, h2⟩, q3, hl3, _⟩ := xs_ok (up := up) (kd := 1) h1 q2 (by omega) (by omega)
    have q4 := exF_qb (up := up) true q3 (xsW x1 up 1).un
    have := q4.ds
    show (exF true up (xsW x1 up 1) (xsW x1 up 1).un).1.ds.length ≤ _
    omega
theorem half_up {n r : Nat} {B : List Bool} (hn : n = 2 * r + 1) (hB : n ≤ B.countP (fun b => b) + n / 2) {x : Wd} (hx : x.n = n) (hl : B.length = n) : x.n / 2 + 1 ≤ (wdG x).countP (fun sv => upAt B sv) := by
  rw [up_count (by omega)]
  omega
theorem bnL_get {B : List Bool} {i : Nat} {b : Bool} (h : B[i]? = some b) : (bnL B)[i]? = some (.bool b) := by
  unfold bnL
  rw [List.getElem?_map, h]
  rfl
end Go.Proofs.Ytgiokkcdgoloaaa.Md
namespace Go.Proofs.Ytgiokkcdgoloaaa.Md
open Go.RowKit
set_option linter.unusedVariables false
set_option linter.unusedSimpArgs false
theorem atomic_len (ss : List (Ev × List Int)) : (tri (ss.take 600)).length ≤ 600 := by unfold tri; rw [List.length_map, List.length_take]; omega
def DnO (w : World) (e : Ending) (w' : World) : Prop := e = .returned (.bool true) ∧ Kept No w w'
end Go.Proofs.Ytgiokkcdgoloaaa.Md
