import Derived.Test.YtgdnofacgfjaeabGreatZd
import Derived.Deep.CutBlock
import Derived.Deep.DeepCutAuto
namespace Go.Proofs.YtgdnofacgfjaeabGreat
open Go.RowKit
set_option linter.unusedVariables false

/-- A configuration that came in. -/
structure Cfg (w : World) (sa : Option Addr) (sn sc : Nat) (zs : List Int) : Prop where
  nums : Nums .i64 w sa zs
  len : zs.length = sn
  bd : sn ≤ 17592186043904
theorem Cfg.no {w w' : World} {sa : Option Addr} {sn sc : Nat} {zs : List Int} (h : Cfg w sa sn sc zs) (hk : Kept No w w') : Cfg w' sa sn sc zs := ⟨h.nums.no hk, h.len, h.bd⟩

def isClientB (c : Bool) (i : Int) : Bool := c && inB i 1 255
def isServerB (c : Bool) (i : Int) (zs : List Int) : Bool := !c && hasB zs i

theorem isClient_any (c : Bool) (i : Int) (w : World) : Calls Tryz.prog 142 #[.agg #[.bool c, .int .i64 i]] w fun e w' => e = .returned (.bool (isClientB c i)) ∧ Kept No w w' := by
  cases c with
  | true =>
    go_enter Tryz.func142, Tryz.ntmps142
    go_wp2_with (go_at_call 117; refine (rightId_any _ _).mono ?_; rintro e w' ⟨rfl, rfl⟩)
    go_ret
    exact ⟨ret_bool (by simp [isClientB]), (Kept.refl No w).alloc _⟩
  | false =>
    go_enter Tryz.func142, Tryz.ntmps142
    go_wp2
    go_ret
    exact ⟨ret_bool (by simp [isClientB]), (Kept.refl No w).alloc _⟩
set_option maxHeartbeats 1000000 in
theorem isServer_any (c : Bool) (i : Int) (sa : Option Addr) (sn sc : Nat) (zs : List Int) (f p bu bl ro : Int) (w : World) (h : Cfg w sa sn sc zs) :
    Calls Tryz.prog 143 #[.agg #[.bool c, .int .i64 i], cfgV (.slice sa sn sc) f p bu bl ro] w fun e w' => e = .returned (.bool (isServerB c i zs)) ∧ Kept No w w' := by
  have HC : Hid (∀ W, Kept No w W → Calls Tryz.prog 179 #[.slice sa sn sc, .int .i64 i] W fun e w' => e = .returned (.bool (hasB zs i)) ∧ w' = W) := fun W hW => by
    have := contains_any sa sc zs i W (by rw [h.len]; exact h.bd) (h.nums.no hW)
    rw [h.len] at this
    exact this
  clear h
  unfold isServerB
  generalize hasB zs i = hb at HC
  cases c with
  | true =>
    go_enter Tryz.func143, Tryz.ntmps143
    go_wp2
    go_ret
    exact ⟨ret_bool (by simp), ((Kept.refl No w).alloc _).alloc _⟩
  | false =>
    go_enter Tryz.func143, Tryz.ntmps143
    go_wp2_with (go_at_call 179; refine (HC.out _ (((Kept.refl No w).alloc _).alloc _)).mono ?_; rintro e w2 ⟨rfl, h2⟩; rw [h2]; clear h2 w2)
    go_ret
    exact ⟨ret_bool (by simp), ((Kept.refl No w).alloc _).alloc _⟩

/-- Who may send it to whom. -/
def endsB (m : MsgD) (zs : List Int) : Bool :=
  if m.kind = 1 ∨ m.kind = 2 ∨ m.kind = 3 ∨ m.kind = 4 ∨ m.kind = 5 then isClientB m.fc m.fi && (isServerB m.tc m.ti zs && (inB m.op 1 1099511627776 && inB m.rd 1 1099511627776))
  else if m.kind = 11 ∨ m.kind = 12 ∨ m.kind = 13 ∨ m.kind = 14 ∨ m.kind = 15 ∨ m.kind = 16 ∨ m.kind = 17 then isServerB m.fc m.fi zs && (isClientB m.tc m.ti && (inB m.op 1 1099511627776 && inB m.rd 1 1099511627776))
  else if m.kind = 21 ∨ m.kind = 22 then isServerB m.fc m.fi zs && (isServerB m.tc m.ti zs && (!(m.fc == m.tc && m.fi == m.ti) && (m.op == 0 && m.rd == 0)))
  else false

set_option maxRecDepth 100000 in
set_option maxHeartbeats 4000000 in
theorem rightEnds_any (m : MsgD) (sa : Option Addr) (sn sc : Nat) (zs : List Int) (f p bu bl ro : Int) (w : World) (h : Cfg w sa sn sc zs) :
    Calls Tryz.prog 107 #[.agg m.cells, cfgV (.slice sa sn sc) f p bu bl ro] w fun e w' => e = .returned (.bool (endsB m zs)) ∧ Kept No w w' := by
  have HC : Hid (Cfg w sa sn sc zs) := h
  clear h
  have HS : Hid (∀ (c : Bool) (i : Int) W, Kept No w W → Calls Tryz.prog 143 #[.agg #[.bool c, .int .i64 i], cfgV (.slice sa sn sc) f p bu bl ro] W fun e w' => e = .returned (.bool (isServerB c i zs)) ∧ Kept No W w') := fun c i W hW => isServer_any c i sa sn sc zs f p bu bl ro W (HC.out.no hW)
  have TB : Hid (1 = 1) := rfl
  go_enter Tryz.func107, Tryz.ntmps107
  go_upto_region 1 with (have hguard := TB; clear hguard; refine wp_boxV rfl 71 _ rfl m.cells rfl w.heap.size rfl ?_; clear TB)
  obtain ⟨w0, hw0⟩ : ∃ w0, w0 = (w.alloc (.cells m.cells 71)).alloc (.cells #[.slice sa sn sc, .int .i64 f, .int .i64 p, .int .i64 bu, .int .i64 bl, .int .i64 ro] 24) := ⟨_, rfl⟩
  rw [← hw0]
  have HK0 : Hid (Kept No w w0) := by rw [hw0]; exact ((Kept.refl No w).alloc _).alloc _
  have HM0 : Hid (∀ W, Kept No w0 W → (W.cell? ⟨w.heap.size, 0, none⟩ = some (.int .i64 m.kind) ∧ W.cell? ⟨w.heap.size, 1, none⟩ = some (.bool m.fc) ∧ W.cell? ⟨w.heap.size, 2, none⟩ = some (.int .i64 m.fi) ∧ W.cell? ⟨w.heap.size, 3, none⟩ = some (.bool m.tc) ∧ W.cell? ⟨w.heap.size, 4, none⟩ = some (.int .i64 m.ti) ∧ W.cell? ⟨w.heap.size, 5, none⟩ = some (.int .i64 m.op) ∧ W.cell? ⟨w.heap.size, 6, none⟩ = some (.int .i64 m.rd)) ∧
      W.cell? ⟨w.heap.size + 1, 0, none⟩ = some (.slice sa sn sc) ∧ W.cell? ⟨w.heap.size + 1, 1, none⟩ = some (.int .i64 f) ∧ W.cell? ⟨w.heap.size + 1, 2, none⟩ = some (.int .i64 p) ∧ W.cell? ⟨w.heap.size + 1, 3, none⟩ = some (.int .i64 bu) ∧ W.cell? ⟨w.heap.size + 1, 4, none⟩ = some (.int .i64 bl) ∧ W.cell? ⟨w.heap.size + 1, 5, none⟩ = some (.int .i64 ro)) := by
    intro W hW
    have h1 : MsgAt W w.heap.size m := ((MsgAt.new w m).no (by rw [hw0] at hW; exact ((Kept.refl No _).alloc _).then hW))
    have h2 : Box W (w.heap.size + 1) 24 #[.slice sa sn sc, .int .i64 f, .int .i64 p, .int .i64 bu, .int .i64 bl, .int .i64 ro] := by
      have h3 : Box w0 (w.heap.size + 1) 24 #[.slice sa sn sc, .int .i64 f, .int .i64 p, .int .i64 bu, .int .i64 bl, .int .i64 ro] := by
        rw [hw0]
        have := Box.new (w.alloc (.cells m.cells 71)) 24 #[.slice sa sn sc, .int .i64 f, .int .i64 p, .int .i64 bu, .int .i64 bl, .int .i64 ro]
        simpa using this
      exact h3.kept hW (fun e => e)
    exact ⟨h1.ends, h2.cell 0, h2.cell 1, h2.cell 2, h2.cell 3, h2.cell 4, h2.cell 5⟩
  clear hw0
  obtain ⟨⟨c0, c1, c2, c3, c4, c5, c6⟩, d0, d1, d2, d3, d4, d5⟩ := HM0.out w0 (Kept.refl _ _)
  have HE : Hid (∀ b, b = endsB m zs → Ending.returned (.bool b) = .returned (.bool (endsB m zs))) := fun b e => by rw [e]
  obtain ⟨kd, hkd⟩ : ∃ kd, m.kind = kd := ⟨_, rfl⟩
  have HKD : Hid (m.kind = kd) := hkd
  rw [hkd] at c0 HM0
  clear hkd
  have TA : Hid (1 = 1) := rfl
  go_wp2_with (first
    | (go_at_call 142
       have hguard := TA
       clear hguard
       refine Calls.mono (isClient_any _ _ _) ?_
       rintro e w2 ⟨rfl, hk2⟩
       have HK2 : Hid (Kept No w0 w2) := hk2
       obtain ⟨⟨x0, x1, x2, x3, x4, x5, x6⟩, y0, y1, y2, y3, y4, y5⟩ := HM0.out w2 hk2
       have TC : Hid (1 = 1) := rfl
       clear hk2 TA)
    | (go_at_call 143
       have hguard := TA
       clear hguard
       refine Calls.mono (HS.out _ _ w0 HK0.out) ?_
       rintro e w2 ⟨rfl, hk2⟩
       have HK2 : Hid (Kept No w0 w2) := hk2
       obtain ⟨⟨x0, x1, x2, x3, x4, x5, x6⟩, y0, y1, y2, y3, y4, y5⟩ := HM0.out w2 hk2
       have TC : Hid (1 = 1) := rfl
       clear hk2 TA)
    | (go_at_call 142
       have hguard := TC
       clear hguard
       refine Calls.mono (isClient_any _ _ _) ?_
       rintro e w3 ⟨rfl, hk3⟩
       have hk03 := HK2.out.then hk3
       have HK3 : Hid (Kept No w w3) := HK0.out.then hk03
       obtain ⟨⟨z0, z1, z2, z3, z4, z5, z6⟩, v0, v1, v2, v3, v4, v5⟩ := HM0.out w3 hk03
       clear hk3 hk03 TC)
    | (go_at_call 143
       have hguard := TC
       clear hguard
       refine Calls.mono (HS.out _ _ w2 (HK0.out.then HK2.out)) ?_
       rintro e w3 ⟨rfl, hk3⟩
       have hk03 := HK2.out.then hk3
       have HK3 : Hid (Kept No w w3) := HK0.out.then hk03
       obtain ⟨⟨z0, z1, z2, z3, z4, z5, z6⟩, v0, v1, v2, v3, v4, v5⟩ := HM0.out w3 hk03
       clear hk3 hk03 TC)
    | (go_at_call 118; refine (rightNum_any _ _).mono ?_; rintro e w4 ⟨rfl, h4⟩; rw [h4]; clear h4 w4))
  all_goals go_ret
  all_goals first
    | exact ⟨HE.out _ (by have := HKD.out; simp_all [endsB]), HK3.out⟩
    | exact ⟨HE.out _ (by have := HKD.out; simp_all [endsB]), HK0.out.then HK2.out⟩
    | exact ⟨HE.out _ (by have := HKD.out; simp_all [endsB]), HK0.out⟩

end Go.Proofs.YtgdnofacgfjaeabGreat
