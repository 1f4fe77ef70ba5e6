import Derived.Test.YtgiokkcdgoloaabTu
import Derived.Test.YtgiokkcdgoloaabTv
import Derived.Test.YtgiokkcdgoloaabCl
import Derived.StillTailTactics
import Derived.Deep.RegionHeld3
import Derived.Deep.Cut
import Derived.Deep.CutRange
namespace Go.Proofs.Ytgiokkcdgoloaab
open Go.RowKit
set_option linter.unusedVariables false
set_option linter.unusedSimpArgs false

theorem missL_new {α : Type} (l : List Int) (need : Int) : missL (tNew α l need) = uq l := by
  unfold missL tNew; simp

/-- What a machine is made of. -/
structure MS where
  cl : Int
  op : Int
  k0 : Int
  k1 : Int
  k2 : Int
  k3 : Int
  g : List Int
  rd : Int
def mC (x : MS) (a : Option Addr) (cap : Nat) (t : TypeId) (v : Value) : Array Value :=
  #[.bool true, .int .i64 x.cl, .int .i64 x.op, .int .i64 x.k0, .int .i64 x.k1, .int .i64 x.k2, .int .i64 x.k3, .slice a x.g.length cap, .int .i64 x.rd, .iface t v]
structure Mach (w : World) (m : Nat) (a : Option Addr) (cap : Nat) (x : MS) (t : TypeId) (v : Value) : Prop where
  box : Box w m 113 (mC x a cap t v)
  row : Own 3 1 w 0 a cap x.g.length (x.g.map (Value.int .i64))
  nd : x.g.Nodup
  len : x.g.length ≤ 17592186043904
def MB (m : Nat) (a : Option Addr) : Nat → Prop := fun k => k = m ∨ At a k
theorem Mach.kept {S : Nat → Prop} {w w' : World} {m cap : Nat} {a : Option Addr} {x : MS} {t : TypeId} {v : Value} (h : Mach w m a cap x t v) (hk : Kept S w w') (hS : ∀ k, MB m a k → ¬ S k) : Mach w' m a cap x t v :=
  ⟨h.box.kept hk (hS m (.inl rfl)), h.row.kept hk (fun k hk => hS k (.inr hk)), h.nd, h.len⟩
theorem Mach.no {w w' : World} {m cap : Nat} {a : Option Addr} {x : MS} {t : TypeId} {v : Value} (h : Mach w m a cap x t v) (hk : Kept No w w') : Mach w' m a cap x t v := h.kept hk (fun _ _ e => e)
theorem Mach.off {w : World} {m cap : Nat} {a : Option Addr} {x : MS} {t : TypeId} {v : Value} (h : Mach w m a cap x t v) {k : Nat} (hk : At a k) : k ≠ m := by
  rcases h.row.cases (by simp) with ⟨rfl, _⟩ | ⟨g, rfl, _, _, sp, hg, _⟩
  · exact absurd hk At.none
  · obtain ⟨ad, e, rfl⟩ := hk
    cases e
    intro e
    have e : g = m := e
    have := h.box
    unfold Box at this
    rw [e, this] at hg
    simp at hg
theorem Mach.lt {w : World} {m cap : Nat} {a : Option Addr} {x : MS} {t : TypeId} {v : Value} (h : Mach w m a cap x t v) {k : Nat} (hk : MB m a k) : k < w.heap.size := by
  rcases hk with rfl | hk
  · exact h.box.lt
  · rcases h.row.cases (by simp) with ⟨rfl, _⟩ | ⟨g, rfl, _, hlt, _⟩
    · exact absurd hk At.none
    · obtain ⟨ad, e, rfl⟩ := hk
      cases e; exact hlt

def NewMOut (w : World) (x : MS) (t : TypeId) (v : Value) (e : Ending) (w' : World) : Prop :=
  ∃ m a cap, e = .returned (.pointer (some ⟨m, 0, none⟩)) ∧ Mach w' m a cap x (109) (.agg #[.iface t v]) ∧ (∀ k, MB m a k → w.heap.size ≤ k) ∧ Kept No w w'

set_option maxRecDepth 100000 in
set_option maxHeartbeats 2000000 in
theorem newM_any (cl op k0 k1 k2 k3 rd : Int) (a0 : Option Addr) (n0 cap0 : Nat) (zs : List Int) (t : TypeId) (v : Value) (w : World) (hz : zs.length = n0) (hn : n0 ≤ 17592186043904) (hb : Nums .i64 w a0 zs) :
    Calls Try.prog 36 #[.int .i64 cl, .int .i64 op, .agg #[.int .i64 k0, .int .i64 k1, .int .i64 k2, .int .i64 k3], .slice a0 n0 cap0, .int .i64 rd, .iface t v] w (NewMOut w ⟨cl, op, k0, k1, k2, k3, uq zs, rd⟩ t v) := by
  have HB : Hid (Nums .i64 w a0 zs) := hb
  have HZ : Hid (zs.length = n0) := hz
  clear hb hz
  obtain ⟨w1, hw1⟩ : ∃ w1, w1 = w.alloc (.cells #[.int .i64 k0, .int .i64 k1, .int .i64 k2, .int .i64 k3] 49) := ⟨_, rfl⟩
  have HK1 : Hid (Kept No w w1) := by rw [hw1]; exact (Kept.refl No w).alloc _
  have HX1 : Hid (Box w1 w.heap.size 49 #[.int .i64 k0, .int .i64 k1, .int .i64 k2, .int .i64 k3]) := by rw [hw1]; exact Box.new _ _ _
  go_enter Try.func36, Try.ntmps36
  go_wp2_with (first
    | (go_at_call 42
       rw [← hw1]
       refine Calls.mono (new_anyU a0 n0 cap0 zs 0 w1 HZ.out hn (HB.out.no HK1.out)) ?_
       rintro e w2 ⟨at', ct, rfl, hT2, hf2, hk2⟩
       clear hf2
       generalize w1.heap.size + 1 = tb at hT2 ⊢
       generalize w1.heap.size = bb at hT2 ⊢
       have HT2 : Hid (Tal 117 ansU w2 tb bb at' ct (tNew Unit zs 0)) := hT2
       have HX2 : Hid (Box w2 w.heap.size 49 #[.int .i64 k0, .int .i64 k1, .int .i64 k2, .int .i64 k3]) := HX1.out.kept hk2 (fun e => e)
       have HK2 : Hid (Kept No w w2) := HK1.out.then hk2
       clear hT2 hk2 HX1 hw1)
    | (go_at_call 43
       go_loud (
         refine Calls.mono (missing_anyU _ _ ct at' (tNew Unit zs 0) w2 HT2.out) ?_
         rw [missL_new]
         rintro e w3 ⟨a3, c3, rfl, hO3, hk3⟩
         have HX3 : Hid (Box w3 w.heap.size 49 #[.int .i64 k0, .int .i64 k1, .int .i64 k2, .int .i64 k3]) := HX2.out.kept hk3 (fun e => e)
         have HK3 : Hid (Kept No w w3) := HK2.out.then hk3
         have HO3 : Hid (Own 3 1 w3 w.heap.size a3 c3 (uq zs).length ((uq zs).map (Value.int .i64))) := hO3.lower HK2.out.size
         have HL : Hid ((uq zs).length ≤ 17592186043904) := by have := uq_len zs; rw [HZ.out] at this; show _ ≤ _; omega
         have x0 := HX3.out.cell 0
         have x1 := HX3.out.cell 1
         have x2 := HX3.out.cell 2
         have x3 := HX3.out.cell 3
         simp only [List.getElem?_toArray, List.getElem?_cons_zero, List.getElem?_cons_succ] at x0 x1 x2 x3
         clear hO3 hk3 HT2 HX2)))
  go_ret
  refine ⟨w3.heap.size, a3, c3, rfl, ⟨Box.new _ _ _, Own.lower (HO3.out.no ((Kept.refl No w3).alloc _)) (Nat.zero_le _), uq_nodup _, HL.out⟩, ?_, HK3.out.alloc _⟩
  rintro k (rfl | hk)
  · exact HK3.out.size
  · exact HO3.out.base hk

end Go.Proofs.Ytgiokkcdgoloaab
