import Derived.Test.YtfemlnfknebalabQg
import Derived.Test.YtfemlnfknebalabQa
namespace Go.Proofs.Ytfemlnfknebalab
open Go.RowKit
set_option linter.unusedVariables false
set_option linter.unusedSimpArgs false


theorem step_list (up : Int) (es : List En) (ls : List La) (room : Int) : stepS ⟨up, es, ls⟩ ⟨4, 3, 9, ⟨#[]⟩, 0, 0, 0, 0, 0⟩ room = (⟨up + 1, es, ls⟩, ⟨0, enZ, es⟩) := rfl
theorem ref_list (up : Int) (h : up < 1048576) : refS up ⟨4, 3, 9, ⟨#[]⟩, 0, 0, 0, 0, 0⟩ = 0 := by
  unfold refS
  rw [show badC ⟨4, 3, 9, ⟨#[]⟩, 0, 0, 0, 0, 0⟩ = false from rfl, decide_eq_false (by omega)]
  rfl
theorem apply_list (up : Int) (ea : Option Addr) (en ec : Nat) (la : Option Addr) (ln lc : Nat) (es : List En) (ls : List La) (room : Int) (w : World) (hu : 0 ≤ up) (hu2 : up < 1048576) (he : RdE w ⟨ea, en, ec⟩ es) (hl : RdL w ⟨la, ln, lc⟩ ls) (hb : en ≤ 1000000) (hbl : ln ≤ 1000000) :
    Calls Try.prog 6 #[.agg (Bv.cells ⟨up, ⟨ea, en, ec⟩, ⟨la, ln, lc⟩⟩), .agg (Cm.cells ⟨4, 3, 9, ⟨#[]⟩, 0, 0, 0, 0, 0⟩), .int .i64 room] w (ApYes w (⟨up + 1, es, ls⟩, ⟨0, enZ, es⟩)) := by
  have := apply_yes up ea en ec la ln lc es ls ⟨4, 3, 9, ⟨#[]⟩, 0, 0, 0, 0, 0⟩ room w (ref_list up hu2) he hl (by omega) (by omega) (by omega)
  rwa [step_list] at this
theorem move_rise {e : En} {t : List En} (h : RiseE (e :: t)) (y : Int) : RiseE (⟨e.nm, e.f0, e.f1, y⟩ :: t) := rise_set h 0 ⟨e.nm, e.f0, e.f1, y⟩ e rfl rfl
theorem move_is {e : En} {t : List En} (h : RiseE (e :: t)) : eIs (e :: t) e.nm = true := (eIs_iff h).2 ⟨e, List.mem_cons_self, rfl⟩
theorem move_find {e : En} {t : List En} (h : RiseE (e :: t)) : findE (e :: t) e.nm = e := findE_mem h List.mem_cons_self
theorem OwE.sz0 {W : World} {base g n k : Nat} {e : En} {t : List En} (h : OwE W base ⟨some ⟨g, 0, none⟩, n, k⟩ (e :: t)) (y : Int) :
    ∃ cs', (storeVar 3 ⟨g, 0 + 0 * 4 + 3, none⟩ (.int .i64 y)).run Try.prog W = .ok () (W.setRow g cs') ∧ OwE (W.setRow g cs') base ⟨some ⟨g, 0, none⟩, n, k⟩ (⟨e.nm, e.f0, e.f1, y⟩ :: t) := by
  have hl : t.length + 1 = n := h.len
  obtain ⟨g', cur, ea, hb, hbox, hle, hm, hs, ht⟩ := h.own.op (show 0 < n by omega)
  cases ea
  have hk : n * 4 ≤ k * 4 := Nat.mul_le_mul_right _ hle
  have hcur : cur = enL (e :: t) ++ cur.drop (n * 4) := by
    have := List.take_append_drop (n * 4) cur
    rw [ht] at this
    exact this.symm
  have hs : cur.length = k * 4 := hs
  refine ⟨(putL cur (0 + 0 * 4 + 3) [.int .i64 y]).toArray, run_store_at hbox rfl Try.size3 (by rw [hs]; show 3 + 1 ≤ k * 4; omega) (by simp [Value.oneCell']), ?_⟩
  have e1 : putL cur (0 + 0 * 4 + 3) [.int .i64 y] = enL (⟨e.nm, e.f0, e.f1, y⟩ :: t) ++ cur.drop (n * 4) := by
    conv => lhs; rw [hcur]
    unfold putL enL
    simp [En.cs]
  have e2 : (enL (⟨e.nm, e.f0, e.f1, y⟩ :: t)).length = n * 4 := by rw [enL_len]; show (t.length + 1) * 4 = n * 4; rw [hl]
  refine ⟨?_, h.len⟩
  rw [e1]
  exact Own.shut hb (by have := Box.setRow hbox (enL (⟨e.nm, e.f0, e.f1, y⟩ :: t) ++ cur.drop (n * 4)).toArray; exact this) hle hm (by rw [List.length_append, e2, List.length_drop, hs]; omega) (by rw [← e2]; exact List.take_left' rfl)
theorem RdE.at0 {w : World} {b off n k : Nat} {e : En} {t : List En} (h : RdE w ⟨some ⟨b, off, none⟩, n, k⟩ (e :: t)) : ∀ (j : Nat) v, e.cs[j]? = some v → w.cell? ⟨b, off + 0 * 4 + j, none⟩ = some v := by
  obtain ⟨b', off', e1, hc⟩ := h.row.at (i := 0) (by simp)
  cases e1
  exact hc
theorem eqE_refl' (a : En) : eqE a a = true := by simp [eqE, eqF, eqN]

end Go.Proofs.Ytfemlnfknebalab
