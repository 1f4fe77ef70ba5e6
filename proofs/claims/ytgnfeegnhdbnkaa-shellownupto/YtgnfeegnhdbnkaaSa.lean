import Derived.Test.YtgnfeegnhdbnkaaRa
import Derived.Laws.Concat
namespace Go.Proofs.Ytgnfeegnhdbnkaa
open Go.RowKit Go.Lib
set_option linter.unusedVariables false
set_option linter.unusedSimpArgs false

def lineL (xs : List (List UInt8)) : List UInt8 := xs.flatMap (fun x => 32 :: quoteL (x.take 4000))
theorem lineL_step {xs : List (List UInt8)} {m : Nat} {x : List UInt8} (h : xs[m]? = some x) : lineL (xs.take (m + 1)) = lineL (xs.take m) ++ [32] ++ quoteL (x.take 4000) := by
  unfold lineL
  rw [List.take_add_one, h, List.flatMap_append]
  simp
theorem nextS_blank0 (ws : List (List UInt8)) (dg : Int) : nextS ⟨0, [], ws, dg, false⟩ 32 = ⟨0, [], ws, dg, false⟩ := by
  have e : isB 32 = true := by decide
  simp [nextS, bi, e]
theorem nextS_blank6 (ws : List (List UInt8)) (dg : Int) : nextS ⟨6, [], ws, dg, false⟩ 32 = ⟨0, [], ws, dg, false⟩ := by
  have e : isB 32 = true := by decide
  simp [nextS, bi, e]
theorem nextS_tab0 (ws : List (List UInt8)) (dg : Int) : nextS ⟨0, [], ws, dg, false⟩ 9 = ⟨0, [], ws, dg, false⟩ := by
  have e : isB 9 = true := by decide
  simp [nextS, bi, e]
theorem nextS_tab6 (ws : List (List UInt8)) (dg : Int) : nextS ⟨6, [], ws, dg, false⟩ 9 = ⟨0, [], ws, dg, false⟩ := by
  have e : isB 9 = true := by decide
  simp [nextS, bi, e]
theorem nextS_mark (ws : List (List UInt8)) (dg : Int) : nextS ⟨0, [], ws, dg, false⟩ 35 = ⟨7, [], ws, dg, false⟩ := by
  have e : isB 35 = false := by decide
  simp [nextS, bi, e]
theorem run_line : ∀ (xs : List (List UInt8)) (k : Nat) (ws : List (List UInt8)) (dg : Int), k = 0 ∨ k = 6 → ∃ k' dg', (k' = 0 ∨ k' = 6) ∧ runS ⟨k, [], ws, dg, false⟩ (lineL xs) = ⟨k', [], ws ++ xs.map (fun x => x.take 4000), dg', false⟩
  | [], k, ws, dg, hk => ⟨k, dg, hk, by simp [lineL, runS]⟩
  | x :: xs, k, ws, dg, hk => by
    obtain ⟨d1, h1⟩ := run_quote (x.take 4000) ws dg
    obtain ⟨k2, d2, hk2, h2⟩ := run_line xs 6 (ws ++ [x.take 4000]) d1 (.inr rfl)
    refine ⟨k2, d2, hk2, ?_⟩
    have e : lineL (x :: xs) = [32] ++ (quoteL (x.take 4000) ++ lineL xs) := by simp [lineL]
    have b : runS ⟨k, [], ws, dg, false⟩ [32] = ⟨0, [], ws, dg, false⟩ := by
      rcases hk with rfl | rfl
      · simp [runS, nextS_blank0]
      · simp [runS, nextS_blank6]
    rw [e, runS_app, b, runS_app, h1, h2]
    simp
theorem words_line (xs : List (List UInt8)) (cm : List UInt8) : wordsOf (lineL xs ++ [9, 35] ++ cm) = some (xs.map (fun x => x.take 4000)) := by
  obtain ⟨k, d, hk, h⟩ := run_line xs 0 [] 0 (.inl rfl)
  have e : runS s0 (lineL xs ++ [9, 35] ++ cm) = ⟨7, [], xs.map (fun x => x.take 4000), d, false⟩ := by
    rw [runS_app, runS_app, show s0 = ⟨0, [], [], 0, false⟩ from rfl, h, List.nil_append]
    have b : runS ⟨k, [], xs.map (fun x => x.take 4000), d, false⟩ [9, 35] = ⟨7, [], xs.map (fun x => x.take 4000), d, false⟩ := by
      rcases hk with rfl | rfl
      · simp [runS, nextS_tab0, nextS_mark]
      · simp [runS, nextS_tab6, nextS_mark]
    rw [b]
    exact runS_rem _ _ rfl
  unfold wordsOf
  rw [e]
  simp
/-- Rows of bytes that can be read. -/
def Wds (w : World) (a : Option Addr) (xs : List (List UInt8)) : Prop := ∀ (i : Nat) x, xs[i]? = some x → ∃ g o ai ci, a = some ⟨g, o, none⟩ ∧ w.cell? ⟨g, o + i * 1, none⟩ = some (.slice ai x.length ci) ∧ x.length ≤ ci ∧ Nums .u8 w ai (x.map bi)
theorem Wds.no {w w' : World} {a : Option Addr} {xs : List (List UInt8)} (h : Wds w a xs) (hk : Kept No w w') : Wds w' a xs := fun i x hx => by
  obtain ⟨g, o, ai, ci, e, hc, hl, hn⟩ := h i x hx
  exact ⟨g, o, ai, ci, e, hk.cell hc (fun e => e), hl, hn.no hk⟩
theorem b_addS (a b : List UInt8) (h : a.length + b.length ≤ 1000000000000) (w : World) : (binOp .add 9 (.string (bs a)) (.string (bs b))).run Try.prog w = .ok (.string (bs (a ++ b))) w := by
  rw [binOp_string_add, run_string_add_sum w (bs a) (bs b) (by rw [bs_size, bs_size]; omega)]
  congr 2
theorem E33 : Try.prog.underlying 33 = some (.slice (Try.prog.elem 33)) := by kernel_rfl
theorem F33 : (Try.prog.info? (Try.prog.elem 33)).map (·.size) = some 1 := by kernel_rfl
theorem quote_x : quoteL [120] = [34, 120, 34] := by decide
end Go.Proofs.Ytgnfeegnhdbnkaa
