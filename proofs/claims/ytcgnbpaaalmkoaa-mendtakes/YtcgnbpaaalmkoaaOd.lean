import Derived.Test.YtcgnbpaaalmkoaaCa
import Derived.Test.YtcgnbpaaalmkoaaOc
namespace Go.Proofs.Ytcgnbpaaalmkoaa
open Go.ChangeShapes Go.WideShapes Go.ChangeAt Go.RowKit
open Go.ChangeMaps (open_string shut_string)
set_option linter.unusedVariables false
set_option linter.unusedSimpArgs false

set_option maxRecDepth 100000 in
theorem msg_ok {H : Type} {enc : TypeId × Value → H} {W : World} {fuel : Nat} {l : List Value} {x : DataW H × List MemPlace}
    (hf : DataW.trod enc Try.prog W 0 (fun _ => true) true fuel 50 l = some x) (hs : ∀ n ∈ x.1.weights Try.prog 50, n ≤ reachBytes) :
    ∃ (m : Mg) (bs : List Int) (es : List En) (ls : List La) (cs : List Cm), l = m.cs ∧ MgAt W m bs es ls cs := by
  obtain ⟨xs, n, _, rfl, hl, hlen, hfs⟩ := DataW.trod_struct Try.und50 hf
  rw [Try.cells50] at hl
  have hlen : xs.length = 13 := hlen
  match xs, hlen, hfs, hs with
  | [y0, y1, y2, y3, y4, y5, y6, y7, y8, y9, y10, y11, y12], _, hfs, hs =>
    have h0 : DataW.trod enc Try.prog W 0 (fun _ => true) true n 3 ((l.drop 0).take (Try.prog.cellsOf 3)) = some y0 := hfs 0 _ rfl
    rw [Try.cells3] at h0
    obtain ⟨n0, e0, _, _⟩ := DataW.trod_int Try.und3 h0
    have h1 : DataW.trod enc Try.prog W 0 (fun _ => true) true n 43 ((l.drop 1).take (Try.prog.cellsOf 43)) = some y1 := hfs 1 _ rfl
    rw [Try.cells43] at h1
    obtain ⟨n1, e1⟩ := addr_ok h1
    have h2 : DataW.trod enc Try.prog W 0 (fun _ => true) true n 43 ((l.drop 3).take (Try.prog.cellsOf 43)) = some y2 := hfs 2 _ rfl
    rw [Try.cells43] at h2
    obtain ⟨n2, e2⟩ := addr_ok h2
    have h3 : DataW.trod enc Try.prog W 0 (fun _ => true) true n 3 ((l.drop 5).take (Try.prog.cellsOf 3)) = some y3 := hfs 3 _ rfl
    rw [Try.cells3] at h3
    obtain ⟨n3, e3, _, _⟩ := DataW.trod_int Try.und3 h3
    have h4 : DataW.trod enc Try.prog W 0 (fun _ => true) true n 3 ((l.drop 6).take (Try.prog.cellsOf 3)) = some y4 := hfs 4 _ rfl
    rw [Try.cells3] at h4
    obtain ⟨n4, e4, _, _⟩ := DataW.trod_int Try.und3 h4
    have h5 : DataW.trod enc Try.prog W 0 (fun _ => true) true n 23 ((l.drop 7).take (Try.prog.cellsOf 23)) = some y5 := hfs 5 _ rfl
    rw [Try.cells23] at h5
    obtain ⟨n5, e5⟩ := key_ok h5
    have h6 : DataW.trod enc Try.prog W 0 (fun _ => true) true n 25 ((l.drop 11).take (Try.prog.cellsOf 25)) = some y6 := hfs 6 _ rfl
    rw [Try.cells25] at h6
    obtain ⟨n6, e6⟩ := stamp_ok h6
    have h7 : DataW.trod enc Try.prog W 0 (fun _ => true) true n 25 ((l.drop 13).take (Try.prog.cellsOf 25)) = some y7 := hfs 7 _ rfl
    rw [Try.cells25] at h7
    obtain ⟨n7, e7⟩ := stamp_ok h7
    have h8 : DataW.trod enc Try.prog W 0 (fun _ => true) true n 26 ((l.drop 15).take (Try.prog.cellsOf 26)) = some y8 := hfs 8 _ rfl
    rw [Try.cells26] at h8
    have g8 : l.drop 15 = (l.drop 15).take 1 ++ l.drop 16 := cutL 15 1
    obtain ⟨c8, hc8⟩ : ∃ c, (l.drop 15).take 1 = [c] := List.length_eq_one_iff.1 (by rw [List.length_take, List.length_drop]; omega)
    rw [hc8] at h8
    obtain ⟨n8, z8, u8, a8, b8, d8⟩ := bytes_ok h8 (fun w hw => hs w (by
      simp only [DataW.weights, Try.und50]
      exact DataW.weights_mem_each (j := 8) (t := 26) (d := y8.1) (by kernel_rfl) rfl w hw))
    have e8 : (l.drop 15).take 1 = [n8.v] := by rw [hc8, u8]
    have h9 : DataW.trod enc Try.prog W 0 (fun _ => true) true n 47 ((l.drop 16).take (Try.prog.cellsOf 47)) = some y9 := hfs 9 _ rfl
    rw [Try.cells47] at h9
    obtain ⟨n9, e9⟩ := cmd_ok h9
    have h10 : DataW.trod enc Try.prog W 0 (fun _ => true) true n 32 ((l.drop 25).take (Try.prog.cellsOf 32)) = some y10 := hfs 10 _ rfl
    rw [Try.cells32] at h10
    obtain ⟨n10, z10, zz10, e10, a10, aa10, b10, bb10⟩ := bkt_ok h10 (fun w hw => hs w (by
      simp only [DataW.weights, Try.und50]
      exact DataW.weights_mem_each (j := 10) (t := 32) (d := y10.1) (by kernel_rfl) rfl w hw))
    have h11 : DataW.trod enc Try.prog W 0 (fun _ => true) true n 48 ((l.drop 28).take (Try.prog.cellsOf 48)) = some y11 := hfs 11 _ rfl
    rw [Try.cells48] at h11
    have g11 : l.drop 28 = (l.drop 28).take 1 ++ l.drop 29 := cutL 28 1
    obtain ⟨c11, hc11⟩ : ∃ c, (l.drop 28).take 1 = [c] := List.length_eq_one_iff.1 (by rw [List.length_take, List.length_drop]; omega)
    rw [hc11] at h11
    obtain ⟨n11, z11, u11, a11, b11, d11⟩ := cmds_ok h11 (fun w hw => hs w (by
      simp only [DataW.weights, Try.und50]
      exact DataW.weights_mem_each (j := 11) (t := 48) (d := y11.1) (by kernel_rfl) rfl w hw))
    have e11 : (l.drop 28).take 1 = [n11.v] := by rw [hc11, u11]
    have h12 : DataW.trod enc Try.prog W 0 (fun _ => true) true n 4 ((l.drop 29).take (Try.prog.cellsOf 4)) = some y12 := hfs 12 _ rfl
    rw [Try.cells4] at h12
    obtain ⟨n12, e12, _⟩ := DataW.trod_bool Try.und4 h12
    have s : l = l.drop 0 := rfl
    have s0 : l.drop 0 = (l.drop 0).take 1 ++ l.drop 1 := cutL 0 1
    rw [e0] at s0
    have s1 : l.drop 1 = (l.drop 1).take 2 ++ l.drop 3 := cutL 1 2
    rw [e1] at s1
    have s2 : l.drop 3 = (l.drop 3).take 2 ++ l.drop 5 := cutL 3 2
    rw [e2] at s2
    have s3 : l.drop 5 = (l.drop 5).take 1 ++ l.drop 6 := cutL 5 1
    rw [e3] at s3
    have s4 : l.drop 6 = (l.drop 6).take 1 ++ l.drop 7 := cutL 6 1
    rw [e4] at s4
    have s5 : l.drop 7 = (l.drop 7).take 4 ++ l.drop 11 := cutL 7 4
    rw [e5] at s5
    have s6 : l.drop 11 = (l.drop 11).take 2 ++ l.drop 13 := cutL 11 2
    rw [e6] at s6
    have s7 : l.drop 13 = (l.drop 13).take 2 ++ l.drop 15 := cutL 13 2
    rw [e7] at s7
    have s8 : l.drop 15 = (l.drop 15).take 1 ++ l.drop 16 := cutL 15 1
    rw [e8] at s8
    have s9 : l.drop 16 = (l.drop 16).take 9 ++ l.drop 25 := cutL 16 9
    rw [e9] at s9
    have s10 : l.drop 25 = (l.drop 25).take 3 ++ l.drop 28 := cutL 25 3
    rw [e10] at s10
    have s11 : l.drop 28 = (l.drop 28).take 1 ++ l.drop 29 := cutL 28 1
    rw [e11] at s11
    have s12 : l.drop 29 = (l.drop 29).take 1 ++ l.drop 30 := cutL 29 1
    rw [e12] at s12
    have sz : l.drop 30 = [] := List.drop_of_length_le (by omega)
    refine ⟨⟨n0, n1, n2, n3, n4, n5, n6, n7, n8, n9, n10, n11, n12⟩, z8, z10, zz10, z11, ?_, ⟨a8, a10, aa10, a11, b8, by show n10.e.l ≤ _; omega, by show n10.l.l ≤ _; omega, by show n11.l ≤ _; omega⟩⟩
    rw [s, s0, s1, s2, s3, s4, s5, s6, s7, s8, s9, s10, s11, s12, sz]
    rfl
set_option maxRecDepth 100000 in
theorem opened_msg (H : Type) (enc : TypeId × Value → H) (W : World) (b0 : Nat) (v : Value) (d0 : DataW H) (p0 : List MemPlace) (hv : Value.okWide Try.prog W .any b0 50 v)
    (h0 : DataW.Trod enc Try.prog W 0 (fun _ => true) true 50 v d0 p0) (hs : ∀ n ∈ d0.weights Try.prog 50, n ≤ reachBytes) :
    ∃ (m : Mg) (bs : List Int) (es : List En) (ls : List La) (cs : List Cm), v = .agg (Mg.cells m) ∧ MgAt W m bs es ls cs := by
  obtain ⟨cs, rfl, _⟩ := okWide_struct Try.und50 hv
  obtain ⟨fuel, hf⟩ := h0
  obtain ⟨h, bs, es, ls, ps, e, hh⟩ := msg_ok hf hs
  simp only [Value.cells] at e
  obtain ⟨l⟩ := cs
  simp only [] at e
  exact ⟨h, bs, es, ls, ps, by rw [e]; rfl, hh⟩

end Go.Proofs.Ytcgnbpaaalmkoaa
