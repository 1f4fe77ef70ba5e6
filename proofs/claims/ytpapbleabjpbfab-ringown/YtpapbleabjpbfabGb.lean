import Derived.Test.YtpapbleabjpbfabGa
import Derived.StillTailTactics
namespace Go.Proofs.Ytpapbleabjpbfab
open Go.RowKit
set_option linter.unusedVariables false
set_option linter.unusedSimpArgs false

theorem Try.und57 : Try.prog.underlying 57 = some (.slice 22) := by kernel_rfl
theorem Try.info22 : (Try.prog.info? 22).map (fun i => (i.zero, i.size, i.bytes)) = some (some (.slice none 0 0), 1, 24) := by kernel_rfl

namespace Gx
theorem kept_none {w w' : World} (h : Kept (At none) w w') : Kept No w w' := h.mono (fun i _ e => absurd e At.none)
/-- All of a row is appended to nothing. -/
theorem wp_rowC {ops : Array Oper} {rest : List Oper} {o : Oper} {a : Act} {w : World} {Q : Exit → Act → World → Prop} (hgd : o.guard = Option.none) (s x : Operand) (ho : o.op = .call { callee := .builtin .append, args := #[s, x], argTypes := #[57, 57] })
    (base' base : Nat) (rg rn rc : Nat) (K : List Ent) (hs : a.eval s = .slice none 0 0) (hx : a.eval x = .slice (some ⟨rg, 0, none⟩) rn rc) (hn : K.length = rn) (h1 : 1 ≤ rn) (hm : rn ≤ 100000) (hown : Rw w base (some ⟨rg, 0, none⟩) rc K) (hbase : base' ≤ w.heap.size)
    (h : ∀ mg c' w', Hid (Own 22 1 w' base' (some ⟨mg, 0, none⟩) c' K.length (K.map entV)) → Hid (Kept No w w') → wpList Try.prog ops Q rest (a.put o.dst (.slice (some ⟨mg, 0, none⟩) rn c')) w') :
    wpList Try.prog ops Q (o :: rest) a w := by
  subst hn
  refine wp_appN w 57 22 (.slice none 0 0) 1 24 Try.und57 Try.info22 rfl (by decide) hgd s x ho base' none 0 0 [] hs (Own.nil0 _ _ _ _) ⟨rg, 0, none⟩ K.length rc (K.map entV) hx (by simp) (fun j u hu => World.ownsRow.cells hown (by rfl) j u hu) (fun u hu => by obtain ⟨e, _, rfl⟩ := List.mem_map.1 hu; rfl) (by omega) (by omega) hbase ?_
  intro a' c' w' HO HC
  have ho := HO.out
  rw [Nat.zero_add, List.nil_append] at ho
  obtain ⟨mg, rfl⟩ := Own.sm ho (by omega)
  rw [Nat.zero_add]
  refine h mg c' w' ho ?_
  rcases HC.out with ⟨_, _, h⟩ | ⟨_, h⟩
  · exact kept_none h
  · exact h
end Gx
open Gx
set_option maxRecDepth 100000 in
set_option maxHeartbeats 8000000 in
theorem grown_any (ra : Option Addr) (rn rc base lo : Nat) (K : List Ent) (Z : Nat → List Int) (w : World) (hR : Rw w base ra rc K) (hE : Erow w lo K Z) (hn : K.length = rn) (h1 : 1 ≤ rn) (hm : rn ≤ 1000) (hlo : lo ≤ w.heap.size) (hbase : base ≤ w.heap.size) (hra : ∀ k, At ra k → k < w.heap.size) :
    Calls Try.prog 25 #[.slice ra rn rc] w fun e w' => e = .returned (.bool true) ∧ Kept (EB K) w w' := by
  obtain ⟨rg, rfl⟩ : ∃ g, ra = some ⟨g, 0, none⟩ := Own.sm hR (by omega)
  have HE : Hid (Erow w lo K Z) := hE
  have HN : Hid (K.length = rn) := hn
  have HRA : Hid (∀ k, At (some ⟨rg, 0, none⟩) k → k < w.heap.size) := hra
  have HP0 : Hid (Ph1 w w base lo (some ⟨rg, 0, none⟩) rc K 0) := ⟨hR, Kept.refl _ _, Z, hE, fun q hq => absurd hq (Nat.not_lt_zero _)⟩
  have HLO : Hid (lo ≤ w.heap.size ∧ base ≤ w.heap.size) := ⟨hlo, hbase⟩
  clear hR hE hn hra hlo hbase
  go_enter Try.func25, Try.ntmps25
  go_wp2
  go_loopw [3] (fun i wr => ∃ k : Nat, k ≤ rn ∧ i = .int .i64 (k : Int) ∧ Hid (Ph1 w wr base lo (some ⟨rg, 0, none⟩) rc K k)) (fun i _ => rn - (intOf i).toNat)
  case atStart => exact ⟨0, Nat.zero_le _, rfl, HP0⟩
  case round =>
    obtain ⟨k, hk, rfl, HP⟩ := hrel
    clear HP0
    by_cases hlt : k < rn
    · have i1 : (k : Int) < (rn : Int) := by omega
      obtain ⟨⟨ea, el, ec⟩, he⟩ : ∃ e, K[k]? = some e := ⟨K[k]'(by rw [HN.out]; exact hlt), by rw [List.getElem?_eq_getElem]⟩
      have HEk : Hid (K[k]? = some ⟨ea, el, ec⟩) := he
      have hel : (el : Int) ≤ 1000000 := by have := (HE.out.ok k _ he).2.2; simp only at this; omega
      clear he
      go_wp2
      go_loopw [4] (fun j wr => ∃ q : Nat, q ≤ el ∧ j = .int .i64 (q : Int) ∧ Hid (Ph1j w wr base lo (some ⟨rg, 0, none⟩) rc K k q)) (fun j _ => el - (intOf j).toNat)
      case atStart => exact ⟨0, Nat.zero_le _, rfl, HP.out.inner⟩
      case round =>
        obtain ⟨q, hq, rfl, HQ⟩ := hrel
        clear HP
        obtain ⟨rg', hrg, hcr, -⟩ := HQ.out.row.at HEk.out
        cases hrg
        unfold entV at hcr
        simp only at hcr
        by_cases hl2 : q < el
        · have i2 : (q : Int) < (el : Int) := by omega
          obtain ⟨g, ha, ⟨z, hcl⟩, hfr⟩ := HQ.out.cell HEk.out hl2
          simp only at ha
          subst ha
          have HS : Hid (Ph1j w (wr.setCell ⟨g, q, none⟩ (.int .i64 (1000 * (k : Int) + (q : Int)))) base lo (some ⟨rg, 0, none⟩) rc K k (q + 1)) := HQ.out.set HEk.out hl2 rfl
          clear HQ
          go_wp2
          go_roundw
          case rel => exact ⟨q + 1, by omega, by go_num, HS⟩
          case measure => simp [intOf]; omega
        · have i2 : ¬ (q : Int) < (el : Int) := by omega
          obtain rfl : q = el := by omega
          have HS : Hid (Ph1 w wr base lo (some ⟨rg, 0, none⟩) rc K (k + 1)) := HQ.out.outer HEk.out
          clear HQ
          go_wp2
          go_roundw
          case rel => exact ⟨k + 1, by omega, by go_num, HS⟩
          case measure => simp [intOf]; omega
    · have i1 : ¬ (k : Int) < (rn : Int) := by omega
      obtain rfl : rn = k := by omega
      have HB : Hid (w.heap.size ≤ wr.heap.size) := HP.out.kept.size
      go_wp2_with (at_builtin; go_must (refine wp_rowC rfl _ _ rfl w.heap.size base rg rn rc K rfl rfl HN.out h1 (by omega) HP.out.row HB.out ?_; intro mg mc w4 HO4 HK4))
      have HG0 : Hid (Ph2 w w4 base lo (some ⟨rg, 0, none⟩) rc K mg mc K (fun _ => 0)) := HP.out.grow HN.out HO4.out HK4.out
      clear HP HO4 HK4 HB
      go_wp2
      go_loopw [6] (fun i wr => ∃ (k : Nat) (M : List Ent), k ≤ 32 ∧ i = .int .i64 (k : Int) ∧ Hid (Ph2 w wr base lo (some ⟨rg, 0, none⟩) rc K mg mc M (fun _ => k))) (fun i _ => 32 - (intOf i).toNat)
      case atStart => exact ⟨0, K, Nat.zero_le _, rfl, HG0⟩
      case round =>
        obtain ⟨k, M, hk, rfl, HP⟩ := hrel
        clear HG0 hlt i1
        by_cases hlt : k < 32
        · have i1 : (k : Int) < 32 := by omega
          go_wp2
          go_loopw [7] (fun i wr => ∃ (q : Nat) (M : List Ent), q ≤ rn ∧ i = .int .i64 (q : Int) ∧ Hid (Ph2 w wr base lo (some ⟨rg, 0, none⟩) rc K mg mc M (fun p => if p < q then k + 1 else k))) (fun i _ => rn - (intOf i).toNat)
          case atStart => exact ⟨0, M, Nat.zero_le _, rfl, HP.out.to (fun q hq => by simp)⟩
          case round =>
            clear HP
            obtain ⟨q, M, hq, rfl, HP⟩ := hrel
            by_cases hl2 : q < rn
            · have i2 : (q : Int) < (rn : Int) := by omega
              obtain ⟨⟨ea, el, ec⟩, he⟩ : ∃ e, K[q]? = some e := ⟨K[q]'(by rw [HN.out]; exact hl2), by rw [List.getElem?_eq_getElem]⟩
              obtain ⟨⟨fa, fl, fc⟩, hf⟩ : ∃ e, M[q]? = some e := ⟨M[q]'(by rw [HP.out.len, HN.out]; exact hl2), by rw [List.getElem?_eq_getElem]⟩
              have hel : (el : Int) ≤ 1000000 := by have := (HE.out.ok q _ he).2.2; simp only at this; omega
              have hnw := HP.out.news q _ _ he hf
              simp only [Nat.lt_irrefl, if_false] at hnw
              obtain ⟨rfl, ho, hwh⟩ := hnw
              have HO : Hid (OwI wr lo fa fc (marksOf q el ++ growsOf q k)) := ho
              obtain ⟨mg', hmg, hcm, hfm⟩ := HP.out.more.at hf
              cases hmg
              unfold entV at hcm
              simp only at hcm
              have HFk : Hid (M[q]? = some ⟨fa, el + k, fc⟩) := hf
              have HEk : Hid (K[q]? = some ⟨ea, el, ec⟩) := he
              have HWS : Hid (lo ≤ wr.heap.size + 1) := by have h1 := HLO.out.1; have h2 := (HP.out.kept).size; show _ ≤ _; omega
              have HT : Hid (¬ At fa mg) := fun hk => by
                obtain ⟨c1, h1⟩ := HO.out.typ hk
                obtain ⟨c2, h2⟩ := HP.out.more.typ ⟨_, rfl, rfl⟩
                exact typ_ne h1 h2 (by decide)
              clear he hf ho hwh
              have HK1 : Hid (∀ v, Kept No wr (wr.alloc (.cells #[v] 3))) := fun v => (Kept.refl No _).alloc _
              go_wp2_with
                (at_builtin
                 go_must (refine wp_one rfl _ _ rfl lo _ _ _ (marksOf q el ++ growsOf q k) rfl (gr_len2 q el k) (HO.out.no (HK1.out _)) wr.heap.size _ (mr q k) rfl (by simp [mr]) (by omega) (by have := HWS.out; simp; omega) (el + k + 1) rfl ?_)
                 intro a4 c4 w4 HO4 HC4
                 have HK4 : Hid (Kept (At fa) wr w4) := by
                   rcases HC4.out with ⟨_, _, h⟩ | ⟨_, h⟩
                   · exact ((HK1.out _).of_no).then h
                   · exact ((HK1.out _).of_no).then h.of_no
                 have hcm4 : w4.cell? ⟨mg, q, none⟩ = some (.slice fa (el + k) fc) := HK4.out.cell hcm HT.out
                 have hfm4 : w4.frozen? ⟨mg, q, none⟩ = false := by
                   obtain ⟨_, hmg4, _, h⟩ := (HP.out.more.kept HK4.out (fun k hk hf' => by obtain ⟨ad, e2, rfl⟩ := hk; cases e2; exact HT.out hf')).at HFk.out
                   cases hmg4
                   exact h)
              have HC5 : Hid ((a4 = fa ∧ c4 = fc ∧ Kept (At fa) wr w4) ∨ ((∀ k, At a4 k → wr.heap.size ≤ k) ∧ Kept No wr w4)) := by
                rcases HC4.out with ⟨h1, h2, h⟩ | ⟨h1, h⟩
                · exact .inl ⟨h1, h2, HK4.out⟩
                · exact .inr ⟨fun k hk => Nat.le_trans (HK1.out (.int .i64 0)).size (by have := h1 k hk; simpa using this), (HK1.out _).then h⟩
              have HS : Hid (Ph2 w (w4.setCell ⟨mg, q, none⟩ (.slice a4 (el + k + 1) c4)) base lo (some ⟨rg, 0, none⟩) rc K mg mc (M.set q ⟨a4, el + k + 1, c4⟩) (fun p => if p < q + 1 then k + 1 else k)) := by
                have h0 : (fun p => if p < q then k + 1 else k) q = k := by simp
                have h1 := HP.out.step HE.out HRA.out HEk.out HFk.out (a' := a4) (c' := c4) (w' := w4) (by simp only [Nat.lt_irrefl, if_false]; rw [growsOf_succ, ← List.append_assoc]; exact HO4.out) HC5.out
                simp only [Nat.lt_irrefl, if_false] at h1
                refine h1.to (fun p hp => ?_)
                by_cases e1 : p = q
                · subst e1; simp
                · by_cases e2 : p < q
                  · simp [e1, e2, show p < q + 1 by omega]
                  · simp [e1, e2, show ¬ p < q + 1 by omega]
              clear HC4 HC5 HO4 HK4 HP HO HT HK1 HWS
              go_wp2
              go_roundw
              case rel => exact ⟨q + 1, _, by omega, by go_num, HS⟩
              case measure => simp [intOf]; omega
            · have i2 : ¬ (q : Int) < (rn : Int) := by omega
              obtain rfl : q = rn := by omega
              have HS : Hid (Ph2 w wr base lo (some ⟨rg, 0, none⟩) rc K mg mc M (fun _ => k + 1)) := HP.out.to (fun p hp => by simp [show p < q by rw [← HN.out]; exact hp])
              clear HP
              go_wp2
              go_roundw
              case rel => exact ⟨k + 1, M, by omega, by go_num, HS⟩
              case measure => simp [intOf]; omega
        · have i1 : ¬ (k : Int) < 32 := by omega
          obtain rfl : k = 32 := by omega
          go_wp2
          go_loopw [8] (fun i wr => ∃ (k : Nat), k ≤ rn ∧ i = .int .i64 (k : Int) ∧ Hid (Ph2 w wr base lo (some ⟨rg, 0, none⟩) rc K mg mc M (fun _ => 32))) (fun i _ => rn - (intOf i).toNat)
          case atStart => exact ⟨0, Nat.zero_le _, rfl, HP⟩
          case round =>
            clear HP i1 hlt hk
            obtain ⟨k, hk, rfl, HP⟩ := hrel
            by_cases hlt : k < rn
            · have i1 : (k : Int) < (rn : Int) := by omega
              obtain ⟨⟨ea, el, ec⟩, he⟩ : ∃ e, K[k]? = some e := ⟨K[k]'(by rw [HN.out]; exact hlt), by rw [List.getElem?_eq_getElem]⟩
              obtain ⟨⟨fa, fl, fc⟩, hf⟩ : ∃ e, M[k]? = some e := ⟨M[k]'(by rw [HP.out.len, HN.out]; exact hlt), by rw [List.getElem?_eq_getElem]⟩
              obtain ⟨rg', hrg, hcr, -⟩ := HP.out.row.at he
              cases hrg
              unfold entV at hcr
              simp only at hcr
              have HEk : Hid (K[k]? = some ⟨ea, el, ec⟩) := he
              have hel : (el : Int) ≤ 1000000 := by have := (HE.out.ok k _ he).2.2; simp only at this; omega
              obtain rfl : fl = el + 32 := (HP.out.news k _ _ he hf).1
              have HFk : Hid (M[k]? = some ⟨fa, el + 32, fc⟩) := hf
              clear he hf
              go_wp2
              go_loopw [10] (fun j wr => ∃ q : Nat, q ≤ el + 32 ∧ j = .int .i64 (q : Int) ∧ Hid (Ph2 w wr base lo (some ⟨rg, 0, none⟩) rc K mg mc M (fun _ => 32))) (fun j _ => el + 32 - (intOf j).toNat)
              case atStart => exact ⟨0, Nat.zero_le _, rfl, HP⟩
              case round =>
                obtain ⟨q, hq, rfl, HQ⟩ := hrel
                clear HP hcr
                by_cases hl2 : q < el + 32
                · have i2 : (q : Int) < (el : Int) + 32 := by omega
                  obtain ⟨rg', hrg, hcr, -⟩ := HQ.out.row.at HEk.out
                  cases hrg
                  obtain ⟨mg', hmg, hcm, -⟩ := HQ.out.more.at HFk.out
                  cases hmg
                  unfold entV at hcr hcm
                  simp only at hcr hcm
                  have ho := HQ.out.olds k _ HEk.out
                  have hw := (HQ.out.news k _ _ HEk.out HFk.out).2.1
                  simp only at ho hw
                  obtain ⟨g2, rfl⟩ := hw.sm (by rw [gr_len2]; omega)
                  have hcl2 := (hw.row2 q (by rw [gr_len2]; omega)).1
                  by_cases hl3 : q < el
                  · have i3 : (q : Int) < (el : Int) := by omega
                    obtain ⟨g, rfl⟩ := ho.sm (by rw [marksOf_len]; omega)
                    have hcl := (ho.row2 q (by rw [marksOf_len]; omega)).1
                    rw [marksOf_at hl3] at hcl
                    rw [List.getElem?_append_left (by rw [marksOf_len]; exact hl3), marksOf_at hl3] at hcl2
                    unfold mm at hcl hcl2
                    clear ho hw
                    go_wp2
                    go_roundw
                    case rel => exact ⟨q + 1, by omega, by go_num, HQ⟩
                    case measure => simp [intOf]; omega
                  · have i3 : ¬ (q : Int) < (el : Int) := by omega
                    obtain ⟨p, rfl⟩ : ∃ p, q = el + p := ⟨q - el, by omega⟩
                    rw [List.getElem?_append_right (by rw [marksOf_len]; omega), marksOf_len, Nat.add_sub_cancel_left, growsOf_at (by omega)] at hcl2
                    unfold mr at hcl2
                    have i4 : (el : Int) ≤ (el : Int) + (p : Int) := by omega
                    clear ho hw
                    go_wp2
                    go_roundw
                    case rel => exact ⟨el + p + 1, by omega, by go_num, HQ⟩
                    case measure => simp [intOf]; omega
                · have i2 : ¬ (q : Int) < (el : Int) + 32 := by omega
                  go_wp2
                  go_roundw
                  case rel => exact ⟨k + 1, by omega, by go_num, HQ⟩
                  case measure => simp [intOf]; omega
            · have i1 : ¬ (k : Int) < (rn : Int) := by omega
              go_wp2
              go_ret
              exact ⟨rfl, HP.out.kept⟩

end Go.Proofs.Ytpapbleabjpbfab
