import Derived.Test.YtgiokkcdgoloaaaUc
namespace Go.Proofs.Ytgiokkcdgoloaaa.Md
open Go.RowKit
set_option linter.unusedVariables false
set_option linter.unusedSimpArgs false

/-- A machine that is made. -/
def NewM (w : World) (s : RM) (e : Ending) (w' : World) : Prop := ∃ m I, e = .returned (.iface 115 (.pointer (some ⟨m, 0, none⟩))) ∧ Mch w' I m s ∧ (∀ k, I k → w.heap.size ≤ k ∧ k < w'.heap.size) ∧ Kept No w w'
theorem write_M (cl op : Int) (ky : Ky) (a0 : Option Addr) (n0 c0 : Nat) (rd : Int) (da : Option Addr) (dn dc : Nat) (gs zs : List Int) (w : World) (hg : Nums .i64 w a0 gs) (hz : gs.length = n0) (hn : n0 ≤ 100) (hd : Bytes w da zs) (hdl : zs.length = dn) (hdn : dn ≤ 140737488351232) :
    Calls Try.prog 23 #[.int .i64 cl, .int .i64 op, .agg (Ky.cells ky), .slice a0 n0 c0, .int .i64 rd, .slice da dn dc] w (NewM w ⟨cl, op, ky, uq gs, rd, .wr zs, .fresh⟩) := by
  refine (write_any cl op ky.k ky.a ky.b ky.c rd a0 n0 c0 gs da dn dc zs w hz (by omega) hg hdl (by omega) hd).mono ?_
  rintro e w' ⟨m, a, cap, da', dc', rfl, hM, hO, hB, _, hk⟩
  have hlen : (uq gs).length ≤ 1000 := by have := uq_len gs; omega
  have hs := hk.size
  refine ⟨m, fun k => w.heap.size ≤ k ∧ k < w'.heap.size, rfl, ⟨⟨a, cap, 138, _, hM, ⟨hB m (.inl rfl), hM.box.lt⟩, fun k e => ⟨hB k (.inr e), Own.lt hM.row e⟩, rfl, 118, _, rfl, rfl, by show zs.length ≤ _; omega, da', dc', rfl, Own.lower hO (Nat.zero_le _), fun k e => ⟨Own.base hO e, Own.lt hO e⟩⟩, hlen⟩, fun k e => e, hk⟩
theorem read_M (cl op : Int) (ky : Ky) (a0 : Option Addr) (n0 c0 : Nat) (rd sz : Int) (gs : List Int) (w : World) (hg : Nums .i64 w a0 gs) (hz : gs.length = n0) (hn : n0 ≤ 100) :
    Calls Try.prog 24 #[.int .i64 cl, .int .i64 op, .agg (Ky.cells ky), .slice a0 n0 c0, .int .i64 rd, .int .i64 sz] w (NewM w ⟨cl, op, ky, uq gs, rd, .rd (szR sz).toNat, .fresh⟩) := by
  refine (readX cl op ky.k ky.a ky.b ky.c rd sz a0 n0 c0 gs w hz (by omega) hg).mono ?_
  rintro e w' ⟨m, a, cap, rfl, hM, hB, hk⟩
  have hlen : (uq gs).length ≤ 1000 := by have := uq_len gs; omega
  have h0 := szR_lo sz
  have h1 := szR_hi sz
  refine ⟨m, fun k => w.heap.size ≤ k ∧ k < w'.heap.size, rfl, ⟨⟨a, cap, 138, _, hM, ⟨hB m (.inl rfl), hM.box.lt⟩, fun k e => ⟨hB k (.inr e), Own.lt hM.row e⟩, rfl, 120, _, rfl, rfl, by show (szR sz).toNat ≤ 4096; omega, ?_⟩, hlen⟩, fun k e => e, hk⟩
  rw [szB_R, Int.toNat_of_nonneg h0]
def newS (wr : Bool) (cl op : Int) (ky : Ky) (gs : List Int) (rd sz : Int) (zs : List Int) : RM := ⟨cl, op, ky, uq gs, rd, if wr then .wr zs else .rd (szR sz).toNat, .fresh⟩
theorem new_rel {B : Sl → List Int → Prop} (wr : Bool) (cl op : Int) (ky : Ky) (gs : List Int) (rd sz : Int) (bl : Sl) (zs : List Int) (hb : B bl zs) : Rel B (newS wr cl op ky gs rd sz zs) (newR wr cl op ky gs rd sz bl) := by
  have h0 := szR_lo sz
  have h1 := szR_hi sz
  cases wr with
  | true => exact ⟨rfl, rfl, rfl, rfl, rfl, rfl, uq_nodup gs, trivial, h0, h1, rfl, hb⟩
  | false => exact ⟨rfl, rfl, rfl, rfl, rfl, rfl, uq_nodup gs, (Int.toNat_of_nonneg h0).symm, h0, h1, rfl, trivial⟩
theorem OwI.set {W : World} {base g n gk : Nat} {L : List Int} (h : OwI W base ⟨some ⟨g, 0, none⟩, n, gk⟩ L) {i : Nat} (hi : i < n) (v : Int) :
    ∃ cs', (storeVar 3 ⟨g, 0 + i * 1, none⟩ (.int .i64 v)).run Try.prog W = .ok () (W.setRow g cs') ∧ OwI (W.setRow g cs') base ⟨some ⟨g, 0, none⟩, n, gk⟩ (L.set i v) := by
  have e : ∀ l : List Int, (l.map (fun z => [Value.int .i64 z])).flatten = l.map (Value.int .i64) := fun l => by induction l with
    | nil => rfl
    | cons a l ih => simp only [List.map_cons, List.flatten_cons, ih]; rfl
  obtain ⟨cs', h1, h2⟩ := Own.setN (T := 3) (ty := 3) (c := 1) (xs := L.map (fun z => [Value.int .i64 z])) (by rw [e]; exact h.own) (by simp) (by rw [List.length_map]; exact h.len) hi rfl (v := .int .i64 v) (y := [.int .i64 v]) rfl S3 (by simp [Value.oneCell']) rfl
  refine ⟨cs', h1, ?_, by rw [List.length_set]; exact h.len⟩
  rw [← e, List.map_set]
  exact h2
theorem Fq.new {S : Nat → Prop} {w W W' : World} {l : List (Nat × TypeId × Array Value)} (h : Fq No w W l) (hk : Kept S W W') (hS : ∀ k, S k → w.heap.size ≤ k) (hl : ∀ x ∈ l, ¬ S x.1) : Fq No w W' l :=
  ⟨h.kept.trans hk (fun _ e => e) (fun k l e => by have := hS k e; omega), fun i g T cs hi => (h.box i g T cs hi).kept hk (hl _ (List.mem_of_getElem? hi)), h.low, h.inj⟩
theorem mad_fin {w W : World} {N : Nat} {I H : Nat → Prop} {m r : Nat} {g : Sl} {s : RM} {x : Rx} (hk : Kept No w W) (hm : Mch W I m s) (hI : ∀ k, I k → w.heap.size ≤ k ∧ k < N) (hN : N ≤ W.heap.size) (hr : RfG W r x g slZ slZ) (hr0 : N ≤ r) (hg0 : ∀ k, At g.a k → N ≤ k) (hwN : w.heap.size ≤ N) (hx : x.ph = 0) :
    Wq w W I m r g none s x ∧ ∀ l z, RdB w l z → l.l ≤ 140737488351232 → (z ≠ [] → ∀ k, At l.a k → k < w.heap.size ∧ H k) → Bw H W I (Jx r g none) l z := by
  have hj : ∀ k, Jx r g none k → N ≤ k := fun k e => by
    rcases e with rfl | e | ⟨p, e, _⟩
    · exact hr0
    · exact hg0 k e
    · cases e
  have hs := hk.size
  refine ⟨⟨hm, hr, fun k e => ⟨(hI k e).1, by have := (hI k e).2; omega, fun f => by have := (hI k e).2; have := hj k f; omega⟩, fun k e => by have := hj k e; omega, hk.of_no, fun e => by omega⟩, fun l z h1 h2 h3 => ⟨h1.no hk, h2, fun hne k e => ⟨by have := (h3 hne k e).1; omega, fun f => by have := (h3 hne k e).1; have := (hI k f).1; omega, fun f => by have := (h3 hne k e).1; have := hj k f; omega, (h3 hne k e).2⟩⟩⟩

end Go.Proofs.Ytgiokkcdgoloaaa.Md
