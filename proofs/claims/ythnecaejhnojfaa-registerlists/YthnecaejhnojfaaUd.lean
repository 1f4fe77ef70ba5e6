import Derived.Test.YthnecaejhnojfaaUb
namespace Go.Proofs.Ythnecaejhnojfaa.Md
open Go.RowKit
set_option linter.unusedVariables false
set_option linter.unusedSimpArgs false

structure MgOk (w0 w : World) (d : Mg) (zs : List Int) (es : List En) (ls : List La) (cs : List Cm) : Prop where
  inn : MgIn w d zs es ls cs
  off : zs ≠ [] → ∀ k, At d.bl.a k → k < w0.heap.size
  offE : es ≠ [] → ∀ k, At d.bk.e.a k → k < w0.heap.size
  offL : ls ≠ [] → ∀ k, At d.bk.l.a k → k < w0.heap.size
  offC : cs ≠ [] → ∀ k, At d.cm.a k → k < w0.heap.size
  h63 : -9223372036854775808 ≤ d.st.n
section
variable {w0 w w' : World} {d d' : Mg} {zs : List Int} {es : List En} {ls : List La} {cs : List Cm} {S : Nat → Prop} {base gb : Nat} {E L C : Sl}
theorem MgOk.near (h : MgOk w0 w d zs es ls cs) (hN : NearM d d') : MgOk w0 w d' zs es ls cs := by
  obtain ⟨fr, too, op, rd, ky, rfl⟩ := hN
  exact ⟨⟨h.inn.b, h.inn.e, h.inn.l, h.inn.c, h.inn.nb, h.inn.ne, h.inn.nl, h.inn.nc⟩, h.off, h.offE, h.offL, h.offC, h.h63⟩
theorem MgOk.kept (h : MgOk w0 w d zs es ls cs) (hk : Kept S w w') (hS : ∀ k, k < w0.heap.size → ¬ S k) : MgOk w0 w' d zs es ls cs :=
  ⟨⟨h.inn.b.kept0 hk (fun hne k e => hS k (h.off hne k e)), ⟨RowsAt.kept0 h.inn.e.row hk (fun hne k e => hS k (h.offE (by rintro rfl; simp at hne) k e)), h.inn.e.len, h.inn.e.cap⟩, ⟨RowsAt.kept0 h.inn.l.row hk (fun hne k e => hS k (h.offL (by rintro rfl; simp at hne) k e)), h.inn.l.len, h.inn.l.cap⟩, ⟨RowsAt.kept0 h.inn.c.row hk (fun hne k e => hS k (h.offC (by rintro rfl; simp at hne) k e)), h.inn.c.len, h.inn.c.cap⟩, h.inn.nb, h.inn.ne, h.inn.nl, h.inn.nc⟩, h.off, h.offE, h.offL, h.offC, h.h63⟩
theorem MgOk.no (h : MgOk w0 w d zs es ls cs) (hk : Kept No w w') : MgOk w0 w' d zs es ls cs := h.kept hk (fun _ _ e => e)
theorem Len.off (h : Len w base d zs es ls cs gb E L C) (hk : Kept S w w') (hS : ∀ k, LB gb E L C k → ¬ S k) : Len w' base d zs es ls cs gb E L C :=
  ⟨(hk.block gb (Array.getElem?_eq_some_iff.1 h.b).1 (hS gb (.inl rfl))).trans h.b, h.bb, h.e.kept hk (fun k e => hS k (.inr (.inl e))), h.l.kept hk (fun k e => hS k (.inr (.inr (.inl e)))), ⟨h.c.own.kept hk (fun k e => hS k (.inr (.inr (.inr e)))), h.c.len⟩⟩
theorem Len.lb (h : Len w base d zs es ls cs gb E L C) : ∀ k, LB gb E L C k → base ≤ k ∧ k < w.heap.size := by
  intro k e
  rcases e with rfl | e | e | e
  · exact ⟨h.bb, (Array.getElem?_eq_some_iff.1 h.b).1⟩
  · exact ⟨h.e.own.base e, h.e.own.lt e⟩
  · exact ⟨h.l.own.base e, h.l.own.lt e⟩
  · exact ⟨h.c.own.base e, h.c.own.lt e⟩
theorem lent_rd (h : Blk w gb (lent zs 5)) {n : Nat} (hn : zs.length = n) : RdB w ⟨some ⟨gb, 0, none⟩, n, n + 5⟩ zs :=
  ⟨by have := h.bytes0 zs.length; rw [lent_take] at this; exact this, hn, fun e => by cases e⟩
end
def RelW (H : Nat → Prop) (w : World) (I J : Nat → Prop) (s : RM) (x : Rx) : Prop := Rel (Bw H w I J) s x
theorem RelW.no {w w' : World} {I J H : Nat → Prop} {s : RM} {x : Rx} (h : RelW H w I J s x) (hk : Kept No w w') : RelW H w' I J s x :=
  Rel.mono h (fun l z hb => hb.to hk (fun k _ l2 l3 => ⟨fun f => f, l2, l3⟩))
theorem RelW.wide {w : World} {I J H H' : Nat → Prop} {s : RM} {x : Rx} (h : RelW H w I J s x) (hH : ∀ k, k < w.heap.size → H k → H' k) : RelW H' w I J s x :=
  Rel.mono h (fun l z hb => ⟨hb.1, hb.2.1, fun hne k e => by have q := hb.2.2 hne k e; exact ⟨q.1, q.2.1, q.2.2.1, hH k q.1 q.2.2.2⟩⟩)
theorem RelW.off {w w' : World} {I J H S : Nat → Prop} {s : RM} {x : Rx} (h : RelW H w I J s x) (hk : Kept S w w') (hS : ∀ k, H k → ¬ S k) : RelW H w' I J s x :=
  Rel.mono h (fun l z hb => ⟨hb.1.kept0 hk (fun hne k e => hS k (hb.2.2 hne k e).2.2.2), hb.2.1, fun hne k e => by have q := hb.2.2 hne k e; have := hk.size; exact ⟨by omega, q.2.1, q.2.2.1, q.2.2.2⟩⟩)
theorem Bw.long {w w1 w2 w3 : World} {I I' J L H : Nat → Prop} {l : Sl} {z : List Int} (h : Bw H w I J l z) (hk1 : Kept No w w1) (hk2 : Kept I w1 w2) (hk3 : Kept L w2 w3) (hL : ∀ k, L k → w.heap.size ≤ k) (hI : ∀ k, I' k → I k ∨ w.heap.size ≤ k) : Bw H w3 I' J l z := by
  have s1 := hk1.size
  have s2 := hk2.size
  have s3 := hk3.size
  refine ⟨((h.1.no hk1).kept0 hk2 (fun hne k e => (h.2.2 hne k e).2.1)).kept0 hk3 (fun hne k e f => by have := (h.2.2 hne k e).1; have := hL k f; omega), h.2.1, fun hne k e => ⟨by have := (h.2.2 hne k e).1; omega, fun f => ?_, (h.2.2 hne k e).2.2⟩⟩
  rcases hI k f with f | f
  · exact (h.2.2 hne k e).2.1 f
  · have := (h.2.2 hne k e).1; omega
theorem Fq.lt {S : Nat → Prop} {w W : World} {l : List (Nat × TypeId × Array Value)} (h : Fq S w W l) : ∀ x ∈ l, x.1 < W.heap.size := fun x hx => by
  obtain ⟨i, hi⟩ := List.mem_iff_getElem?.1 hx
  exact (h.box i x.1 x.2.1 x.2.2 hi).lt
theorem prog_step {w0 w W W2 : World} {I H : Nat → Prop} {m r : Nat} {g : Sl} {LV : Option (Nat × Nat)} {s : RM} {x : Rx} {o : RM × To} {e : Ending} (h : Wq w0 w I m r g LV s x) (hr : Rel (Bw H w I (Jx r g LV)) s x) (hkW : Kept No w W) (ho : MOut W I m o e W2) :
    ∃ la n lc I', e = .returned (.slice la n lc) ∧ TlM W2 W.heap.size la n lc o ∧ Wq w0 W2 I' m r g LV o.1 x ∧ (∀ (L : Nat → Prop) (W3 : World), Kept L W2 W3 → (∀ k, L k → w.heap.size ≤ k) → Rel (Bw H W3 I' (Jx r g LV)) s x) ∧ Kept I W W2 ∧ (∀ k, I' k → I k ∨ W.heap.size ≤ k) := by
  obtain ⟨la, n, lc, I', he, hT, hW, hB, hk, hI⟩ := (h.no hkW).prog (H := H) ho
  have hs := hkW.size
  exact ⟨la, n, lc, I', he, hT, hW, fun L W3 h3 hL => hr.mono (fun l z hb => hb.long hkW hk h3 hL (fun k e => (hI k e).imp id (fun f => by omega))), hk, hI⟩
end Go.Proofs.Ythnecaejhnojfaa.Md
namespace Go.Proofs.Ythnecaejhnojfaa.Md
open Go.RowKit
set_option linter.unusedVariables false
set_option linter.unusedSimpArgs false

/-- A machine that is made. -/
def NewM (w : World) (s : RM) (e : Ending) (w' : World) : Prop := ∃ m I, e = .returned (.iface 84 (.pointer (some ⟨m, 0, none⟩))) ∧ Mch w' I m s ∧ (∀ k, I k → w.heap.size ≤ k ∧ k < w'.heap.size) ∧ Kept No w w'
theorem write_M (cl op : Int) (ky : Ky) (a0 : Option Addr) (n0 c0 : Nat) (rd : Int) (da : Option Addr) (dn dc : Nat) (gs zs : List Int) (w : World) (hg : Nums .i64 w a0 gs) (hz : gs.length = n0) (hn : n0 ≤ 100) (hd : Bytes w da zs) (hdl : zs.length = dn) (hdn : dn ≤ 140737488351232) :
    Calls Try.prog 15 #[.int .i64 cl, .int .i64 op, .agg (Ky.cells ky), .slice a0 n0 c0, .int .i64 rd, .slice da dn dc] w (NewM w ⟨cl, op, ky, uq gs, rd, .wr zs, .fresh⟩) := by
  refine (write_any cl op ky.k ky.a ky.b ky.c rd a0 n0 c0 gs da dn dc zs w hz (by omega) hg hdl (by omega) hd).mono ?_
  rintro e w' ⟨m, a, cap, da', dc', rfl, hM, hO, hB, _, hk⟩
  have hlen : (uq gs).length ≤ 1000 := by have := uq_len gs; omega
  have hs := hk.size
  refine ⟨m, fun k => w.heap.size ≤ k ∧ k < w'.heap.size, rfl, ⟨⟨a, cap, 105, _, hM, ⟨hB m (.inl rfl), hM.box.lt⟩, fun k e => ⟨hB k (.inr e), Own.lt hM.row e⟩, rfl, 87, _, rfl, rfl, by show zs.length ≤ _; omega, da', dc', rfl, Own.lower hO (Nat.zero_le _), fun k e => ⟨Own.base hO e, Own.lt hO e⟩⟩, hlen⟩, fun k e => e, hk⟩
theorem read_M (cl op : Int) (ky : Ky) (a0 : Option Addr) (n0 c0 : Nat) (rd sz : Int) (gs : List Int) (w : World) (hg : Nums .i64 w a0 gs) (hz : gs.length = n0) (hn : n0 ≤ 100) :
    Calls Try.prog 17 #[.int .i64 cl, .int .i64 op, .agg (Ky.cells ky), .slice a0 n0 c0, .int .i64 rd, .int .i64 sz] w (NewM w ⟨cl, op, ky, uq gs, rd, .rd (szR sz).toNat, .fresh⟩) := by
  refine (readX cl op ky.k ky.a ky.b ky.c rd sz a0 n0 c0 gs w hz (by omega) hg).mono ?_
  rintro e w' ⟨m, a, cap, rfl, hM, hB, hk⟩
  have hlen : (uq gs).length ≤ 1000 := by have := uq_len gs; omega
  have h0 := szR_lo sz
  have h1 := szR_hi sz
  refine ⟨m, fun k => w.heap.size ≤ k ∧ k < w'.heap.size, rfl, ⟨⟨a, cap, 105, _, hM, ⟨hB m (.inl rfl), hM.box.lt⟩, fun k e => ⟨hB k (.inr e), Own.lt hM.row e⟩, rfl, 89, _, rfl, rfl, by show (szR sz).toNat ≤ 4096; omega, ?_⟩, hlen⟩, fun k e => e, hk⟩
  rw [szB_R, Int.toNat_of_nonneg h0]
def newS (wr : Bool) (cl op : Int) (ky : Ky) (gs : List Int) (rd sz : Int) (zs : List Int) : RM := ⟨cl, op, ky, uq gs, rd, if wr then .wr zs else .rd (szR sz).toNat, .fresh⟩
theorem new_rel {B : Sl → List Int → Prop} (wr : Bool) (cl op : Int) (ky : Ky) (gs : List Int) (rd sz : Int) (bl : Sl) (zs : List Int) (hb : B bl zs) : Rel B (newS wr cl op ky gs rd sz zs) (newR wr cl op ky gs rd sz bl) := by
  have h0 := szR_lo sz
  have h1 := szR_hi sz
  cases wr with
  | true => exact ⟨rfl, rfl, rfl, rfl, rfl, rfl, uq_nodup gs, trivial, h0, h1, rfl, hb⟩
  | false => exact ⟨rfl, rfl, rfl, rfl, rfl, rfl, uq_nodup gs, (Int.toNat_of_nonneg h0).symm, h0, h1, rfl, trivial⟩
theorem OwI.set {W : World} {base g n gk : Nat} {L : List Int} (h : OwI W base ⟨some ⟨g, 0, none⟩, n, gk⟩ L) {i : Nat} (hi : i < n) (v : Int) :
    ∃ cs', (storeVar 3 ⟨g, 0 + i * 1, none⟩ (.int .i64 v)).run Try.prog W = .ok () (W.setRow g cs') ∧ OwI (W.setRow g cs') base ⟨some ⟨g, 0, none⟩, n, gk⟩ (L.set i v) := by
  have e : ∀ l : List Int, (l.map (fun z => [Value.int .i64 z])).flatten = l.map (Value.int .i64) := fun l => by induction l with
    | nil => rfl
    | cons a l ih => simp only [List.map_cons, List.flatten_cons, ih]; rfl
  obtain ⟨cs', h1, h2⟩ := Own.setN (T := 3) (ty := 3) (c := 1) (xs := L.map (fun z => [Value.int .i64 z])) (by rw [e]; exact h.own) (by simp) (by rw [List.length_map]; exact h.len) hi rfl (v := .int .i64 v) (y := [.int .i64 v]) rfl S3 (by simp [Value.oneCell']) rfl
  refine ⟨cs', h1, ?_, by rw [List.length_set]; exact h.len⟩
  rw [← e, List.map_set]
  exact h2
theorem Fq.new {S : Nat → Prop} {w W W' : World} {l : List (Nat × TypeId × Array Value)} (h : Fq No w W l) (hk : Kept S W W') (hS : ∀ k, S k → w.heap.size ≤ k) (hl : ∀ x ∈ l, ¬ S x.1) : Fq No w W' l :=
  ⟨h.kept.trans hk (fun _ e => e) (fun k l e => by have := hS k e; omega), fun i g T cs hi => (h.box i g T cs hi).kept hk (hl _ (List.mem_of_getElem? hi)), h.low, h.inj⟩
theorem mad_fin {w W : World} {N : Nat} {I H : Nat → Prop} {m r : Nat} {g : Sl} {s : RM} {x : Rx} (hk : Kept No w W) (hm : Mch W I m s) (hI : ∀ k, I k → w.heap.size ≤ k ∧ k < N) (hN : N ≤ W.heap.size) (hr : RfG W r x g slZ slZ) (hr0 : N ≤ r) (hg0 : ∀ k, At g.a k → N ≤ k) (hwN : w.heap.size ≤ N) (hx : x.ph = 0) :
    Wq w W I m r g none s x ∧ ∀ l z, RdB w l z → l.l ≤ 140737488351232 → (z ≠ [] → ∀ k, At l.a k → k < w.heap.size ∧ H k) → Bw H W I (Jx r g none) l z := by
  have hj : ∀ k, Jx r g none k → N ≤ k := fun k e => by
    rcases e with rfl | e | ⟨p, e, _⟩
    · exact hr0
    · exact hg0 k e
    · cases e
  have hs := hk.size
  refine ⟨⟨hm, hr, fun k e => ⟨(hI k e).1, by have := (hI k e).2; omega, fun f => by have := (hI k e).2; have := hj k f; omega⟩, fun k e => by have := hj k e; omega, hk.of_no, fun e => by omega⟩, fun l z h1 h2 h3 => ⟨h1.no hk, h2, fun hne k e => ⟨by have := (h3 hne k e).1; omega, fun f => by have := (h3 hne k e).1; have := (hI k f).1; omega, fun f => by have := (h3 hne k e).1; have := hj k f; omega, (h3 hne k e).2⟩⟩⟩

end Go.Proofs.Ythnecaejhnojfaa.Md
