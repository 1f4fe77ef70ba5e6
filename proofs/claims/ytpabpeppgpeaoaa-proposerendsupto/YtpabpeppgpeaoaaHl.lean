import Derived.Test.YtpabpeppgpeaoaaHj
namespace Go.Proofs.Ytpabpeppgpeaoaa.Md
open Go.RowKit Gx
set_option linter.unusedVariables false
set_option linter.unusedSimpArgs false

theorem pow_small {k : Nat} (hk : k < 62) : 2 ^ k < 4611686018427387904 := by
  have : 2 ^ k < 2 ^ 62 := Nat.pow_lt_pow_right (by decide) hk
  exact this
theorem b_shl (k : Nat) (hk : k < 62) (w : World) : (binOp .shl 3 (.int .i64 1) (.int .i64 (k : Int))).run Try.prog w = .ok (.int .i64 ((2 ^ k : Nat) : Int)) w := by
  rw [binOp_shl]
  unfold Op.shift
  rw [if_neg (by omega)]
  show Result.ok (Value.int .i64 (IntKind.i64.wrap (1 * 2 ^ (min (k : Int).toNat 64)))) w = _
  have e : (1 : Int) * 2 ^ (min (k : Int).toNat 64) = ((2 ^ k : Nat) : Int) := by
    rw [Int.toNat_natCast, Nat.min_eq_left (by omega), Int.one_mul]
    norm_cast
  have h2 := pow_small hk
  rw [e]
  generalize 2 ^ k = p at h2 ⊢
  rw [show IntKind.i64.wrap (p : Int) = (p : Int) by rw [IntKind.wrap_i64]; omega]
theorem wraps_i64 (n : Int) (h₀ : 0 ≤ n) (h₁ : n < 2 ^ 62) : IntKind.i64.wrap n = n := by rw [IntKind.wrap_i64]; omega
theorem b_andN (a b : Nat) (ha : a < 4611686018427387904) (hb : b < 4611686018427387904) (w : World) : (binOp .and 3 (.int .i64 (a : Int)) (.int .i64 (b : Int))).run Try.prog w = .ok (.int .i64 ((a &&& b : Nat) : Int)) w := by
  rw [binOp_and]
  have := (bits_nat .i64 62 (by decide) wraps_i64 a b ha hb).1
  rw [← this]
  rfl
theorem b_orN (a b : Nat) (ha : a < 4611686018427387904) (hb : b < 4611686018427387904) (w : World) : (binOp .or 3 (.int .i64 (a : Int)) (.int .i64 (b : Int))).run Try.prog w = .ok (.int .i64 ((a ||| b : Nat) : Int)) w := by
  rw [show binOp .or 3 (.int .i64 (a : Int)) (.int .i64 (b : Int)) = Op.intBits .or .i64 a b by simp [binOp]]
  have := (bits_nat .i64 62 (by decide) wraps_i64 a b ha hb).2
  rw [← this]
  rfl
theorem from_eq (m : Ms) (j : Nat) : eqA (dM m).fr ⟨true, ((j + 1 : Nat) : Int)⟩ = Pax.fromJ j m := by
  show (m.fc == true && m.fi == ((j + 1 : Nat) : Int)) = (m.fc && decide (m.fi = (j : Int) + 1))
  rw [show ((j + 1 : Nat) : Int) = (j : Int) + 1 by omega]
  cases m.fc <;> simp
  by_cases e : m.fi = (j : Int) + 1 <;> simp [e]
section
variable {w W W2 : World} {J0 J J2 S : Nat → Prop} {hb : Nat} {v v2 : Hv} {pp pp2 : List Nat} {h h2 : Pax.Hl} {l l2 : List (Nat × TypeId × Array Value)} {T T' : List (Sl × List Mg)}
/-- A list of one's own grows. -/
theorem Hg.growT {t : Sl} {ms : List Mg} (H : Hg w W J0 J hb v pp h l ((t, ms) :: T)) (hb0 : ∀ k, At t.a k → w.heap.size ≤ k) {xa : Option Addr} {n cc : Nat} {news : List Mg} (hl : news.length = n) (hx0 : xa = none → cc = 0) (hnews : ∀ j u, (mgL news)[j]? = some u → ∃ ad, xa = some ad ∧ W.cell? (ad.add j) = some u) (hn : t.l + n ≤ 4000000) :
    ∃ a' k' W2, (Builtin.append_ #[66, 66] 66 #[t.v, .slice xa n cc]).run Try.prog W = .ok (.slice a' (t.l + n) k') W2 ∧ (∀ k, At a' k → w.heap.size ≤ k) ∧ Hg w W2 J0 J hb v pp h l [(⟨a', t.l + n, k'⟩, ms ++ news)] := by
  have ho := H.tl 0 _ rfl
  obtain ⟨a', k', W2, hrun, hO, hk, hat⟩ := run_appN (w := W) 66 66 47 30 312 (.agg mgZ.cells) U66 I47 rfl (by omega) 0 t.l t.k t.a (mgL ms) ho.own xa n cc (mgL news) (by rw [mgL_len, hl]) hx0 hnews (mgL_one _) (by omega) (by omega) (Nat.zero_le _)
  have hsz := H.fr.kept.size
  refine ⟨a', k', W2, hrun, fun k e => (hat k e).elim (hb0 k) (fun e => by omega), ⟨H.hal.kept hk (fun k e f => H.tj 0 _ k rfl f e), ⟨H.fr.kept.trans hk (fun _ e => e) (fun k hk' e => absurd (hb0 k e) (by omega)), fun i g ty cs hi => (H.fr.box i g ty cs hi).kept hk (H.tb 0 i _ g ty cs rfl hi), H.fr.low, H.fr.inj⟩, H.ja, H.li, H.lo, fun i x hx => ?_, fun i x k hx e => ?_, fun i j x g ty cs hx hj e => ?_⟩⟩
  · have hx' := List.mem_of_getElem? hx
    rw [List.mem_singleton] at hx'
    subst hx'
    exact ⟨by rw [mgL_app]; exact hO, by rw [List.length_append, ho.len, hl]⟩
  · have hx' := List.mem_of_getElem? hx
    rw [List.mem_singleton] at hx'
    subst hx'
    rcases hat k e with e | e
    · exact H.tj 0 _ k rfl e
    · intro f; have := H.hal.jl k f; omega
  · have hx' := List.mem_of_getElem? hx
    rw [List.mem_singleton] at hx'
    subst hx'
    rcases hat g e with e | e
    · exact H.tb 0 j _ g ty cs rfl hj e
    · have := (H.fr.box j g ty cs hj).lt; omega
theorem rd_src {W : World} {s : Sl} {ms : List Mg} (h : OwM W 0 s ms) : (s.a = none → s.k = 0) ∧ ∀ j u, (mgL ms)[j]? = some u → ∃ ad, s.a = some ad ∧ W.cell? (ad.add j) = some u := by
  refine ⟨fun e => h.own.cap0 e, fun j u hj => ?_⟩
  have h0 : 0 < s.l := by
    have := (List.getElem?_eq_some_iff.1 hj).1
    rw [mgL_len, h.len] at this
    omega
  obtain ⟨g, ea⟩ := Own.sm h.own h0
  exact ⟨⟨g, 0, none⟩, ea, World.ownsRow.cells (by have := h.own; rw [ea] at this; exact this) (by rfl) j u hj⟩
/-- What is under way is taken away from the hall, as a list of one's own. -/
theorem Hg.takeY (H : Hg w W J0 J hb v pp h l T) : ∃ J2, Hg w (W.setRow hb (Hv.cells ⟨v.ky, v.g, v.i, v.p, slZ, v.d, v.a, v.b⟩)) J0 J2 hb ⟨v.ky, v.g, v.i, v.p, slZ, v.d, v.a, v.b⟩ pp { h with way := [] } l (T ++ [(v.y, h.way.map dM)]) := by
  obtain ⟨I, A⟩ := H.hal
  have hk2 : Kept (Only hb) W (W.setRow hb (Hv.cells ⟨v.ky, v.g, v.i, v.p, slZ, v.d, v.a, v.b⟩)) := Kept.setRow W hb _
  have off : ∀ {k : Nat} {t : TypeId}, (∃ cs, Box W k t cs) → t ≠ 68 → ¬ Only hb k := fun ht h2 e => by
    have e : _ = hb := e
    subst e
    exact no_ty ht ⟨_, A.box⟩ h2
  have yo : ∀ {k : Nat} {t : TypeId}, (∃ cs, Box W k t cs) → t ≠ 47 → ¬ At v.y.a k := fun ht h2 e => no_ty ht (A.tyY e) h2
  have hI : ∀ j k, I j k → ¬ Only hb k := fun j k e f => A.ri j k e (.inl f)
  have hal : Hal (W.setRow hb (Hv.cells ⟨v.ky, v.g, v.i, v.p, slZ, v.d, v.a, v.b⟩)) (fun k => J k ∧ ¬ At v.y.a k) hb ⟨v.ky, v.g, v.i, v.p, slZ, v.d, v.a, v.b⟩ pp { h with way := [] } := by
    refine ⟨I, Box.setRow A.box _, A.gr.kept hk2 (fun k e => off (A.tyG e) (by decide)), A.ins.kept hk2 (fun k e => off (A.tyI e) (by decide)), A.prs.kept hk2 (fun k e => off (A.tyP e) (by decide)), OwM.nil _ _, A.dec.kept hk2 (fun k e => off (A.tyD e) (by decide)), A.nkd.kept hk2 (fun k e => off (A.tyA e) (by decide)), A.nks.kept hk2 (fun k e => off (A.tyB e) (by decide)), A.pl, fun j s k hs hp => (A.pr j s k hs hp).kept hk2 (fun q e _ _ => ⟨hI j q e, e⟩), A.ii, fun j k e => notM_kept (A.im j k e) hk2 (A.jl k (A.ij j k e)) (hI j k e), fun j k e => ?_, A.ga, A.gb, A.ab, fun j k e => ⟨A.ij j k e, fun f => A.ri j k e (.inr (.inr (.inr (.inr (.inl f)))))⟩, fun k e => ?_, fun k e => Nat.lt_of_lt_of_le (A.jl k e.1) hk2.size⟩
    · rintro (f | f | f | f | f | f | f | f)
      · exact A.ri j k e (.inl f)
      · exact A.ri j k e (.inr (.inl f))
      · exact A.ri j k e (.inr (.inr (.inl f)))
      · exact A.ri j k e (.inr (.inr (.inr (.inl f))))
      · exact At.none f
      · exact A.ri j k e (.inr (.inr (.inr (.inr (.inr (.inl f))))))
      · exact A.ri j k e (.inr (.inr (.inr (.inr (.inr (.inr (.inl f)))))))
      · exact A.ri j k e (.inr (.inr (.inr (.inr (.inr (.inr (.inr f)))))))
    · rcases e with e | e | e | e | e | e | e | e
      · exact ⟨A.rj k (.inl e), by have e : k = hb := e; rw [e]; exact yo ⟨_, A.box⟩ (by decide)⟩
      · exact ⟨A.rj k (.inr (.inl e)), yo (A.tyG e) (by decide)⟩
      · exact ⟨A.rj k (.inr (.inr (.inl e))), yo (A.tyI e) (by decide)⟩
      · exact ⟨A.rj k (.inr (.inr (.inr (.inl e)))), yo (A.tyP e) (by decide)⟩
      · exact absurd e At.none
      · exact ⟨A.rj k (.inr (.inr (.inr (.inr (.inr (.inl e)))))), yo (A.tyD e) (by decide)⟩
      · exact ⟨A.rj k (.inr (.inr (.inr (.inr (.inr (.inr (.inl e))))))), yo (A.tyA e) (by decide)⟩
      · exact ⟨A.rj k (.inr (.inr (.inr (.inr (.inr (.inr (.inr e))))))), yo (A.tyB e) (by decide)⟩
  refine ⟨_, (H.upd hal ⟨fun k e => .inl e.1, hk2.mono (fun k _ e => (show k = hb from e) ▸ A.rj hb (.inl rfl))⟩).add (A.way.kept hk2 (fun k e => off (A.tyY e) (by decide))) (fun k e f => f.2 e) (fun j g ty cs hj e => H.li j g ty cs hj (A.rj g (.inr (.inr (.inr (.inr (.inl e)))))))⟩
end
theorem relay_step (up : Nat → Bool) (m : Ms) (h : Pax.Hl) (k : Nat) : (List.range (k + 1)).foldl (Pax.relayH up m) h = Pax.relayH up m ((List.range k).foldl (Pax.relayH up m) h) k := by
  rw [List.range_succ, List.foldl_append]; rfl
theorem relay_zs (up : Nat → Bool) (m : Ms) : ∀ (l : List Nat) (h : Pax.Hl), (l.foldl (Pax.relayH up m) h).zs = h.zs
  | [], h => rfl
  | k :: l, h => by
    rw [List.foldl_cons, relay_zs up m l]
    unfold Pax.relayH
    split
    · exact Pax.deliver_zs h m
    · rfl
theorem relay_ok {B : Nat} (up : Nat → Bool) {m : Ms} (hm : Pax.PlM m) : ∀ (l : List Nat) {h : Pax.Hl}, Pax.Hok B h → Pax.Hok B (l.foldl (Pax.relayH up m) h)
  | [], _, k => k
  | i :: l, _, k => by
    refine relay_ok up hm l ?_
    unfold Pax.relayH
    split
    · exact k.deliver hm
    · exact k
theorem relays_ok {B : Nat} (up : Nat → Bool) : ∀ (l : List Ms) {h : Pax.Hl}, Pax.Hok B h → (∀ m, m ∈ l → Pax.PlM m) → Pax.Hok B (l.foldl (Pax.relays up) h)
  | [], _, k, _ => k
  | m :: l, _, k, hl => relays_ok up l (relay_ok up (hl m List.mem_cons_self) _ k) (fun x hx => hl x (List.mem_cons_of_mem _ hx))
theorem relays_zs (up : Nat → Bool) : ∀ (l : List Ms) (h : Pax.Hl), (l.foldl (Pax.relays up) h).zs = h.zs
  | [], h => rfl
  | m :: l, h => by rw [List.foldl_cons, relays_zs up l]; exact relay_zs up m _ h
theorem fold_step {α β : Type} (f : α → β → α) {l : List β} {h : α} {i : Nat} {m : β} (hm : l[i]? = some m) : (l.take (i + 1)).foldl f h = f ((l.take i).foldl f h) m := by
  rw [List.take_add_one, hm, List.foldl_append]; rfl
theorem filter_step {p : Ms → Bool} {l : List Ms} {i : Nat} {m : Ms} (hm : l[i]? = some m) : (l.take (i + 1)).filter p = (l.take i).filter p ++ if p m then [m] else [] := by
  rw [List.take_add_one, hm, List.filter_append]
  congr 1
  show List.filter p [m] = _
  rw [List.filter_cons]
  split <;> rfl
end Go.Proofs.Ytpabpeppgpeaoaa.Md
