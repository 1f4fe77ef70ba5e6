import Derived.Test.YtphiokehcgbldaaNl
namespace Go.Proofs.Ytphiokehcgbldaa
open Go.RowKit
set_option linter.unusedVariables false
set_option linter.unusedSimpArgs false

/-- One standing's cells. -/
def stC (L : List Pq) (P : Nm → Nat × Nat × Nat) (q : Pq) : List Value := [.int .i64 (q.pl : Nat), .bool q.nm.1.1, .int .i64 q.nm.1.2, .int .i64 q.nm.2, .bool q.to'.1, .int .i64 q.to'.2, .slice q.da q.zs.length q.dc, plV P q.nm (pls L q.nm).length]
theorem und85 : Try.prog.underlying 85 = some (.slice 89) := by kernel_rfl
theorem info89 : (Try.prog.info? 89).map (fun i => (i.zero, i.size, i.bytes)) = some (some (.agg #[.int .i64 0, .bool false, .int .i64 0, .int .i64 0, .bool false, .int .i64 0, .slice none 0 0, .slice none 0 0]), 8, 96) := by kernel_rfl
theorem gN_some {L : List Pq} {P : Nm → Nat × Nat × Nat} {k : Nm} {v : Value} (h : gN L P k = some v) : ∃ q ∈ L, q.nm = k ∧ v = alV q (plV P k (pls L k).length) := by
  unfold gN at h
  cases hf : L.find? (isN k) with
  | none => rw [hf] at h; cases h
  | some q =>
    rw [hf] at h
    obtain ⟨h1, h2⟩ := find_mem hf
    exact ⟨q, h1, h2, by simpa using h.symm⟩
theorem gN_mem {L : List Pq} {P : Nm → Nat × Nat × Nat} {q : Pq} (h : q ∈ L) : (gN L P q.nm).isSome := by
  unfold gN
  cases hf : L.find? (isN q.nm) with
  | none => exact absurd rfl ((find_none hf).2 q h)
  | some r => rfl
/-- What row has gathered. -/
structure RwI (w wr : World) (L : List Pq) (P : Nm → Nat × Nat × Nat) (ra : Option Addr) (rc : Nat) (M : List Pq) : Prop where
  own : Own 89 8 wr w.heap.size ra rc M.length (M.flatMap (stC L P))
  kept : Kept No w wr
theorem RwI.no {w wr wr' : World} {L : List Pq} {P : Nm → Nat × Nat × Nat} {ra : Option Addr} {rc : Nat} {M : List Pq} (h : RwI w wr L P ra rc M) (hk : Kept No wr wr') : RwI w wr' L P ra rc M := ⟨h.own.no hk, h.kept.then hk⟩
theorem flat_le {L : List Pq} {dn td td0 : List Nm} {x : Nm} (hn : td0.Nodup) (hp : (dn ++ td).Perm td0) (hx : x ∈ td) : (dn.flatMap (fun k => L.filter (isN k))).length + (L.filter (isN x)).length ≤ L.length := by
  have hnd := hp.nodup_iff.2 hn
  have hd := List.nodup_append.1 hnd
  have hn' : (dn ++ [x]).Nodup := List.nodup_append.2 ⟨hd.1, by simp, fun a ha b hb => by rw [List.mem_singleton.1 hb]; exact hd.2.2 a ha x hx⟩
  have h := (flat_perm L _ hn').length_eq
  rw [List.flatMap_append, List.length_append] at h
  have h2 := List.length_filter_le (fun q : Pq => decide (q.nm ∈ dn ++ [x])) L
  rw [← h] at h2
  simpa using h2
theorem flat_end {L : List Pq} {P : Nm → Nat × Nat × Nat} {dn td0 : List Nm} (hn : td0.Nodup) (hp : (dn ++ []).Perm td0) (ht : ∀ x, x ∈ td0 ↔ (gN L P x).isSome) : (dn.flatMap (fun k => L.filter (isN k))).Perm L := by
  rw [List.append_nil] at hp
  exact flat_all (hp.nodup_iff.2 hn) (fun q hq => hp.mem_iff.2 ((ht _).2 (gN_mem hq)))
theorem flat_step {L : List Pq} {dn td td0 : List Nm} {x : Nm} (hn : td0.Nodup) (hp : (dn ++ td).Perm td0) (hx : x ∈ td) : dn.flatMap (fun k => L.filter (isN k)) ++ L.filter (isN x) = (dn ++ [x]).flatMap (fun k => L.filter (isN k)) ∧ ((dn ++ [x]) ++ td.filter (fun y => decide (y ≠ x))).Perm td0 ∧ (td.filter (fun y => decide (y ≠ x))).length < td.length := by
  have hd := (List.nodup_append.1 (hp.nodup_iff.2 hn)).2.1
  refine ⟨by simp, ?_, by have := filter_ne_lt hx hd; omega⟩
  rw [List.append_assoc]
  exact (List.Perm.append_left dn (filter_ne_perm hx hd)).trans hp
theorem cell_newC (w : World) (t : TypeId) (cs : List Value) : ∀ j u, cs[j]? = some u → (w.alloc (.cells cs.toArray t)).cell? ((⟨w.heap.size, 0, none⟩ : Addr).add j) = some u := by
  intro j u h
  rw [addr_add, Nat.zero_add, (Box.new w t cs.toArray).cell]
  simpa using h
theorem stC_as {s : Ns} (ok : NOk s) {P : Nm → Nat × Nat × Nat} {q p : Pq} (hq : q ∈ s.L) (hp : p ∈ s.L) {c : Bool} {i n : Int} (hqn : q.nm = ((c, i), n)) (hpn : p.nm = ((c, i), n)) {kl pb po pc : Nat} (h1 : (pls s.L ((c, i), n)).length = kl) (h2 : (P ((c, i), n)).1 = pb) (h3 : (P ((c, i), n)).2.1 = po) (h4 : (P ((c, i), n)).2.2 = pc) :
    stC s.L P p = [.int .i64 (p.pl : Nat), .bool c, .int .i64 i, .int .i64 n, .bool q.to'.1, .int .i64 q.to'.2, .slice q.da q.zs.length q.dc, .slice (some ⟨pb, po, none⟩) kl pc] := by
  have h := ok.alike p hp q hq (hpn.trans hqn.symm)
  unfold stC plV
  rw [hpn, h.1, h.2.1, h.2.2.1, h.2.2.2, h1, h2, h3, h4]
theorem len_came {s : Ns} (ok : NOk s) : s.L.length ≤ s.came + 1 := by
  have key : ∀ (L : List Pq) (m : Nat), L.Pairwise (fun p q => p.pl < q.pl) → (∀ q ∈ L, m ≤ q.pl ∧ q.pl ≤ s.came) → m ≤ s.came + 1 → m + L.length ≤ s.came + 1 := by
    intro L
    induction L with
    | nil => intro m _ _ h; simpa using h
    | cons q L ih =>
      intro m hp hb hm
      obtain ⟨h1, h2⟩ := List.pairwise_cons.1 hp
      have hq := hb q (by simp)
      have := ih (q.pl + 1) h2 (fun r hr => ⟨h1 r hr, (hb r (by simp [hr])).2⟩) (by omega)
      rw [List.length_cons]; omega
  have := key s.L 0 ok.ris (fun q hq => ⟨Nat.zero_le _, ok.le q hq⟩) (Nat.zero_le _)
  omega
end Go.Proofs.Ytphiokehcgbldaa
