import Derived.Test.YtcgnbpaaalmkoaaEc
namespace Go.Proofs.Ytcgnbpaaalmkoaa
open Go.RowKit
set_option linter.unusedVariables false
set_option linter.unusedSimpArgs false

theorem RdB.keptN {S : Nat → Prop} {w w' : World} {s : Sl} {xs : List Int} (h : RdB w s xs) (hk : Kept S w w') (hS : xs ≠ [] → ∀ k, At s.a k → ¬ S k) : RdB w' s xs := by
 cases xs with
 | nil => exact ⟨Nums.nil _ _ _, h.len, h.cap⟩
 | cons x r => exact h.kept hk (hS (by simp))
theorem RdE.keptN {S : Nat → Prop} {w w' : World} {s : Sl} {xs : List En} (h : RdE w s xs) (hk : Kept S w w') (hS : xs ≠ [] → ∀ k, At s.a k → ¬ S k) : RdE w' s xs := by
 cases xs with
 | nil => exact ⟨RowsAt.nil _ _ _, h.len, h.cap⟩
 | cons x r => exact h.kept hk (hS (by simp))
theorem RdL.keptN {S : Nat → Prop} {w w' : World} {s : Sl} {xs : List La} (h : RdL w s xs) (hk : Kept S w w') (hS : xs ≠ [] → ∀ k, At s.a k → ¬ S k) : RdL w' s xs := by
 cases xs with
 | nil => exact ⟨RowsAt.nil _ _ _, h.len, h.cap⟩
 | cons x r => exact h.kept hk (hS (by simp))
theorem RdP.keptN {S : Nat → Prop} {w w' : World} {s : Sl} {xs : List Pl} (h : RdP w s xs) (hk : Kept S w w') (hS : xs ≠ [] → ∀ k, At s.a k → ¬ S k) : RdP w' s xs := by
 cases xs with
 | nil => exact ⟨RowsAt.nil _ _ _, h.len, h.cap⟩
 | cons x r => exact h.kept hk (hS (by simp))
/-- Lists that do not lie in some blocks. -/
def HdOff (G : Nat → Prop) (a : Hd) (ab : List Int) (ae : List En) (al : List La) (ap : List Pl) : Prop := (ab ≠ [] → ∀ k, At a.b.d.a k → ¬ G k) ∧ (ae ≠ [] → ∀ k, At a.k.e.a k → ¬ G k) ∧ (al ≠ [] → ∀ k, At a.k.l.a k → ¬ G k) ∧ (ap ≠ [] → ∀ k, At a.r.a k → ¬ G k)
def ChOff (G : Nat → Prop) (c : Ch) : Prop := ∀ k, (At c.b.d.a k ∨ At c.bk.e.a k ∨ At c.bk.l.a k) → ¬ G k
def TkOff (G : Nat → Prop) (s : Sl) (Y : List Ch) : Prop := (∀ k, At s.a k → ¬ G k) ∧ ∀ i, i < s.l → ChOff G (hAt Y i)
theorem HdAt.keptG {G S : Nat → Prop} {w w' : World} {a : Hd} {ab : List Int} {ae : List En} {al : List La} {ap : List Pl} (H : HdAt w a ab ae al ap) (ho : HdOff G a ab ae al ap) (hk : Kept S w w') (hS : ∀ k, S k → G k) : HdAt w' a ab ae al ap :=
 ⟨H.b.keptN hk (fun n k e f => ho.1 n k e (hS k f)), H.e.keptN hk (fun n k e f => ho.2.1 n k e (hS k f)), H.l.keptN hk (fun n k e f => ho.2.2.1 n k e (hS k f)), H.p.keptN hk (fun n k e f => ho.2.2.2 n k e (hS k f)), H.nb, H.ne, H.nl, H.np⟩
theorem HdOff.start {w : World} {G : Nat → Prop} {a : Hd} {ab : List Int} {ae : List En} {al : List La} {ap : List Pl} (H : HdAt w a ab ae al ap) (hG : ∀ k, G k → w.heap.size ≤ k) : HdOff G a ab ae al ap := by
 refine ⟨fun n k e f => ?_, fun n k e f => ?_, fun n k e f => ?_, fun n k e f => ?_⟩
 · obtain ⟨b, off, e1, e2⟩ := H.b.row 0 (List.length_pos_iff.2 n)
   rw [e1] at e
   obtain ⟨ad, e3, e4⟩ := e
   cases e3
   have h5 : b < w.heap.size := World.block_lt_of_cell? w ⟨b, off + 0, none⟩ e2
   have h4 : b = k := e4
   have := hG k f
   omega
 · have := RowsAt.lt H.e.row (by rw [List.length_map]; exact List.length_pos_iff.2 n) (fun x hx => by obtain ⟨y, _, rfl⟩ := List.mem_map.1 hx; exact Nat.succ_pos _) e
   have := hG k f
   omega
 · have := RowsAt.lt H.l.row (by rw [List.length_map]; exact List.length_pos_iff.2 n) (fun x hx => by obtain ⟨y, _, rfl⟩ := List.mem_map.1 hx; exact Nat.succ_pos _) e
   have := hG k f
   omega
 · have := RowsAt.lt H.p.row (by rw [List.length_map]; exact List.length_pos_iff.2 n) (fun x hx => by obtain ⟨y, _, rfl⟩ := List.mem_map.1 hx; exact Nat.succ_pos _) e
   have := hG k f
   omega
theorem TkRd.keptG {G S : Nat → Prop} {W W' : World} {s : Sl} {z : List Ch} {bs : List Int} {es : List En} {ls : List La} {Y : List Ch} (h : TkRd W s z bs es ls Y) (ho : TkOff G s Y) (hk : Kept S W W') (hS : ∀ k, S k → G k) : TkRd W' s z bs es ls Y :=
 ⟨h.len, h.row.kept hk (fun k e f => ho.1 k e (hS k f)), h.zl, fun i hi => ⟨(h.el i hi).s, (h.el i hi).b.kept hk (fun k e f => ho.2 i hi k (.inl e) (hS k f)), (h.el i hi).e.kept hk (fun k e f => ho.2 i hi k (.inr (.inl e)) (hS k f)), (h.el i hi).l.kept hk (fun k e f => ho.2 i hi k (.inr (.inr e)) (hS k f))⟩⟩
theorem TkOff.nil (G : Nat → Prop) : TkOff G slZ [] := ⟨fun k e => absurd e At.none, fun i hi => absurd hi (Nat.not_lt_zero _)⟩
end Go.Proofs.Ytcgnbpaaalmkoaa
