import Derived.Test.YtgiokkcdgoloaaaVd
namespace Go.Proofs.Ytgiokkcdgoloaaa.Md
open Go.RowKit
set_option linter.unusedVariables false
set_option linter.unusedSimpArgs false
section
variable {w v : Wd} {G : Nat → Int → Sp} {T : Nat → Option Sp}
theorem WInv.one (h : WInv w G T) {t : Sp} {z z' : List Int} {x x' : Int} (h1 : Wrote w T t z x) (h2 : Wrote w T t z' x') : z = z' := by
  obtain ⟨i, a, a1, a2, a3, a4, a5, a6⟩ := h1
  obtain ⟨k, b, b1, b2, b3, b4, b5, b6⟩ := h2
  have lt : ∀ (i k : Nat) (a b : Dd), i < k → w.ds[i]? = some a → w.ds[k]? = some b → a.cl = b.cl → T i = some t → T k = some t → b.wr = true → False := fun i k a b hik ha hb hc ta tb wb => by
    have q := h.seq i k a b hik ha hb hc
    have e := (h.tg i a t ha ta).2.2 q.1
    have p := h.past i k a b ha hb q.1 e.1 q.2
    have l := p.low (h.tg k b t hb tb).1
    rw [wb, if_pos rfl, e.2] at l
    exact l.ne rfl
  rcases Nat.lt_trichotomy i k with hik | rfl | hik
  · exact (lt i k a b hik a1 b1 (a3.trans b3.symm) a6 b6 b2).elim
  · rw [a1] at b1
    cases b1
    rw [← a4, ← b4]
  · exact (lt k i b a hik b1 a1 (b3.trans a3.symm) b6 a6 a2).elim
structure Like (w v : Wd) : Prop where
  n : v.n = w.n
  held : v.held = w.held
  m : v.m = w.m
  at' : v.at' = w.at'
  ds : v.ds = w.ds
  now : v.now = w.now
theorem Like.refl (w : Wd) : Like w w := ⟨rfl, rfl, rfl, rfl, rfl, rfl⟩
theorem Like.trans {w v u : Wd} (h : Like w v) (k : Like v u) : Like w u := ⟨k.n.trans h.n, k.held.trans h.held, k.m.trans h.m, k.at'.trans h.at', k.ds.trans h.ds, k.now.trans h.now⟩
theorem Like.g (h : Like w v) : wdG v = wdG w := by unfold wdG; rw [h.n]
theorem Like.hs (h : Like w v) : Md.hs v = Md.hs w := by unfold Md.hs; rw [h.held]
theorem Like.wrote (h : Like w v) {t : Sp} {z : List Int} {x : Int} : Wrote v T t z x = Wrote w T t z x := by unfold Wrote; rw [h.ds]
theorem Like.told (h : Like w v) {t : Sp} {z : List Int} {x : Int} : Told v T t z x = Told w T t z x := by unfold Told; rw [h.wrote]
theorem Like.unok (h : Like w v) {p : Pm} : UnOk v G T p = UnOk w G T p := by unfold UnOk; simp only [h.ds, h.g, h.hs, h.wrote, h.now]
theorem WInv.like (h : WInv w G T) (k : Like w v) (hb : v.br = false) (hm : ∀ p, p ∈ v.un → UnOk w G T p) (hl : ∀ e, e ∈ v.ls → Wrote w T e.1 e.2 w.now) : WInv v G T := by
  refine ⟨hb, ?_, ?_, ?_, ?_, ?_, ?_, ?_, ?_, (by rw [k.now]; exact h.nn), (by rw [k.ds]; exact h.tn), h.low, (by rw [k.hs]; exact h.low'), ?_, ?_, ?_, ?_⟩
  · have := h.act; simp only [k.m, k.at', k.ds, k.g, k.hs, k.told, k.now]; exact this
  · have := h.open'; simp only [k.m, k.at', k.ds]; exact this
  · have := h.fin; simp only [k.ds, k.g, k.hs, k.told]; exact this
  · have := h.time; simp only [k.ds, k.now]; exact this
  · have := h.cls; simp only [k.ds]; exact this
  · have := h.seq; simp only [k.ds]; exact this
  · have := h.past; simp only [k.ds, k.g]; exact this
  · have := h.tg; simp only [k.ds, k.g]; exact this
  · have := h.mono; simp only [k.hs]; exact this
  · have := h.held; simp only [k.hs, k.held, k.wrote, k.now]; exact this
  · intro p hp; rw [k.unok]; exact hm p hp
  · intro e he; rw [k.wrote, k.now]; exact hl e he
theorem like_laid (w : Wd) (t : Sp) (z : List Int) : Like w (laidW w t z) := by
  unfold laidW
  split <;> exact ⟨rfl, rfl, rfl, rfl, rfl, rfl⟩
theorem un_laid (w : Wd) (t : Sp) (z : List Int) : (laidW w t z).un = w.un := by
  unfold laidW
  split <;> rfl
theorem WInv.laidW (h : WInv w G T) {t : Sp} {z : List Int} (hw : Wrote w T t z w.now) : WInv (Md.laidW w t z) G T := by
  refine h.like (like_laid w t z) ?_ (by rw [un_laid]; exact h.msg) ?_
  · unfold Md.laidW
    split
    · rename_i e he
      have hm := List.mem_of_find?_eq_some he
      have hq := List.find?_some he
      simp only [Bool.and_eq_true, beq_iff_eq] at hq
      have ht : e.1 = t := by
        obtain ⟨⟨a, b⟩, y⟩ := e
        obtain ⟨c, d⟩ := t
        have h1 : a = c := hq.1
        have h2 : b = d := hq.2
        rw [h1, h2]
      have h1 := h.laid e hm
      rw [ht] at h1
      show (w.br || !(decide (e.2 = z))) = false
      rw [h.br, h.one h1 hw]
      simp
    · exact h.br
  · unfold Md.laidW
    split
    · exact h.laid
    · intro e he
      rcases List.mem_append.1 he with he | he
      · exact h.laid e he
      · rw [List.mem_singleton.1 he]; exact hw
theorem like_send1 (w : Wd) (p : Pm) : Like w (send1 w p) := by
  unfold send1
  dsimp only
  split <;> split <;> first | exact Like.refl w | exact like_laid w _ _ | exact ⟨rfl, rfl, rfl, rfl, rfl, rfl⟩ | (have k := like_laid w p.st p.z; exact ⟨k.n, k.held, k.m, k.at', k.ds, k.now⟩)
theorem WInv.send1 (h : WInv w G T) {p : Pm} (hp : UnOk w G T p) : WInv (Md.send1 w p) G T := by
  have h2 : p.k = 2 → Wrote w T p.st p.z w.now := fun e => by
    obtain ⟨j, d, _, _, _, q⟩ := hp
    rcases q with ⟨_, _, _, q⟩ | ⟨_, _, _, q⟩
    · rcases q with q | q
      · omega
      · exact q.2.2
    · rcases q with q | q <;> omega
  have hv : WInv (if p.k = 2 then Md.laidW w p.st p.z else w) G T ∧ Like w (if p.k = 2 then Md.laidW w p.st p.z else w) := by
    split
    · rename_i e; exact ⟨h.laidW (h2 e), like_laid w _ _⟩
    · exact ⟨h, Like.refl w⟩
  unfold Md.send1
  dsimp only
  generalize (if p.k = 2 then Md.laidW w p.st p.z else w) = u at hv
  obtain ⟨hu, k⟩ := hv
  split
  · refine hu.like ⟨rfl, rfl, rfl, rfl, rfl, rfl⟩ hu.br (fun q hq => ?_) hu.laid
    rcases List.mem_append.1 hq with hq | hq
    · exact hu.msg q hq
    · rw [List.mem_singleton.1 hq, k.unok]; exact hp
  · exact hu
theorem WInv.sendW (h : WInv w G T) : ∀ (l : List Pm) (u : Wd), Like w u → WInv u G T → (∀ p, p ∈ l → UnOk w G T p) → WInv (Md.sendW u l) G T ∧ Like w (Md.sendW u l)
  | [], u, k, hu, _ => ⟨hu, k⟩
  | p :: l, u, k, hu, hl => by
    have h1 : WInv (Md.send1 u p) G T := hu.send1 (by rw [k.unok]; exact hl p List.mem_cons_self)
    exact WInv.sendW h l (Md.send1 u p) (k.trans (like_send1 u p)) h1 (fun q hq => hl q (List.mem_cons_of_mem _ hq))
end
end Go.Proofs.Ytgiokkcdgoloaaa.Md
namespace Go.Proofs.Ytgiokkcdgoloaaa.Md
open Go.RowKit
set_option linter.unusedVariables false
set_option linter.unusedSimpArgs false
section
variable {w : Wd} {G : Nat → Int → Sp} {T : Nat → Option Sp}
theorem UnOk.grow {p : Pm} (h : UnOk w G T p) {f : Int → Bp} (hH : ∀ i, sle (hs w i) (f i).st) : UnOk { w with held := f } G T p := by
  obtain ⟨j, d, h1, h2, h3, h4⟩ := h
  refine ⟨j, d, h1, h2, h3, ?_⟩
  rcases h4 with h4 | ⟨q1, q2, q3, q4⟩
  · exact .inl h4
  · refine .inr ⟨q1, q2, q3, ?_⟩
    rcases q4 with ⟨k, a, b, c⟩ | ⟨k, t, a, b⟩
    · exact .inl ⟨k, a, b.trans (hH _), c⟩
    · exact .inr ⟨k, t, a, b.trans (hH _)⟩
theorem WInv.grow (h : WInv w G T) {f : Int → Bp} (hH : ∀ i, sle (hs w i) (f i).st) (hw : ∀ i, ¬ ((f i).st.n = 0 ∧ (f i).st.c = 0) → Wrote w T (f i).st (f i).z w.now) : WInv { w with held := f } G T := by
  refine ⟨h.br, fun c s hs' => ?_, h.open', fun j d hd he ho => ?_, h.time, h.cls, h.seq, h.past, h.tg, h.nn, h.tn, h.low, fun i => (h.low' i).trans (hH i), fun j i => (h.mono j i).trans (hH i), hw, fun p hp => (h.msg p hp).grow hH, h.laid⟩
  · obtain ⟨a1, a2, a3, a4, a5, a6, a7⟩ := h.act c s hs'
    exact ⟨a1, a2, a3, a4, a5.mono hH (fun _ _ e => e), a6, a7⟩
  · obtain ⟨f1, f2, f3, f4⟩ := h.fin j d hd he ho
    exact ⟨f1, f2.mono hH, f3, f4⟩
theorem new_sle (b : Bp) (t : Sp) (z : List Int) : sle b.st (newW b t z).st ∧ sle t (newW b t z).st ∧ (newW b t z = b ∨ newW b t z = ⟨t, z⟩) := by
  unfold newW
  cases e : lessB b.st.n b.st.c t.n t.c with
  | true =>
    rw [if_pos rfl]
    have : slt b.st t := ls_sle (a := b) (b := ⟨t, z⟩) |>.1 e
    exact ⟨this.sle, sle.refl _, .inr rfl⟩
  | false =>
    rw [if_neg (by simp)]
    exact ⟨sle.refl _, ls_not (a := b) (b := ⟨t, z⟩) e, .inl rfl⟩
theorem WInv.serv (h : WInv w G T) {p : Pm} (hp : UnOk w G T p) (hc : p.too.cl = false) : WInv (servW w p) G T := by
  obtain ⟨j, d, h1, h2, h3, h4⟩ := hp
  rcases h4 with ⟨q1, q2, q3, q4⟩ | ⟨q1, _⟩
  · unfold servW
    rcases q4 with hk | ⟨hk, ht, hw⟩
    · rw [if_pos hk]
      refine (h.sendW _ w (Like.refl w) h (fun q hq => ?_)).1
      rw [List.mem_singleton.1 hq]
      exact ⟨j, d, h1, h2, h3, .inr ⟨q3, q1, q2, .inl ⟨rfl, h.mono j _, sle.refl _, h.held _⟩⟩⟩
    · rw [if_neg (by omega), if_pos hk]
      obtain ⟨n1, n2, n3⟩ := new_sle (w.held p.too.id) p.st p.z
      have hH : ∀ i, sle (hs w i) (upI w.held p.too.id (newW (w.held p.too.id) p.st p.z) i).st := fun i => by
        unfold upI
        split
        · rename_i e; subst e; exact n1
        · exact sle.refl _
      have g : WInv { w with held := upI w.held p.too.id (newW (w.held p.too.id) p.st p.z) } G T := h.grow hH (fun i hi => by
        unfold upI at hi ⊢
        split
        · rename_i e
          rw [if_pos e] at hi
          rcases n3 with n3 | n3
          · rw [n3] at hi ⊢; exact h.held _ hi
          · rw [n3]; exact hw
        · rename_i e
          rw [if_neg e] at hi
          exact h.held _ hi)
      refine (g.sendW _ _ (Like.refl _) g (fun q hq => ?_)).1
      rw [List.mem_singleton.1 hq]
      refine ⟨j, d, h1, h2, h3, .inr ⟨q3, q1, q2, .inr ⟨rfl, p.st, ht, ?_⟩⟩⟩
      show sle p.st (upI w.held p.too.id (newW (w.held p.too.id) p.st p.z) p.too.id).st
      unfold upI
      rw [if_pos rfl]
      exact n2
  · rw [q1] at hc; cases hc
theorem WInv.less (h : WInv w G T) {l : List Pm} (hl : ∀ p, p ∈ l → p ∈ w.un) : WInv { w with un := l } G T :=
  h.like ⟨rfl, rfl, rfl, rfl, rfl, rfl⟩ h.br (fun p hp => h.msg p (hl p hp)) h.laid
end
end Go.Proofs.Ytgiokkcdgoloaaa.Md
namespace Go.Proofs.Ytgiokkcdgoloaaa.Md
open Go.RowKit
set_option linter.unusedVariables false
set_option linter.unusedSimpArgs false
section
variable {w : Wd} {G : Nat → Int → Sp} {T T' : Nat → Option Sp}
theorem Wrote.ext {v : Wd} {t : Sp} {z : List Int} {x y : Int} (h : Wrote w T t z x) (hd : ∀ (j : Nat) (d : Dd), w.ds[j]? = some d → ∃ d' : Dd, v.ds[j]? = some d' ∧ d'.wr = d.wr ∧ d'.cl = d.cl ∧ d'.z = d.z ∧ d'.beg = d.beg) (hT : ∀ j t, T j = some t → T' j = some t) (hx : x ≤ y) : Wrote v T' t z y := by
  obtain ⟨j, d, h1, h2, h3, h4, h5, h6⟩ := h
  obtain ⟨d', e1, e2, e3, e4, e5⟩ := hd j d h1
  exact ⟨j, d', e1, e2.trans h2, e3.trans h3, e4.trans h4, by rw [e5]; omega, hT j t h6⟩
theorem Told.ext {v : Wd} {t : Sp} {z : List Int} {x y : Int} (h : Told w T t z x) (hd : ∀ (j : Nat) (d : Dd), w.ds[j]? = some d → ∃ d' : Dd, v.ds[j]? = some d' ∧ d'.wr = d.wr ∧ d'.cl = d.cl ∧ d'.z = d.z ∧ d'.beg = d.beg) (hT : ∀ j t, T j = some t → T' j = some t) (hx : x ≤ y) : Told v T' t z y :=
  h.imp id (fun h => h.ext hd hT hx)
theorem take_outs (s : RM) (d : Mg) (z : List Int) : (takP s d z).1.cl = s.cl ∧ (takP s d z).1.op = s.op ∧ (takP s d z).1.ky = s.ky ∧ (takP s d z).1.zs = s.zs ∧ (takP s d z).1.aim = s.aim ∧
    ((takP s d z).2.ss = [] ∧ ((takP s d z).1.ph = s.ph ∨ (∃ X Y, s.ph = .ask X ∧ (takP s d z).1.ph = .ask Y) ∨ (∃ b U Y, s.ph = .lay b U ∧ (takP s d z).1.ph = .lay b Y) ∨ (∃ er st y, (takP s d z).1.ph = .fin er st y ∧ ((∃ X, s.ph = .ask X) ∨ ∃ b U, s.ph = .lay b U ∧ er = 0 ∧ st = b.st))) ∨
     ∃ X b, s.ph = .ask X ∧ (takP s d z).1.ph = .lay b (tNew Unit s.zs s.need) ∧ (takP s d z).2 = ⟨2, b.st, b.z, s.zs⟩) := by
  have lay : ∀ b X, s.ph = .ask X → (layP s b).1.cl = s.cl ∧ (layP s b).1.op = s.op ∧ (layP s b).1.ky = s.ky ∧ (layP s b).1.zs = s.zs ∧ (layP s b).1.aim = s.aim ∧
      ((layP s b).2.ss = [] ∧ ((layP s b).1.ph = s.ph ∨ (∃ X Y, s.ph = .ask X ∧ (layP s b).1.ph = .ask Y) ∨ (∃ b' U Y, s.ph = .lay b' U ∧ (layP s b).1.ph = .lay b' Y) ∨ (∃ er st y, (layP s b).1.ph = .fin er st y ∧ ((∃ X, s.ph = .ask X) ∨ ∃ b' U, s.ph = .lay b' U ∧ er = 0 ∧ st = b'.st))) ∨
       ∃ X b', s.ph = .ask X ∧ (layP s b).1.ph = .lay b' (tNew Unit s.zs s.need) ∧ (layP s b).2 = ⟨2, b'.st, b'.z, s.zs⟩) := fun b X e => by
    unfold layP
    split
    · exact ⟨rfl, rfl, rfl, rfl, rfl, .inl ⟨rfl, .inr (.inr (.inr ⟨_, _, _, rfl, .inl ⟨X, e⟩⟩))⟩⟩
    · exact ⟨rfl, rfl, rfl, rfl, rfl, .inr ⟨X, b, e, rfl, rfl⟩⟩
  unfold takP
  cases e : s.ph with
  | fresh => exact ⟨rfl, rfl, rfl, rfl, rfl, .inl ⟨rfl, .inl e⟩⟩
  | fin er st y => exact ⟨rfl, rfl, rfl, rfl, rfl, .inl ⟨rfl, .inl e⟩⟩
  | ask X =>
    dsimp only
    split
    · split
      · unfold setP
        rw [← e]
        cases hA : s.aim with
        | wr y =>
          dsimp only
          split
          · exact ⟨rfl, rfl, rfl, rfl, rfl, .inl ⟨rfl, .inr (.inr (.inr ⟨_, _, _, rfl, .inl ⟨X, e⟩⟩))⟩⟩
          · rw [← hA]; exact lay _ X e
        | rd n =>
          dsimp only
          split
          · rw [← hA]; exact lay _ X e
          · exact ⟨rfl, rfl, rfl, rfl, rfl, .inl ⟨rfl, .inr (.inr (.inr ⟨_, _, _, rfl, .inl ⟨X, e⟩⟩))⟩⟩
      · exact ⟨rfl, rfl, rfl, rfl, rfl, .inl ⟨rfl, .inr (.inl ⟨X, _, rfl, rfl⟩)⟩⟩
    · exact ⟨rfl, rfl, rfl, rfl, rfl, .inl ⟨rfl, .inl e⟩⟩
  | lay b U =>
    dsimp only
    split
    · split
      · exact ⟨rfl, rfl, rfl, rfl, rfl, .inl ⟨rfl, .inr (.inr (.inr ⟨_, _, _, rfl, .inr ⟨b, U, rfl, rfl, rfl⟩⟩))⟩⟩
      · exact ⟨rfl, rfl, rfl, rfl, rfl, .inl ⟨rfl, .inr (.inr (.inl ⟨b, U, _, rfl, rfl⟩))⟩⟩
    · exact ⟨rfl, rfl, rfl, rfl, rfl, .inl ⟨rfl, .inl e⟩⟩
theorem UnOk.ext {p : Pm} (h : UnOk w G T p) (hT : ∀ j t, T j = some t → T' j = some t) : UnOk w G T' p := by
  have id' : ∀ (j : Nat) (d : Dd), w.ds[j]? = some d → ∃ d' : Dd, w.ds[j]? = some d' ∧ d'.wr = d.wr ∧ d'.cl = d.cl ∧ d'.z = d.z ∧ d'.beg = d.beg := fun j d e => ⟨d, e, rfl, rfl, rfl, rfl⟩
  obtain ⟨j, d, h1, h2, h3, h4⟩ := h
  refine ⟨j, d, h1, h2, h3, ?_⟩
  rcases h4 with ⟨q1, q2, q3, q4⟩ | ⟨q1, q2, q3, q4⟩
  · exact .inl ⟨q1, q2, q3, q4.imp id (fun q => ⟨q.1, hT _ _ q.2.1, q.2.2.ext id' hT (Int.le_refl _)⟩)⟩
  · refine .inr ⟨q1, q2, q3, ?_⟩
    rcases q4 with ⟨k, a, b, c⟩ | ⟨k, t, a, b⟩
    · exact .inl ⟨k, a, b, fun e => (c e).ext id' hT (Int.le_refl _)⟩
    · exact .inr ⟨k, t, hT _ _ a, b⟩
theorem WInv.move (h : WInv w G T) {c : Nat} {s s' : RM} (hm : w.m c = some s) (hcl : s'.cl = s.cl) (hop : s'.op = s.op) (hky : s'.ky = s.ky) (haim : s'.aim = s.aim)
    (hT : ∀ j t, T j = some t → T' j = some t) (hT2 : ∀ j, j ≠ w.at' c → T' j = T j) (hmk : MK (wdG w) (G (w.at' c)) (hs w) (fun t z => Told w T' t z w.now) s')
    (hph : match s'.ph with | .lay b _ => T' (w.at' c) = some b.st | .ask _ => T' (w.at' c) = none | _ => False) (htg : ∀ t, T' (w.at' c) = some t → Low (wdG w) (G (w.at' c)) s.isW t ∧ (s.isW = true → t.c = s.cl)) :
    WInv { w with m := upN w.m c (some s') } G T' := by
  have id' : ∀ (j : Nat) (d : Dd), w.ds[j]? = some d → ∃ d' : Dd, w.ds[j]? = some d' ∧ d'.wr = d.wr ∧ d'.cl = d.cl ∧ d'.z = d.z ∧ d'.beg = d.beg := fun j d e => ⟨d, e, rfl, rfl, rfl, rfl⟩
  obtain ⟨a1, a2, a3, a4, a5, ⟨d0, b1, b2, b3, b4, b5, b6⟩, a7⟩ := h.act c s hm
  have hisW : s'.isW = s.isW := by unfold RM.isW; rw [haim]
  refine ⟨h.br, fun c' s'' hs' => ?_, fun j d hd he => ?_, fun j d hd he ho => ?_, h.time, h.cls, h.seq, h.past, fun j d t hd ht => ?_, h.nn, (fun j hj => by
      have hlt : w.at' c < w.ds.length := (List.getElem?_eq_some_iff.1 b1).1
      have hj : w.ds.length ≤ j := hj
      rw [hT2 j (by omega)]; exact h.tn j hj), h.low, h.low', h.mono, fun i hi => (h.held i hi).ext id' hT (Int.le_refl _), fun p hp => (h.msg p hp).ext hT, fun e he => (h.laid e he).ext id' hT (Int.le_refl _)⟩
  · have hs' : upN w.m c (some s') c' = some s'' := hs'
    unfold upN at hs'
    split at hs'
    · rename_i e
      cases hs'
      subst e
      exact ⟨a1, hcl.trans a2, hop.trans a3, hky.trans a4, hmk, ⟨d0, b1, b2, b3, b4.trans hisW.symm, fun e => haim.trans (b5 (hisW ▸ e)), fun e => haim.trans (b6 (hisW ▸ e))⟩, hph⟩
    · rename_i e
      obtain ⟨p1, p2, p3, p4, p5, ⟨d1, r1, r2, r3, r4⟩, p7⟩ := h.act c' s'' hs'
      have hne : w.at' c' ≠ w.at' c := fun f => by
        rw [f, b1] at r1
        cases r1
        have := b3.symm.trans r3
        omega
      refine ⟨p1, p2, p3, p4, p5.mono (fun i => sle.refl _) (fun t z e => e.ext id' hT (Int.le_refl _)), ⟨d1, r1, r2, r3, r4⟩, ?_⟩
      have p7' := p7
      show match s''.ph with | .lay b _ => T' (w.at' c') = some b.st | .ask _ => T' (w.at' c') = none | _ => False
      rw [hT2 _ hne]
      exact p7
  · obtain ⟨c', s'', e1, e2⟩ := h.open' j d hd he
    by_cases hc : c' = c
    · subst hc
      exact ⟨c', s', (by show upN w.m c' (some s') c' = _; unfold upN; rw [if_pos rfl]), e2⟩
    · exact ⟨c', s'', (by show upN w.m c (some s') c' = _; unfold upN; rw [if_neg hc]; exact e1), e2⟩
  · obtain ⟨f1, f2, f3, f4⟩ := h.fin j d hd he ho
    exact ⟨f1, f2, fun e => (f3 e).ext id' hT (Int.le_refl _), f4⟩
  · by_cases hj : j = w.at' c
    · subst hj
      have hd : w.ds[w.at' c]? = some d := hd
      rw [b1] at hd
      cases hd
      obtain ⟨t1, t2⟩ := htg t ht
      exact ⟨by rw [b4]; exact t1, fun e => by rw [b3, ← a2]; exact t2 (by rw [← b4]; exact e), fun e => absurd b2 e⟩
    · exact h.tg j d t hd (by rw [← hT2 j hj]; exact ht)
end
end Go.Proofs.Ytgiokkcdgoloaaa.Md
namespace Go.Proofs.Ytgiokkcdgoloaaa.Md
open Go.RowKit
set_option linter.unusedVariables false
set_option linter.unusedSimpArgs false
theorem md_at {α : Type} (l : List α) (i k : Nat) (f : α → α) : (l.modify i f)[k]? = if k = i then (l[k]?).map f else l[k]? := by
  rw [List.getElem?_modify]
  by_cases h : k = i
  · subst h; simp
  · have h' : ¬ i = k := fun e => h e.symm
    simp [h, h']
section
variable {w : Wd} {G : Nat → Int → Sp} {T : Nat → Option Sp}
theorem WInv.ends (h : WInv w G T) {c : Nat} {s s' : RM} {er : Int} {st : Sp} {z : List Int} (hm : w.m c = some s) (haim : s'.aim = s.aim) (hcl : s'.cl = s.cl) (hf : s'.ph = .fin er st z) (hmk : MK (wdG w) (G (w.at' c)) (hs w) (fun t z => Told w T t z w.now) s')
    (hT : ∀ t, T (w.at' c) = some t → er = 0 ∧ st = t) : WInv (lookW { w with m := upN w.m c (some s') } c) G T := by
  have hl : lookW { w with m := upN w.m c (some s') } c = { w with rd := upN w.rd c s'.rd, now := w.now + 1, ds := w.ds.modify (w.at' c) (fun d => endD d (w.now + 1) er st z), m := upN (upN w.m c (some s')) c none } := by
    unfold lookW
    show (match upN w.m c (some s') c with | none => _ | some s => _) = _
    have e : upN w.m c (some s') c = some s' := by unfold upN; rw [if_pos rfl]
    rw [e]
    dsimp only
    rw [hf]
  rw [hl]
  clear hl
  obtain ⟨a1, a2, a3, a4, a5, ⟨d0, b1, b2, b3, b4, b5, b6⟩, a7⟩ := h.act c s hm
  have hisW : s'.isW = s.isW := by unfold RM.isW; rw [haim]
  have hn := h.nn
  have at0 : ∀ (k : Nat) (d : Dd), (w.ds.modify (w.at' c) (fun d => endD d (w.now + 1) er st z))[k]? = some d → (k = w.at' c ∧ d = endD d0 (w.now + 1) er st z) ∨ (k ≠ w.at' c ∧ w.ds[k]? = some d) := fun k d hd => by
    rw [md_at] at hd
    split at hd
    · rename_i e
      subst e
      rw [b1] at hd
      cases hd
      exact .inl ⟨rfl, rfl⟩
    · rename_i e; exact .inr ⟨e, hd⟩
  have ex : ∀ (j : Nat) (d : Dd), w.ds[j]? = some d → ∃ d' : Dd, (w.ds.modify (w.at' c) (fun d => endD d (w.now + 1) er st z))[j]? = some d' ∧ d'.wr = d.wr ∧ d'.cl = d.cl ∧ d'.z = d.z ∧ d'.beg = d.beg := fun j d hd => by
    rw [md_at, hd]
    split
    · exact ⟨_, rfl, rfl, rfl, rfl, rfl⟩
    · exact ⟨_, rfl, rfl, rfl, rfl, rfl⟩
  have id2 : ∀ (j : Nat) (t : Sp), T j = some t → T j = some t := fun _ _ e => e
  have le : w.now ≤ w.now + 1 := by omega
  have hfin := hmk.ph
  rw [hf] at hfin
  refine ⟨h.br, fun c' s'' hs' => ?_, fun j d hd he => ?_, fun j d hd he ho => ?_, fun j d hd => ?_, fun j d hd => ?_, fun i j a b hij ha hb hc => ?_, fun i j a b ha hb he ho hlt => ?_, fun j d t hd ht => ?_, (show 0 ≤ w.now + 1 by omega), (fun j hj => h.tn j (by have hj : (w.ds.modify (w.at' c) _).length ≤ j := hj; rw [List.length_modify] at hj; exact hj)), h.low, h.low', h.mono, fun i hi => (h.held i hi).ext ex id2 le, fun p hp => ?_, fun e he => (h.laid e he).ext ex id2 le⟩
  · have hs' : upN (upN w.m c (some s')) c none c' = some s'' := hs'
    unfold upN at hs'
    split at hs'
    · cases hs'
    · rename_i e
      obtain ⟨p1, p2, p3, p4, p5, ⟨d1, r1, r2, r3, r4⟩, p7⟩ := h.act c' s'' hs'
      have hne : w.at' c' ≠ w.at' c := fun f => by
        rw [f, b1] at r1
        cases r1
        have := b3.symm.trans r3
        omega
      refine ⟨p1, p2, p3, p4, p5.mono (fun i => sle.refl _) (fun t z e => e.ext ex id2 le), ⟨d1, ?_, r2, r3, r4⟩, p7⟩
      show (w.ds.modify (w.at' c) _)[w.at' c']? = some d1
      rw [md_at, if_neg hne]
      exact r1
  · rcases at0 j d hd with ⟨rfl, rfl⟩ | ⟨hj, hd⟩
    · exact absurd he (show w.now + 1 ≠ 0 by omega)
    · obtain ⟨c', s'', e1, e2⟩ := h.open' j d hd he
      have hc : c' ≠ c := fun f => hj (by rw [← e2, f])
      exact ⟨c', s'', (by show upN (upN w.m c (some s')) c none c' = _; unfold upN; rw [if_neg hc, if_neg hc]; exact e1), e2⟩
  · rcases at0 j d hd with ⟨rfl, rfl⟩ | ⟨hj, hd⟩
    · obtain ⟨f1, f2, f3, f4⟩ := hfin ho
      refine ⟨?_, f2, fun e => ?_, fun e => ?_⟩
      · show Low (wdG w) (G (w.at' c)) d0.wr st
        rw [b4, ← hisW]; exact f1
      · exact (f3 (by rw [hisW, ← b4]; exact e)).ext ex id2 le
      · have q := f4 (by rw [hisW, ← b4]; exact e)
        exact ⟨by show st.c = d0.cl; rw [b3, ← a2, ← hcl]; exact q.1, q.2⟩
    · obtain ⟨f1, f2, f3, f4⟩ := h.fin j d hd he ho
      exact ⟨f1, f2, fun e => (f3 e).ext ex id2 (Int.le_refl _), f4⟩
  · show d.beg ≤ w.now + 1 ∧ (d.en ≠ 0 → d.beg < d.en ∧ d.en ≤ w.now + 1)
    rcases at0 j d hd with ⟨rfl, rfl⟩ | ⟨hj, hd⟩
    · have q := (h.time _ d0 b1).1
      exact ⟨by show d0.beg ≤ _; omega, fun _ => ⟨by show d0.beg < w.now + 1; omega, Int.le_refl _⟩⟩
    · have q := h.time j d hd
      exact ⟨by omega, fun e => ⟨(q.2 e).1, by have := (q.2 e).2; omega⟩⟩
  · rcases at0 j d hd with ⟨rfl, rfl⟩ | ⟨hj, hd⟩
    · exact h.cls _ d0 b1
    · exact h.cls j d hd
  · rcases at0 i a ha with ⟨rfl, rfl⟩ | ⟨hi, ha⟩
    · rcases at0 j b hb with ⟨rfl, rfl⟩ | ⟨hj, hb⟩
      · omega
      · exact absurd b2 (h.seq _ j d0 b hij b1 hb hc).1
    · rcases at0 j b hb with ⟨rfl, rfl⟩ | ⟨hj, hb⟩
      · exact h.seq i _ a d0 hij ha b1 hc
      · exact h.seq i j a b hij ha hb hc
  · rcases at0 i a ha with ⟨rfl, rfl⟩ | ⟨hi, ha⟩
    · exfalso
      have hlt : w.now + 1 < b.beg := hlt
      rcases at0 j b hb with ⟨rfl, rfl⟩ | ⟨hj, hb⟩
      · have q := (h.time _ d0 b1).1
        have : w.now + 1 < d0.beg := hlt
        omega
      · have q := (h.time j b hb).1
        omega
    · rcases at0 j b hb with ⟨rfl, rfl⟩ | ⟨hj, hb⟩
      · exact h.past i _ a d0 ha b1 he ho hlt
      · exact h.past i j a b ha hb he ho hlt
  · rcases at0 j d hd with ⟨rfl, rfl⟩ | ⟨hj, hd⟩
    · have q := h.tg _ d0 t b1 ht
      exact ⟨q.1, q.2.1, fun _ => hT t ht⟩
    · exact h.tg j d t hd ht
  · obtain ⟨j, d, h1, h2, h3, h4⟩ := h.msg p hp
    obtain ⟨d', e1, e2, e3, e4, e5⟩ := ex j d h1
    refine ⟨j, d', e1, h2, h3, ?_⟩
    rw [e3]
    rcases h4 with ⟨q1, q2, q3, q4⟩ | ⟨q1, q2, q3, q4⟩
    · exact .inl ⟨q1, q2, q3, q4.imp id (fun q => ⟨q.1, q.2.1, q.2.2.ext ex id2 le⟩)⟩
    · refine .inr ⟨q1, q2, q3, ?_⟩
      rcases q4 with ⟨k, a, b, c⟩ | q4
      · exact .inl ⟨k, a, b, fun e => (c e).ext ex id2 le⟩
      · exact .inr q4
end
end Go.Proofs.Ytgiokkcdgoloaaa.Md
namespace Go.Proofs.Ytgiokkcdgoloaaa.Md
open Go.RowKit
set_option linter.unusedVariables false
set_option linter.unusedSimpArgs false
theorem MK.narrow {zs : List Int} {B H : Int → Sp} {V V' : Sp → List Int → Prop} {s : RM} (h : MK zs B H V' s) (h1 : s.isW = false → ∀ t z, V' t z → V t z) (h2 : ∀ b U, s.ph = .lay b U → (s.isW = true → b.st.c = s.cl ∧ s.aim = .wr b.z) → V' b.st b.z → V b.st b.z) : MK zs B H V s := by
  refine ⟨h.gz, ?_⟩
  have hp := h.ph
  cases e : s.ph with
  | fresh => trivial
  | ask X =>
    rw [e] at hp
    obtain ⟨g1, g2, g3, g4⟩ := hp
    exact ⟨g1, g2, g3, fun i b hb => ⟨(g4 i b hb).1, (g4 i b hb).2.1, fun hw => h1 hw _ _ ((g4 i b hb).2.2 hw)⟩⟩
  | lay b U =>
    rw [e] at hp
    obtain ⟨g1, g2, g3, g4, g5, g6, g7, g8⟩ := hp
    exact ⟨g1, g2, g3, g4, g5, h2 b U e g7 g6, g7, g8⟩
  | fin er st z =>
    rw [e] at hp
    intro h0
    obtain ⟨q1, q2, q3, q4⟩ := hp h0
    exact ⟨q1, q2, fun hw => h1 hw _ _ (q3 hw), q4⟩
theorem hit_op {s : RM} {k : Int} {p : Pm} (h : hitP s k (mgP p) = true) : p.k = k ∧ p.op = s.op := by
  unfold hitP hitB at h
  simp only [Bool.and_eq_true, beq_iff_eq] at h
  exact ⟨h.1, h.2.2.2.1⟩
section
variable {w : Wd} {G : Nat → Int → Sp} {T : Nat → Option Sp}
theorem look_on {w : Wd} {c : Nat} {s : RM} (hm : w.m c = some s) (hn : ∀ er st z, s.ph ≠ .fin er st z) : lookW w c = { w with rd := upN w.rd c s.rd } := by
  unfold lookW
  rw [hm]
  dsimp only
  cases e : s.ph with
  | fin er st z => exact absurd e (hn er st z)
  | fresh => rfl
  | ask X => rfl
  | lay b U => rfl
theorem WInv.rdU (h : WInv w G T) (f : Nat → Int) : WInv { w with rd := f } G T := h.like ⟨rfl, rfl, rfl, rfl, rfl, rfl⟩ h.br h.msg h.laid
theorem WInv.clie (h : WInv w G T) {p : Pm} (hp : UnOk w G T p) (hc : p.too.cl = true) (c : Nat) : ∃ T', WInv (clieW w p c) G T' := by
  unfold clieW
  cases hm : w.m c with
  | none => exact ⟨T, h⟩
  | some s =>
    dsimp only
    split
    · exact ⟨T, h⟩
    · obtain ⟨j, d, h1, h2, h3, h4⟩ := hp
      obtain ⟨q2, q3, q4⟩ : p.fr.cl = false ∧ p.fr.id ∈ wdG w ∧ ((p.k = 11 ∧ sle (G j p.fr.id) p.st ∧ sle p.st (hs w p.fr.id) ∧ (¬ (p.st.n = 0 ∧ p.st.c = 0) → Wrote w T p.st p.z w.now)) ∨ (p.k = 12 ∧ ∃ t, T j = some t ∧ sle t (hs w p.fr.id))) := by
        rcases h4 with ⟨q1, _⟩ | ⟨_, q⟩
        · rw [q1] at hc; cases hc
        · exact q
      obtain ⟨a1, a2, a3, a4, a5, ⟨d0, b1, b2, b3, b4, b5, b6⟩, a7⟩ := h.act c s hm
      have hnd : (wdG w).Nodup := by
        unfold wdG List.Nodup
        rw [List.pairwise_map]
        exact List.Pairwise.imp (fun h e => h (by omega)) List.nodup_range
      have hj : p.op = s.op → j = w.at' c := fun e => by rw [h2, a3] at e; omega
      have hmk := take_MK (V := fun t z => Told w T t z w.now ∨ (s.aim = .wr z ∧ t.c = s.cl ∧ Low (wdG w) (G (w.at' c)) true t)) (a5.mono (fun _ => sle.refl _) (fun _ _ e => .inl e)) hnd (mgP p) p.z
        (fun X hX hh hi => by
          obtain ⟨k1, k2⟩ := hit_op hh
          have e := hj k2
          subst e
          rcases q4 with ⟨_, r1, r2, r3⟩ | ⟨k, _⟩
          · exact ⟨r1, r2, fun e => .inl (.inr (r3 e))⟩
          · omega)
        (fun b U hU hh hi => by
          obtain ⟨k1, k2⟩ := hit_op hh
          have e := hj k2
          subst e
          rw [hU] at a7
          rcases q4 with ⟨k, _⟩ | ⟨k, t, r1, r2⟩
          · omega
          · have a7 : T (w.at' c) = some b.st := a7
            rw [a7] at r1
            cases r1
            exact r2)
        (fun n hn => by
          have hw : s.isW = false := by unfold RM.isW; rw [hn]
          have := b6 hw
          rw [hn] at this
          cases this
          exact .inl (.inl ⟨rfl, rfl⟩))
        (fun z t hz ht hl => .inr ⟨hz, ht, hl⟩)
      obtain ⟨o1, o2, o3, o4, o5, oc⟩ := take_outs s (mgP p) p.z
      generalize takP s (mgP p) p.z = o at hmk o1 o2 o3 o4 o5 oc
      obtain ⟨s', tt⟩ := o
      dsimp only at hmk o1 o2 o3 o4 o5 oc
      have hisW : s'.isW = s.isW := by unfold RM.isW; rw [o5]
      have rdN : s'.isW = false → ∀ t z, (Told w T t z w.now ∨ (s.aim = .wr z ∧ t.c = s.cl ∧ Low (wdG w) (G (w.at' c)) true t)) → Told w T t z w.now := fun hw t z e => by
        rcases e with e | ⟨e, _⟩
        · exact e
        · rw [hisW] at hw; rw [b6 hw] at e; cases e
      have wrote : ∀ (T' : Nat → Option Sp) (b : Bp), T' (w.at' c) = some b.st → s'.isW = true → b.st.c = s'.cl → s'.aim = .wr b.z → Wrote w T' b.st b.z w.now := fun T' b ht hw h1 h2 => by
        rw [hisW] at hw
        have e := b5 hw
        rw [← o5, h2] at e
        have ez : b.z = d0.z := by injection e
        exact ⟨w.at' c, d0, b1, b4.trans hw, by rw [b3, h1, o1, a2], ez.symm, (h.time _ d0 b1).1, ht⟩
      have id' : ∀ (j : Nat) (d : Dd), w.ds[j]? = some d → ∃ d' : Dd, w.ds[j]? = some d' ∧ d'.wr = d.wr ∧ d'.cl = d.cl ∧ d'.z = d.z ∧ d'.beg = d.beg := fun j d e => ⟨d, e, rfl, rfl, rfl, rfl⟩
      have hmc : ({ w with m := upN w.m c (some s') } : Wd).m c = some s' := by show upN w.m c (some s') c = _; unfold upN; rw [if_pos rfl]
      rcases oc with ⟨hss, oc⟩ | ⟨X, b, hX, hb, ht⟩
      · have ho : outs (s', tt) = [] := by unfold outs; dsimp only; rw [hss]; rfl
        rw [ho]
        show ∃ T', WInv (lookW { w with m := upN w.m c (some s') } c) G T'
        have stay : (∀ er st z, s'.ph ≠ .fin er st z) → (match s'.ph with | .lay b _ => T (w.at' c) = some b.st | .ask _ => T (w.at' c) = none | _ => False) → ∃ T', WInv (lookW { w with m := upN w.m c (some s') } c) G T' := fun hn hph => by
          have mk2 := hmk.narrow (V := fun t z => Told w T t z w.now) rdN (fun b U hU g hv => by
            by_cases hw : s'.isW = true
            · rw [hU] at hph; exact .inr (wrote T b hph hw (g hw).1 (g hw).2)
            · exact rdN (by simpa using hw) _ _ hv)
          have mv := h.move (T' := T) hm o1 o2 o3 o5 (fun _ _ e => e) (fun _ _ => rfl) mk2 hph (fun t ht => by
            have q := h.tg _ d0 t b1 ht
            exact ⟨by rw [← b4]; exact q.1, fun hw => by rw [a2, ← b3]; exact q.2.1 (by rw [b4]; exact hw)⟩)
          rw [look_on hmc hn]
          exact ⟨T, mv.rdU _⟩
        rcases oc with e | ⟨X, Y, e1, e2⟩ | ⟨b, U, Y, e1, e2⟩ | ⟨er, st, y, e1, e2⟩
        · refine stay (fun er st z f => ?_) (by rw [e]; exact a7)
          rw [e] at f
          rw [f] at a7
          exact a7
        · refine stay (fun er st z f => by rw [e2] at f; cases f) ?_
          rw [e2]
          rw [e1] at a7
          exact a7
        · refine stay (fun er st z f => by rw [e2] at f; cases f) ?_
          rw [e2]
          rw [e1] at a7
          exact a7
        · have mk2 := hmk.narrow (V := fun t z => Told w T t z w.now) rdN (fun b U hU => by rw [e1] at hU; cases hU)
          refine ⟨T, h.ends hm o5 o1 e1 mk2 (fun t ht => ?_)⟩
          rcases e2 with ⟨X, e2⟩ | ⟨b, U, e2, e3, e4⟩
          · rw [e2] at a7
            have a7 : T (w.at' c) = none := a7
            rw [a7] at ht; cases ht
          · rw [e2] at a7
            have a7 : T (w.at' c) = some b.st := a7
            rw [a7] at ht; cases ht; exact ⟨e3, e4⟩
      · rw [hX] at a7
        have a7 : T (w.at' c) = none := a7
        obtain ⟨T', hT'⟩ : ∃ T', T' = upN T (w.at' c) (some b.st) := ⟨_, rfl⟩
        have hT : ∀ j t, T j = some t → T' j = some t := fun j t e => by
          rw [hT']; unfold upN
          split
          · rename_i f; subst f; rw [a7] at e; cases e
          · exact e
        have tj : T' (w.at' c) = some b.st := by rw [hT']; unfold upN; rw [if_pos rfl]
        have mk2 := hmk.narrow (V := fun t z => Told w T' t z w.now) (fun hw t z e => (rdN hw t z e).ext id' hT (Int.le_refl _)) (fun b' U hU g hv => by
          rw [hb] at hU
          cases hU
          by_cases hw : s'.isW = true
          · exact .inr (wrote T' b tj hw (g hw).1 (g hw).2)
          · exact (rdN (by simpa using hw) _ _ hv).ext id' hT (Int.le_refl _))
        have hph := mk2.ph
        rw [hb] at hph
        obtain ⟨g1, g2, g3, g4, g5, g6, g7, g8⟩ := hph
        have mv := h.move (T' := T') hm o1 o2 o3 o5 hT (fun k hk => by rw [hT']; unfold upN; rw [if_neg hk]) mk2 (by rw [hb]; exact tj) (fun t ht => by
          rw [tj] at ht
          cases ht
          exact ⟨by rw [← hisW]; exact g5, fun hw => by rw [← o1]; exact (g7 (by rw [hisW]; exact hw)).1⟩)
        have hwr : Wrote w T' b.st b.z w.now := by
          rcases g6 with ⟨e, _⟩ | e
          · exact absurd e.symm (g8 (h.low _)).ne
          · exact e
        have hsend := mv.sendW (outs (s', tt)) _ (Like.refl _) mv (fun q hq => by
          unfold outs at hq
          obtain ⟨sv, hsv, rfl⟩ := List.mem_map.1 hq
          rw [ht] at hsv
          refine ⟨w.at' c, d0, b1, o2.trans a3, o3.trans a4, .inl ⟨rfl, ?_, ?_, .inr ⟨by show tt.k = 2; rw [ht], ?_, ?_⟩⟩⟩
          · have := a5.gz
            show sv ∈ wdG w
            rw [← this]; exact hsv
          · show (⟨true, s'.cl⟩ : Ad) = ⟨true, d0.cl⟩
            rw [b3, o1, a2]
          · show T' (w.at' c) = some tt.st
            rw [ht]; exact tj
          · show Wrote w T' tt.st tt.z w.now
            rw [ht]; exact hwr)
        refine ⟨T', ?_⟩
        rw [look_on (s := s') (by rw [hsend.2.m]; exact hmc) (fun er st z f => by rw [hb] at f; cases f)]
        exact hsend.1.rdU _
end
end Go.Proofs.Ytgiokkcdgoloaaa.Md
namespace Go.Proofs.Ytgiokkcdgoloaaa.Md
open Go.RowKit
set_option linter.unusedVariables false
set_option linter.unusedSimpArgs false
section
variable {w : Wd} {G : Nat → Int → Sp} {T : Nat → Option Sp}
theorem WInv.tick (h : WInv w G T) (c : Nat) : WInv (tickW w c) G T := by
  unfold tickW
  cases hm : w.m c with
  | none => exact h
  | some s =>
    dsimp only
    split
    · exact h
    · obtain ⟨a1, a2, a3, a4, a5, ⟨d0, b1, b2, b3, b4, b5, b6⟩, a7⟩ := h.act c s hm
      refine (h.sendW _ w (Like.refl w) h (fun q hq => ?_)).1
      unfold outs at hq
      obtain ⟨sv, hsv, rfl⟩ := List.mem_map.1 hq
      have hph := a5.ph
      unfold tikP at hsv ⊢
      have hfr : (⟨true, s.cl⟩ : Ad) = ⟨true, d0.cl⟩ := by rw [b3, a2]
      cases e : s.ph with
      | fresh => rw [e] at hsv; cases hsv
      | fin er st z => rw [e] at hsv; cases hsv
      | ask X =>
        rw [e] at hsv hph
        have hsv : sv ∈ missL X := hsv
        have hin : sv ∈ wdG w := by rw [← hph.1]; exact (List.mem_filter.1 hsv).1
        exact ⟨w.at' c, d0, b1, a3, a4, .inl ⟨rfl, hin, hfr, .inl rfl⟩⟩
      | lay b U =>
        rw [e] at hsv hph a7
        have hsv : sv ∈ missL U := hsv
        obtain ⟨g1, g2, g3, g4, g5, g6, g7, g8⟩ := hph
        have hin : sv ∈ wdG w := by rw [← g1]; exact (List.mem_filter.1 hsv).1
        refine ⟨w.at' c, d0, b1, a3, a4, .inl ⟨rfl, hin, hfr, .inr ⟨rfl, a7, ?_⟩⟩⟩
        rcases g6 with ⟨e', _⟩ | e'
        · exact absurd e'.symm (g8 (h.low _)).ne
        · exact e'
theorem sown_inv (n : Nat) : WInv (sownW n) (fun _ _ => spZ) (fun _ => none) := by
  refine ⟨rfl, fun c s e => (by cases e), fun j d e => (by cases e), fun j d e => (by cases e), fun j d e => (by cases e), fun j d e => (by cases e), fun i j a b _ e => (by cases e), fun i j a b e => (by cases e), fun j d t e => (by cases e), Int.le_refl _, fun _ _ => rfl, fun _ _ => sle.refl _, fun _ => sle.refl _, fun _ _ => sle.refl _, fun i e => absurd ⟨rfl, rfl⟩ e, fun p e => (by cases e), fun e h => (by cases h)⟩
theorem WInv.del (h : WInv w G T) {p : Pm} (hp : UnOk w G T p) : ∃ T', WInv (delW w p) G T' := by
  unfold delW
  have hp' := hp
  obtain ⟨j, d, h1, h2, h3, h4⟩ := hp'
  rcases h4 with ⟨q1, q2, q3, q4⟩ | ⟨q1, q2, q3, q4⟩
  · rw [if_neg (by rw [q1]; simp)]
    have hin : 0 ≤ p.too.id - 1 ∧ p.too.id - 1 < (w.n : Int) := by
      unfold wdG at q2
      obtain ⟨i, hi, e⟩ := List.mem_map.1 q2
      have := List.mem_range.1 hi
      omega
    rw [if_neg (by omega)]
    exact ⟨T, h.serv hp q1⟩
  · have hc : p.too.cl = true := by rw [q1]
    rw [if_pos hc]
    by_cases hlt : p.too.id - 1 < 0 ∨ 4 ≤ p.too.id - 1
    · exfalso
      have hcl : p.too.id = d.cl := by rw [q1]
      have := h.cls j d h1
      omega
    · rw [if_neg hlt]
      exact h.clie hp hc _
end
end Go.Proofs.Ytgiokkcdgoloaaa.Md
