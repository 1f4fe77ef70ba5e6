import Derived.Test.YtgdnofacgfjaeabGreatCf
namespace Go.Proofs.YtgdnofacgfjaeabGreat
open Go.RowKit
set_option linter.unusedVariables false

/-- A Reader's state: what is left and where it stands; or its first fault. -/
inductive RS where
  | ok (zs : List Int) (at_ : Nat)
  | bad (p : Nat) (c : Int)

/-- .. in memory; lb: the block in which what is left lies. -/
def Rs (w : World) (g lb : Nat) : RS → Prop
  | .ok zs at_ => ∃ la lc, Rd w g la lc zs at_ ∧ ∀ k, At la k → k = lb
  | .bad p c => RdF w g p c ∧ c ≠ 0

theorem Rs.lt {w : World} {g lb : Nat} {st : RS} (h : Rs w g lb st) : g < w.heap.size := by
  cases st with
  | ok zs at_ => obtain ⟨la, lc, hr, _⟩ := h; exact hr.lt
  | bad p c => exact (Array.getElem?_eq_some_iff.1 h.1).1
theorem Rs.kept {S : Nat → Prop} {w w' : World} {g lb : Nat} {st : RS} (h : Rs w g lb st) (hk : Kept S w w') (hg : ¬ S g) (hl : ¬ S lb) : Rs w' g lb st := by
  cases st with
  | ok zs at_ => obtain ⟨la, lc, hr, hb⟩ := h; exact ⟨la, lc, hr.kept hk hg (fun _ k hk e => by rw [hb k hk] at e; exact hl e), hb⟩
  | bad p c => exact ⟨(hk.block g (Array.getElem?_eq_some_iff.1 h.1).1 hg).trans h.1, h.2⟩
theorem Rs.no {w w' : World} {g lb : Nat} {st : RS} (h : Rs w g lb st) (hk : Kept No w w') : Rs w' g lb st := h.kept hk (fun e => e) (fun e => e)

def numS : RS → RS × Int
  | .ok zs at_ => match nr zs with
    | .error c => (.bad at_ c, 0)
    | .ok (u, k) => (.ok (zs.drop k) (at_ + k), (u : Int))
  | .bad p c => (.bad p c, 0)
def intS : RS → RS × Int
  | .ok zs at_ => match vr zs with
    | .error c => (.bad at_ c, 0)
    | .ok (u, k) => (.ok (zs.drop k) (at_ + k), unzz u)
  | .bad p c => (.bad p c, 0)
def bytesS : RS → RS × List Int
  | .ok zs at_ => match cr zs with
    | .error c => (.bad at_ c, [])
    | .ok (n, k) => (.ok (zs.drop (k + n)) (at_ + (k + n)), (zs.drop k).take n)
  | .bad p c => (.bad p c, [])
def endS : RS → RS
  | .ok zs at_ => if zs = [] then .ok zs at_ else .bad at_ 11
  | .bad p c => .bad p c
def moreS : RS → Bool
  | .ok zs _ => decide (0 < zs.length)
  | .bad _ _ => false
def errS : RS → Int × Int
  | .ok _ _ => (0, 0)
  | .bad p c => (p, c)

theorem vr_code {zs : List Int} {c : Int} (h : vr zs = .error c) : c = 10 ∨ c = 11 := by
  suffices H : ∀ f i, vrGo zs i f = .error c → c = 10 ∨ c = 11 from H 10 0 h
  intro f
  induction f with
  | zero => intro i h; simp [vrGo] at h; omega
  | succ f ih =>
    intro i h
    rw [vrGo] at h
    split at h
    · simp at h; omega
    · split at h
      · split at h
        · simp at h; omega
        · cases h
      · exact ih (i + 1) h
theorem nr_code {zs : List Int} {c : Int} (h : nr zs = .error c) : c = 10 ∨ c = 11 := by
  unfold nr at h
  split at h
  · rename_i c' hv; simp at h; subst h; exact vr_code hv
  · split at h
    · simp at h; omega
    · cases h
theorem cr_code {zs : List Int} {c : Int} (h : cr zs = .error c) : c = 10 ∨ c = 11 := by
  unfold cr at h
  split at h
  · rename_i c' hv; simp at h; subst h; exact nr_code hv
  · split at h
    · simp at h; omega
    · cases h

theorem heap_new (w : World) (o : Obj) : (w.alloc o).heap[w.heap.size]? = some o := by
  show (w.heap.push o)[w.heap.size]? = some o
  simp
theorem heap_new1 (w : World) (o o' : Obj) : ((w.alloc o).alloc o').heap[w.heap.size + 1]? = some o' := by
  have := heap_new (w.alloc o) o'
  rwa [World.heap_size_alloc1] at this

set_option maxRecDepth 1000000 in
set_option maxHeartbeats 2000000 in
theorem Num_all (g lb : Nat) (st : RS) (w : World) (h : Rs w g lb st) :
    Calls Tryz.prog 102 #[.pointer (some ⟨g, 0, none⟩)] w fun e w' => e = .returned (.int .i64 (numS st).2) ∧ Rs w' g lb (numS st).1 ∧ Kept (Only g) w w' := by
  have hmf : ∀ (fn : Fn) (first cap : Array Value) (w : World), (Instr.makeFunc fn first cap).run Tryz.prog w = .ok (.func fn first cap) w := fun _ _ _ _ => rfl
  have hglt := h.lt
  have HK0 : Hid (Kept No w ((w.alloc (Obj.cells #[.pointer (some ⟨g, 0, none⟩)] 137)).alloc (Obj.cells #[.int .i64 0] 3))) := ((Kept.refl _ _).alloc _).alloc _
  have HN0 : Hid (((w.alloc (Obj.cells #[.pointer (some ⟨g, 0, none⟩)] 137)).alloc (Obj.cells #[.int .i64 0] 3)).heap[w.heap.size + 1]? = some (.cells #[.int .i64 0] 3 (0, 0))) := heap_new1 _ _ _
  have HA0 : Hid (((w.alloc (Obj.cells #[.pointer (some ⟨g, 0, none⟩)] 137)).alloc (Obj.cells #[.int .i64 0] 3)).cell? ⟨w.heap.size, 0, none⟩ = some (.pointer (some ⟨g, 0, none⟩))) := by simp [Hid]
  cases st with
  | bad p c =>
    have HF : Hid (RdF w g p c) := h.1
    have HC : Hid (c ≠ 0) := h.2
    clear h
    go_enter Tryz.func102, Tryz.ntmps102
    go_wp2_with fail
    refine (catch_bad _ g p c _ ((HK0.out.block g hglt (fun e => e)).trans HF.out) HC.out).mono ?_
    rintro e w1 ⟨rfl, hk⟩
    have cN : w1.cell? ⟨w.heap.size + 1, 0, none⟩ = some (.int .i64 0) := hk.cell (by simp) (fun e => e)
    have HK1 : Hid (Kept No w w1) := HK0.out.then hk
    clear hk
    go_wp2
    go_ret
    exact ⟨rfl, ⟨(HK1.out.block g hglt (fun e => e)).trans HF.out, HC.out⟩, HK1.out.of_no⟩
  | ok zs at_ =>
    obtain ⟨la, lc, hr, hb⟩ := h
    have HR : Hid (Rd w g la lc zs at_) := hr
    have HB : Hid (∀ k, At la k → k = lb) := hb
    clear hr hb
    go_enter Tryz.func102, Tryz.ntmps102
    go_wp2_with fail
    refine (catch_any 140 _ (run53 _) g la lc zs at_ (fun W w' => ∃ u k, nr zs = .ok (u, k) ∧ Laid g (w.heap.size + 1) 3 la zs at_ k (.int .i64 (u : Int)) W w') (fun c => nr zs = .error c) _ (HR.out.no HK0.out) (fun W hk => num1_any w.heap.size (w.heap.size + 1) g la lc zs at_ W ((HR.out.no HK0.out).no hk) (hk.cell HA0.out (fun e => e)) ((hk.block _ (Array.getElem?_eq_some_iff.1 HN0.out).1 (fun e => e)).trans HN0.out) (by omega))).mono ?_
    rintro e w1 ⟨rfl, hcase⟩
    rcases hcase with ⟨W, hW, hok⟩ | ⟨c, hbad, hF, hk⟩
    · obtain ⟨u, k, hv, hlaid⟩ := hok
      have cN : w1.cell? ⟨w.heap.size + 1, 0, none⟩ = some (.int .i64 (u : Int)) := by rw [cell_of_row w1 (w.heap.size + 1) 0 _ 3 (0, 0) hlaid.1]; rfl
      have HK1 : Hid (Kept (Only g) w w1) := (HK0.out.then hW).of_no.trans hlaid.2.2 (fun _ e => e) (fun i hi e => by
        rcases e with e | e
        · exact e
        · omega)
      have HP : Hid (Rs w1 g lb (numS (.ok zs at_)).1 ∧ (numS (.ok zs at_)).2 = (u : Int)) := by
        obtain ⟨b', off', lc', ha, hr⟩ := hlaid.2.1
        have e : numS (.ok zs at_) = (.ok (zs.drop k) (at_ + k), (u : Int)) := by simp only [numS, hv]
        rw [e]
        exact ⟨⟨_, _, hr, fun i hi => by obtain ⟨ad, e1, rfl⟩ := hi; cases e1; exact HB.out _ ha⟩, rfl⟩
      clear hW hlaid hv
      go_wp2
      go_ret
      exact ⟨ret_int HP.out.2.symm, HP.out.1, HK1.out⟩
    · have cN : w1.cell? ⟨w.heap.size + 1, 0, none⟩ = some (.int .i64 0) := hk.cell (by simp) (fun e => by have e' : w.heap.size + 1 = g := e; omega)
      have HK1 : Hid (Kept (Only g) w w1) := HK0.out.of_no.then hk
      have HP : Hid (Rs w1 g lb (numS (.ok zs at_)).1 ∧ numS (.ok zs at_) = (.bad at_ c, 0)) := by
        have e : numS (.ok zs at_) = (.bad at_ c, 0) := by simp only [numS, hbad]
        rw [e]
        exact ⟨⟨hF, by have := nr_code hbad; omega⟩, rfl⟩
      clear hbad hF hk
      go_wp2
      go_ret
      exact ⟨ret_int (by rw [HP.out.2]), HP.out.1, HK1.out⟩

set_option maxRecDepth 1000000 in
set_option maxHeartbeats 2000000 in
theorem Text_all (g lb : Nat) (st : RS) (w : World) (h : Rs w g lb st) :
    Calls Tryz.prog 100 #[.pointer (some ⟨g, 0, none⟩)] w fun e w' => e = .returned (.string (strOf (bytesS st).2)) ∧ Rs w' g lb (bytesS st).1 ∧ Kept (Only g) w w' := by
  have hmf : ∀ (fn : Fn) (first cap : Array Value) (w : World), (Instr.makeFunc fn first cap).run Tryz.prog w = .ok (.func fn first cap) w := fun _ _ _ _ => rfl
  have hglt := h.lt
  have HK0 : Hid (Kept No w ((w.alloc (Obj.cells #[.pointer (some ⟨g, 0, none⟩)] 137)).alloc (Obj.cells #[.string ByteArray.empty] 9))) := ((Kept.refl _ _).alloc _).alloc _
  have HN0 : Hid (((w.alloc (Obj.cells #[.pointer (some ⟨g, 0, none⟩)] 137)).alloc (Obj.cells #[.string ByteArray.empty] 9)).heap[w.heap.size + 1]? = some (.cells #[.string ByteArray.empty] 9 (0, 0))) := heap_new1 _ _ _
  have HA0 : Hid (((w.alloc (Obj.cells #[.pointer (some ⟨g, 0, none⟩)] 137)).alloc (Obj.cells #[.string ByteArray.empty] 9)).cell? ⟨w.heap.size, 0, none⟩ = some (.pointer (some ⟨g, 0, none⟩))) := by simp [Hid]
  cases st with
  | bad p c =>
    have HF : Hid (RdF w g p c) := h.1
    have HC : Hid (c ≠ 0) := h.2
    clear h
    go_enter Tryz.func100, Tryz.ntmps100
    go_wp2_with fail
    refine (catch_bad _ g p c _ ((HK0.out.block g hglt (fun e => e)).trans HF.out) HC.out).mono ?_
    rintro e w1 ⟨rfl, hk⟩
    have cN : w1.cell? ⟨w.heap.size + 1, 0, none⟩ = some (.string ByteArray.empty) := hk.cell (by simp) (fun e => e)
    have HK1 : Hid (Kept No w w1) := HK0.out.then hk
    clear hk
    go_wp2
    go_ret
    exact ⟨rfl, ⟨(HK1.out.block g hglt (fun e => e)).trans HF.out, HC.out⟩, HK1.out.of_no⟩
  | ok zs at_ =>
    obtain ⟨la, lc, hr, hb⟩ := h
    have HR : Hid (Rd w g la lc zs at_) := hr
    have HB : Hid (∀ k, At la k → k = lb) := hb
    clear hr hb
    go_enter Tryz.func100, Tryz.ntmps100
    go_wp2_with fail
    refine (catch_any 139 _ (run62 _) g la lc zs at_ (fun W w' => ∃ n k, cr zs = .ok (n, k) ∧ Laid g (w.heap.size + 1) 9 la zs at_ (k + n) (.string (strOf ((zs.drop k).take n))) W w') (fun c => cr zs = .error c) _ (HR.out.no HK0.out) (fun W hk => text1_any w.heap.size (w.heap.size + 1) g la lc zs at_ W ((HR.out.no HK0.out).no hk) (hk.cell HA0.out (fun e => e)) ((hk.block _ (Array.getElem?_eq_some_iff.1 HN0.out).1 (fun e => e)).trans HN0.out) (by omega))).mono ?_
    rintro e w1 ⟨rfl, hcase⟩
    rcases hcase with ⟨W, hW, hok⟩ | ⟨c, hbad, hF, hk⟩
    · obtain ⟨n, k, hv, hlaid⟩ := hok
      have cN : w1.cell? ⟨w.heap.size + 1, 0, none⟩ = some (.string (strOf ((zs.drop k).take n))) := by rw [cell_of_row w1 (w.heap.size + 1) 0 _ 9 (0, 0) hlaid.1]; rfl
      have HK1 : Hid (Kept (Only g) w w1) := (HK0.out.then hW).of_no.trans hlaid.2.2 (fun _ e => e) (fun i hi e => by
        rcases e with e | e
        · exact e
        · omega)
      have HP : Hid (Rs w1 g lb (bytesS (.ok zs at_)).1 ∧ (bytesS (.ok zs at_)).2 = (zs.drop k).take n) := by
        obtain ⟨b', off', lc', ha, hr⟩ := hlaid.2.1
        have e : bytesS (.ok zs at_) = (.ok (zs.drop (k + n)) (at_ + (k + n)), (zs.drop k).take n) := by simp only [bytesS, hv]
        rw [e]
        exact ⟨⟨_, _, hr, fun i hi => by obtain ⟨ad, e1, rfl⟩ := hi; cases e1; exact HB.out _ ha⟩, rfl⟩
      clear hW hlaid hv
      generalize (zs.drop k).take n = L at cN HP
      go_wp2
      go_ret
      exact ⟨by rw [HP.out.2]; rfl, HP.out.1, HK1.out⟩
    · have cN : w1.cell? ⟨w.heap.size + 1, 0, none⟩ = some (.string ByteArray.empty) := hk.cell (by simp) (fun e => by have e' : w.heap.size + 1 = g := e; omega)
      have HK1 : Hid (Kept (Only g) w w1) := HK0.out.of_no.then hk
      have HP : Hid (Rs w1 g lb (bytesS (.ok zs at_)).1 ∧ bytesS (.ok zs at_) = (.bad at_ c, [])) := by
        have e : bytesS (.ok zs at_) = (.bad at_ c, []) := by simp only [bytesS, hbad]
        rw [e]
        exact ⟨⟨hF, by have := cr_code hbad; omega⟩, rfl⟩
      clear hbad hF hk
      go_wp2
      go_ret
      exact ⟨by rw [HP.out.2]; rfl, HP.out.1, HK1.out⟩

set_option maxRecDepth 1000000 in
set_option maxHeartbeats 2000000 in
theorem Bytes_all (g lb : Nat) (st : RS) (w : World) (h : Rs w g lb st) :
    Calls Tryz.prog 83 #[.pointer (some ⟨g, 0, none⟩)] w fun e w' => ∃ a' n' c', e = .returned (.slice a' n' c') ∧ n' = (bytesS st).2.length ∧ OwnS w' w.heap.size a' c' (bytesS st).2 ∧ Rs w' g lb (bytesS st).1 ∧ Kept (Only g) w w' := by
  have hmf : ∀ (fn : Fn) (first cap : Array Value) (w : World), (Instr.makeFunc fn first cap).run Tryz.prog w = .ok (.func fn first cap) w := fun _ _ _ _ => rfl
  have hglt := h.lt
  have HK0 : Hid (Kept No w ((w.alloc (Obj.cells #[.pointer (some ⟨g, 0, none⟩)] 137)).alloc (Obj.cells #[.slice none 0 0] 30))) := ((Kept.refl _ _).alloc _).alloc _
  have HN0 : Hid (((w.alloc (Obj.cells #[.pointer (some ⟨g, 0, none⟩)] 137)).alloc (Obj.cells #[.slice none 0 0] 30)).heap[w.heap.size + 1]? = some (.cells #[.slice none 0 0] 30 (0, 0))) := heap_new1 _ _ _
  have HA0 : Hid (((w.alloc (Obj.cells #[.pointer (some ⟨g, 0, none⟩)] 137)).alloc (Obj.cells #[.slice none 0 0] 30)).cell? ⟨w.heap.size, 0, none⟩ = some (.pointer (some ⟨g, 0, none⟩))) := by simp [Hid]
  cases st with
  | bad p c =>
    have HF : Hid (RdF w g p c) := h.1
    have HC : Hid (c ≠ 0) := h.2
    clear h
    go_enter Tryz.func83, Tryz.ntmps83
    go_wp2_with fail
    refine (catch_bad _ g p c _ ((HK0.out.block g hglt (fun e => e)).trans HF.out) HC.out).mono ?_
    rintro e w1 ⟨rfl, hk⟩
    have cN : w1.cell? ⟨w.heap.size + 1, 0, none⟩ = some (.slice none 0 0) := hk.cell (by simp) (fun e => e)
    have HK1 : Hid (Kept No w w1) := HK0.out.then hk
    clear hk
    go_wp2
    go_ret
    exact ⟨none, 0, 0, rfl, rfl, OwnS.nil _ _, ⟨(HK1.out.block g hglt (fun e => e)).trans HF.out, HC.out⟩, HK1.out.of_no⟩
  | ok zs at_ =>
    obtain ⟨la, lc, hr, hb⟩ := h
    have HR : Hid (Rd w g la lc zs at_) := hr
    have HB : Hid (∀ k, At la k → k = lb) := hb
    clear hr hb
    go_enter Tryz.func83, Tryz.ntmps83
    go_wp2_with fail
    refine (catch_any 133 _ (run60 _) g la lc zs at_ (fun W w' => ∃ n k, cr zs = .ok (n, k) ∧ ∃ a' c', Laid g (w.heap.size + 1) 30 la zs at_ (k + n) (.slice a' n c') W w' ∧ OwnS w' W.heap.size a' c' ((zs.drop k).take n)) (fun c => cr zs = .error c) _ (HR.out.no HK0.out) (fun W hk => bytes1_any w.heap.size (w.heap.size + 1) g la lc zs at_ W ((HR.out.no HK0.out).no hk) (hk.cell HA0.out (fun e => e)) ((hk.block _ (Array.getElem?_eq_some_iff.1 HN0.out).1 (fun e => e)).trans HN0.out) (by omega))).mono ?_
    rintro e w1 ⟨rfl, hcase⟩
    rcases hcase with ⟨W, hW, hok⟩ | ⟨c, hbad, hF, hk⟩
    · obtain ⟨n, k, hv, a2, c2, hlaid, hO⟩ := hok
      have cN : w1.cell? ⟨w.heap.size + 1, 0, none⟩ = some (.slice a2 n c2) := by rw [cell_of_row w1 (w.heap.size + 1) 0 _ 30 (0, 0) hlaid.1]; rfl
      have HK1 : Hid (Kept (Only g) w w1) := (HK0.out.then hW).of_no.trans hlaid.2.2 (fun _ e => e) (fun i hi e => by
        rcases e with e | e
        · exact e
        · omega)
      have HP : Hid (Rs w1 g lb (bytesS (.ok zs at_)).1 ∧ n = (bytesS (.ok zs at_)).2.length ∧ OwnS w1 w.heap.size a2 c2 (bytesS (.ok zs at_)).2) := by
        obtain ⟨b', off', lc', ha, hr⟩ := hlaid.2.1
        have e : bytesS (.ok zs at_) = (.ok (zs.drop (k + n)) (at_ + (k + n)), (zs.drop k).take n) := by simp only [bytesS, hv]
        rw [e]
        refine ⟨⟨_, _, hr, fun i hi => by obtain ⟨ad, e1, rfl⟩ := hi; cases e1; exact HB.out _ ha⟩, ?_, hO.lower (HK0.out.then hW).size⟩
        have := (cr_bd hv).2.2.1
        simp only [List.length_take, List.length_drop]; omega
      clear hW hlaid hv hO
      go_wp2
      go_ret
      exact ⟨a2, n, c2, rfl, HP.out.2.1, HP.out.2.2, HP.out.1, HK1.out⟩
    · have cN : w1.cell? ⟨w.heap.size + 1, 0, none⟩ = some (.slice none 0 0) := hk.cell (by simp) (fun e => by have e' : w.heap.size + 1 = g := e; omega)
      have HK1 : Hid (Kept (Only g) w w1) := HK0.out.of_no.then hk
      have HP : Hid (Rs w1 g lb (bytesS (.ok zs at_)).1 ∧ bytesS (.ok zs at_) = (.bad at_ c, [])) := by
        have e : bytesS (.ok zs at_) = (.bad at_ c, []) := by simp only [bytesS, hbad]
        rw [e]
        exact ⟨⟨hF, by have := cr_code hbad; omega⟩, rfl⟩
      clear hbad hF hk
      go_wp2
      go_ret
      exact ⟨none, 0, 0, rfl, by rw [HP.out.2]; rfl, by rw [HP.out.2]; exact OwnS.nil _ _, HP.out.1, HK1.out⟩

end Go.Proofs.YtgdnofacgfjaeabGreat
