import Derived.Test.YtnhjpghkmbgeaabBk
import Derived.Deep.CutBlock
import Derived.Deep.DeepCutAuto
namespace Go.Proofs.Ytnhjpghkmbgeaab
open Go.RowKit
set_option linter.unusedVariables false
namespace wireBook

/-- Bytes of a row that came in. -/
structure Bod where
  a : Option Addr
  l : Nat
  c : Nat
  zs : List Int
def Bods (w : World) (ba : Option Addr) (bs : List Bod) : Prop := ∀ (i : Nat) b, bs[i]? = some b → ∃ g off, ba = some ⟨g, off, none⟩ ∧ w.cell? ⟨g, off + i, none⟩ = some (.slice b.a b.l b.c) ∧ Sl w b.a b.l b.c b.zs
theorem Bods.no {w w' : World} {ba : Option Addr} {bs : List Bod} (h : Bods w ba bs) (hk : Kept No w w') : Bods w' ba bs := by
  intro i b hb
  obtain ⟨g, off, e, hc, hs⟩ := h i b hb
  exact ⟨g, off, e, hk.cell hc (fun e => e), hs.no hk⟩

theorem done_s (base g : Nat) (a : Option Addr) (c : Nat) (F : List Int) (n : Nat) (w : World) (hn : F.length = n) (h : Ws w base g a c (some F)) (hlen : n ≤ 140737488355328) :
    Calls Try.prog 16 #[.pointer (some ⟨g, 0, none⟩)] w fun e w' => ∃ a' c', e = .returned (.tuple #[.slice a' n c', .int .i64 0]) ∧ OwnS w' w.heap.size a' c' F ∧ Kept No w w' := by
  subst hn
  exact (Done_all base g a c (some F) w h hlen).mono (fun e w' ⟨a', n', c', h1, h2, h3, h4⟩ => ⟨a', c', by rw [h1]; simp only [doneOf] at h2 ⊢; rw [h2], h3, h4⟩)

/-- The reader at item k. -/
def RdI (w wr : World) (g lb : Nat) (xs : List Item) (k : Nat) : Prop := (∃ at_, Rs wr g lb (.ok (flat (rightsOf ((xs.take 60).drop k))) at_)) ∧ lb < wr.heap.size ∧ Lb wr g lb ∧ w.heap.size ≤ g
theorem Lb.no {w w' : World} {g lb : Nat} (h : Lb w g lb) (hk : Kept No w w') : Lb w' g lb := by
  rcases h with h | ⟨cur, h⟩
  · exact .inl h
  · exact .inr ⟨cur, (hk.block lb (Array.getElem?_eq_some_iff.1 h).1 (fun e => e)).trans h⟩
theorem Lb.only {w w' : World} {g lb : Nat} (h : Lb w g lb) (hk : Kept (Only g) w w') : Lb w' g lb := by
  by_cases e : lb = g
  · exact .inl e
  · rcases h with h | ⟨cur, h⟩
    · exact absurd h e
    · exact .inr ⟨cur, (hk.block lb (Array.getElem?_eq_some_iff.1 h).1 e).trans h⟩
theorem RdI.no {w wr w' : World} {g lb : Nat} {xs : List Item} {k : Nat} (h : RdI w wr g lb xs k) (hk : Kept No wr w') : RdI w w' g lb xs k := by
  obtain ⟨⟨at_, h1⟩, h2, h3, h4⟩ := h
  exact ⟨⟨at_, h1.no hk⟩, by have := hk.size; omega, Lb.no h3 hk, h4⟩
/-- The row is grown beside it. -/
theorem RdI.row {w wr w' : World} {g lb : Nat} {xs : List Item} {k : Nat} (h : RdI w wr g lb xs k) {base : Nat} {ra : Option Addr} {rc : Nat} {K : List Ent} (hr : Rw wr base ra rc K) (hk : Kept (At ra) wr w') : RdI w w' g lb xs k := by
  obtain ⟨⟨at_, h1⟩, h2, h3, h4⟩ := h
  obtain ⟨c1, ht⟩ := h1.typ
  have ng : ¬ At ra g := fun e => by obtain ⟨c2, h5⟩ := hr.typ e; exact typ_ne ht h5 (by decide)
  have nl : ¬ At ra lb := fun e => by
    rcases h3 with h3 | ⟨cur, h3⟩
    · exact ng (h3 ▸ e)
    · obtain ⟨c2, h5⟩ := hr.typ e; exact typ_ne h3 h5 (by decide)
  refine ⟨⟨at_, h1.kept hk ng nl⟩, by have := hk.size; omega, ?_, h4⟩
  rcases h3 with h3 | ⟨cur, h3⟩
  · exact .inl h3
  · exact .inr ⟨cur, (hk.block lb (Array.getElem?_eq_some_iff.1 h3).1 nl).trans h3⟩
theorem Bk.rd {s : BkS} {wr w' : World} {ra : Option Addr} {rc : Nat} {K : List Ent} (h : Bk s wr ra rc K) {g lb : Nat} {st : RS} (hr : Rs wr g lb st) (hg : s.w.heap.size ≤ g) (hk : Kept (Only g) wr w') : Bk s w' ra rc K :=
  h.off hk (fun k e => by
    have e' : k = g := e
    subst e'
    obtain ⟨c1, ht⟩ := hr.typ
    exact ⟨hg, c1, 66, ht, by decide, by decide, by decide⟩)
theorem one_at {e : Ent} {w : World} {b : Nat} (h : w.cell? ⟨b, 0, none⟩ = some (entV e)) : ∀ (j : Nat) f, [e][j]? = some f → w.cell? ⟨b, j, none⟩ = some (entV f) := by
  intro j f hf
  match j, hf with
  | 0, hf => simp at hf; subst hf; exact h
  | j + 1, hf => simp at hf
theorem two_at {e f : Ent} {w : World} {b : Nat} (h : w.cell? ⟨b, 0, none⟩ = some (entV e)) (h' : w.cell? ⟨b, 1, none⟩ = some (entV f)) : ∀ (j : Nat) x, [e, f][j]? = some x → w.cell? ⟨b, j, none⟩ = some (entV x) := by
  intro j x hx
  match j, hx with
  | 0, hx => simp at hx; subst hx; exact h
  | 1, hx => simp at hx; subst hx; exact h'
  | j + 2, hx => simp at hx
/-- One or two new ones. -/
theorem Bk.two {s : BkS} {wr w1 w2 : World} {ra : Option Addr} {rc : Nat} {K : List Ent} (h : Bk s wr ra rc K) (h1 : Kept No wr w1) (h2 : Kept No w1 w2) {e f : Ent} {zs ys : List Int} (hl : zs.length = e.l) (ho : OwnS w1 wr.heap.size e.a e.c zs) (hb : e.l ≤ 1000000) (hl' : ys.length = f.l) (ho' : OwnS w2 w1.heap.size f.a f.c ys) (hb' : f.l ≤ 1000000) : ∃ Z, Erow w2 s.lo (K ++ [e, f]) Z := by
  obtain ⟨Z, hZ⟩ := (h.no h1).ents
  have hZ1 := (hZ.add hl (ho.lower h.lo.2) hb (fun k hk he => by have h1 := ho.base hk; have h2 := (h.eb he).2; omega)).no h2
  have hlt : ∀ k, EB (K ++ [e]) k → k < w1.heap.size := by
    rintro k ⟨x, hx, ha⟩
    rcases List.mem_append.1 hx with hx | hx
    · have := (h.eb ⟨x, hx, ha⟩).2; have := h1.size; omega
    · rw [List.mem_singleton.1 hx] at ha; exact ho.lt ha
  have hZ2 := hZ1.add hl' (ho'.lower (Nat.le_trans h.lo.2 h1.size)) hb' (fun k hk he => by have h1 := ho'.base hk; have h2 := hlt k he; omega)
  rw [List.append_assoc] at hZ2
  exact ⟨_, hZ2⟩

theorem own_lt {w : World} {base : Nat} {e : TypeId} {size : Nat} {a : Option Addr} {n c : Nat} {xs : List Value} (h : w.ownsRow base e size (.slice a n c) n xs) {k : Nat} (hk : At a k) : k < w.heap.size := by
  obtain ⟨cur, hc⟩ := own_type h hk
  exact (Array.getElem?_eq_some_iff.1 hc).1
/-- What was put. -/
def PutI (w wr : World) (xs : List Item) (k : Nat) : Prop := (∃ a c, Ws wr w.heap.size w.heap.size a c (allOf (rightsOf (xs.take k)))) ∧ Kept No w wr

set_option maxRecDepth 100000 in
set_option maxHeartbeats 8000000 in
theorem walk (la : Option Addr) (ln lc : Nat) (xs : List Item) (ba : Option Addr) (bn bc : Nat) (bs : List Bod) (w : World) (hn : xs.length = ln) (hb : ln ≤ 140737488355328) (hx : Its w la xs) (hok : ∀ x ∈ xs, ItOk w x) (hbn : bs.length = bn) (hbb : bn ≤ 140737488355328) (hbs : Bods w ba bs) :
    Calls Try.prog 6 #[.slice la ln lc, .slice ba bn bc] w fun e w' => e = .returned (.bool true) ∧ Kept No w w' := by
  have HX : Hid (Its w la xs) := hx
  have HO : Hid (∀ x ∈ xs, ItOk w x) := hok
  have HN : Hid (xs.length = ln) := hn
  have HBS : Hid (Bods w ba bs ∧ bs.length = bn) := ⟨hbs, hbn⟩
  clear hx hok hn hbs hbn
  go_enter Try.func6, Try.ntmps6
  go_upto_block 0 with fail
  go_cut [] (fun wx => Hid (PutI w wx xs 60))
  case first =>
    go_wp2_with fail
    go_loopw [6] (fun i wr => ∃ k : Nat, k ≤ ln ∧ k ≤ 60 ∧ i = .int .i64 (k : Int) ∧ Hid (PutI w wr xs k)) (fun i _ => ln - (intOf i).toNat)
    case atStart =>
      refine ⟨0, Nat.zero_le _, Nat.zero_le _, rfl, ⟨none, 0, ?_, OwnS.nil _ _, Nat.le_refl _⟩, (Kept.refl _ _).alloc _⟩
      exact heap_new _ _
    case round =>
      obtain ⟨k, hk, hk4, rfl, HI⟩ := hrel
      by_cases hlt : k < ln ∧ k < 60
      · obtain ⟨hl1, hl2⟩ := hlt
        obtain ⟨x, hxk⟩ : ∃ x, xs[k]? = some x := ⟨xs[k]'(by rw [HN.out]; exact hl1), by rw [List.getElem?_eq_getElem]⟩
        have HIx0 : Hid (ItOk w x) := HO.out x (List.mem_of_getElem? hxk)
        have HT : Hid (rightsOf (xs.take (k + 1)) = rightsOf (xs.take k) ++ (if x.m ≤ 2000 then [rightIt x] else [])) := rightsOf_take hxk
        have HP : Hid (Puts60 w (rightsOf (xs.take k))) := rights_60 HO.out k hk4
        obtain ⟨b, off, rfl, hc0, hc1, hc2⟩ := (HX.out.no HI.out.2) k x hxk
        clear hxk
        have i1 : (k : Int) < (ln : Int) := by omega
        have i2 : (k : Int) < 60 := by omega
        have HIx : Hid (ItOk w (rightIt x)) := rightIt_ok HIx0.out
        have HIr : Hid (ItR (rightIt x)) := rightIt_r x
        obtain ⟨xk, xn, xa, xm, xc, zs⟩ := x
        simp only at hc0 hc1 hc2
        go_wp2_with fail
        refine (right_any xk xn xa xm xc wr HIx0.out.lo HIx0.out.hi).mono ?_
        rintro e w0 ⟨rfl, hK0⟩
        have HK0 : Hid (Kept No wr w0) := hK0
        clear hK0 hc0 hc1 hc2 HIx0
        simp only [rightIt] at HT HIx HIr
        generalize rightK xk = rk at HT HIx HIr
        generalize rightN xk xn = rn at HT HIx HIr
        by_cases hm : (xm : Int) ≤ 2000
        · have HT2 : Hid (rightsOf (xs.take (k + 1)) = rightsOf (xs.take k) ++ [⟨rk, rn, xa, xm, xc, zs⟩]) := by have := HT.out; rw [if_pos (by omega)] at this; exact this
          obtain ⟨⟨a, c, hWs⟩, hkp⟩ := HI.out
          have HWs : Hid (Ws w0 w.heap.size w.heap.size a c (allOf (rightsOf (xs.take k)))) := hWs.no HK0.out
          have HKP : Hid (Kept No w w0) := hkp.then HK0.out
          have HTL : Hid (stLen (allOf (rightsOf (xs.take k))) ≤ 120600) := Nat.le_trans (allOf_len _ HP.out.ok) HP.out.tot
          clear hWs hkp HI HT HK0
          have HW2 : Hid (Ws (w0.alloc (Obj.cells #[.int .i64 rk, .int .i64 rn, .slice xa xm xc] 42)) w.heap.size w.heap.size a c (allOf (rightsOf (xs.take k)))) := HWs.out.no ((Kept.refl _ _).alloc _)
          go_wp2_with fail
          refine (put_any w.heap.size w.heap.size a c (allOf (rightsOf (xs.take k))) rk rn xa xm xc zs _ HW2.out ((HIx.out.no HKP.out).no ((Kept.refl _ _).alloc _)).sl HIx.out.lo HIx.out.hi (fun h0 k hk e => by have e1 := sl_lt HIx.out.sl h0 hk; have e2 := HWs.out.base e; omega) HIr.out.1 (by have := HTL.out; omega) (by have := HKP.out.size; simp; omega)).mono ?_
          rintro e w2 ⟨rfl, a2, c2, hw2, hk2, hm2⟩
          have HI2 : Hid (PutI w w2 xs (k + 1)) := by
            refine ⟨⟨a2, c2, ?_⟩, ?_⟩
            · rw [HT2.out, allOf_app]; exact hw2
            · exact (HKP.out.alloc _).fresh hk2 (fun i e => HW2.out.base e)
          clear hw2 hk2 hm2 HW2 HWs HKP HTL HT2
          go_wp2
          go_roundw
          case rel => exact ⟨k + 1, by omega, by omega, by go_num, HI2⟩
          case measure => simp [intOf]; omega
        · have HI2 : Hid (∀ W, Kept No w0 W → PutI w W xs (k + 1)) := by
            intro W hW
            have := HT.out
            rw [if_neg (by omega), List.append_nil] at this
            obtain ⟨⟨a, c, hWs⟩, hkp⟩ := HI.out
            refine ⟨⟨a, c, ?_⟩, (hkp.then HK0.out).then hW⟩
            rw [this]
            exact (hWs.no HK0.out).no hW
          clear HI HK0 HT
          go_wp2
          go_roundw
          case rel => exact ⟨k + 1, by omega, by omega, by go_num, HI2.out _ ((Kept.refl _ _).alloc _)⟩
          case measure => simp [intOf]; omega
      · have HE : Hid (PutI w wr xs 60) := by
          have e : xs.take k = xs.take 60 := by
            by_cases h6 : k = 60
            · rw [h6]
            · rw [List.take_of_length_le (by rw [HN.out]; omega), List.take_of_length_le (by rw [HN.out]; omega)]
          have := HI.out
          unfold PutI at this ⊢
          rw [e] at this
          exact this
        by_cases hl1 : k < ln
        · have i1 : (k : Int) < (ln : Int) := by omega
          have i2 : ¬ (k : Int) < 60 := by omega
          clear hlt
          go_wp2
          go_meet
          case rel => exact HE
        · have i1 : ¬ (k : Int) < (ln : Int) := by omega
          clear hlt
          go_wp2
          go_meet
          case rel => exact HE
  case rest =>
    have HI : Hid (PutI w wc xs 60) := hcut
    clear hcut
    have HP : Hid (Puts60 w (rightsOf (xs.take 60))) := rights_60 HO.out 60 (Nat.le_refl _)
    obtain ⟨F, hF⟩ : ∃ F, F = flat (rightsOf (xs.take 60)) := ⟨_, rfl⟩
    obtain ⟨n, hnF⟩ : ∃ n, n = F.length := ⟨_, rfl⟩
    have HF : Hid (allOf (rightsOf (xs.take 60)) = some F ∧ F = flat (rightsOf (xs.take 60)) ∧ U8 F ∧ F.length = n ∧ tot (rightsOf (xs.take 60)) ≤ 120600) := ⟨by rw [hF]; exact allOf_flat _ HP.out.r, hF, by rw [hF]; exact flat_u8 _ HP.out.ok, hnF.symm, HP.out.tot⟩
    have hn1 : (n : Int) ≤ 120600 := by have h1 := flat_len _ HP.out.ok; have h2 := HP.out.tot; rw [hnF, hF]; omega
    obtain ⟨⟨a, c, hWs⟩, hkp⟩ := HI.out
    rw [HF.out.1] at hWs
    have HW : Hid (Ws wc w.heap.size w.heap.size a c (some F)) := hWs
    have HK : Hid (Kept No w wc) := hkp
    clear hWs hkp HI hF hnF
    go_wp2_with fail
    refine (done_s w.heap.size w.heap.size a c F n wc HF.out.2.2.2.1 HW.out (by omega)).mono ?_
    rintro e w1 ⟨a1, c1, rfl, hO1, hK1⟩
    have HO1 : Hid (OwnS w1 wc.heap.size a1 c1 F) := hO1
    have HK1 : Hid (Kept No wc w1) := hK1
    clear hO1 hK1
    go_wp2_with (at_builtin; go_must (refine wp_app _ Try.underlying22 Try.info5 rfl _ _ rfl w1.heap.size _ 0 0 [] rfl rfl (own_empty w1) _ _ _ F rfl HF.out.2.2.2.1 (HO1.out.bytes.no ((Kept.refl _ _).alloc _)) HO1.out.nilcap (by have := HF.out.2.2.2.1; simp; omega) (by simp) ?_; intro a2 c2 w2 HO2 HK2 HN2))
    have hsz1 : wc.heap.size ≤ w1.heap.size := HK1.out.size
    have hsz0 : w.heap.size ≤ wc.heap.size := HK.out.size
    have HO2' : Hid (OwnS w2 w1.heap.size a2 c2 F) := by have := HO2.out; rw [List.nil_append] at this; exact this
    have HK2' : Hid (Kept No w1 w2) := ((Kept.refl No w1).alloc _).fresh HK2.out (fun k e => by have := at_some e; omega)
    obtain ⟨lo, hlo⟩ : ∃ lo, lo = w2.heap.size := ⟨_, rfl⟩
    have HB0 : Hid (Bk ⟨w, a, c, F, a1, c1, a2, c2, lo⟩ w2 none 0 []) := by
      have hk12 := HK1.out.then HK2'.out
      refine ⟨HW.out.no hk12, (HO1.out.no HK2'.out).lower hsz0, HO2'.out.lower (Nat.le_trans hsz0 hsz1), ?_, Rw.nil _ _, ⟨fun _ => [], Erow.nil _ _ _⟩, HK.out.then hk12, ?_, Nat.le_of_eq hlo⟩
      · intro k hk
        have hs2 := HK2'.out.size
        show k < lo
        rcases hk with hk | hk | hk
        · have := HO1.out.lt hk; omega
        · have := HO2'.out.lt hk; omega
        · have := HW.out.lt hk; omega
      · have := hk12.size
        show w.heap.size ≤ lo
        omega
    clear HW HK HO1 HK1 HO2 HK2 HN2 HO2' HK2' hsz0 hsz1 hlo
    go_loopw [11, 12] (fun v t wr => ∃ (q rn rc : Nat) (ra : Option Addr) (K : List Ent), q ≤ 3 ∧ t = .int .i64 (q : Int) ∧ v = .slice ra rn rc ∧ Hid (K.length = rn ∧ rn ≤ 61 * q ∧ Bk ⟨w, a, c, F, a1, c1, a2, c2, lo⟩ wr ra rc K)) (fun _ t _ => 3 - (intOf t).toNat)
    case atStart => exact ⟨0, 0, 0, none, [], Nat.zero_le _, rfl, rfl, rfl, Nat.zero_le _, HB0.out⟩
    case round =>
      obtain ⟨q, rn, rc, ra, K, hq, rfl, rfl, HB⟩ := hrel
      clear HB0
      by_cases hlt : q < 3
      · have i1 : (q : Int) < 3 := by omega
        have hrn : (rn : Int) ≤ 183 := by have := HB.out.2.1; omega
        go_wp2_with fail
        refine (done_s w.heap.size w.heap.size a c F n wr HF.out.2.2.2.1 HB.out.2.2.ws (by omega)).mono ?_
        rintro e w3 ⟨a3, c3, rfl, hO3, hK3⟩
        have HO3 : Hid (OwnS w3 wr.heap.size a3 c3 F) := hO3
        have HK3 : Hid (Kept No wr w3) := hK3
        clear hO3 hK3
        go_wp2_with fail
        refine (Read_2 a3 n c3 F w3 (HO3.out.sl HF.out.2.2.2.1 HF.out.2.2.1 (by omega))).mono ?_
        rintro e w4 ⟨g, lb, rfl, hg, hlb, hr, hK4, hgl, hlbl, hLb⟩
        have HB4 : Hid (Bk ⟨w, a, c, F, a1, c1, a2, c2, lo⟩ w4 ra rc K) := HB.out.2.2.no (HK3.out.then hK4)
        have HR4 : Hid (RdI w w4 g lb xs 0) := by
          refine ⟨⟨0, ?_⟩, hlbl, hLb, ?_⟩
          · rw [List.drop_zero, ← HF.out.2.1]; exact hr
          · have e1 := HB.out.2.2.kept.size; have e2 := HK3.out.size
            have e3 : w.heap.size ≤ wr.heap.size := e1
            omega
        have HO4 : Hid (OwnS w4 wr.heap.size a3 c3 F) := HO3.out.no hK4
        clear hr hK4 hgl hlbl hLb hg hlb HO3 HK3
        go_wp2_with fail
        have hsm := sameN_any a3 a2 n n c3 c2 F F w4 HF.out.2.2.2.1 HF.out.2.2.2.1 (by omega) (by omega) HO4.out.bytes HB4.out.wnt.bytes
        rw [eqB_refl] at hsm
        refine hsm.mono ?_
        rintro e w5 ⟨rfl, n5, hw5⟩
        have HK5 : Hid (Kept No w4 w5) := by rw [hw5]; exact (Kept.refl No _).drewN _
        clear hsm hw5
        have HB5 : Hid (Bk ⟨w, a, c, F, a1, c1, a2, c2, lo⟩ (w5.alloc (.cells #[.slice a3 n c3] 22)) ra rc K) := (HB4.out.no HK5.out).no ((Kept.refl _ _).alloc _)
        have HR5 : Hid (RdI w (w5.alloc (.cells #[.slice a3 n c3] 22)) g lb xs 0) := (HR4.out.no HK5.out).no ((Kept.refl _ _).alloc _)
        have HE5 : Hid (∃ Z, Erow (w5.alloc (.cells #[.slice a3 n c3] 22)) lo (K ++ [⟨a3, n, c3⟩]) Z) := HB.out.2.2.one HB5.out (e := ⟨a3, n, c3⟩) HF.out.2.2.2.1 ((HO4.out.no HK5.out).no ((Kept.refl _ _).alloc _)) (by show n ≤ 1000000; omega)
        go_wp2_with (at_builtin; go_must (refine wp_rowR rfl _ _ rfl lo _ _ _ K [⟨a3, n, c3⟩] rfl HB.out.1 HB5.out.row w5.heap.size _ _ rfl rfl (one_at (by simp [entV])) (by omega) HB5.out.lo.2 (rn + 1) rfl ?_; intro a6 c6 w6 HO6 HK6))
        have HB6 : Hid ((K ++ [(⟨a3, n, c3⟩ : Ent)]).length = rn + 1 ∧ rn + 1 ≤ 61 * q + 1 + 0 ∧ Bk ⟨w, a, c, F, a1, c1, a2, c2, lo⟩ w6 a6 c6 (K ++ [⟨a3, n, c3⟩])) := ⟨by rw [List.length_append, HB.out.1]; rfl, by have := HB.out.2.1; omega, HB5.out.grow HE5.out HO6.out HK6.out⟩
        have HR6 : Hid (RdI w w6 g lb xs 0) := HR5.out.row HB5.out.row HK6.out
        clear HB HB4 HB5 HR4 HR5 HE5 HO6 HK6 HO4 HK5
        generalize K ++ [(⟨a3, n, c3⟩ : Ent)] = K6 at HB6
        go_loopw [11, 16] (fun v i wr => ∃ (k rn rc : Nat) (ra : Option Addr) (K : List Ent), k ≤ ln ∧ k ≤ 60 ∧ i = .int .i64 (k : Int) ∧ v = .slice ra rn rc ∧ Hid (K.length = rn ∧ rn ≤ 61 * q + 1 + k ∧ Bk ⟨w, a, c, F, a1, c1, a2, c2, lo⟩ wr ra rc K) ∧ Hid (RdI w wr g lb xs k)) (fun _ i _ => ln - (intOf i).toNat)
        case atStart => exact ⟨0, _, _, _, K6, Nat.zero_le _, Nat.zero_le _, rfl, rfl, HB6, HR6⟩
        case round =>
          clear HB6 HR6 hrn
          obtain ⟨k, rn, rc, ra, K, hk, hk4, rfl, rfl, HB, HR⟩ := hrel
          have hrn : (rn : Int) ≤ 300 := by have := HB.out.2.1; omega
          by_cases hlt2 : k < ln ∧ k < 60
          · obtain ⟨hl1, hl2⟩ := hlt2
            obtain ⟨x, hxk⟩ : ∃ x, xs[k]? = some x := ⟨xs[k]'(by rw [HN.out]; exact hl1), by rw [List.getElem?_eq_getElem]⟩
            have HIx0 : Hid (ItOk w x) := HO.out x (List.mem_of_getElem? hxk)
            have HT : Hid (rightsOf ((xs.take 60).drop k) = (if x.m ≤ 2000 then [rightIt x] else []) ++ rightsOf ((xs.take 60).drop (k + 1))) := rights_drop (by rw [List.getElem?_take, if_pos hl2]; exact hxk)
            have hkp : Kept No w wr := HB.out.2.2.kept
            obtain ⟨b, off, rfl, hc0, hc1, hc2⟩ := (HX.out.no hkp) k x hxk
            clear hxk
            have j1 : (k : Int) < (ln : Int) := by omega
            have j2 : (k : Int) < 60 := by omega
            have HIx : Hid (ItOk w (rightIt x)) := rightIt_ok HIx0.out
            have HIr : Hid (ItR (rightIt x)) := rightIt_r x
            obtain ⟨xk, xn, xa, xm, xc, zs⟩ := x
            simp only at hc0 hc1 hc2
            go_wp2_with fail
            refine (right_any xk xn xa xm xc wr HIx0.out.lo HIx0.out.hi).mono ?_
            rintro e w0 ⟨rfl, hK0⟩
            have HK0 : Hid (Kept No wr w0) := hK0
            clear hK0 hc0 hc1 hc2 HIx0 hkp
            simp only [rightIt] at HT HIx HIr
            generalize rightK xk = rk at HT HIx HIr
            generalize rightN xk xn = xN at HT HIx HIr
            by_cases hm : (xm : Int) ≤ 2000
            · obtain ⟨w7, hw7⟩ : ∃ w7, w7 = w0.alloc (Obj.cells #[.int .i64 rk, .int .i64 xN, .slice xa xm xc] 42) := ⟨_, rfl⟩
              have hk7 : Kept No wr w7 := by rw [hw7]; exact HK0.out.alloc _
              have HB7 : Hid (Bk ⟨w, a, c, F, a1, c1, a2, c2, lo⟩ w7 ra rc K) := HB.out.2.2.no hk7
              obtain ⟨⟨at_, hr⟩, hlbl, hLb, hg⟩ := HR.out.no hk7
              rw [HT.out, if_pos (by omega : xm ≤ 2000), flat_app] at hr
              have HR7 : Hid (Rs w7 g lb (.ok (putOf ⟨rk, xN, xa, xm, xc, zs⟩ ++ flat (rightsOf ((xs.take 60).drop (k + 1)))) at_)) := by
                have e : flat [⟨rk, xN, xa, xm, xc, zs⟩] = putOf ⟨rk, xN, xa, xm, xc, zs⟩ := by simp [flat]
                rw [e] at hr
                exact hr
              have HG7 : Hid (lb < w7.heap.size ∧ Lb w7 g lb ∧ w.heap.size ≤ g) := ⟨hlbl, hLb, hg⟩
              have x0 : w7.cell? ⟨w0.heap.size, 0, none⟩ = some (.int .i64 rk) := by rw [hw7]; simp
              have x1 : w7.cell? ⟨w0.heap.size, 1, none⟩ = some (.int .i64 xN) := by rw [hw7]; simp
              have x2 : w7.cell? ⟨w0.heap.size, 2, none⟩ = some (.slice xa xm xc) := by rw [hw7]; simp
              have hgx : w0.heap.size ≠ g := fun e => by
                obtain ⟨c9, h9⟩ := HR7.out.typ
                have h10 : w7.heap[w0.heap.size]? = some (.cells #[.int .i64 rk, .int .i64 xN, .slice xa xm xc] 42 (0, 0)) := by rw [hw7]; exact heap_new _ _
                rw [e] at h10
                exact typ_ne h9 h10 (by decide)
              have HSx : Hid (Sl w7 xa xm xc zs) := (HIx.out.no (HB.out.2.2.kept.then hk7)).sl
              clear hr hlbl hLb hg hk7
              go_wp2_with fail
              rw [← hw7]
              clear hw7
              refine (read_p g lb _ rk w7 HR7.out HG7.out.1 HIr.out.1).mono ?_
              rintro e w8 ⟨a8, m8, c8, rfl, hs8, ha8, hr8, hk8, ho8⟩
              rw [readS_put HIr.out HIx.out] at hs8 hr8 ho8 ⊢
              simp only at hs8 hr8 ho8 ⊢
              obtain ⟨n8, hn8⟩ : ∃ n8, n8 = (if rk ≤ 2 then xN else 0) := ⟨_, rfl⟩
              rw [← hn8]
              have HB8 : Hid (Bk ⟨w, a, c, F, a1, c1, a2, c2, lo⟩ w8 ra rc K) := Bk.rd HB7.out HR7.out HG7.out.2.2 hk8
              have HR8 : Hid (RdI w w8 g lb xs (k + 1)) := ⟨⟨_, hr8⟩, by have e1 := hk8.size; have e2 := HG7.out.1; omega, Lb.only HG7.out.2.1 hk8, HG7.out.2.2⟩
              have y0 : w8.cell? ⟨w0.heap.size, 0, none⟩ = some (.int .i64 rk) := hk8.cell x0 hgx
              have y1 : w8.cell? ⟨w0.heap.size, 1, none⟩ = some (.int .i64 xN) := hk8.cell x1 hgx
              have y2 : w8.cell? ⟨w0.heap.size, 2, none⟩ = some (.slice xa xm xc) := hk8.cell x2 hgx
              have HSm : Hid (∀ W, Kept No w8 W → Calls Try.prog 18 #[.agg #[.int .i64 rk, .int .i64 xN, .slice xa xm xc], .agg #[.int .i64 rk, .int .i64 n8, .slice a8 m8 c8]] W fun e w' => e = .returned (.bool true) ∧ Kept No W w') := by
                intro W hW
                refine sameItem_any rk xN n8 xa a8 xm m8 xc c8 zs W (fun h => by rw [hn8, if_pos h]) (fun h => ⟨(HSx.out.kept2 hk8 (fun h0 i hi e => ?_)).no hW, ?_⟩)
                · have e' : i = g := e
                  have := sl_lt HIx.out.sl h0 hi
                  have := HG7.out.2.2
                  omega
                · rw [if_neg (by omega)] at hs8
                  exact hs8.no hW
              have HO8 : Hid (rk = 3 → OwnS w8 w7.heap.size a8 c8 zs ∧ zs.length = m8) := fun e => by
                have h1 := ho8 e
                rw [if_neg (by omega)] at h1 hs8
                exact ⟨h1, hs8.len⟩
              have HM8 : Hid (zs.length ≤ 2000) := by have := HIx.out.sl.len; show zs.length ≤ 2000; simp only at this; omega
              have hx8 : w0.heap.size < w8.heap.size := World.block_lt_of_cell? w8 _ y0
              clear hs8 ha8 hr8 hk8 ho8 x0 x1 x2 hn8 HR7 HR hgx HSx
              obtain ⟨w9, hw9⟩ : ∃ w9, w9 = w8.alloc (Obj.cells #[.int .i64 rk, .int .i64 n8, .slice a8 m8 c8] 42) := ⟨_, rfl⟩
              have HK9 : Hid (Kept No w8 w9) := by rw [hw9]; exact (Kept.refl No _).alloc _
              have z0 : w9.cell? ⟨w8.heap.size, 0, none⟩ = some (.int .i64 rk) := by rw [hw9]; simp
              have z1 : w9.cell? ⟨w8.heap.size, 1, none⟩ = some (.int .i64 n8) := by rw [hw9]; simp
              have z2 : w9.cell? ⟨w8.heap.size, 2, none⟩ = some (.slice a8 m8 c8) := by rw [hw9]; simp
              have v0 := HK9.out.cell y0 (fun e => e)
              have v1 := HK9.out.cell y1 (fun e => e)
              have v2 := HK9.out.cell y2 (fun e => e)
              go_wp2_with fail
              rw [← hw9]
              clear hw9 y0 y1 y2
              refine (HSm.out w9 HK9.out).mono ?_
              rintro e w10 ⟨rfl, hk10⟩
              have u0 := hk10.cell v0 (fun e => e)
              have u2 := hk10.cell z2 (fun e => e)
              have HK10 : Hid (Kept No w8 w10) := HK9.out.then hk10
              clear hk10 v0 v1 v2 z0 z1 z2 HSm HK9
              by_cases h3 : rk = 3
              · have t3 : (rk == 3) = true := by simpa using h3
                obtain ⟨ho8, hl8⟩ := HO8.out h3
                have hm8 : (m8 : Int) ≤ 2000 := by have := HM8.out; omega
                have HB11 : Hid (Bk ⟨w, a, c, F, a1, c1, a2, c2, lo⟩ (w10.alloc (.cells #[.slice a8 m8 c8] 22)) ra rc K) := (HB8.out.no HK10.out).no ((Kept.refl _ _).alloc _)
                have HR11 : Hid (RdI w (w10.alloc (.cells #[.slice a8 m8 c8] 22)) g lb xs (k + 1)) := (HR8.out.no HK10.out).no ((Kept.refl _ _).alloc _)
                have HE11 : Hid (∃ Z, Erow (w10.alloc (.cells #[.slice a8 m8 c8] 22)) lo (K ++ [⟨a8, m8, c8⟩]) Z) := HB7.out.one HB11.out (e := ⟨a8, m8, c8⟩) hl8 ((ho8.no HK10.out).no ((Kept.refl _ _).alloc _)) (by show m8 ≤ 1000000; omega)
                clear ho8 hl8 h3 HO8 HM8
                go_wp2_with (at_builtin; go_must (refine wp_rowR rfl _ _ rfl lo _ _ _ K [⟨a8, m8, c8⟩] rfl HB.out.1 HB11.out.row w10.heap.size _ _ rfl rfl (one_at (by simp [entV])) (by omega) HB11.out.lo.2 (rn + 1) rfl ?_; intro a6 c6 w12 HO12 HK12))
                have HB12 : Hid ((K ++ [(⟨a8, m8, c8⟩ : Ent)]).length = rn + 1 ∧ rn + 1 ≤ 61 * q + 1 + (k + 1) ∧ Bk ⟨w, a, c, F, a1, c1, a2, c2, lo⟩ w12 a6 c6 (K ++ [⟨a8, m8, c8⟩])) := ⟨by rw [List.length_append, HB.out.1]; rfl, by have := HB.out.2.1; omega, HB11.out.grow HE11.out HO12.out HK12.out⟩
                have HR12 : Hid (RdI w w12 g lb xs (k + 1)) := HR11.out.row HB11.out.row HK12.out
                clear HB HB7 HB8 HB11 HR8 HR11 HE11 HO12 HK12 HK10 HG7
                go_roundw
                case rel => exact ⟨k + 1, _, _, _, _, by omega, by omega, by go_num, rfl, HB12, HR12⟩
                case measure => simp [intOf]; omega
              · have t3 : (rk == 3) = false := by simpa using h3
                have HB12 : Hid (K.length = rn ∧ rn ≤ 61 * q + 1 + (k + 1) ∧ Bk ⟨w, a, c, F, a1, c1, a2, c2, lo⟩ w10 ra rc K) := ⟨HB.out.1, by have := HB.out.2.1; omega, HB8.out.no HK10.out⟩
                have HR12 : Hid (RdI w w10 g lb xs (k + 1)) := HR8.out.no HK10.out
                clear HB HB7 HB8 HR8 HK10 HG7 h3 HO8 HM8
                go_wp2
                go_roundw
                case rel => exact ⟨k + 1, _, _, _, _, by omega, by omega, by go_num, rfl, HB12, HR12⟩
                case measure => simp [intOf]; omega
            · have HB12 : Hid (∀ W, Kept No w0 W → K.length = rn ∧ rn ≤ 61 * q + 1 + (k + 1) ∧ Bk ⟨w, a, c, F, a1, c1, a2, c2, lo⟩ W ra rc K) := fun W hW => ⟨HB.out.1, by have := HB.out.2.1; omega, (HB.out.2.2.no HK0.out).no hW⟩
              have HR12 : Hid (∀ W, Kept No w0 W → RdI w W g lb xs (k + 1)) := fun W hW => by
                have h1 := (HR.out.no HK0.out).no hW
                unfold RdI at h1 ⊢
                rw [HT.out, if_neg (by omega), List.nil_append] at h1
                exact h1
              clear HB HR HT HK0
              go_wp2
              go_roundw
              case rel => exact ⟨k + 1, _, _, _, _, by omega, by omega, by go_num, rfl, HB12.out _ ((Kept.refl _ _).alloc _), HR12.out _ ((Kept.refl _ _).alloc _)⟩
              case measure => simp [intOf]; omega
          · have HB12 : Hid (K.length = rn ∧ rn ≤ 61 * (q + 1) ∧ Bk ⟨w, a, c, F, a1, c1, a2, c2, lo⟩ wr ra rc K) := ⟨HB.out.1, by have := HB.out.2.1; omega, HB.out.2.2⟩
            clear HB HR
            by_cases hl1 : k < ln
            · have j1 : (k : Int) < (ln : Int) := by omega
              have j2 : ¬ (k : Int) < 60 := by omega
              clear hlt2
              go_wp2
              go_roundw
              case rel => exact ⟨q + 1, _, _, _, _, by omega, by go_num, rfl, HB12⟩
              case measure => simp [intOf]; omega
            · have j1 : ¬ (k : Int) < (ln : Int) := by omega
              clear hlt2
              go_wp2
              go_roundw
              case rel => exact ⟨q + 1, _, _, _, _, by omega, by go_num, rfl, HB12⟩
              case measure => simp [intOf]; omega
      · have i1 : ¬ (q : Int) < 3 := by omega
        have HB1 : Hid (K.length = rn ∧ rn ≤ 183 + 4 * 0 ∧ Bk ⟨w, a, c, F, a1, c1, a2, c2, lo⟩ wr ra rc K) := ⟨HB.out.1, by have := HB.out.2.1; omega, HB.out.2.2⟩
        clear HB hlt
        go_upto_block 6 with fail
        go_cut [11] (fun v wx => ∃ (ra : Option Addr) (rn rc : Nat) (K : List Ent), v = .slice ra rn rc ∧ Hid (K.length = rn ∧ rn ≤ 300 ∧ Bk ⟨w, a, c, F, a1, c1, a2, c2, lo⟩ wx ra rc K))
        case first =>
          go_wp2_with fail
          go_loopw [11, 19] (fun v i wr => ∃ (k rn rc : Nat) (ra : Option Addr) (K : List Ent), k ≤ bn ∧ k ≤ 8 ∧ i = .int .i64 (k : Int) ∧ v = .slice ra rn rc ∧ Hid (K.length = rn ∧ rn ≤ 183 + 4 * k ∧ Bk ⟨w, a, c, F, a1, c1, a2, c2, lo⟩ wr ra rc K)) (fun _ i _ => bn - (intOf i).toNat)
          case atStart => exact ⟨0, _, _, _, _, Nat.zero_le _, Nat.zero_le _, rfl, rfl, HB1⟩
          case round =>
            clear HB1
            obtain ⟨k, rn, rc, ra, K, hk, hk8, rfl, rfl, HB⟩ := hrel
            by_cases hlt : k < bn ∧ k < 8
            · obtain ⟨hl1, hl2⟩ := hlt
              have j1 : (k : Int) < (bn : Int) := by omega
              have j2 : (k : Int) < 8 := by omega
              obtain ⟨⟨xa, xl, xc, zs⟩, hbk⟩ : ∃ b, bs[k]? = some b := ⟨bs[k]'(by rw [HBS.out.2]; exact hl1), by rw [List.getElem?_eq_getElem]⟩
              have HBk : Hid (bs[k]? = some ⟨xa, xl, xc, zs⟩) := hbk
              have hkp : Kept No w wr := HB.out.2.2.kept
              obtain ⟨bg, boff, rfl, hc, hs⟩ := (HBS.out.1.no hkp) k _ hbk
              simp only at hc hs
              have hxl : (xl : Int) ≤ 140737488351232 := by have := hs.bd; omega
              clear hbk hkp hs
              by_cases hm : (xl : Int) ≤ 2000
              · go_wp2_with fail
                have HB1 : Hid (K.length = rn ∧ rn ≤ 183 + 4 * k + 2 * 0 ∧ Bk ⟨w, a, c, F, a1, c1, a2, c2, lo⟩ wr ra rc K) := ⟨HB.out.1, by have := HB.out.2.1; omega, HB.out.2.2⟩
                clear HB hc
                go_loopw [11, 20] (fun v i wr => ∃ (p rn rc : Nat) (ra : Option Addr) (K : List Ent), p ≤ 2 ∧ i = .int .i64 (p : Int) ∧ v = .slice ra rn rc ∧ Hid (K.length = rn ∧ rn ≤ 183 + 4 * k + 2 * p ∧ Bk ⟨w, a, c, F, a1, c1, a2, c2, lo⟩ wr ra rc K)) (fun _ i _ => 2 - (intOf i).toNat)
                case atStart => exact ⟨0, _, _, _, _, Nat.zero_le _, rfl, rfl, HB1⟩
                case round =>
                  clear HB1
                  obtain ⟨p, rn, rc, ra, K, hp, rfl, rfl, HB⟩ := hrel
                  have hrn : (rn : Int) ≤ 300 := by have := HB.out.2.1; omega
                  have hkp : Kept No w wr := HB.out.2.2.kept
                  obtain ⟨bg', boff', hbb', hc, hs⟩ := (HBS.out.1.no hkp) k _ HBk.out
                  cases hbb'
                  simp only at hc hs
                  have HS : Hid (Sl wr xa xl xc zs) := hs
                  clear hs hkp
                  by_cases hlp : p < 2
                  · have j3 : (p : Int) < 2 := by omega
                    go_wp2_with fail
                    refine (seal_any xa xl xc zs wr HS.out.len (by omega) HS.out.bytes HS.out.u8 HS.out.nil).mono ?_
                    rintro e w3 ⟨a3, c3, rfl, hO3, hK3⟩
                    have HO3 : Hid (OwnS w3 wr.heap.size a3 c3 (sealOf zs)) := hO3
                    have HK3 : Hid (Kept No wr w3) := hK3
                    have HL3 : Hid ((sealOf zs).length = xl + 12) := by rw [Hid, sealOf_len, HS.out.len]
                    clear hO3 hK3
                    have HQ3 : Hid (Sl w3 a3 (xl + 12) c3 (sealOf zs)) := HO3.out.sl HL3.out (sealOf_u8 HS.out.u8) (by omega)
                    go_wp2_with fail
                    refine (open_sl HQ3.out).mono ?_
                    intro e w4 hop
                    obtain ⟨a4, c4, rfl, hO4, hK4⟩ := opens_eq2 (open_seal zs (by have := HS.out.len; omega)) hop
                    have HO4 : Hid (OwnS w4 w3.heap.size a4 c4 zs) := hO4
                    have HK4 : Hid (Kept No w3 w4) := hK4
                    have hc4 := hK4.cell (HK3.out.cell hc (fun e => e)) (fun e => e)
                    clear hO4 hK4 hop hc
                    rw [HS.out.len]
                    have hsm := sameN_any a4 xa xl xl c4 xc zs zs w4 HS.out.len HS.out.len (by omega) (by omega) HO4.out.bytes ((HS.out.no HK3.out).no HK4.out).bytes
                    rw [eqB_refl] at hsm
                    go_wp2_with fail
                    refine hsm.mono ?_
                    rintro e w5 ⟨rfl, n5, hw5⟩
                    have HK5 : Hid (Kept No w4 w5) := by rw [hw5]; exact (Kept.refl No _).drewN _
                    clear hsm hw5 hc4
                    have HA5 : Hid (Kept No w4 (w5.alloc (.cells #[.slice a3 (xl + 12) c3, .slice a4 xl c4] 22))) := HK5.out.alloc _
                    have HB5 : Hid (Bk ⟨w, a, c, F, a1, c1, a2, c2, lo⟩ (w5.alloc (.cells #[.slice a3 (xl + 12) c3, .slice a4 xl c4] 22)) ra rc K) := HB.out.2.2.no ((HK3.out.then HK4.out).then HA5.out)
                    have HE5 : Hid (∃ Z, Erow (w5.alloc (.cells #[.slice a3 (xl + 12) c3, .slice a4 xl c4] 22)) lo (K ++ [⟨a3, xl + 12, c3⟩, ⟨a4, xl, c4⟩]) Z) := Bk.two HB.out.2.2 HK3.out (HK4.out.then HA5.out) (e := ⟨a3, xl + 12, c3⟩) (f := ⟨a4, xl, c4⟩) HL3.out HO3.out (by show xl + 12 ≤ 1000000; omega) HS.out.len (HO4.out.no HA5.out) (by show xl ≤ 1000000; omega)
                    go_wp2_with (at_builtin; go_must (refine wp_rowR rfl _ _ rfl lo _ _ _ K [⟨a3, xl + 12, c3⟩, ⟨a4, xl, c4⟩] rfl HB.out.1 HB5.out.row w5.heap.size _ _ rfl rfl (two_at (by simp [entV]) (by simp [entV])) (by omega) HB5.out.lo.2 (rn + 2) rfl ?_; intro a6 c6 w6 HO6 HK6))
                    have HB6 : Hid ((K ++ [(⟨a3, xl + 12, c3⟩ : Ent), ⟨a4, xl, c4⟩]).length = rn + 2 ∧ rn + 2 ≤ 183 + 4 * k + 2 * (p + 1) ∧ Bk ⟨w, a, c, F, a1, c1, a2, c2, lo⟩ w6 a6 c6 (K ++ [⟨a3, xl + 12, c3⟩, ⟨a4, xl, c4⟩])) := ⟨by rw [List.length_append, HB.out.1]; rfl, by have := HB.out.2.1; omega, HB5.out.grow HE5.out HO6.out HK6.out⟩
                    clear HB HB5 HE5 HO6 HK6 HA5 HK5 HO4 HK4 HO3 HK3 HL3 HQ3
                    go_roundw
                    case rel => exact ⟨p + 1, _, _, _, _, by omega, by go_num, rfl, HB6⟩
                    case measure => simp [intOf]; omega
                  · have j3 : ¬ (p : Int) < 2 := by omega
                    go_wp2_with fail
                    refine (moved_any xa xl xc zs wr HS.out (by omega)).mono ?_
                    rintro e w3 ⟨rfl, hK3⟩
                    have HB6 : Hid (K.length = rn ∧ rn ≤ 183 + 4 * (k + 1) ∧ Bk ⟨w, a, c, F, a1, c1, a2, c2, lo⟩ w3 ra rc K) := ⟨HB.out.1, by have := HB.out.2.1; omega, HB.out.2.2.no hK3⟩
                    clear HB hK3 hc HS
                    go_wp2
                    go_roundw
                    case rel => exact ⟨k + 1, _, _, _, _, by omega, by omega, by go_num, rfl, HB6⟩
                    case measure => simp [intOf]; omega
              · have HB6 : Hid (K.length = rn ∧ rn ≤ 183 + 4 * (k + 1) ∧ Bk ⟨w, a, c, F, a1, c1, a2, c2, lo⟩ wr ra rc K) := ⟨HB.out.1, by have := HB.out.2.1; omega, HB.out.2.2⟩
                clear HB
                go_wp2
                go_roundw
                case rel => exact ⟨k + 1, _, _, _, _, by omega, by omega, by go_num, rfl, HB6⟩
                case measure => simp [intOf]; omega
            · have HB6 : Hid (K.length = rn ∧ rn ≤ 300 ∧ Bk ⟨w, a, c, F, a1, c1, a2, c2, lo⟩ wr ra rc K) := ⟨HB.out.1, by have := HB.out.2.1; omega, HB.out.2.2⟩
              clear HB
              by_cases hl1 : k < bn
              · have j1 : (k : Int) < (bn : Int) := by omega
                have j2 : ¬ (k : Int) < 8 := by omega
                clear hlt
                go_wp2
                go_meet
                case rel => exact ⟨_, _, _, _, rfl, HB6⟩
              · have j1 : ¬ (k : Int) < (bn : Int) := by omega
                clear hlt
                go_wp2
                go_meet
                case rel => exact ⟨_, _, _, _, rfl, HB6⟩
        case rest =>
          clear HB1
          obtain ⟨ra, rn, rc, K, rfl, HB⟩ := hcut
          go_wp2_with fail
          refine (done_s w.heap.size w.heap.size a c F n _ HF.out.2.2.2.1 HB.out.2.2.ws (by omega)).mono ?_
          rintro e w3 ⟨a3, c3, rfl, hO3, hK3⟩
          have HB3 : Hid (Bk ⟨w, a, c, F, a1, c1, a2, c2, lo⟩ w3 ra rc K) := HB.out.2.2.no hK3
          have HO3 : Hid (OwnS w3 _ a3 c3 F) := hO3
          have HEB : Hid (∀ k, EB K k → lo ≤ k ∧ ¬ At a3 k) := fun k hk => ⟨(HB.out.2.2.eb hk).1, fun e => by have e1 := hO3.base e; have e2 := (HB.out.2.2.eb hk).2; omega⟩
          clear hO3 hK3
          go_wp2_with fail
          obtain ⟨Z, hZ⟩ := HB3.out.ents
          refine (grown_any ra rn rc lo lo K Z w3 HB3.out.row hZ HB.out.1 (by have := HB.out.2.1; omega) HB3.out.lo.2 HB3.out.lo.2 (fun k hk => own_lt HB3.out.row hk)).mono ?_
          rintro e w4 ⟨rfl, hK4⟩
          have HO4 : Hid (OwnS w4 w.heap.size a1 c1 F ∧ OwnS w4 w.heap.size a2 c2 F ∧ OwnS w4 w.heap.size a3 c3 F ∧ Ws w4 w.heap.size w.heap.size a c (some F) ∧ Kept No w w4) := by
            have hl : ∀ k, At a1 k ∨ At a2 k ∨ WrAt w.heap.size a k → ¬ EB K k := fun k hk he => by
              have h1 := HB3.out.lts k hk
              have h2 := (HEB.out k he).1
              have h3 : k < lo := h1
              omega
            refine ⟨HB3.out.fst.kept hK4 (fun k hk => hl k (.inl hk)), HB3.out.wnt.kept hK4 (fun k hk => hl k (.inr (.inl hk))), (HO3.out.lower HB.out.2.2.kept.size).kept hK4 (fun k hk he => (HEB.out k he).2 hk), HB3.out.ws.kept hK4 (fun k hk => hl k (.inr (.inr hk))), HB3.out.kept.fresh hK4 (fun k he => ?_)⟩
            have h1 := (HEB.out k he).1
            have h2 : w.heap.size ≤ lo := HB3.out.lo.1
            show w.heap.size ≤ k
            omega
          clear hK4 hZ HB3 HO3 HEB HB
          have hs1 := sameN_any a1 a2 n n c1 c2 F F w4 HF.out.2.2.2.1 HF.out.2.2.2.1 (by omega) (by omega) HO4.out.1.bytes HO4.out.2.1.bytes
          rw [eqB_refl] at hs1
          go_wp2_with fail
          refine hs1.mono ?_
          rintro e w5 ⟨rfl, n5, hw5⟩
          have HK5 : Hid (Kept No w4 w5) := by rw [hw5]; exact (Kept.refl No _).drewN _
          clear hs1 hw5
          have hs2 := sameN_any a3 a2 n n c3 c2 F F w5 HF.out.2.2.2.1 HF.out.2.2.2.1 (by omega) (by omega) (HO4.out.2.2.1.no HK5.out).bytes (HO4.out.2.1.no HK5.out).bytes
          rw [eqB_refl] at hs2
          go_wp2_with fail
          refine hs2.mono ?_
          rintro e w6 ⟨rfl, n6, hw6⟩
          have HK6 : Hid (Kept No w4 w6) := by rw [hw6]; exact HK5.out.then ((Kept.refl No _).drewN _)
          clear hs2 hw6 HK5
          go_wp2_with fail
          refine (rights_any la ln lc xs w6 HN.out hb (HX.out.no (HO4.out.2.2.2.2.then HK6.out)) (fun x hx => (HO.out x hx).no (HO4.out.2.2.2.2.then HK6.out))).mono ?_
          rintro e w7 ⟨a7, n7, c7, rfl, hn7, hO7, hK7⟩
          have HK7 : Hid (Kept No w4 w7) := HK6.out.then hK7
          have HKW : Hid (Kept No w w7) := HO4.out.2.2.2.2.then HK7.out
          have HO7 : Hid (OwnI w7 w6.heap.size a7 c7 (rightsOf (xs.take 60))) := hO7
          have HN7 : Hid (n7 = (rightsOf (xs.take 60)).length) := hn7
          have h60 : n7 ≤ 60 := by rw [hn7]; exact HP.out.n
          clear hn7 hO7 hK7
          go_wp2_with fail
          refine (done_any w.heap.size w.heap.size a c a7 n7 c7 (rightsOf (xs.take 60)) w7 (by rw [HF.out.1]; exact HO4.out.2.2.2.1.no HK7.out) HN7.out.symm (by omega) HO7.out.its (fun x hx => (HP.out.ok x hx).no HKW.out) (by have := HF.out.2.2.2.2; omega)).mono ?_
          rintro e w8 ⟨rfl, hK8⟩
          have HK8 : Hid (Kept No w w8) := HKW.out.then hK8
          clear hK8
          go_wp2
          go_ret
          exact ⟨rfl, HK8.out⟩

end wireBook
end Go.Proofs.Ytnhjpghkmbgeaab
