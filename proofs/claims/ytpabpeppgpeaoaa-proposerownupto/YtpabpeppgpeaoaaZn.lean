import Derived.Test.YtpabpeppgpeaoaaZi
import Derived.Laws.BytesString
namespace Go.Proofs.Ytpabpeppgpeaoaa
open Go.RowKit Gt
set_option linter.unusedVariables false
set_option linter.unusedSimpArgs false
theorem Try.und40 : Try.prog.underlying 40 = some (.slice 5) := by kernel_rfl
theorem Try.und5 : Try.prog.underlying 5 = some (.int .u8) := by kernel_rfl
def str1 (x : Int) : ByteArray := ByteArray.empty.push (UInt8.ofNat x.toNat)
theorem conv1 (w : World) (x : Int) (g : Nat) (hg : g = w.heap.size) : (convert 40 9 (.slice (some ⟨g, 0, none⟩) 1 1)).run Try.prog (w.alloc (.cells #[.int .u8 x] 5)) = .ok (.string (str1 x)) (w.alloc (.cells #[.int .u8 x] 5)) := by
  subst hg
  rw [run_convert_bytes_string _ 40 9 5 _ 1 1 Try.und40 Try.und5 Try.und9]
  have hb := Box.new w 5 #[.int .u8 x]
  have hl := run_loadCells_list (P := Try.prog) (w.alloc (.cells #[.int .u8 x] 5)) ⟨w.heap.size, 0, none⟩ [.int .u8 x] (fun j v hv => by
    match j, hv with
    | 0, hv => cases hv; exact hb.cell 0)
  exact run_bytesToString _ _ 1 1 [x] hl
def cmdOf (c : Int) : Cm := ⟨3, c, 1, str1 (wrap64 (97 + c.tmod 26) % 256), 0, 0, 0, 0, 0⟩
set_option maxRecDepth 100000 in
set_option maxHeartbeats 1000000 in
theorem command_any (c : Int) (w : World) : Calls Try.prog 24 #[.int .i64 c] w (fun e w' => e = .returned (.agg (cmdOf c).cells) ∧ Kept No w w') := by
  go_enter Try.func24, Try.ntmps24
  go_wp2
  rw [conv1 _ _ _ (by simp)]
  go_wp2
  have hB : Box ((w.alloc (.cells (cmdOf c).cells 28)).alloc (.cells #[.int .u8 (wrap64 (97 + c.tmod 26) % 256)] 5)) w.heap.size 28 (cmdOf c).cells := (Box.new w 28 (cmdOf c).cells).alloc _
  refine bodyPost_ret (results_row1 (by rfl) _ _ w.heap.size (cmdOf c).cells (by rfl) (load_C hB)) rfl ?_
  exact ⟨rfl, ((Kept.refl No w).alloc _).alloc _⟩

/-- Where a proposer stands; a proposer. -/
inductive Ph
  | fresh
  | pre (x : TS Unit) (y : TS Vt) (rf : Bool)
  | acc (c : Cm) (x y : TS Unit) (rf : Bool)
  | dec (c : Cm)
  | tri (u : Int) (es : List En) (ls : List La)
  | worn
structure PS where
  cl : Int
  op : Int
  ky : Ky
  zs : List Int
  mine : Cm
  n : Int
  top : Int
  rd : Int
  ph : Ph
def PS.pv (s : PS) (g : Sl) (x : Value) : Pv := ⟨s.cl, s.op, s.ky, g, s.mine, s.n, s.top, s.rd, x⟩
def PS.v0 (s : PS) : Pv := s.pv slZ .nilIface
def NotM (w : World) (k : Nat) : Prop := ∀ cs, ¬ Box w k 47 cs
theorem Box.notM {w : World} {g : Nat} {t : TypeId} {cs : Array Value} (h : Box w g t cs) (ht : t ≠ 47) : NotM w g := fun cs' h' => by
  unfold Box at h h'
  rw [h] at h'
  cases h'
  exact ht rfl
theorem MapIs.notM {w : World} {b : Nat} {g : Int → Option Value} (h : MapIs w b g) : NotM w b := fun cs' h' => by
  obtain ⟨es, clock, hh, _⟩ := h
  unfold Box at h'
  rw [hh] at h'
  cases h'
theorem Own.notM {t : TypeId} {c : Nat} {w : World} {base : Nat} {a : Option Addr} {cap n : Nat} {vs : List Value} (h : Own t c w base a cap n vs) (ht : t ≠ 47) {k : Nat} (hk : At a k) : NotM w k := fun cs hb => h.notBox hb ht hk
theorem Own.lt0 {t : TypeId} {c : Nat} {w : World} {base : Nat} {a : Option Addr} {cap n : Nat} {vs : List Value} (h : Own t c w base a cap n vs) {k : Nat} (hk : At a k) : k < w.heap.size := h.lt hk
/-- A question and its two tallies in memory. -/
structure QAt {α : Type} (T : TypeId) (f : Option α → Value) (w : World) (I : Nat → Prop) (zs : List Int) (M : Ms) (q t : Nat) (rf : Bool) (x : TS Unit) (y : TS α) : Prop where
  ex : ∃ h b a cap tb ta tc, Box w q 111 (qcs M h rf).toArray ∧ Tal 132 U.ans w h b a cap x ∧ Tal T f w t tb ta tc y ∧ h ≠ t ∧ b ≠ tb ∧ I q ∧ (∀ k, TB h b a k → I k) ∧ ∀ k, TB t tb ta k → I k
  gx : x.g = uq zs
  gy : y.g = uq zs
  ty : T ≠ 47
def PhAt (w : World) (I : Nat → Prop) (s : PS) (v : Value) : Ph → Prop
  | .fresh => v = .nilIface
  | .pre x y rf => ∃ q t, v = phPre q t ∧ QAt 170 V.ans w I s.zs (prepM s.v0) q t rf x y
  | .acc c x y rf => ∃ q t, v = phAcc q t ∧ QAt 132 U.ans w I s.zs (accM s.v0 c) q t rf x y
  | .dec c => v = phDec c
  | .tri u es ls => ∃ se sl : Sl, v = phTri u se sl ∧ OwE w 0 se es ∧ OwL w 0 sl ls ∧ (∀ k, At se.a k → I k) ∧ (∀ k, At sl.a k → I k) ∧ se.l * 40 ≤ 140737488355328 ∧ sl.l * 56 ≤ 140737488355328
  | .worn => v = phWorn
structure Prp (w : World) (I : Nat → Prop) (p : Nat) (s : PS) : Prop where
  ex : ∃ (g : Sl) (v : Value), Box w p 94 (s.pv g v).cells ∧ s.zs.length = g.l ∧ Own 3 1 w 0 g.a g.k g.l (s.zs.map (Value.int .i64)) ∧ PhAt w I s v s.ph ∧ I p ∧ ∀ k, At g.a k → I k
  len : s.zs.length ≤ 2000000
theorem tal_notM {α : Type} {f : Option α → Value} {T : TypeId} {w : World} {t b cap : Nat} {a : Option Addr} {x : TS α} (h : Tal T f w t b a cap x) (hT : T ≠ 47) {k : Nat} (hk : TB t b a k) : NotM w k := by
  rcases hk with rfl | rfl | hk
  · exact h.box.notM hT
  · exact h.map.notM
  · exact h.row.notM (by decide) hk
theorem QAt.kept {α : Type} {T : TypeId} {f : Option α → Value} {S I I' : Nat → Prop} {w w' : World} {zs : List Int} {M : Ms} {q t : Nat} {rf : Bool} {x : TS Unit} {y : TS α} (h : QAt T f w I zs M q t rf x y) (hk : Kept S w w') (hS : ∀ k, I k → k < w.heap.size → NotM w k → ¬ S k ∧ I' k) : QAt T f w' I' zs M q t rf x y := by
  obtain ⟨⟨h0, b, a, cap, tb, ta, tc, hq, hx, hy, h1, h2, i1, i2, i3⟩, gx, gy, ty⟩ := h
  have q1 := hS q i1 hq.lt (hq.notM (by decide))
  have q2 : ∀ k, TB h0 b a k → ¬ S k ∧ I' k := fun k e => hS k (i2 k e) (hx.lt e) (tal_notM hx (by decide) e)
  have q3 : ∀ k, TB t tb ta k → ¬ S k ∧ I' k := fun k e => hS k (i3 k e) (hy.lt e) (tal_notM hy ty e)
  exact ⟨⟨h0, b, a, cap, tb, ta, tc, hq.kept hk q1.1, hx.kept hk (fun k e => (q2 k e).1), hy.kept hk (fun k e => (q3 k e).1), h1, h2, q1.2, fun k e => (q2 k e).2, fun k e => (q3 k e).2⟩, gx, gy, ty⟩
theorem OwE.lt {w : World} {b : Nat} {s : Sl} {es : List En} (h : OwE w b s es) {k : Nat} (hk : At s.a k) : k < w.heap.size := h.own.lt hk
theorem OwL.lt {w : World} {b : Nat} {s : Sl} {es : List La} (h : OwL w b s es) {k : Nat} (hk : At s.a k) : k < w.heap.size := h.own.lt hk
theorem PhAt.kept {S I I' : Nat → Prop} {w w' : World} {s : PS} {v : Value} {P : Ph} (h : PhAt w I s v P) (hk : Kept S w w') (hS : ∀ k, I k → k < w.heap.size → NotM w k → ¬ S k ∧ I' k) : PhAt w' I' s v P := by
  cases P with
  | fresh => exact h
  | pre x y rf => obtain ⟨q, t, e, h⟩ := h; exact ⟨q, t, e, h.kept hk hS⟩
  | acc c x y rf => obtain ⟨q, t, e, h⟩ := h; exact ⟨q, t, e, h.kept hk hS⟩
  | dec c => exact h
  | tri u es ls =>
    obtain ⟨se, sl, e, h1, h2, i1, i2, b1, b2⟩ := h
    have q1 : ∀ k, At se.a k → ¬ S k ∧ I' k := fun k e => hS k (i1 k e) (h1.lt e) (h1.own.notM (by decide) e)
    have q2 : ∀ k, At sl.a k → ¬ S k ∧ I' k := fun k e => hS k (i2 k e) (h2.lt e) (h2.own.notM (by decide) e)
    exact ⟨se, sl, e, h1.kept hk (fun k e => (q1 k e).1), h2.kept hk (fun k e => (q2 k e).1), fun k e => (q1 k e).2, fun k e => (q2 k e).2, b1, b2⟩
  | worn => exact h
theorem Prp.kept {S I I' : Nat → Prop} {w w' : World} {p : Nat} {s : PS} (h : Prp w I p s) (hk : Kept S w w') (hS : ∀ k, I k → k < w.heap.size → NotM w k → ¬ S k ∧ I' k) : Prp w' I' p s := by
  obtain ⟨⟨g, v, hb, hl, hg, hp, i1, i2⟩, len⟩ := h
  have q1 := hS p i1 hb.lt (hb.notM (by decide))
  have q2 : ∀ k, At g.a k → ¬ S k ∧ I' k := fun k e => hS k (i2 k e) (hg.lt e) (hg.notM (by decide) e)
  exact ⟨⟨g, v, hb.kept hk q1.1, hl, hg.kept hk (fun k e => (q2 k e).1), hp.kept hk hS, q1.2, fun k e => (q2 k e).2⟩, len⟩
theorem Prp.no {I : Nat → Prop} {w w' : World} {p : Nat} {s : PS} (h : Prp w I p s) (hk : Kept No w w') : Prp w' I p s := h.kept hk (fun k e _ _ => ⟨fun f => f, e⟩)
theorem Prp.cut {I : Nat → Prop} {w : World} {p : Nat} {s : PS} (h : Prp w I p s) : Prp w (fun k => I k ∧ k < w.heap.size ∧ NotM w k) p s := h.kept (Kept.refl No w) (fun k e l m => ⟨fun f => f, e, l, m⟩)
/-- What a call of a proposer tells and leaves. -/
def PrOut (w : World) (I : Nat → Prop) (p : Nat) (s : PS) (l : List Ms) (e : Ending) (w' : World) : Prop :=
  ∃ la lc I', e = .returned (.slice la l.length lc) ∧ Own 47 30 w' w.heap.size la lc l.length (msL l) ∧ Prp w' I' p s ∧ (∀ k, I' k → (I k ∨ w.heap.size ≤ k) ∧ k < w'.heap.size ∧ NotM w' k) ∧ Kept I w w'
theorem PrOut.mk {w w' : World} {I : Nat → Prop} {p : Nat} {s : PS} {l : List Ms} {e : Ending} {la : Option Addr} {lc : Nat} (he : e = .returned (.slice la l.length lc)) (ho : Own 47 30 w' w.heap.size la lc l.length (msL l)) (hp : Prp w' (fun k => I k ∨ w.heap.size ≤ k) p s) (hk : Kept I w w') : PrOut w I p s l e w' :=
  ⟨la, lc, _, he, ho, hp.cut, fun k e => e, hk⟩
theorem PrOut.nil {w w' : World} {I : Nat → Prop} {p : Nat} {s : PS} {e : Ending} (he : e = .returned (.slice none 0 0)) (hp : Prp w' (fun k => I k ∨ w.heap.size ≤ k) p s) (hk : Kept I w w') : PrOut w I p s [] e w' :=
  PrOut.mk (la := none) (lc := 0) he (Own.nil 47 30 _ _) hp hk
theorem Prp.wide {I I' : Nat → Prop} {w : World} {p : Nat} {s : PS} (h : Prp w I p s) (hS : ∀ k, I k → I' k) : Prp w I' p s := h.kept (Kept.refl No w) (fun k e _ _ => ⟨fun f => f, hS k e⟩)
theorem PrOut.same {w w' : World} {I : Nat → Prop} {p : Nat} {s : PS} {e : Ending} (he : e = .returned (.slice none 0 0)) (hp : Prp w I p s) (hk : Kept No w w') : PrOut w I p s [] e w' :=
  PrOut.nil he ((hp.no hk).wide (fun k e => .inl e)) hk.of_no

/-- What a proposer does. -/
def mov (s : PS) (n r : Int) : PS := { s with n := n, rd := r, top := max s.top n }
def prepS (s : PS) (n r : Int) : PS × List Ms :=
  if okN n && okN r then ({ mov s n r with ph := .pre (tNew Unit s.zs (s.zs.length : Int)) (tNew Vt s.zs (needN s.zs.length)) false }, s.zs.map (prepM (mov s n r).v0).to) else ({ s with ph := .worn }, [])
def begS (s : PS) : PS × List Ms := match s.ph with | .fresh => prepS s s.n s.rd | _ => (s, [])
def tickS (s : PS) : PS × List Ms := match s.ph with
  | .pre x _ rf => if rf then prepS s (wr1 s.top) (wr1 s.rd) else (s, (missL x).map (prepM s.v0).to)
  | .acc c x _ rf => if rf then prepS s (wr1 s.top) (wr1 s.rd) else (s, (missL x).map (accM s.v0 c).to)
  | _ => (s, [])
def choiceS (s : PS) (y : TS Vt) : Cm := vCmd (bestV (ownV s.v0 :: (gotL y).map Prod.snd))
def accS (s : PS) (c : Cm) : PS × List Ms :=
  if okN s.n && okN (wr1 s.rd) then ({ mov s s.n (wr1 s.rd) with ph := .acc c (tNew Unit s.zs (s.zs.length : Int)) (tNew Unit s.zs (needN s.zs.length)) false }, s.zs.map (accM (mov s s.n (wr1 s.rd)).v0 c).to) else ({ s with ph := .worn }, [])
def takP (s : PS) (x : TS Unit) (y : TS Vt) (rf : Bool) (m : Ms) : PS × List Ms :=
  if eqS m.st ⟨s.n, s.cl⟩ && (m.k == 13) && decide (m.fi ∈ missL x) then
    (if takeB y m.fi then accS s (choiceS s (takeS y m.fi (msV m))) else ({ s with ph := .pre (hearS x m.fi) (takeS y m.fi (msV m)) rf }, [])) else (s, [])
def takA (s : PS) (c : Cm) (x y : TS Unit) (rf : Bool) (m : Ms) : PS × List Ms :=
  if eqS m.st ⟨s.n, s.cl⟩ && (m.k == 15) && decide (m.fi ∈ missL x) then
    (if takeB y m.fi then ({ s with ph := .dec c }, s.zs.map (lrnM s.v0 c).to) else ({ s with ph := .acc c (hearS x m.fi) (takeS y m.fi ()) rf }, [])) else (s, [])
def othS (s : PS) (x : TS Unit) (nk : TS Unit → Ph) (m : Ms) (es : List En) (ls : List La) (t : PS × List Ms) : PS × List Ms :=
  if ansB s.v0 s.zs m then
    (if m.k == 16 then ({ s with ph := .dec m.c }, []) else if m.k == 17 then ({ s with ph := .tri m.up es ls }, []) else
      if m.k == 14 then (if m.fi ∈ missL x then { s with top := max s.top m.st.n, ph := nk (hearS x m.fi) } else s, []) else if m.k == 13 || m.k == 15 then t else (s, []))
  else (s, [])
def taksS (s : PS) (m : Ms) (es : List En) (ls : List La) : PS × List Ms := match s.ph with
  | .pre x y rf => othS s x (fun x' => .pre x' y true) m es ls (takP s x y rf m)
  | .acc c x y rf => othS s x (fun x' => .acc c x' y true) m es ls (takA s c x y rf m)
  | _ => (s, [])

theorem pv_mov (s : PS) (g : Sl) (v : Value) (n r : Int) (h : (okN n && okN r) = true) : movP (s.pv g v) n r = (mov s n r).pv g v := by rw [movP_yes h]; rfl
theorem Prp.mk' {w : World} {I : Nat → Prop} {p : Nat} {s : PS} {g : Sl} {v : Value} (hb : Box w p 94 (s.pv g v).cells) (hl : s.zs.length = g.l) (hg : Own 3 1 w 0 g.a g.k g.l (s.zs.map (Value.int .i64))) (hp : PhAt w I s v s.ph) (i1 : I p) (i2 : ∀ k, At g.a k → I k) (len : s.zs.length ≤ 2000000) : Prp w I p s := ⟨⟨g, v, hb, hl, hg, hp, i1, i2⟩, len⟩
/-- A first phase begins. -/
theorem prep_out {w w' : World} {I : Nat → Prop} {p : Nat} {s : PS} {g : Sl} {v : Value} {n r : Int} {e : Ending} (ho : (okN n && okN r) = true) (hb : Box w p 94 (s.pv g v).cells) (hl : s.zs.length = g.l) (hg : Own 3 1 w 0 g.a g.k g.l (s.zs.map (Value.int .i64))) (i1 : I p) (i2 : ∀ k, At g.a k → I k) (len : s.zs.length ≤ 2000000)
    (h : PrepOut w p (movP (s.pv g v) n r) s.zs e w') : PrOut w I p (prepS s n r).1 (prepS s n r).2 e w' := by
  rw [pv_mov s g v n r ho] at h
  obtain ⟨q, h0, b, a, cap, t, tb, ta, tc, la, lc, he, hO, hb', hq, hx, hy, hne, ⟨l1, l2, l3, l4, l5⟩, l6, l7, hk⟩ := h
  have eS : prepS s n r = ({ mov s n r with ph := .pre (tNew Unit s.zs (s.zs.length : Int)) (tNew Vt s.zs (needN s.zs.length)) false }, s.zs.map (prepM (mov s n r).v0).to) := by unfold prepS; rw [if_pos ho]
  rw [eS]
  have hoff : ∀ k, At g.a k → ¬ Only p k := fun k hk e => box_row hb (by decide) hg hk e
  refine PrOut.mk (la := la) (lc := lc) (by rw [he, List.length_map]) (by rw [List.length_map]; exact hO) ?_ (hk.mono (fun k _ e => (show k = p from e) ▸ i1))
  refine Prp.mk' (g := g) (v := phPre q t) hb' hl (hg.kept hk hoff) ⟨q, t, rfl, ⟨⟨h0, b, a, cap, tb, ta, tc, hq, hx, hy, ?_, hne, .inr l1, ?_, ?_⟩, rfl, rfl, by decide⟩⟩ (.inl i1) (fun k e => .inl (i2 k e)) len
  · exact box_ty hx.box hy.box (by decide)
  · rintro k (rfl | rfl | e)
    · exact .inr l2
    · exact .inr l3
    · exact .inr (l6 k e)
  · rintro k (rfl | rfl | e)
    · exact .inr l4
    · exact .inr l5
    · exact .inr (l7 k e)
theorem worn_out {w w' : World} {I : Nat → Prop} {p : Nat} {s : PS} {g : Sl} {v : Value} {e : Ending} (hb : Box w p 94 (s.pv g v).cells) (hl : s.zs.length = g.l) (hg : Own 3 1 w 0 g.a g.k g.l (s.zs.map (Value.int .i64))) (i1 : I p) (i2 : ∀ k, At g.a k → I k) (len : s.zs.length ≤ 2000000)
    (h : e = .returned (.slice none 0 0) ∧ Box w' p 94 ({ s.pv g v with ph := phWorn } : Pv).cells ∧ Kept (Only p) w w') : PrOut w I p { s with ph := .worn } [] e w' := by
  obtain ⟨he, hb', hk⟩ := h
  refine PrOut.nil he ?_ (hk.mono (fun k _ e => (show k = p from e) ▸ i1))
  exact Prp.mk' (s := { s with ph := .worn }) (g := g) (v := phWorn) hb' hl (hg.kept hk (fun k hk e => box_row hb (by decide) hg hk e)) rfl (.inl i1) (fun k e => .inl (i2 k e)) len
theorem begin_P {w : World} {I : Nat → Prop} {p : Nat} {s : PS} (h : Prp w I p s) : Calls Try.prog 18 #[.pointer (some ⟨p, 0, none⟩)] w (PrOut w I p (begS s).1 (begS s).2) := by
  have hP := h
  obtain ⟨⟨g, v, hb, hl, hg, hp, i1, i2⟩, len⟩ := h
  have again : ∀ T x, v = .iface T x → begS s = (s, []) → Calls Try.prog 18 #[.pointer (some ⟨p, 0, none⟩)] w (PrOut w I p (begS s).1 (begS s).2) := fun T x e eq => by
    rw [eq]
    exact Calls.mono (begin_again p T x _ w hb e) (fun e w' h => PrOut.same h.1 hP (by rw [h.2]; exact Kept.refl No w))
  unfold begS
  cases hs : s.ph with
  | fresh =>
    rw [hs] at hp
    by_cases ho : (okN s.n && okN s.rd) = true
    · exact Calls.mono (begin_yes p (s.pv g v) s.zs w hb hp ho hl (by show g.l ≤ _; omega) hg) (fun e w' h => prep_out ho hb hl hg i1 i2 len h)
    · have ho := Bool.eq_false_iff.2 ho
      have e2 : prepS s s.n s.rd = ({ s with ph := .worn }, []) := by unfold prepS; rw [ho]; rfl
      show Calls Try.prog 18 _ w (PrOut w I p (prepS s s.n s.rd).1 (prepS s s.n s.rd).2)
      rw [e2]
      exact Calls.mono (begin_no p (s.pv g v) w hb hp ho) (fun e w' h => worn_out hb hl hg i1 i2 len h)
  | pre x y rf => rw [hs] at hp; obtain ⟨q, t, e, _⟩ := hp; have := again _ _ e (by unfold begS; rw [hs]); unfold begS at this; rw [hs] at this; exact this
  | acc c x y rf => rw [hs] at hp; obtain ⟨q, t, e, _⟩ := hp; have := again _ _ e (by unfold begS; rw [hs]); unfold begS at this; rw [hs] at this; exact this
  | dec c => rw [hs] at hp; have := again _ _ hp (by unfold begS; rw [hs]); unfold begS at this; rw [hs] at this; exact this
  | tri u es ls => rw [hs] at hp; obtain ⟨q, t, e, _⟩ := hp; have := again _ _ e (by unfold begS; rw [hs]); unfold begS at this; rw [hs] at this; exact this
  | worn => rw [hs] at hp; have := again _ _ hp (by unfold begS; rw [hs]); unfold begS at this; rw [hs] at this; exact this
/-- What is asked. -/
theorem asked_P {w : World} {I : Nat → Prop} {p : Nat} {s : PS} (h : Prp w I p s) (hs : ∀ x y rf, s.ph ≠ .pre x y rf) (hs' : ∀ c x y rf, s.ph ≠ .acc c x y rf) (W : World) (hk : Kept No w W) : Calls Try.prog 50 #[.pointer (some ⟨p, 0, none⟩)] W (fun e w' => e = .returned (.pointer none) ∧ Kept No W w') := by
  obtain ⟨⟨g, v, hb, hl, hg, hp, i1, i2⟩, len⟩ := h
  have hB := hb.kept hk (fun e => e)
  cases e : s.ph with
  | fresh => rw [e] at hp; exact Calls.mono (asked0_any p _ W hB hp) (fun e w' h => ⟨h.1, by rw [h.2]; exact Kept.refl No W⟩)
  | pre x y rf => exact (hs _ _ _ e).elim
  | acc c x y rf => exact (hs' _ _ _ _ e).elim
  | dec c => rw [e] at hp; exact askedE_any p _ _ _ W hB hp (fun W => meth_dec c W)
  | tri u es ls => rw [e] at hp; obtain ⟨se, sl, e, _⟩ := hp; exact askedE_any p _ _ _ W hB e (fun W => meth_tri u se sl W)
  | worn => rw [e] at hp; exact askedE_any p _ _ _ W hB hp (fun W => meth_worn W)

theorem tick_P {w : World} {I : Nat → Prop} {p : Nat} {s : PS} (h : Prp w I p s) : Calls Try.prog 25 #[.pointer (some ⟨p, 0, none⟩)] w (PrOut w I p (tickS s).1 (tickS s).2) := by
  have hP := h
  obtain ⟨⟨g, v, hb, hl, hg, hp, i1, i2⟩, len⟩ := h
  have hgl : g.l ≤ 2000000 := by omega
  have hno : (∀ x y rf, s.ph ≠ .pre x y rf) → (∀ c x y rf, s.ph ≠ .acc c x y rf) → Calls Try.prog 25 #[.pointer (some ⟨p, 0, none⟩)] w (PrOut w I p s []) := fun h1 h2 =>
    Calls.mono (tick_none p w (asked_P hP h1 h2 w (Kept.refl No w))) (fun e w' h => PrOut.same h.1 hP h.2)
  have hrf : ∀ {α : Type} (T : TypeId) (f : Option α → Value) (M : Ms) (q t : Nat) (x : TS Unit) (y : TS α), QAt T f w I s.zs M q t true x y → Calls Try.prog 50 #[.pointer (some ⟨p, 0, none⟩)] w (fun e w' => e = .returned (.pointer (some ⟨q, 0, none⟩)) ∧ w' = w) → Calls Try.prog 25 #[.pointer (some ⟨p, 0, none⟩)] w (PrOut w I p (prepS s (wr1 s.top) (wr1 s.rd)).1 (prepS s (wr1 s.top) (wr1 s.rd)).2) := fun T f M q t x y hQ hA => by
    obtain ⟨⟨h0, b, a, cap, tb, ta, tc, hq, hx, hy, h1, h2, j1, j2, j3⟩, gx, gy, ty⟩ := hQ
    by_cases ho : (okN (wr1 s.top) && okN (wr1 s.rd)) = true
    · exact Calls.mono (tick_yes p q h0 M (s.pv g v) s.zs w hb hA hq ho hl hgl hg) (fun e w' h => prep_out ho hb hl hg i1 i2 len h)
    · have ho := Bool.eq_false_iff.2 ho
      have e2 : prepS s (wr1 s.top) (wr1 s.rd) = ({ s with ph := .worn }, []) := by unfold prepS; rw [ho]; rfl
      rw [e2]
      exact Calls.mono (tick_no p q h0 M (s.pv g v) w hb hA hq ho) (fun e w' h => worn_out hb hl hg i1 i2 len h)
  have hmo : ∀ {α : Type} (T : TypeId) (f : Option α → Value) (M : Ms) (q t : Nat) (x : TS Unit) (y : TS α), QAt T f w I s.zs M q t false x y → Calls Try.prog 50 #[.pointer (some ⟨p, 0, none⟩)] w (fun e w' => e = .returned (.pointer (some ⟨q, 0, none⟩)) ∧ w' = w) → Calls Try.prog 25 #[.pointer (some ⟨p, 0, none⟩)] w (PrOut w I p s ((missL x).map M.to)) := fun T f M q t x y hQ hA => by
    obtain ⟨⟨h0, b, a, cap, tb, ta, tc, hq, hx, hy, h1, h2, j1, j2, j3⟩, gx, gy, ty⟩ := hQ
    have hlx : x.g.length ≤ 2000000 := by rw [gx]; exact Nat.le_trans (uq_len _) len
    refine Calls.mono (tick_more p q h0 b cap a M x w hA hq hx hlx) ?_
    rintro e w' ⟨la, lc, he, hO, hk⟩
    exact PrOut.mk he hO ((hP.no hk).wide (fun k e => .inl e)) hk.of_no
  unfold tickS
  cases hs : s.ph with
  | fresh => exact hno (by rw [hs]; intros; nofun) (by rw [hs]; intros; nofun)
  | dec c => exact hno (by rw [hs]; intros; nofun) (by rw [hs]; intros; nofun)
  | tri u es ls => exact hno (by rw [hs]; intros; nofun) (by rw [hs]; intros; nofun)
  | worn => exact hno (by rw [hs]; intros; nofun) (by rw [hs]; intros; nofun)
  | pre x y rf =>
    rw [hs] at hp
    obtain ⟨q, t, hv, hQ⟩ := hp
    have hA := askedP_any p q t (s.pv g v) w hb hv
    cases rf with
    | false => exact hmo _ _ _ q t x y hQ hA
    | true => exact hrf _ _ _ q t x y hQ hA
  | acc c x y rf =>
    rw [hs] at hp
    obtain ⟨q, t, hv, hQ⟩ := hp
    have hA := askedA_any p q t (s.pv g v) w hb hv
    cases rf with
    | false => exact hmo _ _ _ q t x y hQ hA
    | true => exact hrf _ _ _ q t x y hQ hA
theorem hear_g (x : TS Unit) (s : Int) : (hearS x s).g = x.g := by
  unfold hearS takeS putS
  split <;> (try split) <;> rfl
theorem take_g {α : Type} (x : TS α) (s : Int) (v : α) : (takeS x s v).g = x.g := by
  unfold takeS putS
  split <;> rfl
theorem hear_no {x : TS Unit} {s : Int} (h : ¬ s ∈ missL x) : hearS x s = x := if_neg h
theorem take_cnt {α : Type} {x : TS α} {s : Int} (v : α) (hn : x.g.Nodup) (h : takeB x s = true) : 1 ≤ cnt (takeS x s v) := by
  unfold takeB at h
  rw [Bool.and_eq_true] at h
  have hm := h.1
  have hm' := hm
  unfold mayB at hm
  simp only [Bool.and_eq_true, decide_eq_true_eq] at hm
  unfold takeS
  rw [if_pos hm', cnt_put hn hm.1.1 (Option.isNone_iff_eq_none.1 hm.1.2)]
  omega

/-- A row of numbers lies apart from a tally. -/
theorem own_off {α : Type} {f : Option α → Value} {T : TypeId} {W : World} {t b cap : Nat} {a : Option Addr} {x : TS α} (h : Tal T f W t b a cap x) {c base n k0 : Nat} {g : Option Addr} {zs : List Int} (hg : Own 3 1 W base g k0 n (zs.map (Value.int .i64))) (hl : zs.length = n) {k : Nat} (hk : At g k) : ¬ Tb2 t b k := by
  rcases hg.cases (by simp [hl]) with ⟨rfl, _⟩ | ⟨g', rfl, _, _, sp, hh, _⟩
  · exact absurd hk At.none
  · obtain ⟨ad, e, rfl⟩ := hk
    cases e
    rintro (e | e)
    · have e : g' = t := e
      have := h.box
      unfold Box at this
      rw [e, this] at hh
      simp at hh
      exact h.ty hh.2
    · have e : g' = b := e
      obtain ⟨es, cl, hm, _⟩ := h.map
      rw [e, hm] at hh
      cases hh
section
variable {w : World} {I : Nat → Prop} {p q t : Nat} {s : PS} {g : Sl} {v : Value}
/-- What a message does that is no promise and no acceptance. -/
theorem oth_P {α : Type} {T : TypeId} {f : Option α → Value} {M : Ms} {rf : Bool} {x : TS Unit} {y : TS α} (hb : Box w p 94 (s.pv g v).cells) (hl : s.zs.length = g.l) (hg : Own 3 1 w 0 g.a g.k g.l (s.zs.map (Value.int .i64))) (hp : PhAt w I s v s.ph) (i1 : I p) (i2 : ∀ k, At g.a k → I k) (len : s.zs.length ≤ 2000000)
    (hQ : QAt T f w I s.zs M q t rf x y) (hT1 : T ≠ 111) (hT2 : T ≠ 94) (hask : ∀ W, Kept No w W → Calls Try.prog 50 #[.pointer (some ⟨p, 0, none⟩)] W (fun e w' => e = .returned (.pointer (some ⟨q, 0, none⟩)) ∧ Kept No W w'))
    (nk : TS Unit → Ph) (hnk : ∀ (w' : World) (I' : Nat → Prop) (x' : TS Unit) (tp : Int), QAt T f w' I' s.zs M q t true x' y → PhAt w' I' { s with top := tp, ph := nk x' } v (nk x'))
    (m : Ms) (es : List En) (ls : List La) (hbe : m.en.l * 40 ≤ 140737488355328) (hbl : m.la.l * 56 ≤ 140737488355328) (he : RdE w m.en es) (hla : RdL w m.la ls) (hsm : ∀ (w' : World) (I' : Nat → Prop), QAt T f w' I' s.zs M q t rf x y → PhAt w' I' s v s.ph) (tt : PS × List Ms)
    (ht : ansB s.v0 s.zs m = true → (m.k == 16) = false → (m.k == 17) = false → (m.k == 14) = false → ((m.k == 13) = true ∨ (m.k == 13) = false ∧ (m.k == 15) = true) → Calls Try.prog 28 #[.pointer (some ⟨p, 0, none⟩), .agg m.cells] w (PrOut w I p tt.1 tt.2)) :
    Calls Try.prog 28 #[.pointer (some ⟨p, 0, none⟩), .agg m.cells] w (PrOut w I p (othS s x nk m es ls tt).1 (othS s x nk m es ls tt).2) := by
  have hP : Prp w I p s := ⟨⟨g, v, hb, hl, hg, hp, i1, i2⟩, len⟩
  have hgl : (s.pv g v).ga.l ≤ 2000000 := by show g.l ≤ _; omega
  have hnum : Nums .i64 w (s.pv g v).ga.a s.zs := hg.nums hl
  have hgo : ∀ k, At g.a k → ¬ Only p k := fun k hk e => box_row hb (by decide) hg hk e
  unfold othS
  cases hab : ansB s.v0 s.zs m with
  | false => exact Calls.mono (take_wrong p (s.pv g v) m q s.zs w hb hask hl hgl hnum hab) (fun e w' h => PrOut.same h.1 hP h.2)
  | true =>
  cases h16 : m.k == 16 with
  | true =>
    refine Calls.mono (take_known p (s.pv g v) m q s.zs w hb hask hl hgl hnum hab h16) ?_
    rintro e w' ⟨he, hb', hk⟩
    exact PrOut.nil he (Prp.mk' (s := { s with ph := .dec m.c }) (g := g) (v := phDec m.c) hb' hl (hg.kept hk hgo) rfl (.inl i1) (fun k e => .inl (i2 k e)) len) (hk.mono (fun k _ e => (show k = p from e) ▸ i1))
  | false =>
  cases h17 : m.k == 17 with
  | true =>
    refine Calls.mono (take_bucket p (s.pv g v) m q s.zs es ls w hb hask hl hgl hnum hab h16 h17 hbe hbl he hla) ?_
    rintro e w' ⟨se, sl, he', hb', hE, hL, hk⟩
    refine PrOut.nil he' (Prp.mk' (s := { s with ph := .tri m.up es ls }) (g := g) (v := phTri m.up se sl) hb' hl (hg.kept hk hgo) ⟨se, sl, rfl, hE.lower (Nat.zero_le _), hL.lower (Nat.zero_le _), fun k e => .inr (hE.own.base e), fun k e => .inr (hL.own.base e), ?_, ?_⟩ (.inl i1) (fun k e => .inl (i2 k e)) len) (hk.mono (fun k _ e => (show k = p from e) ▸ i1))
    · rw [← hE.len, he.len]; exact hbe
    · rw [← hL.len, hla.len]; exact hbl
  | false =>
  cases h14 : m.k == 14 with
  | true =>
    obtain ⟨⟨h0, b, a, cap, tb, ta, tc, hq, hx, hy, h1, h2, j1, j2, j3⟩, gx, gy, ty⟩ := hQ
    by_cases hm : m.fi ∈ missL x
    · refine Calls.mono (take_nack p (s.pv g v) m q s.zs h0 b cap a M rf x w hb hask hl hgl hnum hab h16 h17 h14 hq hx (decide_eq_true hm)) ?_
      rintro e w' ⟨he', hb', hq', hx', hk⟩
      have hg' : Own 3 1 w' 0 g.a g.k g.l (s.zs.map (Value.int .i64)) := hg.kept hk (fun k e => by
        rintro (f | rfl | rfl)
        · exact own_off (c := 1) hx hg hl e f
        · exact box_row hq (by decide) hg e rfl
        · exact box_row hb (by decide) hg e rfl)
      have hy' : Tal T f w' t tb ta tc y := hy.kept hk (fun k e => by
        rintro (f | rfl | rfl)
        · exact tal_apart hx hy h1 h2 e f
        · exact tal_ne hy hq hT1 (by decide) e rfl
        · exact tal_ne hy hb hT2 (by decide) e rfl)
      have hI : ∀ k, NackK h0 b q p k → I k := by
        rintro k ((rfl | rfl) | rfl | rfl)
        · exact j2 _ (.inl rfl)
        · exact j2 _ (.inr (.inl rfl))
        · exact j1
        · exact i1
      simp only [if_pos hm, if_true, if_false, Bool.false_eq_true]
      refine PrOut.nil he' (Prp.mk' (s := { s with top := max s.top m.st.n, ph := nk (hearS x m.fi) }) (g := g) (v := v) hb' hl hg' ?_ (.inl i1) (fun k e => .inl (i2 k e)) len) (hk.mono (fun k _ e => hI k e))
      exact hnk w' _ _ _ ⟨⟨h0, b, a, cap, tb, ta, tc, hq', hx', hy', h1, h2, .inl j1, fun k e => .inl (j2 k e), fun k e => .inl (j3 k e)⟩, by rw [hear_g]; exact gx, gy, ty⟩
    · refine Calls.mono (take_nack_heard p (s.pv g v) m q s.zs h0 b cap a M rf x w hb hask hl hgl hnum hab h16 h17 h14 hq hx (decide_eq_false hm)) ?_
      rintro e w' ⟨he', hb', hq', hx', hk⟩
      rw [hear_no hm] at hx'
      simp only [if_neg hm, if_true, if_false, Bool.false_eq_true]
      have hI : ∀ k, Tb2 h0 b k → I k := by
        rintro k (rfl | rfl)
        · exact j2 _ (.inl rfl)
        · exact j2 _ (.inr (.inl rfl))
      refine PrOut.nil he' ?_ (hk.mono (fun k _ e => hI k e))
      have hg' : Own 3 1 w' 0 g.a g.k g.l (s.zs.map (Value.int .i64)) := hg.kept hk (fun k e f => own_off (c := 1) hx hg hl e f)
      have hy' : Tal T f w' t tb ta tc y := hy.kept hk (fun k e f => tal_apart hx hy h1 h2 e f)
      exact Prp.mk' (g := g) (v := v) hb' hl hg' (hsm w' _ ⟨⟨h0, b, a, cap, tb, ta, tc, hq', hx', hy', h1, h2, .inl j1, fun k e => .inl (j2 k e), fun k e => .inl (j3 k e)⟩, gx, gy, ty⟩) (.inl i1) (fun k e => .inl (i2 k e)) len
  | false =>
  cases h13 : m.k == 13 with
  | true => exact ht hab h16 h17 h14 (.inl h13)
  | false =>
  cases h15 : m.k == 15 with
  | true => exact ht hab h16 h17 h14 (.inr ⟨h13, h15⟩)
  | false => exact Calls.mono (take_pass p (s.pv g v) m q s.zs w hb hask hl hgl hnum hab h16 h17 h14 h13 h15) (fun e w' h => PrOut.same h.1 hP h.2)
/-- A promise. -/
theorem takP_P {rf : Bool} {x : TS Unit} {y : TS Vt} (hb : Box w p 94 (s.pv g v).cells) (hl : s.zs.length = g.l) (hg : Own 3 1 w 0 g.a g.k g.l (s.zs.map (Value.int .i64))) (i1 : I p) (i2 : ∀ k, At g.a k → I k) (len : s.zs.length ≤ 2000000) (hph : s.ph = .pre x y rf) (hv : v = phPre q t)
    (hQ : QAt 170 V.ans w I s.zs (prepM s.v0) q t rf x y) (m : Ms) :
    Calls Try.prog 58 #[.pointer (some ⟨p, 0, none⟩), .agg m.cells] w (PrOut w I p (takP s x y rf m).1 (takP s x y rf m).2) := by
  have hgl : (s.pv g v).ga.l ≤ 2000000 := by show g.l ≤ _; omega
  have hvp : (s.pv g v).ph = phPre q t := hv
  have hP : Prp w I p s := ⟨⟨g, v, hb, hl, hg, by rw [hph]; exact ⟨q, t, hv, hQ⟩, i1, i2⟩, len⟩
  obtain ⟨⟨h0, b, a, cap, tb, ta, tc, hq, hx, hy, h1, h2, j1, j2, j3⟩, gx, gy, ty⟩ := hQ
  have hgr : ∀ w', Kept (fun k => Tb2 h0 b k ∨ Tb2 t tb k) w w' → Own 3 1 w' 0 g.a g.k g.l (s.zs.map (Value.int .i64)) := fun w' hk => hg.kept hk (fun k e f => f.elim (own_off (c := 1) hx hg hl e) (own_off (c := 1) hy hg hl e))
  have hI : ∀ k, (Tb2 h0 b k ∨ Tb2 t tb k) → I k := by
    rintro k ((rfl | rfl) | (rfl | rfl))
    · exact j2 _ (.inl rfl)
    · exact j2 _ (.inr (.inl rfl))
    · exact j3 _ (.inl rfl)
    · exact j3 _ (.inr (.inl rfl))
  unfold takP
  cases hs : eqS m.st ⟨s.n, s.cl⟩ with
  | false => exact Calls.mono (agreed_other p (s.pv g v) m w hb hs) (fun e w' h => PrOut.same h.1 hP h.2)
  | true =>
  cases hk : m.k == 13 with
  | false => exact Calls.mono (agreedP_kind p q t (s.pv g v) m w hb hs hvp hk) (fun e w' h => PrOut.same h.1 hP h.2)
  | true =>
  cases hh : decide (m.fi ∈ missL x) with
  | false =>
    refine Calls.mono (agreedP_heard p q t (s.pv g v) m h0 b cap tb tc a ta _ rf x y w hb hs hvp hk hq hx hy ⟨h1, h2⟩ hh) ?_
    rintro e w' ⟨he, hx', hk'⟩
    refine PrOut.nil he ?_ (hk'.mono (fun k _ e => hI k (.inl e)))
    have hk2 : Kept (fun k => Tb2 h0 b k ∨ Tb2 t tb k) w w' := hk'.mono (fun k _ e => .inl e)
    refine Prp.mk' (g := g) (v := v) (hb.kept hk' (tal_far2 hx hb (by decide) (by decide))) hl (hgr w' hk2) ?_ (.inl i1) (fun k e => .inl (i2 k e)) len
    show PhAt w' _ s v s.ph
    rw [hph]
    exact ⟨q, t, hv, ⟨⟨h0, b, a, cap, tb, ta, tc, hq.kept hk' (tal_far2 hx hq (by decide) (by decide)), hx', hy.kept hk' (fun k e f => tal_apart hx hy h1 h2 e f), h1, h2, .inl j1, fun k e => .inl (j2 k e), fun k e => .inl (j3 k e)⟩, gx, gy, ty⟩⟩
  | true =>
  simp only [Bool.and_self, if_true]
  cases htk : takeB y m.fi with
  | false =>
    refine Calls.mono (agreedP_few p q t (s.pv g v) m h0 b cap tb tc a ta _ rf x y w hb hs hvp hk hq hx hy ⟨h1, h2⟩ hh htk) ?_
    rintro e w' ⟨he, hx', hy', hk'⟩
    refine PrOut.nil he ?_ (hk'.mono (fun k _ e => hI k e))
    refine Prp.mk' (s := { s with ph := .pre (hearS x m.fi) (takeS y m.fi (msV m)) rf }) (g := g) (v := v) (hb.kept hk' (fun e => e.elim (tal_far2 hx hb (by decide) (by decide)) (tal_far2 hy hb (by decide) (by decide)))) hl (hgr w' hk') ?_ (.inl i1) (fun k e => .inl (i2 k e)) len
    exact ⟨q, t, hv, ⟨⟨h0, b, a, cap, tb, ta, tc, hq.kept hk' (fun e => e.elim (tal_far2 hx hq (by decide) (by decide)) (tal_far2 hy hq (by decide) (by decide))), hx', hy', h1, h2, .inl j1, fun k e => .inl (j2 k e), fun k e => .inl (j3 k e)⟩, by rw [hear_g]; exact gx, by rw [take_g]; exact gy, ty⟩⟩
  | true =>
  have hcn : cnt (takeS y m.fi (msV m)) ≤ 2000000 ∧ 1 ≤ cnt (takeS y m.fi (msV m)) := ⟨by have := cnt_le (takeS y m.fi (msV m)); rw [take_g, gy] at this; have := uq_len s.zs; omega, take_cnt _ hy.nd htk⟩
  simp only [if_true]
  unfold accS
  cases ho : okN s.n && okN (wr1 s.rd) with
  | false =>
    refine Calls.mono (agreedP_no p q t (s.pv g v) m h0 b cap tb tc a ta _ rf x y w hb hs hvp hk hq hx hy ⟨h1, h2⟩ hh htk hcn ho) ?_
    rintro e w' ⟨he, hb', hx', hy', hk'⟩
    have hk2 : Kept I w w' := hk'.mono (by rintro k _ (rfl | e); exact i1; exact hI k e)
    refine PrOut.nil he ?_ hk2
    exact Prp.mk' (s := { s with ph := .worn }) (g := g) (v := phWorn) hb' hl (hg.kept hk' (by
      rintro k e (rfl | f)
      · exact box_row hb (by decide) hg e rfl
      · exact f.elim (own_off (c := 1) hx hg hl e) (own_off (c := 1) hy hg hl e))) rfl (.inl i1) (fun k e => .inl (i2 k e)) len
  | true =>
    refine Calls.mono (agreedP_yes p q t (s.pv g v) m h0 b cap tb tc a ta _ rf x y s.zs w hb hs hvp hk hq hx hy ⟨h1, h2⟩ hh htk hcn ho hl hgl hgr) ?_
    rintro e w' ⟨W, hA, hx', hy', hk'⟩
    have hcs : vCmd (bestV (ownV (s.pv g v) :: (gotL (takeS y m.fi (msV m))).map Prod.snd)) = choiceS s (takeS y m.fi (msV m)) := rfl
    have hmv : movP (s.pv g v) (s.pv g v).n (wr1 (s.pv g v).rd) = (mov s s.n (wr1 s.rd)).pv g v := pv_mov s g v s.n (wr1 s.rd) ho
    rw [hcs, hmv] at hA
    generalize choiceS s (takeS y m.fi (msV m)) = c at hA ⊢
    obtain ⟨q', h', b', a', cap', t', tb', ta', tc', la, lc, he, hO, hb', hq', hx2, hy2, ⟨hn1, hn2⟩, ⟨l1, l2, l3, l4, l5⟩, l6, l7, hk2⟩ := hA
    have hsz := hk'.size
    have hW : Box W p 94 (s.pv g v).cells := hb.kept hk' (fun e => e.elim (tal_far2 hx hb (by decide) (by decide)) (tal_far2 hy hb (by decide) (by decide)))
    have hkI : Kept I w w' := hk'.trans hk2 (fun k e => hI k e) (fun k _ e => (show k = p from e) ▸ i1)
    simp only [if_true]
    refine PrOut.mk (la := la) (lc := lc) (by rw [he, List.length_map]) (by rw [List.length_map]; exact hO.lower hsz) ?_ hkI
    refine Prp.mk' (s := { mov s s.n (wr1 s.rd) with ph := .acc c (tNew Unit s.zs (s.zs.length : Int)) (tNew Unit s.zs (needN s.zs.length)) false }) (g := g) (v := phAcc q' t') hb' hl ((hgr W hk').kept hk2 (fun k e f => box_row hW (by decide) (hgr W hk') e f)) ⟨q', t', rfl, ⟨⟨h', b', a', cap', tb', ta', tc', hq', hx2, hy2, hn2, hn1, .inr (by omega), ?_, ?_⟩, rfl, rfl, by decide⟩⟩ (.inl i1) (fun k e => .inl (i2 k e)) len
    · rintro k (rfl | rfl | e)
      · exact .inr (by omega)
      · exact .inr (by omega)
      · exact .inr (Nat.le_trans hsz (l6 k e))
    · rintro k (rfl | rfl | e)
      · exact .inr (by omega)
      · exact .inr (by omega)
      · exact .inr (Nat.le_trans hsz (l7 k e))
/-- An acceptance. -/
theorem takA_P {rf : Bool} {c : Cm} {x y : TS Unit} (hb : Box w p 94 (s.pv g v).cells) (hl : s.zs.length = g.l) (hg : Own 3 1 w 0 g.a g.k g.l (s.zs.map (Value.int .i64))) (i1 : I p) (i2 : ∀ k, At g.a k → I k) (len : s.zs.length ≤ 2000000) (hph : s.ph = .acc c x y rf) (hv : v = phAcc q t)
    (hQ : QAt 132 U.ans w I s.zs (accM s.v0 c) q t rf x y) (m : Ms) :
    Calls Try.prog 58 #[.pointer (some ⟨p, 0, none⟩), .agg m.cells] w (PrOut w I p (takA s c x y rf m).1 (takA s c x y rf m).2) := by
  have hgl : (s.pv g v).ga.l ≤ 2000000 := by show g.l ≤ _; omega
  have hvp : (s.pv g v).ph = phAcc q t := hv
  have hP : Prp w I p s := ⟨⟨g, v, hb, hl, hg, by rw [hph]; exact ⟨q, t, hv, hQ⟩, i1, i2⟩, len⟩
  obtain ⟨⟨h0, b, a, cap, tb, ta, tc, hq, hx, hy, h1, h2, j1, j2, j3⟩, gx, gy, ty⟩ := hQ
  have hgr : ∀ w', Kept (fun k => Tb2 h0 b k ∨ Tb2 t tb k) w w' → Own 3 1 w' 0 g.a g.k g.l (s.zs.map (Value.int .i64)) := fun w' hk => hg.kept hk (fun k e f => f.elim (own_off (c := 1) hx hg hl e) (own_off (c := 1) hy hg hl e))
  have hI : ∀ k, (Tb2 h0 b k ∨ Tb2 t tb k) → I k := by
    rintro k ((rfl | rfl) | (rfl | rfl))
    · exact j2 _ (.inl rfl)
    · exact j2 _ (.inr (.inl rfl))
    · exact j3 _ (.inl rfl)
    · exact j3 _ (.inr (.inl rfl))
  unfold takA
  cases hs : eqS m.st ⟨s.n, s.cl⟩ with
  | false => exact Calls.mono (agreed_other p (s.pv g v) m w hb hs) (fun e w' h => PrOut.same h.1 hP h.2)
  | true =>
  cases hk : m.k == 15 with
  | false => exact Calls.mono (agreedA_kind p q t (s.pv g v) m w hb hs hvp hk) (fun e w' h => PrOut.same h.1 hP h.2)
  | true =>
  cases hh : decide (m.fi ∈ missL x) with
  | false =>
    refine Calls.mono (agreedA_heard p q t (s.pv g v) m h0 b cap tb tc a ta _ rf x y w hb hs hvp hk hq hx hy ⟨h1, h2⟩ hh) ?_
    rintro e w' ⟨he, hx', hk'⟩
    refine PrOut.nil he ?_ (hk'.mono (fun k _ e => hI k (.inl e)))
    have hk2 : Kept (fun k => Tb2 h0 b k ∨ Tb2 t tb k) w w' := hk'.mono (fun k _ e => .inl e)
    refine Prp.mk' (g := g) (v := v) (hb.kept hk' (tal_far2 hx hb (by decide) (by decide))) hl (hgr w' hk2) ?_ (.inl i1) (fun k e => .inl (i2 k e)) len
    show PhAt w' _ s v s.ph
    rw [hph]
    exact ⟨q, t, hv, ⟨⟨h0, b, a, cap, tb, ta, tc, hq.kept hk' (tal_far2 hx hq (by decide) (by decide)), hx', hy.kept hk' (fun k e f => tal_apart hx hy h1 h2 e f), h1, h2, .inl j1, fun k e => .inl (j2 k e), fun k e => .inl (j3 k e)⟩, gx, gy, ty⟩⟩
  | true =>
  simp only [Bool.and_self, if_true]
  cases htk : takeB y m.fi with
  | false =>
    refine Calls.mono (agreedA_few p q t (s.pv g v) m h0 b cap tb tc a ta _ rf x y w hb hs hvp hk hq hx hy ⟨h1, h2⟩ hh htk) ?_
    rintro e w' ⟨he, hx', hy', hk'⟩
    refine PrOut.nil he ?_ (hk'.mono (fun k _ e => hI k e))
    refine Prp.mk' (s := { s with ph := .acc c (hearS x m.fi) (takeS y m.fi ()) rf }) (g := g) (v := v) (hb.kept hk' (fun e => e.elim (tal_far2 hx hb (by decide) (by decide)) (tal_far2 hy hb (by decide) (by decide)))) hl (hgr w' hk') ?_ (.inl i1) (fun k e => .inl (i2 k e)) len
    exact ⟨q, t, hv, ⟨⟨h0, b, a, cap, tb, ta, tc, hq.kept hk' (fun e => e.elim (tal_far2 hx hq (by decide) (by decide)) (tal_far2 hy hq (by decide) (by decide))), hx', hy', h1, h2, .inl j1, fun k e => .inl (j2 k e), fun k e => .inl (j3 k e)⟩, by rw [hear_g]; exact gx, by rw [take_g]; exact gy, ty⟩⟩
  | true =>
    refine Calls.mono (agreedA_enough p q t (s.pv g v) m h0 b cap tb tc a ta _ rf x y s.zs w hb hs hvp hk hq hx hy ⟨h1, h2⟩ hh htk hl hgl hgr) ?_
    rintro e w' ⟨la, lc, he, hO, hb', hx', hy', hk'⟩
    have hkI : Kept I w w' := hk'.mono (by rintro k _ (rfl | e); exact i1; exact hI k e)
    simp only [if_true]
    refine PrOut.mk (la := la) (lc := lc) (by rw [he, List.length_map]) (by rw [List.length_map]; exact hO) ?_ hkI
    exact Prp.mk' (s := { s with ph := .dec c }) (g := g) (v := phDec c) hb' hl (hg.kept hk' (by
      rintro k e (rfl | f)
      · exact box_row hb (by decide) hg e rfl
      · exact f.elim (own_off (c := 1) hx hg hl e) (own_off (c := 1) hy hg hl e))) rfl (.inl i1) (fun k e => .inl (i2 k e)) len
end
theorem PrOut.ret {w w' : World} {I : Nat → Prop} {p : Nat} {s : PS} {l : List Ms} {e : Ending} (h : PrOut w I p s l e w') : ∃ x : Sl, e = .returned x.v := by
  obtain ⟨la, lc, I', he, _⟩ := h
  exact ⟨⟨la, l.length, lc⟩, he⟩
/-- A message behind some steps that changed nothing of what was. -/
theorem PrOut.behind {w W w' : World} {I : Nat → Prop} {p : Nat} {s : PS} {l : List Ms} {e : Ending} (hk : Kept No w W) (h : PrOut W I p s l e w') : PrOut w I p s l e w' := by
  obtain ⟨la, lc, I', he, hO, hP, hI, hk'⟩ := h
  have hsz := hk.size
  exact ⟨la, lc, I', he, hO.lower hsz, hP, fun k e => ⟨(hI k e).1.imp id (fun l => Nat.le_trans hsz l), (hI k e).2⟩, (hk.of_no : Kept I w W).then hk'⟩
theorem take_P {w : World} {I : Nat → Prop} {p : Nat} {s : PS} (h : Prp w I p s) (m : Ms) (es : List En) (ls : List La) (hbe : m.en.l * 40 ≤ 140737488355328) (hbl : m.la.l * 56 ≤ 140737488355328) (he : RdE w m.en es) (hla : RdL w m.la ls) :
    Calls Try.prog 28 #[.pointer (some ⟨p, 0, none⟩), .agg m.cells] w (PrOut w I p (taksS s m es ls).1 (taksS s m es ls).2) := by
  have hP := h
  obtain ⟨⟨g, v, hb, hl, hg, hp, i1, i2⟩, len⟩ := h
  have hgl : (s.pv g v).ga.l ≤ 2000000 := by show g.l ≤ _; omega
  have hnum : Nums .i64 w (s.pv g v).ga.a s.zs := hg.nums hl
  have hno : (∀ x y rf, s.ph ≠ .pre x y rf) → (∀ c x y rf, s.ph ≠ .acc c x y rf) → Calls Try.prog 28 #[.pointer (some ⟨p, 0, none⟩), .agg m.cells] w (PrOut w I p s []) := fun h1 h2 =>
    Calls.mono (take_silent p (s.pv g v) m w hb (fun W hk => asked_P hP h1 h2 W hk)) (fun e w' h => PrOut.same h.1 hP h.2)
  unfold taksS
  cases hs : s.ph with
  | fresh => exact hno (by rw [hs]; intros; nofun) (by rw [hs]; intros; nofun)
  | dec c => exact hno (by rw [hs]; intros; nofun) (by rw [hs]; intros; nofun)
  | tri u es ls => exact hno (by rw [hs]; intros; nofun) (by rw [hs]; intros; nofun)
  | worn => exact hno (by rw [hs]; intros; nofun) (by rw [hs]; intros; nofun)
  | pre x y rf =>
    have hp' := hp
    rw [hs] at hp'
    obtain ⟨q, t, hv, hQ⟩ := hp'
    have hask : ∀ W, Kept No w W → Calls Try.prog 50 #[.pointer (some ⟨p, 0, none⟩)] W (fun e w' => e = .returned (.pointer (some ⟨q, 0, none⟩)) ∧ Kept No W w') := fun W hk => Calls.mono (askedP_any p q t (s.pv g v) W (hb.kept hk (fun e => e)) hv) (fun e w' h => ⟨h.1, by rw [h.2]; exact Kept.refl No W⟩)
    have hD : ∀ W, Kept No w W → Calls Try.prog 58 #[.pointer (some ⟨p, 0, none⟩), .agg m.cells] W (PrOut W I p (takP s x y rf m).1 (takP s x y rf m).2) := fun W hk => by
      refine takP_P (hb.kept hk (fun e => e)) hl (hg.no hk) i1 i2 len hs hv (hQ.kept hk (fun k e _ _ => ⟨fun f => f, e⟩)) m
    refine oth_P hb hl hg hp i1 i2 len hQ (by decide) (by decide) hask (fun x' => .pre x' y true) (fun w' I' x' tp h => ⟨q, t, hv, h⟩) m es ls hbe hbl he hla (fun w' I' h => by rw [hs]; exact ⟨q, t, hv, h⟩) _ ?_
    rintro hab h16 h17 h14 (h13 | ⟨h13, h15⟩)
    · exact Calls.mono (take_promise p (s.pv g v) m q s.zs (fun W => PrOut W I p (takP s x y rf m).1 (takP s x y rf m).2) w hb hask hl hgl hnum hab h16 h17 h14 h13 (fun W e w' h => h.ret) hD) (fun e w' ⟨W, hk, h⟩ => h.behind hk)
    · exact Calls.mono (take_accepted p (s.pv g v) m q s.zs (fun W => PrOut W I p (takP s x y rf m).1 (takP s x y rf m).2) w hb hask hl hgl hnum hab h16 h17 h14 h13 h15 (fun W e w' h => h.ret) hD) (fun e w' ⟨W, hk, h⟩ => h.behind hk)
  | acc c x y rf =>
    have hp' := hp
    rw [hs] at hp'
    obtain ⟨q, t, hv, hQ⟩ := hp'
    have hask : ∀ W, Kept No w W → Calls Try.prog 50 #[.pointer (some ⟨p, 0, none⟩)] W (fun e w' => e = .returned (.pointer (some ⟨q, 0, none⟩)) ∧ Kept No W w') := fun W hk => Calls.mono (askedA_any p q t (s.pv g v) W (hb.kept hk (fun e => e)) hv) (fun e w' h => ⟨h.1, by rw [h.2]; exact Kept.refl No W⟩)
    have hD : ∀ W, Kept No w W → Calls Try.prog 58 #[.pointer (some ⟨p, 0, none⟩), .agg m.cells] W (PrOut W I p (takA s c x y rf m).1 (takA s c x y rf m).2) := fun W hk => by
      refine takA_P (hb.kept hk (fun e => e)) hl (hg.no hk) i1 i2 len hs hv (hQ.kept hk (fun k e _ _ => ⟨fun f => f, e⟩)) m
    refine oth_P hb hl hg hp i1 i2 len hQ (by decide) (by decide) hask (fun x' => .acc c x' y true) (fun w' I' x' tp h => ⟨q, t, hv, h⟩) m es ls hbe hbl he hla (fun w' I' h => by rw [hs]; exact ⟨q, t, hv, h⟩) _ ?_
    rintro hab h16 h17 h14 (h13 | ⟨h13, h15⟩)
    · exact Calls.mono (take_promise p (s.pv g v) m q s.zs (fun W => PrOut W I p (takA s c x y rf m).1 (takA s c x y rf m).2) w hb hask hl hgl hnum hab h16 h17 h14 h13 (fun W e w' h => h.ret) hD) (fun e w' ⟨W, hk, h⟩ => h.behind hk)
    · exact Calls.mono (take_accepted p (s.pv g v) m q s.zs (fun W => PrOut W I p (takA s c x y rf m).1 (takA s c x y rf m).2) w hb hask hl hgl hnum hab h16 h17 h14 h13 h15 (fun W e w' h => h.ret) hD) (fun e w' ⟨W, hk, h⟩ => h.behind hk)
/-- What a proposer shows. -/
def decO (s : PS) : Cm × Bool := match s.ph with | .dec c => (c, true) | _ => (cZ, false)
def triO (s : PS) : Int × List En × List La × Bool := match s.ph with | .tri u es ls => (u, es, ls, true) | _ => (0, [], [], false)
def worO (s : PS) : Bool := match s.ph with | .worn => true | _ => false
/-- Its outcome as a value. -/
theorem out_P {w : World} {I : Nat → Prop} {p : Nat} {s : PS} (h : Prp w I p s) : ∃ (g : Sl) (v : Value) (o : Oc), Box w p 94 (s.pv g v).cells ∧ (∀ W, Calls Try.prog 45 #[v] W (fun e w' => e = .returned (.agg o.cells) ∧ Kept No W w')) ∧ o.c = (decO s).1 ∧ o.d = (decO s).2 ∧ o.w = worO s ∧ o.u = (triO s).1 ∧ o.t = (triO s).2.2.2 ∧ RdE w o.e (triO s).2.1 ∧ RdL w o.l (triO s).2.2.1 ∧ o.e.l * 40 ≤ 140737488355328 ∧ o.l.l * 56 ≤ 140737488355328 := by
  obtain ⟨⟨g, v, hb, hl, hg, hp, i1, i2⟩, len⟩ := h
  have e0 : RdE w slZ [] := ⟨RowsAt.nil _ _ _, rfl, fun _ => rfl⟩
  have l0 : RdL w slZ [] := ⟨RowsAt.nil _ _ _, rfl, fun _ => rfl⟩
  unfold decO triO worO
  cases hs : s.ph with
  | fresh => rw [hs] at hp; exact ⟨g, v, ocZ, hb, fun W => by rw [show v = .nilIface from hp]; exact out_nil W, rfl, rfl, rfl, rfl, rfl, e0, l0, by show 0 * 40 ≤ 140737488355328; decide, by show 0 * 56 ≤ 140737488355328; decide⟩
  | pre x y rf => rw [hs] at hp; obtain ⟨q, t, hv, _⟩ := hp; exact ⟨g, v, ocZ, hb, fun W => by rw [hv]; exact out_pre q t W, rfl, rfl, rfl, rfl, rfl, e0, l0, by show 0 * 40 ≤ 140737488355328; decide, by show 0 * 56 ≤ 140737488355328; decide⟩
  | acc c x y rf => rw [hs] at hp; obtain ⟨q, t, hv, _⟩ := hp; exact ⟨g, v, ocZ, hb, fun W => by rw [hv]; exact out_acc q t W, rfl, rfl, rfl, rfl, rfl, e0, l0, by show 0 * 40 ≤ 140737488355328; decide, by show 0 * 56 ≤ 140737488355328; decide⟩
  | dec c => rw [hs] at hp; exact ⟨g, v, ⟨true, false, false, c, 0, slZ, slZ⟩, hb, fun W => by rw [show v = phDec c from hp]; exact out_dec c W, rfl, rfl, rfl, rfl, rfl, e0, l0, by show 0 * 40 ≤ 140737488355328; decide, by show 0 * 56 ≤ 140737488355328; decide⟩
  | tri u es ls =>
    rw [hs] at hp
    obtain ⟨se, sl, hv, hE, hL, _, _, b1, b2⟩ := hp
    exact ⟨g, v, ⟨false, true, false, cZ, u, se, sl⟩, hb, fun W => by rw [hv]; exact out_tri u se sl W, rfl, rfl, rfl, rfl, rfl, hE.rd, hL.rd, b1, b2⟩
  | worn => rw [hs] at hp; exact ⟨g, v, ⟨false, false, true, cZ, 0, slZ, slZ⟩, hb, fun W => by rw [show v = phWorn from hp]; exact out_worn W, rfl, rfl, rfl, rfl, rfl, e0, l0, by show 0 * 40 ≤ 140737488355328; decide, by show 0 * 56 ≤ 140737488355328; decide⟩
theorem decided_P {w : World} {I : Nat → Prop} {p : Nat} {s : PS} (h : Prp w I p s) : Calls Try.prog 21 #[.pointer (some ⟨p, 0, none⟩)] w (fun e w' => e = .returned (.tuple #[.agg (decO s).1.cells, .bool (decO s).2]) ∧ Kept No w w') := by
  obtain ⟨g, v, o, hb, hO, e1, e2, _⟩ := out_P h
  rw [← e1, ← e2]
  exact decided_any p (s.pv g v) o w hb hO
theorem trimmed_P {w : World} {I : Nat → Prop} {p : Nat} {s : PS} (h : Prp w I p s) : Calls Try.prog 30 #[.pointer (some ⟨p, 0, none⟩)] w (fun e w' => ∃ se sl : Sl, e = .returned (.tuple #[.agg (Bv.cells ⟨(triO s).1, se, sl⟩), .bool (triO s).2.2.2]) ∧ OwE w' w.heap.size se (triO s).2.1 ∧ OwL w' w.heap.size sl (triO s).2.2.1 ∧ Kept No w w') := by
  obtain ⟨g, v, o, hb, hO, e1, e2, e3, e4, e5, hE, hL, b1, b2⟩ := out_P h
  rw [← e4, ← e5]
  exact trimmed_any p (s.pv g v) o _ _ w hb hO b1 b2 hE hL
def newS (cl op : Int) (y : Ky) (zs : List Int) (c : Cm) (n r : Int) : PS := ⟨cl, op, y, uq zs, c, n, n, r, .fresh⟩
theorem new_P (cl op : Int) (y : Ky) (a0 : Option Addr) (n0 cap0 : Nat) (zs : List Int) (c : Cm) (n r : Int) (w : World) (hz : zs.length = n0) (hn : n0 ≤ 2000000) (hg : Nums .i64 w a0 zs) :
    Calls Try.prog 9 #[.int .i64 cl, .int .i64 op, .agg y.cells, .slice a0 n0 cap0, .agg c.cells, .int .i64 n, .int .i64 r] w (fun e w' => ∃ p I, e = .returned (.pointer (some ⟨p, 0, none⟩)) ∧ Prp w' I p (newS cl op y zs c n r) ∧ (∀ k, I k → w.heap.size ≤ k ∧ k < w'.heap.size ∧ NotM w' k) ∧ Kept No w w') := by
  refine Calls.mono (newP_any cl op y a0 n0 cap0 zs c n r w hz (by omega) hg) ?_
  rintro e w' ⟨p, ga, gc, he, hb, hO, hlo, hk⟩
  have hP : Prp w' (fun k => w.heap.size ≤ k) p (newS cl op y zs c n r) := Prp.mk' (s := newS cl op y zs c n r) (g := ⟨ga, (uq zs).length, gc⟩) (v := .nilIface) hb rfl (hO.lower (Nat.zero_le _)) rfl hlo (fun k e => hO.base e) (by have := uq_len zs; show (uq zs).length ≤ _; omega)
  exact ⟨p, _, he, hP.cut, fun k e => e, hk⟩

end Go.Proofs.Ytpabpeppgpeaoaa
