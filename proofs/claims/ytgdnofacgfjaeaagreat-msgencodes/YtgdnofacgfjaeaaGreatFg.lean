import Derived.Test.YtgdnofacgfjaeaaGreatKe
import Derived.Test.YtgdnofacgfjaeaaGreatFe
namespace Go.Proofs.YtgdnofacgfjaeaaGreat.Md
open Go.RowKit
set_option linter.unusedVariables false
set_option linter.unusedSimpArgs false
section
variable {ops : Array Oper} {a : Act} {w : World} {Q : Exit → Act → World → Prop} {md : Region.Mode} {S : Nat → Prop} {w0 : World} {l : List (Nat × TypeId × Array Value)} {fuel : Nat} {listed : Array Bool}
end
def opA (l : Array Oper) (i : Nat) : Oper := match l[i]? with | some o => o | none => ⟨none, .move (.tmp 0), 0, "", #[], none⟩
section
variable {ops : Array Oper} {a : Act} {w : World} {Q : Exit → Act → World → Prop} {md : Region.Mode} {S : Nat → Prop} {w0 : World} {l : List (Nat × TypeId × Array Value)} {fuel : Nat} {listed : Array Bool}
theorem yT (i d : Nat) (HF : Hid (Fq S w0 w l)) {v : Value} (hy : ∀ w, Hid (Fq S w0 w l) → (execOp a.eval (opA ops i)).run Tryz.prog w = .ok (.value v) w)
    (h : wpAnyH Tryz.prog md ops Q (fun w' => Hid (Fq S w0 w' l)) fuel (listed.setIfInBounds i true) (a.put (some d) v) w)
    (hi : ops[i]? = some (opA ops i) := by kernel_rfl) (hd : (opA ops i).dst = some d := by kernel_rfl) (hs : Region.noSelect ops = true := by kernel_rfl) (hf : Region.free md ops listed i = true := by kernel_rfl) (hr : (Region.ready md ops listed).contains i = true := by kernel_rfl)
    (hQ : ∀ c a w, Q (.panic c) (a.put (some d) v) w → Q (.panic c) a w := by exact fun _ _ _ h => h) (hw : Region.wanted (opA ops i) (yielded ops a.tmps) = true := by kernel_rfl) : wpAnyH Tryz.prog md ops Q (fun w' => Hid (Fq S w0 w' l)) (fuel + 1) listed a w :=
  any_take hi hs hf hr (by rw [hd]; exact hQ) hw hy HF (by rw [hd]; exact h)
theorem yK (i d : Nat) (HF : Hid (Fq S w0 w l)) (v : Value)
    (h : wpAnyH Tryz.prog md ops Q (fun w' => Hid (Fq S w0 w' l)) fuel (listed.setIfInBounds i true) (a.put (some d) v) w) (hy : ∀ w, (execOp a.eval (opA ops i)).run Tryz.prog w = .ok (.value v) w := by intro _; kernel_rfl)
    (hi : ops[i]? = some (opA ops i) := by kernel_rfl) (hd : (opA ops i).dst = some d := by kernel_rfl) (hs : Region.noSelect ops = true := by kernel_rfl) (hf : Region.free md ops listed i = true := by kernel_rfl) (hr : (Region.ready md ops listed).contains i = true := by kernel_rfl)
    (hQ : ∀ c a w, Q (.panic c) (a.put (some d) v) w → Q (.panic c) a w := by exact fun _ _ _ h => h) (hw : Region.wanted (opA ops i) (yielded ops a.tmps) = true := by kernel_rfl) : wpAnyH Tryz.prog md ops Q (fun w' => Hid (Fq S w0 w' l)) (fuel + 1) listed a w :=
  yT i d HF (fun w _ => hy w) h hi hd hs hf hr hQ hw
theorem yS (i d : Nat) (HF : Hid (Fq S w0 w l))
    (h : wpAnyH Tryz.prog md ops Q (fun w' => Hid (Fq S w0 w' l)) fuel (listed.setIfInBounds i true) (a.put (some d) undef) w)
    (hi : ops[i]? = some (opA ops i) := by kernel_rfl) (hd : (opA ops i).dst = some d := by kernel_rfl) (hs : Region.noSelect ops = true := by kernel_rfl) (hf : Region.free md ops listed i = true := by kernel_rfl) (hr : (Region.ready md ops listed).contains i = true := by kernel_rfl)
    (hQ : ∀ c a w, Q (.panic c) (a.put (some d) undef) w → Q (.panic c) a w := by exact fun _ _ _ h => h) (hw : Region.wanted (opA ops i) (yielded ops a.tmps) = false := by kernel_rfl) : wpAnyH Tryz.prog md ops Q (fun w' => Hid (Fq S w0 w' l)) (fuel + 1) listed a w :=
  any_skip hi hs hf hr (by rw [hd]; exact hQ) hw HF (by rw [hd]; exact h)
theorem yC (i d : Nat) {f : FuncId} {args : Array Value} {F b : Bool} (hc : Calls Tryz.prog f args w (fun e w' => e = .returned (.bool F) ∧ Kept No w w')) (hF : F = b) (HF : Hid (Fq S w0 w l))
    (h : ∀ w', Hid (Fq S w0 w' l) → wpAnyH Tryz.prog md ops Q (fun w' => Hid (Fq S w0 w' l)) fuel (listed.setIfInBounds i true) (a.put (some d) (.bool b)) w')
    (hi : ops[i]? = some (opA ops i) := by kernel_rfl) (hd : (opA ops i).dst = some d := by kernel_rfl) (hr : Region.ready md ops listed = [i] := by kernel_rfl) (hrun : (execOp a.eval (opA ops i)).run Tryz.prog w = .ok (.enter f args) w := by kernel_rfl) (hw : Region.wanted (opA ops i) (yielded ops a.tmps) = true := by kernel_rfl) : wpAnyH Tryz.prog md ops Q (fun w' => Hid (Fq S w0 w' l)) (fuel + 1) listed a w :=
  any_call hi hr hw f args hrun _ hc (by rintro e w' ⟨rfl, hk⟩; exact ⟨_, by rw [hF], HF.out.no hk, fun HF => by rw [hd]; exact h w' HF⟩)
def ldA (o : Oper) (ev : Operand → Value) : Option (TypeId × Value) := match o.op with | .load t x => some (t, ev x) | _ => none
def bnA (o : Oper) (ev : Operand → Value) : Option (BinOp × TypeId × Value × Value) := match o.op with | .binOp b t x y _ => some (b, t, ev x, ev y) | _ => none
def bnX (o : Oper) : Operand := match o.op with | .binOp _ _ x _ _ => x | _ => .tmp 0
def bnY (o : Oper) : Operand := match o.op with | .binOp _ _ _ y _ => y | _ => .tmp 0
def ixA (o : Oper) (ev : Operand → Value) : Option (TypeId × Value × Value) := match o.op with | .indexAddr t x y => some (t, ev x, ev y) | _ => none
theorem zL {o : Oper} {t : TypeId} {ad : Addr} {v : Value} (hrun : ∀ w, Hid (Fq S w0 w l) → (loadVar t ad).run Tryz.prog w = .ok v w) (hl : ldA o a.eval = some (t, .pointer (some ad)) := by kernel_rfl) :
    ∀ w, Hid (Fq S w0 w l) → (execOp a.eval o).run Tryz.prog w = .ok (.value v) w := fun w HF => by
  unfold ldA at hl
  split at hl
  · rename_i t' x hx
    obtain ⟨rfl, h2⟩ := Prod.mk.inj (Option.some.inj hl)
    exact exec_load _ x hx ad h2 v (hrun w HF)
  · cases hl
theorem zD {o : Oper} {v : Value} (j k : Nat) {t : TypeId} {d : TypeDesc} (hu : Tryz.prog.underlying t = some d) {g : Nat} {Tb : TypeId} {cs : Array Value} (hi : l[j]? = some (g, Tb, cs))
    (hl : ldA o a.eval = some (t, .pointer (some ⟨g, k, none⟩)) := by kernel_rfl) (hc : cs[k]? = some v := by kernel_rfl) (hd : (match d with | .struct _ | .array _ _ => true | _ => false) = false := by kernel_rfl) :
    ∀ w, Hid (Fq S w0 w l) → (execOp a.eval o).run Tryz.prog w = .ok (.value v) w := zL (fun w HF => load_one (((HF.out.box j g Tb cs hi).cell k).trans hc) hu hd) hl
theorem zP {o : Oper} (sub : List Value) (j k : Nat) {t : TypeId} (hu : Tryz.prog.underlying t = some (.struct (Tryz.prog.fieldsOf t))) (hs : (Tryz.prog.info? t).map (·.size) = some sub.length) {g : Nat} {Tb : TypeId} (cs : List Value) (hi : l[j]? = some (g, Tb, cs.toArray))
    (hl : ldA o a.eval = some (t, .pointer (some ⟨g, k, none⟩)) := by kernel_rfl) (hc : (cs.drop k).take sub.length = sub := by kernel_rfl) :
    ∀ w, Hid (Fq S w0 w l) → (execOp a.eval o).run Tryz.prog w = .ok (.value (.agg sub.toArray)) w := zL (fun w HF => run_load_part (cs := cs) (sub := sub) (HF.out.box j g Tb _ hi) (part_of hc) hu rfl hs) hl
theorem zN {o : Oper} {b : BinOp} {t : TypeId} {vx vy v : Value} (hrun : ∀ w, (binOp b t vx vy).run Tryz.prog w = .ok v w)
    (hl : bnA o a.eval = some (b, t, vx, vy) := by kernel_rfl) (hgd : ∀ w, (eqGuard b t (bnX o) (bnY o) vx vy).run Tryz.prog w = .ok () w := by intro _; kernel_rfl) :
    ∀ w, Hid (Fq S w0 w l) → (execOp a.eval o).run Tryz.prog w = .ok (.value v) w := fun w _ => by
  unfold bnA at hl
  split at hl
  · rename_i b' t' x y s hx
    obtain ⟨rfl, h2⟩ := Prod.mk.inj (Option.some.inj hl)
    obtain ⟨rfl, h3⟩ := Prod.mk.inj h2
    obtain ⟨h4, h5⟩ := Prod.mk.inj h3
    have hg := hgd w
    unfold bnX bnY at hg
    rw [hx] at hg
    exact exec_bin _ _ s x y hx vx vy v h4 h5 hg (hrun w)
  · cases hl
theorem zI {o : Oper} {s : Sl} {b off i n : Nat} {t : TypeId} (hsl : s.v = .slice (some ⟨b, off, none⟩) s.l s.k) (hu : Tryz.prog.underlying t = some (.slice (Tryz.prog.elem t))) (hs : (Tryz.prog.info? (Tryz.prog.elem t)).map (·.size) = some n) (hi : i < s.l)
    (hl : ixA o a.eval = some (t, s.v, .int .i64 (i : Int)) := by kernel_rfl) :
    ∀ w, Hid (Fq S w0 w l) → (execOp a.eval o).run Tryz.prog w = .ok (.value (.pointer (some ⟨b, off + i * n, none⟩))) w := fun w _ => by
  unfold ixA at hl
  split at hl
  · rename_i t' x y hx
    obtain ⟨rfl, h2⟩ := Prod.mk.inj (Option.some.inj hl)
    obtain ⟨h4, h5⟩ := Prod.mk.inj h2
    exact exec_ixA _ n hu hs x y hx b off s.l s.k i (h4.trans hsl) h5 hi
  · cases hl
noncomputable def buA (o : Oper) (ev : Operand → Value) : Option (TypeId × Option (Array Value)) := match o.op with | .build t parts => some (t, Tryz.prog.built t (parts.map fun (i, x) => (i, ev x)).toList) | _ => none
def slA (o : Oper) (ev : Operand → Value) : Option (TypeId × Value × Value) := match o.op with | .slice t x none (some y) none => some (t, ev x, ev y) | _ => none
def stA (o : Oper) (ev : Operand → Value) : Option (TypeId × Value × Value) := match o.op with | .store t x y => some (t, ev x, ev y) | _ => none
theorem zU {o : Oper} (t : TypeId) (cs : Array Value) (hl : buA o a.eval = some (t, some cs) := by kernel_rfl) :
    ∀ w, Hid (Fq S w0 w l) → (execOp a.eval o).run Tryz.prog w = .ok (.value (.agg cs)) w := fun w _ => by
  unfold buA at hl
  split at hl
  · rename_i t' parts hx
    obtain ⟨rfl, h2⟩ := Prod.mk.inj (Option.some.inj hl)
    exact exec_build _ parts hx cs h2
  · cases hl
end
theorem rng_f {n : Nat} {p : Nat → Bool} {i : Nat} (hi : i < n) (h : p i = false) : (List.range n).all p = false := by
  rw [List.all_eq_false]; exact ⟨i, List.mem_range.2 hi, by simp [h]⟩
theorem rng_t {n : Nat} {p : Nat → Bool} (h : ∀ j, j < n → p j = true) : (List.range n).all p = true := by
  rw [List.all_eq_true]; intro i hi; exact h i (List.mem_range.1 hi)
def lastN (es : List En) : Nat → ByteArray
  | 0 => ⟨#[]⟩
  | i + 1 => (eAt es i).nm
def lastC (ls : List La) : Nat → Int
  | 0 => 0
  | i + 1 => (lAt ls i).cl
def entP (B : Int) (es : List En) (i : Nat) : Bool := ltS (lastN es i) (eAt es i).nm && (nameP (eAt es i).nm && (filB ⟨(eAt es i).f0, (eAt es i).f1⟩ && szB B (eAt es i).sz))
def entsP (B rm : Int) (es : List En) : Bool := !decide (rm < ((es.length : Nat) : Int)) && (List.range es.length).all (entP B es)
def lasP (B up : Int) (ls : List La) (i : Nat) : Bool := !decide ((lAt ls i).cl ≤ lastC ls i) && (wn (lAt ls i).cl 1 255 && (wn (lAt ls i).op 1 1099511627776 && (wn (lAt ls i).ins 1 up && ansP B (lAt ls i))))
def lassP (B up : Int) (ls : List La) : Bool := (List.range ls.length).all (lasP B up ls)
def bktP (B rm : Int) (x : Bv) (es : List En) (ls : List La) : Bool := bif x.up == 0 then empK x else wn x.up 1 1048576 && (entsP B rm es && lassP B x.up ls)
def entR (B : Int) (es : List En) (i : Nat) : Bool := nameR (eAt es i).nm && (filB ⟨(eAt es i).f0, (eAt es i).f1⟩ && (szB B (eAt es i).sz && (decide (i = 0) || ltS (eAt es (i - 1)).nm (eAt es i).nm)))
def lasR (B up : Int) (ls : List La) (i : Nat) : Bool := lastR up B (lAt ls i) && (decide (i = 0) || !decide ((lAt ls i).cl ≤ (lAt ls (i - 1)).cl))
def bktR (B rm : Int) (x : Bv) (es : List En) (ls : List La) : Bool :=
  bif !wn x.up 0 1048576 || (decide (rm < ((x.e.l : Nat) : Int)) || (x.up == 0 && decide (0 < ((x.e.l : Nat) : Int)))) then false else (List.range es.length).all (entR B es) && (List.range ls.length).all (lasR B x.up ls)
def rowP (B : Int) (xs : List Cm) : Bool := (List.range xs.length).all (fun i => eqC (cAt xs i) cZ || cmdP B (cAt xs i))
def rowR (B : Int) (xs : List Cm) : Bool := (List.range xs.length).all (fun i => eqC (cAt xs i) cZ || cmdR B (cAt xs i))
set_option maxRecDepth 100000
set_option maxHeartbeats 4000000
theorem RdE.pre {w : World} {s : Sl} {es : List En} (h : RdE w s es) {b off : Nat} (hsl : s.v = .slice (some ⟨b, off, none⟩) s.l s.k) {i : Nat} (hi : i < s.l) (j : Nat) (v : Value) (hv : (eAt es i).cs[j]? = some v) : w.cell? ⟨b, off + i * 4 + j, none⟩ = some v := by
  obtain ⟨b', off', h1, h2⟩ := h.at' hi
  rw [hsl] at h1
  simp only [Value.slice.injEq, Option.some.injEq, Addr.mk.injEq] at h1
  obtain ⟨⟨rfl, rfl, _⟩, _⟩ := h1
  exact h2 j v hv
theorem RdL.pre {w : World} {s : Sl} {es : List La} (h : RdL w s es) {b off : Nat} (hsl : s.v = .slice (some ⟨b, off, none⟩) s.l s.k) {i : Nat} (hi : i < s.l) (j : Nat) (v : Value) (hv : (lAt es i).cs[j]? = some v) : w.cell? ⟨b, off + i * 7 + j, none⟩ = some v := by
  obtain ⟨b', off', h1, h2⟩ := h.at' hi
  rw [hsl] at h1
  simp only [Value.slice.injEq, Option.some.injEq, Addr.mk.injEq] at h1
  obtain ⟨⟨rfl, rfl, _⟩, _⟩ := h1
  exact h2 j v hv
theorem p_rightEntries (x : Sl) (es : List En) (c : Cg) (w : World) (hb : 0 ≤ c.bl ∧ c.bl ≤ 4096) (he : RdE w x es) (hn : x.l ≤ 281474976710656) : Calls Tryz.prog 110 #[x.v, .agg (Cg.cells c)] w (fun e w' => e = .returned (.bool (entsP c.bl c.rm es)) ∧ Kept No w w') := by
  refine hidC fun C HC => ?_
  have HB : Hid (0 ≤ c.bl ∧ c.bl ≤ 4096) := hb
  clear hb
  have HRE : Hid (RdE w x es) := he
  clear he
  have HF : Hid (Fq No w w []) := Fq.start _ _
  go_enter Tryz.func110, Tryz.ntmps110
  go_upto_region 0 with fail
  refine WL.start <| xB (Cg.cells c) HF fun g1 w2 HF => tK (.bool false) <| WL.nil <| ?_
  try simp only [pS]
  go_upto_region 1 with fail
  refine WL.start <| tK (x.v) <| tK (.int .i64 ((x.l : Nat) : Int)) <| tK (pg g1 5) <| lD (.int .i64 c.rm) HF 0 5 U3 rfl <| ?_
  try simp only [pS]
  cases q1 : (decide (c.rm < ((x.l : Nat) : Int)))
  rotate_left
  ·skip
   refine bN (gI q1) <| WL.nil <| ?_
   try simp only [pS]
   go_upto_region 2 with fail
   refine WL.start <| tK (.bool false) <| WL.nil <| ?_
   try simp only [pS]
   go_wp2
   rw [HC.out]
   exact ⟨ret_bool (by rw [show entsP c.bl c.rm es = false from by simp only [entsP, HRE.out.len, bsq, q1]]), HF.out.kept⟩
  refine bN (gI q1) <| WL.nil <| ?_
  try simp only [pS]
  go_upto_region 3 with fail
  refine WL.start <| tK (.string ⟨#[]⟩) <| WL.nil <| ?_
  try simp only [pS]
  go_upto_region 4 with fail
  refine WL.start <| tK (x.v) <| tK (.int .i64 ((x.l : Nat) : Int)) <| tK (.int .i64 0) <| WL.nil <| ?_
  try simp only [pS]
  go_wp2
  go_loopw [5, 15] (fun v5 v15 wr => ∃ i : Nat, v5 = .string (lastN es i) ∧ v15 = .int .i64 ((i : Nat) : Int) ∧ i ≤ x.l ∧ Hid (∀ j, j < i → entP c.bl es j = true) ∧ Hid (Fq No w wr [(g1, 24, Cg.cells c)])) (fun v5 v15 _ => x.l - (intOf v15).toNat)
  case atStart => exact ⟨0, rfl, by go_num, by omega, fun j hj => absurd hj (Nat.not_lt_zero _), HF⟩
  case round =>
    clear HF
    obtain ⟨i, rfl, rfl, hi, HP, HF⟩ := hrel
    by_cases hlt : i < x.l
    ·skip
     obtain ⟨b, off, hsl, hc⟩ := RdE.at' HRE.out (i := i) (by omega)
     go_upto_region 5 with fail
     refine WL.start <| bN (lI (a := ((i : Nat) : Int)) (b := ((x.l : Nat) : Int)) (decide_eq_true (by omega))) <| WL.nil <| ?_
     try simp only [pS]
     go_upto_region 6 with fail
     refine WL.start <| iS (s := x) (i := i) hsl E40 F40 (by omega) <| lR (load_E (fun j v h => HF.out.kept.cell (hc j v h) (fun e => e))) <| xA (En.cells enZ) Z92 HF fun g3 w4 HF => sB (En.cs (eAt es i)) (En.cs (eAt es i)) HF 1 0 (v := .agg (En.cells (eAt es i))) rfl S92 (En.oneL _) (En.cs enZ) rfl fun w5 HF => WL.nil <| ?_
     try simp only [pS]
     go_upto_region 7 with fail
     refine WL.start <| tK (pg g3 0) <| lD (.string (eAt es i).nm) HF 1 0 U9 rfl <| tK (.string (lastN es i)) <| ?_
     try simp only [pS]
     cases q2 : (ltS (lastN es i) ((eAt es i).nm))
     ·skip
      refine bN (leN0 q2) <| tK (.bool true) <| sK <| sK <| sK <| sK <| tK (.bool true) <| tK (.bool true) <| sK <| sK <| sK <| sK <| tK (.bool true) <| tK (.bool true) <| sK <| sK <| sK <| sK <| sK <| tK (.bool true) <| WL.nil <| ?_
      try simp only [pS]
      go_upto_region 8 with fail
      refine WL.start <| tK (.bool false) <| WL.nil <| ?_
      try simp only [pS]
      go_wp2
      rw [HC.out]
      exact ⟨ret_bool (by rw [show entsP c.bl c.rm es = false from by unfold entsP; rw [rng_f (i := i) (by rw [HRE.out.len]; exact hlt) (by simp only [entP, bsq, q2])]; simp only [bsq]]), HF.out.kept⟩
     refine bN (leN1 q2) <| tK (.bool false) <| tK (pg g3 0) <| lD (.string (eAt es i).nm) HF 1 0 U9 rfl <| ?_
     try simp only [pS]
     cases q3 : (nameP ((eAt es i).nm))
     ·skip
      refine cB (p_rightName ((eAt es i).nm) _) q3 HF fun w6 HF => tK (.bool true) <| tK (.bool true) <| tK (.bool true) <| sK <| sK <| sK <| sK <| tK (.bool true) <| tK (.bool true) <| sK <| sK <| sK <| sK <| sK <| tK (.bool true) <| WL.nil <| ?_
      try simp only [pS]
      go_upto_region 8 with fail
      refine WL.start <| tK (.bool false) <| WL.nil <| ?_
      try simp only [pS]
      go_wp2
      rw [HC.out]
      exact ⟨ret_bool (by rw [show entsP c.bl c.rm es = false from by unfold entsP; rw [rng_f (i := i) (by rw [HRE.out.len]; exact hlt) (by simp only [entP, bsq, q2, q3])]; simp only [bsq]]), HF.out.kept⟩
     refine cB (p_rightName ((eAt es i).nm) _) q3 HF fun w7 HF => tK (.bool false) <| tK (.bool false) <| tK (.bool false) <| tK (pg g3 1) <| lP (Fi.cs ⟨(eAt es i).f0, (eAt es i).f1⟩) HF 1 1 U37 S37 (En.cs (eAt es i)) rfl <| ?_
     try simp only [pS]
     cases q4 : (filB ⟨(eAt es i).f0, (eAt es i).f1⟩)
     ·skip
      refine cB (p_isFile ⟨(eAt es i).f0, (eAt es i).f1⟩ _) q4 HF fun w8 HF => tK (.bool true) <| tK (.bool true) <| tK (.bool true) <| sK <| sK <| sK <| sK <| sK <| tK (.bool true) <| WL.nil <| ?_
      try simp only [pS]
      go_upto_region 8 with fail
      refine WL.start <| tK (.bool false) <| WL.nil <| ?_
      try simp only [pS]
      go_wp2
      rw [HC.out]
      exact ⟨ret_bool (by rw [show entsP c.bl c.rm es = false from by unfold entsP; rw [rng_f (i := i) (by rw [HRE.out.len]; exact hlt) (by simp only [entP, bsq, q2, q3, q4])]; simp only [bsq]]), HF.out.kept⟩
     refine cB (p_isFile ⟨(eAt es i).f0, (eAt es i).f1⟩ _) q4 HF fun w9 HF => tK (.bool false) <| tK (.bool false) <| tK (.bool false) <| tK (pg g3 3) <| lD (.int .i64 (eAt es i).sz) HF 1 3 U3 rfl <| lP (Cg.cs c) HF 0 0 U24 S24 (Cg.cs c) rfl <| ?_
     try simp only [pS]
     cases q5 : (szB c.bl ((eAt es i).sz))
     ·skip
      refine cB (p_rightSize ((eAt es i).sz) c _ HB) q5 HF fun w10 HF => tK (.bool true) <| tK (.bool true) <| WL.nil <| ?_
      try simp only [pS]
      go_upto_region 8 with fail
      refine WL.start <| tK (.bool false) <| WL.nil <| ?_
      try simp only [pS]
      go_wp2
      rw [HC.out]
      exact ⟨ret_bool (by rw [show entsP c.bl c.rm es = false from by unfold entsP; rw [rng_f (i := i) (by rw [HRE.out.len]; exact hlt) (by simp only [entP, bsq, q2, q3, q4, q5])]; simp only [bsq]]), HF.out.kept⟩
     refine cB (p_rightSize ((eAt es i).sz) c _ HB) q5 HF fun w11 HF => tK (.bool false) <| tK (.bool false) <| WL.nil <| ?_
     try simp only [pS]
     go_upto_region 9 with fail
     refine WL.start <| tK (pg g3 0) <| lD (.string (eAt es i).nm) HF 1 0 U9 rfl <| tK (.string (eAt es i).nm) <| WL.nil <| ?_
     try simp only [pS]
     go_upto_region 10 with fail
     refine WL.start <| bN (v := .int .i64 (((i + 1) : Nat) : Int)) (b_addw ((i : Nat) : Int) 1 (((i + 1) : Nat) : Int) (by rw [IntKind.wrap_i64]; omega)) <| tK (.int .i64 (((i + 1) : Nat) : Int)) <| WL.nil <| ?_
     try simp only [pS]
     go_wp2
     go_roundw
     case rel => exact ⟨i + 1, rfl, by go_num, by omega, up_j HP.out (by simp only [entP, bsq, q2, q3, q4, q5]), Fq.front (l := [(g1, 24, Cg.cells c)]) (m := [(g3, 92, En.cells (eAt es i))]) HF⟩
     case measure => simp [intOf]; omega
    ·skip
     go_upto_region 5 with fail
     refine WL.start <| bN (lI (a := ((i : Nat) : Int)) (b := ((x.l : Nat) : Int)) (decide_eq_false (by omega))) <| WL.nil <| ?_
     try simp only [pS]
     go_upto_region 11 with fail
     refine WL.start <| tK (.bool true) <| WL.nil <| ?_
     try simp only [pS]
     go_wp2
     rw [HC.out]
     exact ⟨ret_bool (by rw [show entsP c.bl c.rm es = true from by unfold entsP; rw [rng_t (fun j hj => HP.out j (by rw [HRE.out.len] at hj; omega)), HRE.out.len]; simp only [bsq, q1]]), HF.out.kept⟩
theorem p_rightLasts (x : Sl) (ls : List La) (up : Int) (c : Cg) (w : World) (hb : 0 ≤ c.bl ∧ c.bl ≤ 4096) (he : RdL w x ls) (hn : x.l ≤ 281474976710656) : Calls Tryz.prog 111 #[x.v, .int .i64 up, .agg (Cg.cells c)] w (fun e w' => e = .returned (.bool (lassP c.bl up ls)) ∧ Kept No w w') := by
  refine hidC fun C HC => ?_
  have HB : Hid (0 ≤ c.bl ∧ c.bl ≤ 4096) := hb
  clear hb
  have HRL : Hid (RdL w x ls) := he
  clear he
  have HF : Hid (Fq No w w []) := Fq.start _ _
  go_enter Tryz.func111, Tryz.ntmps111
  go_upto_region 0 with fail
  refine WL.start <| xB (Cg.cells c) HF fun g1 w2 HF => tK (.bool false) <| WL.nil <| ?_
  try simp only [pS]
  go_upto_region 1 with fail
  refine WL.start <| tK (.int .i64 0) <| WL.nil <| ?_
  try simp only [pS]
  go_upto_region 2 with fail
  refine WL.start <| tK (x.v) <| tK (.int .i64 ((x.l : Nat) : Int)) <| tK (.int .i64 0) <| WL.nil <| ?_
  try simp only [pS]
  go_wp2
  go_loopw [7, 12] (fun v7 v12 wr => ∃ i : Nat, v7 = .int .i64 (lastC ls i) ∧ v12 = .int .i64 ((i : Nat) : Int) ∧ i ≤ x.l ∧ Hid (∀ j, j < i → lasP c.bl up ls j = true) ∧ Hid (Fq No w wr [(g1, 24, Cg.cells c)])) (fun v7 v12 _ => x.l - (intOf v12).toNat)
  case atStart => exact ⟨0, rfl, by go_num, by omega, fun j hj => absurd hj (Nat.not_lt_zero _), HF⟩
  case round =>
    clear HF
    obtain ⟨i, rfl, rfl, hi, HP, HF⟩ := hrel
    by_cases hlt : i < x.l
    ·skip
     obtain ⟨b, off, hsl, hc⟩ := RdL.at' HRL.out (i := i) (by omega)
     go_upto_region 3 with fail
     refine WL.start <| bN (lI (a := ((i : Nat) : Int)) (b := ((x.l : Nat) : Int)) (decide_eq_true (by omega))) <| WL.nil <| ?_
     try simp only [pS]
     go_upto_region 4 with fail
     refine WL.start <| iS (s := x) (i := i) hsl E41 F41 (by omega) <| lR (load_L (fun j v h => HF.out.kept.cell (hc j v h) (fun e => e))) <| xA (La.cells laZ) Z94 HF fun g3 w4 HF => sB (La.cs (lAt ls i)) (La.cs (lAt ls i)) HF 1 0 (v := .agg (La.cells (lAt ls i))) rfl S94 (La.oneL _) (La.cs laZ) rfl fun w5 HF => WL.nil <| ?_
     try simp only [pS]
     go_upto_region 5 with fail
     refine WL.start <| tK (pg g3 0) <| lD (.int .i64 (lAt ls i).cl) HF 1 0 U3 rfl <| tK (.int .i64 (lastC ls i)) <| ?_
     try simp only [pS]
     cases q1 : (decide (((lAt ls i).cl) ≤ (lastC ls i)))
     rotate_left
     ·skip
      refine bN (leI q1) <| tK (.bool true) <| sK <| sK <| sK <| sK <| tK (.bool true) <| tK (.bool true) <| sK <| sK <| sK <| sK <| tK (.bool true) <| tK (.bool true) <| sK <| sK <| ?_
      try simp only [pS]
      refine sK <| sK <| sK <| tK (.bool true) <| tK (.bool true) <| sK <| sK <| sK <| sK <| tK (.bool true) <| WL.nil <| ?_
      try simp only [pS]
      go_upto_region 6 with fail
      refine WL.start <| tK (.bool false) <| WL.nil <| ?_
      try simp only [pS]
      go_wp2
      rw [HC.out]
      exact ⟨ret_bool (by rw [show lassP c.bl up ls = false from rng_f (i := i) (by rw [HRL.out.len]; exact hlt) (by simp only [lasP, bsq, q1])]), HF.out.kept⟩
     refine bN (leI q1) <| tK (.bool false) <| tK (pg g3 0) <| lD (.int .i64 (lAt ls i).cl) HF 1 0 U3 rfl <| ?_
     try simp only [pS]
     cases q2 : (wn ((lAt ls i).cl) 1 255)
     ·skip
      refine cB (p_rightId ((lAt ls i).cl) _) q2 HF fun w6 HF => tK (.bool true) <| tK (.bool true) <| tK (.bool true) <| sK <| sK <| sK <| sK <| tK (.bool true) <| tK (.bool true) <| sK <| sK <| sK <| sK <| sK <| tK (.bool true) <| tK (.bool true) <| sK <| sK <| sK <| sK <| tK (.bool true) <| WL.nil <| ?_
      try simp only [pS]
      go_upto_region 6 with fail
      refine WL.start <| tK (.bool false) <| WL.nil <| ?_
      try simp only [pS]
      go_wp2
      rw [HC.out]
      exact ⟨ret_bool (by rw [show lassP c.bl up ls = false from rng_f (i := i) (by rw [HRL.out.len]; exact hlt) (by simp only [lasP, bsq, q1, q2])]), HF.out.kept⟩
     refine cB (p_rightId ((lAt ls i).cl) _) q2 HF fun w7 HF => tK (.bool false) <| tK (.bool false) <| tK (.bool false) <| tK (pg g3 1) <| lD (.int .i64 (lAt ls i).op) HF 1 1 U3 rfl <| ?_
     try simp only [pS]
     cases q3 : (wn ((lAt ls i).op) 1 1099511627776)
     ·skip
      refine cB (p_rightNum ((lAt ls i).op) _) q3 HF fun w8 HF => tK (.bool true) <| tK (.bool true) <| tK (.bool true) <| sK <| sK <| sK <| sK <| sK <| tK (.bool true) <| tK (.bool true) <| sK <| sK <| sK <| sK <| tK (.bool true) <| WL.nil <| ?_
      try simp only [pS]
      go_upto_region 6 with fail
      refine WL.start <| tK (.bool false) <| WL.nil <| ?_
      try simp only [pS]
      go_wp2
      rw [HC.out]
      exact ⟨ret_bool (by rw [show lassP c.bl up ls = false from rng_f (i := i) (by rw [HRL.out.len]; exact hlt) (by simp only [lasP, bsq, q1, q2, q3])]), HF.out.kept⟩
     refine cB (p_rightNum ((lAt ls i).op) _) q3 HF fun w9 HF => tK (.bool false) <| tK (.bool false) <| tK (.bool false) <| tK (pg g3 2) <| lD (.int .i64 (lAt ls i).ins) HF 1 2 U3 rfl <| tK (.int .i64 up) <| ?_
     try simp only [pS]
     cases q4 : (wn ((lAt ls i).ins) 1 up)
     ·skip
      refine cB (p_within ((lAt ls i).ins) 1 up _) q4 HF fun w10 HF => tK (.bool true) <| tK (.bool true) <| tK (.bool true) <| sK <| sK <| sK <| sK <| tK (.bool true) <| WL.nil <| ?_
      try simp only [pS]
      go_upto_region 6 with fail
      refine WL.start <| tK (.bool false) <| WL.nil <| ?_
      try simp only [pS]
      go_wp2
      rw [HC.out]
      exact ⟨ret_bool (by rw [show lassP c.bl up ls = false from rng_f (i := i) (by rw [HRL.out.len]; exact hlt) (by simp only [lasP, bsq, q1, q2, q3, q4])]), HF.out.kept⟩
     refine cB (p_within ((lAt ls i).ins) 1 up _) q4 HF fun w11 HF => tK (.bool false) <| tK (.bool false) <| tK (.bool false) <| lP (La.cs (lAt ls i)) HF 1 0 U94 S94 (La.cs (lAt ls i)) rfl <| lP (Cg.cs c) HF 0 0 U24 S24 (Cg.cs c) rfl <| ?_
     try simp only [pS]
     cases q5 : (ansP c.bl (lAt ls i))
     ·skip
      refine cB (p_rightAnswer (lAt ls i) c _ HB) q5 HF fun w12 HF => tK (.bool true) <| tK (.bool true) <| WL.nil <| ?_
      try simp only [pS]
      go_upto_region 6 with fail
      refine WL.start <| tK (.bool false) <| WL.nil <| ?_
      try simp only [pS]
      go_wp2
      rw [HC.out]
      exact ⟨ret_bool (by rw [show lassP c.bl up ls = false from rng_f (i := i) (by rw [HRL.out.len]; exact hlt) (by simp only [lasP, bsq, q1, q2, q3, q4, q5])]), HF.out.kept⟩
     refine cB (p_rightAnswer (lAt ls i) c _ HB) q5 HF fun w13 HF => tK (.bool false) <| tK (.bool false) <| WL.nil <| ?_
     try simp only [pS]
     go_upto_region 7 with fail
     refine WL.start <| tK (pg g3 0) <| lD (.int .i64 (lAt ls i).cl) HF 1 0 U3 rfl <| tK (.int .i64 (lAt ls i).cl) <| WL.nil <| ?_
     try simp only [pS]
     go_upto_region 8 with fail
     refine WL.start <| bN (v := .int .i64 (((i + 1) : Nat) : Int)) (b_addw ((i : Nat) : Int) 1 (((i + 1) : Nat) : Int) (by rw [IntKind.wrap_i64]; omega)) <| tK (.int .i64 (((i + 1) : Nat) : Int)) <| WL.nil <| ?_
     try simp only [pS]
     go_wp2
     go_roundw
     case rel => exact ⟨i + 1, rfl, by go_num, by omega, up_j HP.out (by simp only [lasP, bsq, q1, q2, q3, q4, q5]), Fq.front (l := [(g1, 24, Cg.cells c)]) (m := [(g3, 94, La.cells (lAt ls i))]) HF⟩
     case measure => simp [intOf]; omega
    ·skip
     go_upto_region 3 with fail
     refine WL.start <| bN (lI (a := ((i : Nat) : Int)) (b := ((x.l : Nat) : Int)) (decide_eq_false (by omega))) <| WL.nil <| ?_
     try simp only [pS]
     go_upto_region 9 with fail
     refine WL.start <| tK (.bool true) <| WL.nil <| ?_
     try simp only [pS]
     go_wp2
     rw [HC.out]
     exact ⟨ret_bool (by rw [show lassP c.bl up ls = true from rng_t (fun j hj => HP.out j (by rw [HRL.out.len] at hj; omega))]), HF.out.kept⟩
theorem p_rightBucket (x : Bv) (es : List En) (ls : List La) (c : Cg) (w : World) (hb : 0 ≤ c.bl ∧ c.bl ≤ 4096) (he : RdE w x.e es) (hl : RdL w x.l ls) (hne : x.e.l ≤ 281474976710656) (hnl : x.l.l ≤ 281474976710656) : Calls Tryz.prog 47 #[.agg (Bv.cells x), .agg (Cg.cells c)] w (fun e w' => e = .returned (.bool (bktP c.bl c.rm x es ls)) ∧ Kept No w w') := by
  refine hidC fun C HC => ?_
  have HB : Hid (0 ≤ c.bl ∧ c.bl ≤ 4096) := hb
  clear hb
  have HRE : Hid (RdE w x.e es) := he
  have HRL : Hid (RdL w x.l ls) := hl
  clear he hl
  have HF : Hid (Fq No w w []) := Fq.start _ _
  go_enter Tryz.func47, Tryz.ntmps47
  go_upto_region 0 with fail
  refine WL.start <| xB (Bv.cells x) HF fun g1 w2 HF => xB (Cg.cells c) HF fun g3 w4 HF => tK (.bool false) <| WL.nil <| ?_
  try simp only [pS]
  go_upto_region 1 with fail
  refine WL.start <| tK (pg g1 0) <| lD (.int .i64 x.up) HF 0 0 U3 rfl <| ?_
  try simp only [pS]
  cases q1 : (x.up == 0)
  rotate_left
  ·skip
   refine bN (eI q1) <| WL.nil <| ?_
   try simp only [pS]
   go_upto_region 2 with fail
   refine WL.start <| lP (Bv.cs x) HF 0 0 U43 S43 (Bv.cs x) rfl <| ?_
   try simp only [pS]
   cases q5 : (empK x)
   ·skip
    refine cB (p_emptyBucket x _) q5 HF fun w11 HF => tK (.bool false) <| WL.nil <| ?_
    try simp only [pS]
    go_wp2
    rw [HC.out]
    exact ⟨ret_bool (by simp only [bktP, bsq, q1, q5]), HF.out.kept⟩
   refine cB (p_emptyBucket x _) q5 HF fun w12 HF => tK (.bool true) <| WL.nil <| ?_
   try simp only [pS]
   go_wp2
   rw [HC.out]
   exact ⟨ret_bool (by simp only [bktP, bsq, q1, q5]), HF.out.kept⟩
  refine bN (eI q1) <| WL.nil <| ?_
  try simp only [pS]
  go_upto_region 3 with fail
  refine WL.start <| tK (pg g1 0) <| lD (.int .i64 x.up) HF 0 0 U3 rfl <| ?_
  try simp only [pS]
  cases q2 : (wn x.up 1 1048576)
  ·skip
   refine cB (p_within x.up 1 1048576 _) q2 HF fun w5 HF => tK (.bool false) <| sK <| sK <| sK <| sK <| tK (.bool false) <| tK (.bool false) <| sK <| sK <| sK <| sK <| sK <| sK <| tK (.bool false) <| tK (.bool false) <| WL.nil <| ?_
   try simp only [pS]
   go_wp2
   rw [HC.out]
   exact ⟨ret_bool (by simp only [bktP, bsq, q1, q2]), HF.out.kept⟩
  refine cB (p_within x.up 1 1048576 _) q2 HF fun w6 HF => tK (.bool true) <| tK (pg g1 1) <| lD (x.e.v) HF 0 1 U40 rfl <| lP (Cg.cs c) HF 1 0 U24 S24 (Cg.cs c) rfl <| ?_
  try simp only [pS]
  cases q3 : (entsP c.bl c.rm es)
  ·skip
   refine cB (p_rightEntries x.e es c _ HB (HRE.out.no HF.out.kept) hne) q3 HF fun w7 HF => tK (.bool false) <| tK (.bool false) <| sK <| sK <| sK <| sK <| sK <| sK <| tK (.bool false) <| tK (.bool false) <| WL.nil <| ?_
   try simp only [pS]
   go_wp2
   rw [HC.out]
   exact ⟨ret_bool (by simp only [bktP, bsq, q1, q2, q3]), HF.out.kept⟩
  refine cB (p_rightEntries x.e es c _ HB (HRE.out.no HF.out.kept) hne) q3 HF fun w8 HF => tK (.bool true) <| tK (.bool true) <| tK (pg g1 2) <| lD (x.l.v) HF 0 2 U41 rfl <| tK (pg g1 0) <| lD (.int .i64 x.up) HF 0 0 U3 rfl <| lP (Cg.cs c) HF 1 0 U24 S24 (Cg.cs c) rfl <| ?_
  try simp only [pS]
  cases q4 : (lassP c.bl x.up ls)
  ·skip
   refine cB (p_rightLasts x.l ls x.up c _ HB (HRL.out.no HF.out.kept) hnl) q4 HF fun w9 HF => tK (.bool false) <| tK (.bool false) <| WL.nil <| ?_
   try simp only [pS]
   go_wp2
   rw [HC.out]
   exact ⟨ret_bool (by simp only [bktP, bsq, q1, q2, q3, q4]), HF.out.kept⟩
  refine cB (p_rightLasts x.l ls x.up c _ HB (HRL.out.no HF.out.kept) hnl) q4 HF fun w10 HF => tK (.bool true) <| tK (.bool true) <| WL.nil <| ?_
  try simp only [pS]
  go_wp2
  rw [HC.out]
  exact ⟨ret_bool (by simp only [bktP, bsq, q1, q2, q3, q4]), HF.out.kept⟩
end Go.Proofs.YtgdnofacgfjaeaaGreat.Md
