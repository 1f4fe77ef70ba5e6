import Derived.Test.YthnecaejhnojfaaTa
namespace Go.Proofs.Ythnecaejhnojfaa.Md
open Go.RowKit
set_option linter.unusedVariables false
set_option linter.unusedSimpArgs false

abbrev Bq := Go.Proofs.Ythnecaejhnojfaa.Bk
def mdOf (m : Mg) : MD := ⟨m.k, m.fr.cl, m.fr.id, m.too.cl, m.too.id, m.op, m.rd, m.ky.k, m.ky.a, m.ky.b, m.ky.c, m.st.n, m.st.c, m.hd.n, m.hd.c, m.bl.a, m.bl.l, m.bl.k, m.c.cs ++ (m.bk.cs ++ [m.cm.v, .bool m.mo])⟩
theorem mdOk (m : Mg) : MdOk (mdOf m) := ⟨rfl, by simp [mdOf, Cm.cs, Bv.cs, Sl.v, Value.oneCell']⟩
theorem U131 : Try.prog.underlying 98 = some ((Try.prog.underlying 98).getD .bool) := by kernel_rfl
theorem U179 : Try.prog.underlying 141 = some ((Try.prog.underlying 141).getD .bool) := by kernel_rfl
theorem V131 : (match (Try.prog.underlying 98).getD .bool with | .struct _ | .array _ _ => true | _ => false) = false := by kernel_rfl
theorem V179 : (match (Try.prog.underlying 141).getD .bool with | .struct _ | .array _ _ => true | _ => false) = false := by kernel_rfl
theorem take_cnt {Y : TS Bq} {s : Int} {b : Bq} (hn : Y.g.Nodup) (h : takeB Y s = true) : 1 ≤ cnt (takeS Y s b) := by
  unfold takeB at h
  have hm : mayB Y s = true := (Bool.and_eq_true _ _ ▸ h).1
  unfold takeS
  rw [if_pos hm]
  unfold mayB at hm
  have h2 := (Bool.and_eq_true _ _ ▸ hm).1
  have h3 := (Bool.and_eq_true _ _ ▸ h2)
  rw [cnt_put hn (of_decide_eq_true h3.1) (by simpa using h3.2)]
  omega
theorem takeS_g {α : Type} (Y : TS α) (s : Int) (b : α) : (takeS Y s b).g = Y.g := by unfold takeS; split <;> rfl
/-- What settle tells. -/
structure Sq where
  pn : Int
  pc : Int
  pa : Option Addr
  pl : Nat
  pk : Nat
  er : Int
  sn : Int
  sc : Int
  da : Option Addr
  dl : Nat
  dc : Nat
  en : Bool
def TakAO (w : World) (m : Nat) (a : Option Addr) (cap : Nat) (x : MS) (v : Value) (tb bb ct : Nat) (at' : Option Addr) (Y : TS Bq) (d : Mg) (kn kc : Int) (kz : List Int) (R : Bq → Sq) (pz : Bq → List Int) (e : Ending) (w' : World) : Prop :=
  (hitB x 11 (mdOf d) = false ∧ e = .returned (.slice none 0 0) ∧ Kept No w w') ∨ (hitB x 11 (mdOf d) = true ∧ ∃ ka kk b, b = (⟨kn, kc, ka, kz.length, kk⟩ : Bq) ∧ OwnB w' w.heap.size ka kk kz ∧ Kept (fun k => k = m ∨ Tb2 tb bb k) w w' ∧ Tal 149 ansB w' tb bb at' ct (takeS Y d.fr.id b) ∧
    ((takeB Y d.fr.id = false ∧ e = .returned (.slice none 0 0) ∧ Mach w' m a cap x 146 v) ∨
     (takeB Y d.fr.id = true ∧ (R b).en = true ∧ e = .returned (.slice none 0 0) ∧ Mach w' m a cap x 139 (endV (R b).er (R b).sn (R b).sc (R b).da (R b).dl (R b).dc)) ∨
     (takeB Y d.fr.id = true ∧ (R b).en = false ∧ x.rd = 1099511627776 ∧ e = .returned (.slice none 0 0) ∧ Mach w' m a cap x 139 (endV 4 0 0 none 0 0)) ∨
     (takeB Y d.fr.id = true ∧ (R b).en = false ∧ x.rd ≠ 1099511627776 ∧ ∃ ub ubb ut ua la lc qs, e = .returned (.slice la qs.length lc) ∧ qs.map Qm.sv = x.g ∧ Msgs w' w.heap.size la lc { x with rd := x.rd + 1 } ⟨2, (R b).pn, (R b).pc, (R b).pl⟩ (pz b) qs ∧ Mach w' m a cap { x with rd := x.rd + 1 } 160 (layV (R b).pn (R b).pc (R b).pa (R b).pl (R b).pk (R b).er (R b).sn (R b).sc (R b).da (R b).dl (R b).dc ub) ∧ Tal 113 ansU w' ub ubb ua ut (tNew Unit x.g (needI x)) ∧ ∀ k, TB ub ubb ua k → w.heap.size ≤ k)))
theorem zero177 : (Try.prog.info? 139).bind (·.zero) = some (.agg (Rz.cells rzZ)) := by kernel_rfl
theorem U177 : Try.prog.underlying 139 = some (.struct (Try.prog.fieldsOf 139)) := by kernel_rfl
theorem S177 : (Try.prog.info? 139).map (·.size) = some 11 := by kernel_rfl
theorem Z177 : (Try.prog.info? 139).bind (·.zero) = some (.agg rzZ.cells) := zero177
set_option maxRecDepth 100000 in
set_option maxHeartbeats 4000000 in
theorem worn97  (w : World) : Calls Try.prog 73 #[] w (fun e w' => e = .returned (.agg (Rz.cells { rzZ with er := 4 })) ∧ Kept No w w') := by
  obtain ⟨C, hC⟩ : ∃ C : Ending → World → Prop, C = (fun e w' => e = .returned (.agg (Rz.cells { rzZ with er := 4 })) ∧ Kept No w w') := ⟨_, rfl⟩
  have HC : Hid (C = (fun e w' => e = .returned (.agg (Rz.cells { rzZ with er := 4 })) ∧ Kept No w w')) := hC
  rw [← hC]
  clear hC
  have HF : Hid (Fq No w w []) := Fq.start _ _
  go_enter Try.func73, Try.ntmps73
  go_upto_region 0 with fail
  refine WL.start ?_
  refine uR (.pointer (some ⟨w.heap.size, 0, none⟩)) (w.alloc (.cells (Rz.cells rzZ) 139)) (exec_alloc 139 rfl (Rz.cells rzZ) Z177) ?_
  try simp only [pS]
  have HF : Hid (Fq No w (w.alloc (.cells (Rz.cells rzZ) 139)) [(w.heap.size, 139, Rz.cells rzZ)]) := HF.out.alloc _ _
  generalize w.alloc (.cells (Rz.cells rzZ) 139) = wk2 at HF ⊢
  generalize w.heap.size = gk1 at HF ⊢
  refine WL.nil ?_
  try simp only [pS]
  go_upto_region 1 with fail
  refine WL.start <| uW (.agg (Rz.cells ⟨4, enZ, slZ, slZ, 0, spZ, 0⟩)) (exec_build 72 _ rfl (Rz.cells ⟨4, enZ, slZ, slZ, 0, spZ, 0⟩) (by kernel_rfl)) <| uW (.agg (Rz.cells ⟨4, enZ, slZ, slZ, 0, spZ, 0⟩)) (exec_build 139 _ rfl (Rz.cells ⟨4, enZ, slZ, slZ, 0, spZ, 0⟩) (by kernel_rfl)) <| ?_
  try simp only [pS]
  refine uT 139 ⟨gk1, 0, none⟩ (.agg (Rz.cells ⟨4, enZ, slZ, slZ, 0, spZ, 0⟩)) (wk2.setRow gk1 (Rz.cells ⟨4, enZ, slZ, slZ, 0, spZ, 0⟩)) (rs (Rz.cs rzZ) (Rz.cs ⟨4, enZ, slZ, slZ, 0, spZ, 0⟩) (Rz.cs ⟨4, enZ, slZ, slZ, 0, spZ, 0⟩) (HF.out.box 0 _ _ _ rfl) S177 (Rz.oneL _)) ?_
  try simp only [pS]
  have HF : Hid (Fq No w (wk2.setRow gk1 (Rz.cells ⟨4, enZ, slZ, slZ, 0, spZ, 0⟩)) [(gk1, 139, Rz.cells ⟨4, enZ, slZ, slZ, 0, spZ, 0⟩)]) := HF.out.set 0 rfl _
  generalize wk2.setRow gk1 (Rz.cells ⟨4, enZ, slZ, slZ, 0, spZ, 0⟩) = wk3 at HF ⊢
  refine WL.nil ?_
  try simp only [pS]
  go_wp2
  rw [HC.out]
  refine bodyPost_ret (results_row1 (by rfl) _ _ gk1 (Rz.cells ⟨4, enZ, slZ, slZ, 0, spZ, 0⟩) (by rfl) (run_load_part (cs := Rz.cs ⟨4, enZ, slZ, slZ, 0, spZ, 0⟩) (sub := Rz.cs ⟨4, enZ, slZ, slZ, 0, spZ, 0⟩) (HF.out.box 0 _ _ _ rfl) (Part.all _) U177 rfl S177)) rfl ?_
  exact ⟨rfl, HF.out.kept⟩
theorem of_beq_f {a b : Int} (h : (a == b) = false) : a ≠ b := by simpa using h
def laC (n c : Int) (a : Option Addr) (l k : Nat) (err sn sc : Int) (da : Option Addr) (dl dc : Nat) (ub : Nat) : Array Value :=
  #[.int .i64 n, .int .i64 c, .slice a l k, .int .i64 err, .string ⟨#[]⟩, .int .i64 0, .int .i64 0, .int .i64 0, .slice none 0 0, .slice da dl dc, .int .i64 0, .int .i64 sn, .int .i64 sc, .int .i64 0, .pointer (some ⟨ub, 0, none⟩)]
theorem uq_nd' : ∀ (l acc : List Int), (acc ++ l).Nodup → l.foldl (fun acc n => if n ∈ acc then acc else acc ++ [n]) acc = acc ++ l
  | [], acc, _ => by simp
  | z :: l, acc, h => by
    have hz : z ∉ acc := fun e => by
      have := List.nodup_append.1 h
      exact this.2.2 z e z (by simp) rfl
    rw [List.foldl_cons, if_neg hz, uq_nd' l (acc ++ [z]) (by simpa using h), List.append_assoc]
    rfl
theorem uq_nd {l : List Int} (h : l.Nodup) : uq l = l := by
  have := uq_nd' l [] (by simpa using h)
  simpa [uq] using this
set_option maxRecDepth 100000 in
set_option maxHeartbeats 4000000 in
theorem takeA_W (m : Nat) (a : Option Addr) (cap : Nat) (x : MS) (cl : Int) (wa : Option Addr) (wl wk : Nat) (tb bb ct : Nat) (at' : Option Addr) (Y : TS Bq) (d : Mg) (kn kc : Int) (kz : List Int) (R : Bq → Sq) (pz : Bq → List Int) (w : World) (hM : Mach w m a cap x 146 (.agg #[.iface 87 (.agg #[.int .i64 cl, .slice wa wl wk]), .pointer (some ⟨tb, 0, none⟩)])) (hT : Tal 149 ansB w tb bb at' ct Y) (hgl : x.g.length ≤ 1000) (hyl : Y.g.length ≤ 1000) (hr0 : 0 ≤ x.rd) (hr1 : x.rd ≤ 1099511627776)
    (hkp : hitB x 11 (mdOf d) = true → ∀ wr, Kept No w wr → Calls Try.prog 63 #[.agg #[.int .i64 cl, .slice wa wl wk], .agg (Mg.cells d)] wr (KeepOut wr kn kc kz))
    (hset : ∀ b : Bq, b.n = kn → b.c = kc → ∀ wr, Calls Try.prog 96 #[.agg #[.int .i64 cl, .slice wa wl wk], bkV (bestP ((gotL (takeS Y d.fr.id b)).map Prod.snd)), .bool (!((gotL (takeS Y d.fr.id b)).map Prod.snd).any (otherB (bestP ((gotL (takeS Y d.fr.id b)).map Prod.snd))))] wr (SettleOut wr (R b).pn (R b).pc (R b).pa (R b).pl (R b).pk (R b).er (R b).sn (R b).sc (R b).da (R b).dl (R b).dc (R b).en))
    (hpz : ∀ ka kk, takeB Y d.fr.id = true → (R ⟨kn, kc, ka, kz.length, kk⟩).en = false → (pz ⟨kn, kc, ka, kz.length, kk⟩).length = (R ⟨kn, kc, ka, kz.length, kk⟩).pl ∧ (R ⟨kn, kc, ka, kz.length, kk⟩).pl ≤ 140737488355328)
    (hpb : ∀ ka kk wr, Kept (Tb2 tb bb) w wr → OwnB wr w.heap.size ka kk kz → takeB Y d.fr.id = true → (R ⟨kn, kc, ka, kz.length, kk⟩).en = false → Bytes wr (R ⟨kn, kc, ka, kz.length, kk⟩).pa (pz ⟨kn, kc, ka, kz.length, kk⟩) ∧ ¬ At (R ⟨kn, kc, ka, kz.length, kk⟩).pa m)
    (hd : ∀ k, MB m a k → ¬ Tb2 tb bb k) : Calls Try.prog 81 #[.agg #[.iface 87 (.agg #[.int .i64 cl, .slice wa wl wk]), .pointer (some ⟨tb, 0, none⟩)], .pointer (some ⟨m, 0, none⟩), .agg (Mg.cells d)] w (TakAO w m a cap x (.agg #[.iface 87 (.agg #[.int .i64 cl, .slice wa wl wk]), .pointer (some ⟨tb, 0, none⟩)]) tb bb ct at' Y d kn kc kz R pz) := by
  obtain ⟨C, hC⟩ : ∃ C : Ending → World → Prop, C = (TakAO w m a cap x (.agg #[.iface 87 (.agg #[.int .i64 cl, .slice wa wl wk]), .pointer (some ⟨tb, 0, none⟩)]) tb bb ct at' Y d kn kc kz R pz) := ⟨_, rfl⟩
  have HC : Hid (C = (TakAO w m a cap x (.agg #[.iface 87 (.agg #[.int .i64 cl, .slice wa wl wk]), .pointer (some ⟨tb, 0, none⟩)]) tb bb ct at' Y d kn kc kz R pz)) := hC
  rw [← hC]
  clear hC
  have HM : Hid (Mach w m a cap x 146 (.agg #[.iface 87 (.agg #[.int .i64 cl, .slice wa wl wk]), .pointer (some ⟨tb, 0, none⟩)])) := hM
  have HT : Hid (Tal 149 ansB w tb bb at' ct Y) := hT
  have HKp : Hid (hitB x 11 (mdOf d) = true → ∀ wr, Kept No w wr → Calls Try.prog 63 #[.agg #[.int .i64 cl, .slice wa wl wk], .agg (Mg.cells d)] wr (KeepOut wr kn kc kz)) := hkp
  have HSt : Hid (∀ b : Bq, b.n = kn → b.c = kc → ∀ wr, Calls Try.prog 96 #[.agg #[.int .i64 cl, .slice wa wl wk], bkV (bestP ((gotL (takeS Y d.fr.id b)).map Prod.snd)), .bool (!((gotL (takeS Y d.fr.id b)).map Prod.snd).any (otherB (bestP ((gotL (takeS Y d.fr.id b)).map Prod.snd))))] wr (SettleOut wr (R b).pn (R b).pc (R b).pa (R b).pl (R b).pk (R b).er (R b).sn (R b).sc (R b).da (R b).dl (R b).dc (R b).en)) := hset
  have HPz : Hid (∀ ka kk, takeB Y d.fr.id = true → (R ⟨kn, kc, ka, kz.length, kk⟩).en = false → (pz ⟨kn, kc, ka, kz.length, kk⟩).length = (R ⟨kn, kc, ka, kz.length, kk⟩).pl ∧ (R ⟨kn, kc, ka, kz.length, kk⟩).pl ≤ 140737488355328) := hpz
  have HPb : Hid (∀ ka kk wr, Kept (Tb2 tb bb) w wr → OwnB wr w.heap.size ka kk kz → takeB Y d.fr.id = true → (R ⟨kn, kc, ka, kz.length, kk⟩).en = false → Bytes wr (R ⟨kn, kc, ka, kz.length, kk⟩).pa (pz ⟨kn, kc, ka, kz.length, kk⟩) ∧ ¬ At (R ⟨kn, kc, ka, kz.length, kk⟩).pa m) := hpb
  have HD : Hid (∀ k, MB m a k → ¬ Tb2 tb bb k) := hd
  have HTl : Hid (∀ k, Tb2 tb bb k → k < w.heap.size) := fun k e => hT.lt (by rcases e with rfl | rfl; exact .inl rfl; exact .inr (.inl rfl))
  have hml := hM.box.lt
  clear hM hT hkp hset hpz hpb hd
  have HF : Hid (Fq No w w []) := Fq.start _ _
  go_enter Try.func81, Try.ntmps81
  go_upto_region 0 with fail
  refine WL.start ?_
  refine uR (.pointer (some ⟨w.heap.size, 0, none⟩)) (w.alloc (.cells (#[.iface 87 (.agg #[.int .i64 cl, .slice wa wl wk]), .pointer (some ⟨tb, 0, none⟩)]) 146)) (exec_box 146 _ rfl (#[.iface 87 (.agg #[.int .i64 cl, .slice wa wl wk]), .pointer (some ⟨tb, 0, none⟩)]) (by kernel_rfl)) ?_
  try simp only [pS]
  have HF : Hid (Fq No w (w.alloc (.cells (#[.iface 87 (.agg #[.int .i64 cl, .slice wa wl wk]), .pointer (some ⟨tb, 0, none⟩)]) 146)) [(w.heap.size, 146, #[.iface 87 (.agg #[.int .i64 cl, .slice wa wl wk]), .pointer (some ⟨tb, 0, none⟩)])]) := HF.out.alloc _ _
  generalize w.alloc (.cells (#[.iface 87 (.agg #[.int .i64 cl, .slice wa wl wk]), .pointer (some ⟨tb, 0, none⟩)]) 146) = wk2 at HF ⊢
  generalize w.heap.size = gk1 at HF ⊢
  refine uR (.pointer (some ⟨wk2.heap.size, 0, none⟩)) (wk2.alloc (.cells (Mg.cells d) 52)) (exec_box 52 _ rfl (Mg.cells d) (by kernel_rfl)) ?_
  try simp only [pS]
  have HF : Hid (Fq No w (wk2.alloc (.cells (Mg.cells d) 52)) [(gk1, 146, #[.iface 87 (.agg #[.int .i64 cl, .slice wa wl wk]), .pointer (some ⟨tb, 0, none⟩)]), (wk2.heap.size, 52, Mg.cells d)]) := HF.out.alloc _ _
  generalize wk2.alloc (.cells (Mg.cells d) 52) = wk4 at HF ⊢
  generalize wk2.heap.size = gk3 at HF ⊢
  refine uK (.slice none 0 0) <| WL.nil <| ?_
  try simp only [pS]
  go_upto_region 1 with fail
  refine wp_region_held_drew (S := fun w' => Box w' gk1 146 (#[.iface 87 (.agg #[.int .i64 cl, .slice wa wl wk]), .pointer (some ⟨tb, 0, none⟩)]) ∧ Box w' gk3 52 (Mg.cells d)) rfl ⟨HF.out.box 0 _ _ _ rfl, HF.out.box 1 _ _ _ rfl⟩ (fun hH => ?_)
  have HF : Hid (Fq No w (wk4.drew) [(gk1, 146, #[.iface 87 (.agg #[.int .i64 cl, .slice wa wl wk]), .pointer (some ⟨tb, 0, none⟩)]), (gk3, 52, Mg.cells d)]) := HF.out.drew
  generalize wk4.drew = wk5 at HF hH ⊢
  refine xV 0 10 (.pointer (some ⟨m, 0, none⟩)) hH <| xL 1 11 52 ⟨gk3, 0, none⟩ (.agg (Mg.cells d)) (fun _ hw => run_load_part (cs := Mg.cs d) (sub := Mg.cs d) (hw.2) (Part.all _) U52 rfl S52) hH <| ?_
  try simp only [pS]
  cases q1 : (hitB x 11 (mdOf d))
  ·skip
   refine xC 2 12 83 #[.pointer (some ⟨m, 0, none⟩), .agg (Mg.cells d), .int .i64 11] (answered_any m a cap x 146 (.agg #[.iface 87 (.agg #[.int .i64 cl, .slice wa wl wk]), .pointer (some ⟨tb, 0, none⟩)]) (mdOf d) 11 wk5 (HM.out.no HF.out.kept)) ?_
   rintro e wk6 ⟨rfl, hk⟩
   have hH2 : Box wk6 gk1 146 (#[.iface 87 (.agg #[.int .i64 cl, .slice wa wl wk]), .pointer (some ⟨tb, 0, none⟩)]) ∧ Box wk6 gk3 52 (Mg.cells d) := ⟨hH.1.kept hk (fun e => e), hH.2.kept hk (fun e => e)⟩
   have HF : Hid (Fq No w (wk6) [(gk1, 146, #[.iface 87 (.agg #[.int .i64 cl, .slice wa wl wk]), .pointer (some ⟨tb, 0, none⟩)]), (gk3, 52, Mg.cells d)]) := HF.out.no hk
   clear hk
   refine ⟨.bool false, by rw [q1], hH2, fun hH => ?_⟩
   clear hH2
   try simp only [pS]
   refine xV 3 13 (.bool true) hH <| xV 4 14 (.bool true) hH <| xZ 5 15 hH <| xZ 6 16 hH <| xZ 7 17 hH <| xZ 8 18 hH <| ?_
   try simp only [pS]
   refine xZ 9 19 hH <| xZ 10 20 hH <| xZ 11 21 hH <| xZ 12 22 hH <| xZ 13 23 hH <| xZ 14 24 hH <| ?_
   try simp only [pS]
   refine xZ 15 25 hH <| xV 16 26 (.bool true) hH <| ?_
   try simp only [pS]
   refine wpAnyH_done (by kernel_rfl) ?_ _
   try simp only [pS]
   clear hH
   go_upto_region 2 with fail
   refine WL.start <| uK (.slice none 0 0) <| WL.nil <| ?_
   try simp only [pS]
   go_wp2
   rw [HC.out]
   exact .inl ⟨q1, rfl, HF.out.kept⟩
  ·skip
   refine xC 2 12 83 #[.pointer (some ⟨m, 0, none⟩), .agg (Mg.cells d), .int .i64 11] (answered_any m a cap x 146 (.agg #[.iface 87 (.agg #[.int .i64 cl, .slice wa wl wk]), .pointer (some ⟨tb, 0, none⟩)]) (mdOf d) 11 wk5 (HM.out.no HF.out.kept)) ?_
   rintro e wk7 ⟨rfl, hk⟩
   have hH2 : Box wk7 gk1 146 (#[.iface 87 (.agg #[.int .i64 cl, .slice wa wl wk]), .pointer (some ⟨tb, 0, none⟩)]) ∧ Box wk7 gk3 52 (Mg.cells d) := ⟨hH.1.kept hk (fun e => e), hH.2.kept hk (fun e => e)⟩
   have HF : Hid (Fq No w (wk7) [(gk1, 146, #[.iface 87 (.agg #[.int .i64 cl, .slice wa wl wk]), .pointer (some ⟨tb, 0, none⟩)]), (gk3, 52, Mg.cells d)]) := HF.out.no hk
   clear hk
   refine ⟨.bool true, by rw [q1], hH2, fun hH => ?_⟩
   clear hH2
   try simp only [pS]
   refine xV 3 13 (.bool false) hH <| xV 4 14 (.bool false) hH <| xV 5 15 (.pointer (some ⟨gk1, 1, none⟩)) hH <| xL 6 16 141 ⟨gk1, 1, none⟩ (.pointer (some ⟨tb, 0, none⟩)) (fun _ hw => load_one ((hw.1).cell 1 |>.trans (by kernel_rfl)) U179 V179) hH <| xV 7 17 (.pointer (some ⟨gk3, 1, none⟩)) hH <| xV 8 18 (.pointer (some ⟨gk3, 2, none⟩)) hH <| ?_
   try simp only [pS]
   refine xL 9 19 3 ⟨gk3, 2, none⟩ (.int .i64 d.fr.id) (fun _ hw => load_one ((hw.2).cell 2 |>.trans (by kernel_rfl)) U3 rfl) hH <| xV 10 20 (.pointer (some ⟨gk1, 0, none⟩)) hH <| xL 11 21 98 ⟨gk1, 0, none⟩ (.iface 87 (.agg #[.int .i64 cl, .slice wa wl wk])) (fun _ hw => load_one ((hw.1).cell 0 |>.trans (by kernel_rfl)) U131 V131) hH <| xL 12 22 52 ⟨gk3, 0, none⟩ (.agg (Mg.cells d)) (fun _ hw => run_load_part (cs := Mg.cs d) (sub := Mg.cs d) (hw.2) (Part.all _) U52 rfl S52) hH <| ?_
   try simp only [pS]
   refine xC 13 23 63 #[.agg #[.int .i64 cl, .slice wa wl wk], .agg (Mg.cells d)] (HKp.out q1 wk7 HF.out.kept) ?_
   rintro e wk8 ⟨ka, kk, rfl, hO, hk⟩
   have hH2 : Box wk8 gk1 146 (#[.iface 87 (.agg #[.int .i64 cl, .slice wa wl wk]), .pointer (some ⟨tb, 0, none⟩)]) ∧ Box wk8 gk3 52 (Mg.cells d) := ⟨hH.1.kept hk (fun e => e), hH.2.kept hk (fun e => e)⟩
   have HO : Hid (OwnB wk8 w.heap.size ka kk kz) := Own.lower hO HF.out.kept.size
   have HF : Hid (Fq No w (wk8) [(gk1, 146, #[.iface 87 (.agg #[.int .i64 cl, .slice wa wl wk]), .pointer (some ⟨tb, 0, none⟩)]), (gk3, 52, Mg.cells d)]) := HF.out.no hk
   clear hk hO
   refine ⟨.agg #[.int .i64 kn, .int .i64 kc, .slice ka kz.length kk], rfl, hH2, fun hH => ?_⟩
   clear hH2
   try simp only [pS]
   refine xC 14 24 80 #[.pointer (some ⟨tb, 0, none⟩), .int .i64 d.fr.id, .agg #[.int .i64 kn, .int .i64 kc, .slice ka kz.length kk]] (take_anyB tb bb ct at' Y d.fr.id ⟨kn, kc, ka, kz.length, kk⟩ wk8 (HT.out.no HF.out.kept)) ?_
   rintro e wk9 ⟨rfl, hT2, hk⟩
   have hs3 : ∀ k, w.heap.size ≤ k → ¬ Tb2 tb bb k := fun k h e => by have := HTl.out k e; omega
   have HB3 : Hid (Box wk9 gk1 146 (#[.iface 87 (.agg #[.int .i64 cl, .slice wa wl wk]), .pointer (some ⟨tb, 0, none⟩)])) := (HF.out.box 0 _ _ _ rfl).kept hk (hs3 _ ((HF.out.low 0 _ _ _ rfl).elim id (fun e => e.elim)))
   have hH2 : Box wk9 gk1 146 (#[.iface 87 (.agg #[.int .i64 cl, .slice wa wl wk]), .pointer (some ⟨tb, 0, none⟩)]) ∧ Box wk9 gk3 52 (Mg.cells d) := ⟨HB3.out, (HF.out.box 1 _ _ _ rfl).kept hk (hs3 _ ((HF.out.low 1 _ _ _ rfl).elim id (fun e => e.elim)))⟩
   have HKt : Hid (Kept (Tb2 tb bb) w wk9) := HF.out.kept.of_no.then hk
   have HO : Hid (OwnB wk9 w.heap.size ka kk kz) := Own.kept HO.out hk (fun k e => hs3 k (Own.base HO.out e))
   obtain ⟨b, hb⟩ : ∃ b : Bq, b = ⟨kn, kc, ka, kz.length, kk⟩ := ⟨_, rfl⟩
   have HTb : Hid (Tal 149 ansB wk9 tb bb at' ct (takeS Y d.fr.id b)) := by rw [hb]; exact hT2
   have HBb : Hid (b = ⟨kn, kc, ka, kz.length, kk⟩) := hb
   have HMb : Hid (Mach wk9 m a cap x 146 (.agg #[.iface 87 (.agg #[.int .i64 cl, .slice wa wl wk]), .pointer (some ⟨tb, 0, none⟩)])) := HM.out.kept HKt.out HD.out
   have HF1 : Hid (Fq No wk9 wk9 []) := Fq.start _ _
   clear HF hk hT2 hb
   have HF := HF1
   clear HF1
   refine ⟨.bool (takeB Y d.fr.id), rfl, hH2, fun hH => ?_⟩
   clear hH2
   try simp only [pS]
   cases q2 : ((takeB Y d.fr.id))
   ·skip
    try simp only [q2]
    refine xV 15 25 (.bool true) hH <| xV 16 26 (.bool true) hH <| ?_
    try simp only [pS]
    refine wpAnyH_done (by kernel_rfl) ?_ _
    try simp only [pS]
    clear hH
    go_upto_region 2 with fail
    refine WL.start <| uK (.slice none 0 0) <| WL.nil <| ?_
    try simp only [pS]
    go_wp2
    rw [HC.out]
    exact .inr ⟨q1, ka, kk, b, HBb.out, HO.out, HKt.out.mono (fun _ _ e => .inr e), HTb.out, .inl ⟨q2, rfl, HMb.out⟩⟩
   ·skip
    try simp only [q2]
    refine xV 15 25 (.bool false) hH <| xV 16 26 (.bool false) hH <| ?_
    try simp only [pS]
    refine wpAnyH_done (by kernel_rfl) ?_ _
    try simp only [pS]
    clear hH
    have hcn : 1 ≤ cnt (takeS Y d.fr.id b) := take_cnt HT.out.nd q2
    have hcl : cnt (takeS Y d.fr.id b) ≤ 1000 := by have h1 := cnt_le (takeS Y d.fr.id b); rw [takeS_g] at h1; omega
    have HGr : Hid (∀ wr, Kept No wk9 wr → Calls Try.prog 84 #[.pointer (some ⟨tb, 0, none⟩)] wr (GreatOut wr ((gotL (takeS Y d.fr.id b)).map Prod.snd))) := fun wr hk => greatestX tb bb ct at' (takeS Y d.fr.id b) wr (HTb.out.no hk) (by omega) hcn
    have HSe : Hid (∀ wr, Calls Try.prog 96 #[.agg #[.int .i64 cl, .slice wa wl wk], bkV (bestP ((gotL (takeS Y d.fr.id b)).map Prod.snd)), .bool (!((gotL (takeS Y d.fr.id b)).map Prod.snd).any (otherB (bestP ((gotL (takeS Y d.fr.id b)).map Prod.snd))))] wr (SettleOut wr (R b).pn (R b).pc (R b).pa (R b).pl (R b).pk (R b).er (R b).sn (R b).sc (R b).da (R b).dl (R b).dc (R b).en)) := HSt.out b (by rw [HBb.out]) (by rw [HBb.out])
    unfold GreatOut at HGr
    generalize (!((gotL (takeS Y d.fr.id b)).map Prod.snd).any (otherB (bestP ((gotL (takeS Y d.fr.id b)).map Prod.snd)))) = AL at HGr HSe
    generalize bestP ((gotL (takeS Y d.fr.id b)).map Prod.snd) = G at HGr HSe
    have HZl : Hid ((R b).en = false → (pz b).length = (R b).pl ∧ (R b).pl ≤ 140737488355328) := by
      show (R b).en = false → _
      rw [HBb.out]
      exact fun e => HPz.out ka kk q2 e
    have HBy : Hid ((R b).en = false → Bytes wk9 (R b).pa (pz b) ∧ ¬ At (R b).pa m) := by
      show (R b).en = false → _
      rw [HBb.out]
      exact fun e => HPb.out ka kk _ HKt.out HO.out q2 e
    obtain ⟨Q, hQ⟩ : ∃ Q, Q = R b := ⟨_, rfl⟩
    have HQq : Hid (Q = R b) := hQ
    rw [← hQ] at HSe HZl HBy
    clear hQ
    obtain ⟨pn, pc, pa, pl, pk, er, sn, sc, da, dl, dc, en⟩ := Q
    dsimp only at HSe HZl HBy
    go_upto_region 3 with fail
    refine wp_region_held_drew (S := fun w' => Kept No wk9 w') rfl (Kept.refl No _).drew (fun hH => ?_)
    have HF : Hid (Fq No wk9 (wk9.drew) []) := HF.out.drew
    generalize wk9.drew = wk10 at HF hH ⊢
    refine xV 0 28 (.pointer (some ⟨gk1, 0, none⟩)) hH <| xL 1 29 98 ⟨gk1, 0, none⟩ (.iface 87 (.agg #[.int .i64 cl, .slice wa wl wk])) (fun _ hw => load_one ((HB3.out.kept hw (fun e => e)).cell 0 |>.trans (by kernel_rfl)) U131 V131) hH <| xV 2 30 (.pointer (some ⟨gk1, 1, none⟩)) hH <| xL 3 31 141 ⟨gk1, 1, none⟩ (.pointer (some ⟨tb, 0, none⟩)) (fun _ hw => load_one ((HB3.out.kept hw (fun e => e)).cell 1 |>.trans (by kernel_rfl)) U179 V179) hH <| xV 7 35 (.iface 87 (.agg #[.int .i64 cl, .slice wa wl wk])) hH <| xV 8 36 (.iface 87 (.agg #[.int .i64 cl, .slice wa wl wk])) hH <| ?_
    try simp only [pS]
    refine' meet3 (J := fun W A B => Kept No wk9 W ∧ Box W A 144 (Bl.cells ⟨⟨pn, pc⟩, ⟨pa, pl, pk⟩⟩) ∧ Box W B 72 (Rz.cells ⟨er, enZ, slZ, ⟨da, dl, dc⟩, 0, ⟨sn, sc⟩, 0⟩) ∧ wk9.heap.size ≤ A ∧ wk9.heap.size ≤ B) (fun hh => ?region) (fun W A B hJ => ?tail)
    case region =>
      refine any_pick (rs := [4, 14, 15]) (by kernel_rfl) (by simp) ?_
      intro i hi
      rcases pick3 hi with rfl | rfl | rfl
      ·skip
       clear hi
       refine step_call (i := 4) (o := { dst := some 32, op := Op.call { callee := Callee.value (Operand.func 84), args := #[Operand.tmp 31], argTypes := #[141] }, type := 157, pos := "phase.go:55", after := #[{ on := 3, ground := Ground.data }], guard := none }) rfl (by kernel_rfl) 84 #[.pointer (some ⟨tb, 0, none⟩)] (by kernel_rfl) _ (HGr.out wk10 HF.out.kept) ?_
       rintro e wk11 ⟨rfl, hk⟩
       have hH2 : Kept No wk9 wk11 := hH.then hk
       have HF : Hid (Fq No wk9 (wk11) []) := HF.out.no hk
       clear hk
       refine ⟨.tuple #[bkV G, .bool AL], rfl, hH2, fun hH => ?_⟩
       clear hH2
       try simp only [pS]
       refine xV 5 33 (bkV G) hH <| xV 6 34 (.bool AL) hH <| ?_
       try simp only [pS]
       refine any_pick (rs := [9, 14, 15]) (by kernel_rfl) (by simp) ?_
       intro i hi
       rcases pick3 hi with rfl | rfl | rfl
       ·skip
        clear hi
        refine step_call (i := 9) (o := { dst := some 37, op := Op.call { callee := Callee.invoke (Operand.tmp 36) "cairn/register.settle", args := #[Operand.tmp 33, Operand.tmp 34], argTypes := #[144, 4] }, type := 156, pos := "phase.go:55", after := #[{ on := 8, ground := Ground.data }, { on := 5, ground := Ground.data }, { on := 6, ground := Ground.data }, { on := 4, ground := Ground.chain }], guard := none }) rfl (by kernel_rfl) 96 #[.agg #[.int .i64 cl, .slice wa wl wk], bkV G, .bool AL] (by kernel_rfl) _ (HSe.out wk11) ?_
        rintro e wk12 ⟨rfl, hk⟩
        have hH2 : Kept No wk9 wk12 := hH.then hk
        have HF : Hid (Fq No wk9 (wk12) []) := HF.out.no hk
        clear hk
        refine ⟨.tuple #[.agg #[.int .i64 pn, .int .i64 pc, .slice pa pl pk], .agg (resC er sn sc da dl dc), .bool en], rfl, hH2, fun hH => ?_⟩
        clear hH2
        try simp only [pS]
        refine xV 10 27 (.tuple #[.agg #[.int .i64 pn, .int .i64 pc, .slice pa pl pk], .agg (resC er sn sc da dl dc), .bool en]) hH <| xV 11 38 (.agg (Bl.cells ⟨⟨pn, pc⟩, ⟨pa, pl, pk⟩⟩)) hH <| xV 12 39 (.agg (Rz.cells ⟨er, enZ, slZ, ⟨da, dl, dc⟩, 0, ⟨sn, sc⟩, 0⟩)) hH <| xV 13 40 (.bool en) hH <| ?_
        try simp only [pS]
        refine any_pick (rs := [14, 15]) (by kernel_rfl) (by simp) ?_
        intro i hi
        rcases pick2 hi with rfl | rfl
        ·skip
         clear hi
         refine step_run (i := 14) (o := { dst := some 7, op := Op.alloc 144, type := 0, pos := "phase.go:55", after := #[], guard := none }) rfl (by kernel_rfl) (exec_alloc 144 rfl (Bl.cells blZ) Z57) (hH.alloc _) (fun hH => ?_)
         try simp only [pS]
         have HF : Hid (Fq No wk9 (wk12.alloc (.cells (Bl.cells blZ) 144)) [(wk12.heap.size, 144, Bl.cells blZ)]) := HF.out.alloc _ _
         generalize wk12.alloc (.cells (Bl.cells blZ) 144) = wk14 at HF hH ⊢
         generalize wk12.heap.size = gk13 at HF ⊢
         refine any_step (i := 15) (o := { dst := some 8, op := Op.alloc 72, type := 0, pos := "phase.go:55", after := #[], guard := none }) rfl (by kernel_rfl) (by kernel_rfl) (exec_alloc 72 rfl (Rz.cells rzZ) Z90) (hH.alloc _) (fun hH => ?_)
         try simp only [pS]
         have HF : Hid (Fq No wk9 (wk14.alloc (.cells (Rz.cells rzZ) 72)) [(gk13, 144, Bl.cells blZ), (wk14.heap.size, 72, Rz.cells rzZ)]) := HF.out.alloc _ _
         generalize wk14.alloc (.cells (Rz.cells rzZ) 72) = wk16 at HF hH ⊢
         generalize wk14.heap.size = gk15 at HF ⊢
         refine xS 16 144 ⟨gk13, 0, none⟩ (.agg (Bl.cells ⟨⟨pn, pc⟩, ⟨pa, pl, pk⟩⟩)) (w' := wk16.setRow gk13 (Bl.cells ⟨⟨pn, pc⟩, ⟨pa, pl, pk⟩⟩)) (rs (Bl.cs blZ) (Bl.cs ⟨⟨pn, pc⟩, ⟨pa, pl, pk⟩⟩) (Bl.cs ⟨⟨pn, pc⟩, ⟨pa, pl, pk⟩⟩) (HF.out.box 0 _ _ _ rfl) S57 (Bl.oneL _)) (hH.newRow ((HF.out.low 0 _ _ _ rfl).elim id (fun e => e.elim)) _) (fun hH => ?_)
         try simp only [pS]
         have HF : Hid (Fq No wk9 (wk16.setRow gk13 (Bl.cells ⟨⟨pn, pc⟩, ⟨pa, pl, pk⟩⟩)) [(gk13, 144, Bl.cells ⟨⟨pn, pc⟩, ⟨pa, pl, pk⟩⟩), (gk15, 72, Rz.cells rzZ)]) := HF.out.set 0 rfl _
         generalize wk16.setRow gk13 (Bl.cells ⟨⟨pn, pc⟩, ⟨pa, pl, pk⟩⟩) = wk17 at HF hH ⊢
         refine xS 17 72 ⟨gk15, 0, none⟩ (.agg (Rz.cells ⟨er, enZ, slZ, ⟨da, dl, dc⟩, 0, ⟨sn, sc⟩, 0⟩)) (w' := wk17.setRow gk15 (Rz.cells ⟨er, enZ, slZ, ⟨da, dl, dc⟩, 0, ⟨sn, sc⟩, 0⟩)) (rs (Rz.cs rzZ) (Rz.cs ⟨er, enZ, slZ, ⟨da, dl, dc⟩, 0, ⟨sn, sc⟩, 0⟩) (Rz.cs ⟨er, enZ, slZ, ⟨da, dl, dc⟩, 0, ⟨sn, sc⟩, 0⟩) (HF.out.box 1 _ _ _ rfl) S90 (Rz.oneL _)) (hH.newRow ((HF.out.low 1 _ _ _ rfl).elim id (fun e => e.elim)) _) (fun hH => ?_)
         try simp only [pS]
         have HF : Hid (Fq No wk9 (wk17.setRow gk15 (Rz.cells ⟨er, enZ, slZ, ⟨da, dl, dc⟩, 0, ⟨sn, sc⟩, 0⟩)) [(gk13, 144, Bl.cells ⟨⟨pn, pc⟩, ⟨pa, pl, pk⟩⟩), (gk15, 72, Rz.cells ⟨er, enZ, slZ, ⟨da, dl, dc⟩, 0, ⟨sn, sc⟩, 0⟩)]) := HF.out.set 1 rfl _
         generalize wk17.setRow gk15 (Rz.cells ⟨er, enZ, slZ, ⟨da, dl, dc⟩, 0, ⟨sn, sc⟩, 0⟩) = wk18 at HF hH ⊢
         refine xV 18 9 (.bool en) hH ?_
         try simp only [pS]
         refine wpAnyH_done (by kernel_rfl) ?_ _
         try simp only [pS]
         clear hH
         exact hh _ _ _ ⟨HF.out.kept, HF.out.box 0 _ _ _ rfl, HF.out.box 1 _ _ _ rfl, (HF.out.low 0 _ _ _ rfl).elim id (fun e => e.elim), (HF.out.low 1 _ _ _ rfl).elim id (fun e => e.elim)⟩
        ·skip
         clear hi
         refine step_run (i := 15) (o := { dst := some 8, op := Op.alloc 72, type := 0, pos := "phase.go:55", after := #[], guard := none }) rfl (by kernel_rfl) (exec_alloc 72 rfl (Rz.cells rzZ) Z90) (hH.alloc _) (fun hH => ?_)
         try simp only [pS]
         have HF : Hid (Fq No wk9 (wk12.alloc (.cells (Rz.cells rzZ) 72)) [(wk12.heap.size, 72, Rz.cells rzZ)]) := HF.out.alloc _ _
         generalize wk12.alloc (.cells (Rz.cells rzZ) 72) = wk20 at HF hH ⊢
         generalize wk12.heap.size = gk19 at HF ⊢
         refine any_step (i := 14) (o := { dst := some 7, op := Op.alloc 144, type := 0, pos := "phase.go:55", after := #[], guard := none }) rfl (by kernel_rfl) (by kernel_rfl) (exec_alloc 144 rfl (Bl.cells blZ) Z57) (hH.alloc _) (fun hH => ?_)
         try simp only [pS]
         have HF : Hid (Fq No wk9 (wk20.alloc (.cells (Bl.cells blZ) 144)) [(gk19, 72, Rz.cells rzZ), (wk20.heap.size, 144, Bl.cells blZ)]) := HF.out.alloc _ _
         generalize wk20.alloc (.cells (Bl.cells blZ) 144) = wk22 at HF hH ⊢
         generalize wk20.heap.size = gk21 at HF ⊢
         refine xS 16 144 ⟨gk21, 0, none⟩ (.agg (Bl.cells ⟨⟨pn, pc⟩, ⟨pa, pl, pk⟩⟩)) (w' := wk22.setRow gk21 (Bl.cells ⟨⟨pn, pc⟩, ⟨pa, pl, pk⟩⟩)) (rs (Bl.cs blZ) (Bl.cs ⟨⟨pn, pc⟩, ⟨pa, pl, pk⟩⟩) (Bl.cs ⟨⟨pn, pc⟩, ⟨pa, pl, pk⟩⟩) (HF.out.box 1 _ _ _ rfl) S57 (Bl.oneL _)) (hH.newRow ((HF.out.low 1 _ _ _ rfl).elim id (fun e => e.elim)) _) (fun hH => ?_)
         try simp only [pS]
         have HF : Hid (Fq No wk9 (wk22.setRow gk21 (Bl.cells ⟨⟨pn, pc⟩, ⟨pa, pl, pk⟩⟩)) [(gk19, 72, Rz.cells rzZ), (gk21, 144, Bl.cells ⟨⟨pn, pc⟩, ⟨pa, pl, pk⟩⟩)]) := HF.out.set 1 rfl _
         generalize wk22.setRow gk21 (Bl.cells ⟨⟨pn, pc⟩, ⟨pa, pl, pk⟩⟩) = wk23 at HF hH ⊢
         refine xS 17 72 ⟨gk19, 0, none⟩ (.agg (Rz.cells ⟨er, enZ, slZ, ⟨da, dl, dc⟩, 0, ⟨sn, sc⟩, 0⟩)) (w' := wk23.setRow gk19 (Rz.cells ⟨er, enZ, slZ, ⟨da, dl, dc⟩, 0, ⟨sn, sc⟩, 0⟩)) (rs (Rz.cs rzZ) (Rz.cs ⟨er, enZ, slZ, ⟨da, dl, dc⟩, 0, ⟨sn, sc⟩, 0⟩) (Rz.cs ⟨er, enZ, slZ, ⟨da, dl, dc⟩, 0, ⟨sn, sc⟩, 0⟩) (HF.out.box 0 _ _ _ rfl) S90 (Rz.oneL _)) (hH.newRow ((HF.out.low 0 _ _ _ rfl).elim id (fun e => e.elim)) _) (fun hH => ?_)
         try simp only [pS]
         have HF : Hid (Fq No wk9 (wk23.setRow gk19 (Rz.cells ⟨er, enZ, slZ, ⟨da, dl, dc⟩, 0, ⟨sn, sc⟩, 0⟩)) [(gk19, 72, Rz.cells ⟨er, enZ, slZ, ⟨da, dl, dc⟩, 0, ⟨sn, sc⟩, 0⟩), (gk21, 144, Bl.cells ⟨⟨pn, pc⟩, ⟨pa, pl, pk⟩⟩)]) := HF.out.set 0 rfl _
         generalize wk23.setRow gk19 (Rz.cells ⟨er, enZ, slZ, ⟨da, dl, dc⟩, 0, ⟨sn, sc⟩, 0⟩) = wk24 at HF hH ⊢
         refine xV 18 9 (.bool en) hH ?_
         try simp only [pS]
         refine wpAnyH_done (by kernel_rfl) ?_ _
         try simp only [pS]
         clear hH
         exact hh _ _ _ ⟨HF.out.kept, HF.out.box 1 _ _ _ rfl, HF.out.box 0 _ _ _ rfl, (HF.out.low 1 _ _ _ rfl).elim id (fun e => e.elim), (HF.out.low 0 _ _ _ rfl).elim id (fun e => e.elim)⟩
       ·skip
        clear hi
        refine step_run (i := 14) (o := { dst := some 7, op := Op.alloc 144, type := 0, pos := "phase.go:55", after := #[], guard := none }) rfl (by kernel_rfl) (exec_alloc 144 rfl (Bl.cells blZ) Z57) (hH.alloc _) (fun hH => ?_)
        try simp only [pS]
        have HF : Hid (Fq No wk9 (wk11.alloc (.cells (Bl.cells blZ) 144)) [(wk11.heap.size, 144, Bl.cells blZ)]) := HF.out.alloc _ _
        generalize wk11.alloc (.cells (Bl.cells blZ) 144) = wk26 at HF hH ⊢
        generalize wk11.heap.size = gk25 at HF ⊢
        refine any_pick (rs := [9, 15]) (by kernel_rfl) (by simp) ?_
        intro i hi
        rcases pick2 hi with rfl | rfl
        ·skip
         clear hi
         refine step_call (i := 9) (o := { dst := some 37, op := Op.call { callee := Callee.invoke (Operand.tmp 36) "cairn/register.settle", args := #[Operand.tmp 33, Operand.tmp 34], argTypes := #[144, 4] }, type := 156, pos := "phase.go:55", after := #[{ on := 8, ground := Ground.data }, { on := 5, ground := Ground.data }, { on := 6, ground := Ground.data }, { on := 4, ground := Ground.chain }], guard := none }) rfl (by kernel_rfl) 96 #[.agg #[.int .i64 cl, .slice wa wl wk], bkV G, .bool AL] (by kernel_rfl) _ (HSe.out wk26) ?_
         rintro e wk27 ⟨rfl, hk⟩
         have hH2 : Kept No wk9 wk27 := hH.then hk
         have HF : Hid (Fq No wk9 (wk27) [(gk25, 144, Bl.cells blZ)]) := HF.out.no hk
         clear hk
         refine ⟨.tuple #[.agg #[.int .i64 pn, .int .i64 pc, .slice pa pl pk], .agg (resC er sn sc da dl dc), .bool en], rfl, hH2, fun hH => ?_⟩
         clear hH2
         try simp only [pS]
         refine xV 10 27 (.tuple #[.agg #[.int .i64 pn, .int .i64 pc, .slice pa pl pk], .agg (resC er sn sc da dl dc), .bool en]) hH <| xV 11 38 (.agg (Bl.cells ⟨⟨pn, pc⟩, ⟨pa, pl, pk⟩⟩)) hH <| xV 12 39 (.agg (Rz.cells ⟨er, enZ, slZ, ⟨da, dl, dc⟩, 0, ⟨sn, sc⟩, 0⟩)) hH <| xV 13 40 (.bool en) hH <| ?_
         try simp only [pS]
         refine any_step (i := 15) (o := { dst := some 8, op := Op.alloc 72, type := 0, pos := "phase.go:55", after := #[], guard := none }) rfl (by kernel_rfl) (by kernel_rfl) (exec_alloc 72 rfl (Rz.cells rzZ) Z90) (hH.alloc _) (fun hH => ?_)
         try simp only [pS]
         have HF : Hid (Fq No wk9 (wk27.alloc (.cells (Rz.cells rzZ) 72)) [(gk25, 144, Bl.cells blZ), (wk27.heap.size, 72, Rz.cells rzZ)]) := HF.out.alloc _ _
         generalize wk27.alloc (.cells (Rz.cells rzZ) 72) = wk29 at HF hH ⊢
         generalize wk27.heap.size = gk28 at HF ⊢
         refine xS 16 144 ⟨gk25, 0, none⟩ (.agg (Bl.cells ⟨⟨pn, pc⟩, ⟨pa, pl, pk⟩⟩)) (w' := wk29.setRow gk25 (Bl.cells ⟨⟨pn, pc⟩, ⟨pa, pl, pk⟩⟩)) (rs (Bl.cs blZ) (Bl.cs ⟨⟨pn, pc⟩, ⟨pa, pl, pk⟩⟩) (Bl.cs ⟨⟨pn, pc⟩, ⟨pa, pl, pk⟩⟩) (HF.out.box 0 _ _ _ rfl) S57 (Bl.oneL _)) (hH.newRow ((HF.out.low 0 _ _ _ rfl).elim id (fun e => e.elim)) _) (fun hH => ?_)
         try simp only [pS]
         have HF : Hid (Fq No wk9 (wk29.setRow gk25 (Bl.cells ⟨⟨pn, pc⟩, ⟨pa, pl, pk⟩⟩)) [(gk25, 144, Bl.cells ⟨⟨pn, pc⟩, ⟨pa, pl, pk⟩⟩), (gk28, 72, Rz.cells rzZ)]) := HF.out.set 0 rfl _
         generalize wk29.setRow gk25 (Bl.cells ⟨⟨pn, pc⟩, ⟨pa, pl, pk⟩⟩) = wk30 at HF hH ⊢
         refine xS 17 72 ⟨gk28, 0, none⟩ (.agg (Rz.cells ⟨er, enZ, slZ, ⟨da, dl, dc⟩, 0, ⟨sn, sc⟩, 0⟩)) (w' := wk30.setRow gk28 (Rz.cells ⟨er, enZ, slZ, ⟨da, dl, dc⟩, 0, ⟨sn, sc⟩, 0⟩)) (rs (Rz.cs rzZ) (Rz.cs ⟨er, enZ, slZ, ⟨da, dl, dc⟩, 0, ⟨sn, sc⟩, 0⟩) (Rz.cs ⟨er, enZ, slZ, ⟨da, dl, dc⟩, 0, ⟨sn, sc⟩, 0⟩) (HF.out.box 1 _ _ _ rfl) S90 (Rz.oneL _)) (hH.newRow ((HF.out.low 1 _ _ _ rfl).elim id (fun e => e.elim)) _) (fun hH => ?_)
         try simp only [pS]
         have HF : Hid (Fq No wk9 (wk30.setRow gk28 (Rz.cells ⟨er, enZ, slZ, ⟨da, dl, dc⟩, 0, ⟨sn, sc⟩, 0⟩)) [(gk25, 144, Bl.cells ⟨⟨pn, pc⟩, ⟨pa, pl, pk⟩⟩), (gk28, 72, Rz.cells ⟨er, enZ, slZ, ⟨da, dl, dc⟩, 0, ⟨sn, sc⟩, 0⟩)]) := HF.out.set 1 rfl _
         generalize wk30.setRow gk28 (Rz.cells ⟨er, enZ, slZ, ⟨da, dl, dc⟩, 0, ⟨sn, sc⟩, 0⟩) = wk31 at HF hH ⊢
         refine xV 18 9 (.bool en) hH ?_
         try simp only [pS]
         refine wpAnyH_done (by kernel_rfl) ?_ _
         try simp only [pS]
         clear hH
         exact hh _ _ _ ⟨HF.out.kept, HF.out.box 0 _ _ _ rfl, HF.out.box 1 _ _ _ rfl, (HF.out.low 0 _ _ _ rfl).elim id (fun e => e.elim), (HF.out.low 1 _ _ _ rfl).elim id (fun e => e.elim)⟩
        ·skip
         clear hi
         refine step_run (i := 15) (o := { dst := some 8, op := Op.alloc 72, type := 0, pos := "phase.go:55", after := #[], guard := none }) rfl (by kernel_rfl) (exec_alloc 72 rfl (Rz.cells rzZ) Z90) (hH.alloc _) (fun hH => ?_)
         try simp only [pS]
         have HF : Hid (Fq No wk9 (wk26.alloc (.cells (Rz.cells rzZ) 72)) [(gk25, 144, Bl.cells blZ), (wk26.heap.size, 72, Rz.cells rzZ)]) := HF.out.alloc _ _
         generalize wk26.alloc (.cells (Rz.cells rzZ) 72) = wk33 at HF hH ⊢
         generalize wk26.heap.size = gk32 at HF ⊢
         refine xC 9 37 96 #[.agg #[.int .i64 cl, .slice wa wl wk], bkV G, .bool AL] (HSe.out wk33) ?_
         rintro e wk34 ⟨rfl, hk⟩
         have hH2 : Kept No wk9 wk34 := hH.then hk
         have HF : Hid (Fq No wk9 (wk34) [(gk25, 144, Bl.cells blZ), (gk32, 72, Rz.cells rzZ)]) := HF.out.no hk
         clear hk
         refine ⟨.tuple #[.agg #[.int .i64 pn, .int .i64 pc, .slice pa pl pk], .agg (resC er sn sc da dl dc), .bool en], rfl, hH2, fun hH => ?_⟩
         clear hH2
         try simp only [pS]
         refine xV 10 27 (.tuple #[.agg #[.int .i64 pn, .int .i64 pc, .slice pa pl pk], .agg (resC er sn sc da dl dc), .bool en]) hH <| xV 11 38 (.agg (Bl.cells ⟨⟨pn, pc⟩, ⟨pa, pl, pk⟩⟩)) hH <| xV 12 39 (.agg (Rz.cells ⟨er, enZ, slZ, ⟨da, dl, dc⟩, 0, ⟨sn, sc⟩, 0⟩)) hH <| xV 13 40 (.bool en) hH <| ?_
         try simp only [pS]
         refine xS 16 144 ⟨gk25, 0, none⟩ (.agg (Bl.cells ⟨⟨pn, pc⟩, ⟨pa, pl, pk⟩⟩)) (w' := wk34.setRow gk25 (Bl.cells ⟨⟨pn, pc⟩, ⟨pa, pl, pk⟩⟩)) (rs (Bl.cs blZ) (Bl.cs ⟨⟨pn, pc⟩, ⟨pa, pl, pk⟩⟩) (Bl.cs ⟨⟨pn, pc⟩, ⟨pa, pl, pk⟩⟩) (HF.out.box 0 _ _ _ rfl) S57 (Bl.oneL _)) (hH.newRow ((HF.out.low 0 _ _ _ rfl).elim id (fun e => e.elim)) _) (fun hH => ?_)
         try simp only [pS]
         have HF : Hid (Fq No wk9 (wk34.setRow gk25 (Bl.cells ⟨⟨pn, pc⟩, ⟨pa, pl, pk⟩⟩)) [(gk25, 144, Bl.cells ⟨⟨pn, pc⟩, ⟨pa, pl, pk⟩⟩), (gk32, 72, Rz.cells rzZ)]) := HF.out.set 0 rfl _
         generalize wk34.setRow gk25 (Bl.cells ⟨⟨pn, pc⟩, ⟨pa, pl, pk⟩⟩) = wk35 at HF hH ⊢
         refine xS 17 72 ⟨gk32, 0, none⟩ (.agg (Rz.cells ⟨er, enZ, slZ, ⟨da, dl, dc⟩, 0, ⟨sn, sc⟩, 0⟩)) (w' := wk35.setRow gk32 (Rz.cells ⟨er, enZ, slZ, ⟨da, dl, dc⟩, 0, ⟨sn, sc⟩, 0⟩)) (rs (Rz.cs rzZ) (Rz.cs ⟨er, enZ, slZ, ⟨da, dl, dc⟩, 0, ⟨sn, sc⟩, 0⟩) (Rz.cs ⟨er, enZ, slZ, ⟨da, dl, dc⟩, 0, ⟨sn, sc⟩, 0⟩) (HF.out.box 1 _ _ _ rfl) S90 (Rz.oneL _)) (hH.newRow ((HF.out.low 1 _ _ _ rfl).elim id (fun e => e.elim)) _) (fun hH => ?_)
         try simp only [pS]
         have HF : Hid (Fq No wk9 (wk35.setRow gk32 (Rz.cells ⟨er, enZ, slZ, ⟨da, dl, dc⟩, 0, ⟨sn, sc⟩, 0⟩)) [(gk25, 144, Bl.cells ⟨⟨pn, pc⟩, ⟨pa, pl, pk⟩⟩), (gk32, 72, Rz.cells ⟨er, enZ, slZ, ⟨da, dl, dc⟩, 0, ⟨sn, sc⟩, 0⟩)]) := HF.out.set 1 rfl _
         generalize wk35.setRow gk32 (Rz.cells ⟨er, enZ, slZ, ⟨da, dl, dc⟩, 0, ⟨sn, sc⟩, 0⟩) = wk36 at HF hH ⊢
         refine xV 18 9 (.bool en) hH ?_
         try simp only [pS]
         refine wpAnyH_done (by kernel_rfl) ?_ _
         try simp only [pS]
         clear hH
         exact hh _ _ _ ⟨HF.out.kept, HF.out.box 0 _ _ _ rfl, HF.out.box 1 _ _ _ rfl, (HF.out.low 0 _ _ _ rfl).elim id (fun e => e.elim), (HF.out.low 1 _ _ _ rfl).elim id (fun e => e.elim)⟩
       ·skip
        clear hi
        refine step_run (i := 15) (o := { dst := some 8, op := Op.alloc 72, type := 0, pos := "phase.go:55", after := #[], guard := none }) rfl (by kernel_rfl) (exec_alloc 72 rfl (Rz.cells rzZ) Z90) (hH.alloc _) (fun hH => ?_)
        try simp only [pS]
        have HF : Hid (Fq No wk9 (wk11.alloc (.cells (Rz.cells rzZ) 72)) [(wk11.heap.size, 72, Rz.cells rzZ)]) := HF.out.alloc _ _
        generalize wk11.alloc (.cells (Rz.cells rzZ) 72) = wk38 at HF hH ⊢
        generalize wk11.heap.size = gk37 at HF ⊢
        refine any_pick (rs := [9, 14]) (by kernel_rfl) (by simp) ?_
        intro i hi
        rcases pick2 hi with rfl | rfl
        ·skip
         clear hi
         refine step_call (i := 9) (o := { dst := some 37, op := Op.call { callee := Callee.invoke (Operand.tmp 36) "cairn/register.settle", args := #[Operand.tmp 33, Operand.tmp 34], argTypes := #[144, 4] }, type := 156, pos := "phase.go:55", after := #[{ on := 8, ground := Ground.data }, { on := 5, ground := Ground.data }, { on := 6, ground := Ground.data }, { on := 4, ground := Ground.chain }], guard := none }) rfl (by kernel_rfl) 96 #[.agg #[.int .i64 cl, .slice wa wl wk], bkV G, .bool AL] (by kernel_rfl) _ (HSe.out wk38) ?_
         rintro e wk39 ⟨rfl, hk⟩
         have hH2 : Kept No wk9 wk39 := hH.then hk
         have HF : Hid (Fq No wk9 (wk39) [(gk37, 72, Rz.cells rzZ)]) := HF.out.no hk
         clear hk
         refine ⟨.tuple #[.agg #[.int .i64 pn, .int .i64 pc, .slice pa pl pk], .agg (resC er sn sc da dl dc), .bool en], rfl, hH2, fun hH => ?_⟩
         clear hH2
         try simp only [pS]
         refine xV 10 27 (.tuple #[.agg #[.int .i64 pn, .int .i64 pc, .slice pa pl pk], .agg (resC er sn sc da dl dc), .bool en]) hH <| xV 11 38 (.agg (Bl.cells ⟨⟨pn, pc⟩, ⟨pa, pl, pk⟩⟩)) hH <| xV 12 39 (.agg (Rz.cells ⟨er, enZ, slZ, ⟨da, dl, dc⟩, 0, ⟨sn, sc⟩, 0⟩)) hH <| xV 13 40 (.bool en) hH <| ?_
         try simp only [pS]
         refine any_step (i := 14) (o := { dst := some 7, op := Op.alloc 144, type := 0, pos := "phase.go:55", after := #[], guard := none }) rfl (by kernel_rfl) (by kernel_rfl) (exec_alloc 144 rfl (Bl.cells blZ) Z57) (hH.alloc _) (fun hH => ?_)
         try simp only [pS]
         have HF : Hid (Fq No wk9 (wk39.alloc (.cells (Bl.cells blZ) 144)) [(gk37, 72, Rz.cells rzZ), (wk39.heap.size, 144, Bl.cells blZ)]) := HF.out.alloc _ _
         generalize wk39.alloc (.cells (Bl.cells blZ) 144) = wk41 at HF hH ⊢
         generalize wk39.heap.size = gk40 at HF ⊢
         refine xS 16 144 ⟨gk40, 0, none⟩ (.agg (Bl.cells ⟨⟨pn, pc⟩, ⟨pa, pl, pk⟩⟩)) (w' := wk41.setRow gk40 (Bl.cells ⟨⟨pn, pc⟩, ⟨pa, pl, pk⟩⟩)) (rs (Bl.cs blZ) (Bl.cs ⟨⟨pn, pc⟩, ⟨pa, pl, pk⟩⟩) (Bl.cs ⟨⟨pn, pc⟩, ⟨pa, pl, pk⟩⟩) (HF.out.box 1 _ _ _ rfl) S57 (Bl.oneL _)) (hH.newRow ((HF.out.low 1 _ _ _ rfl).elim id (fun e => e.elim)) _) (fun hH => ?_)
         try simp only [pS]
         have HF : Hid (Fq No wk9 (wk41.setRow gk40 (Bl.cells ⟨⟨pn, pc⟩, ⟨pa, pl, pk⟩⟩)) [(gk37, 72, Rz.cells rzZ), (gk40, 144, Bl.cells ⟨⟨pn, pc⟩, ⟨pa, pl, pk⟩⟩)]) := HF.out.set 1 rfl _
         generalize wk41.setRow gk40 (Bl.cells ⟨⟨pn, pc⟩, ⟨pa, pl, pk⟩⟩) = wk42 at HF hH ⊢
         refine xS 17 72 ⟨gk37, 0, none⟩ (.agg (Rz.cells ⟨er, enZ, slZ, ⟨da, dl, dc⟩, 0, ⟨sn, sc⟩, 0⟩)) (w' := wk42.setRow gk37 (Rz.cells ⟨er, enZ, slZ, ⟨da, dl, dc⟩, 0, ⟨sn, sc⟩, 0⟩)) (rs (Rz.cs rzZ) (Rz.cs ⟨er, enZ, slZ, ⟨da, dl, dc⟩, 0, ⟨sn, sc⟩, 0⟩) (Rz.cs ⟨er, enZ, slZ, ⟨da, dl, dc⟩, 0, ⟨sn, sc⟩, 0⟩) (HF.out.box 0 _ _ _ rfl) S90 (Rz.oneL _)) (hH.newRow ((HF.out.low 0 _ _ _ rfl).elim id (fun e => e.elim)) _) (fun hH => ?_)
         try simp only [pS]
         have HF : Hid (Fq No wk9 (wk42.setRow gk37 (Rz.cells ⟨er, enZ, slZ, ⟨da, dl, dc⟩, 0, ⟨sn, sc⟩, 0⟩)) [(gk37, 72, Rz.cells ⟨er, enZ, slZ, ⟨da, dl, dc⟩, 0, ⟨sn, sc⟩, 0⟩), (gk40, 144, Bl.cells ⟨⟨pn, pc⟩, ⟨pa, pl, pk⟩⟩)]) := HF.out.set 0 rfl _
         generalize wk42.setRow gk37 (Rz.cells ⟨er, enZ, slZ, ⟨da, dl, dc⟩, 0, ⟨sn, sc⟩, 0⟩) = wk43 at HF hH ⊢
         refine xV 18 9 (.bool en) hH ?_
         try simp only [pS]
         refine wpAnyH_done (by kernel_rfl) ?_ _
         try simp only [pS]
         clear hH
         exact hh _ _ _ ⟨HF.out.kept, HF.out.box 1 _ _ _ rfl, HF.out.box 0 _ _ _ rfl, (HF.out.low 1 _ _ _ rfl).elim id (fun e => e.elim), (HF.out.low 0 _ _ _ rfl).elim id (fun e => e.elim)⟩
        ·skip
         clear hi
         refine step_run (i := 14) (o := { dst := some 7, op := Op.alloc 144, type := 0, pos := "phase.go:55", after := #[], guard := none }) rfl (by kernel_rfl) (exec_alloc 144 rfl (Bl.cells blZ) Z57) (hH.alloc _) (fun hH => ?_)
         try simp only [pS]
         have HF : Hid (Fq No wk9 (wk38.alloc (.cells (Bl.cells blZ) 144)) [(gk37, 72, Rz.cells rzZ), (wk38.heap.size, 144, Bl.cells blZ)]) := HF.out.alloc _ _
         generalize wk38.alloc (.cells (Bl.cells blZ) 144) = wk45 at HF hH ⊢
         generalize wk38.heap.size = gk44 at HF ⊢
         refine xC 9 37 96 #[.agg #[.int .i64 cl, .slice wa wl wk], bkV G, .bool AL] (HSe.out wk45) ?_
         rintro e wk46 ⟨rfl, hk⟩
         have hH2 : Kept No wk9 wk46 := hH.then hk
         have HF : Hid (Fq No wk9 (wk46) [(gk37, 72, Rz.cells rzZ), (gk44, 144, Bl.cells blZ)]) := HF.out.no hk
         clear hk
         refine ⟨.tuple #[.agg #[.int .i64 pn, .int .i64 pc, .slice pa pl pk], .agg (resC er sn sc da dl dc), .bool en], rfl, hH2, fun hH => ?_⟩
         clear hH2
         try simp only [pS]
         refine xV 10 27 (.tuple #[.agg #[.int .i64 pn, .int .i64 pc, .slice pa pl pk], .agg (resC er sn sc da dl dc), .bool en]) hH <| xV 11 38 (.agg (Bl.cells ⟨⟨pn, pc⟩, ⟨pa, pl, pk⟩⟩)) hH <| xV 12 39 (.agg (Rz.cells ⟨er, enZ, slZ, ⟨da, dl, dc⟩, 0, ⟨sn, sc⟩, 0⟩)) hH <| xV 13 40 (.bool en) hH <| ?_
         try simp only [pS]
         refine xS 16 144 ⟨gk44, 0, none⟩ (.agg (Bl.cells ⟨⟨pn, pc⟩, ⟨pa, pl, pk⟩⟩)) (w' := wk46.setRow gk44 (Bl.cells ⟨⟨pn, pc⟩, ⟨pa, pl, pk⟩⟩)) (rs (Bl.cs blZ) (Bl.cs ⟨⟨pn, pc⟩, ⟨pa, pl, pk⟩⟩) (Bl.cs ⟨⟨pn, pc⟩, ⟨pa, pl, pk⟩⟩) (HF.out.box 1 _ _ _ rfl) S57 (Bl.oneL _)) (hH.newRow ((HF.out.low 1 _ _ _ rfl).elim id (fun e => e.elim)) _) (fun hH => ?_)
         try simp only [pS]
         have HF : Hid (Fq No wk9 (wk46.setRow gk44 (Bl.cells ⟨⟨pn, pc⟩, ⟨pa, pl, pk⟩⟩)) [(gk37, 72, Rz.cells rzZ), (gk44, 144, Bl.cells ⟨⟨pn, pc⟩, ⟨pa, pl, pk⟩⟩)]) := HF.out.set 1 rfl _
         generalize wk46.setRow gk44 (Bl.cells ⟨⟨pn, pc⟩, ⟨pa, pl, pk⟩⟩) = wk47 at HF hH ⊢
         refine xS 17 72 ⟨gk37, 0, none⟩ (.agg (Rz.cells ⟨er, enZ, slZ, ⟨da, dl, dc⟩, 0, ⟨sn, sc⟩, 0⟩)) (w' := wk47.setRow gk37 (Rz.cells ⟨er, enZ, slZ, ⟨da, dl, dc⟩, 0, ⟨sn, sc⟩, 0⟩)) (rs (Rz.cs rzZ) (Rz.cs ⟨er, enZ, slZ, ⟨da, dl, dc⟩, 0, ⟨sn, sc⟩, 0⟩) (Rz.cs ⟨er, enZ, slZ, ⟨da, dl, dc⟩, 0, ⟨sn, sc⟩, 0⟩) (HF.out.box 0 _ _ _ rfl) S90 (Rz.oneL _)) (hH.newRow ((HF.out.low 0 _ _ _ rfl).elim id (fun e => e.elim)) _) (fun hH => ?_)
         try simp only [pS]
         have HF : Hid (Fq No wk9 (wk47.setRow gk37 (Rz.cells ⟨er, enZ, slZ, ⟨da, dl, dc⟩, 0, ⟨sn, sc⟩, 0⟩)) [(gk37, 72, Rz.cells ⟨er, enZ, slZ, ⟨da, dl, dc⟩, 0, ⟨sn, sc⟩, 0⟩), (gk44, 144, Bl.cells ⟨⟨pn, pc⟩, ⟨pa, pl, pk⟩⟩)]) := HF.out.set 0 rfl _
         generalize wk47.setRow gk37 (Rz.cells ⟨er, enZ, slZ, ⟨da, dl, dc⟩, 0, ⟨sn, sc⟩, 0⟩) = wk48 at HF hH ⊢
         refine xV 18 9 (.bool en) hH ?_
         try simp only [pS]
         refine wpAnyH_done (by kernel_rfl) ?_ _
         try simp only [pS]
         clear hH
         exact hh _ _ _ ⟨HF.out.kept, HF.out.box 1 _ _ _ rfl, HF.out.box 0 _ _ _ rfl, (HF.out.low 1 _ _ _ rfl).elim id (fun e => e.elim), (HF.out.low 0 _ _ _ rfl).elim id (fun e => e.elim)⟩
      ·skip
       clear hi
       refine step_run (i := 14) (o := { dst := some 7, op := Op.alloc 144, type := 0, pos := "phase.go:55", after := #[], guard := none }) rfl (by kernel_rfl) (exec_alloc 144 rfl (Bl.cells blZ) Z57) (hH.alloc _) (fun hH => ?_)
       try simp only [pS]
       have HF : Hid (Fq No wk9 (wk10.alloc (.cells (Bl.cells blZ) 144)) [(wk10.heap.size, 144, Bl.cells blZ)]) := HF.out.alloc _ _
       generalize wk10.alloc (.cells (Bl.cells blZ) 144) = wk50 at HF hH ⊢
       generalize wk10.heap.size = gk49 at HF ⊢
       refine any_pick (rs := [4, 15]) (by kernel_rfl) (by simp) ?_
       intro i hi
       rcases pick2 hi with rfl | rfl
       ·skip
        clear hi
        refine step_call (i := 4) (o := { dst := some 32, op := Op.call { callee := Callee.value (Operand.func 84), args := #[Operand.tmp 31], argTypes := #[141] }, type := 157, pos := "phase.go:55", after := #[{ on := 3, ground := Ground.data }], guard := none }) rfl (by kernel_rfl) 84 #[.pointer (some ⟨tb, 0, none⟩)] (by kernel_rfl) _ (HGr.out wk50 HF.out.kept) ?_
        rintro e wk51 ⟨rfl, hk⟩
        have hH2 : Kept No wk9 wk51 := hH.then hk
        have HF : Hid (Fq No wk9 (wk51) [(gk49, 144, Bl.cells blZ)]) := HF.out.no hk
        clear hk
        refine ⟨.tuple #[bkV G, .bool AL], rfl, hH2, fun hH => ?_⟩
        clear hH2
        try simp only [pS]
        refine xV 5 33 (bkV G) hH <| xV 6 34 (.bool AL) hH <| ?_
        try simp only [pS]
        refine any_pick (rs := [9, 15]) (by kernel_rfl) (by simp) ?_
        intro i hi
        rcases pick2 hi with rfl | rfl
        ·skip
         clear hi
         refine step_call (i := 9) (o := { dst := some 37, op := Op.call { callee := Callee.invoke (Operand.tmp 36) "cairn/register.settle", args := #[Operand.tmp 33, Operand.tmp 34], argTypes := #[144, 4] }, type := 156, pos := "phase.go:55", after := #[{ on := 8, ground := Ground.data }, { on := 5, ground := Ground.data }, { on := 6, ground := Ground.data }, { on := 4, ground := Ground.chain }], guard := none }) rfl (by kernel_rfl) 96 #[.agg #[.int .i64 cl, .slice wa wl wk], bkV G, .bool AL] (by kernel_rfl) _ (HSe.out wk51) ?_
         rintro e wk52 ⟨rfl, hk⟩
         have hH2 : Kept No wk9 wk52 := hH.then hk
         have HF : Hid (Fq No wk9 (wk52) [(gk49, 144, Bl.cells blZ)]) := HF.out.no hk
         clear hk
         refine ⟨.tuple #[.agg #[.int .i64 pn, .int .i64 pc, .slice pa pl pk], .agg (resC er sn sc da dl dc), .bool en], rfl, hH2, fun hH => ?_⟩
         clear hH2
         try simp only [pS]
         refine xV 10 27 (.tuple #[.agg #[.int .i64 pn, .int .i64 pc, .slice pa pl pk], .agg (resC er sn sc da dl dc), .bool en]) hH <| xV 11 38 (.agg (Bl.cells ⟨⟨pn, pc⟩, ⟨pa, pl, pk⟩⟩)) hH <| xV 12 39 (.agg (Rz.cells ⟨er, enZ, slZ, ⟨da, dl, dc⟩, 0, ⟨sn, sc⟩, 0⟩)) hH <| xV 13 40 (.bool en) hH <| ?_
         try simp only [pS]
         refine any_step (i := 15) (o := { dst := some 8, op := Op.alloc 72, type := 0, pos := "phase.go:55", after := #[], guard := none }) rfl (by kernel_rfl) (by kernel_rfl) (exec_alloc 72 rfl (Rz.cells rzZ) Z90) (hH.alloc _) (fun hH => ?_)
         try simp only [pS]
         have HF : Hid (Fq No wk9 (wk52.alloc (.cells (Rz.cells rzZ) 72)) [(gk49, 144, Bl.cells blZ), (wk52.heap.size, 72, Rz.cells rzZ)]) := HF.out.alloc _ _
         generalize wk52.alloc (.cells (Rz.cells rzZ) 72) = wk54 at HF hH ⊢
         generalize wk52.heap.size = gk53 at HF ⊢
         refine xS 16 144 ⟨gk49, 0, none⟩ (.agg (Bl.cells ⟨⟨pn, pc⟩, ⟨pa, pl, pk⟩⟩)) (w' := wk54.setRow gk49 (Bl.cells ⟨⟨pn, pc⟩, ⟨pa, pl, pk⟩⟩)) (rs (Bl.cs blZ) (Bl.cs ⟨⟨pn, pc⟩, ⟨pa, pl, pk⟩⟩) (Bl.cs ⟨⟨pn, pc⟩, ⟨pa, pl, pk⟩⟩) (HF.out.box 0 _ _ _ rfl) S57 (Bl.oneL _)) (hH.newRow ((HF.out.low 0 _ _ _ rfl).elim id (fun e => e.elim)) _) (fun hH => ?_)
         try simp only [pS]
         have HF : Hid (Fq No wk9 (wk54.setRow gk49 (Bl.cells ⟨⟨pn, pc⟩, ⟨pa, pl, pk⟩⟩)) [(gk49, 144, Bl.cells ⟨⟨pn, pc⟩, ⟨pa, pl, pk⟩⟩), (gk53, 72, Rz.cells rzZ)]) := HF.out.set 0 rfl _
         generalize wk54.setRow gk49 (Bl.cells ⟨⟨pn, pc⟩, ⟨pa, pl, pk⟩⟩) = wk55 at HF hH ⊢
         refine xS 17 72 ⟨gk53, 0, none⟩ (.agg (Rz.cells ⟨er, enZ, slZ, ⟨da, dl, dc⟩, 0, ⟨sn, sc⟩, 0⟩)) (w' := wk55.setRow gk53 (Rz.cells ⟨er, enZ, slZ, ⟨da, dl, dc⟩, 0, ⟨sn, sc⟩, 0⟩)) (rs (Rz.cs rzZ) (Rz.cs ⟨er, enZ, slZ, ⟨da, dl, dc⟩, 0, ⟨sn, sc⟩, 0⟩) (Rz.cs ⟨er, enZ, slZ, ⟨da, dl, dc⟩, 0, ⟨sn, sc⟩, 0⟩) (HF.out.box 1 _ _ _ rfl) S90 (Rz.oneL _)) (hH.newRow ((HF.out.low 1 _ _ _ rfl).elim id (fun e => e.elim)) _) (fun hH => ?_)
         try simp only [pS]
         have HF : Hid (Fq No wk9 (wk55.setRow gk53 (Rz.cells ⟨er, enZ, slZ, ⟨da, dl, dc⟩, 0, ⟨sn, sc⟩, 0⟩)) [(gk49, 144, Bl.cells ⟨⟨pn, pc⟩, ⟨pa, pl, pk⟩⟩), (gk53, 72, Rz.cells ⟨er, enZ, slZ, ⟨da, dl, dc⟩, 0, ⟨sn, sc⟩, 0⟩)]) := HF.out.set 1 rfl _
         generalize wk55.setRow gk53 (Rz.cells ⟨er, enZ, slZ, ⟨da, dl, dc⟩, 0, ⟨sn, sc⟩, 0⟩) = wk56 at HF hH ⊢
         refine xV 18 9 (.bool en) hH ?_
         try simp only [pS]
         refine wpAnyH_done (by kernel_rfl) ?_ _
         try simp only [pS]
         clear hH
         exact hh _ _ _ ⟨HF.out.kept, HF.out.box 0 _ _ _ rfl, HF.out.box 1 _ _ _ rfl, (HF.out.low 0 _ _ _ rfl).elim id (fun e => e.elim), (HF.out.low 1 _ _ _ rfl).elim id (fun e => e.elim)⟩
        ·skip
         clear hi
         refine step_run (i := 15) (o := { dst := some 8, op := Op.alloc 72, type := 0, pos := "phase.go:55", after := #[], guard := none }) rfl (by kernel_rfl) (exec_alloc 72 rfl (Rz.cells rzZ) Z90) (hH.alloc _) (fun hH => ?_)
         try simp only [pS]
         have HF : Hid (Fq No wk9 (wk51.alloc (.cells (Rz.cells rzZ) 72)) [(gk49, 144, Bl.cells blZ), (wk51.heap.size, 72, Rz.cells rzZ)]) := HF.out.alloc _ _
         generalize wk51.alloc (.cells (Rz.cells rzZ) 72) = wk58 at HF hH ⊢
         generalize wk51.heap.size = gk57 at HF ⊢
         refine xC 9 37 96 #[.agg #[.int .i64 cl, .slice wa wl wk], bkV G, .bool AL] (HSe.out wk58) ?_
         rintro e wk59 ⟨rfl, hk⟩
         have hH2 : Kept No wk9 wk59 := hH.then hk
         have HF : Hid (Fq No wk9 (wk59) [(gk49, 144, Bl.cells blZ), (gk57, 72, Rz.cells rzZ)]) := HF.out.no hk
         clear hk
         refine ⟨.tuple #[.agg #[.int .i64 pn, .int .i64 pc, .slice pa pl pk], .agg (resC er sn sc da dl dc), .bool en], rfl, hH2, fun hH => ?_⟩
         clear hH2
         try simp only [pS]
         refine xV 10 27 (.tuple #[.agg #[.int .i64 pn, .int .i64 pc, .slice pa pl pk], .agg (resC er sn sc da dl dc), .bool en]) hH <| xV 11 38 (.agg (Bl.cells ⟨⟨pn, pc⟩, ⟨pa, pl, pk⟩⟩)) hH <| xV 12 39 (.agg (Rz.cells ⟨er, enZ, slZ, ⟨da, dl, dc⟩, 0, ⟨sn, sc⟩, 0⟩)) hH <| xV 13 40 (.bool en) hH <| ?_
         try simp only [pS]
         refine xS 16 144 ⟨gk49, 0, none⟩ (.agg (Bl.cells ⟨⟨pn, pc⟩, ⟨pa, pl, pk⟩⟩)) (w' := wk59.setRow gk49 (Bl.cells ⟨⟨pn, pc⟩, ⟨pa, pl, pk⟩⟩)) (rs (Bl.cs blZ) (Bl.cs ⟨⟨pn, pc⟩, ⟨pa, pl, pk⟩⟩) (Bl.cs ⟨⟨pn, pc⟩, ⟨pa, pl, pk⟩⟩) (HF.out.box 0 _ _ _ rfl) S57 (Bl.oneL _)) (hH.newRow ((HF.out.low 0 _ _ _ rfl).elim id (fun e => e.elim)) _) (fun hH => ?_)
         try simp only [pS]
         have HF : Hid (Fq No wk9 (wk59.setRow gk49 (Bl.cells ⟨⟨pn, pc⟩, ⟨pa, pl, pk⟩⟩)) [(gk49, 144, Bl.cells ⟨⟨pn, pc⟩, ⟨pa, pl, pk⟩⟩), (gk57, 72, Rz.cells rzZ)]) := HF.out.set 0 rfl _
         generalize wk59.setRow gk49 (Bl.cells ⟨⟨pn, pc⟩, ⟨pa, pl, pk⟩⟩) = wk60 at HF hH ⊢
         refine xS 17 72 ⟨gk57, 0, none⟩ (.agg (Rz.cells ⟨er, enZ, slZ, ⟨da, dl, dc⟩, 0, ⟨sn, sc⟩, 0⟩)) (w' := wk60.setRow gk57 (Rz.cells ⟨er, enZ, slZ, ⟨da, dl, dc⟩, 0, ⟨sn, sc⟩, 0⟩)) (rs (Rz.cs rzZ) (Rz.cs ⟨er, enZ, slZ, ⟨da, dl, dc⟩, 0, ⟨sn, sc⟩, 0⟩) (Rz.cs ⟨er, enZ, slZ, ⟨da, dl, dc⟩, 0, ⟨sn, sc⟩, 0⟩) (HF.out.box 1 _ _ _ rfl) S90 (Rz.oneL _)) (hH.newRow ((HF.out.low 1 _ _ _ rfl).elim id (fun e => e.elim)) _) (fun hH => ?_)
         try simp only [pS]
         have HF : Hid (Fq No wk9 (wk60.setRow gk57 (Rz.cells ⟨er, enZ, slZ, ⟨da, dl, dc⟩, 0, ⟨sn, sc⟩, 0⟩)) [(gk49, 144, Bl.cells ⟨⟨pn, pc⟩, ⟨pa, pl, pk⟩⟩), (gk57, 72, Rz.cells ⟨er, enZ, slZ, ⟨da, dl, dc⟩, 0, ⟨sn, sc⟩, 0⟩)]) := HF.out.set 1 rfl _
         generalize wk60.setRow gk57 (Rz.cells ⟨er, enZ, slZ, ⟨da, dl, dc⟩, 0, ⟨sn, sc⟩, 0⟩) = wk61 at HF hH ⊢
         refine xV 18 9 (.bool en) hH ?_
         try simp only [pS]
         refine wpAnyH_done (by kernel_rfl) ?_ _
         try simp only [pS]
         clear hH
         exact hh _ _ _ ⟨HF.out.kept, HF.out.box 0 _ _ _ rfl, HF.out.box 1 _ _ _ rfl, (HF.out.low 0 _ _ _ rfl).elim id (fun e => e.elim), (HF.out.low 1 _ _ _ rfl).elim id (fun e => e.elim)⟩
       ·skip
        clear hi
        refine step_run (i := 15) (o := { dst := some 8, op := Op.alloc 72, type := 0, pos := "phase.go:55", after := #[], guard := none }) rfl (by kernel_rfl) (exec_alloc 72 rfl (Rz.cells rzZ) Z90) (hH.alloc _) (fun hH => ?_)
        try simp only [pS]
        have HF : Hid (Fq No wk9 (wk50.alloc (.cells (Rz.cells rzZ) 72)) [(gk49, 144, Bl.cells blZ), (wk50.heap.size, 72, Rz.cells rzZ)]) := HF.out.alloc _ _
        generalize wk50.alloc (.cells (Rz.cells rzZ) 72) = wk63 at HF hH ⊢
        generalize wk50.heap.size = gk62 at HF ⊢
        refine xC 4 32 84 #[.pointer (some ⟨tb, 0, none⟩)] (HGr.out wk63 HF.out.kept) ?_
        rintro e wk64 ⟨rfl, hk⟩
        have hH2 : Kept No wk9 wk64 := hH.then hk
        have HF : Hid (Fq No wk9 (wk64) [(gk49, 144, Bl.cells blZ), (gk62, 72, Rz.cells rzZ)]) := HF.out.no hk
        clear hk
        refine ⟨.tuple #[bkV G, .bool AL], rfl, hH2, fun hH => ?_⟩
        clear hH2
        try simp only [pS]
        refine xV 5 33 (bkV G) hH <| xV 6 34 (.bool AL) hH <| ?_
        try simp only [pS]
        refine xC 9 37 96 #[.agg #[.int .i64 cl, .slice wa wl wk], bkV G, .bool AL] (HSe.out wk64) ?_
        rintro e wk65 ⟨rfl, hk⟩
        have hH2 : Kept No wk9 wk65 := hH.then hk
        have HF : Hid (Fq No wk9 (wk65) [(gk49, 144, Bl.cells blZ), (gk62, 72, Rz.cells rzZ)]) := HF.out.no hk
        clear hk
        refine ⟨.tuple #[.agg #[.int .i64 pn, .int .i64 pc, .slice pa pl pk], .agg (resC er sn sc da dl dc), .bool en], rfl, hH2, fun hH => ?_⟩
        clear hH2
        try simp only [pS]
        refine xV 10 27 (.tuple #[.agg #[.int .i64 pn, .int .i64 pc, .slice pa pl pk], .agg (resC er sn sc da dl dc), .bool en]) hH <| xV 11 38 (.agg (Bl.cells ⟨⟨pn, pc⟩, ⟨pa, pl, pk⟩⟩)) hH <| xV 12 39 (.agg (Rz.cells ⟨er, enZ, slZ, ⟨da, dl, dc⟩, 0, ⟨sn, sc⟩, 0⟩)) hH <| xV 13 40 (.bool en) hH <| ?_
        try simp only [pS]
        refine xS 16 144 ⟨gk49, 0, none⟩ (.agg (Bl.cells ⟨⟨pn, pc⟩, ⟨pa, pl, pk⟩⟩)) (w' := wk65.setRow gk49 (Bl.cells ⟨⟨pn, pc⟩, ⟨pa, pl, pk⟩⟩)) (rs (Bl.cs blZ) (Bl.cs ⟨⟨pn, pc⟩, ⟨pa, pl, pk⟩⟩) (Bl.cs ⟨⟨pn, pc⟩, ⟨pa, pl, pk⟩⟩) (HF.out.box 0 _ _ _ rfl) S57 (Bl.oneL _)) (hH.newRow ((HF.out.low 0 _ _ _ rfl).elim id (fun e => e.elim)) _) (fun hH => ?_)
        try simp only [pS]
        have HF : Hid (Fq No wk9 (wk65.setRow gk49 (Bl.cells ⟨⟨pn, pc⟩, ⟨pa, pl, pk⟩⟩)) [(gk49, 144, Bl.cells ⟨⟨pn, pc⟩, ⟨pa, pl, pk⟩⟩), (gk62, 72, Rz.cells rzZ)]) := HF.out.set 0 rfl _
        generalize wk65.setRow gk49 (Bl.cells ⟨⟨pn, pc⟩, ⟨pa, pl, pk⟩⟩) = wk66 at HF hH ⊢
        refine xS 17 72 ⟨gk62, 0, none⟩ (.agg (Rz.cells ⟨er, enZ, slZ, ⟨da, dl, dc⟩, 0, ⟨sn, sc⟩, 0⟩)) (w' := wk66.setRow gk62 (Rz.cells ⟨er, enZ, slZ, ⟨da, dl, dc⟩, 0, ⟨sn, sc⟩, 0⟩)) (rs (Rz.cs rzZ) (Rz.cs ⟨er, enZ, slZ, ⟨da, dl, dc⟩, 0, ⟨sn, sc⟩, 0⟩) (Rz.cs ⟨er, enZ, slZ, ⟨da, dl, dc⟩, 0, ⟨sn, sc⟩, 0⟩) (HF.out.box 1 _ _ _ rfl) S90 (Rz.oneL _)) (hH.newRow ((HF.out.low 1 _ _ _ rfl).elim id (fun e => e.elim)) _) (fun hH => ?_)
        try simp only [pS]
        have HF : Hid (Fq No wk9 (wk66.setRow gk62 (Rz.cells ⟨er, enZ, slZ, ⟨da, dl, dc⟩, 0, ⟨sn, sc⟩, 0⟩)) [(gk49, 144, Bl.cells ⟨⟨pn, pc⟩, ⟨pa, pl, pk⟩⟩), (gk62, 72, Rz.cells ⟨er, enZ, slZ, ⟨da, dl, dc⟩, 0, ⟨sn, sc⟩, 0⟩)]) := HF.out.set 1 rfl _
        generalize wk66.setRow gk62 (Rz.cells ⟨er, enZ, slZ, ⟨da, dl, dc⟩, 0, ⟨sn, sc⟩, 0⟩) = wk67 at HF hH ⊢
        refine xV 18 9 (.bool en) hH ?_
        try simp only [pS]
        refine wpAnyH_done (by kernel_rfl) ?_ _
        try simp only [pS]
        clear hH
        exact hh _ _ _ ⟨HF.out.kept, HF.out.box 0 _ _ _ rfl, HF.out.box 1 _ _ _ rfl, (HF.out.low 0 _ _ _ rfl).elim id (fun e => e.elim), (HF.out.low 1 _ _ _ rfl).elim id (fun e => e.elim)⟩
      ·skip
       clear hi
       refine step_run (i := 15) (o := { dst := some 8, op := Op.alloc 72, type := 0, pos := "phase.go:55", after := #[], guard := none }) rfl (by kernel_rfl) (exec_alloc 72 rfl (Rz.cells rzZ) Z90) (hH.alloc _) (fun hH => ?_)
       try simp only [pS]
       have HF : Hid (Fq No wk9 (wk10.alloc (.cells (Rz.cells rzZ) 72)) [(wk10.heap.size, 72, Rz.cells rzZ)]) := HF.out.alloc _ _
       generalize wk10.alloc (.cells (Rz.cells rzZ) 72) = wk69 at HF hH ⊢
       generalize wk10.heap.size = gk68 at HF ⊢
       refine any_pick (rs := [4, 14]) (by kernel_rfl) (by simp) ?_
       intro i hi
       rcases pick2 hi with rfl | rfl
       ·skip
        clear hi
        refine step_call (i := 4) (o := { dst := some 32, op := Op.call { callee := Callee.value (Operand.func 84), args := #[Operand.tmp 31], argTypes := #[141] }, type := 157, pos := "phase.go:55", after := #[{ on := 3, ground := Ground.data }], guard := none }) rfl (by kernel_rfl) 84 #[.pointer (some ⟨tb, 0, none⟩)] (by kernel_rfl) _ (HGr.out wk69 HF.out.kept) ?_
        rintro e wk70 ⟨rfl, hk⟩
        have hH2 : Kept No wk9 wk70 := hH.then hk
        have HF : Hid (Fq No wk9 (wk70) [(gk68, 72, Rz.cells rzZ)]) := HF.out.no hk
        clear hk
        refine ⟨.tuple #[bkV G, .bool AL], rfl, hH2, fun hH => ?_⟩
        clear hH2
        try simp only [pS]
        refine xV 5 33 (bkV G) hH <| xV 6 34 (.bool AL) hH <| ?_
        try simp only [pS]
        refine any_pick (rs := [9, 14]) (by kernel_rfl) (by simp) ?_
        intro i hi
        rcases pick2 hi with rfl | rfl
        ·skip
         clear hi
         refine step_call (i := 9) (o := { dst := some 37, op := Op.call { callee := Callee.invoke (Operand.tmp 36) "cairn/register.settle", args := #[Operand.tmp 33, Operand.tmp 34], argTypes := #[144, 4] }, type := 156, pos := "phase.go:55", after := #[{ on := 8, ground := Ground.data }, { on := 5, ground := Ground.data }, { on := 6, ground := Ground.data }, { on := 4, ground := Ground.chain }], guard := none }) rfl (by kernel_rfl) 96 #[.agg #[.int .i64 cl, .slice wa wl wk], bkV G, .bool AL] (by kernel_rfl) _ (HSe.out wk70) ?_
         rintro e wk71 ⟨rfl, hk⟩
         have hH2 : Kept No wk9 wk71 := hH.then hk
         have HF : Hid (Fq No wk9 (wk71) [(gk68, 72, Rz.cells rzZ)]) := HF.out.no hk
         clear hk
         refine ⟨.tuple #[.agg #[.int .i64 pn, .int .i64 pc, .slice pa pl pk], .agg (resC er sn sc da dl dc), .bool en], rfl, hH2, fun hH => ?_⟩
         clear hH2
         try simp only [pS]
         refine xV 10 27 (.tuple #[.agg #[.int .i64 pn, .int .i64 pc, .slice pa pl pk], .agg (resC er sn sc da dl dc), .bool en]) hH <| xV 11 38 (.agg (Bl.cells ⟨⟨pn, pc⟩, ⟨pa, pl, pk⟩⟩)) hH <| xV 12 39 (.agg (Rz.cells ⟨er, enZ, slZ, ⟨da, dl, dc⟩, 0, ⟨sn, sc⟩, 0⟩)) hH <| xV 13 40 (.bool en) hH <| ?_
         try simp only [pS]
         refine any_step (i := 14) (o := { dst := some 7, op := Op.alloc 144, type := 0, pos := "phase.go:55", after := #[], guard := none }) rfl (by kernel_rfl) (by kernel_rfl) (exec_alloc 144 rfl (Bl.cells blZ) Z57) (hH.alloc _) (fun hH => ?_)
         try simp only [pS]
         have HF : Hid (Fq No wk9 (wk71.alloc (.cells (Bl.cells blZ) 144)) [(gk68, 72, Rz.cells rzZ), (wk71.heap.size, 144, Bl.cells blZ)]) := HF.out.alloc _ _
         generalize wk71.alloc (.cells (Bl.cells blZ) 144) = wk73 at HF hH ⊢
         generalize wk71.heap.size = gk72 at HF ⊢
         refine xS 16 144 ⟨gk72, 0, none⟩ (.agg (Bl.cells ⟨⟨pn, pc⟩, ⟨pa, pl, pk⟩⟩)) (w' := wk73.setRow gk72 (Bl.cells ⟨⟨pn, pc⟩, ⟨pa, pl, pk⟩⟩)) (rs (Bl.cs blZ) (Bl.cs ⟨⟨pn, pc⟩, ⟨pa, pl, pk⟩⟩) (Bl.cs ⟨⟨pn, pc⟩, ⟨pa, pl, pk⟩⟩) (HF.out.box 1 _ _ _ rfl) S57 (Bl.oneL _)) (hH.newRow ((HF.out.low 1 _ _ _ rfl).elim id (fun e => e.elim)) _) (fun hH => ?_)
         try simp only [pS]
         have HF : Hid (Fq No wk9 (wk73.setRow gk72 (Bl.cells ⟨⟨pn, pc⟩, ⟨pa, pl, pk⟩⟩)) [(gk68, 72, Rz.cells rzZ), (gk72, 144, Bl.cells ⟨⟨pn, pc⟩, ⟨pa, pl, pk⟩⟩)]) := HF.out.set 1 rfl _
         generalize wk73.setRow gk72 (Bl.cells ⟨⟨pn, pc⟩, ⟨pa, pl, pk⟩⟩) = wk74 at HF hH ⊢
         refine xS 17 72 ⟨gk68, 0, none⟩ (.agg (Rz.cells ⟨er, enZ, slZ, ⟨da, dl, dc⟩, 0, ⟨sn, sc⟩, 0⟩)) (w' := wk74.setRow gk68 (Rz.cells ⟨er, enZ, slZ, ⟨da, dl, dc⟩, 0, ⟨sn, sc⟩, 0⟩)) (rs (Rz.cs rzZ) (Rz.cs ⟨er, enZ, slZ, ⟨da, dl, dc⟩, 0, ⟨sn, sc⟩, 0⟩) (Rz.cs ⟨er, enZ, slZ, ⟨da, dl, dc⟩, 0, ⟨sn, sc⟩, 0⟩) (HF.out.box 0 _ _ _ rfl) S90 (Rz.oneL _)) (hH.newRow ((HF.out.low 0 _ _ _ rfl).elim id (fun e => e.elim)) _) (fun hH => ?_)
         try simp only [pS]
         have HF : Hid (Fq No wk9 (wk74.setRow gk68 (Rz.cells ⟨er, enZ, slZ, ⟨da, dl, dc⟩, 0, ⟨sn, sc⟩, 0⟩)) [(gk68, 72, Rz.cells ⟨er, enZ, slZ, ⟨da, dl, dc⟩, 0, ⟨sn, sc⟩, 0⟩), (gk72, 144, Bl.cells ⟨⟨pn, pc⟩, ⟨pa, pl, pk⟩⟩)]) := HF.out.set 0 rfl _
         generalize wk74.setRow gk68 (Rz.cells ⟨er, enZ, slZ, ⟨da, dl, dc⟩, 0, ⟨sn, sc⟩, 0⟩) = wk75 at HF hH ⊢
         refine xV 18 9 (.bool en) hH ?_
         try simp only [pS]
         refine wpAnyH_done (by kernel_rfl) ?_ _
         try simp only [pS]
         clear hH
         exact hh _ _ _ ⟨HF.out.kept, HF.out.box 1 _ _ _ rfl, HF.out.box 0 _ _ _ rfl, (HF.out.low 1 _ _ _ rfl).elim id (fun e => e.elim), (HF.out.low 0 _ _ _ rfl).elim id (fun e => e.elim)⟩
        ·skip
         clear hi
         refine step_run (i := 14) (o := { dst := some 7, op := Op.alloc 144, type := 0, pos := "phase.go:55", after := #[], guard := none }) rfl (by kernel_rfl) (exec_alloc 144 rfl (Bl.cells blZ) Z57) (hH.alloc _) (fun hH => ?_)
         try simp only [pS]
         have HF : Hid (Fq No wk9 (wk70.alloc (.cells (Bl.cells blZ) 144)) [(gk68, 72, Rz.cells rzZ), (wk70.heap.size, 144, Bl.cells blZ)]) := HF.out.alloc _ _
         generalize wk70.alloc (.cells (Bl.cells blZ) 144) = wk77 at HF hH ⊢
         generalize wk70.heap.size = gk76 at HF ⊢
         refine xC 9 37 96 #[.agg #[.int .i64 cl, .slice wa wl wk], bkV G, .bool AL] (HSe.out wk77) ?_
         rintro e wk78 ⟨rfl, hk⟩
         have hH2 : Kept No wk9 wk78 := hH.then hk
         have HF : Hid (Fq No wk9 (wk78) [(gk68, 72, Rz.cells rzZ), (gk76, 144, Bl.cells blZ)]) := HF.out.no hk
         clear hk
         refine ⟨.tuple #[.agg #[.int .i64 pn, .int .i64 pc, .slice pa pl pk], .agg (resC er sn sc da dl dc), .bool en], rfl, hH2, fun hH => ?_⟩
         clear hH2
         try simp only [pS]
         refine xV 10 27 (.tuple #[.agg #[.int .i64 pn, .int .i64 pc, .slice pa pl pk], .agg (resC er sn sc da dl dc), .bool en]) hH <| xV 11 38 (.agg (Bl.cells ⟨⟨pn, pc⟩, ⟨pa, pl, pk⟩⟩)) hH <| xV 12 39 (.agg (Rz.cells ⟨er, enZ, slZ, ⟨da, dl, dc⟩, 0, ⟨sn, sc⟩, 0⟩)) hH <| xV 13 40 (.bool en) hH <| ?_
         try simp only [pS]
         refine xS 16 144 ⟨gk76, 0, none⟩ (.agg (Bl.cells ⟨⟨pn, pc⟩, ⟨pa, pl, pk⟩⟩)) (w' := wk78.setRow gk76 (Bl.cells ⟨⟨pn, pc⟩, ⟨pa, pl, pk⟩⟩)) (rs (Bl.cs blZ) (Bl.cs ⟨⟨pn, pc⟩, ⟨pa, pl, pk⟩⟩) (Bl.cs ⟨⟨pn, pc⟩, ⟨pa, pl, pk⟩⟩) (HF.out.box 1 _ _ _ rfl) S57 (Bl.oneL _)) (hH.newRow ((HF.out.low 1 _ _ _ rfl).elim id (fun e => e.elim)) _) (fun hH => ?_)
         try simp only [pS]
         have HF : Hid (Fq No wk9 (wk78.setRow gk76 (Bl.cells ⟨⟨pn, pc⟩, ⟨pa, pl, pk⟩⟩)) [(gk68, 72, Rz.cells rzZ), (gk76, 144, Bl.cells ⟨⟨pn, pc⟩, ⟨pa, pl, pk⟩⟩)]) := HF.out.set 1 rfl _
         generalize wk78.setRow gk76 (Bl.cells ⟨⟨pn, pc⟩, ⟨pa, pl, pk⟩⟩) = wk79 at HF hH ⊢
         refine xS 17 72 ⟨gk68, 0, none⟩ (.agg (Rz.cells ⟨er, enZ, slZ, ⟨da, dl, dc⟩, 0, ⟨sn, sc⟩, 0⟩)) (w' := wk79.setRow gk68 (Rz.cells ⟨er, enZ, slZ, ⟨da, dl, dc⟩, 0, ⟨sn, sc⟩, 0⟩)) (rs (Rz.cs rzZ) (Rz.cs ⟨er, enZ, slZ, ⟨da, dl, dc⟩, 0, ⟨sn, sc⟩, 0⟩) (Rz.cs ⟨er, enZ, slZ, ⟨da, dl, dc⟩, 0, ⟨sn, sc⟩, 0⟩) (HF.out.box 0 _ _ _ rfl) S90 (Rz.oneL _)) (hH.newRow ((HF.out.low 0 _ _ _ rfl).elim id (fun e => e.elim)) _) (fun hH => ?_)
         try simp only [pS]
         have HF : Hid (Fq No wk9 (wk79.setRow gk68 (Rz.cells ⟨er, enZ, slZ, ⟨da, dl, dc⟩, 0, ⟨sn, sc⟩, 0⟩)) [(gk68, 72, Rz.cells ⟨er, enZ, slZ, ⟨da, dl, dc⟩, 0, ⟨sn, sc⟩, 0⟩), (gk76, 144, Bl.cells ⟨⟨pn, pc⟩, ⟨pa, pl, pk⟩⟩)]) := HF.out.set 0 rfl _
         generalize wk79.setRow gk68 (Rz.cells ⟨er, enZ, slZ, ⟨da, dl, dc⟩, 0, ⟨sn, sc⟩, 0⟩) = wk80 at HF hH ⊢
         refine xV 18 9 (.bool en) hH ?_
         try simp only [pS]
         refine wpAnyH_done (by kernel_rfl) ?_ _
         try simp only [pS]
         clear hH
         exact hh _ _ _ ⟨HF.out.kept, HF.out.box 1 _ _ _ rfl, HF.out.box 0 _ _ _ rfl, (HF.out.low 1 _ _ _ rfl).elim id (fun e => e.elim), (HF.out.low 0 _ _ _ rfl).elim id (fun e => e.elim)⟩
       ·skip
        clear hi
        refine step_run (i := 14) (o := { dst := some 7, op := Op.alloc 144, type := 0, pos := "phase.go:55", after := #[], guard := none }) rfl (by kernel_rfl) (exec_alloc 144 rfl (Bl.cells blZ) Z57) (hH.alloc _) (fun hH => ?_)
        try simp only [pS]
        have HF : Hid (Fq No wk9 (wk69.alloc (.cells (Bl.cells blZ) 144)) [(gk68, 72, Rz.cells rzZ), (wk69.heap.size, 144, Bl.cells blZ)]) := HF.out.alloc _ _
        generalize wk69.alloc (.cells (Bl.cells blZ) 144) = wk82 at HF hH ⊢
        generalize wk69.heap.size = gk81 at HF ⊢
        refine xC 4 32 84 #[.pointer (some ⟨tb, 0, none⟩)] (HGr.out wk82 HF.out.kept) ?_
        rintro e wk83 ⟨rfl, hk⟩
        have hH2 : Kept No wk9 wk83 := hH.then hk
        have HF : Hid (Fq No wk9 (wk83) [(gk68, 72, Rz.cells rzZ), (gk81, 144, Bl.cells blZ)]) := HF.out.no hk
        clear hk
        refine ⟨.tuple #[bkV G, .bool AL], rfl, hH2, fun hH => ?_⟩
        clear hH2
        try simp only [pS]
        refine xV 5 33 (bkV G) hH <| xV 6 34 (.bool AL) hH <| ?_
        try simp only [pS]
        refine xC 9 37 96 #[.agg #[.int .i64 cl, .slice wa wl wk], bkV G, .bool AL] (HSe.out wk83) ?_
        rintro e wk84 ⟨rfl, hk⟩
        have hH2 : Kept No wk9 wk84 := hH.then hk
        have HF : Hid (Fq No wk9 (wk84) [(gk68, 72, Rz.cells rzZ), (gk81, 144, Bl.cells blZ)]) := HF.out.no hk
        clear hk
        refine ⟨.tuple #[.agg #[.int .i64 pn, .int .i64 pc, .slice pa pl pk], .agg (resC er sn sc da dl dc), .bool en], rfl, hH2, fun hH => ?_⟩
        clear hH2
        try simp only [pS]
        refine xV 10 27 (.tuple #[.agg #[.int .i64 pn, .int .i64 pc, .slice pa pl pk], .agg (resC er sn sc da dl dc), .bool en]) hH <| xV 11 38 (.agg (Bl.cells ⟨⟨pn, pc⟩, ⟨pa, pl, pk⟩⟩)) hH <| xV 12 39 (.agg (Rz.cells ⟨er, enZ, slZ, ⟨da, dl, dc⟩, 0, ⟨sn, sc⟩, 0⟩)) hH <| xV 13 40 (.bool en) hH <| ?_
        try simp only [pS]
        refine xS 16 144 ⟨gk81, 0, none⟩ (.agg (Bl.cells ⟨⟨pn, pc⟩, ⟨pa, pl, pk⟩⟩)) (w' := wk84.setRow gk81 (Bl.cells ⟨⟨pn, pc⟩, ⟨pa, pl, pk⟩⟩)) (rs (Bl.cs blZ) (Bl.cs ⟨⟨pn, pc⟩, ⟨pa, pl, pk⟩⟩) (Bl.cs ⟨⟨pn, pc⟩, ⟨pa, pl, pk⟩⟩) (HF.out.box 1 _ _ _ rfl) S57 (Bl.oneL _)) (hH.newRow ((HF.out.low 1 _ _ _ rfl).elim id (fun e => e.elim)) _) (fun hH => ?_)
        try simp only [pS]
        have HF : Hid (Fq No wk9 (wk84.setRow gk81 (Bl.cells ⟨⟨pn, pc⟩, ⟨pa, pl, pk⟩⟩)) [(gk68, 72, Rz.cells rzZ), (gk81, 144, Bl.cells ⟨⟨pn, pc⟩, ⟨pa, pl, pk⟩⟩)]) := HF.out.set 1 rfl _
        generalize wk84.setRow gk81 (Bl.cells ⟨⟨pn, pc⟩, ⟨pa, pl, pk⟩⟩) = wk85 at HF hH ⊢
        refine xS 17 72 ⟨gk68, 0, none⟩ (.agg (Rz.cells ⟨er, enZ, slZ, ⟨da, dl, dc⟩, 0, ⟨sn, sc⟩, 0⟩)) (w' := wk85.setRow gk68 (Rz.cells ⟨er, enZ, slZ, ⟨da, dl, dc⟩, 0, ⟨sn, sc⟩, 0⟩)) (rs (Rz.cs rzZ) (Rz.cs ⟨er, enZ, slZ, ⟨da, dl, dc⟩, 0, ⟨sn, sc⟩, 0⟩) (Rz.cs ⟨er, enZ, slZ, ⟨da, dl, dc⟩, 0, ⟨sn, sc⟩, 0⟩) (HF.out.box 0 _ _ _ rfl) S90 (Rz.oneL _)) (hH.newRow ((HF.out.low 0 _ _ _ rfl).elim id (fun e => e.elim)) _) (fun hH => ?_)
        try simp only [pS]
        have HF : Hid (Fq No wk9 (wk85.setRow gk68 (Rz.cells ⟨er, enZ, slZ, ⟨da, dl, dc⟩, 0, ⟨sn, sc⟩, 0⟩)) [(gk68, 72, Rz.cells ⟨er, enZ, slZ, ⟨da, dl, dc⟩, 0, ⟨sn, sc⟩, 0⟩), (gk81, 144, Bl.cells ⟨⟨pn, pc⟩, ⟨pa, pl, pk⟩⟩)]) := HF.out.set 0 rfl _
        generalize wk85.setRow gk68 (Rz.cells ⟨er, enZ, slZ, ⟨da, dl, dc⟩, 0, ⟨sn, sc⟩, 0⟩) = wk86 at HF hH ⊢
        refine xV 18 9 (.bool en) hH ?_
        try simp only [pS]
        refine wpAnyH_done (by kernel_rfl) ?_ _
        try simp only [pS]
        clear hH
        exact hh _ _ _ ⟨HF.out.kept, HF.out.box 1 _ _ _ rfl, HF.out.box 0 _ _ _ rfl, (HF.out.low 1 _ _ _ rfl).elim id (fun e => e.elim), (HF.out.low 0 _ _ _ rfl).elim id (fun e => e.elim)⟩
    case tail =>
      have HF2 : Hid (Fq No wk9 W [(A, 144, Bl.cells ⟨⟨pn, pc⟩, ⟨pa, pl, pk⟩⟩), (B, 72, Rz.cells ⟨er, enZ, slZ, ⟨da, dl, dc⟩, 0, ⟨sn, sc⟩, 0⟩)]) := ⟨hJ.1, fun i g' T cs hi => by
        match i, hi with
        | 0, hi => cases hi; exact hJ.2.1
        | 1, hi => cases hi; exact hJ.2.2.1, fun i g' T cs hi => by
        match i, hi with
        | 0, hi => cases hi; exact .inl hJ.2.2.2.1
        | 1, hi => cases hi; exact .inl hJ.2.2.2.2, fun i j g' T cs T' cs' hi hj => by
        match i, j, hi, hj with
        | 0, 0, _, _ => rfl
        | 1, 1, _, _ => rfl
        | 0, 1, hi, hj => cases hi; cases hj; exact absurd rfl (box_ne hJ.2.1 hJ.2.2.1 (by decide))
        | 1, 0, hi, hj => cases hi; cases hj; exact absurd rfl (box_ne hJ.2.1 hJ.2.2.1 (by decide))⟩
      clear hJ HF hH
      have HF := HF2
      clear HF2
      go_upto_region 4 with fail
      refine WL.start <| uK (.bool en) <| WL.nil <| ?_
      try simp only [pS]
      cases q3 : (en)
      ·skip
       try simp only [q3]
       have HZl := HZl.out q3
       have HBy := HBy.out q3
       have HZl : Hid ((pz b).length = pl ∧ pl ≤ 140737488355328) := HZl
       have HBy : Hid (Bytes wk9 pa (pz b) ∧ ¬ At pa m) := HBy
       go_upto_region 6 with fail
       refine WL.start <| uK (.pointer (some ⟨m, 0, none⟩)) <| uK (.pointer (some ⟨m, 0, none⟩)) <| uK (.pointer (some ⟨m, 8, none⟩)) <| uL 3 ⟨m, 8, none⟩ (.int .i64 x.rd) (load_one ((HMb.out.box.kept HF.out.kept (fun e => e)).cell 8 |>.trans (by kernel_rfl)) U3 rfl) <| ?_
       try simp only [pS]
       cases q4 : (x.rd == 1099511627776)
       ·skip
        refine uB .eql 3 (.int .i64 x.rd) (.int .i64 1099511627776) (.bool false) (by rw [b_eql, q4]; try rfl) <| WL.nil <| ?_
        try simp only [pS]
        go_upto_region 8 with fail
        refine WL.start <| uK (.pointer (some ⟨m, 0, none⟩)) <| uK (.pointer (some ⟨m, 0, none⟩)) <| uK (.pointer (some ⟨m, 8, none⟩)) <| uL 3 ⟨m, 8, none⟩ (.int .i64 x.rd) (load_one ((HMb.out.box.kept HF.out.kept (fun e => e)).cell 8 |>.trans (by kernel_rfl)) U3 rfl) <| uB .add 3 (.int .i64 x.rd) (.int .i64 1) (.int .i64 (x.rd + 1)) (b_addw _ _ _ (by rw [IntKind.wrap_i64]; have := of_beq_f q4; omega) _) <| uK (.pointer (some ⟨m, 0, none⟩)) <| uK (.pointer (some ⟨m, 8, none⟩)) <| ?_
        try simp only [pS]
        have HBm : Hid (Box W m 109 ([.bool true, .int .i64 x.cl, .int .i64 x.op, .int .i64 x.k0, .int .i64 x.k1, .int .i64 x.k2, .int .i64 x.k3, .slice a x.g.length cap, .int .i64 x.rd, .iface 146 (.agg #[.iface 87 (.agg #[.int .i64 cl, .slice wa wl wk]), .pointer (some ⟨tb, 0, none⟩)])] : List Value).toArray) := HMb.out.box.kept HF.out.kept (fun e => e)
        refine uT 3 ⟨m, 8, none⟩ (.int .i64 (x.rd + 1)) (W.setRow m ([.bool true, .int .i64 x.cl, .int .i64 x.op, .int .i64 x.k0, .int .i64 x.k1, .int .i64 x.k2, .int .i64 x.k3, .slice a x.g.length cap, .int .i64 (x.rd + 1), .iface 146 (.agg #[.iface 87 (.agg #[.int .i64 cl, .slice wa wl wk]), .pointer (some ⟨tb, 0, none⟩)])] : List Value).toArray) (rs ([.bool true, .int .i64 x.cl, .int .i64 x.op, .int .i64 x.k0, .int .i64 x.k1, .int .i64 x.k2, .int .i64 x.k3, .slice a x.g.length cap, .int .i64 x.rd, .iface 146 (.agg #[.iface 87 (.agg #[.int .i64 cl, .slice wa wl wk]), .pointer (some ⟨tb, 0, none⟩)])]) ([.int .i64 (x.rd + 1)]) ([.bool true, .int .i64 x.cl, .int .i64 x.op, .int .i64 x.k0, .int .i64 x.k1, .int .i64 x.k2, .int .i64 x.k3, .slice a x.g.length cap, .int .i64 (x.rd + 1), .iface 146 (.agg #[.iface 87 (.agg #[.int .i64 cl, .slice wa wl wk]), .pointer (some ⟨tb, 0, none⟩)])]) HBm.out S3 (by simp [Value.oneCell'])) ?_
        try simp only [pS]
        have hPm : A ≠ m := box_ne (HF.out.box 0 _ _ _ rfl) HBm.out (by decide)
        have hRm : B ≠ m := box_ne (HF.out.box 1 _ _ _ rfl) HBm.out (by decide)
        have HMk : Hid (Mach (W.setRow m ([.bool true, .int .i64 x.cl, .int .i64 x.op, .int .i64 x.k0, .int .i64 x.k1, .int .i64 x.k2, .int .i64 x.k3, .slice a x.g.length cap, .int .i64 (x.rd + 1), .iface 146 (.agg #[.iface 87 (.agg #[.int .i64 cl, .slice wa wl wk]), .pointer (some ⟨tb, 0, none⟩)])] : List Value).toArray) m a cap { x with rd := x.rd + 1 } 146 (.agg #[.iface 87 (.agg #[.int .i64 cl, .slice wa wl wk]), .pointer (some ⟨tb, 0, none⟩)])) := ⟨HBm.out.setRow _, (HMb.out.no HF.out.kept).row.kept (Kept.setRow _ _ _) (fun k e f => (HMb.out.no HF.out.kept).off e f), HMb.out.nd, HMb.out.len⟩
        have HF2 : Hid (Fq (Only m) wk9 (W.setRow m ([.bool true, .int .i64 x.cl, .int .i64 x.op, .int .i64 x.k0, .int .i64 x.k1, .int .i64 x.k2, .int .i64 x.k3, .slice a x.g.length cap, .int .i64 (x.rd + 1), .iface 146 (.agg #[.iface 87 (.agg #[.int .i64 cl, .slice wa wl wk]), .pointer (some ⟨tb, 0, none⟩)])] : List Value).toArray) [(A, 144, Bl.cells ⟨⟨pn, pc⟩, ⟨pa, pl, pk⟩⟩), (B, 72, Rz.cells ⟨er, enZ, slZ, ⟨da, dl, dc⟩, 0, ⟨sn, sc⟩, 0⟩)]) := ⟨HF.out.kept.of_no.trans (Kept.setRow _ _ _) (fun _ e => e) (fun _ _ e => e), fun i g' T cs hi => (HF.out.box i g' T cs hi).rowNe (by
          match i, hi with
          | 0, hi => cases hi; exact hPm
          | 1, hi => cases hi; exact hRm) _, fun i g' T cs hi => .inl ((HF.out.low i g' T cs hi).elim id (fun e => e.elim)), HF.out.inj⟩
        clear HBm HF
        have HF := HF2
        clear HF2
        generalize (W.setRow m ([.bool true, .int .i64 x.cl, .int .i64 x.op, .int .i64 x.k0, .int .i64 x.k1, .int .i64 x.k2, .int .i64 x.k3, .slice a x.g.length cap, .int .i64 (x.rd + 1), .iface 146 (.agg #[.iface 87 (.agg #[.int .i64 cl, .slice wa wl wk]), .pointer (some ⟨tb, 0, none⟩)])] : List Value).toArray) = wk87 at HF HMk ⊢
        refine WL.nil ?_
        try simp only [pS]
        go_upto_region 9 with fail
        refine wp_region_held_drew (S := fun w' => Box w' A 144 (Bl.cells ⟨⟨pn, pc⟩, ⟨pa, pl, pk⟩⟩) ∧ Box w' B 72 (Rz.cells ⟨er, enZ, slZ, ⟨da, dl, dc⟩, 0, ⟨sn, sc⟩, 0⟩) ∧ w'.cell? ⟨m, 7, none⟩ = some (.slice a x.g.length cap)) rfl ⟨(HF.out.drew.box 0 _ _ _ rfl), (HF.out.drew.box 1 _ _ _ rfl), (HMk.out.no (Kept.refl No _).drew).box.cell 7⟩ (fun hH => ?_)
        have HMk : Hid (Mach wk87.drew m a cap { x with rd := x.rd + 1 } 146 (.agg #[.iface 87 (.agg #[.int .i64 cl, .slice wa wl wk]), .pointer (some ⟨tb, 0, none⟩)])) := HMk.out.no (Kept.refl No _).drew
        have HF : Hid (Fq (Only m) wk9 (wk87.drew) [(A, 144, Bl.cells ⟨⟨pn, pc⟩, ⟨pa, pl, pk⟩⟩), (B, 72, Rz.cells ⟨er, enZ, slZ, ⟨da, dl, dc⟩, 0, ⟨sn, sc⟩, 0⟩)]) := HF.out.drew
        generalize wk87.drew = wk88 at HF HMk hH ⊢
        refine xV 0 63 (.pointer (some ⟨m, 0, none⟩)) hH <| xL 1 64 144 ⟨A, 0, none⟩ (.agg (Bl.cells ⟨⟨pn, pc⟩, ⟨pa, pl, pk⟩⟩)) (fun _ hw => run_load_part (cs := Bl.cs ⟨⟨pn, pc⟩, ⟨pa, pl, pk⟩⟩) (sub := Bl.cs ⟨⟨pn, pc⟩, ⟨pa, pl, pk⟩⟩) (hw.1) (Part.all _) U57 rfl S57) hH <| xL 2 65 72 ⟨B, 0, none⟩ (.agg (Rz.cells ⟨er, enZ, slZ, ⟨da, dl, dc⟩, 0, ⟨sn, sc⟩, 0⟩)) (fun _ hw => run_load_part (cs := Rz.cs ⟨er, enZ, slZ, ⟨da, dl, dc⟩, 0, ⟨sn, sc⟩, 0⟩) (sub := Rz.cs ⟨er, enZ, slZ, ⟨da, dl, dc⟩, 0, ⟨sn, sc⟩, 0⟩) (hw.2.1) (Part.all _) U90 rfl S90) hH <| xV 3 66 (.pointer (some ⟨m, 0, none⟩)) hH <| xV 4 67 (.pointer (some ⟨m, 0, none⟩)) hH <| xV 5 68 (.pointer (some ⟨m, 7, none⟩)) hH <| ?_
        try simp only [pS]
        refine xL 6 69 24 ⟨m, 7, none⟩ (.slice a x.g.length cap) (fun _ hw => load_one (hw.2.2) U24 rfl) hH <| xV 7 70 (.pointer (some ⟨m, 0, none⟩)) hH <| ?_
        try simp only [pS]
        refine xC 8 71 75 #[.pointer (some ⟨m, 0, none⟩)] (need_any m a cap { x with rd := x.rd + 1 } 146 (.agg #[.iface 87 (.agg #[.int .i64 cl, .slice wa wl wk]), .pointer (some ⟨tb, 0, none⟩)]) wk88 HMk.out) ?_
        rintro e wq ⟨rfl, hwq⟩
        rw [hwq]
        clear hwq wq
        refine ⟨.int .i64 (needI x), rfl, hH, fun hH => ?_⟩
        try simp only [pS]
        refine xC 9 72 39 #[.slice a x.g.length cap, .int .i64 (needI x)] (new_anyU a x.g.length cap x.g (needI x) wk88 rfl (by omega) (HMk.out.row.nums rfl)) ?_
        rintro e wk89 ⟨ua, ut, rfl, hU, hUa, hk⟩
        have hH2 : Box wk89 A 144 (Bl.cells ⟨⟨pn, pc⟩, ⟨pa, pl, pk⟩⟩) ∧ Box wk89 B 72 (Rz.cells ⟨er, enZ, slZ, ⟨da, dl, dc⟩, 0, ⟨sn, sc⟩, 0⟩) ∧ wk89.cell? ⟨m, 7, none⟩ = some (.slice a x.g.length cap) := ⟨hH.1.kept hk (fun e => e), hH.2.1.kept hk (fun e => e), hk.cell hH.2.2 (fun e => e)⟩
        have HUl : Hid (∀ k, TB (wk88.heap.size + 1) wk88.heap.size ua k → ¬ Only m k) := fun k e f => by
          have h1 : m < wk88.heap.size := HMk.out.box.lt
          have f : k = m := f
          rcases e with e | e | e
          · omega
          · omega
          · have := hUa k e; omega
        have HUg : Hid (∀ k, TB (wk88.heap.size + 1) wk88.heap.size ua k → wk9.heap.size ≤ k) := fun k e => by
          have h1 : wk9.heap.size ≤ wk88.heap.size := HF.out.kept.size
          rcases e with e | e | e
          · omega
          · omega
          · have := hUa k e; omega
        have HU : Hid (Tal 113 ansU wk89 (wk88.heap.size + 1) wk88.heap.size ua ut (tNew Unit x.g (needI x))) := hU
        have HMk : Hid (Mach wk89 m a cap { x with rd := x.rd + 1 } 146 (.agg #[.iface 87 (.agg #[.int .i64 cl, .slice wa wl wk]), .pointer (some ⟨tb, 0, none⟩)])) := HMk.out.no hk
        have HF : Hid (Fq (Only m) wk9 (wk89) [(A, 144, Bl.cells ⟨⟨pn, pc⟩, ⟨pa, pl, pk⟩⟩), (B, 72, Rz.cells ⟨er, enZ, slZ, ⟨da, dl, dc⟩, 0, ⟨sn, sc⟩, 0⟩)]) := HF.out.no hk
        clear hU hUa hk
        generalize wk88.heap.size + 1 = ub at HU HUl HUg ⊢
        generalize wk88.heap.size = ubb at HU HUl HUg
        refine ⟨.pointer (some ⟨ub, 0, none⟩), rfl, hH2, fun hH => ?_⟩
        clear hH2
        try simp only [pS]
        refine xU 10 73 (.agg (laC pn pc pa pl pk er sn sc da dl dc ub)) (fun w' hw => exec_build 160 _ rfl (laC pn pc pa pl pk er sn sc da dl dc ub) (by kernel_rfl)) hH <| xV 11 74 (.iface 160 (.agg (laC pn pc pa pl pk er sn sc da dl dc ub))) hH <| ?_
        try simp only [pS]
        refine xC 12 75 72 #[.pointer (some ⟨m, 0, none⟩), .iface 160 (.agg (laC pn pc pa pl pk er sn sc da dl dc ub))] (enterL_any m a cap { x with rd := x.rd + 1 } 146 (.agg #[.iface 87 (.agg #[.int .i64 cl, .slice wa wl wk]), .pointer (some ⟨tb, 0, none⟩)]) pn pc pa pl pk er sn sc da dl dc ub ubb ut ua (tNew Unit x.g (needI x)) (pz b) wk89 HMk.out HU.out (by rw [show (tNew Unit x.g (needI x)).g = uq x.g from rfl]; have := uq_len x.g; omega) HZl.out.1 HZl.out.2 (Nums.kept HBy.out.1 HF.out.kept (fun b' off e f => HBy.out.2 ⟨_, e, f⟩)) (fun e => HUl.out _ e rfl) HBy.out.2) ?_
        rintro e wk90 ⟨la, lc, qs, rfl, hq, hMs, hM2, hk⟩
        have HMf : Hid (Mach wk90 m a cap { x with rd := x.rd + 1 } 160 (layV pn pc pa pl pk er sn sc da dl dc ub)) := hM2
        have hH2 : Box wk90 A 144 (Bl.cells ⟨⟨pn, pc⟩, ⟨pa, pl, pk⟩⟩) ∧ Box wk90 B 72 (Rz.cells ⟨er, enZ, slZ, ⟨da, dl, dc⟩, 0, ⟨sn, sc⟩, 0⟩) ∧ wk90.cell? ⟨m, 7, none⟩ = some (.slice a x.g.length cap) := ⟨(HF.out.box 0 _ _ _ rfl).kept hk (fun e => hPm e), (HF.out.box 1 _ _ _ rfl).kept hk (fun e => hRm e), HMf.out.box.cell 7⟩
        have HKf : Hid (Kept (Only m) wk9 wk90) := HF.out.kept.trans hk (fun _ e => e) (fun _ _ e => e)
        have HMs : Hid (Msgs wk90 wk9.heap.size la lc { x with rd := x.rd + 1 } ⟨2, pn, pc, pl⟩ (pz b) qs) := ⟨Own.lower hMs.row HF.out.kept.size, fun q hq => Own.lower (hMs.own q hq) HF.out.kept.size, hMs.ord, hMs.len⟩
        have HQ : Hid (qs.map Qm.sv = x.g) := by show qs.map Qm.sv = x.g; rw [hq]; simp [missL, tNew, uq_nd HMb.out.nd]
        have HUf : Hid (Tal 113 ansU wk90 ub ubb ua ut (tNew Unit x.g (needI x))) := HU.out.kept hk (fun k e f => HUl.out k e f)
        clear hk hM2 hMs hq
        refine ⟨.slice la qs.length lc, rfl, hH2, fun hH => ?_⟩
        clear hH2
        try simp only [pS]
        refine xV 13 6 (.slice la qs.length lc) hH ?_
        try simp only [pS]
        refine wpAnyH_done (by kernel_rfl) ?_ _
        try simp only [pS]
        clear hH
        go_wp2
        rw [HC.out]
        have hsz := HKt.out.size
        have HKa : Hid (Kept (fun k => k = m ∨ Tb2 tb bb k) w wk90) := (HKt.out.mono (fun _ _ e => .inr e)).trans HKf.out (fun _ e => e) (fun _ _ e => .inl e)
        have HOf : Hid (OwnB wk90 w.heap.size ka kk kz) := Own.kept HO.out HKf.out (fun k e f => by have := Own.base HO.out e; have f : k = m := f; omega)
        have HTf : Hid (Tal 149 ansB wk90 tb bb at' ct (takeS Y d.fr.id b)) := HTb.out.kept HKf.out (fun k e f => by
          have f : k = m := f
          subst f
          rcases e with e | e | e
          · exact HD.out k (.inl rfl) (.inl e)
          · exact HD.out k (.inl rfl) (.inr e)
          · exact Own.notBox HTb.out.row HMb.out.box (by decide) e)
        refine .inr ⟨q1, ka, kk, b, HBb.out, HOf.out, HKa.out, HTf.out, .inr (.inr (.inr ⟨q2, by rw [← HQq.out]; exact q3, of_beq_f q4, ub, ubb, ut, ua, la, lc, qs, rfl, HQ.out, by rw [← HQq.out]; exact ⟨Own.lower HMs.out.row hsz, fun q hq => Own.lower (HMs.out.own q hq) hsz, HMs.out.ord, HMs.out.len⟩, by rw [← HQq.out]; exact HMf.out, HUf.out, fun k e => Nat.le_trans hsz (HUg.out k e)⟩))⟩
       ·skip
        refine uB .eql 3 (.int .i64 x.rd) (.int .i64 1099511627776) (.bool true) (by rw [b_eql, q4]; try rfl) <| WL.nil <| ?_
        try simp only [pS]
        go_upto_region 7 with fail
        refine WL.start <| uK (.pointer (some ⟨m, 0, none⟩)) <| ?_
        try simp only [pS]
        refine uC 73 #[] (worn97 W) ?_
        rintro e wk91 ⟨rfl, hk⟩
        have HF : Hid (Fq No wk9 (wk91) [(A, 144, Bl.cells ⟨⟨pn, pc⟩, ⟨pa, pl, pk⟩⟩), (B, 72, Rz.cells ⟨er, enZ, slZ, ⟨da, dl, dc⟩, 0, ⟨sn, sc⟩, 0⟩)]) := HF.out.no hk
        clear hk
        refine ⟨.agg (Rz.cells { rzZ with er := 4 }), rfl, ?_⟩
        try simp only [pS]
        refine uK (.iface 139 (.agg (Rz.cells { rzZ with er := 4 }))) ?_
        try simp only [pS]
        have HKn : Hid (Kept No wk9 wk91) := HF.out.kept
        refine uC 72 #[.pointer (some ⟨m, 0, none⟩), .iface 139 (.agg (Rz.cells { rzZ with er := 4 }))] (enterE_any m a cap x 146 (.agg #[.iface 87 (.agg #[.int .i64 cl, .slice wa wl wk]), .pointer (some ⟨tb, 0, none⟩)]) 4 0 0 none 0 0 wk91 (HMb.out.no HKn.out)) ?_
        rintro e wk92 ⟨rfl, hM2, hk⟩
        have HMf : Hid (Mach wk92 m a cap x 139 (endV 4 0 0 none 0 0)) := hM2
        have HKf : Hid (Kept (Only m) wk9 wk92) := (HKn.out.of_no : Kept (Only m) _ _).then hk
        clear hk hM2
        refine ⟨.slice none 0 0, rfl, ?_⟩
        try simp only [pS]
        refine uK (.slice none 0 0) <| WL.nil <| ?_
        try simp only [pS]
        go_wp2
        rw [HC.out]
        have hsz := HKt.out.size
        have HKa : Hid (Kept (fun k => k = m ∨ Tb2 tb bb k) w wk92) := (HKt.out.mono (fun _ _ e => .inr e)).trans HKf.out (fun _ e => e) (fun _ _ e => .inl e)
        have HOf : Hid (OwnB wk92 w.heap.size ka kk kz) := Own.kept HO.out HKf.out (fun k e f => by have := Own.base HO.out e; have f : k = m := f; omega)
        have HTf : Hid (Tal 149 ansB wk92 tb bb at' ct (takeS Y d.fr.id b)) := HTb.out.kept HKf.out (fun k e f => by
          have f : k = m := f
          subst f
          rcases e with e | e | e
          · exact HD.out k (.inl rfl) (.inl e)
          · exact HD.out k (.inl rfl) (.inr e)
          · exact Own.notBox HTb.out.row HMb.out.box (by decide) e)
        refine .inr ⟨q1, ka, kk, b, HBb.out, HOf.out, HKa.out, HTf.out, .inr (.inr (.inl ⟨q2, by rw [← HQq.out]; exact q3, beq_iff_eq.1 q4, rfl, HMf.out⟩))⟩
      ·skip
       try simp only [q3]
       go_upto_region 5 with fail
       refine WL.start <| uK (.pointer (some ⟨m, 0, none⟩)) <| uL 72 ⟨B, 0, none⟩ (.agg (Rz.cells ⟨er, enZ, slZ, ⟨da, dl, dc⟩, 0, ⟨sn, sc⟩, 0⟩)) (run_load_part (cs := Rz.cs ⟨er, enZ, slZ, ⟨da, dl, dc⟩, 0, ⟨sn, sc⟩, 0⟩) (sub := Rz.cs ⟨er, enZ, slZ, ⟨da, dl, dc⟩, 0, ⟨sn, sc⟩, 0⟩) (HF.out.box 1 _ _ _ rfl) (Part.all _) U90 rfl S90) <| uW (.agg (Rz.cells ⟨er, enZ, slZ, ⟨da, dl, dc⟩, 0, ⟨sn, sc⟩, 0⟩)) (exec_build 139 _ rfl (Rz.cells ⟨er, enZ, slZ, ⟨da, dl, dc⟩, 0, ⟨sn, sc⟩, 0⟩) (by kernel_rfl)) <| uK (.iface 139 (.agg (Rz.cells ⟨er, enZ, slZ, ⟨da, dl, dc⟩, 0, ⟨sn, sc⟩, 0⟩))) <| ?_
       try simp only [pS]
       have HKn : Hid (Kept No wk9 W) := HF.out.kept
       refine uC 72 #[.pointer (some ⟨m, 0, none⟩), .iface 139 (.agg (Rz.cells ⟨er, enZ, slZ, ⟨da, dl, dc⟩, 0, ⟨sn, sc⟩, 0⟩))] (enterE_any m a cap x 146 (.agg #[.iface 87 (.agg #[.int .i64 cl, .slice wa wl wk]), .pointer (some ⟨tb, 0, none⟩)]) er sn sc da dl dc W (HMb.out.no HKn.out)) ?_
       rintro e wk93 ⟨rfl, hM2, hk⟩
       have HMf : Hid (Mach wk93 m a cap x 139 (endV er sn sc da dl dc)) := hM2
       have HKf : Hid (Kept (Only m) wk9 wk93) := (HKn.out.of_no : Kept (Only m) _ _).then hk
       clear hk hM2
       refine ⟨.slice none 0 0, rfl, ?_⟩
       try simp only [pS]
       refine uK (.slice none 0 0) <| WL.nil <| ?_
       try simp only [pS]
       go_wp2
       rw [HC.out]
       have hsz := HKt.out.size
       have HKa : Hid (Kept (fun k => k = m ∨ Tb2 tb bb k) w wk93) := (HKt.out.mono (fun _ _ e => .inr e)).trans HKf.out (fun _ e => e) (fun _ _ e => .inl e)
       have HOf : Hid (OwnB wk93 w.heap.size ka kk kz) := Own.kept HO.out HKf.out (fun k e f => by have := Own.base HO.out e; have f : k = m := f; omega)
       have HTf : Hid (Tal 149 ansB wk93 tb bb at' ct (takeS Y d.fr.id b)) := HTb.out.kept HKf.out (fun k e f => by
         have f : k = m := f
         subst f
         rcases e with e | e | e
         · exact HD.out k (.inl rfl) (.inl e)
         · exact HD.out k (.inl rfl) (.inr e)
         · exact Own.notBox HTb.out.row HMb.out.box (by decide) e)
       refine .inr ⟨q1, ka, kk, b, HBb.out, HOf.out, HKa.out, HTf.out, .inr (.inl ⟨q2, by rw [← HQq.out]; exact q3, rfl, by rw [← HQq.out]; exact HMf.out⟩)⟩
set_option maxRecDepth 100000 in
set_option maxHeartbeats 4000000 in
theorem takeA_R (m : Nat) (a : Option Addr) (cap : Nat) (x : MS) (sz : Int) (tb bb ct : Nat) (at' : Option Addr) (Y : TS Bq) (d : Mg) (kn kc : Int) (kz : List Int) (R : Bq → Sq) (pz : Bq → List Int) (w : World) (hM : Mach w m a cap x 146 (.agg #[.iface 89 (.agg #[.int .i64 sz]), .pointer (some ⟨tb, 0, none⟩)])) (hT : Tal 149 ansB w tb bb at' ct Y) (hgl : x.g.length ≤ 1000) (hyl : Y.g.length ≤ 1000) (hr0 : 0 ≤ x.rd) (hr1 : x.rd ≤ 1099511627776)
    (hkp : hitB x 11 (mdOf d) = true → ∀ wr, Kept No w wr → Calls Try.prog 64 #[.agg #[.int .i64 sz], .agg (Mg.cells d)] wr (KeepOut wr kn kc kz))
    (hset : ∀ b : Bq, b.n = kn → b.c = kc → ∀ wr, Calls Try.prog 97 #[.agg #[.int .i64 sz], bkV (bestP ((gotL (takeS Y d.fr.id b)).map Prod.snd)), .bool (!((gotL (takeS Y d.fr.id b)).map Prod.snd).any (otherB (bestP ((gotL (takeS Y d.fr.id b)).map Prod.snd))))] wr (SettleOut wr (R b).pn (R b).pc (R b).pa (R b).pl (R b).pk (R b).er (R b).sn (R b).sc (R b).da (R b).dl (R b).dc (R b).en))
    (hpz : ∀ ka kk, takeB Y d.fr.id = true → (R ⟨kn, kc, ka, kz.length, kk⟩).en = false → (pz ⟨kn, kc, ka, kz.length, kk⟩).length = (R ⟨kn, kc, ka, kz.length, kk⟩).pl ∧ (R ⟨kn, kc, ka, kz.length, kk⟩).pl ≤ 140737488355328)
    (hpb : ∀ ka kk wr, Kept (Tb2 tb bb) w wr → OwnB wr w.heap.size ka kk kz → takeB Y d.fr.id = true → (R ⟨kn, kc, ka, kz.length, kk⟩).en = false → Bytes wr (R ⟨kn, kc, ka, kz.length, kk⟩).pa (pz ⟨kn, kc, ka, kz.length, kk⟩) ∧ ¬ At (R ⟨kn, kc, ka, kz.length, kk⟩).pa m)
    (hd : ∀ k, MB m a k → ¬ Tb2 tb bb k) : Calls Try.prog 81 #[.agg #[.iface 89 (.agg #[.int .i64 sz]), .pointer (some ⟨tb, 0, none⟩)], .pointer (some ⟨m, 0, none⟩), .agg (Mg.cells d)] w (TakAO w m a cap x (.agg #[.iface 89 (.agg #[.int .i64 sz]), .pointer (some ⟨tb, 0, none⟩)]) tb bb ct at' Y d kn kc kz R pz) := by
  obtain ⟨C, hC⟩ : ∃ C : Ending → World → Prop, C = (TakAO w m a cap x (.agg #[.iface 89 (.agg #[.int .i64 sz]), .pointer (some ⟨tb, 0, none⟩)]) tb bb ct at' Y d kn kc kz R pz) := ⟨_, rfl⟩
  have HC : Hid (C = (TakAO w m a cap x (.agg #[.iface 89 (.agg #[.int .i64 sz]), .pointer (some ⟨tb, 0, none⟩)]) tb bb ct at' Y d kn kc kz R pz)) := hC
  rw [← hC]
  clear hC
  have HM : Hid (Mach w m a cap x 146 (.agg #[.iface 89 (.agg #[.int .i64 sz]), .pointer (some ⟨tb, 0, none⟩)])) := hM
  have HT : Hid (Tal 149 ansB w tb bb at' ct Y) := hT
  have HKp : Hid (hitB x 11 (mdOf d) = true → ∀ wr, Kept No w wr → Calls Try.prog 64 #[.agg #[.int .i64 sz], .agg (Mg.cells d)] wr (KeepOut wr kn kc kz)) := hkp
  have HSt : Hid (∀ b : Bq, b.n = kn → b.c = kc → ∀ wr, Calls Try.prog 97 #[.agg #[.int .i64 sz], bkV (bestP ((gotL (takeS Y d.fr.id b)).map Prod.snd)), .bool (!((gotL (takeS Y d.fr.id b)).map Prod.snd).any (otherB (bestP ((gotL (takeS Y d.fr.id b)).map Prod.snd))))] wr (SettleOut wr (R b).pn (R b).pc (R b).pa (R b).pl (R b).pk (R b).er (R b).sn (R b).sc (R b).da (R b).dl (R b).dc (R b).en)) := hset
  have HPz : Hid (∀ ka kk, takeB Y d.fr.id = true → (R ⟨kn, kc, ka, kz.length, kk⟩).en = false → (pz ⟨kn, kc, ka, kz.length, kk⟩).length = (R ⟨kn, kc, ka, kz.length, kk⟩).pl ∧ (R ⟨kn, kc, ka, kz.length, kk⟩).pl ≤ 140737488355328) := hpz
  have HPb : Hid (∀ ka kk wr, Kept (Tb2 tb bb) w wr → OwnB wr w.heap.size ka kk kz → takeB Y d.fr.id = true → (R ⟨kn, kc, ka, kz.length, kk⟩).en = false → Bytes wr (R ⟨kn, kc, ka, kz.length, kk⟩).pa (pz ⟨kn, kc, ka, kz.length, kk⟩) ∧ ¬ At (R ⟨kn, kc, ka, kz.length, kk⟩).pa m) := hpb
  have HD : Hid (∀ k, MB m a k → ¬ Tb2 tb bb k) := hd
  have HTl : Hid (∀ k, Tb2 tb bb k → k < w.heap.size) := fun k e => hT.lt (by rcases e with rfl | rfl; exact .inl rfl; exact .inr (.inl rfl))
  have hml := hM.box.lt
  clear hM hT hkp hset hpz hpb hd
  have HF : Hid (Fq No w w []) := Fq.start _ _
  go_enter Try.func81, Try.ntmps81
  go_upto_region 0 with fail
  refine WL.start ?_
  refine uR (.pointer (some ⟨w.heap.size, 0, none⟩)) (w.alloc (.cells (#[.iface 89 (.agg #[.int .i64 sz]), .pointer (some ⟨tb, 0, none⟩)]) 146)) (exec_box 146 _ rfl (#[.iface 89 (.agg #[.int .i64 sz]), .pointer (some ⟨tb, 0, none⟩)]) (by kernel_rfl)) ?_
  try simp only [pS]
  have HF : Hid (Fq No w (w.alloc (.cells (#[.iface 89 (.agg #[.int .i64 sz]), .pointer (some ⟨tb, 0, none⟩)]) 146)) [(w.heap.size, 146, #[.iface 89 (.agg #[.int .i64 sz]), .pointer (some ⟨tb, 0, none⟩)])]) := HF.out.alloc _ _
  generalize w.alloc (.cells (#[.iface 89 (.agg #[.int .i64 sz]), .pointer (some ⟨tb, 0, none⟩)]) 146) = wk2 at HF ⊢
  generalize w.heap.size = gk1 at HF ⊢
  refine uR (.pointer (some ⟨wk2.heap.size, 0, none⟩)) (wk2.alloc (.cells (Mg.cells d) 52)) (exec_box 52 _ rfl (Mg.cells d) (by kernel_rfl)) ?_
  try simp only [pS]
  have HF : Hid (Fq No w (wk2.alloc (.cells (Mg.cells d) 52)) [(gk1, 146, #[.iface 89 (.agg #[.int .i64 sz]), .pointer (some ⟨tb, 0, none⟩)]), (wk2.heap.size, 52, Mg.cells d)]) := HF.out.alloc _ _
  generalize wk2.alloc (.cells (Mg.cells d) 52) = wk4 at HF ⊢
  generalize wk2.heap.size = gk3 at HF ⊢
  refine uK (.slice none 0 0) <| WL.nil <| ?_
  try simp only [pS]
  go_upto_region 1 with fail
  refine wp_region_held_drew (S := fun w' => Box w' gk1 146 (#[.iface 89 (.agg #[.int .i64 sz]), .pointer (some ⟨tb, 0, none⟩)]) ∧ Box w' gk3 52 (Mg.cells d)) rfl ⟨HF.out.box 0 _ _ _ rfl, HF.out.box 1 _ _ _ rfl⟩ (fun hH => ?_)
  have HF : Hid (Fq No w (wk4.drew) [(gk1, 146, #[.iface 89 (.agg #[.int .i64 sz]), .pointer (some ⟨tb, 0, none⟩)]), (gk3, 52, Mg.cells d)]) := HF.out.drew
  generalize wk4.drew = wk5 at HF hH ⊢
  refine xV 0 10 (.pointer (some ⟨m, 0, none⟩)) hH <| xL 1 11 52 ⟨gk3, 0, none⟩ (.agg (Mg.cells d)) (fun _ hw => run_load_part (cs := Mg.cs d) (sub := Mg.cs d) (hw.2) (Part.all _) U52 rfl S52) hH <| ?_
  try simp only [pS]
  cases q1 : (hitB x 11 (mdOf d))
  ·skip
   refine xC 2 12 83 #[.pointer (some ⟨m, 0, none⟩), .agg (Mg.cells d), .int .i64 11] (answered_any m a cap x 146 (.agg #[.iface 89 (.agg #[.int .i64 sz]), .pointer (some ⟨tb, 0, none⟩)]) (mdOf d) 11 wk5 (HM.out.no HF.out.kept)) ?_
   rintro e wk6 ⟨rfl, hk⟩
   have hH2 : Box wk6 gk1 146 (#[.iface 89 (.agg #[.int .i64 sz]), .pointer (some ⟨tb, 0, none⟩)]) ∧ Box wk6 gk3 52 (Mg.cells d) := ⟨hH.1.kept hk (fun e => e), hH.2.kept hk (fun e => e)⟩
   have HF : Hid (Fq No w (wk6) [(gk1, 146, #[.iface 89 (.agg #[.int .i64 sz]), .pointer (some ⟨tb, 0, none⟩)]), (gk3, 52, Mg.cells d)]) := HF.out.no hk
   clear hk
   refine ⟨.bool false, by rw [q1], hH2, fun hH => ?_⟩
   clear hH2
   try simp only [pS]
   refine xV 3 13 (.bool true) hH <| xV 4 14 (.bool true) hH <| xZ 5 15 hH <| xZ 6 16 hH <| xZ 7 17 hH <| xZ 8 18 hH <| ?_
   try simp only [pS]
   refine xZ 9 19 hH <| xZ 10 20 hH <| xZ 11 21 hH <| xZ 12 22 hH <| xZ 13 23 hH <| xZ 14 24 hH <| ?_
   try simp only [pS]
   refine xZ 15 25 hH <| xV 16 26 (.bool true) hH <| ?_
   try simp only [pS]
   refine wpAnyH_done (by kernel_rfl) ?_ _
   try simp only [pS]
   clear hH
   go_upto_region 2 with fail
   refine WL.start <| uK (.slice none 0 0) <| WL.nil <| ?_
   try simp only [pS]
   go_wp2
   rw [HC.out]
   exact .inl ⟨q1, rfl, HF.out.kept⟩
  ·skip
   refine xC 2 12 83 #[.pointer (some ⟨m, 0, none⟩), .agg (Mg.cells d), .int .i64 11] (answered_any m a cap x 146 (.agg #[.iface 89 (.agg #[.int .i64 sz]), .pointer (some ⟨tb, 0, none⟩)]) (mdOf d) 11 wk5 (HM.out.no HF.out.kept)) ?_
   rintro e wk7 ⟨rfl, hk⟩
   have hH2 : Box wk7 gk1 146 (#[.iface 89 (.agg #[.int .i64 sz]), .pointer (some ⟨tb, 0, none⟩)]) ∧ Box wk7 gk3 52 (Mg.cells d) := ⟨hH.1.kept hk (fun e => e), hH.2.kept hk (fun e => e)⟩
   have HF : Hid (Fq No w (wk7) [(gk1, 146, #[.iface 89 (.agg #[.int .i64 sz]), .pointer (some ⟨tb, 0, none⟩)]), (gk3, 52, Mg.cells d)]) := HF.out.no hk
   clear hk
   refine ⟨.bool true, by rw [q1], hH2, fun hH => ?_⟩
   clear hH2
   try simp only [pS]
   refine xV 3 13 (.bool false) hH <| xV 4 14 (.bool false) hH <| xV 5 15 (.pointer (some ⟨gk1, 1, none⟩)) hH <| xL 6 16 141 ⟨gk1, 1, none⟩ (.pointer (some ⟨tb, 0, none⟩)) (fun _ hw => load_one ((hw.1).cell 1 |>.trans (by kernel_rfl)) U179 V179) hH <| xV 7 17 (.pointer (some ⟨gk3, 1, none⟩)) hH <| xV 8 18 (.pointer (some ⟨gk3, 2, none⟩)) hH <| ?_
   try simp only [pS]
   refine xL 9 19 3 ⟨gk3, 2, none⟩ (.int .i64 d.fr.id) (fun _ hw => load_one ((hw.2).cell 2 |>.trans (by kernel_rfl)) U3 rfl) hH <| xV 10 20 (.pointer (some ⟨gk1, 0, none⟩)) hH <| xL 11 21 98 ⟨gk1, 0, none⟩ (.iface 89 (.agg #[.int .i64 sz])) (fun _ hw => load_one ((hw.1).cell 0 |>.trans (by kernel_rfl)) U131 V131) hH <| xL 12 22 52 ⟨gk3, 0, none⟩ (.agg (Mg.cells d)) (fun _ hw => run_load_part (cs := Mg.cs d) (sub := Mg.cs d) (hw.2) (Part.all _) U52 rfl S52) hH <| ?_
   try simp only [pS]
   refine xC 13 23 64 #[.agg #[.int .i64 sz], .agg (Mg.cells d)] (HKp.out q1 wk7 HF.out.kept) ?_
   rintro e wk8 ⟨ka, kk, rfl, hO, hk⟩
   have hH2 : Box wk8 gk1 146 (#[.iface 89 (.agg #[.int .i64 sz]), .pointer (some ⟨tb, 0, none⟩)]) ∧ Box wk8 gk3 52 (Mg.cells d) := ⟨hH.1.kept hk (fun e => e), hH.2.kept hk (fun e => e)⟩
   have HO : Hid (OwnB wk8 w.heap.size ka kk kz) := Own.lower hO HF.out.kept.size
   have HF : Hid (Fq No w (wk8) [(gk1, 146, #[.iface 89 (.agg #[.int .i64 sz]), .pointer (some ⟨tb, 0, none⟩)]), (gk3, 52, Mg.cells d)]) := HF.out.no hk
   clear hk hO
   refine ⟨.agg #[.int .i64 kn, .int .i64 kc, .slice ka kz.length kk], rfl, hH2, fun hH => ?_⟩
   clear hH2
   try simp only [pS]
   refine xC 14 24 80 #[.pointer (some ⟨tb, 0, none⟩), .int .i64 d.fr.id, .agg #[.int .i64 kn, .int .i64 kc, .slice ka kz.length kk]] (take_anyB tb bb ct at' Y d.fr.id ⟨kn, kc, ka, kz.length, kk⟩ wk8 (HT.out.no HF.out.kept)) ?_
   rintro e wk9 ⟨rfl, hT2, hk⟩
   have hs3 : ∀ k, w.heap.size ≤ k → ¬ Tb2 tb bb k := fun k h e => by have := HTl.out k e; omega
   have HB3 : Hid (Box wk9 gk1 146 (#[.iface 89 (.agg #[.int .i64 sz]), .pointer (some ⟨tb, 0, none⟩)])) := (HF.out.box 0 _ _ _ rfl).kept hk (hs3 _ ((HF.out.low 0 _ _ _ rfl).elim id (fun e => e.elim)))
   have hH2 : Box wk9 gk1 146 (#[.iface 89 (.agg #[.int .i64 sz]), .pointer (some ⟨tb, 0, none⟩)]) ∧ Box wk9 gk3 52 (Mg.cells d) := ⟨HB3.out, (HF.out.box 1 _ _ _ rfl).kept hk (hs3 _ ((HF.out.low 1 _ _ _ rfl).elim id (fun e => e.elim)))⟩
   have HKt : Hid (Kept (Tb2 tb bb) w wk9) := HF.out.kept.of_no.then hk
   have HO : Hid (OwnB wk9 w.heap.size ka kk kz) := Own.kept HO.out hk (fun k e => hs3 k (Own.base HO.out e))
   obtain ⟨b, hb⟩ : ∃ b : Bq, b = ⟨kn, kc, ka, kz.length, kk⟩ := ⟨_, rfl⟩
   have HTb : Hid (Tal 149 ansB wk9 tb bb at' ct (takeS Y d.fr.id b)) := by rw [hb]; exact hT2
   have HBb : Hid (b = ⟨kn, kc, ka, kz.length, kk⟩) := hb
   have HMb : Hid (Mach wk9 m a cap x 146 (.agg #[.iface 89 (.agg #[.int .i64 sz]), .pointer (some ⟨tb, 0, none⟩)])) := HM.out.kept HKt.out HD.out
   have HF1 : Hid (Fq No wk9 wk9 []) := Fq.start _ _
   clear HF hk hT2 hb
   have HF := HF1
   clear HF1
   refine ⟨.bool (takeB Y d.fr.id), rfl, hH2, fun hH => ?_⟩
   clear hH2
   try simp only [pS]
   cases q2 : ((takeB Y d.fr.id))
   ·skip
    try simp only [q2]
    refine xV 15 25 (.bool true) hH <| xV 16 26 (.bool true) hH <| ?_
    try simp only [pS]
    refine wpAnyH_done (by kernel_rfl) ?_ _
    try simp only [pS]
    clear hH
    go_upto_region 2 with fail
    refine WL.start <| uK (.slice none 0 0) <| WL.nil <| ?_
    try simp only [pS]
    go_wp2
    rw [HC.out]
    exact .inr ⟨q1, ka, kk, b, HBb.out, HO.out, HKt.out.mono (fun _ _ e => .inr e), HTb.out, .inl ⟨q2, rfl, HMb.out⟩⟩
   ·skip
    try simp only [q2]
    refine xV 15 25 (.bool false) hH <| xV 16 26 (.bool false) hH <| ?_
    try simp only [pS]
    refine wpAnyH_done (by kernel_rfl) ?_ _
    try simp only [pS]
    clear hH
    have hcn : 1 ≤ cnt (takeS Y d.fr.id b) := take_cnt HT.out.nd q2
    have hcl : cnt (takeS Y d.fr.id b) ≤ 1000 := by have h1 := cnt_le (takeS Y d.fr.id b); rw [takeS_g] at h1; omega
    have HGr : Hid (∀ wr, Kept No wk9 wr → Calls Try.prog 84 #[.pointer (some ⟨tb, 0, none⟩)] wr (GreatOut wr ((gotL (takeS Y d.fr.id b)).map Prod.snd))) := fun wr hk => greatestX tb bb ct at' (takeS Y d.fr.id b) wr (HTb.out.no hk) (by omega) hcn
    have HSe : Hid (∀ wr, Calls Try.prog 97 #[.agg #[.int .i64 sz], bkV (bestP ((gotL (takeS Y d.fr.id b)).map Prod.snd)), .bool (!((gotL (takeS Y d.fr.id b)).map Prod.snd).any (otherB (bestP ((gotL (takeS Y d.fr.id b)).map Prod.snd))))] wr (SettleOut wr (R b).pn (R b).pc (R b).pa (R b).pl (R b).pk (R b).er (R b).sn (R b).sc (R b).da (R b).dl (R b).dc (R b).en)) := HSt.out b (by rw [HBb.out]) (by rw [HBb.out])
    unfold GreatOut at HGr
    generalize (!((gotL (takeS Y d.fr.id b)).map Prod.snd).any (otherB (bestP ((gotL (takeS Y d.fr.id b)).map Prod.snd)))) = AL at HGr HSe
    generalize bestP ((gotL (takeS Y d.fr.id b)).map Prod.snd) = G at HGr HSe
    have HZl : Hid ((R b).en = false → (pz b).length = (R b).pl ∧ (R b).pl ≤ 140737488355328) := by
      show (R b).en = false → _
      rw [HBb.out]
      exact fun e => HPz.out ka kk q2 e
    have HBy : Hid ((R b).en = false → Bytes wk9 (R b).pa (pz b) ∧ ¬ At (R b).pa m) := by
      show (R b).en = false → _
      rw [HBb.out]
      exact fun e => HPb.out ka kk _ HKt.out HO.out q2 e
    obtain ⟨Q, hQ⟩ : ∃ Q, Q = R b := ⟨_, rfl⟩
    have HQq : Hid (Q = R b) := hQ
    rw [← hQ] at HSe HZl HBy
    clear hQ
    obtain ⟨pn, pc, pa, pl, pk, er, sn, sc, da, dl, dc, en⟩ := Q
    dsimp only at HSe HZl HBy
    go_upto_region 3 with fail
    refine wp_region_held_drew (S := fun w' => Kept No wk9 w') rfl (Kept.refl No _).drew (fun hH => ?_)
    have HF : Hid (Fq No wk9 (wk9.drew) []) := HF.out.drew
    generalize wk9.drew = wk10 at HF hH ⊢
    refine xV 0 28 (.pointer (some ⟨gk1, 0, none⟩)) hH <| xL 1 29 98 ⟨gk1, 0, none⟩ (.iface 89 (.agg #[.int .i64 sz])) (fun _ hw => load_one ((HB3.out.kept hw (fun e => e)).cell 0 |>.trans (by kernel_rfl)) U131 V131) hH <| xV 2 30 (.pointer (some ⟨gk1, 1, none⟩)) hH <| xL 3 31 141 ⟨gk1, 1, none⟩ (.pointer (some ⟨tb, 0, none⟩)) (fun _ hw => load_one ((HB3.out.kept hw (fun e => e)).cell 1 |>.trans (by kernel_rfl)) U179 V179) hH <| xV 7 35 (.iface 89 (.agg #[.int .i64 sz])) hH <| xV 8 36 (.iface 89 (.agg #[.int .i64 sz])) hH <| ?_
    try simp only [pS]
    refine' meet3 (J := fun W A B => Kept No wk9 W ∧ Box W A 144 (Bl.cells ⟨⟨pn, pc⟩, ⟨pa, pl, pk⟩⟩) ∧ Box W B 72 (Rz.cells ⟨er, enZ, slZ, ⟨da, dl, dc⟩, 0, ⟨sn, sc⟩, 0⟩) ∧ wk9.heap.size ≤ A ∧ wk9.heap.size ≤ B) (fun hh => ?region) (fun W A B hJ => ?tail)
    case region =>
      refine any_pick (rs := [4, 14, 15]) (by kernel_rfl) (by simp) ?_
      intro i hi
      rcases pick3 hi with rfl | rfl | rfl
      ·skip
       clear hi
       refine step_call (i := 4) (o := { dst := some 32, op := Op.call { callee := Callee.value (Operand.func 84), args := #[Operand.tmp 31], argTypes := #[141] }, type := 157, pos := "phase.go:55", after := #[{ on := 3, ground := Ground.data }], guard := none }) rfl (by kernel_rfl) 84 #[.pointer (some ⟨tb, 0, none⟩)] (by kernel_rfl) _ (HGr.out wk10 HF.out.kept) ?_
       rintro e wk11 ⟨rfl, hk⟩
       have hH2 : Kept No wk9 wk11 := hH.then hk
       have HF : Hid (Fq No wk9 (wk11) []) := HF.out.no hk
       clear hk
       refine ⟨.tuple #[bkV G, .bool AL], rfl, hH2, fun hH => ?_⟩
       clear hH2
       try simp only [pS]
       refine xV 5 33 (bkV G) hH <| xV 6 34 (.bool AL) hH <| ?_
       try simp only [pS]
       refine any_pick (rs := [9, 14, 15]) (by kernel_rfl) (by simp) ?_
       intro i hi
       rcases pick3 hi with rfl | rfl | rfl
       ·skip
        clear hi
        refine step_call (i := 9) (o := { dst := some 37, op := Op.call { callee := Callee.invoke (Operand.tmp 36) "cairn/register.settle", args := #[Operand.tmp 33, Operand.tmp 34], argTypes := #[144, 4] }, type := 156, pos := "phase.go:55", after := #[{ on := 8, ground := Ground.data }, { on := 5, ground := Ground.data }, { on := 6, ground := Ground.data }, { on := 4, ground := Ground.chain }], guard := none }) rfl (by kernel_rfl) 97 #[.agg #[.int .i64 sz], bkV G, .bool AL] (by kernel_rfl) _ (HSe.out wk11) ?_
        rintro e wk12 ⟨rfl, hk⟩
        have hH2 : Kept No wk9 wk12 := hH.then hk
        have HF : Hid (Fq No wk9 (wk12) []) := HF.out.no hk
        clear hk
        refine ⟨.tuple #[.agg #[.int .i64 pn, .int .i64 pc, .slice pa pl pk], .agg (resC er sn sc da dl dc), .bool en], rfl, hH2, fun hH => ?_⟩
        clear hH2
        try simp only [pS]
        refine xV 10 27 (.tuple #[.agg #[.int .i64 pn, .int .i64 pc, .slice pa pl pk], .agg (resC er sn sc da dl dc), .bool en]) hH <| xV 11 38 (.agg (Bl.cells ⟨⟨pn, pc⟩, ⟨pa, pl, pk⟩⟩)) hH <| xV 12 39 (.agg (Rz.cells ⟨er, enZ, slZ, ⟨da, dl, dc⟩, 0, ⟨sn, sc⟩, 0⟩)) hH <| xV 13 40 (.bool en) hH <| ?_
        try simp only [pS]
        refine any_pick (rs := [14, 15]) (by kernel_rfl) (by simp) ?_
        intro i hi
        rcases pick2 hi with rfl | rfl
        ·skip
         clear hi
         refine step_run (i := 14) (o := { dst := some 7, op := Op.alloc 144, type := 0, pos := "phase.go:55", after := #[], guard := none }) rfl (by kernel_rfl) (exec_alloc 144 rfl (Bl.cells blZ) Z57) (hH.alloc _) (fun hH => ?_)
         try simp only [pS]
         have HF : Hid (Fq No wk9 (wk12.alloc (.cells (Bl.cells blZ) 144)) [(wk12.heap.size, 144, Bl.cells blZ)]) := HF.out.alloc _ _
         generalize wk12.alloc (.cells (Bl.cells blZ) 144) = wk14 at HF hH ⊢
         generalize wk12.heap.size = gk13 at HF ⊢
         refine any_step (i := 15) (o := { dst := some 8, op := Op.alloc 72, type := 0, pos := "phase.go:55", after := #[], guard := none }) rfl (by kernel_rfl) (by kernel_rfl) (exec_alloc 72 rfl (Rz.cells rzZ) Z90) (hH.alloc _) (fun hH => ?_)
         try simp only [pS]
         have HF : Hid (Fq No wk9 (wk14.alloc (.cells (Rz.cells rzZ) 72)) [(gk13, 144, Bl.cells blZ), (wk14.heap.size, 72, Rz.cells rzZ)]) := HF.out.alloc _ _
         generalize wk14.alloc (.cells (Rz.cells rzZ) 72) = wk16 at HF hH ⊢
         generalize wk14.heap.size = gk15 at HF ⊢
         refine xS 16 144 ⟨gk13, 0, none⟩ (.agg (Bl.cells ⟨⟨pn, pc⟩, ⟨pa, pl, pk⟩⟩)) (w' := wk16.setRow gk13 (Bl.cells ⟨⟨pn, pc⟩, ⟨pa, pl, pk⟩⟩)) (rs (Bl.cs blZ) (Bl.cs ⟨⟨pn, pc⟩, ⟨pa, pl, pk⟩⟩) (Bl.cs ⟨⟨pn, pc⟩, ⟨pa, pl, pk⟩⟩) (HF.out.box 0 _ _ _ rfl) S57 (Bl.oneL _)) (hH.newRow ((HF.out.low 0 _ _ _ rfl).elim id (fun e => e.elim)) _) (fun hH => ?_)
         try simp only [pS]
         have HF : Hid (Fq No wk9 (wk16.setRow gk13 (Bl.cells ⟨⟨pn, pc⟩, ⟨pa, pl, pk⟩⟩)) [(gk13, 144, Bl.cells ⟨⟨pn, pc⟩, ⟨pa, pl, pk⟩⟩), (gk15, 72, Rz.cells rzZ)]) := HF.out.set 0 rfl _
         generalize wk16.setRow gk13 (Bl.cells ⟨⟨pn, pc⟩, ⟨pa, pl, pk⟩⟩) = wk17 at HF hH ⊢
         refine xS 17 72 ⟨gk15, 0, none⟩ (.agg (Rz.cells ⟨er, enZ, slZ, ⟨da, dl, dc⟩, 0, ⟨sn, sc⟩, 0⟩)) (w' := wk17.setRow gk15 (Rz.cells ⟨er, enZ, slZ, ⟨da, dl, dc⟩, 0, ⟨sn, sc⟩, 0⟩)) (rs (Rz.cs rzZ) (Rz.cs ⟨er, enZ, slZ, ⟨da, dl, dc⟩, 0, ⟨sn, sc⟩, 0⟩) (Rz.cs ⟨er, enZ, slZ, ⟨da, dl, dc⟩, 0, ⟨sn, sc⟩, 0⟩) (HF.out.box 1 _ _ _ rfl) S90 (Rz.oneL _)) (hH.newRow ((HF.out.low 1 _ _ _ rfl).elim id (fun e => e.elim)) _) (fun hH => ?_)
         try simp only [pS]
         have HF : Hid (Fq No wk9 (wk17.setRow gk15 (Rz.cells ⟨er, enZ, slZ, ⟨da, dl, dc⟩, 0, ⟨sn, sc⟩, 0⟩)) [(gk13, 144, Bl.cells ⟨⟨pn, pc⟩, ⟨pa, pl, pk⟩⟩), (gk15, 72, Rz.cells ⟨er, enZ, slZ, ⟨da, dl, dc⟩, 0, ⟨sn, sc⟩, 0⟩)]) := HF.out.set 1 rfl _
         generalize wk17.setRow gk15 (Rz.cells ⟨er, enZ, slZ, ⟨da, dl, dc⟩, 0, ⟨sn, sc⟩, 0⟩) = wk18 at HF hH ⊢
         refine xV 18 9 (.bool en) hH ?_
         try simp only [pS]
         refine wpAnyH_done (by kernel_rfl) ?_ _
         try simp only [pS]
         clear hH
         exact hh _ _ _ ⟨HF.out.kept, HF.out.box 0 _ _ _ rfl, HF.out.box 1 _ _ _ rfl, (HF.out.low 0 _ _ _ rfl).elim id (fun e => e.elim), (HF.out.low 1 _ _ _ rfl).elim id (fun e => e.elim)⟩
        ·skip
         clear hi
         refine step_run (i := 15) (o := { dst := some 8, op := Op.alloc 72, type := 0, pos := "phase.go:55", after := #[], guard := none }) rfl (by kernel_rfl) (exec_alloc 72 rfl (Rz.cells rzZ) Z90) (hH.alloc _) (fun hH => ?_)
         try simp only [pS]
         have HF : Hid (Fq No wk9 (wk12.alloc (.cells (Rz.cells rzZ) 72)) [(wk12.heap.size, 72, Rz.cells rzZ)]) := HF.out.alloc _ _
         generalize wk12.alloc (.cells (Rz.cells rzZ) 72) = wk20 at HF hH ⊢
         generalize wk12.heap.size = gk19 at HF ⊢
         refine any_step (i := 14) (o := { dst := some 7, op := Op.alloc 144, type := 0, pos := "phase.go:55", after := #[], guard := none }) rfl (by kernel_rfl) (by kernel_rfl) (exec_alloc 144 rfl (Bl.cells blZ) Z57) (hH.alloc _) (fun hH => ?_)
         try simp only [pS]
         have HF : Hid (Fq No wk9 (wk20.alloc (.cells (Bl.cells blZ) 144)) [(gk19, 72, Rz.cells rzZ), (wk20.heap.size, 144, Bl.cells blZ)]) := HF.out.alloc _ _
         generalize wk20.alloc (.cells (Bl.cells blZ) 144) = wk22 at HF hH ⊢
         generalize wk20.heap.size = gk21 at HF ⊢
         refine xS 16 144 ⟨gk21, 0, none⟩ (.agg (Bl.cells ⟨⟨pn, pc⟩, ⟨pa, pl, pk⟩⟩)) (w' := wk22.setRow gk21 (Bl.cells ⟨⟨pn, pc⟩, ⟨pa, pl, pk⟩⟩)) (rs (Bl.cs blZ) (Bl.cs ⟨⟨pn, pc⟩, ⟨pa, pl, pk⟩⟩) (Bl.cs ⟨⟨pn, pc⟩, ⟨pa, pl, pk⟩⟩) (HF.out.box 1 _ _ _ rfl) S57 (Bl.oneL _)) (hH.newRow ((HF.out.low 1 _ _ _ rfl).elim id (fun e => e.elim)) _) (fun hH => ?_)
         try simp only [pS]
         have HF : Hid (Fq No wk9 (wk22.setRow gk21 (Bl.cells ⟨⟨pn, pc⟩, ⟨pa, pl, pk⟩⟩)) [(gk19, 72, Rz.cells rzZ), (gk21, 144, Bl.cells ⟨⟨pn, pc⟩, ⟨pa, pl, pk⟩⟩)]) := HF.out.set 1 rfl _
         generalize wk22.setRow gk21 (Bl.cells ⟨⟨pn, pc⟩, ⟨pa, pl, pk⟩⟩) = wk23 at HF hH ⊢
         refine xS 17 72 ⟨gk19, 0, none⟩ (.agg (Rz.cells ⟨er, enZ, slZ, ⟨da, dl, dc⟩, 0, ⟨sn, sc⟩, 0⟩)) (w' := wk23.setRow gk19 (Rz.cells ⟨er, enZ, slZ, ⟨da, dl, dc⟩, 0, ⟨sn, sc⟩, 0⟩)) (rs (Rz.cs rzZ) (Rz.cs ⟨er, enZ, slZ, ⟨da, dl, dc⟩, 0, ⟨sn, sc⟩, 0⟩) (Rz.cs ⟨er, enZ, slZ, ⟨da, dl, dc⟩, 0, ⟨sn, sc⟩, 0⟩) (HF.out.box 0 _ _ _ rfl) S90 (Rz.oneL _)) (hH.newRow ((HF.out.low 0 _ _ _ rfl).elim id (fun e => e.elim)) _) (fun hH => ?_)
         try simp only [pS]
         have HF : Hid (Fq No wk9 (wk23.setRow gk19 (Rz.cells ⟨er, enZ, slZ, ⟨da, dl, dc⟩, 0, ⟨sn, sc⟩, 0⟩)) [(gk19, 72, Rz.cells ⟨er, enZ, slZ, ⟨da, dl, dc⟩, 0, ⟨sn, sc⟩, 0⟩), (gk21, 144, Bl.cells ⟨⟨pn, pc⟩, ⟨pa, pl, pk⟩⟩)]) := HF.out.set 0 rfl _
         generalize wk23.setRow gk19 (Rz.cells ⟨er, enZ, slZ, ⟨da, dl, dc⟩, 0, ⟨sn, sc⟩, 0⟩) = wk24 at HF hH ⊢
         refine xV 18 9 (.bool en) hH ?_
         try simp only [pS]
         refine wpAnyH_done (by kernel_rfl) ?_ _
         try simp only [pS]
         clear hH
         exact hh _ _ _ ⟨HF.out.kept, HF.out.box 1 _ _ _ rfl, HF.out.box 0 _ _ _ rfl, (HF.out.low 1 _ _ _ rfl).elim id (fun e => e.elim), (HF.out.low 0 _ _ _ rfl).elim id (fun e => e.elim)⟩
       ·skip
        clear hi
        refine step_run (i := 14) (o := { dst := some 7, op := Op.alloc 144, type := 0, pos := "phase.go:55", after := #[], guard := none }) rfl (by kernel_rfl) (exec_alloc 144 rfl (Bl.cells blZ) Z57) (hH.alloc _) (fun hH => ?_)
        try simp only [pS]
        have HF : Hid (Fq No wk9 (wk11.alloc (.cells (Bl.cells blZ) 144)) [(wk11.heap.size, 144, Bl.cells blZ)]) := HF.out.alloc _ _
        generalize wk11.alloc (.cells (Bl.cells blZ) 144) = wk26 at HF hH ⊢
        generalize wk11.heap.size = gk25 at HF ⊢
        refine any_pick (rs := [9, 15]) (by kernel_rfl) (by simp) ?_
        intro i hi
        rcases pick2 hi with rfl | rfl
        ·skip
         clear hi
         refine step_call (i := 9) (o := { dst := some 37, op := Op.call { callee := Callee.invoke (Operand.tmp 36) "cairn/register.settle", args := #[Operand.tmp 33, Operand.tmp 34], argTypes := #[144, 4] }, type := 156, pos := "phase.go:55", after := #[{ on := 8, ground := Ground.data }, { on := 5, ground := Ground.data }, { on := 6, ground := Ground.data }, { on := 4, ground := Ground.chain }], guard := none }) rfl (by kernel_rfl) 97 #[.agg #[.int .i64 sz], bkV G, .bool AL] (by kernel_rfl) _ (HSe.out wk26) ?_
         rintro e wk27 ⟨rfl, hk⟩
         have hH2 : Kept No wk9 wk27 := hH.then hk
         have HF : Hid (Fq No wk9 (wk27) [(gk25, 144, Bl.cells blZ)]) := HF.out.no hk
         clear hk
         refine ⟨.tuple #[.agg #[.int .i64 pn, .int .i64 pc, .slice pa pl pk], .agg (resC er sn sc da dl dc), .bool en], rfl, hH2, fun hH => ?_⟩
         clear hH2
         try simp only [pS]
         refine xV 10 27 (.tuple #[.agg #[.int .i64 pn, .int .i64 pc, .slice pa pl pk], .agg (resC er sn sc da dl dc), .bool en]) hH <| xV 11 38 (.agg (Bl.cells ⟨⟨pn, pc⟩, ⟨pa, pl, pk⟩⟩)) hH <| xV 12 39 (.agg (Rz.cells ⟨er, enZ, slZ, ⟨da, dl, dc⟩, 0, ⟨sn, sc⟩, 0⟩)) hH <| xV 13 40 (.bool en) hH <| ?_
         try simp only [pS]
         refine any_step (i := 15) (o := { dst := some 8, op := Op.alloc 72, type := 0, pos := "phase.go:55", after := #[], guard := none }) rfl (by kernel_rfl) (by kernel_rfl) (exec_alloc 72 rfl (Rz.cells rzZ) Z90) (hH.alloc _) (fun hH => ?_)
         try simp only [pS]
         have HF : Hid (Fq No wk9 (wk27.alloc (.cells (Rz.cells rzZ) 72)) [(gk25, 144, Bl.cells blZ), (wk27.heap.size, 72, Rz.cells rzZ)]) := HF.out.alloc _ _
         generalize wk27.alloc (.cells (Rz.cells rzZ) 72) = wk29 at HF hH ⊢
         generalize wk27.heap.size = gk28 at HF ⊢
         refine xS 16 144 ⟨gk25, 0, none⟩ (.agg (Bl.cells ⟨⟨pn, pc⟩, ⟨pa, pl, pk⟩⟩)) (w' := wk29.setRow gk25 (Bl.cells ⟨⟨pn, pc⟩, ⟨pa, pl, pk⟩⟩)) (rs (Bl.cs blZ) (Bl.cs ⟨⟨pn, pc⟩, ⟨pa, pl, pk⟩⟩) (Bl.cs ⟨⟨pn, pc⟩, ⟨pa, pl, pk⟩⟩) (HF.out.box 0 _ _ _ rfl) S57 (Bl.oneL _)) (hH.newRow ((HF.out.low 0 _ _ _ rfl).elim id (fun e => e.elim)) _) (fun hH => ?_)
         try simp only [pS]
         have HF : Hid (Fq No wk9 (wk29.setRow gk25 (Bl.cells ⟨⟨pn, pc⟩, ⟨pa, pl, pk⟩⟩)) [(gk25, 144, Bl.cells ⟨⟨pn, pc⟩, ⟨pa, pl, pk⟩⟩), (gk28, 72, Rz.cells rzZ)]) := HF.out.set 0 rfl _
         generalize wk29.setRow gk25 (Bl.cells ⟨⟨pn, pc⟩, ⟨pa, pl, pk⟩⟩) = wk30 at HF hH ⊢
         refine xS 17 72 ⟨gk28, 0, none⟩ (.agg (Rz.cells ⟨er, enZ, slZ, ⟨da, dl, dc⟩, 0, ⟨sn, sc⟩, 0⟩)) (w' := wk30.setRow gk28 (Rz.cells ⟨er, enZ, slZ, ⟨da, dl, dc⟩, 0, ⟨sn, sc⟩, 0⟩)) (rs (Rz.cs rzZ) (Rz.cs ⟨er, enZ, slZ, ⟨da, dl, dc⟩, 0, ⟨sn, sc⟩, 0⟩) (Rz.cs ⟨er, enZ, slZ, ⟨da, dl, dc⟩, 0, ⟨sn, sc⟩, 0⟩) (HF.out.box 1 _ _ _ rfl) S90 (Rz.oneL _)) (hH.newRow ((HF.out.low 1 _ _ _ rfl).elim id (fun e => e.elim)) _) (fun hH => ?_)
         try simp only [pS]
         have HF : Hid (Fq No wk9 (wk30.setRow gk28 (Rz.cells ⟨er, enZ, slZ, ⟨da, dl, dc⟩, 0, ⟨sn, sc⟩, 0⟩)) [(gk25, 144, Bl.cells ⟨⟨pn, pc⟩, ⟨pa, pl, pk⟩⟩), (gk28, 72, Rz.cells ⟨er, enZ, slZ, ⟨da, dl, dc⟩, 0, ⟨sn, sc⟩, 0⟩)]) := HF.out.set 1 rfl _
         generalize wk30.setRow gk28 (Rz.cells ⟨er, enZ, slZ, ⟨da, dl, dc⟩, 0, ⟨sn, sc⟩, 0⟩) = wk31 at HF hH ⊢
         refine xV 18 9 (.bool en) hH ?_
         try simp only [pS]
         refine wpAnyH_done (by kernel_rfl) ?_ _
         try simp only [pS]
         clear hH
         exact hh _ _ _ ⟨HF.out.kept, HF.out.box 0 _ _ _ rfl, HF.out.box 1 _ _ _ rfl, (HF.out.low 0 _ _ _ rfl).elim id (fun e => e.elim), (HF.out.low 1 _ _ _ rfl).elim id (fun e => e.elim)⟩
        ·skip
         clear hi
         refine step_run (i := 15) (o := { dst := some 8, op := Op.alloc 72, type := 0, pos := "phase.go:55", after := #[], guard := none }) rfl (by kernel_rfl) (exec_alloc 72 rfl (Rz.cells rzZ) Z90) (hH.alloc _) (fun hH => ?_)
         try simp only [pS]
         have HF : Hid (Fq No wk9 (wk26.alloc (.cells (Rz.cells rzZ) 72)) [(gk25, 144, Bl.cells blZ), (wk26.heap.size, 72, Rz.cells rzZ)]) := HF.out.alloc _ _
         generalize wk26.alloc (.cells (Rz.cells rzZ) 72) = wk33 at HF hH ⊢
         generalize wk26.heap.size = gk32 at HF ⊢
         refine xC 9 37 97 #[.agg #[.int .i64 sz], bkV G, .bool AL] (HSe.out wk33) ?_
         rintro e wk34 ⟨rfl, hk⟩
         have hH2 : Kept No wk9 wk34 := hH.then hk
         have HF : Hid (Fq No wk9 (wk34) [(gk25, 144, Bl.cells blZ), (gk32, 72, Rz.cells rzZ)]) := HF.out.no hk
         clear hk
         refine ⟨.tuple #[.agg #[.int .i64 pn, .int .i64 pc, .slice pa pl pk], .agg (resC er sn sc da dl dc), .bool en], rfl, hH2, fun hH => ?_⟩
         clear hH2
         try simp only [pS]
         refine xV 10 27 (.tuple #[.agg #[.int .i64 pn, .int .i64 pc, .slice pa pl pk], .agg (resC er sn sc da dl dc), .bool en]) hH <| xV 11 38 (.agg (Bl.cells ⟨⟨pn, pc⟩, ⟨pa, pl, pk⟩⟩)) hH <| xV 12 39 (.agg (Rz.cells ⟨er, enZ, slZ, ⟨da, dl, dc⟩, 0, ⟨sn, sc⟩, 0⟩)) hH <| xV 13 40 (.bool en) hH <| ?_
         try simp only [pS]
         refine xS 16 144 ⟨gk25, 0, none⟩ (.agg (Bl.cells ⟨⟨pn, pc⟩, ⟨pa, pl, pk⟩⟩)) (w' := wk34.setRow gk25 (Bl.cells ⟨⟨pn, pc⟩, ⟨pa, pl, pk⟩⟩)) (rs (Bl.cs blZ) (Bl.cs ⟨⟨pn, pc⟩, ⟨pa, pl, pk⟩⟩) (Bl.cs ⟨⟨pn, pc⟩, ⟨pa, pl, pk⟩⟩) (HF.out.box 0 _ _ _ rfl) S57 (Bl.oneL _)) (hH.newRow ((HF.out.low 0 _ _ _ rfl).elim id (fun e => e.elim)) _) (fun hH => ?_)
         try simp only [pS]
         have HF : Hid (Fq No wk9 (wk34.setRow gk25 (Bl.cells ⟨⟨pn, pc⟩, ⟨pa, pl, pk⟩⟩)) [(gk25, 144, Bl.cells ⟨⟨pn, pc⟩, ⟨pa, pl, pk⟩⟩), (gk32, 72, Rz.cells rzZ)]) := HF.out.set 0 rfl _
         generalize wk34.setRow gk25 (Bl.cells ⟨⟨pn, pc⟩, ⟨pa, pl, pk⟩⟩) = wk35 at HF hH ⊢
         refine xS 17 72 ⟨gk32, 0, none⟩ (.agg (Rz.cells ⟨er, enZ, slZ, ⟨da, dl, dc⟩, 0, ⟨sn, sc⟩, 0⟩)) (w' := wk35.setRow gk32 (Rz.cells ⟨er, enZ, slZ, ⟨da, dl, dc⟩, 0, ⟨sn, sc⟩, 0⟩)) (rs (Rz.cs rzZ) (Rz.cs ⟨er, enZ, slZ, ⟨da, dl, dc⟩, 0, ⟨sn, sc⟩, 0⟩) (Rz.cs ⟨er, enZ, slZ, ⟨da, dl, dc⟩, 0, ⟨sn, sc⟩, 0⟩) (HF.out.box 1 _ _ _ rfl) S90 (Rz.oneL _)) (hH.newRow ((HF.out.low 1 _ _ _ rfl).elim id (fun e => e.elim)) _) (fun hH => ?_)
         try simp only [pS]
         have HF : Hid (Fq No wk9 (wk35.setRow gk32 (Rz.cells ⟨er, enZ, slZ, ⟨da, dl, dc⟩, 0, ⟨sn, sc⟩, 0⟩)) [(gk25, 144, Bl.cells ⟨⟨pn, pc⟩, ⟨pa, pl, pk⟩⟩), (gk32, 72, Rz.cells ⟨er, enZ, slZ, ⟨da, dl, dc⟩, 0, ⟨sn, sc⟩, 0⟩)]) := HF.out.set 1 rfl _
         generalize wk35.setRow gk32 (Rz.cells ⟨er, enZ, slZ, ⟨da, dl, dc⟩, 0, ⟨sn, sc⟩, 0⟩) = wk36 at HF hH ⊢
         refine xV 18 9 (.bool en) hH ?_
         try simp only [pS]
         refine wpAnyH_done (by kernel_rfl) ?_ _
         try simp only [pS]
         clear hH
         exact hh _ _ _ ⟨HF.out.kept, HF.out.box 0 _ _ _ rfl, HF.out.box 1 _ _ _ rfl, (HF.out.low 0 _ _ _ rfl).elim id (fun e => e.elim), (HF.out.low 1 _ _ _ rfl).elim id (fun e => e.elim)⟩
       ·skip
        clear hi
        refine step_run (i := 15) (o := { dst := some 8, op := Op.alloc 72, type := 0, pos := "phase.go:55", after := #[], guard := none }) rfl (by kernel_rfl) (exec_alloc 72 rfl (Rz.cells rzZ) Z90) (hH.alloc _) (fun hH => ?_)
        try simp only [pS]
        have HF : Hid (Fq No wk9 (wk11.alloc (.cells (Rz.cells rzZ) 72)) [(wk11.heap.size, 72, Rz.cells rzZ)]) := HF.out.alloc _ _
        generalize wk11.alloc (.cells (Rz.cells rzZ) 72) = wk38 at HF hH ⊢
        generalize wk11.heap.size = gk37 at HF ⊢
        refine any_pick (rs := [9, 14]) (by kernel_rfl) (by simp) ?_
        intro i hi
        rcases pick2 hi with rfl | rfl
        ·skip
         clear hi
         refine step_call (i := 9) (o := { dst := some 37, op := Op.call { callee := Callee.invoke (Operand.tmp 36) "cairn/register.settle", args := #[Operand.tmp 33, Operand.tmp 34], argTypes := #[144, 4] }, type := 156, pos := "phase.go:55", after := #[{ on := 8, ground := Ground.data }, { on := 5, ground := Ground.data }, { on := 6, ground := Ground.data }, { on := 4, ground := Ground.chain }], guard := none }) rfl (by kernel_rfl) 97 #[.agg #[.int .i64 sz], bkV G, .bool AL] (by kernel_rfl) _ (HSe.out wk38) ?_
         rintro e wk39 ⟨rfl, hk⟩
         have hH2 : Kept No wk9 wk39 := hH.then hk
         have HF : Hid (Fq No wk9 (wk39) [(gk37, 72, Rz.cells rzZ)]) := HF.out.no hk
         clear hk
         refine ⟨.tuple #[.agg #[.int .i64 pn, .int .i64 pc, .slice pa pl pk], .agg (resC er sn sc da dl dc), .bool en], rfl, hH2, fun hH => ?_⟩
         clear hH2
         try simp only [pS]
         refine xV 10 27 (.tuple #[.agg #[.int .i64 pn, .int .i64 pc, .slice pa pl pk], .agg (resC er sn sc da dl dc), .bool en]) hH <| xV 11 38 (.agg (Bl.cells ⟨⟨pn, pc⟩, ⟨pa, pl, pk⟩⟩)) hH <| xV 12 39 (.agg (Rz.cells ⟨er, enZ, slZ, ⟨da, dl, dc⟩, 0, ⟨sn, sc⟩, 0⟩)) hH <| xV 13 40 (.bool en) hH <| ?_
         try simp only [pS]
         refine any_step (i := 14) (o := { dst := some 7, op := Op.alloc 144, type := 0, pos := "phase.go:55", after := #[], guard := none }) rfl (by kernel_rfl) (by kernel_rfl) (exec_alloc 144 rfl (Bl.cells blZ) Z57) (hH.alloc _) (fun hH => ?_)
         try simp only [pS]
         have HF : Hid (Fq No wk9 (wk39.alloc (.cells (Bl.cells blZ) 144)) [(gk37, 72, Rz.cells rzZ), (wk39.heap.size, 144, Bl.cells blZ)]) := HF.out.alloc _ _
         generalize wk39.alloc (.cells (Bl.cells blZ) 144) = wk41 at HF hH ⊢
         generalize wk39.heap.size = gk40 at HF ⊢
         refine xS 16 144 ⟨gk40, 0, none⟩ (.agg (Bl.cells ⟨⟨pn, pc⟩, ⟨pa, pl, pk⟩⟩)) (w' := wk41.setRow gk40 (Bl.cells ⟨⟨pn, pc⟩, ⟨pa, pl, pk⟩⟩)) (rs (Bl.cs blZ) (Bl.cs ⟨⟨pn, pc⟩, ⟨pa, pl, pk⟩⟩) (Bl.cs ⟨⟨pn, pc⟩, ⟨pa, pl, pk⟩⟩) (HF.out.box 1 _ _ _ rfl) S57 (Bl.oneL _)) (hH.newRow ((HF.out.low 1 _ _ _ rfl).elim id (fun e => e.elim)) _) (fun hH => ?_)
         try simp only [pS]
         have HF : Hid (Fq No wk9 (wk41.setRow gk40 (Bl.cells ⟨⟨pn, pc⟩, ⟨pa, pl, pk⟩⟩)) [(gk37, 72, Rz.cells rzZ), (gk40, 144, Bl.cells ⟨⟨pn, pc⟩, ⟨pa, pl, pk⟩⟩)]) := HF.out.set 1 rfl _
         generalize wk41.setRow gk40 (Bl.cells ⟨⟨pn, pc⟩, ⟨pa, pl, pk⟩⟩) = wk42 at HF hH ⊢
         refine xS 17 72 ⟨gk37, 0, none⟩ (.agg (Rz.cells ⟨er, enZ, slZ, ⟨da, dl, dc⟩, 0, ⟨sn, sc⟩, 0⟩)) (w' := wk42.setRow gk37 (Rz.cells ⟨er, enZ, slZ, ⟨da, dl, dc⟩, 0, ⟨sn, sc⟩, 0⟩)) (rs (Rz.cs rzZ) (Rz.cs ⟨er, enZ, slZ, ⟨da, dl, dc⟩, 0, ⟨sn, sc⟩, 0⟩) (Rz.cs ⟨er, enZ, slZ, ⟨da, dl, dc⟩, 0, ⟨sn, sc⟩, 0⟩) (HF.out.box 0 _ _ _ rfl) S90 (Rz.oneL _)) (hH.newRow ((HF.out.low 0 _ _ _ rfl).elim id (fun e => e.elim)) _) (fun hH => ?_)
         try simp only [pS]
         have HF : Hid (Fq No wk9 (wk42.setRow gk37 (Rz.cells ⟨er, enZ, slZ, ⟨da, dl, dc⟩, 0, ⟨sn, sc⟩, 0⟩)) [(gk37, 72, Rz.cells ⟨er, enZ, slZ, ⟨da, dl, dc⟩, 0, ⟨sn, sc⟩, 0⟩), (gk40, 144, Bl.cells ⟨⟨pn, pc⟩, ⟨pa, pl, pk⟩⟩)]) := HF.out.set 0 rfl _
         generalize wk42.setRow gk37 (Rz.cells ⟨er, enZ, slZ, ⟨da, dl, dc⟩, 0, ⟨sn, sc⟩, 0⟩) = wk43 at HF hH ⊢
         refine xV 18 9 (.bool en) hH ?_
         try simp only [pS]
         refine wpAnyH_done (by kernel_rfl) ?_ _
         try simp only [pS]
         clear hH
         exact hh _ _ _ ⟨HF.out.kept, HF.out.box 1 _ _ _ rfl, HF.out.box 0 _ _ _ rfl, (HF.out.low 1 _ _ _ rfl).elim id (fun e => e.elim), (HF.out.low 0 _ _ _ rfl).elim id (fun e => e.elim)⟩
        ·skip
         clear hi
         refine step_run (i := 14) (o := { dst := some 7, op := Op.alloc 144, type := 0, pos := "phase.go:55", after := #[], guard := none }) rfl (by kernel_rfl) (exec_alloc 144 rfl (Bl.cells blZ) Z57) (hH.alloc _) (fun hH => ?_)
         try simp only [pS]
         have HF : Hid (Fq No wk9 (wk38.alloc (.cells (Bl.cells blZ) 144)) [(gk37, 72, Rz.cells rzZ), (wk38.heap.size, 144, Bl.cells blZ)]) := HF.out.alloc _ _
         generalize wk38.alloc (.cells (Bl.cells blZ) 144) = wk45 at HF hH ⊢
         generalize wk38.heap.size = gk44 at HF ⊢
         refine xC 9 37 97 #[.agg #[.int .i64 sz], bkV G, .bool AL] (HSe.out wk45) ?_
         rintro e wk46 ⟨rfl, hk⟩
         have hH2 : Kept No wk9 wk46 := hH.then hk
         have HF : Hid (Fq No wk9 (wk46) [(gk37, 72, Rz.cells rzZ), (gk44, 144, Bl.cells blZ)]) := HF.out.no hk
         clear hk
         refine ⟨.tuple #[.agg #[.int .i64 pn, .int .i64 pc, .slice pa pl pk], .agg (resC er sn sc da dl dc), .bool en], rfl, hH2, fun hH => ?_⟩
         clear hH2
         try simp only [pS]
         refine xV 10 27 (.tuple #[.agg #[.int .i64 pn, .int .i64 pc, .slice pa pl pk], .agg (resC er sn sc da dl dc), .bool en]) hH <| xV 11 38 (.agg (Bl.cells ⟨⟨pn, pc⟩, ⟨pa, pl, pk⟩⟩)) hH <| xV 12 39 (.agg (Rz.cells ⟨er, enZ, slZ, ⟨da, dl, dc⟩, 0, ⟨sn, sc⟩, 0⟩)) hH <| xV 13 40 (.bool en) hH <| ?_
         try simp only [pS]
         refine xS 16 144 ⟨gk44, 0, none⟩ (.agg (Bl.cells ⟨⟨pn, pc⟩, ⟨pa, pl, pk⟩⟩)) (w' := wk46.setRow gk44 (Bl.cells ⟨⟨pn, pc⟩, ⟨pa, pl, pk⟩⟩)) (rs (Bl.cs blZ) (Bl.cs ⟨⟨pn, pc⟩, ⟨pa, pl, pk⟩⟩) (Bl.cs ⟨⟨pn, pc⟩, ⟨pa, pl, pk⟩⟩) (HF.out.box 1 _ _ _ rfl) S57 (Bl.oneL _)) (hH.newRow ((HF.out.low 1 _ _ _ rfl).elim id (fun e => e.elim)) _) (fun hH => ?_)
         try simp only [pS]
         have HF : Hid (Fq No wk9 (wk46.setRow gk44 (Bl.cells ⟨⟨pn, pc⟩, ⟨pa, pl, pk⟩⟩)) [(gk37, 72, Rz.cells rzZ), (gk44, 144, Bl.cells ⟨⟨pn, pc⟩, ⟨pa, pl, pk⟩⟩)]) := HF.out.set 1 rfl _
         generalize wk46.setRow gk44 (Bl.cells ⟨⟨pn, pc⟩, ⟨pa, pl, pk⟩⟩) = wk47 at HF hH ⊢
         refine xS 17 72 ⟨gk37, 0, none⟩ (.agg (Rz.cells ⟨er, enZ, slZ, ⟨da, dl, dc⟩, 0, ⟨sn, sc⟩, 0⟩)) (w' := wk47.setRow gk37 (Rz.cells ⟨er, enZ, slZ, ⟨da, dl, dc⟩, 0, ⟨sn, sc⟩, 0⟩)) (rs (Rz.cs rzZ) (Rz.cs ⟨er, enZ, slZ, ⟨da, dl, dc⟩, 0, ⟨sn, sc⟩, 0⟩) (Rz.cs ⟨er, enZ, slZ, ⟨da, dl, dc⟩, 0, ⟨sn, sc⟩, 0⟩) (HF.out.box 0 _ _ _ rfl) S90 (Rz.oneL _)) (hH.newRow ((HF.out.low 0 _ _ _ rfl).elim id (fun e => e.elim)) _) (fun hH => ?_)
         try simp only [pS]
         have HF : Hid (Fq No wk9 (wk47.setRow gk37 (Rz.cells ⟨er, enZ, slZ, ⟨da, dl, dc⟩, 0, ⟨sn, sc⟩, 0⟩)) [(gk37, 72, Rz.cells ⟨er, enZ, slZ, ⟨da, dl, dc⟩, 0, ⟨sn, sc⟩, 0⟩), (gk44, 144, Bl.cells ⟨⟨pn, pc⟩, ⟨pa, pl, pk⟩⟩)]) := HF.out.set 0 rfl _
         generalize wk47.setRow gk37 (Rz.cells ⟨er, enZ, slZ, ⟨da, dl, dc⟩, 0, ⟨sn, sc⟩, 0⟩) = wk48 at HF hH ⊢
         refine xV 18 9 (.bool en) hH ?_
         try simp only [pS]
         refine wpAnyH_done (by kernel_rfl) ?_ _
         try simp only [pS]
         clear hH
         exact hh _ _ _ ⟨HF.out.kept, HF.out.box 1 _ _ _ rfl, HF.out.box 0 _ _ _ rfl, (HF.out.low 1 _ _ _ rfl).elim id (fun e => e.elim), (HF.out.low 0 _ _ _ rfl).elim id (fun e => e.elim)⟩
      ·skip
       clear hi
       refine step_run (i := 14) (o := { dst := some 7, op := Op.alloc 144, type := 0, pos := "phase.go:55", after := #[], guard := none }) rfl (by kernel_rfl) (exec_alloc 144 rfl (Bl.cells blZ) Z57) (hH.alloc _) (fun hH => ?_)
       try simp only [pS]
       have HF : Hid (Fq No wk9 (wk10.alloc (.cells (Bl.cells blZ) 144)) [(wk10.heap.size, 144, Bl.cells blZ)]) := HF.out.alloc _ _
       generalize wk10.alloc (.cells (Bl.cells blZ) 144) = wk50 at HF hH ⊢
       generalize wk10.heap.size = gk49 at HF ⊢
       refine any_pick (rs := [4, 15]) (by kernel_rfl) (by simp) ?_
       intro i hi
       rcases pick2 hi with rfl | rfl
       ·skip
        clear hi
        refine step_call (i := 4) (o := { dst := some 32, op := Op.call { callee := Callee.value (Operand.func 84), args := #[Operand.tmp 31], argTypes := #[141] }, type := 157, pos := "phase.go:55", after := #[{ on := 3, ground := Ground.data }], guard := none }) rfl (by kernel_rfl) 84 #[.pointer (some ⟨tb, 0, none⟩)] (by kernel_rfl) _ (HGr.out wk50 HF.out.kept) ?_
        rintro e wk51 ⟨rfl, hk⟩
        have hH2 : Kept No wk9 wk51 := hH.then hk
        have HF : Hid (Fq No wk9 (wk51) [(gk49, 144, Bl.cells blZ)]) := HF.out.no hk
        clear hk
        refine ⟨.tuple #[bkV G, .bool AL], rfl, hH2, fun hH => ?_⟩
        clear hH2
        try simp only [pS]
        refine xV 5 33 (bkV G) hH <| xV 6 34 (.bool AL) hH <| ?_
        try simp only [pS]
        refine any_pick (rs := [9, 15]) (by kernel_rfl) (by simp) ?_
        intro i hi
        rcases pick2 hi with rfl | rfl
        ·skip
         clear hi
         refine step_call (i := 9) (o := { dst := some 37, op := Op.call { callee := Callee.invoke (Operand.tmp 36) "cairn/register.settle", args := #[Operand.tmp 33, Operand.tmp 34], argTypes := #[144, 4] }, type := 156, pos := "phase.go:55", after := #[{ on := 8, ground := Ground.data }, { on := 5, ground := Ground.data }, { on := 6, ground := Ground.data }, { on := 4, ground := Ground.chain }], guard := none }) rfl (by kernel_rfl) 97 #[.agg #[.int .i64 sz], bkV G, .bool AL] (by kernel_rfl) _ (HSe.out wk51) ?_
         rintro e wk52 ⟨rfl, hk⟩
         have hH2 : Kept No wk9 wk52 := hH.then hk
         have HF : Hid (Fq No wk9 (wk52) [(gk49, 144, Bl.cells blZ)]) := HF.out.no hk
         clear hk
         refine ⟨.tuple #[.agg #[.int .i64 pn, .int .i64 pc, .slice pa pl pk], .agg (resC er sn sc da dl dc), .bool en], rfl, hH2, fun hH => ?_⟩
         clear hH2
         try simp only [pS]
         refine xV 10 27 (.tuple #[.agg #[.int .i64 pn, .int .i64 pc, .slice pa pl pk], .agg (resC er sn sc da dl dc), .bool en]) hH <| xV 11 38 (.agg (Bl.cells ⟨⟨pn, pc⟩, ⟨pa, pl, pk⟩⟩)) hH <| xV 12 39 (.agg (Rz.cells ⟨er, enZ, slZ, ⟨da, dl, dc⟩, 0, ⟨sn, sc⟩, 0⟩)) hH <| xV 13 40 (.bool en) hH <| ?_
         try simp only [pS]
         refine any_step (i := 15) (o := { dst := some 8, op := Op.alloc 72, type := 0, pos := "phase.go:55", after := #[], guard := none }) rfl (by kernel_rfl) (by kernel_rfl) (exec_alloc 72 rfl (Rz.cells rzZ) Z90) (hH.alloc _) (fun hH => ?_)
         try simp only [pS]
         have HF : Hid (Fq No wk9 (wk52.alloc (.cells (Rz.cells rzZ) 72)) [(gk49, 144, Bl.cells blZ), (wk52.heap.size, 72, Rz.cells rzZ)]) := HF.out.alloc _ _
         generalize wk52.alloc (.cells (Rz.cells rzZ) 72) = wk54 at HF hH ⊢
         generalize wk52.heap.size = gk53 at HF ⊢
         refine xS 16 144 ⟨gk49, 0, none⟩ (.agg (Bl.cells ⟨⟨pn, pc⟩, ⟨pa, pl, pk⟩⟩)) (w' := wk54.setRow gk49 (Bl.cells ⟨⟨pn, pc⟩, ⟨pa, pl, pk⟩⟩)) (rs (Bl.cs blZ) (Bl.cs ⟨⟨pn, pc⟩, ⟨pa, pl, pk⟩⟩) (Bl.cs ⟨⟨pn, pc⟩, ⟨pa, pl, pk⟩⟩) (HF.out.box 0 _ _ _ rfl) S57 (Bl.oneL _)) (hH.newRow ((HF.out.low 0 _ _ _ rfl).elim id (fun e => e.elim)) _) (fun hH => ?_)
         try simp only [pS]
         have HF : Hid (Fq No wk9 (wk54.setRow gk49 (Bl.cells ⟨⟨pn, pc⟩, ⟨pa, pl, pk⟩⟩)) [(gk49, 144, Bl.cells ⟨⟨pn, pc⟩, ⟨pa, pl, pk⟩⟩), (gk53, 72, Rz.cells rzZ)]) := HF.out.set 0 rfl _
         generalize wk54.setRow gk49 (Bl.cells ⟨⟨pn, pc⟩, ⟨pa, pl, pk⟩⟩) = wk55 at HF hH ⊢
         refine xS 17 72 ⟨gk53, 0, none⟩ (.agg (Rz.cells ⟨er, enZ, slZ, ⟨da, dl, dc⟩, 0, ⟨sn, sc⟩, 0⟩)) (w' := wk55.setRow gk53 (Rz.cells ⟨er, enZ, slZ, ⟨da, dl, dc⟩, 0, ⟨sn, sc⟩, 0⟩)) (rs (Rz.cs rzZ) (Rz.cs ⟨er, enZ, slZ, ⟨da, dl, dc⟩, 0, ⟨sn, sc⟩, 0⟩) (Rz.cs ⟨er, enZ, slZ, ⟨da, dl, dc⟩, 0, ⟨sn, sc⟩, 0⟩) (HF.out.box 1 _ _ _ rfl) S90 (Rz.oneL _)) (hH.newRow ((HF.out.low 1 _ _ _ rfl).elim id (fun e => e.elim)) _) (fun hH => ?_)
         try simp only [pS]
         have HF : Hid (Fq No wk9 (wk55.setRow gk53 (Rz.cells ⟨er, enZ, slZ, ⟨da, dl, dc⟩, 0, ⟨sn, sc⟩, 0⟩)) [(gk49, 144, Bl.cells ⟨⟨pn, pc⟩, ⟨pa, pl, pk⟩⟩), (gk53, 72, Rz.cells ⟨er, enZ, slZ, ⟨da, dl, dc⟩, 0, ⟨sn, sc⟩, 0⟩)]) := HF.out.set 1 rfl _
         generalize wk55.setRow gk53 (Rz.cells ⟨er, enZ, slZ, ⟨da, dl, dc⟩, 0, ⟨sn, sc⟩, 0⟩) = wk56 at HF hH ⊢
         refine xV 18 9 (.bool en) hH ?_
         try simp only [pS]
         refine wpAnyH_done (by kernel_rfl) ?_ _
         try simp only [pS]
         clear hH
         exact hh _ _ _ ⟨HF.out.kept, HF.out.box 0 _ _ _ rfl, HF.out.box 1 _ _ _ rfl, (HF.out.low 0 _ _ _ rfl).elim id (fun e => e.elim), (HF.out.low 1 _ _ _ rfl).elim id (fun e => e.elim)⟩
        ·skip
         clear hi
         refine step_run (i := 15) (o := { dst := some 8, op := Op.alloc 72, type := 0, pos := "phase.go:55", after := #[], guard := none }) rfl (by kernel_rfl) (exec_alloc 72 rfl (Rz.cells rzZ) Z90) (hH.alloc _) (fun hH => ?_)
         try simp only [pS]
         have HF : Hid (Fq No wk9 (wk51.alloc (.cells (Rz.cells rzZ) 72)) [(gk49, 144, Bl.cells blZ), (wk51.heap.size, 72, Rz.cells rzZ)]) := HF.out.alloc _ _
         generalize wk51.alloc (.cells (Rz.cells rzZ) 72) = wk58 at HF hH ⊢
         generalize wk51.heap.size = gk57 at HF ⊢
         refine xC 9 37 97 #[.agg #[.int .i64 sz], bkV G, .bool AL] (HSe.out wk58) ?_
         rintro e wk59 ⟨rfl, hk⟩
         have hH2 : Kept No wk9 wk59 := hH.then hk
         have HF : Hid (Fq No wk9 (wk59) [(gk49, 144, Bl.cells blZ), (gk57, 72, Rz.cells rzZ)]) := HF.out.no hk
         clear hk
         refine ⟨.tuple #[.agg #[.int .i64 pn, .int .i64 pc, .slice pa pl pk], .agg (resC er sn sc da dl dc), .bool en], rfl, hH2, fun hH => ?_⟩
         clear hH2
         try simp only [pS]
         refine xV 10 27 (.tuple #[.agg #[.int .i64 pn, .int .i64 pc, .slice pa pl pk], .agg (resC er sn sc da dl dc), .bool en]) hH <| xV 11 38 (.agg (Bl.cells ⟨⟨pn, pc⟩, ⟨pa, pl, pk⟩⟩)) hH <| xV 12 39 (.agg (Rz.cells ⟨er, enZ, slZ, ⟨da, dl, dc⟩, 0, ⟨sn, sc⟩, 0⟩)) hH <| xV 13 40 (.bool en) hH <| ?_
         try simp only [pS]
         refine xS 16 144 ⟨gk49, 0, none⟩ (.agg (Bl.cells ⟨⟨pn, pc⟩, ⟨pa, pl, pk⟩⟩)) (w' := wk59.setRow gk49 (Bl.cells ⟨⟨pn, pc⟩, ⟨pa, pl, pk⟩⟩)) (rs (Bl.cs blZ) (Bl.cs ⟨⟨pn, pc⟩, ⟨pa, pl, pk⟩⟩) (Bl.cs ⟨⟨pn, pc⟩, ⟨pa, pl, pk⟩⟩) (HF.out.box 0 _ _ _ rfl) S57 (Bl.oneL _)) (hH.newRow ((HF.out.low 0 _ _ _ rfl).elim id (fun e => e.elim)) _) (fun hH => ?_)
         try simp only [pS]
         have HF : Hid (Fq No wk9 (wk59.setRow gk49 (Bl.cells ⟨⟨pn, pc⟩, ⟨pa, pl, pk⟩⟩)) [(gk49, 144, Bl.cells ⟨⟨pn, pc⟩, ⟨pa, pl, pk⟩⟩), (gk57, 72, Rz.cells rzZ)]) := HF.out.set 0 rfl _
         generalize wk59.setRow gk49 (Bl.cells ⟨⟨pn, pc⟩, ⟨pa, pl, pk⟩⟩) = wk60 at HF hH ⊢
         refine xS 17 72 ⟨gk57, 0, none⟩ (.agg (Rz.cells ⟨er, enZ, slZ, ⟨da, dl, dc⟩, 0, ⟨sn, sc⟩, 0⟩)) (w' := wk60.setRow gk57 (Rz.cells ⟨er, enZ, slZ, ⟨da, dl, dc⟩, 0, ⟨sn, sc⟩, 0⟩)) (rs (Rz.cs rzZ) (Rz.cs ⟨er, enZ, slZ, ⟨da, dl, dc⟩, 0, ⟨sn, sc⟩, 0⟩) (Rz.cs ⟨er, enZ, slZ, ⟨da, dl, dc⟩, 0, ⟨sn, sc⟩, 0⟩) (HF.out.box 1 _ _ _ rfl) S90 (Rz.oneL _)) (hH.newRow ((HF.out.low 1 _ _ _ rfl).elim id (fun e => e.elim)) _) (fun hH => ?_)
         try simp only [pS]
         have HF : Hid (Fq No wk9 (wk60.setRow gk57 (Rz.cells ⟨er, enZ, slZ, ⟨da, dl, dc⟩, 0, ⟨sn, sc⟩, 0⟩)) [(gk49, 144, Bl.cells ⟨⟨pn, pc⟩, ⟨pa, pl, pk⟩⟩), (gk57, 72, Rz.cells ⟨er, enZ, slZ, ⟨da, dl, dc⟩, 0, ⟨sn, sc⟩, 0⟩)]) := HF.out.set 1 rfl _
         generalize wk60.setRow gk57 (Rz.cells ⟨er, enZ, slZ, ⟨da, dl, dc⟩, 0, ⟨sn, sc⟩, 0⟩) = wk61 at HF hH ⊢
         refine xV 18 9 (.bool en) hH ?_
         try simp only [pS]
         refine wpAnyH_done (by kernel_rfl) ?_ _
         try simp only [pS]
         clear hH
         exact hh _ _ _ ⟨HF.out.kept, HF.out.box 0 _ _ _ rfl, HF.out.box 1 _ _ _ rfl, (HF.out.low 0 _ _ _ rfl).elim id (fun e => e.elim), (HF.out.low 1 _ _ _ rfl).elim id (fun e => e.elim)⟩
       ·skip
        clear hi
        refine step_run (i := 15) (o := { dst := some 8, op := Op.alloc 72, type := 0, pos := "phase.go:55", after := #[], guard := none }) rfl (by kernel_rfl) (exec_alloc 72 rfl (Rz.cells rzZ) Z90) (hH.alloc _) (fun hH => ?_)
        try simp only [pS]
        have HF : Hid (Fq No wk9 (wk50.alloc (.cells (Rz.cells rzZ) 72)) [(gk49, 144, Bl.cells blZ), (wk50.heap.size, 72, Rz.cells rzZ)]) := HF.out.alloc _ _
        generalize wk50.alloc (.cells (Rz.cells rzZ) 72) = wk63 at HF hH ⊢
        generalize wk50.heap.size = gk62 at HF ⊢
        refine xC 4 32 84 #[.pointer (some ⟨tb, 0, none⟩)] (HGr.out wk63 HF.out.kept) ?_
        rintro e wk64 ⟨rfl, hk⟩
        have hH2 : Kept No wk9 wk64 := hH.then hk
        have HF : Hid (Fq No wk9 (wk64) [(gk49, 144, Bl.cells blZ), (gk62, 72, Rz.cells rzZ)]) := HF.out.no hk
        clear hk
        refine ⟨.tuple #[bkV G, .bool AL], rfl, hH2, fun hH => ?_⟩
        clear hH2
        try simp only [pS]
        refine xV 5 33 (bkV G) hH <| xV 6 34 (.bool AL) hH <| ?_
        try simp only [pS]
        refine xC 9 37 97 #[.agg #[.int .i64 sz], bkV G, .bool AL] (HSe.out wk64) ?_
        rintro e wk65 ⟨rfl, hk⟩
        have hH2 : Kept No wk9 wk65 := hH.then hk
        have HF : Hid (Fq No wk9 (wk65) [(gk49, 144, Bl.cells blZ), (gk62, 72, Rz.cells rzZ)]) := HF.out.no hk
        clear hk
        refine ⟨.tuple #[.agg #[.int .i64 pn, .int .i64 pc, .slice pa pl pk], .agg (resC er sn sc da dl dc), .bool en], rfl, hH2, fun hH => ?_⟩
        clear hH2
        try simp only [pS]
        refine xV 10 27 (.tuple #[.agg #[.int .i64 pn, .int .i64 pc, .slice pa pl pk], .agg (resC er sn sc da dl dc), .bool en]) hH <| xV 11 38 (.agg (Bl.cells ⟨⟨pn, pc⟩, ⟨pa, pl, pk⟩⟩)) hH <| xV 12 39 (.agg (Rz.cells ⟨er, enZ, slZ, ⟨da, dl, dc⟩, 0, ⟨sn, sc⟩, 0⟩)) hH <| xV 13 40 (.bool en) hH <| ?_
        try simp only [pS]
        refine xS 16 144 ⟨gk49, 0, none⟩ (.agg (Bl.cells ⟨⟨pn, pc⟩, ⟨pa, pl, pk⟩⟩)) (w' := wk65.setRow gk49 (Bl.cells ⟨⟨pn, pc⟩, ⟨pa, pl, pk⟩⟩)) (rs (Bl.cs blZ) (Bl.cs ⟨⟨pn, pc⟩, ⟨pa, pl, pk⟩⟩) (Bl.cs ⟨⟨pn, pc⟩, ⟨pa, pl, pk⟩⟩) (HF.out.box 0 _ _ _ rfl) S57 (Bl.oneL _)) (hH.newRow ((HF.out.low 0 _ _ _ rfl).elim id (fun e => e.elim)) _) (fun hH => ?_)
        try simp only [pS]
        have HF : Hid (Fq No wk9 (wk65.setRow gk49 (Bl.cells ⟨⟨pn, pc⟩, ⟨pa, pl, pk⟩⟩)) [(gk49, 144, Bl.cells ⟨⟨pn, pc⟩, ⟨pa, pl, pk⟩⟩), (gk62, 72, Rz.cells rzZ)]) := HF.out.set 0 rfl _
        generalize wk65.setRow gk49 (Bl.cells ⟨⟨pn, pc⟩, ⟨pa, pl, pk⟩⟩) = wk66 at HF hH ⊢
        refine xS 17 72 ⟨gk62, 0, none⟩ (.agg (Rz.cells ⟨er, enZ, slZ, ⟨da, dl, dc⟩, 0, ⟨sn, sc⟩, 0⟩)) (w' := wk66.setRow gk62 (Rz.cells ⟨er, enZ, slZ, ⟨da, dl, dc⟩, 0, ⟨sn, sc⟩, 0⟩)) (rs (Rz.cs rzZ) (Rz.cs ⟨er, enZ, slZ, ⟨da, dl, dc⟩, 0, ⟨sn, sc⟩, 0⟩) (Rz.cs ⟨er, enZ, slZ, ⟨da, dl, dc⟩, 0, ⟨sn, sc⟩, 0⟩) (HF.out.box 1 _ _ _ rfl) S90 (Rz.oneL _)) (hH.newRow ((HF.out.low 1 _ _ _ rfl).elim id (fun e => e.elim)) _) (fun hH => ?_)
        try simp only [pS]
        have HF : Hid (Fq No wk9 (wk66.setRow gk62 (Rz.cells ⟨er, enZ, slZ, ⟨da, dl, dc⟩, 0, ⟨sn, sc⟩, 0⟩)) [(gk49, 144, Bl.cells ⟨⟨pn, pc⟩, ⟨pa, pl, pk⟩⟩), (gk62, 72, Rz.cells ⟨er, enZ, slZ, ⟨da, dl, dc⟩, 0, ⟨sn, sc⟩, 0⟩)]) := HF.out.set 1 rfl _
        generalize wk66.setRow gk62 (Rz.cells ⟨er, enZ, slZ, ⟨da, dl, dc⟩, 0, ⟨sn, sc⟩, 0⟩) = wk67 at HF hH ⊢
        refine xV 18 9 (.bool en) hH ?_
        try simp only [pS]
        refine wpAnyH_done (by kernel_rfl) ?_ _
        try simp only [pS]
        clear hH
        exact hh _ _ _ ⟨HF.out.kept, HF.out.box 0 _ _ _ rfl, HF.out.box 1 _ _ _ rfl, (HF.out.low 0 _ _ _ rfl).elim id (fun e => e.elim), (HF.out.low 1 _ _ _ rfl).elim id (fun e => e.elim)⟩
      ·skip
       clear hi
       refine step_run (i := 15) (o := { dst := some 8, op := Op.alloc 72, type := 0, pos := "phase.go:55", after := #[], guard := none }) rfl (by kernel_rfl) (exec_alloc 72 rfl (Rz.cells rzZ) Z90) (hH.alloc _) (fun hH => ?_)
       try simp only [pS]
       have HF : Hid (Fq No wk9 (wk10.alloc (.cells (Rz.cells rzZ) 72)) [(wk10.heap.size, 72, Rz.cells rzZ)]) := HF.out.alloc _ _
       generalize wk10.alloc (.cells (Rz.cells rzZ) 72) = wk69 at HF hH ⊢
       generalize wk10.heap.size = gk68 at HF ⊢
       refine any_pick (rs := [4, 14]) (by kernel_rfl) (by simp) ?_
       intro i hi
       rcases pick2 hi with rfl | rfl
       ·skip
        clear hi
        refine step_call (i := 4) (o := { dst := some 32, op := Op.call { callee := Callee.value (Operand.func 84), args := #[Operand.tmp 31], argTypes := #[141] }, type := 157, pos := "phase.go:55", after := #[{ on := 3, ground := Ground.data }], guard := none }) rfl (by kernel_rfl) 84 #[.pointer (some ⟨tb, 0, none⟩)] (by kernel_rfl) _ (HGr.out wk69 HF.out.kept) ?_
        rintro e wk70 ⟨rfl, hk⟩
        have hH2 : Kept No wk9 wk70 := hH.then hk
        have HF : Hid (Fq No wk9 (wk70) [(gk68, 72, Rz.cells rzZ)]) := HF.out.no hk
        clear hk
        refine ⟨.tuple #[bkV G, .bool AL], rfl, hH2, fun hH => ?_⟩
        clear hH2
        try simp only [pS]
        refine xV 5 33 (bkV G) hH <| xV 6 34 (.bool AL) hH <| ?_
        try simp only [pS]
        refine any_pick (rs := [9, 14]) (by kernel_rfl) (by simp) ?_
        intro i hi
        rcases pick2 hi with rfl | rfl
        ·skip
         clear hi
         refine step_call (i := 9) (o := { dst := some 37, op := Op.call { callee := Callee.invoke (Operand.tmp 36) "cairn/register.settle", args := #[Operand.tmp 33, Operand.tmp 34], argTypes := #[144, 4] }, type := 156, pos := "phase.go:55", after := #[{ on := 8, ground := Ground.data }, { on := 5, ground := Ground.data }, { on := 6, ground := Ground.data }, { on := 4, ground := Ground.chain }], guard := none }) rfl (by kernel_rfl) 97 #[.agg #[.int .i64 sz], bkV G, .bool AL] (by kernel_rfl) _ (HSe.out wk70) ?_
         rintro e wk71 ⟨rfl, hk⟩
         have hH2 : Kept No wk9 wk71 := hH.then hk
         have HF : Hid (Fq No wk9 (wk71) [(gk68, 72, Rz.cells rzZ)]) := HF.out.no hk
         clear hk
         refine ⟨.tuple #[.agg #[.int .i64 pn, .int .i64 pc, .slice pa pl pk], .agg (resC er sn sc da dl dc), .bool en], rfl, hH2, fun hH => ?_⟩
         clear hH2
         try simp only [pS]
         refine xV 10 27 (.tuple #[.agg #[.int .i64 pn, .int .i64 pc, .slice pa pl pk], .agg (resC er sn sc da dl dc), .bool en]) hH <| xV 11 38 (.agg (Bl.cells ⟨⟨pn, pc⟩, ⟨pa, pl, pk⟩⟩)) hH <| xV 12 39 (.agg (Rz.cells ⟨er, enZ, slZ, ⟨da, dl, dc⟩, 0, ⟨sn, sc⟩, 0⟩)) hH <| xV 13 40 (.bool en) hH <| ?_
         try simp only [pS]
         refine any_step (i := 14) (o := { dst := some 7, op := Op.alloc 144, type := 0, pos := "phase.go:55", after := #[], guard := none }) rfl (by kernel_rfl) (by kernel_rfl) (exec_alloc 144 rfl (Bl.cells blZ) Z57) (hH.alloc _) (fun hH => ?_)
         try simp only [pS]
         have HF : Hid (Fq No wk9 (wk71.alloc (.cells (Bl.cells blZ) 144)) [(gk68, 72, Rz.cells rzZ), (wk71.heap.size, 144, Bl.cells blZ)]) := HF.out.alloc _ _
         generalize wk71.alloc (.cells (Bl.cells blZ) 144) = wk73 at HF hH ⊢
         generalize wk71.heap.size = gk72 at HF ⊢
         refine xS 16 144 ⟨gk72, 0, none⟩ (.agg (Bl.cells ⟨⟨pn, pc⟩, ⟨pa, pl, pk⟩⟩)) (w' := wk73.setRow gk72 (Bl.cells ⟨⟨pn, pc⟩, ⟨pa, pl, pk⟩⟩)) (rs (Bl.cs blZ) (Bl.cs ⟨⟨pn, pc⟩, ⟨pa, pl, pk⟩⟩) (Bl.cs ⟨⟨pn, pc⟩, ⟨pa, pl, pk⟩⟩) (HF.out.box 1 _ _ _ rfl) S57 (Bl.oneL _)) (hH.newRow ((HF.out.low 1 _ _ _ rfl).elim id (fun e => e.elim)) _) (fun hH => ?_)
         try simp only [pS]
         have HF : Hid (Fq No wk9 (wk73.setRow gk72 (Bl.cells ⟨⟨pn, pc⟩, ⟨pa, pl, pk⟩⟩)) [(gk68, 72, Rz.cells rzZ), (gk72, 144, Bl.cells ⟨⟨pn, pc⟩, ⟨pa, pl, pk⟩⟩)]) := HF.out.set 1 rfl _
         generalize wk73.setRow gk72 (Bl.cells ⟨⟨pn, pc⟩, ⟨pa, pl, pk⟩⟩) = wk74 at HF hH ⊢
         refine xS 17 72 ⟨gk68, 0, none⟩ (.agg (Rz.cells ⟨er, enZ, slZ, ⟨da, dl, dc⟩, 0, ⟨sn, sc⟩, 0⟩)) (w' := wk74.setRow gk68 (Rz.cells ⟨er, enZ, slZ, ⟨da, dl, dc⟩, 0, ⟨sn, sc⟩, 0⟩)) (rs (Rz.cs rzZ) (Rz.cs ⟨er, enZ, slZ, ⟨da, dl, dc⟩, 0, ⟨sn, sc⟩, 0⟩) (Rz.cs ⟨er, enZ, slZ, ⟨da, dl, dc⟩, 0, ⟨sn, sc⟩, 0⟩) (HF.out.box 0 _ _ _ rfl) S90 (Rz.oneL _)) (hH.newRow ((HF.out.low 0 _ _ _ rfl).elim id (fun e => e.elim)) _) (fun hH => ?_)
         try simp only [pS]
         have HF : Hid (Fq No wk9 (wk74.setRow gk68 (Rz.cells ⟨er, enZ, slZ, ⟨da, dl, dc⟩, 0, ⟨sn, sc⟩, 0⟩)) [(gk68, 72, Rz.cells ⟨er, enZ, slZ, ⟨da, dl, dc⟩, 0, ⟨sn, sc⟩, 0⟩), (gk72, 144, Bl.cells ⟨⟨pn, pc⟩, ⟨pa, pl, pk⟩⟩)]) := HF.out.set 0 rfl _
         generalize wk74.setRow gk68 (Rz.cells ⟨er, enZ, slZ, ⟨da, dl, dc⟩, 0, ⟨sn, sc⟩, 0⟩) = wk75 at HF hH ⊢
         refine xV 18 9 (.bool en) hH ?_
         try simp only [pS]
         refine wpAnyH_done (by kernel_rfl) ?_ _
         try simp only [pS]
         clear hH
         exact hh _ _ _ ⟨HF.out.kept, HF.out.box 1 _ _ _ rfl, HF.out.box 0 _ _ _ rfl, (HF.out.low 1 _ _ _ rfl).elim id (fun e => e.elim), (HF.out.low 0 _ _ _ rfl).elim id (fun e => e.elim)⟩
        ·skip
         clear hi
         refine step_run (i := 14) (o := { dst := some 7, op := Op.alloc 144, type := 0, pos := "phase.go:55", after := #[], guard := none }) rfl (by kernel_rfl) (exec_alloc 144 rfl (Bl.cells blZ) Z57) (hH.alloc _) (fun hH => ?_)
         try simp only [pS]
         have HF : Hid (Fq No wk9 (wk70.alloc (.cells (Bl.cells blZ) 144)) [(gk68, 72, Rz.cells rzZ), (wk70.heap.size, 144, Bl.cells blZ)]) := HF.out.alloc _ _
         generalize wk70.alloc (.cells (Bl.cells blZ) 144) = wk77 at HF hH ⊢
         generalize wk70.heap.size = gk76 at HF ⊢
         refine xC 9 37 97 #[.agg #[.int .i64 sz], bkV G, .bool AL] (HSe.out wk77) ?_
         rintro e wk78 ⟨rfl, hk⟩
         have hH2 : Kept No wk9 wk78 := hH.then hk
         have HF : Hid (Fq No wk9 (wk78) [(gk68, 72, Rz.cells rzZ), (gk76, 144, Bl.cells blZ)]) := HF.out.no hk
         clear hk
         refine ⟨.tuple #[.agg #[.int .i64 pn, .int .i64 pc, .slice pa pl pk], .agg (resC er sn sc da dl dc), .bool en], rfl, hH2, fun hH => ?_⟩
         clear hH2
         try simp only [pS]
         refine xV 10 27 (.tuple #[.agg #[.int .i64 pn, .int .i64 pc, .slice pa pl pk], .agg (resC er sn sc da dl dc), .bool en]) hH <| xV 11 38 (.agg (Bl.cells ⟨⟨pn, pc⟩, ⟨pa, pl, pk⟩⟩)) hH <| xV 12 39 (.agg (Rz.cells ⟨er, enZ, slZ, ⟨da, dl, dc⟩, 0, ⟨sn, sc⟩, 0⟩)) hH <| xV 13 40 (.bool en) hH <| ?_
         try simp only [pS]
         refine xS 16 144 ⟨gk76, 0, none⟩ (.agg (Bl.cells ⟨⟨pn, pc⟩, ⟨pa, pl, pk⟩⟩)) (w' := wk78.setRow gk76 (Bl.cells ⟨⟨pn, pc⟩, ⟨pa, pl, pk⟩⟩)) (rs (Bl.cs blZ) (Bl.cs ⟨⟨pn, pc⟩, ⟨pa, pl, pk⟩⟩) (Bl.cs ⟨⟨pn, pc⟩, ⟨pa, pl, pk⟩⟩) (HF.out.box 1 _ _ _ rfl) S57 (Bl.oneL _)) (hH.newRow ((HF.out.low 1 _ _ _ rfl).elim id (fun e => e.elim)) _) (fun hH => ?_)
         try simp only [pS]
         have HF : Hid (Fq No wk9 (wk78.setRow gk76 (Bl.cells ⟨⟨pn, pc⟩, ⟨pa, pl, pk⟩⟩)) [(gk68, 72, Rz.cells rzZ), (gk76, 144, Bl.cells ⟨⟨pn, pc⟩, ⟨pa, pl, pk⟩⟩)]) := HF.out.set 1 rfl _
         generalize wk78.setRow gk76 (Bl.cells ⟨⟨pn, pc⟩, ⟨pa, pl, pk⟩⟩) = wk79 at HF hH ⊢
         refine xS 17 72 ⟨gk68, 0, none⟩ (.agg (Rz.cells ⟨er, enZ, slZ, ⟨da, dl, dc⟩, 0, ⟨sn, sc⟩, 0⟩)) (w' := wk79.setRow gk68 (Rz.cells ⟨er, enZ, slZ, ⟨da, dl, dc⟩, 0, ⟨sn, sc⟩, 0⟩)) (rs (Rz.cs rzZ) (Rz.cs ⟨er, enZ, slZ, ⟨da, dl, dc⟩, 0, ⟨sn, sc⟩, 0⟩) (Rz.cs ⟨er, enZ, slZ, ⟨da, dl, dc⟩, 0, ⟨sn, sc⟩, 0⟩) (HF.out.box 0 _ _ _ rfl) S90 (Rz.oneL _)) (hH.newRow ((HF.out.low 0 _ _ _ rfl).elim id (fun e => e.elim)) _) (fun hH => ?_)
         try simp only [pS]
         have HF : Hid (Fq No wk9 (wk79.setRow gk68 (Rz.cells ⟨er, enZ, slZ, ⟨da, dl, dc⟩, 0, ⟨sn, sc⟩, 0⟩)) [(gk68, 72, Rz.cells ⟨er, enZ, slZ, ⟨da, dl, dc⟩, 0, ⟨sn, sc⟩, 0⟩), (gk76, 144, Bl.cells ⟨⟨pn, pc⟩, ⟨pa, pl, pk⟩⟩)]) := HF.out.set 0 rfl _
         generalize wk79.setRow gk68 (Rz.cells ⟨er, enZ, slZ, ⟨da, dl, dc⟩, 0, ⟨sn, sc⟩, 0⟩) = wk80 at HF hH ⊢
         refine xV 18 9 (.bool en) hH ?_
         try simp only [pS]
         refine wpAnyH_done (by kernel_rfl) ?_ _
         try simp only [pS]
         clear hH
         exact hh _ _ _ ⟨HF.out.kept, HF.out.box 1 _ _ _ rfl, HF.out.box 0 _ _ _ rfl, (HF.out.low 1 _ _ _ rfl).elim id (fun e => e.elim), (HF.out.low 0 _ _ _ rfl).elim id (fun e => e.elim)⟩
       ·skip
        clear hi
        refine step_run (i := 14) (o := { dst := some 7, op := Op.alloc 144, type := 0, pos := "phase.go:55", after := #[], guard := none }) rfl (by kernel_rfl) (exec_alloc 144 rfl (Bl.cells blZ) Z57) (hH.alloc _) (fun hH => ?_)
        try simp only [pS]
        have HF : Hid (Fq No wk9 (wk69.alloc (.cells (Bl.cells blZ) 144)) [(gk68, 72, Rz.cells rzZ), (wk69.heap.size, 144, Bl.cells blZ)]) := HF.out.alloc _ _
        generalize wk69.alloc (.cells (Bl.cells blZ) 144) = wk82 at HF hH ⊢
        generalize wk69.heap.size = gk81 at HF ⊢
        refine xC 4 32 84 #[.pointer (some ⟨tb, 0, none⟩)] (HGr.out wk82 HF.out.kept) ?_
        rintro e wk83 ⟨rfl, hk⟩
        have hH2 : Kept No wk9 wk83 := hH.then hk
        have HF : Hid (Fq No wk9 (wk83) [(gk68, 72, Rz.cells rzZ), (gk81, 144, Bl.cells blZ)]) := HF.out.no hk
        clear hk
        refine ⟨.tuple #[bkV G, .bool AL], rfl, hH2, fun hH => ?_⟩
        clear hH2
        try simp only [pS]
        refine xV 5 33 (bkV G) hH <| xV 6 34 (.bool AL) hH <| ?_
        try simp only [pS]
        refine xC 9 37 97 #[.agg #[.int .i64 sz], bkV G, .bool AL] (HSe.out wk83) ?_
        rintro e wk84 ⟨rfl, hk⟩
        have hH2 : Kept No wk9 wk84 := hH.then hk
        have HF : Hid (Fq No wk9 (wk84) [(gk68, 72, Rz.cells rzZ), (gk81, 144, Bl.cells blZ)]) := HF.out.no hk
        clear hk
        refine ⟨.tuple #[.agg #[.int .i64 pn, .int .i64 pc, .slice pa pl pk], .agg (resC er sn sc da dl dc), .bool en], rfl, hH2, fun hH => ?_⟩
        clear hH2
        try simp only [pS]
        refine xV 10 27 (.tuple #[.agg #[.int .i64 pn, .int .i64 pc, .slice pa pl pk], .agg (resC er sn sc da dl dc), .bool en]) hH <| xV 11 38 (.agg (Bl.cells ⟨⟨pn, pc⟩, ⟨pa, pl, pk⟩⟩)) hH <| xV 12 39 (.agg (Rz.cells ⟨er, enZ, slZ, ⟨da, dl, dc⟩, 0, ⟨sn, sc⟩, 0⟩)) hH <| xV 13 40 (.bool en) hH <| ?_
        try simp only [pS]
        refine xS 16 144 ⟨gk81, 0, none⟩ (.agg (Bl.cells ⟨⟨pn, pc⟩, ⟨pa, pl, pk⟩⟩)) (w' := wk84.setRow gk81 (Bl.cells ⟨⟨pn, pc⟩, ⟨pa, pl, pk⟩⟩)) (rs (Bl.cs blZ) (Bl.cs ⟨⟨pn, pc⟩, ⟨pa, pl, pk⟩⟩) (Bl.cs ⟨⟨pn, pc⟩, ⟨pa, pl, pk⟩⟩) (HF.out.box 1 _ _ _ rfl) S57 (Bl.oneL _)) (hH.newRow ((HF.out.low 1 _ _ _ rfl).elim id (fun e => e.elim)) _) (fun hH => ?_)
        try simp only [pS]
        have HF : Hid (Fq No wk9 (wk84.setRow gk81 (Bl.cells ⟨⟨pn, pc⟩, ⟨pa, pl, pk⟩⟩)) [(gk68, 72, Rz.cells rzZ), (gk81, 144, Bl.cells ⟨⟨pn, pc⟩, ⟨pa, pl, pk⟩⟩)]) := HF.out.set 1 rfl _
        generalize wk84.setRow gk81 (Bl.cells ⟨⟨pn, pc⟩, ⟨pa, pl, pk⟩⟩) = wk85 at HF hH ⊢
        refine xS 17 72 ⟨gk68, 0, none⟩ (.agg (Rz.cells ⟨er, enZ, slZ, ⟨da, dl, dc⟩, 0, ⟨sn, sc⟩, 0⟩)) (w' := wk85.setRow gk68 (Rz.cells ⟨er, enZ, slZ, ⟨da, dl, dc⟩, 0, ⟨sn, sc⟩, 0⟩)) (rs (Rz.cs rzZ) (Rz.cs ⟨er, enZ, slZ, ⟨da, dl, dc⟩, 0, ⟨sn, sc⟩, 0⟩) (Rz.cs ⟨er, enZ, slZ, ⟨da, dl, dc⟩, 0, ⟨sn, sc⟩, 0⟩) (HF.out.box 0 _ _ _ rfl) S90 (Rz.oneL _)) (hH.newRow ((HF.out.low 0 _ _ _ rfl).elim id (fun e => e.elim)) _) (fun hH => ?_)
        try simp only [pS]
        have HF : Hid (Fq No wk9 (wk85.setRow gk68 (Rz.cells ⟨er, enZ, slZ, ⟨da, dl, dc⟩, 0, ⟨sn, sc⟩, 0⟩)) [(gk68, 72, Rz.cells ⟨er, enZ, slZ, ⟨da, dl, dc⟩, 0, ⟨sn, sc⟩, 0⟩), (gk81, 144, Bl.cells ⟨⟨pn, pc⟩, ⟨pa, pl, pk⟩⟩)]) := HF.out.set 0 rfl _
        generalize wk85.setRow gk68 (Rz.cells ⟨er, enZ, slZ, ⟨da, dl, dc⟩, 0, ⟨sn, sc⟩, 0⟩) = wk86 at HF hH ⊢
        refine xV 18 9 (.bool en) hH ?_
        try simp only [pS]
        refine wpAnyH_done (by kernel_rfl) ?_ _
        try simp only [pS]
        clear hH
        exact hh _ _ _ ⟨HF.out.kept, HF.out.box 1 _ _ _ rfl, HF.out.box 0 _ _ _ rfl, (HF.out.low 1 _ _ _ rfl).elim id (fun e => e.elim), (HF.out.low 0 _ _ _ rfl).elim id (fun e => e.elim)⟩
    case tail =>
      have HF2 : Hid (Fq No wk9 W [(A, 144, Bl.cells ⟨⟨pn, pc⟩, ⟨pa, pl, pk⟩⟩), (B, 72, Rz.cells ⟨er, enZ, slZ, ⟨da, dl, dc⟩, 0, ⟨sn, sc⟩, 0⟩)]) := ⟨hJ.1, fun i g' T cs hi => by
        match i, hi with
        | 0, hi => cases hi; exact hJ.2.1
        | 1, hi => cases hi; exact hJ.2.2.1, fun i g' T cs hi => by
        match i, hi with
        | 0, hi => cases hi; exact .inl hJ.2.2.2.1
        | 1, hi => cases hi; exact .inl hJ.2.2.2.2, fun i j g' T cs T' cs' hi hj => by
        match i, j, hi, hj with
        | 0, 0, _, _ => rfl
        | 1, 1, _, _ => rfl
        | 0, 1, hi, hj => cases hi; cases hj; exact absurd rfl (box_ne hJ.2.1 hJ.2.2.1 (by decide))
        | 1, 0, hi, hj => cases hi; cases hj; exact absurd rfl (box_ne hJ.2.1 hJ.2.2.1 (by decide))⟩
      clear hJ HF hH
      have HF := HF2
      clear HF2
      go_upto_region 4 with fail
      refine WL.start <| uK (.bool en) <| WL.nil <| ?_
      try simp only [pS]
      cases q3 : (en)
      ·skip
       try simp only [q3]
       have HZl := HZl.out q3
       have HBy := HBy.out q3
       have HZl : Hid ((pz b).length = pl ∧ pl ≤ 140737488355328) := HZl
       have HBy : Hid (Bytes wk9 pa (pz b) ∧ ¬ At pa m) := HBy
       go_upto_region 6 with fail
       refine WL.start <| uK (.pointer (some ⟨m, 0, none⟩)) <| uK (.pointer (some ⟨m, 0, none⟩)) <| uK (.pointer (some ⟨m, 8, none⟩)) <| uL 3 ⟨m, 8, none⟩ (.int .i64 x.rd) (load_one ((HMb.out.box.kept HF.out.kept (fun e => e)).cell 8 |>.trans (by kernel_rfl)) U3 rfl) <| ?_
       try simp only [pS]
       cases q4 : (x.rd == 1099511627776)
       ·skip
        refine uB .eql 3 (.int .i64 x.rd) (.int .i64 1099511627776) (.bool false) (by rw [b_eql, q4]; try rfl) <| WL.nil <| ?_
        try simp only [pS]
        go_upto_region 8 with fail
        refine WL.start <| uK (.pointer (some ⟨m, 0, none⟩)) <| uK (.pointer (some ⟨m, 0, none⟩)) <| uK (.pointer (some ⟨m, 8, none⟩)) <| uL 3 ⟨m, 8, none⟩ (.int .i64 x.rd) (load_one ((HMb.out.box.kept HF.out.kept (fun e => e)).cell 8 |>.trans (by kernel_rfl)) U3 rfl) <| uB .add 3 (.int .i64 x.rd) (.int .i64 1) (.int .i64 (x.rd + 1)) (b_addw _ _ _ (by rw [IntKind.wrap_i64]; have := of_beq_f q4; omega) _) <| uK (.pointer (some ⟨m, 0, none⟩)) <| uK (.pointer (some ⟨m, 8, none⟩)) <| ?_
        try simp only [pS]
        have HBm : Hid (Box W m 109 ([.bool true, .int .i64 x.cl, .int .i64 x.op, .int .i64 x.k0, .int .i64 x.k1, .int .i64 x.k2, .int .i64 x.k3, .slice a x.g.length cap, .int .i64 x.rd, .iface 146 (.agg #[.iface 89 (.agg #[.int .i64 sz]), .pointer (some ⟨tb, 0, none⟩)])] : List Value).toArray) := HMb.out.box.kept HF.out.kept (fun e => e)
        refine uT 3 ⟨m, 8, none⟩ (.int .i64 (x.rd + 1)) (W.setRow m ([.bool true, .int .i64 x.cl, .int .i64 x.op, .int .i64 x.k0, .int .i64 x.k1, .int .i64 x.k2, .int .i64 x.k3, .slice a x.g.length cap, .int .i64 (x.rd + 1), .iface 146 (.agg #[.iface 89 (.agg #[.int .i64 sz]), .pointer (some ⟨tb, 0, none⟩)])] : List Value).toArray) (rs ([.bool true, .int .i64 x.cl, .int .i64 x.op, .int .i64 x.k0, .int .i64 x.k1, .int .i64 x.k2, .int .i64 x.k3, .slice a x.g.length cap, .int .i64 x.rd, .iface 146 (.agg #[.iface 89 (.agg #[.int .i64 sz]), .pointer (some ⟨tb, 0, none⟩)])]) ([.int .i64 (x.rd + 1)]) ([.bool true, .int .i64 x.cl, .int .i64 x.op, .int .i64 x.k0, .int .i64 x.k1, .int .i64 x.k2, .int .i64 x.k3, .slice a x.g.length cap, .int .i64 (x.rd + 1), .iface 146 (.agg #[.iface 89 (.agg #[.int .i64 sz]), .pointer (some ⟨tb, 0, none⟩)])]) HBm.out S3 (by simp [Value.oneCell'])) ?_
        try simp only [pS]
        have hPm : A ≠ m := box_ne (HF.out.box 0 _ _ _ rfl) HBm.out (by decide)
        have hRm : B ≠ m := box_ne (HF.out.box 1 _ _ _ rfl) HBm.out (by decide)
        have HMk : Hid (Mach (W.setRow m ([.bool true, .int .i64 x.cl, .int .i64 x.op, .int .i64 x.k0, .int .i64 x.k1, .int .i64 x.k2, .int .i64 x.k3, .slice a x.g.length cap, .int .i64 (x.rd + 1), .iface 146 (.agg #[.iface 89 (.agg #[.int .i64 sz]), .pointer (some ⟨tb, 0, none⟩)])] : List Value).toArray) m a cap { x with rd := x.rd + 1 } 146 (.agg #[.iface 89 (.agg #[.int .i64 sz]), .pointer (some ⟨tb, 0, none⟩)])) := ⟨HBm.out.setRow _, (HMb.out.no HF.out.kept).row.kept (Kept.setRow _ _ _) (fun k e f => (HMb.out.no HF.out.kept).off e f), HMb.out.nd, HMb.out.len⟩
        have HF2 : Hid (Fq (Only m) wk9 (W.setRow m ([.bool true, .int .i64 x.cl, .int .i64 x.op, .int .i64 x.k0, .int .i64 x.k1, .int .i64 x.k2, .int .i64 x.k3, .slice a x.g.length cap, .int .i64 (x.rd + 1), .iface 146 (.agg #[.iface 89 (.agg #[.int .i64 sz]), .pointer (some ⟨tb, 0, none⟩)])] : List Value).toArray) [(A, 144, Bl.cells ⟨⟨pn, pc⟩, ⟨pa, pl, pk⟩⟩), (B, 72, Rz.cells ⟨er, enZ, slZ, ⟨da, dl, dc⟩, 0, ⟨sn, sc⟩, 0⟩)]) := ⟨HF.out.kept.of_no.trans (Kept.setRow _ _ _) (fun _ e => e) (fun _ _ e => e), fun i g' T cs hi => (HF.out.box i g' T cs hi).rowNe (by
          match i, hi with
          | 0, hi => cases hi; exact hPm
          | 1, hi => cases hi; exact hRm) _, fun i g' T cs hi => .inl ((HF.out.low i g' T cs hi).elim id (fun e => e.elim)), HF.out.inj⟩
        clear HBm HF
        have HF := HF2
        clear HF2
        generalize (W.setRow m ([.bool true, .int .i64 x.cl, .int .i64 x.op, .int .i64 x.k0, .int .i64 x.k1, .int .i64 x.k2, .int .i64 x.k3, .slice a x.g.length cap, .int .i64 (x.rd + 1), .iface 146 (.agg #[.iface 89 (.agg #[.int .i64 sz]), .pointer (some ⟨tb, 0, none⟩)])] : List Value).toArray) = wk87 at HF HMk ⊢
        refine WL.nil ?_
        try simp only [pS]
        go_upto_region 9 with fail
        refine wp_region_held_drew (S := fun w' => Box w' A 144 (Bl.cells ⟨⟨pn, pc⟩, ⟨pa, pl, pk⟩⟩) ∧ Box w' B 72 (Rz.cells ⟨er, enZ, slZ, ⟨da, dl, dc⟩, 0, ⟨sn, sc⟩, 0⟩) ∧ w'.cell? ⟨m, 7, none⟩ = some (.slice a x.g.length cap)) rfl ⟨(HF.out.drew.box 0 _ _ _ rfl), (HF.out.drew.box 1 _ _ _ rfl), (HMk.out.no (Kept.refl No _).drew).box.cell 7⟩ (fun hH => ?_)
        have HMk : Hid (Mach wk87.drew m a cap { x with rd := x.rd + 1 } 146 (.agg #[.iface 89 (.agg #[.int .i64 sz]), .pointer (some ⟨tb, 0, none⟩)])) := HMk.out.no (Kept.refl No _).drew
        have HF : Hid (Fq (Only m) wk9 (wk87.drew) [(A, 144, Bl.cells ⟨⟨pn, pc⟩, ⟨pa, pl, pk⟩⟩), (B, 72, Rz.cells ⟨er, enZ, slZ, ⟨da, dl, dc⟩, 0, ⟨sn, sc⟩, 0⟩)]) := HF.out.drew
        generalize wk87.drew = wk88 at HF HMk hH ⊢
        refine xV 0 63 (.pointer (some ⟨m, 0, none⟩)) hH <| xL 1 64 144 ⟨A, 0, none⟩ (.agg (Bl.cells ⟨⟨pn, pc⟩, ⟨pa, pl, pk⟩⟩)) (fun _ hw => run_load_part (cs := Bl.cs ⟨⟨pn, pc⟩, ⟨pa, pl, pk⟩⟩) (sub := Bl.cs ⟨⟨pn, pc⟩, ⟨pa, pl, pk⟩⟩) (hw.1) (Part.all _) U57 rfl S57) hH <| xL 2 65 72 ⟨B, 0, none⟩ (.agg (Rz.cells ⟨er, enZ, slZ, ⟨da, dl, dc⟩, 0, ⟨sn, sc⟩, 0⟩)) (fun _ hw => run_load_part (cs := Rz.cs ⟨er, enZ, slZ, ⟨da, dl, dc⟩, 0, ⟨sn, sc⟩, 0⟩) (sub := Rz.cs ⟨er, enZ, slZ, ⟨da, dl, dc⟩, 0, ⟨sn, sc⟩, 0⟩) (hw.2.1) (Part.all _) U90 rfl S90) hH <| xV 3 66 (.pointer (some ⟨m, 0, none⟩)) hH <| xV 4 67 (.pointer (some ⟨m, 0, none⟩)) hH <| xV 5 68 (.pointer (some ⟨m, 7, none⟩)) hH <| ?_
        try simp only [pS]
        refine xL 6 69 24 ⟨m, 7, none⟩ (.slice a x.g.length cap) (fun _ hw => load_one (hw.2.2) U24 rfl) hH <| xV 7 70 (.pointer (some ⟨m, 0, none⟩)) hH <| ?_
        try simp only [pS]
        refine xC 8 71 75 #[.pointer (some ⟨m, 0, none⟩)] (need_any m a cap { x with rd := x.rd + 1 } 146 (.agg #[.iface 89 (.agg #[.int .i64 sz]), .pointer (some ⟨tb, 0, none⟩)]) wk88 HMk.out) ?_
        rintro e wq ⟨rfl, hwq⟩
        rw [hwq]
        clear hwq wq
        refine ⟨.int .i64 (needI x), rfl, hH, fun hH => ?_⟩
        try simp only [pS]
        refine xC 9 72 39 #[.slice a x.g.length cap, .int .i64 (needI x)] (new_anyU a x.g.length cap x.g (needI x) wk88 rfl (by omega) (HMk.out.row.nums rfl)) ?_
        rintro e wk89 ⟨ua, ut, rfl, hU, hUa, hk⟩
        have hH2 : Box wk89 A 144 (Bl.cells ⟨⟨pn, pc⟩, ⟨pa, pl, pk⟩⟩) ∧ Box wk89 B 72 (Rz.cells ⟨er, enZ, slZ, ⟨da, dl, dc⟩, 0, ⟨sn, sc⟩, 0⟩) ∧ wk89.cell? ⟨m, 7, none⟩ = some (.slice a x.g.length cap) := ⟨hH.1.kept hk (fun e => e), hH.2.1.kept hk (fun e => e), hk.cell hH.2.2 (fun e => e)⟩
        have HUl : Hid (∀ k, TB (wk88.heap.size + 1) wk88.heap.size ua k → ¬ Only m k) := fun k e f => by
          have h1 : m < wk88.heap.size := HMk.out.box.lt
          have f : k = m := f
          rcases e with e | e | e
          · omega
          · omega
          · have := hUa k e; omega
        have HUg : Hid (∀ k, TB (wk88.heap.size + 1) wk88.heap.size ua k → wk9.heap.size ≤ k) := fun k e => by
          have h1 : wk9.heap.size ≤ wk88.heap.size := HF.out.kept.size
          rcases e with e | e | e
          · omega
          · omega
          · have := hUa k e; omega
        have HU : Hid (Tal 113 ansU wk89 (wk88.heap.size + 1) wk88.heap.size ua ut (tNew Unit x.g (needI x))) := hU
        have HMk : Hid (Mach wk89 m a cap { x with rd := x.rd + 1 } 146 (.agg #[.iface 89 (.agg #[.int .i64 sz]), .pointer (some ⟨tb, 0, none⟩)])) := HMk.out.no hk
        have HF : Hid (Fq (Only m) wk9 (wk89) [(A, 144, Bl.cells ⟨⟨pn, pc⟩, ⟨pa, pl, pk⟩⟩), (B, 72, Rz.cells ⟨er, enZ, slZ, ⟨da, dl, dc⟩, 0, ⟨sn, sc⟩, 0⟩)]) := HF.out.no hk
        clear hU hUa hk
        generalize wk88.heap.size + 1 = ub at HU HUl HUg ⊢
        generalize wk88.heap.size = ubb at HU HUl HUg
        refine ⟨.pointer (some ⟨ub, 0, none⟩), rfl, hH2, fun hH => ?_⟩
        clear hH2
        try simp only [pS]
        refine xU 10 73 (.agg (laC pn pc pa pl pk er sn sc da dl dc ub)) (fun w' hw => exec_build 160 _ rfl (laC pn pc pa pl pk er sn sc da dl dc ub) (by kernel_rfl)) hH <| xV 11 74 (.iface 160 (.agg (laC pn pc pa pl pk er sn sc da dl dc ub))) hH <| ?_
        try simp only [pS]
        refine xC 12 75 72 #[.pointer (some ⟨m, 0, none⟩), .iface 160 (.agg (laC pn pc pa pl pk er sn sc da dl dc ub))] (enterL_any m a cap { x with rd := x.rd + 1 } 146 (.agg #[.iface 89 (.agg #[.int .i64 sz]), .pointer (some ⟨tb, 0, none⟩)]) pn pc pa pl pk er sn sc da dl dc ub ubb ut ua (tNew Unit x.g (needI x)) (pz b) wk89 HMk.out HU.out (by rw [show (tNew Unit x.g (needI x)).g = uq x.g from rfl]; have := uq_len x.g; omega) HZl.out.1 HZl.out.2 (Nums.kept HBy.out.1 HF.out.kept (fun b' off e f => HBy.out.2 ⟨_, e, f⟩)) (fun e => HUl.out _ e rfl) HBy.out.2) ?_
        rintro e wk90 ⟨la, lc, qs, rfl, hq, hMs, hM2, hk⟩
        have HMf : Hid (Mach wk90 m a cap { x with rd := x.rd + 1 } 160 (layV pn pc pa pl pk er sn sc da dl dc ub)) := hM2
        have hH2 : Box wk90 A 144 (Bl.cells ⟨⟨pn, pc⟩, ⟨pa, pl, pk⟩⟩) ∧ Box wk90 B 72 (Rz.cells ⟨er, enZ, slZ, ⟨da, dl, dc⟩, 0, ⟨sn, sc⟩, 0⟩) ∧ wk90.cell? ⟨m, 7, none⟩ = some (.slice a x.g.length cap) := ⟨(HF.out.box 0 _ _ _ rfl).kept hk (fun e => hPm e), (HF.out.box 1 _ _ _ rfl).kept hk (fun e => hRm e), HMf.out.box.cell 7⟩
        have HKf : Hid (Kept (Only m) wk9 wk90) := HF.out.kept.trans hk (fun _ e => e) (fun _ _ e => e)
        have HMs : Hid (Msgs wk90 wk9.heap.size la lc { x with rd := x.rd + 1 } ⟨2, pn, pc, pl⟩ (pz b) qs) := ⟨Own.lower hMs.row HF.out.kept.size, fun q hq => Own.lower (hMs.own q hq) HF.out.kept.size, hMs.ord, hMs.len⟩
        have HQ : Hid (qs.map Qm.sv = x.g) := by show qs.map Qm.sv = x.g; rw [hq]; simp [missL, tNew, uq_nd HMb.out.nd]
        have HUf : Hid (Tal 113 ansU wk90 ub ubb ua ut (tNew Unit x.g (needI x))) := HU.out.kept hk (fun k e f => HUl.out k e f)
        clear hk hM2 hMs hq
        refine ⟨.slice la qs.length lc, rfl, hH2, fun hH => ?_⟩
        clear hH2
        try simp only [pS]
        refine xV 13 6 (.slice la qs.length lc) hH ?_
        try simp only [pS]
        refine wpAnyH_done (by kernel_rfl) ?_ _
        try simp only [pS]
        clear hH
        go_wp2
        rw [HC.out]
        have hsz := HKt.out.size
        have HKa : Hid (Kept (fun k => k = m ∨ Tb2 tb bb k) w wk90) := (HKt.out.mono (fun _ _ e => .inr e)).trans HKf.out (fun _ e => e) (fun _ _ e => .inl e)
        have HOf : Hid (OwnB wk90 w.heap.size ka kk kz) := Own.kept HO.out HKf.out (fun k e f => by have := Own.base HO.out e; have f : k = m := f; omega)
        have HTf : Hid (Tal 149 ansB wk90 tb bb at' ct (takeS Y d.fr.id b)) := HTb.out.kept HKf.out (fun k e f => by
          have f : k = m := f
          subst f
          rcases e with e | e | e
          · exact HD.out k (.inl rfl) (.inl e)
          · exact HD.out k (.inl rfl) (.inr e)
          · exact Own.notBox HTb.out.row HMb.out.box (by decide) e)
        refine .inr ⟨q1, ka, kk, b, HBb.out, HOf.out, HKa.out, HTf.out, .inr (.inr (.inr ⟨q2, by rw [← HQq.out]; exact q3, of_beq_f q4, ub, ubb, ut, ua, la, lc, qs, rfl, HQ.out, by rw [← HQq.out]; exact ⟨Own.lower HMs.out.row hsz, fun q hq => Own.lower (HMs.out.own q hq) hsz, HMs.out.ord, HMs.out.len⟩, by rw [← HQq.out]; exact HMf.out, HUf.out, fun k e => Nat.le_trans hsz (HUg.out k e)⟩))⟩
       ·skip
        refine uB .eql 3 (.int .i64 x.rd) (.int .i64 1099511627776) (.bool true) (by rw [b_eql, q4]; try rfl) <| WL.nil <| ?_
        try simp only [pS]
        go_upto_region 7 with fail
        refine WL.start <| uK (.pointer (some ⟨m, 0, none⟩)) <| ?_
        try simp only [pS]
        refine uC 73 #[] (worn97 W) ?_
        rintro e wk91 ⟨rfl, hk⟩
        have HF : Hid (Fq No wk9 (wk91) [(A, 144, Bl.cells ⟨⟨pn, pc⟩, ⟨pa, pl, pk⟩⟩), (B, 72, Rz.cells ⟨er, enZ, slZ, ⟨da, dl, dc⟩, 0, ⟨sn, sc⟩, 0⟩)]) := HF.out.no hk
        clear hk
        refine ⟨.agg (Rz.cells { rzZ with er := 4 }), rfl, ?_⟩
        try simp only [pS]
        refine uK (.iface 139 (.agg (Rz.cells { rzZ with er := 4 }))) ?_
        try simp only [pS]
        have HKn : Hid (Kept No wk9 wk91) := HF.out.kept
        refine uC 72 #[.pointer (some ⟨m, 0, none⟩), .iface 139 (.agg (Rz.cells { rzZ with er := 4 }))] (enterE_any m a cap x 146 (.agg #[.iface 89 (.agg #[.int .i64 sz]), .pointer (some ⟨tb, 0, none⟩)]) 4 0 0 none 0 0 wk91 (HMb.out.no HKn.out)) ?_
        rintro e wk92 ⟨rfl, hM2, hk⟩
        have HMf : Hid (Mach wk92 m a cap x 139 (endV 4 0 0 none 0 0)) := hM2
        have HKf : Hid (Kept (Only m) wk9 wk92) := (HKn.out.of_no : Kept (Only m) _ _).then hk
        clear hk hM2
        refine ⟨.slice none 0 0, rfl, ?_⟩
        try simp only [pS]
        refine uK (.slice none 0 0) <| WL.nil <| ?_
        try simp only [pS]
        go_wp2
        rw [HC.out]
        have hsz := HKt.out.size
        have HKa : Hid (Kept (fun k => k = m ∨ Tb2 tb bb k) w wk92) := (HKt.out.mono (fun _ _ e => .inr e)).trans HKf.out (fun _ e => e) (fun _ _ e => .inl e)
        have HOf : Hid (OwnB wk92 w.heap.size ka kk kz) := Own.kept HO.out HKf.out (fun k e f => by have := Own.base HO.out e; have f : k = m := f; omega)
        have HTf : Hid (Tal 149 ansB wk92 tb bb at' ct (takeS Y d.fr.id b)) := HTb.out.kept HKf.out (fun k e f => by
          have f : k = m := f
          subst f
          rcases e with e | e | e
          · exact HD.out k (.inl rfl) (.inl e)
          · exact HD.out k (.inl rfl) (.inr e)
          · exact Own.notBox HTb.out.row HMb.out.box (by decide) e)
        refine .inr ⟨q1, ka, kk, b, HBb.out, HOf.out, HKa.out, HTf.out, .inr (.inr (.inl ⟨q2, by rw [← HQq.out]; exact q3, beq_iff_eq.1 q4, rfl, HMf.out⟩))⟩
      ·skip
       try simp only [q3]
       go_upto_region 5 with fail
       refine WL.start <| uK (.pointer (some ⟨m, 0, none⟩)) <| uL 72 ⟨B, 0, none⟩ (.agg (Rz.cells ⟨er, enZ, slZ, ⟨da, dl, dc⟩, 0, ⟨sn, sc⟩, 0⟩)) (run_load_part (cs := Rz.cs ⟨er, enZ, slZ, ⟨da, dl, dc⟩, 0, ⟨sn, sc⟩, 0⟩) (sub := Rz.cs ⟨er, enZ, slZ, ⟨da, dl, dc⟩, 0, ⟨sn, sc⟩, 0⟩) (HF.out.box 1 _ _ _ rfl) (Part.all _) U90 rfl S90) <| uW (.agg (Rz.cells ⟨er, enZ, slZ, ⟨da, dl, dc⟩, 0, ⟨sn, sc⟩, 0⟩)) (exec_build 139 _ rfl (Rz.cells ⟨er, enZ, slZ, ⟨da, dl, dc⟩, 0, ⟨sn, sc⟩, 0⟩) (by kernel_rfl)) <| uK (.iface 139 (.agg (Rz.cells ⟨er, enZ, slZ, ⟨da, dl, dc⟩, 0, ⟨sn, sc⟩, 0⟩))) <| ?_
       try simp only [pS]
       have HKn : Hid (Kept No wk9 W) := HF.out.kept
       refine uC 72 #[.pointer (some ⟨m, 0, none⟩), .iface 139 (.agg (Rz.cells ⟨er, enZ, slZ, ⟨da, dl, dc⟩, 0, ⟨sn, sc⟩, 0⟩))] (enterE_any m a cap x 146 (.agg #[.iface 89 (.agg #[.int .i64 sz]), .pointer (some ⟨tb, 0, none⟩)]) er sn sc da dl dc W (HMb.out.no HKn.out)) ?_
       rintro e wk93 ⟨rfl, hM2, hk⟩
       have HMf : Hid (Mach wk93 m a cap x 139 (endV er sn sc da dl dc)) := hM2
       have HKf : Hid (Kept (Only m) wk9 wk93) := (HKn.out.of_no : Kept (Only m) _ _).then hk
       clear hk hM2
       refine ⟨.slice none 0 0, rfl, ?_⟩
       try simp only [pS]
       refine uK (.slice none 0 0) <| WL.nil <| ?_
       try simp only [pS]
       go_wp2
       rw [HC.out]
       have hsz := HKt.out.size
       have HKa : Hid (Kept (fun k => k = m ∨ Tb2 tb bb k) w wk93) := (HKt.out.mono (fun _ _ e => .inr e)).trans HKf.out (fun _ e => e) (fun _ _ e => .inl e)
       have HOf : Hid (OwnB wk93 w.heap.size ka kk kz) := Own.kept HO.out HKf.out (fun k e f => by have := Own.base HO.out e; have f : k = m := f; omega)
       have HTf : Hid (Tal 149 ansB wk93 tb bb at' ct (takeS Y d.fr.id b)) := HTb.out.kept HKf.out (fun k e f => by
         have f : k = m := f
         subst f
         rcases e with e | e | e
         · exact HD.out k (.inl rfl) (.inl e)
         · exact HD.out k (.inl rfl) (.inr e)
         · exact Own.notBox HTb.out.row HMb.out.box (by decide) e)
       refine .inr ⟨q1, ka, kk, b, HBb.out, HOf.out, HKa.out, HTf.out, .inr (.inl ⟨q2, by rw [← HQq.out]; exact q3, rfl, by rw [← HQq.out]; exact HMf.out⟩)⟩

end Go.Proofs.Ythnecaejhnojfaa.Md
