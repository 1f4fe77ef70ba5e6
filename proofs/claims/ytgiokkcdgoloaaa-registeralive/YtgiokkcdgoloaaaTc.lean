import Derived.Test.YtgiokkcdgoloaaaTa
namespace Go.Proofs.Ytgiokkcdgoloaaa.Md
open Go.RowKit
set_option linter.unusedVariables false
set_option linter.unusedSimpArgs false
abbrev R7 (er : Int) (da : Option Addr) (dl dc : Nat) (sn sc : Int) : Rz := ⟨er, enZ, slZ, ⟨da, dl, dc⟩, 0, ⟨sn, sc⟩, 0⟩
abbrev B5 (pn pc : Int) (pa : Option Addr) (pl pk : Nat) : Bl := ⟨⟨pn, pc⟩, ⟨pa, pl, pk⟩⟩
abbrev Bq := Go.Proofs.Ytgiokkcdgoloaaa.Bk
def mdOf (m : Mg) : MD := ⟨m.k, m.fr.cl, m.fr.id, m.too.cl, m.too.id, m.op, m.rd, m.ky.k, m.ky.a, m.ky.b, m.ky.c, m.st.n, m.st.c, m.hd.n, m.hd.c, m.bl.a, m.bl.l, m.bl.k, m.c.cs ++ (m.bk.cs ++ [m.cm.v, .bool m.mo])⟩
theorem mdOk (m : Mg) : MdOk (mdOf m) := ⟨rfl, by simp [mdOf, Cm.cs, Bv.cs, Sl.v, Value.oneCell']⟩
theorem U131 : Try.prog.underlying 131 = some ((Try.prog.underlying 131).getD .bool) := by kernel_rfl
theorem U179 : Try.prog.underlying 179 = some ((Try.prog.underlying 179).getD .bool) := by kernel_rfl
theorem V131 : (match (Try.prog.underlying 131).getD .bool with | .struct _ | .array _ _ => true | _ => false) = false := by kernel_rfl
theorem V179 : (match (Try.prog.underlying 179).getD .bool with | .struct _ | .array _ _ => true | _ => false) = false := by kernel_rfl
theorem take_cnt {Y : TS Bq} {s : Int} {b : Bq} (hn : Y.g.Nodup) (h : takeB Y s = true) : 1 ≤ cnt (takeS Y s b) := by
 unfold takeB at h
 have hm : mayB Y s = true := (Bool.and_eq_true _ _ ▸ h).1
 unfold takeS
 rw [if_pos hm]
 unfold mayB at hm
 have h2 := (Bool.and_eq_true _ _ ▸ hm).1
 have h3 := (Bool.and_eq_true _ _ ▸ h2)
 rw [cnt_put hn (of_decide_eq_true h3.1) (by simpa using h3.2)]
 omega
theorem takeS_g {α : Type} (Y : TS α) (s : Int) (b : α) : (takeS Y s b).g = Y.g := by unfold takeS; split <;> rfl
structure Sq where
 pn : Int
 pc : Int
 pa : Option Addr
 pl : Nat
 pk : Nat
 er : Int
 sn : Int
 sc : Int
 da : Option Addr
 dl : Nat
 dc : Nat
 en : Bool
def TakAO (w : World) (m : Nat) (a : Option Addr) (cap : Nat) (x : MS) (v : Value) (tb bb ct : Nat) (at' : Option Addr) (Y : TS Bq) (d : Mg) (kn kc : Int) (kz : List Int) (R : Bq → Sq) (pz : Bq → List Int) (e : Ending) (w' : World) : Prop :=
 (hitB x 11 (mdOf d) = false ∧ e = .returned (.slice none 0 0) ∧ Kept No w w') ∨ (hitB x 11 (mdOf d) = true ∧ ∃ ka kk b, b = (⟨kn, kc, ka, kz.length, kk⟩ : Bq) ∧ OwnB w' w.heap.size ka kk kz ∧ Kept (fun k => k = m ∨ Tb2 tb bb k) w w' ∧ Tal 185 ansB w' tb bb at' ct (takeS Y d.fr.id b) ∧
  ((takeB Y d.fr.id = false ∧ e = .returned (.slice none 0 0) ∧ Mach w' m a cap x 182 v) ∨
   (takeB Y d.fr.id = true ∧ (R b).en = true ∧ e = .returned (.slice none 0 0) ∧ Mach w' m a cap x 177 (endV (R b).er (R b).sn (R b).sc (R b).da (R b).dl (R b).dc)) ∨
   (takeB Y d.fr.id = true ∧ (R b).en = false ∧ x.rd = 1099511627776 ∧ e = .returned (.slice none 0 0) ∧ Mach w' m a cap x 177 (endV 4 0 0 none 0 0)) ∨
   (takeB Y d.fr.id = true ∧ (R b).en = false ∧ x.rd ≠ 1099511627776 ∧ ∃ ub ubb ut ua la lc qs, e = .returned (.slice la qs.length lc) ∧ qs.map Qm.sv = x.g ∧ Msgs w' w.heap.size la lc { x with rd := x.rd + 1 } ⟨2, (R b).pn, (R b).pc, (R b).pl⟩ (pz b) qs ∧ Mach w' m a cap { x with rd := x.rd + 1 } 195 (layV (R b).pn (R b).pc (R b).pa (R b).pl (R b).pk (R b).er (R b).sn (R b).sc (R b).da (R b).dl (R b).dc ub) ∧ Tal 150 ansU w' ub ubb ua ut (tNew Unit x.g (needI x)) ∧ ∀ k, TB ub ubb ua k → w.heap.size ≤ k)))
theorem zero177 : (Try.prog.info? 177).bind (·.zero) = some (.agg (Rz.cells rzZ)) := by kernel_rfl
theorem U177 : Try.prog.underlying 177 = some (.struct (Try.prog.fieldsOf 177)) := by kernel_rfl
theorem S177 : (Try.prog.info? 177).map (·.size) = some 11 := by kernel_rfl
theorem Z177 : (Try.prog.info? 177).bind (·.zero) = some (.agg rzZ.cells) := zero177
set_option maxRecDepth 100000 in
set_option maxHeartbeats 4000000 in
theorem worn97  (w : World) : Calls Try.prog 97 #[] w (fun e w' => e = .returned (.agg (Rz.cells { rzZ with er := 4 })) ∧ Kept No w w') := by
 refine hideC fun C HC => ?_
 have HF : Hid (Fq No w w []) := Fq.start _ _
 go_enter Try.func97, Try.ntmps97
 go_upto_region 0 with fail
 refine WL.start ?_
 refine uR (pV w.heap.size 0) (w.alloc (.cells (Rz.cells rzZ) 177)) (exec_alloc 177 rfl (Rz.cells rzZ) Z177) ?_
 try simp only [pS]
 have HF : Hid _ := HF.out.alloc 177 (Rz.cells rzZ)
 generalize w.alloc (.cells (Rz.cells rzZ) 177) = wk2 at HF ⊢
 generalize w.heap.size = gk1 at HF ⊢
 refine WL.nil ?_
 try simp only [pS]
 go_upto_region 1 with fail
 refine WL.start <| uW (.agg (Rz.cells ⟨4, enZ, slZ, slZ, 0, spZ, 0⟩)) (exec_build 90 _ rfl (Rz.cells ⟨4, enZ, slZ, slZ, 0, spZ, 0⟩) (by kernel_rfl)) <| uW (.agg (Rz.cells ⟨4, enZ, slZ, slZ, 0, spZ, 0⟩)) (exec_build 177 _ rfl (Rz.cells ⟨4, enZ, slZ, slZ, 0, spZ, 0⟩) (by kernel_rfl)) <| ?_
 try simp only [pS]
 refine uT 177 ⟨gk1, 0, none⟩ (.agg (Rz.cells ⟨4, enZ, slZ, slZ, 0, spZ, 0⟩)) (wk2.setRow gk1 (Rz.cells ⟨4, enZ, slZ, slZ, 0, spZ, 0⟩)) (rs (Rz.cs rzZ) (Rz.cs ⟨4, enZ, slZ, slZ, 0, spZ, 0⟩) (Rz.cs ⟨4, enZ, slZ, slZ, 0, spZ, 0⟩) (HF.out.box 0 _ _ _ rfl) S177 (Rz.oneL _)) ?_
 try simp only [pS]
 have HF : Hid _ := HF.out.set 0 rfl (Rz.cells ⟨4, enZ, slZ, slZ, 0, spZ, 0⟩)
 generalize wk2.setRow gk1 (Rz.cells ⟨4, enZ, slZ, slZ, 0, spZ, 0⟩) = wk3 at HF ⊢
 refine WL.nil ?_
 try simp only [pS]
 go_wp2
 rw [HC.out]
 refine bodyPost_ret (results_row1 (by rfl) _ _ gk1 (Rz.cells ⟨4, enZ, slZ, slZ, 0, spZ, 0⟩) (by rfl) (run_load_part (cs := Rz.cs ⟨4, enZ, slZ, slZ, 0, spZ, 0⟩) (sub := Rz.cs ⟨4, enZ, slZ, slZ, 0, spZ, 0⟩) (HF.out.box 0 _ _ _ rfl) (Part.all _) U177 rfl S177)) rfl ?_
 exact ⟨rfl, HF.out.kept⟩
theorem of_beq_f {a b : Int} (h : (a == b) = false) : a ≠ b := by simpa using h
def laC (n c : Int) (a : Option Addr) (l k : Nat) (err sn sc : Int) (da : Option Addr) (dl dc : Nat) (ub : Nat) : Array Value :=
 #[.int .i64 n, .int .i64 c, .slice a l k, .int .i64 err, .string ⟨#[]⟩, .int .i64 0, .int .i64 0, .int .i64 0, .slice none 0 0, .slice da dl dc, .int .i64 0, .int .i64 sn, .int .i64 sc, .int .i64 0, .pointer (some ⟨ub, 0, none⟩)]
theorem uq_nd' : ∀ (l acc : List Int), (acc ++ l).Nodup → l.foldl (fun acc n => if n ∈ acc then acc else acc ++ [n]) acc = acc ++ l
 | [], acc, _ => by simp
 | z :: l, acc, h => by
  have hz : z ∉ acc := fun e => by
   have := List.nodup_append.1 h
   exact this.2.2 z e z (by simp) rfl
  rw [List.foldl_cons, if_neg hz, uq_nd' l (acc ++ [z]) (by simpa using h), List.append_assoc]
  rfl
theorem uq_nd {l : List Int} (h : l.Nodup) : uq l = l := by
 have := uq_nd' l [] (by simpa using h)
 simpa [uq] using this
set_option maxRecDepth 100000 in
set_option maxHeartbeats 4000000 in
theorem takeA_W (m : Nat) (a : Option Addr) (cap : Nat) (x : MS) (cl : Int) (wa : Option Addr) (wl wk : Nat) (tb bb ct : Nat) (at' : Option Addr) (Y : TS Bq) (d : Mg) (kn kc : Int) (kz : List Int) (R : Bq → Sq) (pz : Bq → List Int) (w : World) (hM : Mach w m a cap x 182 (.agg #[.iface 118 (.agg #[.int .i64 cl, .slice wa wl wk]), .pointer (some ⟨tb, 0, none⟩)])) (hT : Tal 185 ansB w tb bb at' ct Y) (hgl : x.g.length ≤ 1000) (hyl : Y.g.length ≤ 1000) (hr0 : 0 ≤ x.rd) (hr1 : x.rd ≤ 1099511627776)
 (hkp : hitB x 11 (mdOf d) = true → ∀ wr, Kept No w wr → Calls Try.prog 87 #[.agg #[.int .i64 cl, .slice wa wl wk], .agg (Mg.cells d)] wr (KeepOut wr kn kc kz))
 (hset : ∀ b : Bq, b.n = kn → b.c = kc → ∀ wr, Calls Try.prog 119 #[.agg #[.int .i64 cl, .slice wa wl wk], bkV (bestP ((gotL (takeS Y d.fr.id b)).map Prod.snd)), .bool (!((gotL (takeS Y d.fr.id b)).map Prod.snd).any (otherB (bestP ((gotL (takeS Y d.fr.id b)).map Prod.snd))))] wr (SettleOut wr (R b).pn (R b).pc (R b).pa (R b).pl (R b).pk (R b).er (R b).sn (R b).sc (R b).da (R b).dl (R b).dc (R b).en))
 (hpz : ∀ ka kk, takeB Y d.fr.id = true → (R ⟨kn, kc, ka, kz.length, kk⟩).en = false → (pz ⟨kn, kc, ka, kz.length, kk⟩).length = (R ⟨kn, kc, ka, kz.length, kk⟩).pl ∧ (R ⟨kn, kc, ka, kz.length, kk⟩).pl ≤ 140737488355328)
 (hpb : ∀ ka kk wr, Kept (Tb2 tb bb) w wr → OwnB wr w.heap.size ka kk kz → takeB Y d.fr.id = true → (R ⟨kn, kc, ka, kz.length, kk⟩).en = false → Bytes wr (R ⟨kn, kc, ka, kz.length, kk⟩).pa (pz ⟨kn, kc, ka, kz.length, kk⟩) ∧ ¬ At (R ⟨kn, kc, ka, kz.length, kk⟩).pa m)
 (hd : ∀ k, MB m a k → ¬ Tb2 tb bb k) : Calls Try.prog 105 #[.agg #[.iface 118 (.agg #[.int .i64 cl, .slice wa wl wk]), .pointer (some ⟨tb, 0, none⟩)], .pointer (some ⟨m, 0, none⟩), .agg (Mg.cells d)] w (TakAO w m a cap x (.agg #[.iface 118 (.agg #[.int .i64 cl, .slice wa wl wk]), .pointer (some ⟨tb, 0, none⟩)]) tb bb ct at' Y d kn kc kz R pz) := by
 refine hideC fun C HC => ?_
 have HM : Hid (Mach w m a cap x 182 (.agg #[.iface 118 (.agg #[.int .i64 cl, .slice wa wl wk]), .pointer (some ⟨tb, 0, none⟩)])) := hM
 have HT : Hid (Tal 185 ansB w tb bb at' ct Y) := hT
 have HKp : Hid (hitB x 11 (mdOf d) = true → ∀ wr, Kept No w wr → Calls Try.prog 87 #[.agg #[.int .i64 cl, .slice wa wl wk], .agg (Mg.cells d)] wr (KeepOut wr kn kc kz)) := hkp
 have HSt : Hid (∀ b : Bq, b.n = kn → b.c = kc → ∀ wr, Calls Try.prog 119 #[.agg #[.int .i64 cl, .slice wa wl wk], bkV (bestP ((gotL (takeS Y d.fr.id b)).map Prod.snd)), .bool (!((gotL (takeS Y d.fr.id b)).map Prod.snd).any (otherB (bestP ((gotL (takeS Y d.fr.id b)).map Prod.snd))))] wr (SettleOut wr (R b).pn (R b).pc (R b).pa (R b).pl (R b).pk (R b).er (R b).sn (R b).sc (R b).da (R b).dl (R b).dc (R b).en)) := hset
 have HPz : Hid (∀ ka kk, takeB Y d.fr.id = true → (R ⟨kn, kc, ka, kz.length, kk⟩).en = false → (pz ⟨kn, kc, ka, kz.length, kk⟩).length = (R ⟨kn, kc, ka, kz.length, kk⟩).pl ∧ (R ⟨kn, kc, ka, kz.length, kk⟩).pl ≤ 140737488355328) := hpz
 have HPb : Hid (∀ ka kk wr, Kept (Tb2 tb bb) w wr → OwnB wr w.heap.size ka kk kz → takeB Y d.fr.id = true → (R ⟨kn, kc, ka, kz.length, kk⟩).en = false → Bytes wr (R ⟨kn, kc, ka, kz.length, kk⟩).pa (pz ⟨kn, kc, ka, kz.length, kk⟩) ∧ ¬ At (R ⟨kn, kc, ka, kz.length, kk⟩).pa m) := hpb
 have HD : Hid (∀ k, MB m a k → ¬ Tb2 tb bb k) := hd
 have HTl : Hid (∀ k, Tb2 tb bb k → k < w.heap.size) := fun k e => hT.lt (by rcases e with rfl | rfl; exact .inl rfl; exact .inr (.inl rfl))
 have hml := hM.box.lt
 clear hM hT hkp hset hpz hpb hd
 have HF : Hid (Fq No w w []) := Fq.start _ _
 go_enter Try.func105, Try.ntmps105
 go_upto_region 0 with fail
 refine WL.start ?_
 refine uR (pV w.heap.size 0) (w.alloc (.cells (#[.iface 118 (.agg #[.int .i64 cl, .slice wa wl wk]), pV tb 0]) 182)) (exec_box 182 _ rfl (#[.iface 118 (.agg #[.int .i64 cl, .slice wa wl wk]), pV tb 0]) (by kernel_rfl)) ?_
 try simp only [pS]
 have HF : Hid _ := HF.out.alloc 182 (#[.iface 118 (.agg #[.int .i64 cl, .slice wa wl wk]), .pointer (some ⟨tb, 0, none⟩)])
 generalize w.alloc (.cells (#[.iface 118 (.agg #[.int .i64 cl, .slice wa wl wk]), .pointer (some ⟨tb, 0, none⟩)]) 182) = wk2 at HF ⊢
 generalize w.heap.size = gk1 at HF ⊢
 refine uR (pV wk2.heap.size 0) (wk2.alloc (.cells (Mg.cells d) 52)) (exec_box 52 _ rfl (Mg.cells d) (by kernel_rfl)) ?_
 try simp only [pS]
 have HF : Hid _ := HF.out.alloc 52 (Mg.cells d)
 generalize wk2.alloc (.cells (Mg.cells d) 52) = wk4 at HF ⊢
 generalize wk2.heap.size = gk3 at HF ⊢
 refine uK (.slice none 0 0) <| WL.nil <| ?_
 try simp only [pS]
 go_upto_region 1 with fail
 refine wp_region_held_drew (S := fun w' => Box w' gk1 182 (#[.iface 118 (.agg #[.int .i64 cl, .slice wa wl wk]), .pointer (some ⟨tb, 0, none⟩)]) ∧ Box w' gk3 52 (Mg.cells d)) rfl ⟨HF.out.box 0 _ _ _ rfl, HF.out.box 1 _ _ _ rfl⟩ (fun hH => ?_)
 have HF : Hid _ := HF.out.drew
 generalize wk4.drew = wk5 at HF hH ⊢
 refine xV 0 10 (pV m 0) hH <| xL 1 11 52 ⟨gk3, 0, none⟩ (.agg (Mg.cells d)) (fun _ hw => run_load_part (cs := Mg.cs d) (sub := Mg.cs d) (hw.2) (Part.all _) U52 rfl S52) hH <| ?_
 try simp only [pS]
 cases q1 : (hitB x 11 (mdOf d))
 ·skip
  refine xC 2 12 107 #[pV m 0, .agg (Mg.cells d), .int .i64 11] (answered_any m a cap x 182 (.agg #[.iface 118 (.agg #[.int .i64 cl, .slice wa wl wk]), pV tb 0]) (mdOf d) 11 wk5 (HM.out.no HF.out.kept)) ?_
  rintro e wk6 ⟨rfl, hk⟩
  have hH2 : Box wk6 gk1 182 (#[.iface 118 (.agg #[.int .i64 cl, .slice wa wl wk]), .pointer (some ⟨tb, 0, none⟩)]) ∧ Box wk6 gk3 52 (Mg.cells d) := ⟨hH.1.kept hk (fun e => e), hH.2.kept hk (fun e => e)⟩
  have HF : Hid _ := HF.out.no hk
  clear hk
  refine ⟨.bool false, by rw [q1], hH2, fun hH => ?_⟩
  clear hH2
  try simp only [pS]
  refine xV 3 13 (.bool true) hH <| xV 4 14 (.bool true) hH <| xZ 5 15 hH <| xZ 6 16 hH <| xZ 7 17 hH <| xZ 8 18 hH <| xZ 9 19 hH <| xZ 10 20 hH <| xZ 11 21 hH <| xZ 12 22 hH <| xZ 13 23 hH <| xZ 14 24 hH <| xZ 15 25 hH <| xV 16 26 (.bool true) hH <| ?_
  try simp only [pS]
  refine wpAnyH_done (by kernel_rfl) ?_ _
  try simp only [pS]
  clear hH
  go_upto_region 2 with fail
  refine WL.start <| uK (.slice none 0 0) <| WL.nil <| ?_
  try simp only [pS]
  go_wp2
  rw [HC.out]
  exact .inl ⟨q1, rfl, HF.out.kept⟩
 ·skip
  refine xC 2 12 107 #[pV m 0, .agg (Mg.cells d), .int .i64 11] (answered_any m a cap x 182 (.agg #[.iface 118 (.agg #[.int .i64 cl, .slice wa wl wk]), pV tb 0]) (mdOf d) 11 wk5 (HM.out.no HF.out.kept)) ?_
  rintro e wk7 ⟨rfl, hk⟩
  have hH2 : Box wk7 gk1 182 (#[.iface 118 (.agg #[.int .i64 cl, .slice wa wl wk]), .pointer (some ⟨tb, 0, none⟩)]) ∧ Box wk7 gk3 52 (Mg.cells d) := ⟨hH.1.kept hk (fun e => e), hH.2.kept hk (fun e => e)⟩
  have HF : Hid _ := HF.out.no hk
  clear hk
  refine ⟨.bool true, by rw [q1], hH2, fun hH => ?_⟩
  clear hH2
  try simp only [pS]
  refine xV 3 13 (.bool false) hH <| xV 4 14 (.bool false) hH <| xV 5 15 (pV gk1 1) hH <| xL 6 16 179 ⟨gk1, 1, none⟩ (pV tb 0) (fun _ hw => ld1 hw.1 1 U179 V179) hH <| xV 7 17 (pV gk3 1) hH <| xV 8 18 (pV gk3 2) hH <| xL 9 19 3 ⟨gk3, 2, none⟩ (.int .i64 d.fr.id) (fun _ hw => ld1 hw.2 2 U3 rfl) hH <| xV 10 20 (pV gk1 0) hH <| xL 11 21 131 ⟨gk1, 0, none⟩ (.iface 118 (.agg #[.int .i64 cl, .slice wa wl wk])) (fun _ hw => ld1 hw.1 0 U131 V131) hH <| xL 12 22 52 ⟨gk3, 0, none⟩ (.agg (Mg.cells d)) (fun _ hw => run_load_part (cs := Mg.cs d) (sub := Mg.cs d) (hw.2) (Part.all _) U52 rfl S52) hH <| ?_
  try simp only [pS]
  refine xC 13 23 87 #[.agg #[.int .i64 cl, .slice wa wl wk], .agg (Mg.cells d)] (HKp.out q1 wk7 HF.out.kept) ?_
  rintro e wk8 ⟨ka, kk, rfl, hO, hk⟩
  have hH2 : Box wk8 gk1 182 (#[.iface 118 (.agg #[.int .i64 cl, .slice wa wl wk]), .pointer (some ⟨tb, 0, none⟩)]) ∧ Box wk8 gk3 52 (Mg.cells d) := ⟨hH.1.kept hk (fun e => e), hH.2.kept hk (fun e => e)⟩
  have HO : Hid (OwnB wk8 w.heap.size ka kk kz) := Own.lower hO HF.out.kept.size
  have HF : Hid _ := HF.out.no hk
  clear hk hO
  refine ⟨.agg #[.int .i64 kn, .int .i64 kc, .slice ka kz.length kk], rfl, hH2, fun hH => ?_⟩
  clear hH2
  try simp only [pS]
  refine xC 14 24 104 #[pV tb 0, .int .i64 d.fr.id, .agg #[.int .i64 kn, .int .i64 kc, .slice ka kz.length kk]] (take_anyB tb bb ct at' Y d.fr.id ⟨kn, kc, ka, kz.length, kk⟩ wk8 (HT.out.no HF.out.kept)) ?_
  rintro e wk9 ⟨rfl, hT2, hk⟩
  have hs3 : ∀ k, w.heap.size ≤ k → ¬ Tb2 tb bb k := fun k h e => by have := HTl.out k e; omega
  have HB3 : Hid (Box wk9 gk1 182 (#[.iface 118 (.agg #[.int .i64 cl, .slice wa wl wk]), .pointer (some ⟨tb, 0, none⟩)])) := (HF.out.box 0 _ _ _ rfl).kept hk (hs3 _ (nlo (HF.out.low 0 _ _ _ rfl)))
  have hH2 : Box wk9 gk1 182 (#[.iface 118 (.agg #[.int .i64 cl, .slice wa wl wk]), .pointer (some ⟨tb, 0, none⟩)]) ∧ Box wk9 gk3 52 (Mg.cells d) := ⟨HB3.out, (HF.out.box 1 _ _ _ rfl).kept hk (hs3 _ (nlo (HF.out.low 1 _ _ _ rfl)))⟩
  have HKt : Hid (Kept (Tb2 tb bb) w wk9) := HF.out.kept.of_no.then hk
  have HO : Hid (OwnB wk9 w.heap.size ka kk kz) := Own.kept HO.out hk (fun k e => hs3 k (Own.base HO.out e))
  obtain ⟨b, hb⟩ : ∃ b : Bq, b = ⟨kn, kc, ka, kz.length, kk⟩ := ⟨_, rfl⟩
  have HTb : Hid (Tal 185 ansB wk9 tb bb at' ct (takeS Y d.fr.id b)) := by rw [hb]; exact hT2
  have HBb : Hid (b = ⟨kn, kc, ka, kz.length, kk⟩) := hb
  have HMb : Hid (Mach wk9 m a cap x 182 (.agg #[.iface 118 (.agg #[.int .i64 cl, .slice wa wl wk]), .pointer (some ⟨tb, 0, none⟩)])) := HM.out.kept HKt.out HD.out
  have HF1 : Hid (Fq No wk9 wk9 []) := Fq.start _ _
  clear HF hk hT2 hb
  have HF := HF1
  clear HF1
  refine ⟨.bool (takeB Y d.fr.id), rfl, hH2, fun hH => ?_⟩
  clear hH2
  try simp only [pS]
  cases q2 : ((takeB Y d.fr.id))
  ·skip
   try simp only [q2]
   refine xV 15 25 (.bool true) hH <| xV 16 26 (.bool true) hH <| ?_
   try simp only [pS]
   refine wpAnyH_done (by kernel_rfl) ?_ _
   try simp only [pS]
   clear hH
   go_upto_region 2 with fail
   refine WL.start <| uK (.slice none 0 0) <| WL.nil <| ?_
   try simp only [pS]
   go_wp2
   rw [HC.out]
   exact .inr ⟨q1, ka, kk, b, HBb.out, HO.out, HKt.out.mono (fun _ _ e => .inr e), HTb.out, .inl ⟨q2, rfl, HMb.out⟩⟩
  ·skip
   try simp only [q2]
   refine xV 15 25 (.bool false) hH <| xV 16 26 (.bool false) hH <| ?_
   try simp only [pS]
   refine wpAnyH_done (by kernel_rfl) ?_ _
   try simp only [pS]
   clear hH
   have hcn : 1 ≤ cnt (takeS Y d.fr.id b) := take_cnt HT.out.nd q2
   have hcl : cnt (takeS Y d.fr.id b) ≤ 1000 := by have h1 := cnt_le (takeS Y d.fr.id b); rw [takeS_g] at h1; omega
   have HGr : Hid (∀ wr, Kept No wk9 wr → Calls Try.prog 108 #[.pointer (some ⟨tb, 0, none⟩)] wr (GreatOut wr ((gotL (takeS Y d.fr.id b)).map Prod.snd))) := fun wr hk => greatestX tb bb ct at' (takeS Y d.fr.id b) wr (HTb.out.no hk) (by omega) hcn
   have HSe : Hid (∀ wr, Calls Try.prog 119 #[.agg #[.int .i64 cl, .slice wa wl wk], bkV (bestP ((gotL (takeS Y d.fr.id b)).map Prod.snd)), .bool (!((gotL (takeS Y d.fr.id b)).map Prod.snd).any (otherB (bestP ((gotL (takeS Y d.fr.id b)).map Prod.snd))))] wr (SettleOut wr (R b).pn (R b).pc (R b).pa (R b).pl (R b).pk (R b).er (R b).sn (R b).sc (R b).da (R b).dl (R b).dc (R b).en)) := HSt.out b (by rw [HBb.out]) (by rw [HBb.out])
   unfold GreatOut at HGr
   generalize (!((gotL (takeS Y d.fr.id b)).map Prod.snd).any (otherB (bestP ((gotL (takeS Y d.fr.id b)).map Prod.snd)))) = AL at HGr HSe
   generalize bestP ((gotL (takeS Y d.fr.id b)).map Prod.snd) = G at HGr HSe
   have HZl : Hid ((R b).en = false → (pz b).length = (R b).pl ∧ (R b).pl ≤ 140737488355328) := by
    show (R b).en = false → _
    rw [HBb.out]
    exact fun e => HPz.out ka kk q2 e
   have HBy : Hid ((R b).en = false → Bytes wk9 (R b).pa (pz b) ∧ ¬ At (R b).pa m) := by
    show (R b).en = false → _
    rw [HBb.out]
    exact fun e => HPb.out ka kk _ HKt.out HO.out q2 e
   obtain ⟨Q, hQ⟩ : ∃ Q, Q = R b := ⟨_, rfl⟩
   have HQq : Hid (Q = R b) := hQ
   rw [← hQ] at HSe HZl HBy
   clear hQ
   obtain ⟨pn, pc, pa, pl, pk, er, sn, sc, da, dl, dc, en⟩ := Q
   dsimp only at HSe HZl HBy
   go_upto_region 3 with fail
   refine wp_region_held_drew (S := fun w' => Kept No wk9 w') rfl (Kept.refl No _).drew (fun hH => ?_)
   have HF : Hid _ := HF.out.drew
   generalize wk9.drew = wk10 at HF hH ⊢
   refine xV 0 28 (pV gk1 0) hH <| xL 1 29 131 ⟨gk1, 0, none⟩ (.iface 118 (.agg #[.int .i64 cl, .slice wa wl wk])) (fun _ hw => load_one ((HB3.out.kept hw (fun e => e)).cell 0 |>.trans (by kernel_rfl)) U131 V131) hH <| xV 2 30 (pV gk1 1) hH <| xL 3 31 179 ⟨gk1, 1, none⟩ (pV tb 0) (fun _ hw => load_one ((HB3.out.kept hw (fun e => e)).cell 1 |>.trans (by kernel_rfl)) U179 V179) hH <| xV 7 35 (.iface 118 (.agg #[.int .i64 cl, .slice wa wl wk])) hH <| xV 8 36 (.iface 118 (.agg #[.int .i64 cl, .slice wa wl wk])) hH <| ?_
   try simp only [pS]
   refine' meet3 (J := fun W A B => Kept No wk9 W ∧ Box W A 57 (Bl.cells (B5 pn pc pa pl pk)) ∧ Box W B 90 (Rz.cells (R7 er da dl dc sn sc)) ∧ wk9.heap.size ≤ A ∧ wk9.heap.size ≤ B) (fun hh => ?region) (fun W A B hJ => ?tail)
   case region =>
    refine any_pick (rs := [4, 14, 15]) (by kernel_rfl) (by simp) ?_
    intro i hi
    rcases pick3 hi with rfl | rfl | rfl
    ·skip
     clear hi
     refine step_call (i := 4) (o := { dst := some 32, op := Op.call { callee := Callee.value (Operand.func 108), args := #[Operand.tmp 31], argTypes := #[179] }, type := 60, pos := "phase.go:55", after := #[{ on := 3, ground := Ground.data }], guard := none }) rfl (by kernel_rfl) 108 #[.pointer (some ⟨tb, 0, none⟩)] (by kernel_rfl) _ (HGr.out wk10 HF.out.kept) ?_
     rintro e wk11 ⟨rfl, hk⟩
     have hH2 : Kept No wk9 wk11 := hH.then hk
     have HF : Hid _ := HF.out.no hk
     clear hk
     refine ⟨.tuple #[bkV G, .bool AL], rfl, hH2, fun hH => ?_⟩
     clear hH2
     try simp only [pS]
     refine xV 5 33 (bkV G) hH <| xV 6 34 (.bool AL) hH <| ?_
     try simp only [pS]
     refine any_pick (rs := [9, 14, 15]) (by kernel_rfl) (by simp) ?_
     intro i hi
     rcases pick3 hi with rfl | rfl | rfl
     ·skip
      clear hi
      refine step_call (i := 9) (o := { dst := some 37, op := Op.call { callee := Callee.invoke (Operand.tmp 36) "cairn/register.settle", args := #[Operand.tmp 33, Operand.tmp 34], argTypes := #[57, 4] }, type := 192, pos := "phase.go:55", after := #[{ on := 8, ground := Ground.data }, { on := 5, ground := Ground.data }, { on := 6, ground := Ground.data }, { on := 4, ground := Ground.chain }], guard := none }) rfl (by kernel_rfl) 119 #[.agg #[.int .i64 cl, .slice wa wl wk], bkV G, .bool AL] (by kernel_rfl) _ (HSe.out wk11) ?_
      rintro e wk12 ⟨rfl, hk⟩
      have hH2 : Kept No wk9 wk12 := hH.then hk
      have HF : Hid _ := HF.out.no hk
      clear hk
      refine ⟨.tuple #[.agg #[.int .i64 pn, .int .i64 pc, .slice pa pl pk], .agg (resC er sn sc da dl dc), .bool en], rfl, hH2, fun hH => ?_⟩
      clear hH2
      try simp only [pS]
      refine xV 10 27 (.tuple #[.agg #[.int .i64 pn, .int .i64 pc, .slice pa pl pk], .agg (resC er sn sc da dl dc), .bool en]) hH <| xV 11 38 (.agg (Bl.cells (B5 pn pc pa pl pk))) hH <| xV 12 39 (.agg (Rz.cells (R7 er da dl dc sn sc))) hH <| xV 13 40 (.bool en) hH <| ?_
      try simp only [pS]
      refine any_pick (rs := [14, 15]) (by kernel_rfl) (by simp) ?_
      intro i hi
      rcases pick2 hi with rfl | rfl
      ·skip
       clear hi
       refine step_run (i := 14) (o := { dst := some 7, op := Op.alloc 57, type := 0, pos := "phase.go:55", after := #[], guard := none }) rfl (by kernel_rfl) (exec_alloc 57 rfl (Bl.cells blZ) Z57) (hH.alloc _) (fun hH => ?_)
       try simp only [pS]
       have HF : Hid _ := HF.out.alloc 57 (Bl.cells blZ)
       generalize wk12.alloc (.cells (Bl.cells blZ) 57) = wk14 at HF hH ⊢
       generalize wk12.heap.size = gk13 at HF ⊢
       refine any_step (i := 15) (o := { dst := some 8, op := Op.alloc 90, type := 0, pos := "phase.go:55", after := #[], guard := none }) rfl (by kernel_rfl) (by kernel_rfl) (exec_alloc 90 rfl (Rz.cells rzZ) Z90) (hH.alloc _) (fun hH => ?_)
       try simp only [pS]
       have HF : Hid _ := HF.out.alloc 90 (Rz.cells rzZ)
       generalize wk14.alloc (.cells (Rz.cells rzZ) 90) = wk16 at HF hH ⊢
       generalize wk14.heap.size = gk15 at HF ⊢
       refine xS 16 57 ⟨gk13, 0, none⟩ (.agg (Bl.cells (B5 pn pc pa pl pk))) (w' := wk16.setRow gk13 (Bl.cells (B5 pn pc pa pl pk))) (rs (Bl.cs blZ) (Bl.cs (B5 pn pc pa pl pk)) (Bl.cs (B5 pn pc pa pl pk)) (HF.out.box 0 _ _ _ rfl) S57 (Bl.oneL _)) (hH.newRow (nlo (HF.out.low 0 _ _ _ rfl)) _) (fun hH => ?_)
       try simp only [pS]
       have HF : Hid _ := HF.out.set 0 rfl (Bl.cells (B5 pn pc pa pl pk))
       generalize wk16.setRow gk13 (Bl.cells (B5 pn pc pa pl pk)) = wk17 at HF hH ⊢
       refine xS 17 90 ⟨gk15, 0, none⟩ (.agg (Rz.cells (R7 er da dl dc sn sc))) (w' := wk17.setRow gk15 (Rz.cells (R7 er da dl dc sn sc))) (rs (Rz.cs rzZ) (Rz.cs (R7 er da dl dc sn sc)) (Rz.cs (R7 er da dl dc sn sc)) (HF.out.box 1 _ _ _ rfl) S90 (Rz.oneL _)) (hH.newRow (nlo (HF.out.low 1 _ _ _ rfl)) _) (fun hH => ?_)
       try simp only [pS]
       have HF : Hid _ := HF.out.set 1 rfl (Rz.cells (R7 er da dl dc sn sc))
       generalize wk17.setRow gk15 (Rz.cells (R7 er da dl dc sn sc)) = wk18 at HF hH ⊢
       refine xV 18 9 (.bool en) hH ?_
       try simp only [pS]
       refine wpAnyH_done (by kernel_rfl) ?_ _
       try simp only [pS]
       clear hH
       exact hh _ _ _ ⟨HF.out.kept, HF.out.box 0 _ _ _ rfl, HF.out.box 1 _ _ _ rfl, nlo (HF.out.low 0 _ _ _ rfl), nlo (HF.out.low 1 _ _ _ rfl)⟩
      ·skip
       clear hi
       refine step_run (i := 15) (o := { dst := some 8, op := Op.alloc 90, type := 0, pos := "phase.go:55", after := #[], guard := none }) rfl (by kernel_rfl) (exec_alloc 90 rfl (Rz.cells rzZ) Z90) (hH.alloc _) (fun hH => ?_)
       try simp only [pS]
       have HF : Hid _ := HF.out.alloc 90 (Rz.cells rzZ)
       generalize wk12.alloc (.cells (Rz.cells rzZ) 90) = wk20 at HF hH ⊢
       generalize wk12.heap.size = gk19 at HF ⊢
       refine any_step (i := 14) (o := { dst := some 7, op := Op.alloc 57, type := 0, pos := "phase.go:55", after := #[], guard := none }) rfl (by kernel_rfl) (by kernel_rfl) (exec_alloc 57 rfl (Bl.cells blZ) Z57) (hH.alloc _) (fun hH => ?_)
       try simp only [pS]
       have HF : Hid _ := HF.out.alloc 57 (Bl.cells blZ)
       generalize wk20.alloc (.cells (Bl.cells blZ) 57) = wk22 at HF hH ⊢
       generalize wk20.heap.size = gk21 at HF ⊢
       refine xS 16 57 ⟨gk21, 0, none⟩ (.agg (Bl.cells (B5 pn pc pa pl pk))) (w' := wk22.setRow gk21 (Bl.cells (B5 pn pc pa pl pk))) (rs (Bl.cs blZ) (Bl.cs (B5 pn pc pa pl pk)) (Bl.cs (B5 pn pc pa pl pk)) (HF.out.box 1 _ _ _ rfl) S57 (Bl.oneL _)) (hH.newRow (nlo (HF.out.low 1 _ _ _ rfl)) _) (fun hH => ?_)
       try simp only [pS]
       have HF : Hid _ := HF.out.set 1 rfl (Bl.cells (B5 pn pc pa pl pk))
       generalize wk22.setRow gk21 (Bl.cells (B5 pn pc pa pl pk)) = wk23 at HF hH ⊢
       refine xS 17 90 ⟨gk19, 0, none⟩ (.agg (Rz.cells (R7 er da dl dc sn sc))) (w' := wk23.setRow gk19 (Rz.cells (R7 er da dl dc sn sc))) (rs (Rz.cs rzZ) (Rz.cs (R7 er da dl dc sn sc)) (Rz.cs (R7 er da dl dc sn sc)) (HF.out.box 0 _ _ _ rfl) S90 (Rz.oneL _)) (hH.newRow (nlo (HF.out.low 0 _ _ _ rfl)) _) (fun hH => ?_)
       try simp only [pS]
       have HF : Hid _ := HF.out.set 0 rfl (Rz.cells (R7 er da dl dc sn sc))
       generalize wk23.setRow gk19 (Rz.cells (R7 er da dl dc sn sc)) = wk24 at HF hH ⊢
       refine xV 18 9 (.bool en) hH ?_
       try simp only [pS]
       refine wpAnyH_done (by kernel_rfl) ?_ _
       try simp only [pS]
       clear hH
       exact hh _ _ _ ⟨HF.out.kept, HF.out.box 1 _ _ _ rfl, HF.out.box 0 _ _ _ rfl, nlo (HF.out.low 1 _ _ _ rfl), nlo (HF.out.low 0 _ _ _ rfl)⟩
     ·skip
      clear hi
      refine step_run (i := 14) (o := { dst := some 7, op := Op.alloc 57, type := 0, pos := "phase.go:55", after := #[], guard := none }) rfl (by kernel_rfl) (exec_alloc 57 rfl (Bl.cells blZ) Z57) (hH.alloc _) (fun hH => ?_)
      try simp only [pS]
      have HF : Hid _ := HF.out.alloc 57 (Bl.cells blZ)
      generalize wk11.alloc (.cells (Bl.cells blZ) 57) = wk26 at HF hH ⊢
      generalize wk11.heap.size = gk25 at HF ⊢
      refine any_pick (rs := [9, 15]) (by kernel_rfl) (by simp) ?_
      intro i hi
      rcases pick2 hi with rfl | rfl
      ·skip
       clear hi
       refine step_call (i := 9) (o := { dst := some 37, op := Op.call { callee := Callee.invoke (Operand.tmp 36) "cairn/register.settle", args := #[Operand.tmp 33, Operand.tmp 34], argTypes := #[57, 4] }, type := 192, pos := "phase.go:55", after := #[{ on := 8, ground := Ground.data }, { on := 5, ground := Ground.data }, { on := 6, ground := Ground.data }, { on := 4, ground := Ground.chain }], guard := none }) rfl (by kernel_rfl) 119 #[.agg #[.int .i64 cl, .slice wa wl wk], bkV G, .bool AL] (by kernel_rfl) _ (HSe.out wk26) ?_
       rintro e wk27 ⟨rfl, hk⟩
       have hH2 : Kept No wk9 wk27 := hH.then hk
       have HF : Hid _ := HF.out.no hk
       clear hk
       refine ⟨.tuple #[.agg #[.int .i64 pn, .int .i64 pc, .slice pa pl pk], .agg (resC er sn sc da dl dc), .bool en], rfl, hH2, fun hH => ?_⟩
       clear hH2
       try simp only [pS]
       refine xV 10 27 (.tuple #[.agg #[.int .i64 pn, .int .i64 pc, .slice pa pl pk], .agg (resC er sn sc da dl dc), .bool en]) hH <| xV 11 38 (.agg (Bl.cells (B5 pn pc pa pl pk))) hH <| xV 12 39 (.agg (Rz.cells (R7 er da dl dc sn sc))) hH <| xV 13 40 (.bool en) hH <| ?_
       try simp only [pS]
       refine any_step (i := 15) (o := { dst := some 8, op := Op.alloc 90, type := 0, pos := "phase.go:55", after := #[], guard := none }) rfl (by kernel_rfl) (by kernel_rfl) (exec_alloc 90 rfl (Rz.cells rzZ) Z90) (hH.alloc _) (fun hH => ?_)
       try simp only [pS]
       have HF : Hid _ := HF.out.alloc 90 (Rz.cells rzZ)
       generalize wk27.alloc (.cells (Rz.cells rzZ) 90) = wk29 at HF hH ⊢
       generalize wk27.heap.size = gk28 at HF ⊢
       refine xS 16 57 ⟨gk25, 0, none⟩ (.agg (Bl.cells (B5 pn pc pa pl pk))) (w' := wk29.setRow gk25 (Bl.cells (B5 pn pc pa pl pk))) (rs (Bl.cs blZ) (Bl.cs (B5 pn pc pa pl pk)) (Bl.cs (B5 pn pc pa pl pk)) (HF.out.box 0 _ _ _ rfl) S57 (Bl.oneL _)) (hH.newRow (nlo (HF.out.low 0 _ _ _ rfl)) _) (fun hH => ?_)
       try simp only [pS]
       have HF : Hid _ := HF.out.set 0 rfl (Bl.cells (B5 pn pc pa pl pk))
       generalize wk29.setRow gk25 (Bl.cells (B5 pn pc pa pl pk)) = wk30 at HF hH ⊢
       refine xS 17 90 ⟨gk28, 0, none⟩ (.agg (Rz.cells (R7 er da dl dc sn sc))) (w' := wk30.setRow gk28 (Rz.cells (R7 er da dl dc sn sc))) (rs (Rz.cs rzZ) (Rz.cs (R7 er da dl dc sn sc)) (Rz.cs (R7 er da dl dc sn sc)) (HF.out.box 1 _ _ _ rfl) S90 (Rz.oneL _)) (hH.newRow (nlo (HF.out.low 1 _ _ _ rfl)) _) (fun hH => ?_)
       try simp only [pS]
       have HF : Hid _ := HF.out.set 1 rfl (Rz.cells (R7 er da dl dc sn sc))
       generalize wk30.setRow gk28 (Rz.cells (R7 er da dl dc sn sc)) = wk31 at HF hH ⊢
       refine xV 18 9 (.bool en) hH ?_
       try simp only [pS]
       refine wpAnyH_done (by kernel_rfl) ?_ _
       try simp only [pS]
       clear hH
       exact hh _ _ _ ⟨HF.out.kept, HF.out.box 0 _ _ _ rfl, HF.out.box 1 _ _ _ rfl, nlo (HF.out.low 0 _ _ _ rfl), nlo (HF.out.low 1 _ _ _ rfl)⟩
      ·skip
       clear hi
       refine step_run (i := 15) (o := { dst := some 8, op := Op.alloc 90, type := 0, pos := "phase.go:55", after := #[], guard := none }) rfl (by kernel_rfl) (exec_alloc 90 rfl (Rz.cells rzZ) Z90) (hH.alloc _) (fun hH => ?_)
       try simp only [pS]
       have HF : Hid _ := HF.out.alloc 90 (Rz.cells rzZ)
       generalize wk26.alloc (.cells (Rz.cells rzZ) 90) = wk33 at HF hH ⊢
       generalize wk26.heap.size = gk32 at HF ⊢
       refine xC 9 37 119 #[.agg #[.int .i64 cl, .slice wa wl wk], bkV G, .bool AL] (HSe.out wk33) ?_
       rintro e wk34 ⟨rfl, hk⟩
       have hH2 : Kept No wk9 wk34 := hH.then hk
       have HF : Hid _ := HF.out.no hk
       clear hk
       refine ⟨.tuple #[.agg #[.int .i64 pn, .int .i64 pc, .slice pa pl pk], .agg (resC er sn sc da dl dc), .bool en], rfl, hH2, fun hH => ?_⟩
       clear hH2
       try simp only [pS]
       refine xV 10 27 (.tuple #[.agg #[.int .i64 pn, .int .i64 pc, .slice pa pl pk], .agg (resC er sn sc da dl dc), .bool en]) hH <| xV 11 38 (.agg (Bl.cells (B5 pn pc pa pl pk))) hH <| xV 12 39 (.agg (Rz.cells (R7 er da dl dc sn sc))) hH <| xV 13 40 (.bool en) hH <| ?_
       try simp only [pS]
       refine xS 16 57 ⟨gk25, 0, none⟩ (.agg (Bl.cells (B5 pn pc pa pl pk))) (w' := wk34.setRow gk25 (Bl.cells (B5 pn pc pa pl pk))) (rs (Bl.cs blZ) (Bl.cs (B5 pn pc pa pl pk)) (Bl.cs (B5 pn pc pa pl pk)) (HF.out.box 0 _ _ _ rfl) S57 (Bl.oneL _)) (hH.newRow (nlo (HF.out.low 0 _ _ _ rfl)) _) (fun hH => ?_)
       try simp only [pS]
       have HF : Hid _ := HF.out.set 0 rfl (Bl.cells (B5 pn pc pa pl pk))
       generalize wk34.setRow gk25 (Bl.cells (B5 pn pc pa pl pk)) = wk35 at HF hH ⊢
       refine xS 17 90 ⟨gk32, 0, none⟩ (.agg (Rz.cells (R7 er da dl dc sn sc))) (w' := wk35.setRow gk32 (Rz.cells (R7 er da dl dc sn sc))) (rs (Rz.cs rzZ) (Rz.cs (R7 er da dl dc sn sc)) (Rz.cs (R7 er da dl dc sn sc)) (HF.out.box 1 _ _ _ rfl) S90 (Rz.oneL _)) (hH.newRow (nlo (HF.out.low 1 _ _ _ rfl)) _) (fun hH => ?_)
       try simp only [pS]
       have HF : Hid _ := HF.out.set 1 rfl (Rz.cells (R7 er da dl dc sn sc))
       generalize wk35.setRow gk32 (Rz.cells (R7 er da dl dc sn sc)) = wk36 at HF hH ⊢
       refine xV 18 9 (.bool en) hH ?_
       try simp only [pS]
       refine wpAnyH_done (by kernel_rfl) ?_ _
       try simp only [pS]
       clear hH
       exact hh _ _ _ ⟨HF.out.kept, HF.out.box 0 _ _ _ rfl, HF.out.box 1 _ _ _ rfl, nlo (HF.out.low 0 _ _ _ rfl), nlo (HF.out.low 1 _ _ _ rfl)⟩
     ·skip
      clear hi
      refine step_run (i := 15) (o := { dst := some 8, op := Op.alloc 90, type := 0, pos := "phase.go:55", after := #[], guard := none }) rfl (by kernel_rfl) (exec_alloc 90 rfl (Rz.cells rzZ) Z90) (hH.alloc _) (fun hH => ?_)
      try simp only [pS]
      have HF : Hid _ := HF.out.alloc 90 (Rz.cells rzZ)
      generalize wk11.alloc (.cells (Rz.cells rzZ) 90) = wk38 at HF hH ⊢
      generalize wk11.heap.size = gk37 at HF ⊢
      refine any_pick (rs := [9, 14]) (by kernel_rfl) (by simp) ?_
      intro i hi
      rcases pick2 hi with rfl | rfl
      ·skip
       clear hi
       refine step_call (i := 9) (o := { dst := some 37, op := Op.call { callee := Callee.invoke (Operand.tmp 36) "cairn/register.settle", args := #[Operand.tmp 33, Operand.tmp 34], argTypes := #[57, 4] }, type := 192, pos := "phase.go:55", after := #[{ on := 8, ground := Ground.data }, { on := 5, ground := Ground.data }, { on := 6, ground := Ground.data }, { on := 4, ground := Ground.chain }], guard := none }) rfl (by kernel_rfl) 119 #[.agg #[.int .i64 cl, .slice wa wl wk], bkV G, .bool AL] (by kernel_rfl) _ (HSe.out wk38) ?_
       rintro e wk39 ⟨rfl, hk⟩
       have hH2 : Kept No wk9 wk39 := hH.then hk
       have HF : Hid _ := HF.out.no hk
       clear hk
       refine ⟨.tuple #[.agg #[.int .i64 pn, .int .i64 pc, .slice pa pl pk], .agg (resC er sn sc da dl dc), .bool en], rfl, hH2, fun hH => ?_⟩
       clear hH2
       try simp only [pS]
       refine xV 10 27 (.tuple #[.agg #[.int .i64 pn, .int .i64 pc, .slice pa pl pk], .agg (resC er sn sc da dl dc), .bool en]) hH <| xV 11 38 (.agg (Bl.cells (B5 pn pc pa pl pk))) hH <| xV 12 39 (.agg (Rz.cells (R7 er da dl dc sn sc))) hH <| xV 13 40 (.bool en) hH <| ?_
       try simp only [pS]
       refine any_step (i := 14) (o := { dst := some 7, op := Op.alloc 57, type := 0, pos := "phase.go:55", after := #[], guard := none }) rfl (by kernel_rfl) (by kernel_rfl) (exec_alloc 57 rfl (Bl.cells blZ) Z57) (hH.alloc _) (fun hH => ?_)
       try simp only [pS]
       have HF : Hid _ := HF.out.alloc 57 (Bl.cells blZ)
       generalize wk39.alloc (.cells (Bl.cells blZ) 57) = wk41 at HF hH ⊢
       generalize wk39.heap.size = gk40 at HF ⊢
       refine xS 16 57 ⟨gk40, 0, none⟩ (.agg (Bl.cells (B5 pn pc pa pl pk))) (w' := wk41.setRow gk40 (Bl.cells (B5 pn pc pa pl pk))) (rs (Bl.cs blZ) (Bl.cs (B5 pn pc pa pl pk)) (Bl.cs (B5 pn pc pa pl pk)) (HF.out.box 1 _ _ _ rfl) S57 (Bl.oneL _)) (hH.newRow (nlo (HF.out.low 1 _ _ _ rfl)) _) (fun hH => ?_)
       try simp only [pS]
       have HF : Hid _ := HF.out.set 1 rfl (Bl.cells (B5 pn pc pa pl pk))
       generalize wk41.setRow gk40 (Bl.cells (B5 pn pc pa pl pk)) = wk42 at HF hH ⊢
       refine xS 17 90 ⟨gk37, 0, none⟩ (.agg (Rz.cells (R7 er da dl dc sn sc))) (w' := wk42.setRow gk37 (Rz.cells (R7 er da dl dc sn sc))) (rs (Rz.cs rzZ) (Rz.cs (R7 er da dl dc sn sc)) (Rz.cs (R7 er da dl dc sn sc)) (HF.out.box 0 _ _ _ rfl) S90 (Rz.oneL _)) (hH.newRow (nlo (HF.out.low 0 _ _ _ rfl)) _) (fun hH => ?_)
       try simp only [pS]
       have HF : Hid _ := HF.out.set 0 rfl (Rz.cells (R7 er da dl dc sn sc))
       generalize wk42.setRow gk37 (Rz.cells (R7 er da dl dc sn sc)) = wk43 at HF hH ⊢
       refine xV 18 9 (.bool en) hH ?_
       try simp only [pS]
       refine wpAnyH_done (by kernel_rfl) ?_ _
       try simp only [pS]
       clear hH
       exact hh _ _ _ ⟨HF.out.kept, HF.out.box 1 _ _ _ rfl, HF.out.box 0 _ _ _ rfl, nlo (HF.out.low 1 _ _ _ rfl), nlo (HF.out.low 0 _ _ _ rfl)⟩
      ·skip
       clear hi
       refine step_run (i := 14) (o := { dst := some 7, op := Op.alloc 57, type := 0, pos := "phase.go:55", after := #[], guard := none }) rfl (by kernel_rfl) (exec_alloc 57 rfl (Bl.cells blZ) Z57) (hH.alloc _) (fun hH => ?_)
       try simp only [pS]
       have HF : Hid _ := HF.out.alloc 57 (Bl.cells blZ)
       generalize wk38.alloc (.cells (Bl.cells blZ) 57) = wk45 at HF hH ⊢
       generalize wk38.heap.size = gk44 at HF ⊢
       refine xC 9 37 119 #[.agg #[.int .i64 cl, .slice wa wl wk], bkV G, .bool AL] (HSe.out wk45) ?_
       rintro e wk46 ⟨rfl, hk⟩
       have hH2 : Kept No wk9 wk46 := hH.then hk
       have HF : Hid _ := HF.out.no hk
       clear hk
       refine ⟨.tuple #[.agg #[.int .i64 pn, .int .i64 pc, .slice pa pl pk], .agg (resC er sn sc da dl dc), .bool en], rfl, hH2, fun hH => ?_⟩
       clear hH2
       try simp only [pS]
       refine xV 10 27 (.tuple #[.agg #[.int .i64 pn, .int .i64 pc, .slice pa pl pk], .agg (resC er sn sc da dl dc), .bool en]) hH <| xV 11 38 (.agg (Bl.cells (B5 pn pc pa pl pk))) hH <| xV 12 39 (.agg (Rz.cells (R7 er da dl dc sn sc))) hH <| xV 13 40 (.bool en) hH <| ?_
       try simp only [pS]
       refine xS 16 57 ⟨gk44, 0, none⟩ (.agg (Bl.cells (B5 pn pc pa pl pk))) (w' := wk46.setRow gk44 (Bl.cells (B5 pn pc pa pl pk))) (rs (Bl.cs blZ) (Bl.cs (B5 pn pc pa pl pk)) (Bl.cs (B5 pn pc pa pl pk)) (HF.out.box 1 _ _ _ rfl) S57 (Bl.oneL _)) (hH.newRow (nlo (HF.out.low 1 _ _ _ rfl)) _) (fun hH => ?_)
       try simp only [pS]
       have HF : Hid _ := HF.out.set 1 rfl (Bl.cells (B5 pn pc pa pl pk))
       generalize wk46.setRow gk44 (Bl.cells (B5 pn pc pa pl pk)) = wk47 at HF hH ⊢
       refine xS 17 90 ⟨gk37, 0, none⟩ (.agg (Rz.cells (R7 er da dl dc sn sc))) (w' := wk47.setRow gk37 (Rz.cells (R7 er da dl dc sn sc))) (rs (Rz.cs rzZ) (Rz.cs (R7 er da dl dc sn sc)) (Rz.cs (R7 er da dl dc sn sc)) (HF.out.box 0 _ _ _ rfl) S90 (Rz.oneL _)) (hH.newRow (nlo (HF.out.low 0 _ _ _ rfl)) _) (fun hH => ?_)
       try simp only [pS]
       have HF : Hid _ := HF.out.set 0 rfl (Rz.cells (R7 er da dl dc sn sc))
       generalize wk47.setRow gk37 (Rz.cells (R7 er da dl dc sn sc)) = wk48 at HF hH ⊢
       refine xV 18 9 (.bool en) hH ?_
       try simp only [pS]
       refine wpAnyH_done (by kernel_rfl) ?_ _
       try simp only [pS]
       clear hH
       exact hh _ _ _ ⟨HF.out.kept, HF.out.box 1 _ _ _ rfl, HF.out.box 0 _ _ _ rfl, nlo (HF.out.low 1 _ _ _ rfl), nlo (HF.out.low 0 _ _ _ rfl)⟩
    ·skip
     clear hi
     refine step_run (i := 14) (o := { dst := some 7, op := Op.alloc 57, type := 0, pos := "phase.go:55", after := #[], guard := none }) rfl (by kernel_rfl) (exec_alloc 57 rfl (Bl.cells blZ) Z57) (hH.alloc _) (fun hH => ?_)
     try simp only [pS]
     have HF : Hid _ := HF.out.alloc 57 (Bl.cells blZ)
     generalize wk10.alloc (.cells (Bl.cells blZ) 57) = wk50 at HF hH ⊢
     generalize wk10.heap.size = gk49 at HF ⊢
     refine any_pick (rs := [4, 15]) (by kernel_rfl) (by simp) ?_
     intro i hi
     rcases pick2 hi with rfl | rfl
     ·skip
      clear hi
      refine step_call (i := 4) (o := { dst := some 32, op := Op.call { callee := Callee.value (Operand.func 108), args := #[Operand.tmp 31], argTypes := #[179] }, type := 60, pos := "phase.go:55", after := #[{ on := 3, ground := Ground.data }], guard := none }) rfl (by kernel_rfl) 108 #[.pointer (some ⟨tb, 0, none⟩)] (by kernel_rfl) _ (HGr.out wk50 HF.out.kept) ?_
      rintro e wk51 ⟨rfl, hk⟩
      have hH2 : Kept No wk9 wk51 := hH.then hk
      have HF : Hid _ := HF.out.no hk
      clear hk
      refine ⟨.tuple #[bkV G, .bool AL], rfl, hH2, fun hH => ?_⟩
      clear hH2
      try simp only [pS]
      refine xV 5 33 (bkV G) hH <| xV 6 34 (.bool AL) hH <| ?_
      try simp only [pS]
      refine any_pick (rs := [9, 15]) (by kernel_rfl) (by simp) ?_
      intro i hi
      rcases pick2 hi with rfl | rfl
      ·skip
       clear hi
       refine step_call (i := 9) (o := { dst := some 37, op := Op.call { callee := Callee.invoke (Operand.tmp 36) "cairn/register.settle", args := #[Operand.tmp 33, Operand.tmp 34], argTypes := #[57, 4] }, type := 192, pos := "phase.go:55", after := #[{ on := 8, ground := Ground.data }, { on := 5, ground := Ground.data }, { on := 6, ground := Ground.data }, { on := 4, ground := Ground.chain }], guard := none }) rfl (by kernel_rfl) 119 #[.agg #[.int .i64 cl, .slice wa wl wk], bkV G, .bool AL] (by kernel_rfl) _ (HSe.out wk51) ?_
       rintro e wk52 ⟨rfl, hk⟩
       have hH2 : Kept No wk9 wk52 := hH.then hk
       have HF : Hid _ := HF.out.no hk
       clear hk
       refine ⟨.tuple #[.agg #[.int .i64 pn, .int .i64 pc, .slice pa pl pk], .agg (resC er sn sc da dl dc), .bool en], rfl, hH2, fun hH => ?_⟩
       clear hH2
       try simp only [pS]
       refine xV 10 27 (.tuple #[.agg #[.int .i64 pn, .int .i64 pc, .slice pa pl pk], .agg (resC er sn sc da dl dc), .bool en]) hH <| xV 11 38 (.agg (Bl.cells (B5 pn pc pa pl pk))) hH <| xV 12 39 (.agg (Rz.cells (R7 er da dl dc sn sc))) hH <| xV 13 40 (.bool en) hH <| ?_
       try simp only [pS]
       refine any_step (i := 15) (o := { dst := some 8, op := Op.alloc 90, type := 0, pos := "phase.go:55", after := #[], guard := none }) rfl (by kernel_rfl) (by kernel_rfl) (exec_alloc 90 rfl (Rz.cells rzZ) Z90) (hH.alloc _) (fun hH => ?_)
       try simp only [pS]
       have HF : Hid _ := HF.out.alloc 90 (Rz.cells rzZ)
       generalize wk52.alloc (.cells (Rz.cells rzZ) 90) = wk54 at HF hH ⊢
       generalize wk52.heap.size = gk53 at HF ⊢
       refine xS 16 57 ⟨gk49, 0, none⟩ (.agg (Bl.cells (B5 pn pc pa pl pk))) (w' := wk54.setRow gk49 (Bl.cells (B5 pn pc pa pl pk))) (rs (Bl.cs blZ) (Bl.cs (B5 pn pc pa pl pk)) (Bl.cs (B5 pn pc pa pl pk)) (HF.out.box 0 _ _ _ rfl) S57 (Bl.oneL _)) (hH.newRow (nlo (HF.out.low 0 _ _ _ rfl)) _) (fun hH => ?_)
       try simp only [pS]
       have HF : Hid _ := HF.out.set 0 rfl (Bl.cells (B5 pn pc pa pl pk))
       generalize wk54.setRow gk49 (Bl.cells (B5 pn pc pa pl pk)) = wk55 at HF hH ⊢
       refine xS 17 90 ⟨gk53, 0, none⟩ (.agg (Rz.cells (R7 er da dl dc sn sc))) (w' := wk55.setRow gk53 (Rz.cells (R7 er da dl dc sn sc))) (rs (Rz.cs rzZ) (Rz.cs (R7 er da dl dc sn sc)) (Rz.cs (R7 er da dl dc sn sc)) (HF.out.box 1 _ _ _ rfl) S90 (Rz.oneL _)) (hH.newRow (nlo (HF.out.low 1 _ _ _ rfl)) _) (fun hH => ?_)
       try simp only [pS]
       have HF : Hid _ := HF.out.set 1 rfl (Rz.cells (R7 er da dl dc sn sc))
       generalize wk55.setRow gk53 (Rz.cells (R7 er da dl dc sn sc)) = wk56 at HF hH ⊢
       refine xV 18 9 (.bool en) hH ?_
       try simp only [pS]
       refine wpAnyH_done (by kernel_rfl) ?_ _
       try simp only [pS]
       clear hH
       exact hh _ _ _ ⟨HF.out.kept, HF.out.box 0 _ _ _ rfl, HF.out.box 1 _ _ _ rfl, nlo (HF.out.low 0 _ _ _ rfl), nlo (HF.out.low 1 _ _ _ rfl)⟩
      ·skip
       clear hi
       refine step_run (i := 15) (o := { dst := some 8, op := Op.alloc 90, type := 0, pos := "phase.go:55", after := #[], guard := none }) rfl (by kernel_rfl) (exec_alloc 90 rfl (Rz.cells rzZ) Z90) (hH.alloc _) (fun hH => ?_)
       try simp only [pS]
       have HF : Hid _ := HF.out.alloc 90 (Rz.cells rzZ)
       generalize wk51.alloc (.cells (Rz.cells rzZ) 90) = wk58 at HF hH ⊢
       generalize wk51.heap.size = gk57 at HF ⊢
       refine xC 9 37 119 #[.agg #[.int .i64 cl, .slice wa wl wk], bkV G, .bool AL] (HSe.out wk58) ?_
       rintro e wk59 ⟨rfl, hk⟩
       have hH2 : Kept No wk9 wk59 := hH.then hk
       have HF : Hid _ := HF.out.no hk
       clear hk
       refine ⟨.tuple #[.agg #[.int .i64 pn, .int .i64 pc, .slice pa pl pk], .agg (resC er sn sc da dl dc), .bool en], rfl, hH2, fun hH => ?_⟩
       clear hH2
       try simp only [pS]
       refine xV 10 27 (.tuple #[.agg #[.int .i64 pn, .int .i64 pc, .slice pa pl pk], .agg (resC er sn sc da dl dc), .bool en]) hH <| xV 11 38 (.agg (Bl.cells (B5 pn pc pa pl pk))) hH <| xV 12 39 (.agg (Rz.cells (R7 er da dl dc sn sc))) hH <| xV 13 40 (.bool en) hH <| ?_
       try simp only [pS]
       refine xS 16 57 ⟨gk49, 0, none⟩ (.agg (Bl.cells (B5 pn pc pa pl pk))) (w' := wk59.setRow gk49 (Bl.cells (B5 pn pc pa pl pk))) (rs (Bl.cs blZ) (Bl.cs (B5 pn pc pa pl pk)) (Bl.cs (B5 pn pc pa pl pk)) (HF.out.box 0 _ _ _ rfl) S57 (Bl.oneL _)) (hH.newRow (nlo (HF.out.low 0 _ _ _ rfl)) _) (fun hH => ?_)
       try simp only [pS]
       have HF : Hid _ := HF.out.set 0 rfl (Bl.cells (B5 pn pc pa pl pk))
       generalize wk59.setRow gk49 (Bl.cells (B5 pn pc pa pl pk)) = wk60 at HF hH ⊢
       refine xS 17 90 ⟨gk57, 0, none⟩ (.agg (Rz.cells (R7 er da dl dc sn sc))) (w' := wk60.setRow gk57 (Rz.cells (R7 er da dl dc sn sc))) (rs (Rz.cs rzZ) (Rz.cs (R7 er da dl dc sn sc)) (Rz.cs (R7 er da dl dc sn sc)) (HF.out.box 1 _ _ _ rfl) S90 (Rz.oneL _)) (hH.newRow (nlo (HF.out.low 1 _ _ _ rfl)) _) (fun hH => ?_)
       try simp only [pS]
       have HF : Hid _ := HF.out.set 1 rfl (Rz.cells (R7 er da dl dc sn sc))
       generalize wk60.setRow gk57 (Rz.cells (R7 er da dl dc sn sc)) = wk61 at HF hH ⊢
       refine xV 18 9 (.bool en) hH ?_
       try simp only [pS]
       refine wpAnyH_done (by kernel_rfl) ?_ _
       try simp only [pS]
       clear hH
       exact hh _ _ _ ⟨HF.out.kept, HF.out.box 0 _ _ _ rfl, HF.out.box 1 _ _ _ rfl, nlo (HF.out.low 0 _ _ _ rfl), nlo (HF.out.low 1 _ _ _ rfl)⟩
     ·skip
      clear hi
      refine step_run (i := 15) (o := { dst := some 8, op := Op.alloc 90, type := 0, pos := "phase.go:55", after := #[], guard := none }) rfl (by kernel_rfl) (exec_alloc 90 rfl (Rz.cells rzZ) Z90) (hH.alloc _) (fun hH => ?_)
      try simp only [pS]
      have HF : Hid _ := HF.out.alloc 90 (Rz.cells rzZ)
      generalize wk50.alloc (.cells (Rz.cells rzZ) 90) = wk63 at HF hH ⊢
      generalize wk50.heap.size = gk62 at HF ⊢
      refine xC 4 32 108 #[pV tb 0] (HGr.out wk63 HF.out.kept) ?_
      rintro e wk64 ⟨rfl, hk⟩
      have hH2 : Kept No wk9 wk64 := hH.then hk
      have HF : Hid _ := HF.out.no hk
      clear hk
      refine ⟨.tuple #[bkV G, .bool AL], rfl, hH2, fun hH => ?_⟩
      clear hH2
      try simp only [pS]
      refine xV 5 33 (bkV G) hH <| xV 6 34 (.bool AL) hH <| ?_
      try simp only [pS]
      refine xC 9 37 119 #[.agg #[.int .i64 cl, .slice wa wl wk], bkV G, .bool AL] (HSe.out wk64) ?_
      rintro e wk65 ⟨rfl, hk⟩
      have hH2 : Kept No wk9 wk65 := hH.then hk
      have HF : Hid _ := HF.out.no hk
      clear hk
      refine ⟨.tuple #[.agg #[.int .i64 pn, .int .i64 pc, .slice pa pl pk], .agg (resC er sn sc da dl dc), .bool en], rfl, hH2, fun hH => ?_⟩
      clear hH2
      try simp only [pS]
      refine xV 10 27 (.tuple #[.agg #[.int .i64 pn, .int .i64 pc, .slice pa pl pk], .agg (resC er sn sc da dl dc), .bool en]) hH <| xV 11 38 (.agg (Bl.cells (B5 pn pc pa pl pk))) hH <| xV 12 39 (.agg (Rz.cells (R7 er da dl dc sn sc))) hH <| xV 13 40 (.bool en) hH <| ?_
      try simp only [pS]
      refine xS 16 57 ⟨gk49, 0, none⟩ (.agg (Bl.cells (B5 pn pc pa pl pk))) (w' := wk65.setRow gk49 (Bl.cells (B5 pn pc pa pl pk))) (rs (Bl.cs blZ) (Bl.cs (B5 pn pc pa pl pk)) (Bl.cs (B5 pn pc pa pl pk)) (HF.out.box 0 _ _ _ rfl) S57 (Bl.oneL _)) (hH.newRow (nlo (HF.out.low 0 _ _ _ rfl)) _) (fun hH => ?_)
      try simp only [pS]
      have HF : Hid _ := HF.out.set 0 rfl (Bl.cells (B5 pn pc pa pl pk))
      generalize wk65.setRow gk49 (Bl.cells (B5 pn pc pa pl pk)) = wk66 at HF hH ⊢
      refine xS 17 90 ⟨gk62, 0, none⟩ (.agg (Rz.cells (R7 er da dl dc sn sc))) (w' := wk66.setRow gk62 (Rz.cells (R7 er da dl dc sn sc))) (rs (Rz.cs rzZ) (Rz.cs (R7 er da dl dc sn sc)) (Rz.cs (R7 er da dl dc sn sc)) (HF.out.box 1 _ _ _ rfl) S90 (Rz.oneL _)) (hH.newRow (nlo (HF.out.low 1 _ _ _ rfl)) _) (fun hH => ?_)
      try simp only [pS]
      have HF : Hid _ := HF.out.set 1 rfl (Rz.cells (R7 er da dl dc sn sc))
      generalize wk66.setRow gk62 (Rz.cells (R7 er da dl dc sn sc)) = wk67 at HF hH ⊢
      refine xV 18 9 (.bool en) hH ?_
      try simp only [pS]
      refine wpAnyH_done (by kernel_rfl) ?_ _
      try simp only [pS]
      clear hH
      exact hh _ _ _ ⟨HF.out.kept, HF.out.box 0 _ _ _ rfl, HF.out.box 1 _ _ _ rfl, nlo (HF.out.low 0 _ _ _ rfl), nlo (HF.out.low 1 _ _ _ rfl)⟩
    ·skip
     clear hi
     refine step_run (i := 15) (o := { dst := some 8, op := Op.alloc 90, type := 0, pos := "phase.go:55", after := #[], guard := none }) rfl (by kernel_rfl) (exec_alloc 90 rfl (Rz.cells rzZ) Z90) (hH.alloc _) (fun hH => ?_)
     try simp only [pS]
     have HF : Hid _ := HF.out.alloc 90 (Rz.cells rzZ)
     generalize wk10.alloc (.cells (Rz.cells rzZ) 90) = wk69 at HF hH ⊢
     generalize wk10.heap.size = gk68 at HF ⊢
     refine any_pick (rs := [4, 14]) (by kernel_rfl) (by simp) ?_
     intro i hi
     rcases pick2 hi with rfl | rfl
     ·skip
      clear hi
      refine step_call (i := 4) (o := { dst := some 32, op := Op.call { callee := Callee.value (Operand.func 108), args := #[Operand.tmp 31], argTypes := #[179] }, type := 60, pos := "phase.go:55", after := #[{ on := 3, ground := Ground.data }], guard := none }) rfl (by kernel_rfl) 108 #[.pointer (some ⟨tb, 0, none⟩)] (by kernel_rfl) _ (HGr.out wk69 HF.out.kept) ?_
      rintro e wk70 ⟨rfl, hk⟩
      have hH2 : Kept No wk9 wk70 := hH.then hk
      have HF : Hid _ := HF.out.no hk
      clear hk
      refine ⟨.tuple #[bkV G, .bool AL], rfl, hH2, fun hH => ?_⟩
      clear hH2
      try simp only [pS]
      refine xV 5 33 (bkV G) hH <| xV 6 34 (.bool AL) hH <| ?_
      try simp only [pS]
      refine any_pick (rs := [9, 14]) (by kernel_rfl) (by simp) ?_
      intro i hi
      rcases pick2 hi with rfl | rfl
      ·skip
       clear hi
       refine step_call (i := 9) (o := { dst := some 37, op := Op.call { callee := Callee.invoke (Operand.tmp 36) "cairn/register.settle", args := #[Operand.tmp 33, Operand.tmp 34], argTypes := #[57, 4] }, type := 192, pos := "phase.go:55", after := #[{ on := 8, ground := Ground.data }, { on := 5, ground := Ground.data }, { on := 6, ground := Ground.data }, { on := 4, ground := Ground.chain }], guard := none }) rfl (by kernel_rfl) 119 #[.agg #[.int .i64 cl, .slice wa wl wk], bkV G, .bool AL] (by kernel_rfl) _ (HSe.out wk70) ?_
       rintro e wk71 ⟨rfl, hk⟩
       have hH2 : Kept No wk9 wk71 := hH.then hk
       have HF : Hid _ := HF.out.no hk
       clear hk
       refine ⟨.tuple #[.agg #[.int .i64 pn, .int .i64 pc, .slice pa pl pk], .agg (resC er sn sc da dl dc), .bool en], rfl, hH2, fun hH => ?_⟩
       clear hH2
       try simp only [pS]
       refine xV 10 27 (.tuple #[.agg #[.int .i64 pn, .int .i64 pc, .slice pa pl pk], .agg (resC er sn sc da dl dc), .bool en]) hH <| xV 11 38 (.agg (Bl.cells (B5 pn pc pa pl pk))) hH <| xV 12 39 (.agg (Rz.cells (R7 er da dl dc sn sc))) hH <| xV 13 40 (.bool en) hH <| ?_
       try simp only [pS]
       refine any_step (i := 14) (o := { dst := some 7, op := Op.alloc 57, type := 0, pos := "phase.go:55", after := #[], guard := none }) rfl (by kernel_rfl) (by kernel_rfl) (exec_alloc 57 rfl (Bl.cells blZ) Z57) (hH.alloc _) (fun hH => ?_)
       try simp only [pS]
       have HF : Hid _ := HF.out.alloc 57 (Bl.cells blZ)
       generalize wk71.alloc (.cells (Bl.cells blZ) 57) = wk73 at HF hH ⊢
       generalize wk71.heap.size = gk72 at HF ⊢
       refine xS 16 57 ⟨gk72, 0, none⟩ (.agg (Bl.cells (B5 pn pc pa pl pk))) (w' := wk73.setRow gk72 (Bl.cells (B5 pn pc pa pl pk))) (rs (Bl.cs blZ) (Bl.cs (B5 pn pc pa pl pk)) (Bl.cs (B5 pn pc pa pl pk)) (HF.out.box 1 _ _ _ rfl) S57 (Bl.oneL _)) (hH.newRow (nlo (HF.out.low 1 _ _ _ rfl)) _) (fun hH => ?_)
       try simp only [pS]
       have HF : Hid _ := HF.out.set 1 rfl (Bl.cells (B5 pn pc pa pl pk))
       generalize wk73.setRow gk72 (Bl.cells (B5 pn pc pa pl pk)) = wk74 at HF hH ⊢
       refine xS 17 90 ⟨gk68, 0, none⟩ (.agg (Rz.cells (R7 er da dl dc sn sc))) (w' := wk74.setRow gk68 (Rz.cells (R7 er da dl dc sn sc))) (rs (Rz.cs rzZ) (Rz.cs (R7 er da dl dc sn sc)) (Rz.cs (R7 er da dl dc sn sc)) (HF.out.box 0 _ _ _ rfl) S90 (Rz.oneL _)) (hH.newRow (nlo (HF.out.low 0 _ _ _ rfl)) _) (fun hH => ?_)
       try simp only [pS]
       have HF : Hid _ := HF.out.set 0 rfl (Rz.cells (R7 er da dl dc sn sc))
       generalize wk74.setRow gk68 (Rz.cells (R7 er da dl dc sn sc)) = wk75 at HF hH ⊢
       refine xV 18 9 (.bool en) hH ?_
       try simp only [pS]
       refine wpAnyH_done (by kernel_rfl) ?_ _
       try simp only [pS]
       clear hH
       exact hh _ _ _ ⟨HF.out.kept, HF.out.box 1 _ _ _ rfl, HF.out.box 0 _ _ _ rfl, nlo (HF.out.low 1 _ _ _ rfl), nlo (HF.out.low 0 _ _ _ rfl)⟩
      ·skip
       clear hi
       refine step_run (i := 14) (o := { dst := some 7, op := Op.alloc 57, type := 0, pos := "phase.go:55", after := #[], guard := none }) rfl (by kernel_rfl) (exec_alloc 57 rfl (Bl.cells blZ) Z57) (hH.alloc _) (fun hH => ?_)
       try simp only [pS]
       have HF : Hid _ := HF.out.alloc 57 (Bl.cells blZ)
       generalize wk70.alloc (.cells (Bl.cells blZ) 57) = wk77 at HF hH ⊢
       generalize wk70.heap.size = gk76 at HF ⊢
       refine xC 9 37 119 #[.agg #[.int .i64 cl, .slice wa wl wk], bkV G, .bool AL] (HSe.out wk77) ?_
       rintro e wk78 ⟨rfl, hk⟩
       have hH2 : Kept No wk9 wk78 := hH.then hk
       have HF : Hid _ := HF.out.no hk
       clear hk
       refine ⟨.tuple #[.agg #[.int .i64 pn, .int .i64 pc, .slice pa pl pk], .agg (resC er sn sc da dl dc), .bool en], rfl, hH2, fun hH => ?_⟩
       clear hH2
       try simp only [pS]
       refine xV 10 27 (.tuple #[.agg #[.int .i64 pn, .int .i64 pc, .slice pa pl pk], .agg (resC er sn sc da dl dc), .bool en]) hH <| xV 11 38 (.agg (Bl.cells (B5 pn pc pa pl pk))) hH <| xV 12 39 (.agg (Rz.cells (R7 er da dl dc sn sc))) hH <| xV 13 40 (.bool en) hH <| ?_
       try simp only [pS]
       refine xS 16 57 ⟨gk76, 0, none⟩ (.agg (Bl.cells (B5 pn pc pa pl pk))) (w' := wk78.setRow gk76 (Bl.cells (B5 pn pc pa pl pk))) (rs (Bl.cs blZ) (Bl.cs (B5 pn pc pa pl pk)) (Bl.cs (B5 pn pc pa pl pk)) (HF.out.box 1 _ _ _ rfl) S57 (Bl.oneL _)) (hH.newRow (nlo (HF.out.low 1 _ _ _ rfl)) _) (fun hH => ?_)
       try simp only [pS]
       have HF : Hid _ := HF.out.set 1 rfl (Bl.cells (B5 pn pc pa pl pk))
       generalize wk78.setRow gk76 (Bl.cells (B5 pn pc pa pl pk)) = wk79 at HF hH ⊢
       refine xS 17 90 ⟨gk68, 0, none⟩ (.agg (Rz.cells (R7 er da dl dc sn sc))) (w' := wk79.setRow gk68 (Rz.cells (R7 er da dl dc sn sc))) (rs (Rz.cs rzZ) (Rz.cs (R7 er da dl dc sn sc)) (Rz.cs (R7 er da dl dc sn sc)) (HF.out.box 0 _ _ _ rfl) S90 (Rz.oneL _)) (hH.newRow (nlo (HF.out.low 0 _ _ _ rfl)) _) (fun hH => ?_)
       try simp only [pS]
       have HF : Hid _ := HF.out.set 0 rfl (Rz.cells (R7 er da dl dc sn sc))
       generalize wk79.setRow gk68 (Rz.cells (R7 er da dl dc sn sc)) = wk80 at HF hH ⊢
       refine xV 18 9 (.bool en) hH ?_
       try simp only [pS]
       refine wpAnyH_done (by kernel_rfl) ?_ _
       try simp only [pS]
       clear hH
       exact hh _ _ _ ⟨HF.out.kept, HF.out.box 1 _ _ _ rfl, HF.out.box 0 _ _ _ rfl, nlo (HF.out.low 1 _ _ _ rfl), nlo (HF.out.low 0 _ _ _ rfl)⟩
     ·skip
      clear hi
      refine step_run (i := 14) (o := { dst := some 7, op := Op.alloc 57, type := 0, pos := "phase.go:55", after := #[], guard := none }) rfl (by kernel_rfl) (exec_alloc 57 rfl (Bl.cells blZ) Z57) (hH.alloc _) (fun hH => ?_)
      try simp only [pS]
      have HF : Hid _ := HF.out.alloc 57 (Bl.cells blZ)
      generalize wk69.alloc (.cells (Bl.cells blZ) 57) = wk82 at HF hH ⊢
      generalize wk69.heap.size = gk81 at HF ⊢
      refine xC 4 32 108 #[pV tb 0] (HGr.out wk82 HF.out.kept) ?_
      rintro e wk83 ⟨rfl, hk⟩
      have hH2 : Kept No wk9 wk83 := hH.then hk
      have HF : Hid _ := HF.out.no hk
      clear hk
      refine ⟨.tuple #[bkV G, .bool AL], rfl, hH2, fun hH => ?_⟩
      clear hH2
      try simp only [pS]
      refine xV 5 33 (bkV G) hH <| xV 6 34 (.bool AL) hH <| ?_
      try simp only [pS]
      refine xC 9 37 119 #[.agg #[.int .i64 cl, .slice wa wl wk], bkV G, .bool AL] (HSe.out wk83) ?_
      rintro e wk84 ⟨rfl, hk⟩
      have hH2 : Kept No wk9 wk84 := hH.then hk
      have HF : Hid _ := HF.out.no hk
      clear hk
      refine ⟨.tuple #[.agg #[.int .i64 pn, .int .i64 pc, .slice pa pl pk], .agg (resC er sn sc da dl dc), .bool en], rfl, hH2, fun hH => ?_⟩
      clear hH2
      try simp only [pS]
      refine xV 10 27 (.tuple #[.agg #[.int .i64 pn, .int .i64 pc, .slice pa pl pk], .agg (resC er sn sc da dl dc), .bool en]) hH <| xV 11 38 (.agg (Bl.cells (B5 pn pc pa pl pk))) hH <| xV 12 39 (.agg (Rz.cells (R7 er da dl dc sn sc))) hH <| xV 13 40 (.bool en) hH <| ?_
      try simp only [pS]
      refine xS 16 57 ⟨gk81, 0, none⟩ (.agg (Bl.cells (B5 pn pc pa pl pk))) (w' := wk84.setRow gk81 (Bl.cells (B5 pn pc pa pl pk))) (rs (Bl.cs blZ) (Bl.cs (B5 pn pc pa pl pk)) (Bl.cs (B5 pn pc pa pl pk)) (HF.out.box 1 _ _ _ rfl) S57 (Bl.oneL _)) (hH.newRow (nlo (HF.out.low 1 _ _ _ rfl)) _) (fun hH => ?_)
      try simp only [pS]
      have HF : Hid _ := HF.out.set 1 rfl (Bl.cells (B5 pn pc pa pl pk))
      generalize wk84.setRow gk81 (Bl.cells (B5 pn pc pa pl pk)) = wk85 at HF hH ⊢
      refine xS 17 90 ⟨gk68, 0, none⟩ (.agg (Rz.cells (R7 er da dl dc sn sc))) (w' := wk85.setRow gk68 (Rz.cells (R7 er da dl dc sn sc))) (rs (Rz.cs rzZ) (Rz.cs (R7 er da dl dc sn sc)) (Rz.cs (R7 er da dl dc sn sc)) (HF.out.box 0 _ _ _ rfl) S90 (Rz.oneL _)) (hH.newRow (nlo (HF.out.low 0 _ _ _ rfl)) _) (fun hH => ?_)
      try simp only [pS]
      have HF : Hid _ := HF.out.set 0 rfl (Rz.cells (R7 er da dl dc sn sc))
      generalize wk85.setRow gk68 (Rz.cells (R7 er da dl dc sn sc)) = wk86 at HF hH ⊢
      refine xV 18 9 (.bool en) hH ?_
      try simp only [pS]
      refine wpAnyH_done (by kernel_rfl) ?_ _
      try simp only [pS]
      clear hH
      exact hh _ _ _ ⟨HF.out.kept, HF.out.box 1 _ _ _ rfl, HF.out.box 0 _ _ _ rfl, nlo (HF.out.low 1 _ _ _ rfl), nlo (HF.out.low 0 _ _ _ rfl)⟩
   case tail =>
    have HF2 : Hid (Fq No wk9 W [(A, 57, Bl.cells (B5 pn pc pa pl pk)), (B, 90, Rz.cells (R7 er da dl dc sn sc))]) := ⟨hJ.1, fun i g' T cs hi => by
     match i, hi with
     | 0, hi => cases hi; exact hJ.2.1
     | 1, hi => cases hi; exact hJ.2.2.1, fun i g' T cs hi => by
     match i, hi with
     | 0, hi => cases hi; exact .inl hJ.2.2.2.1
     | 1, hi => cases hi; exact .inl hJ.2.2.2.2, fun i j g' T cs T' cs' hi hj => by
     match i, j, hi, hj with
     | 0, 0, _, _ => rfl
     | 1, 1, _, _ => rfl
     | 0, 1, hi, hj => cases hi; cases hj; exact absurd rfl (box_ne hJ.2.1 hJ.2.2.1 (by decide))
     | 1, 0, hi, hj => cases hi; cases hj; exact absurd rfl (box_ne hJ.2.1 hJ.2.2.1 (by decide))⟩
    clear hJ HF hH
    have HF := HF2
    clear HF2
    go_upto_region 4 with fail
    refine WL.start <| uK (.bool en) <| WL.nil <| ?_
    try simp only [pS]
    cases q3 : (en)
    ·skip
     try simp only [q3]
     have HZl := HZl.out q3
     have HBy := HBy.out q3
     have HZl : Hid ((pz b).length = pl ∧ pl ≤ 140737488355328) := HZl
     have HBy : Hid (Bytes wk9 pa (pz b) ∧ ¬ At pa m) := HBy
     go_upto_region 6 with fail
     refine WL.start <| uK (pV m 0) <| uK (pV m 0) <| uK (pV m 8) <| uL 3 ⟨m, 8, none⟩ (.int .i64 x.rd) (load_one ((HMb.out.box.kept HF.out.kept (fun e => e)).cell 8 |>.trans (by kernel_rfl)) U3 rfl) <| ?_
     try simp only [pS]
     cases q4 : (x.rd == 1099511627776)
     ·skip
      refine uB .eql 3 (.int .i64 x.rd) (.int .i64 1099511627776) (.bool false) (by rw [b_eql, q4]; try rfl) <| WL.nil <| ?_
      try simp only [pS]
      go_upto_region 8 with fail
      refine WL.start <| uK (pV m 0) <| uK (pV m 0) <| uK (pV m 8) <| uL 3 ⟨m, 8, none⟩ (.int .i64 x.rd) (load_one ((HMb.out.box.kept HF.out.kept (fun e => e)).cell 8 |>.trans (by kernel_rfl)) U3 rfl) <| uB .add 3 (.int .i64 x.rd) (.int .i64 1) (.int .i64 (x.rd + 1)) (b_addw _ _ _ (by rw [IntKind.wrap_i64]; have := of_beq_f q4; omega) _) <| uK (pV m 0) <| uK (pV m 8) <| ?_
      try simp only [pS]
      have HBm : Hid (Box W m 142 ([.bool true, .int .i64 x.cl, .int .i64 x.op, .int .i64 x.k0, .int .i64 x.k1, .int .i64 x.k2, .int .i64 x.k3, .slice a x.g.length cap, .int .i64 x.rd, .iface 182 (.agg #[.iface 118 (.agg #[.int .i64 cl, .slice wa wl wk]), .pointer (some ⟨tb, 0, none⟩)])] : List Value).toArray) := HMb.out.box.kept HF.out.kept (fun e => e)
      refine uT 3 ⟨m, 8, none⟩ (.int .i64 (x.rd + 1)) (W.setRow m ([.bool true, .int .i64 x.cl, .int .i64 x.op, .int .i64 x.k0, .int .i64 x.k1, .int .i64 x.k2, .int .i64 x.k3, .slice a x.g.length cap, .int .i64 (x.rd + 1), .iface 182 (.agg #[.iface 118 (.agg #[.int .i64 cl, .slice wa wl wk]), pV tb 0])] : List Value).toArray) (rs ([.bool true, .int .i64 x.cl, .int .i64 x.op, .int .i64 x.k0, .int .i64 x.k1, .int .i64 x.k2, .int .i64 x.k3, .slice a x.g.length cap, .int .i64 x.rd, .iface 182 (.agg #[.iface 118 (.agg #[.int .i64 cl, .slice wa wl wk]), pV tb 0])]) ([.int .i64 (x.rd + 1)]) ([.bool true, .int .i64 x.cl, .int .i64 x.op, .int .i64 x.k0, .int .i64 x.k1, .int .i64 x.k2, .int .i64 x.k3, .slice a x.g.length cap, .int .i64 (x.rd + 1), .iface 182 (.agg #[.iface 118 (.agg #[.int .i64 cl, .slice wa wl wk]), pV tb 0])]) HBm.out S3 (by simp [Value.oneCell'])) ?_
      try simp only [pS]
      have hPm : A ≠ m := box_ne (HF.out.box 0 _ _ _ rfl) HBm.out (by decide)
      have hRm : B ≠ m := box_ne (HF.out.box 1 _ _ _ rfl) HBm.out (by decide)
      have HMk : Hid (Mach (W.setRow m ([.bool true, .int .i64 x.cl, .int .i64 x.op, .int .i64 x.k0, .int .i64 x.k1, .int .i64 x.k2, .int .i64 x.k3, .slice a x.g.length cap, .int .i64 (x.rd + 1), .iface 182 (.agg #[.iface 118 (.agg #[.int .i64 cl, .slice wa wl wk]), .pointer (some ⟨tb, 0, none⟩)])] : List Value).toArray) m a cap { x with rd := x.rd + 1 } 182 (.agg #[.iface 118 (.agg #[.int .i64 cl, .slice wa wl wk]), .pointer (some ⟨tb, 0, none⟩)])) := ⟨HBm.out.setRow _, (HMb.out.no HF.out.kept).row.kept (Kept.setRow _ _ _) (fun k e f => (HMb.out.no HF.out.kept).off e f), HMb.out.nd, HMb.out.len⟩
      have HF2 : Hid (Fq (Only m) wk9 (W.setRow m ([.bool true, .int .i64 x.cl, .int .i64 x.op, .int .i64 x.k0, .int .i64 x.k1, .int .i64 x.k2, .int .i64 x.k3, .slice a x.g.length cap, .int .i64 (x.rd + 1), .iface 182 (.agg #[.iface 118 (.agg #[.int .i64 cl, .slice wa wl wk]), .pointer (some ⟨tb, 0, none⟩)])] : List Value).toArray) [(A, 57, Bl.cells (B5 pn pc pa pl pk)), (B, 90, Rz.cells (R7 er da dl dc sn sc))]) := ⟨HF.out.kept.of_no.trans (Kept.setRow _ _ _) (fun _ e => e) (fun _ _ e => e), fun i g' T cs hi => (HF.out.box i g' T cs hi).rowNe (by
       match i, hi with
       | 0, hi => cases hi; exact hPm
       | 1, hi => cases hi; exact hRm) _, fun i g' T cs hi => .inl ((HF.out.low i g' T cs hi).elim id (fun e => e.elim)), HF.out.inj⟩
      clear HBm HF
      have HF := HF2
      clear HF2
      generalize (W.setRow m ([.bool true, .int .i64 x.cl, .int .i64 x.op, .int .i64 x.k0, .int .i64 x.k1, .int .i64 x.k2, .int .i64 x.k3, .slice a x.g.length cap, .int .i64 (x.rd + 1), .iface 182 (.agg #[.iface 118 (.agg #[.int .i64 cl, .slice wa wl wk]), .pointer (some ⟨tb, 0, none⟩)])] : List Value).toArray) = wk87 at HF HMk ⊢
      refine WL.nil ?_
      try simp only [pS]
      go_upto_region 9 with fail
      refine wp_region_held_drew (S := fun w' => Box w' A 57 (Bl.cells (B5 pn pc pa pl pk)) ∧ Box w' B 90 (Rz.cells (R7 er da dl dc sn sc)) ∧ w'.cell? ⟨m, 7, none⟩ = some (.slice a x.g.length cap)) rfl ⟨(HF.out.drew.box 0 _ _ _ rfl), (HF.out.drew.box 1 _ _ _ rfl), (HMk.out.no (Kept.refl No _).drew).box.cell 7⟩ (fun hH => ?_)
      have HMk : Hid (Mach wk87.drew m a cap { x with rd := x.rd + 1 } 182 (.agg #[.iface 118 (.agg #[.int .i64 cl, .slice wa wl wk]), .pointer (some ⟨tb, 0, none⟩)])) := HMk.out.no (Kept.refl No _).drew
      have HF : Hid _ := HF.out.drew
      generalize wk87.drew = wk88 at HF HMk hH ⊢
      refine xV 0 63 (pV m 0) hH <| xL 1 64 57 ⟨A, 0, none⟩ (.agg (Bl.cells (B5 pn pc pa pl pk))) (fun _ hw => run_load_part (cs := Bl.cs (B5 pn pc pa pl pk)) (sub := Bl.cs (B5 pn pc pa pl pk)) (hw.1) (Part.all _) U57 rfl S57) hH <| xL 2 65 90 ⟨B, 0, none⟩ (.agg (Rz.cells (R7 er da dl dc sn sc))) (fun _ hw => run_load_part (cs := Rz.cs (R7 er da dl dc sn sc)) (sub := Rz.cs (R7 er da dl dc sn sc)) (hw.2.1) (Part.all _) U90 rfl S90) hH <| xV 3 66 (pV m 0) hH <| xV 4 67 (pV m 0) hH <| xV 5 68 (pV m 7) hH <| xL 6 69 24 ⟨m, 7, none⟩ (.slice a x.g.length cap) (fun _ hw => load_one (hw.2.2) U24 rfl) hH <| xV 7 70 (pV m 0) hH <| ?_
      try simp only [pS]
      refine xC 8 71 99 #[pV m 0] (need_any m a cap { x with rd := x.rd + 1 } 182 (.agg #[.iface 118 (.agg #[.int .i64 cl, .slice wa wl wk]), pV tb 0]) wk88 HMk.out) ?_
      rintro e wq ⟨rfl, hwq⟩
      rw [hwq]
      clear hwq wq
      refine ⟨.int .i64 (needI x), rfl, hH, fun hH => ?_⟩
      try simp only [pS]
      refine xC 9 72 61 #[.slice a x.g.length cap, .int .i64 (needI x)] (new_anyU a x.g.length cap x.g (needI x) wk88 rfl (by omega) (HMk.out.row.nums rfl)) ?_
      rintro e wk89 ⟨ua, ut, rfl, hU, hUa, hk⟩
      have hH2 : Box wk89 A 57 (Bl.cells (B5 pn pc pa pl pk)) ∧ Box wk89 B 90 (Rz.cells (R7 er da dl dc sn sc)) ∧ wk89.cell? ⟨m, 7, none⟩ = some (.slice a x.g.length cap) := ⟨hH.1.kept hk (fun e => e), hH.2.1.kept hk (fun e => e), hk.cell hH.2.2 (fun e => e)⟩
      have HUl : Hid (∀ k, TB (wk88.heap.size + 1) wk88.heap.size ua k → ¬ Only m k) := fun k e f => by
       have h1 : m < wk88.heap.size := HMk.out.box.lt
       have f : k = m := f
       rcases e with e | e | e
       · omega
       · omega
       · have := hUa k e; omega
      have HUg : Hid (∀ k, TB (wk88.heap.size + 1) wk88.heap.size ua k → wk9.heap.size ≤ k) := fun k e => by
       have h1 : wk9.heap.size ≤ wk88.heap.size := HF.out.kept.size
       rcases e with e | e | e
       · omega
       · omega
       · have := hUa k e; omega
      have HU : Hid (Tal 150 ansU wk89 (wk88.heap.size + 1) wk88.heap.size ua ut (tNew Unit x.g (needI x))) := hU
      have HMk : Hid (Mach wk89 m a cap { x with rd := x.rd + 1 } 182 (.agg #[.iface 118 (.agg #[.int .i64 cl, .slice wa wl wk]), .pointer (some ⟨tb, 0, none⟩)])) := HMk.out.no hk
      have HF : Hid _ := HF.out.no hk
      clear hU hUa hk
      generalize wk88.heap.size + 1 = ub at HU HUl HUg ⊢
      generalize wk88.heap.size = ubb at HU HUl HUg
      refine ⟨.pointer (some ⟨ub, 0, none⟩), rfl, hH2, fun hH => ?_⟩
      clear hH2
      try simp only [pS]
      refine xU 10 73 (.agg (laC pn pc pa pl pk er sn sc da dl dc ub)) (fun w' hw => exec_build 195 _ rfl (laC pn pc pa pl pk er sn sc da dl dc ub) (by kernel_rfl)) hH <| xV 11 74 (.iface 195 (.agg (laC pn pc pa pl pk er sn sc da dl dc ub))) hH <| ?_
      try simp only [pS]
      refine xC 12 75 96 #[pV m 0, .iface 195 (.agg (laC pn pc pa pl pk er sn sc da dl dc ub))] (enterL_any m a cap { x with rd := x.rd + 1 } 182 (.agg #[.iface 118 (.agg #[.int .i64 cl, .slice wa wl wk]), pV tb 0]) pn pc pa pl pk er sn sc da dl dc ub ubb ut ua (tNew Unit x.g (needI x)) (pz b) wk89 HMk.out HU.out (by rw [show (tNew Unit x.g (needI x)).g = uq x.g from rfl]; have := uq_len x.g; omega) HZl.out.1 HZl.out.2 (Nums.kept HBy.out.1 HF.out.kept (fun b' off e f => HBy.out.2 ⟨_, e, f⟩)) (fun e => HUl.out _ e rfl) HBy.out.2) ?_
      rintro e wk90 ⟨la, lc, qs, rfl, hq, hMs, hM2, hk⟩
      have HMf : Hid (Mach wk90 m a cap { x with rd := x.rd + 1 } 195 (layV pn pc pa pl pk er sn sc da dl dc ub)) := hM2
      have hH2 : Box wk90 A 57 (Bl.cells (B5 pn pc pa pl pk)) ∧ Box wk90 B 90 (Rz.cells (R7 er da dl dc sn sc)) ∧ wk90.cell? ⟨m, 7, none⟩ = some (.slice a x.g.length cap) := ⟨(HF.out.box 0 _ _ _ rfl).kept hk (fun e => hPm e), (HF.out.box 1 _ _ _ rfl).kept hk (fun e => hRm e), HMf.out.box.cell 7⟩
      have HKf : Hid (Kept (Only m) wk9 wk90) := HF.out.kept.trans hk (fun _ e => e) (fun _ _ e => e)
      have HMs : Hid (Msgs wk90 wk9.heap.size la lc { x with rd := x.rd + 1 } ⟨2, pn, pc, pl⟩ (pz b) qs) := ⟨Own.lower hMs.row HF.out.kept.size, fun q hq => Own.lower (hMs.own q hq) HF.out.kept.size, hMs.ord, hMs.len⟩
      have HQ : Hid (qs.map Qm.sv = x.g) := by show qs.map Qm.sv = x.g; rw [hq]; simp [missL, tNew, uq_nd HMb.out.nd]
      have HUf : Hid (Tal 150 ansU wk90 ub ubb ua ut (tNew Unit x.g (needI x))) := HU.out.kept hk (fun k e f => HUl.out k e f)
      clear hk hM2 hMs hq
      refine ⟨.slice la qs.length lc, rfl, hH2, fun hH => ?_⟩
      clear hH2
      try simp only [pS]
      refine xV 13 6 (.slice la qs.length lc) hH ?_
      try simp only [pS]
      refine wpAnyH_done (by kernel_rfl) ?_ _
      try simp only [pS]
      clear hH
      go_wp2
      rw [HC.out]
      have hsz := HKt.out.size
      have HKa : Hid (Kept (fun k => k = m ∨ Tb2 tb bb k) w wk90) := (HKt.out.mono (fun _ _ e => .inr e)).trans HKf.out (fun _ e => e) (fun _ _ e => .inl e)
      have HOf : Hid (OwnB wk90 w.heap.size ka kk kz) := Own.kept HO.out HKf.out (fun k e f => by have := Own.base HO.out e; have f : k = m := f; omega)
      have HTf : Hid (Tal 185 ansB wk90 tb bb at' ct (takeS Y d.fr.id b)) := HTb.out.kept HKf.out (fun k e f => by
       have f : k = m := f
       subst f
       rcases e with e | e | e
       · exact HD.out k (.inl rfl) (.inl e)
       · exact HD.out k (.inl rfl) (.inr e)
       · exact Own.notBox HTb.out.row HMb.out.box (by decide) e)
      refine .inr ⟨q1, ka, kk, b, HBb.out, HOf.out, HKa.out, HTf.out, .inr (.inr (.inr ⟨q2, by rw [← HQq.out]; exact q3, of_beq_f q4, ub, ubb, ut, ua, la, lc, qs, rfl, HQ.out, by rw [← HQq.out]; exact ⟨Own.lower HMs.out.row hsz, fun q hq => Own.lower (HMs.out.own q hq) hsz, HMs.out.ord, HMs.out.len⟩, by rw [← HQq.out]; exact HMf.out, HUf.out, fun k e => Nat.le_trans hsz (HUg.out k e)⟩))⟩
     ·skip
      refine uB .eql 3 (.int .i64 x.rd) (.int .i64 1099511627776) (.bool true) (by rw [b_eql, q4]; try rfl) <| WL.nil <| ?_
      try simp only [pS]
      go_upto_region 7 with fail
      refine WL.start <| uK (pV m 0) <| ?_
      try simp only [pS]
      refine uC 97 #[] (worn97 W) ?_
      rintro e wk91 ⟨rfl, hk⟩
      have HF : Hid _ := HF.out.no hk
      clear hk
      refine ⟨.agg (Rz.cells { rzZ with er := 4 }), rfl, ?_⟩
      try simp only [pS]
      refine uK (.iface 177 (.agg (Rz.cells { rzZ with er := 4 }))) ?_
      try simp only [pS]
      have HKn : Hid (Kept No wk9 wk91) := HF.out.kept
      refine uC 96 #[pV m 0, .iface 177 (.agg (Rz.cells { rzZ with er := 4 }))] (enterE_any m a cap x 182 (.agg #[.iface 118 (.agg #[.int .i64 cl, .slice wa wl wk]), pV tb 0]) 4 0 0 none 0 0 wk91 (HMb.out.no HKn.out)) ?_
      rintro e wk92 ⟨rfl, hM2, hk⟩
      have HMf : Hid (Mach wk92 m a cap x 177 (endV 4 0 0 none 0 0)) := hM2
      have HKf : Hid (Kept (Only m) wk9 wk92) := (HKn.out.of_no : Kept (Only m) _ _).then hk
      clear hk hM2
      refine ⟨.slice none 0 0, rfl, ?_⟩
      try simp only [pS]
      refine uK (.slice none 0 0) <| WL.nil <| ?_
      try simp only [pS]
      go_wp2
      rw [HC.out]
      have hsz := HKt.out.size
      have HKa : Hid (Kept (fun k => k = m ∨ Tb2 tb bb k) w wk92) := (HKt.out.mono (fun _ _ e => .inr e)).trans HKf.out (fun _ e => e) (fun _ _ e => .inl e)
      have HOf : Hid (OwnB wk92 w.heap.size ka kk kz) := Own.kept HO.out HKf.out (fun k e f => by have := Own.base HO.out e; have f : k = m := f; omega)
      have HTf : Hid (Tal 185 ansB wk92 tb bb at' ct (takeS Y d.fr.id b)) := HTb.out.kept HKf.out (fun k e f => by
       have f : k = m := f
       subst f
       rcases e with e | e | e
       · exact HD.out k (.inl rfl) (.inl e)
       · exact HD.out k (.inl rfl) (.inr e)
       · exact Own.notBox HTb.out.row HMb.out.box (by decide) e)
      refine .inr ⟨q1, ka, kk, b, HBb.out, HOf.out, HKa.out, HTf.out, .inr (.inr (.inl ⟨q2, by rw [← HQq.out]; exact q3, beq_iff_eq.1 q4, rfl, HMf.out⟩))⟩
    ·skip
     try simp only [q3]
     go_upto_region 5 with fail
     refine WL.start <| uK (pV m 0) <| uL 90 ⟨B, 0, none⟩ (.agg (Rz.cells (R7 er da dl dc sn sc))) (run_load_part (cs := Rz.cs (R7 er da dl dc sn sc)) (sub := Rz.cs (R7 er da dl dc sn sc)) (HF.out.box 1 _ _ _ rfl) (Part.all _) U90 rfl S90) <| uW (.agg (Rz.cells (R7 er da dl dc sn sc))) (exec_build 177 _ rfl (Rz.cells (R7 er da dl dc sn sc)) (by kernel_rfl)) <| uK (.iface 177 (.agg (Rz.cells (R7 er da dl dc sn sc)))) <| ?_
     try simp only [pS]
     have HKn : Hid (Kept No wk9 W) := HF.out.kept
     refine uC 96 #[pV m 0, .iface 177 (.agg (Rz.cells (R7 er da dl dc sn sc)))] (enterE_any m a cap x 182 (.agg #[.iface 118 (.agg #[.int .i64 cl, .slice wa wl wk]), pV tb 0]) er sn sc da dl dc W (HMb.out.no HKn.out)) ?_
     rintro e wk93 ⟨rfl, hM2, hk⟩
     have HMf : Hid (Mach wk93 m a cap x 177 (endV er sn sc da dl dc)) := hM2
     have HKf : Hid (Kept (Only m) wk9 wk93) := (HKn.out.of_no : Kept (Only m) _ _).then hk
     clear hk hM2
     refine ⟨.slice none 0 0, rfl, ?_⟩
     try simp only [pS]
     refine uK (.slice none 0 0) <| WL.nil <| ?_
     try simp only [pS]
     go_wp2
     rw [HC.out]
     have hsz := HKt.out.size
     have HKa : Hid (Kept (fun k => k = m ∨ Tb2 tb bb k) w wk93) := (HKt.out.mono (fun _ _ e => .inr e)).trans HKf.out (fun _ e => e) (fun _ _ e => .inl e)
     have HOf : Hid (OwnB wk93 w.heap.size ka kk kz) := Own.kept HO.out HKf.out (fun k e f => by have := Own.base HO.out e; have f : k = m := f; omega)
     have HTf : Hid (Tal 185 ansB wk93 tb bb at' ct (takeS Y d.fr.id b)) := HTb.out.kept HKf.out (fun k e f => by
      have f : k = m := f
      subst f
      rcases e with e | e | e
      · exact HD.out k (.inl rfl) (.inl e)
      · exact HD.out k (.inl rfl) (.inr e)
      · exact Own.notBox HTb.out.row HMb.out.box (by decide) e)
     refine .inr ⟨q1, ka, kk, b, HBb.out, HOf.out, HKa.out, HTf.out, .inr (.inl ⟨q2, by rw [← HQq.out]; exact q3, rfl, by rw [← HQq.out]; exact HMf.out⟩)⟩
set_option maxRecDepth 100000 in
set_option maxHeartbeats 4000000 in
theorem takeA_R (m : Nat) (a : Option Addr) (cap : Nat) (x : MS) (sz : Int) (tb bb ct : Nat) (at' : Option Addr) (Y : TS Bq) (d : Mg) (kn kc : Int) (kz : List Int) (R : Bq → Sq) (pz : Bq → List Int) (w : World) (hM : Mach w m a cap x 182 (.agg #[.iface 120 (.agg #[.int .i64 sz]), .pointer (some ⟨tb, 0, none⟩)])) (hT : Tal 185 ansB w tb bb at' ct Y) (hgl : x.g.length ≤ 1000) (hyl : Y.g.length ≤ 1000) (hr0 : 0 ≤ x.rd) (hr1 : x.rd ≤ 1099511627776)
 (hkp : hitB x 11 (mdOf d) = true → ∀ wr, Kept No w wr → Calls Try.prog 88 #[.agg #[.int .i64 sz], .agg (Mg.cells d)] wr (KeepOut wr kn kc kz))
 (hset : ∀ b : Bq, b.n = kn → b.c = kc → ∀ wr, Calls Try.prog 120 #[.agg #[.int .i64 sz], bkV (bestP ((gotL (takeS Y d.fr.id b)).map Prod.snd)), .bool (!((gotL (takeS Y d.fr.id b)).map Prod.snd).any (otherB (bestP ((gotL (takeS Y d.fr.id b)).map Prod.snd))))] wr (SettleOut wr (R b).pn (R b).pc (R b).pa (R b).pl (R b).pk (R b).er (R b).sn (R b).sc (R b).da (R b).dl (R b).dc (R b).en))
 (hpz : ∀ ka kk, takeB Y d.fr.id = true → (R ⟨kn, kc, ka, kz.length, kk⟩).en = false → (pz ⟨kn, kc, ka, kz.length, kk⟩).length = (R ⟨kn, kc, ka, kz.length, kk⟩).pl ∧ (R ⟨kn, kc, ka, kz.length, kk⟩).pl ≤ 140737488355328)
 (hpb : ∀ ka kk wr, Kept (Tb2 tb bb) w wr → OwnB wr w.heap.size ka kk kz → takeB Y d.fr.id = true → (R ⟨kn, kc, ka, kz.length, kk⟩).en = false → Bytes wr (R ⟨kn, kc, ka, kz.length, kk⟩).pa (pz ⟨kn, kc, ka, kz.length, kk⟩) ∧ ¬ At (R ⟨kn, kc, ka, kz.length, kk⟩).pa m)
 (hd : ∀ k, MB m a k → ¬ Tb2 tb bb k) : Calls Try.prog 105 #[.agg #[.iface 120 (.agg #[.int .i64 sz]), .pointer (some ⟨tb, 0, none⟩)], .pointer (some ⟨m, 0, none⟩), .agg (Mg.cells d)] w (TakAO w m a cap x (.agg #[.iface 120 (.agg #[.int .i64 sz]), .pointer (some ⟨tb, 0, none⟩)]) tb bb ct at' Y d kn kc kz R pz) := by
 refine hideC fun C HC => ?_
 have HM : Hid (Mach w m a cap x 182 (.agg #[.iface 120 (.agg #[.int .i64 sz]), .pointer (some ⟨tb, 0, none⟩)])) := hM
 have HT : Hid (Tal 185 ansB w tb bb at' ct Y) := hT
 have HKp : Hid (hitB x 11 (mdOf d) = true → ∀ wr, Kept No w wr → Calls Try.prog 88 #[.agg #[.int .i64 sz], .agg (Mg.cells d)] wr (KeepOut wr kn kc kz)) := hkp
 have HSt : Hid (∀ b : Bq, b.n = kn → b.c = kc → ∀ wr, Calls Try.prog 120 #[.agg #[.int .i64 sz], bkV (bestP ((gotL (takeS Y d.fr.id b)).map Prod.snd)), .bool (!((gotL (takeS Y d.fr.id b)).map Prod.snd).any (otherB (bestP ((gotL (takeS Y d.fr.id b)).map Prod.snd))))] wr (SettleOut wr (R b).pn (R b).pc (R b).pa (R b).pl (R b).pk (R b).er (R b).sn (R b).sc (R b).da (R b).dl (R b).dc (R b).en)) := hset
 have HPz : Hid (∀ ka kk, takeB Y d.fr.id = true → (R ⟨kn, kc, ka, kz.length, kk⟩).en = false → (pz ⟨kn, kc, ka, kz.length, kk⟩).length = (R ⟨kn, kc, ka, kz.length, kk⟩).pl ∧ (R ⟨kn, kc, ka, kz.length, kk⟩).pl ≤ 140737488355328) := hpz
 have HPb : Hid (∀ ka kk wr, Kept (Tb2 tb bb) w wr → OwnB wr w.heap.size ka kk kz → takeB Y d.fr.id = true → (R ⟨kn, kc, ka, kz.length, kk⟩).en = false → Bytes wr (R ⟨kn, kc, ka, kz.length, kk⟩).pa (pz ⟨kn, kc, ka, kz.length, kk⟩) ∧ ¬ At (R ⟨kn, kc, ka, kz.length, kk⟩).pa m) := hpb
 have HD : Hid (∀ k, MB m a k → ¬ Tb2 tb bb k) := hd
 have HTl : Hid (∀ k, Tb2 tb bb k → k < w.heap.size) := fun k e => hT.lt (by rcases e with rfl | rfl; exact .inl rfl; exact .inr (.inl rfl))
 have hml := hM.box.lt
 clear hM hT hkp hset hpz hpb hd
 have HF : Hid (Fq No w w []) := Fq.start _ _
 go_enter Try.func105, Try.ntmps105
 go_upto_region 0 with fail
 refine WL.start ?_
 refine uR (pV w.heap.size 0) (w.alloc (.cells (#[.iface 120 (.agg #[.int .i64 sz]), pV tb 0]) 182)) (exec_box 182 _ rfl (#[.iface 120 (.agg #[.int .i64 sz]), pV tb 0]) (by kernel_rfl)) ?_
 try simp only [pS]
 have HF : Hid _ := HF.out.alloc 182 (#[.iface 120 (.agg #[.int .i64 sz]), .pointer (some ⟨tb, 0, none⟩)])
 generalize w.alloc (.cells (#[.iface 120 (.agg #[.int .i64 sz]), .pointer (some ⟨tb, 0, none⟩)]) 182) = wk2 at HF ⊢
 generalize w.heap.size = gk1 at HF ⊢
 refine uR (pV wk2.heap.size 0) (wk2.alloc (.cells (Mg.cells d) 52)) (exec_box 52 _ rfl (Mg.cells d) (by kernel_rfl)) ?_
 try simp only [pS]
 have HF : Hid _ := HF.out.alloc 52 (Mg.cells d)
 generalize wk2.alloc (.cells (Mg.cells d) 52) = wk4 at HF ⊢
 generalize wk2.heap.size = gk3 at HF ⊢
 refine uK (.slice none 0 0) <| WL.nil <| ?_
 try simp only [pS]
 go_upto_region 1 with fail
 refine wp_region_held_drew (S := fun w' => Box w' gk1 182 (#[.iface 120 (.agg #[.int .i64 sz]), .pointer (some ⟨tb, 0, none⟩)]) ∧ Box w' gk3 52 (Mg.cells d)) rfl ⟨HF.out.box 0 _ _ _ rfl, HF.out.box 1 _ _ _ rfl⟩ (fun hH => ?_)
 have HF : Hid _ := HF.out.drew
 generalize wk4.drew = wk5 at HF hH ⊢
 refine xV 0 10 (pV m 0) hH <| xL 1 11 52 ⟨gk3, 0, none⟩ (.agg (Mg.cells d)) (fun _ hw => run_load_part (cs := Mg.cs d) (sub := Mg.cs d) (hw.2) (Part.all _) U52 rfl S52) hH <| ?_
 try simp only [pS]
 cases q1 : (hitB x 11 (mdOf d))
 ·skip
  refine xC 2 12 107 #[pV m 0, .agg (Mg.cells d), .int .i64 11] (answered_any m a cap x 182 (.agg #[.iface 120 (.agg #[.int .i64 sz]), pV tb 0]) (mdOf d) 11 wk5 (HM.out.no HF.out.kept)) ?_
  rintro e wk6 ⟨rfl, hk⟩
  have hH2 : Box wk6 gk1 182 (#[.iface 120 (.agg #[.int .i64 sz]), .pointer (some ⟨tb, 0, none⟩)]) ∧ Box wk6 gk3 52 (Mg.cells d) := ⟨hH.1.kept hk (fun e => e), hH.2.kept hk (fun e => e)⟩
  have HF : Hid _ := HF.out.no hk
  clear hk
  refine ⟨.bool false, by rw [q1], hH2, fun hH => ?_⟩
  clear hH2
  try simp only [pS]
  refine xV 3 13 (.bool true) hH <| xV 4 14 (.bool true) hH <| xZ 5 15 hH <| xZ 6 16 hH <| xZ 7 17 hH <| xZ 8 18 hH <| xZ 9 19 hH <| xZ 10 20 hH <| xZ 11 21 hH <| xZ 12 22 hH <| xZ 13 23 hH <| xZ 14 24 hH <| xZ 15 25 hH <| xV 16 26 (.bool true) hH <| ?_
  try simp only [pS]
  refine wpAnyH_done (by kernel_rfl) ?_ _
  try simp only [pS]
  clear hH
  go_upto_region 2 with fail
  refine WL.start <| uK (.slice none 0 0) <| WL.nil <| ?_
  try simp only [pS]
  go_wp2
  rw [HC.out]
  exact .inl ⟨q1, rfl, HF.out.kept⟩
 ·skip
  refine xC 2 12 107 #[pV m 0, .agg (Mg.cells d), .int .i64 11] (answered_any m a cap x 182 (.agg #[.iface 120 (.agg #[.int .i64 sz]), pV tb 0]) (mdOf d) 11 wk5 (HM.out.no HF.out.kept)) ?_
  rintro e wk7 ⟨rfl, hk⟩
  have hH2 : Box wk7 gk1 182 (#[.iface 120 (.agg #[.int .i64 sz]), .pointer (some ⟨tb, 0, none⟩)]) ∧ Box wk7 gk3 52 (Mg.cells d) := ⟨hH.1.kept hk (fun e => e), hH.2.kept hk (fun e => e)⟩
  have HF : Hid _ := HF.out.no hk
  clear hk
  refine ⟨.bool true, by rw [q1], hH2, fun hH => ?_⟩
  clear hH2
  try simp only [pS]
  refine xV 3 13 (.bool false) hH <| xV 4 14 (.bool false) hH <| xV 5 15 (pV gk1 1) hH <| xL 6 16 179 ⟨gk1, 1, none⟩ (pV tb 0) (fun _ hw => ld1 hw.1 1 U179 V179) hH <| xV 7 17 (pV gk3 1) hH <| xV 8 18 (pV gk3 2) hH <| xL 9 19 3 ⟨gk3, 2, none⟩ (.int .i64 d.fr.id) (fun _ hw => ld1 hw.2 2 U3 rfl) hH <| xV 10 20 (pV gk1 0) hH <| xL 11 21 131 ⟨gk1, 0, none⟩ (.iface 120 (.agg #[.int .i64 sz])) (fun _ hw => ld1 hw.1 0 U131 V131) hH <| xL 12 22 52 ⟨gk3, 0, none⟩ (.agg (Mg.cells d)) (fun _ hw => run_load_part (cs := Mg.cs d) (sub := Mg.cs d) (hw.2) (Part.all _) U52 rfl S52) hH <| ?_
  try simp only [pS]
  refine xC 13 23 88 #[.agg #[.int .i64 sz], .agg (Mg.cells d)] (HKp.out q1 wk7 HF.out.kept) ?_
  rintro e wk8 ⟨ka, kk, rfl, hO, hk⟩
  have hH2 : Box wk8 gk1 182 (#[.iface 120 (.agg #[.int .i64 sz]), .pointer (some ⟨tb, 0, none⟩)]) ∧ Box wk8 gk3 52 (Mg.cells d) := ⟨hH.1.kept hk (fun e => e), hH.2.kept hk (fun e => e)⟩
  have HO : Hid (OwnB wk8 w.heap.size ka kk kz) := Own.lower hO HF.out.kept.size
  have HF : Hid _ := HF.out.no hk
  clear hk hO
  refine ⟨.agg #[.int .i64 kn, .int .i64 kc, .slice ka kz.length kk], rfl, hH2, fun hH => ?_⟩
  clear hH2
  try simp only [pS]
  refine xC 14 24 104 #[pV tb 0, .int .i64 d.fr.id, .agg #[.int .i64 kn, .int .i64 kc, .slice ka kz.length kk]] (take_anyB tb bb ct at' Y d.fr.id ⟨kn, kc, ka, kz.length, kk⟩ wk8 (HT.out.no HF.out.kept)) ?_
  rintro e wk9 ⟨rfl, hT2, hk⟩
  have hs3 : ∀ k, w.heap.size ≤ k → ¬ Tb2 tb bb k := fun k h e => by have := HTl.out k e; omega
  have HB3 : Hid (Box wk9 gk1 182 (#[.iface 120 (.agg #[.int .i64 sz]), .pointer (some ⟨tb, 0, none⟩)])) := (HF.out.box 0 _ _ _ rfl).kept hk (hs3 _ (nlo (HF.out.low 0 _ _ _ rfl)))
  have hH2 : Box wk9 gk1 182 (#[.iface 120 (.agg #[.int .i64 sz]), .pointer (some ⟨tb, 0, none⟩)]) ∧ Box wk9 gk3 52 (Mg.cells d) := ⟨HB3.out, (HF.out.box 1 _ _ _ rfl).kept hk (hs3 _ (nlo (HF.out.low 1 _ _ _ rfl)))⟩
  have HKt : Hid (Kept (Tb2 tb bb) w wk9) := HF.out.kept.of_no.then hk
  have HO : Hid (OwnB wk9 w.heap.size ka kk kz) := Own.kept HO.out hk (fun k e => hs3 k (Own.base HO.out e))
  obtain ⟨b, hb⟩ : ∃ b : Bq, b = ⟨kn, kc, ka, kz.length, kk⟩ := ⟨_, rfl⟩
  have HTb : Hid (Tal 185 ansB wk9 tb bb at' ct (takeS Y d.fr.id b)) := by rw [hb]; exact hT2
  have HBb : Hid (b = ⟨kn, kc, ka, kz.length, kk⟩) := hb
  have HMb : Hid (Mach wk9 m a cap x 182 (.agg #[.iface 120 (.agg #[.int .i64 sz]), .pointer (some ⟨tb, 0, none⟩)])) := HM.out.kept HKt.out HD.out
  have HF1 : Hid (Fq No wk9 wk9 []) := Fq.start _ _
  clear HF hk hT2 hb
  have HF := HF1
  clear HF1
  refine ⟨.bool (takeB Y d.fr.id), rfl, hH2, fun hH => ?_⟩
  clear hH2
  try simp only [pS]
  cases q2 : ((takeB Y d.fr.id))
  ·skip
   try simp only [q2]
   refine xV 15 25 (.bool true) hH <| xV 16 26 (.bool true) hH <| ?_
   try simp only [pS]
   refine wpAnyH_done (by kernel_rfl) ?_ _
   try simp only [pS]
   clear hH
   go_upto_region 2 with fail
   refine WL.start <| uK (.slice none 0 0) <| WL.nil <| ?_
   try simp only [pS]
   go_wp2
   rw [HC.out]
   exact .inr ⟨q1, ka, kk, b, HBb.out, HO.out, HKt.out.mono (fun _ _ e => .inr e), HTb.out, .inl ⟨q2, rfl, HMb.out⟩⟩
  ·skip
   try simp only [q2]
   refine xV 15 25 (.bool false) hH <| xV 16 26 (.bool false) hH <| ?_
   try simp only [pS]
   refine wpAnyH_done (by kernel_rfl) ?_ _
   try simp only [pS]
   clear hH
   have hcn : 1 ≤ cnt (takeS Y d.fr.id b) := take_cnt HT.out.nd q2
   have hcl : cnt (takeS Y d.fr.id b) ≤ 1000 := by have h1 := cnt_le (takeS Y d.fr.id b); rw [takeS_g] at h1; omega
   have HGr : Hid (∀ wr, Kept No wk9 wr → Calls Try.prog 108 #[.pointer (some ⟨tb, 0, none⟩)] wr (GreatOut wr ((gotL (takeS Y d.fr.id b)).map Prod.snd))) := fun wr hk => greatestX tb bb ct at' (takeS Y d.fr.id b) wr (HTb.out.no hk) (by omega) hcn
   have HSe : Hid (∀ wr, Calls Try.prog 120 #[.agg #[.int .i64 sz], bkV (bestP ((gotL (takeS Y d.fr.id b)).map Prod.snd)), .bool (!((gotL (takeS Y d.fr.id b)).map Prod.snd).any (otherB (bestP ((gotL (takeS Y d.fr.id b)).map Prod.snd))))] wr (SettleOut wr (R b).pn (R b).pc (R b).pa (R b).pl (R b).pk (R b).er (R b).sn (R b).sc (R b).da (R b).dl (R b).dc (R b).en)) := HSt.out b (by rw [HBb.out]) (by rw [HBb.out])
   unfold GreatOut at HGr
   generalize (!((gotL (takeS Y d.fr.id b)).map Prod.snd).any (otherB (bestP ((gotL (takeS Y d.fr.id b)).map Prod.snd)))) = AL at HGr HSe
   generalize bestP ((gotL (takeS Y d.fr.id b)).map Prod.snd) = G at HGr HSe
   have HZl : Hid ((R b).en = false → (pz b).length = (R b).pl ∧ (R b).pl ≤ 140737488355328) := by
    show (R b).en = false → _
    rw [HBb.out]
    exact fun e => HPz.out ka kk q2 e
   have HBy : Hid ((R b).en = false → Bytes wk9 (R b).pa (pz b) ∧ ¬ At (R b).pa m) := by
    show (R b).en = false → _
    rw [HBb.out]
    exact fun e => HPb.out ka kk _ HKt.out HO.out q2 e
   obtain ⟨Q, hQ⟩ : ∃ Q, Q = R b := ⟨_, rfl⟩
   have HQq : Hid (Q = R b) := hQ
   rw [← hQ] at HSe HZl HBy
   clear hQ
   obtain ⟨pn, pc, pa, pl, pk, er, sn, sc, da, dl, dc, en⟩ := Q
   dsimp only at HSe HZl HBy
   go_upto_region 3 with fail
   refine wp_region_held_drew (S := fun w' => Kept No wk9 w') rfl (Kept.refl No _).drew (fun hH => ?_)
   have HF : Hid _ := HF.out.drew
   generalize wk9.drew = wk10 at HF hH ⊢
   refine xV 0 28 (pV gk1 0) hH <| xL 1 29 131 ⟨gk1, 0, none⟩ (.iface 120 (.agg #[.int .i64 sz])) (fun _ hw => load_one ((HB3.out.kept hw (fun e => e)).cell 0 |>.trans (by kernel_rfl)) U131 V131) hH <| xV 2 30 (pV gk1 1) hH <| xL 3 31 179 ⟨gk1, 1, none⟩ (pV tb 0) (fun _ hw => load_one ((HB3.out.kept hw (fun e => e)).cell 1 |>.trans (by kernel_rfl)) U179 V179) hH <| xV 7 35 (.iface 120 (.agg #[.int .i64 sz])) hH <| xV 8 36 (.iface 120 (.agg #[.int .i64 sz])) hH <| ?_
   try simp only [pS]
   refine' meet3 (J := fun W A B => Kept No wk9 W ∧ Box W A 57 (Bl.cells (B5 pn pc pa pl pk)) ∧ Box W B 90 (Rz.cells (R7 er da dl dc sn sc)) ∧ wk9.heap.size ≤ A ∧ wk9.heap.size ≤ B) (fun hh => ?region) (fun W A B hJ => ?tail)
   case region =>
    refine any_pick (rs := [4, 14, 15]) (by kernel_rfl) (by simp) ?_
    intro i hi
    rcases pick3 hi with rfl | rfl | rfl
    ·skip
     clear hi
     refine step_call (i := 4) (o := { dst := some 32, op := Op.call { callee := Callee.value (Operand.func 108), args := #[Operand.tmp 31], argTypes := #[179] }, type := 60, pos := "phase.go:55", after := #[{ on := 3, ground := Ground.data }], guard := none }) rfl (by kernel_rfl) 108 #[.pointer (some ⟨tb, 0, none⟩)] (by kernel_rfl) _ (HGr.out wk10 HF.out.kept) ?_
     rintro e wk11 ⟨rfl, hk⟩
     have hH2 : Kept No wk9 wk11 := hH.then hk
     have HF : Hid _ := HF.out.no hk
     clear hk
     refine ⟨.tuple #[bkV G, .bool AL], rfl, hH2, fun hH => ?_⟩
     clear hH2
     try simp only [pS]
     refine xV 5 33 (bkV G) hH <| xV 6 34 (.bool AL) hH <| ?_
     try simp only [pS]
     refine any_pick (rs := [9, 14, 15]) (by kernel_rfl) (by simp) ?_
     intro i hi
     rcases pick3 hi with rfl | rfl | rfl
     ·skip
      clear hi
      refine step_call (i := 9) (o := { dst := some 37, op := Op.call { callee := Callee.invoke (Operand.tmp 36) "cairn/register.settle", args := #[Operand.tmp 33, Operand.tmp 34], argTypes := #[57, 4] }, type := 192, pos := "phase.go:55", after := #[{ on := 8, ground := Ground.data }, { on := 5, ground := Ground.data }, { on := 6, ground := Ground.data }, { on := 4, ground := Ground.chain }], guard := none }) rfl (by kernel_rfl) 120 #[.agg #[.int .i64 sz], bkV G, .bool AL] (by kernel_rfl) _ (HSe.out wk11) ?_
      rintro e wk12 ⟨rfl, hk⟩
      have hH2 : Kept No wk9 wk12 := hH.then hk
      have HF : Hid _ := HF.out.no hk
      clear hk
      refine ⟨.tuple #[.agg #[.int .i64 pn, .int .i64 pc, .slice pa pl pk], .agg (resC er sn sc da dl dc), .bool en], rfl, hH2, fun hH => ?_⟩
      clear hH2
      try simp only [pS]
      refine xV 10 27 (.tuple #[.agg #[.int .i64 pn, .int .i64 pc, .slice pa pl pk], .agg (resC er sn sc da dl dc), .bool en]) hH <| xV 11 38 (.agg (Bl.cells (B5 pn pc pa pl pk))) hH <| xV 12 39 (.agg (Rz.cells (R7 er da dl dc sn sc))) hH <| xV 13 40 (.bool en) hH <| ?_
      try simp only [pS]
      refine any_pick (rs := [14, 15]) (by kernel_rfl) (by simp) ?_
      intro i hi
      rcases pick2 hi with rfl | rfl
      ·skip
       clear hi
       refine step_run (i := 14) (o := { dst := some 7, op := Op.alloc 57, type := 0, pos := "phase.go:55", after := #[], guard := none }) rfl (by kernel_rfl) (exec_alloc 57 rfl (Bl.cells blZ) Z57) (hH.alloc _) (fun hH => ?_)
       try simp only [pS]
       have HF : Hid _ := HF.out.alloc 57 (Bl.cells blZ)
       generalize wk12.alloc (.cells (Bl.cells blZ) 57) = wk14 at HF hH ⊢
       generalize wk12.heap.size = gk13 at HF ⊢
       refine any_step (i := 15) (o := { dst := some 8, op := Op.alloc 90, type := 0, pos := "phase.go:55", after := #[], guard := none }) rfl (by kernel_rfl) (by kernel_rfl) (exec_alloc 90 rfl (Rz.cells rzZ) Z90) (hH.alloc _) (fun hH => ?_)
       try simp only [pS]
       have HF : Hid _ := HF.out.alloc 90 (Rz.cells rzZ)
       generalize wk14.alloc (.cells (Rz.cells rzZ) 90) = wk16 at HF hH ⊢
       generalize wk14.heap.size = gk15 at HF ⊢
       refine xS 16 57 ⟨gk13, 0, none⟩ (.agg (Bl.cells (B5 pn pc pa pl pk))) (w' := wk16.setRow gk13 (Bl.cells (B5 pn pc pa pl pk))) (rs (Bl.cs blZ) (Bl.cs (B5 pn pc pa pl pk)) (Bl.cs (B5 pn pc pa pl pk)) (HF.out.box 0 _ _ _ rfl) S57 (Bl.oneL _)) (hH.newRow (nlo (HF.out.low 0 _ _ _ rfl)) _) (fun hH => ?_)
       try simp only [pS]
       have HF : Hid _ := HF.out.set 0 rfl (Bl.cells (B5 pn pc pa pl pk))
       generalize wk16.setRow gk13 (Bl.cells (B5 pn pc pa pl pk)) = wk17 at HF hH ⊢
       refine xS 17 90 ⟨gk15, 0, none⟩ (.agg (Rz.cells (R7 er da dl dc sn sc))) (w' := wk17.setRow gk15 (Rz.cells (R7 er da dl dc sn sc))) (rs (Rz.cs rzZ) (Rz.cs (R7 er da dl dc sn sc)) (Rz.cs (R7 er da dl dc sn sc)) (HF.out.box 1 _ _ _ rfl) S90 (Rz.oneL _)) (hH.newRow (nlo (HF.out.low 1 _ _ _ rfl)) _) (fun hH => ?_)
       try simp only [pS]
       have HF : Hid _ := HF.out.set 1 rfl (Rz.cells (R7 er da dl dc sn sc))
       generalize wk17.setRow gk15 (Rz.cells (R7 er da dl dc sn sc)) = wk18 at HF hH ⊢
       refine xV 18 9 (.bool en) hH ?_
       try simp only [pS]
       refine wpAnyH_done (by kernel_rfl) ?_ _
       try simp only [pS]
       clear hH
       exact hh _ _ _ ⟨HF.out.kept, HF.out.box 0 _ _ _ rfl, HF.out.box 1 _ _ _ rfl, nlo (HF.out.low 0 _ _ _ rfl), nlo (HF.out.low 1 _ _ _ rfl)⟩
      ·skip
       clear hi
       refine step_run (i := 15) (o := { dst := some 8, op := Op.alloc 90, type := 0, pos := "phase.go:55", after := #[], guard := none }) rfl (by kernel_rfl) (exec_alloc 90 rfl (Rz.cells rzZ) Z90) (hH.alloc _) (fun hH => ?_)
       try simp only [pS]
       have HF : Hid _ := HF.out.alloc 90 (Rz.cells rzZ)
       generalize wk12.alloc (.cells (Rz.cells rzZ) 90) = wk20 at HF hH ⊢
       generalize wk12.heap.size = gk19 at HF ⊢
       refine any_step (i := 14) (o := { dst := some 7, op := Op.alloc 57, type := 0, pos := "phase.go:55", after := #[], guard := none }) rfl (by kernel_rfl) (by kernel_rfl) (exec_alloc 57 rfl (Bl.cells blZ) Z57) (hH.alloc _) (fun hH => ?_)
       try simp only [pS]
       have HF : Hid _ := HF.out.alloc 57 (Bl.cells blZ)
       generalize wk20.alloc (.cells (Bl.cells blZ) 57) = wk22 at HF hH ⊢
       generalize wk20.heap.size = gk21 at HF ⊢
       refine xS 16 57 ⟨gk21, 0, none⟩ (.agg (Bl.cells (B5 pn pc pa pl pk))) (w' := wk22.setRow gk21 (Bl.cells (B5 pn pc pa pl pk))) (rs (Bl.cs blZ) (Bl.cs (B5 pn pc pa pl pk)) (Bl.cs (B5 pn pc pa pl pk)) (HF.out.box 1 _ _ _ rfl) S57 (Bl.oneL _)) (hH.newRow (nlo (HF.out.low 1 _ _ _ rfl)) _) (fun hH => ?_)
       try simp only [pS]
       have HF : Hid _ := HF.out.set 1 rfl (Bl.cells (B5 pn pc pa pl pk))
       generalize wk22.setRow gk21 (Bl.cells (B5 pn pc pa pl pk)) = wk23 at HF hH ⊢
       refine xS 17 90 ⟨gk19, 0, none⟩ (.agg (Rz.cells (R7 er da dl dc sn sc))) (w' := wk23.setRow gk19 (Rz.cells (R7 er da dl dc sn sc))) (rs (Rz.cs rzZ) (Rz.cs (R7 er da dl dc sn sc)) (Rz.cs (R7 er da dl dc sn sc)) (HF.out.box 0 _ _ _ rfl) S90 (Rz.oneL _)) (hH.newRow (nlo (HF.out.low 0 _ _ _ rfl)) _) (fun hH => ?_)
       try simp only [pS]
       have HF : Hid _ := HF.out.set 0 rfl (Rz.cells (R7 er da dl dc sn sc))
       generalize wk23.setRow gk19 (Rz.cells (R7 er da dl dc sn sc)) = wk24 at HF hH ⊢
       refine xV 18 9 (.bool en) hH ?_
       try simp only [pS]
       refine wpAnyH_done (by kernel_rfl) ?_ _
       try simp only [pS]
       clear hH
       exact hh _ _ _ ⟨HF.out.kept, HF.out.box 1 _ _ _ rfl, HF.out.box 0 _ _ _ rfl, nlo (HF.out.low 1 _ _ _ rfl), nlo (HF.out.low 0 _ _ _ rfl)⟩
     ·skip
      clear hi
      refine step_run (i := 14) (o := { dst := some 7, op := Op.alloc 57, type := 0, pos := "phase.go:55", after := #[], guard := none }) rfl (by kernel_rfl) (exec_alloc 57 rfl (Bl.cells blZ) Z57) (hH.alloc _) (fun hH => ?_)
      try simp only [pS]
      have HF : Hid _ := HF.out.alloc 57 (Bl.cells blZ)
      generalize wk11.alloc (.cells (Bl.cells blZ) 57) = wk26 at HF hH ⊢
      generalize wk11.heap.size = gk25 at HF ⊢
      refine any_pick (rs := [9, 15]) (by kernel_rfl) (by simp) ?_
      intro i hi
      rcases pick2 hi with rfl | rfl
      ·skip
       clear hi
       refine step_call (i := 9) (o := { dst := some 37, op := Op.call { callee := Callee.invoke (Operand.tmp 36) "cairn/register.settle", args := #[Operand.tmp 33, Operand.tmp 34], argTypes := #[57, 4] }, type := 192, pos := "phase.go:55", after := #[{ on := 8, ground := Ground.data }, { on := 5, ground := Ground.data }, { on := 6, ground := Ground.data }, { on := 4, ground := Ground.chain }], guard := none }) rfl (by kernel_rfl) 120 #[.agg #[.int .i64 sz], bkV G, .bool AL] (by kernel_rfl) _ (HSe.out wk26) ?_
       rintro e wk27 ⟨rfl, hk⟩
       have hH2 : Kept No wk9 wk27 := hH.then hk
       have HF : Hid _ := HF.out.no hk
       clear hk
       refine ⟨.tuple #[.agg #[.int .i64 pn, .int .i64 pc, .slice pa pl pk], .agg (resC er sn sc da dl dc), .bool en], rfl, hH2, fun hH => ?_⟩
       clear hH2
       try simp only [pS]
       refine xV 10 27 (.tuple #[.agg #[.int .i64 pn, .int .i64 pc, .slice pa pl pk], .agg (resC er sn sc da dl dc), .bool en]) hH <| xV 11 38 (.agg (Bl.cells (B5 pn pc pa pl pk))) hH <| xV 12 39 (.agg (Rz.cells (R7 er da dl dc sn sc))) hH <| xV 13 40 (.bool en) hH <| ?_
       try simp only [pS]
       refine any_step (i := 15) (o := { dst := some 8, op := Op.alloc 90, type := 0, pos := "phase.go:55", after := #[], guard := none }) rfl (by kernel_rfl) (by kernel_rfl) (exec_alloc 90 rfl (Rz.cells rzZ) Z90) (hH.alloc _) (fun hH => ?_)
       try simp only [pS]
       have HF : Hid _ := HF.out.alloc 90 (Rz.cells rzZ)
       generalize wk27.alloc (.cells (Rz.cells rzZ) 90) = wk29 at HF hH ⊢
       generalize wk27.heap.size = gk28 at HF ⊢
       refine xS 16 57 ⟨gk25, 0, none⟩ (.agg (Bl.cells (B5 pn pc pa pl pk))) (w' := wk29.setRow gk25 (Bl.cells (B5 pn pc pa pl pk))) (rs (Bl.cs blZ) (Bl.cs (B5 pn pc pa pl pk)) (Bl.cs (B5 pn pc pa pl pk)) (HF.out.box 0 _ _ _ rfl) S57 (Bl.oneL _)) (hH.newRow (nlo (HF.out.low 0 _ _ _ rfl)) _) (fun hH => ?_)
       try simp only [pS]
       have HF : Hid _ := HF.out.set 0 rfl (Bl.cells (B5 pn pc pa pl pk))
       generalize wk29.setRow gk25 (Bl.cells (B5 pn pc pa pl pk)) = wk30 at HF hH ⊢
       refine xS 17 90 ⟨gk28, 0, none⟩ (.agg (Rz.cells (R7 er da dl dc sn sc))) (w' := wk30.setRow gk28 (Rz.cells (R7 er da dl dc sn sc))) (rs (Rz.cs rzZ) (Rz.cs (R7 er da dl dc sn sc)) (Rz.cs (R7 er da dl dc sn sc)) (HF.out.box 1 _ _ _ rfl) S90 (Rz.oneL _)) (hH.newRow (nlo (HF.out.low 1 _ _ _ rfl)) _) (fun hH => ?_)
       try simp only [pS]
       have HF : Hid _ := HF.out.set 1 rfl (Rz.cells (R7 er da dl dc sn sc))
       generalize wk30.setRow gk28 (Rz.cells (R7 er da dl dc sn sc)) = wk31 at HF hH ⊢
       refine xV 18 9 (.bool en) hH ?_
       try simp only [pS]
       refine wpAnyH_done (by kernel_rfl) ?_ _
       try simp only [pS]
       clear hH
       exact hh _ _ _ ⟨HF.out.kept, HF.out.box 0 _ _ _ rfl, HF.out.box 1 _ _ _ rfl, nlo (HF.out.low 0 _ _ _ rfl), nlo (HF.out.low 1 _ _ _ rfl)⟩
      ·skip
       clear hi
       refine step_run (i := 15) (o := { dst := some 8, op := Op.alloc 90, type := 0, pos := "phase.go:55", after := #[], guard := none }) rfl (by kernel_rfl) (exec_alloc 90 rfl (Rz.cells rzZ) Z90) (hH.alloc _) (fun hH => ?_)
       try simp only [pS]
       have HF : Hid _ := HF.out.alloc 90 (Rz.cells rzZ)
       generalize wk26.alloc (.cells (Rz.cells rzZ) 90) = wk33 at HF hH ⊢
       generalize wk26.heap.size = gk32 at HF ⊢
       refine xC 9 37 120 #[.agg #[.int .i64 sz], bkV G, .bool AL] (HSe.out wk33) ?_
       rintro e wk34 ⟨rfl, hk⟩
       have hH2 : Kept No wk9 wk34 := hH.then hk
       have HF : Hid _ := HF.out.no hk
       clear hk
       refine ⟨.tuple #[.agg #[.int .i64 pn, .int .i64 pc, .slice pa pl pk], .agg (resC er sn sc da dl dc), .bool en], rfl, hH2, fun hH => ?_⟩
       clear hH2
       try simp only [pS]
       refine xV 10 27 (.tuple #[.agg #[.int .i64 pn, .int .i64 pc, .slice pa pl pk], .agg (resC er sn sc da dl dc), .bool en]) hH <| xV 11 38 (.agg (Bl.cells (B5 pn pc pa pl pk))) hH <| xV 12 39 (.agg (Rz.cells (R7 er da dl dc sn sc))) hH <| xV 13 40 (.bool en) hH <| ?_
       try simp only [pS]
       refine xS 16 57 ⟨gk25, 0, none⟩ (.agg (Bl.cells (B5 pn pc pa pl pk))) (w' := wk34.setRow gk25 (Bl.cells (B5 pn pc pa pl pk))) (rs (Bl.cs blZ) (Bl.cs (B5 pn pc pa pl pk)) (Bl.cs (B5 pn pc pa pl pk)) (HF.out.box 0 _ _ _ rfl) S57 (Bl.oneL _)) (hH.newRow (nlo (HF.out.low 0 _ _ _ rfl)) _) (fun hH => ?_)
       try simp only [pS]
       have HF : Hid _ := HF.out.set 0 rfl (Bl.cells (B5 pn pc pa pl pk))
       generalize wk34.setRow gk25 (Bl.cells (B5 pn pc pa pl pk)) = wk35 at HF hH ⊢
       refine xS 17 90 ⟨gk32, 0, none⟩ (.agg (Rz.cells (R7 er da dl dc sn sc))) (w' := wk35.setRow gk32 (Rz.cells (R7 er da dl dc sn sc))) (rs (Rz.cs rzZ) (Rz.cs (R7 er da dl dc sn sc)) (Rz.cs (R7 er da dl dc sn sc)) (HF.out.box 1 _ _ _ rfl) S90 (Rz.oneL _)) (hH.newRow (nlo (HF.out.low 1 _ _ _ rfl)) _) (fun hH => ?_)
       try simp only [pS]
       have HF : Hid _ := HF.out.set 1 rfl (Rz.cells (R7 er da dl dc sn sc))
       generalize wk35.setRow gk32 (Rz.cells (R7 er da dl dc sn sc)) = wk36 at HF hH ⊢
       refine xV 18 9 (.bool en) hH ?_
       try simp only [pS]
       refine wpAnyH_done (by kernel_rfl) ?_ _
       try simp only [pS]
       clear hH
       exact hh _ _ _ ⟨HF.out.kept, HF.out.box 0 _ _ _ rfl, HF.out.box 1 _ _ _ rfl, nlo (HF.out.low 0 _ _ _ rfl), nlo (HF.out.low 1 _ _ _ rfl)⟩
     ·skip
      clear hi
      refine step_run (i := 15) (o := { dst := some 8, op := Op.alloc 90, type := 0, pos := "phase.go:55", after := #[], guard := none }) rfl (by kernel_rfl) (exec_alloc 90 rfl (Rz.cells rzZ) Z90) (hH.alloc _) (fun hH => ?_)
      try simp only [pS]
      have HF : Hid _ := HF.out.alloc 90 (Rz.cells rzZ)
      generalize wk11.alloc (.cells (Rz.cells rzZ) 90) = wk38 at HF hH ⊢
      generalize wk11.heap.size = gk37 at HF ⊢
      refine any_pick (rs := [9, 14]) (by kernel_rfl) (by simp) ?_
      intro i hi
      rcases pick2 hi with rfl | rfl
      ·skip
       clear hi
       refine step_call (i := 9) (o := { dst := some 37, op := Op.call { callee := Callee.invoke (Operand.tmp 36) "cairn/register.settle", args := #[Operand.tmp 33, Operand.tmp 34], argTypes := #[57, 4] }, type := 192, pos := "phase.go:55", after := #[{ on := 8, ground := Ground.data }, { on := 5, ground := Ground.data }, { on := 6, ground := Ground.data }, { on := 4, ground := Ground.chain }], guard := none }) rfl (by kernel_rfl) 120 #[.agg #[.int .i64 sz], bkV G, .bool AL] (by kernel_rfl) _ (HSe.out wk38) ?_
       rintro e wk39 ⟨rfl, hk⟩
       have hH2 : Kept No wk9 wk39 := hH.then hk
       have HF : Hid _ := HF.out.no hk
       clear hk
       refine ⟨.tuple #[.agg #[.int .i64 pn, .int .i64 pc, .slice pa pl pk], .agg (resC er sn sc da dl dc), .bool en], rfl, hH2, fun hH => ?_⟩
       clear hH2
       try simp only [pS]
       refine xV 10 27 (.tuple #[.agg #[.int .i64 pn, .int .i64 pc, .slice pa pl pk], .agg (resC er sn sc da dl dc), .bool en]) hH <| xV 11 38 (.agg (Bl.cells (B5 pn pc pa pl pk))) hH <| xV 12 39 (.agg (Rz.cells (R7 er da dl dc sn sc))) hH <| xV 13 40 (.bool en) hH <| ?_
       try simp only [pS]
       refine any_step (i := 14) (o := { dst := some 7, op := Op.alloc 57, type := 0, pos := "phase.go:55", after := #[], guard := none }) rfl (by kernel_rfl) (by kernel_rfl) (exec_alloc 57 rfl (Bl.cells blZ) Z57) (hH.alloc _) (fun hH => ?_)
       try simp only [pS]
       have HF : Hid _ := HF.out.alloc 57 (Bl.cells blZ)
       generalize wk39.alloc (.cells (Bl.cells blZ) 57) = wk41 at HF hH ⊢
       generalize wk39.heap.size = gk40 at HF ⊢
       refine xS 16 57 ⟨gk40, 0, none⟩ (.agg (Bl.cells (B5 pn pc pa pl pk))) (w' := wk41.setRow gk40 (Bl.cells (B5 pn pc pa pl pk))) (rs (Bl.cs blZ) (Bl.cs (B5 pn pc pa pl pk)) (Bl.cs (B5 pn pc pa pl pk)) (HF.out.box 1 _ _ _ rfl) S57 (Bl.oneL _)) (hH.newRow (nlo (HF.out.low 1 _ _ _ rfl)) _) (fun hH => ?_)
       try simp only [pS]
       have HF : Hid _ := HF.out.set 1 rfl (Bl.cells (B5 pn pc pa pl pk))
       generalize wk41.setRow gk40 (Bl.cells (B5 pn pc pa pl pk)) = wk42 at HF hH ⊢
       refine xS 17 90 ⟨gk37, 0, none⟩ (.agg (Rz.cells (R7 er da dl dc sn sc))) (w' := wk42.setRow gk37 (Rz.cells (R7 er da dl dc sn sc))) (rs (Rz.cs rzZ) (Rz.cs (R7 er da dl dc sn sc)) (Rz.cs (R7 er da dl dc sn sc)) (HF.out.box 0 _ _ _ rfl) S90 (Rz.oneL _)) (hH.newRow (nlo (HF.out.low 0 _ _ _ rfl)) _) (fun hH => ?_)
       try simp only [pS]
       have HF : Hid _ := HF.out.set 0 rfl (Rz.cells (R7 er da dl dc sn sc))
       generalize wk42.setRow gk37 (Rz.cells (R7 er da dl dc sn sc)) = wk43 at HF hH ⊢
       refine xV 18 9 (.bool en) hH ?_
       try simp only [pS]
       refine wpAnyH_done (by kernel_rfl) ?_ _
       try simp only [pS]
       clear hH
       exact hh _ _ _ ⟨HF.out.kept, HF.out.box 1 _ _ _ rfl, HF.out.box 0 _ _ _ rfl, nlo (HF.out.low 1 _ _ _ rfl), nlo (HF.out.low 0 _ _ _ rfl)⟩
      ·skip
       clear hi
       refine step_run (i := 14) (o := { dst := some 7, op := Op.alloc 57, type := 0, pos := "phase.go:55", after := #[], guard := none }) rfl (by kernel_rfl) (exec_alloc 57 rfl (Bl.cells blZ) Z57) (hH.alloc _) (fun hH => ?_)
       try simp only [pS]
       have HF : Hid _ := HF.out.alloc 57 (Bl.cells blZ)
       generalize wk38.alloc (.cells (Bl.cells blZ) 57) = wk45 at HF hH ⊢
       generalize wk38.heap.size = gk44 at HF ⊢
       refine xC 9 37 120 #[.agg #[.int .i64 sz], bkV G, .bool AL] (HSe.out wk45) ?_
       rintro e wk46 ⟨rfl, hk⟩
       have hH2 : Kept No wk9 wk46 := hH.then hk
       have HF : Hid _ := HF.out.no hk
       clear hk
       refine ⟨.tuple #[.agg #[.int .i64 pn, .int .i64 pc, .slice pa pl pk], .agg (resC er sn sc da dl dc), .bool en], rfl, hH2, fun hH => ?_⟩
       clear hH2
       try simp only [pS]
       refine xV 10 27 (.tuple #[.agg #[.int .i64 pn, .int .i64 pc, .slice pa pl pk], .agg (resC er sn sc da dl dc), .bool en]) hH <| xV 11 38 (.agg (Bl.cells (B5 pn pc pa pl pk))) hH <| xV 12 39 (.agg (Rz.cells (R7 er da dl dc sn sc))) hH <| xV 13 40 (.bool en) hH <| ?_
       try simp only [pS]
       refine xS 16 57 ⟨gk44, 0, none⟩ (.agg (Bl.cells (B5 pn pc pa pl pk))) (w' := wk46.setRow gk44 (Bl.cells (B5 pn pc pa pl pk))) (rs (Bl.cs blZ) (Bl.cs (B5 pn pc pa pl pk)) (Bl.cs (B5 pn pc pa pl pk)) (HF.out.box 1 _ _ _ rfl) S57 (Bl.oneL _)) (hH.newRow (nlo (HF.out.low 1 _ _ _ rfl)) _) (fun hH => ?_)
       try simp only [pS]
       have HF : Hid _ := HF.out.set 1 rfl (Bl.cells (B5 pn pc pa pl pk))
       generalize wk46.setRow gk44 (Bl.cells (B5 pn pc pa pl pk)) = wk47 at HF hH ⊢
       refine xS 17 90 ⟨gk37, 0, none⟩ (.agg (Rz.cells (R7 er da dl dc sn sc))) (w' := wk47.setRow gk37 (Rz.cells (R7 er da dl dc sn sc))) (rs (Rz.cs rzZ) (Rz.cs (R7 er da dl dc sn sc)) (Rz.cs (R7 er da dl dc sn sc)) (HF.out.box 0 _ _ _ rfl) S90 (Rz.oneL _)) (hH.newRow (nlo (HF.out.low 0 _ _ _ rfl)) _) (fun hH => ?_)
       try simp only [pS]
       have HF : Hid _ := HF.out.set 0 rfl (Rz.cells (R7 er da dl dc sn sc))
       generalize wk47.setRow gk37 (Rz.cells (R7 er da dl dc sn sc)) = wk48 at HF hH ⊢
       refine xV 18 9 (.bool en) hH ?_
       try simp only [pS]
       refine wpAnyH_done (by kernel_rfl) ?_ _
       try simp only [pS]
       clear hH
       exact hh _ _ _ ⟨HF.out.kept, HF.out.box 1 _ _ _ rfl, HF.out.box 0 _ _ _ rfl, nlo (HF.out.low 1 _ _ _ rfl), nlo (HF.out.low 0 _ _ _ rfl)⟩
    ·skip
     clear hi
     refine step_run (i := 14) (o := { dst := some 7, op := Op.alloc 57, type := 0, pos := "phase.go:55", after := #[], guard := none }) rfl (by kernel_rfl) (exec_alloc 57 rfl (Bl.cells blZ) Z57) (hH.alloc _) (fun hH => ?_)
     try simp only [pS]
     have HF : Hid _ := HF.out.alloc 57 (Bl.cells blZ)
     generalize wk10.alloc (.cells (Bl.cells blZ) 57) = wk50 at HF hH ⊢
     generalize wk10.heap.size = gk49 at HF ⊢
     refine any_pick (rs := [4, 15]) (by kernel_rfl) (by simp) ?_
     intro i hi
     rcases pick2 hi with rfl | rfl
     ·skip
      clear hi
      refine step_call (i := 4) (o := { dst := some 32, op := Op.call { callee := Callee.value (Operand.func 108), args := #[Operand.tmp 31], argTypes := #[179] }, type := 60, pos := "phase.go:55", after := #[{ on := 3, ground := Ground.data }], guard := none }) rfl (by kernel_rfl) 108 #[.pointer (some ⟨tb, 0, none⟩)] (by kernel_rfl) _ (HGr.out wk50 HF.out.kept) ?_
      rintro e wk51 ⟨rfl, hk⟩
      have hH2 : Kept No wk9 wk51 := hH.then hk
      have HF : Hid _ := HF.out.no hk
      clear hk
      refine ⟨.tuple #[bkV G, .bool AL], rfl, hH2, fun hH => ?_⟩
      clear hH2
      try simp only [pS]
      refine xV 5 33 (bkV G) hH <| xV 6 34 (.bool AL) hH <| ?_
      try simp only [pS]
      refine any_pick (rs := [9, 15]) (by kernel_rfl) (by simp) ?_
      intro i hi
      rcases pick2 hi with rfl | rfl
      ·skip
       clear hi
       refine step_call (i := 9) (o := { dst := some 37, op := Op.call { callee := Callee.invoke (Operand.tmp 36) "cairn/register.settle", args := #[Operand.tmp 33, Operand.tmp 34], argTypes := #[57, 4] }, type := 192, pos := "phase.go:55", after := #[{ on := 8, ground := Ground.data }, { on := 5, ground := Ground.data }, { on := 6, ground := Ground.data }, { on := 4, ground := Ground.chain }], guard := none }) rfl (by kernel_rfl) 120 #[.agg #[.int .i64 sz], bkV G, .bool AL] (by kernel_rfl) _ (HSe.out wk51) ?_
       rintro e wk52 ⟨rfl, hk⟩
       have hH2 : Kept No wk9 wk52 := hH.then hk
       have HF : Hid _ := HF.out.no hk
       clear hk
       refine ⟨.tuple #[.agg #[.int .i64 pn, .int .i64 pc, .slice pa pl pk], .agg (resC er sn sc da dl dc), .bool en], rfl, hH2, fun hH => ?_⟩
       clear hH2
       try simp only [pS]
       refine xV 10 27 (.tuple #[.agg #[.int .i64 pn, .int .i64 pc, .slice pa pl pk], .agg (resC er sn sc da dl dc), .bool en]) hH <| xV 11 38 (.agg (Bl.cells (B5 pn pc pa pl pk))) hH <| xV 12 39 (.agg (Rz.cells (R7 er da dl dc sn sc))) hH <| xV 13 40 (.bool en) hH <| ?_
       try simp only [pS]
       refine any_step (i := 15) (o := { dst := some 8, op := Op.alloc 90, type := 0, pos := "phase.go:55", after := #[], guard := none }) rfl (by kernel_rfl) (by kernel_rfl) (exec_alloc 90 rfl (Rz.cells rzZ) Z90) (hH.alloc _) (fun hH => ?_)
       try simp only [pS]
       have HF : Hid _ := HF.out.alloc 90 (Rz.cells rzZ)
       generalize wk52.alloc (.cells (Rz.cells rzZ) 90) = wk54 at HF hH ⊢
       generalize wk52.heap.size = gk53 at HF ⊢
       refine xS 16 57 ⟨gk49, 0, none⟩ (.agg (Bl.cells (B5 pn pc pa pl pk))) (w' := wk54.setRow gk49 (Bl.cells (B5 pn pc pa pl pk))) (rs (Bl.cs blZ) (Bl.cs (B5 pn pc pa pl pk)) (Bl.cs (B5 pn pc pa pl pk)) (HF.out.box 0 _ _ _ rfl) S57 (Bl.oneL _)) (hH.newRow (nlo (HF.out.low 0 _ _ _ rfl)) _) (fun hH => ?_)
       try simp only [pS]
       have HF : Hid _ := HF.out.set 0 rfl (Bl.cells (B5 pn pc pa pl pk))
       generalize wk54.setRow gk49 (Bl.cells (B5 pn pc pa pl pk)) = wk55 at HF hH ⊢
       refine xS 17 90 ⟨gk53, 0, none⟩ (.agg (Rz.cells (R7 er da dl dc sn sc))) (w' := wk55.setRow gk53 (Rz.cells (R7 er da dl dc sn sc))) (rs (Rz.cs rzZ) (Rz.cs (R7 er da dl dc sn sc)) (Rz.cs (R7 er da dl dc sn sc)) (HF.out.box 1 _ _ _ rfl) S90 (Rz.oneL _)) (hH.newRow (nlo (HF.out.low 1 _ _ _ rfl)) _) (fun hH => ?_)
       try simp only [pS]
       have HF : Hid _ := HF.out.set 1 rfl (Rz.cells (R7 er da dl dc sn sc))
       generalize wk55.setRow gk53 (Rz.cells (R7 er da dl dc sn sc)) = wk56 at HF hH ⊢
       refine xV 18 9 (.bool en) hH ?_
       try simp only [pS]
       refine wpAnyH_done (by kernel_rfl) ?_ _
       try simp only [pS]
       clear hH
       exact hh _ _ _ ⟨HF.out.kept, HF.out.box 0 _ _ _ rfl, HF.out.box 1 _ _ _ rfl, nlo (HF.out.low 0 _ _ _ rfl), nlo (HF.out.low 1 _ _ _ rfl)⟩
      ·skip
       clear hi
       refine step_run (i := 15) (o := { dst := some 8, op := Op.alloc 90, type := 0, pos := "phase.go:55", after := #[], guard := none }) rfl (by kernel_rfl) (exec_alloc 90 rfl (Rz.cells rzZ) Z90) (hH.alloc _) (fun hH => ?_)
       try simp only [pS]
       have HF : Hid _ := HF.out.alloc 90 (Rz.cells rzZ)
       generalize wk51.alloc (.cells (Rz.cells rzZ) 90) = wk58 at HF hH ⊢
       generalize wk51.heap.size = gk57 at HF ⊢
       refine xC 9 37 120 #[.agg #[.int .i64 sz], bkV G, .bool AL] (HSe.out wk58) ?_
       rintro e wk59 ⟨rfl, hk⟩
       have hH2 : Kept No wk9 wk59 := hH.then hk
       have HF : Hid _ := HF.out.no hk
       clear hk
       refine ⟨.tuple #[.agg #[.int .i64 pn, .int .i64 pc, .slice pa pl pk], .agg (resC er sn sc da dl dc), .bool en], rfl, hH2, fun hH => ?_⟩
       clear hH2
       try simp only [pS]
       refine xV 10 27 (.tuple #[.agg #[.int .i64 pn, .int .i64 pc, .slice pa pl pk], .agg (resC er sn sc da dl dc), .bool en]) hH <| xV 11 38 (.agg (Bl.cells (B5 pn pc pa pl pk))) hH <| xV 12 39 (.agg (Rz.cells (R7 er da dl dc sn sc))) hH <| xV 13 40 (.bool en) hH <| ?_
       try simp only [pS]
       refine xS 16 57 ⟨gk49, 0, none⟩ (.agg (Bl.cells (B5 pn pc pa pl pk))) (w' := wk59.setRow gk49 (Bl.cells (B5 pn pc pa pl pk))) (rs (Bl.cs blZ) (Bl.cs (B5 pn pc pa pl pk)) (Bl.cs (B5 pn pc pa pl pk)) (HF.out.box 0 _ _ _ rfl) S57 (Bl.oneL _)) (hH.newRow (nlo (HF.out.low 0 _ _ _ rfl)) _) (fun hH => ?_)
       try simp only [pS]
       have HF : Hid _ := HF.out.set 0 rfl (Bl.cells (B5 pn pc pa pl pk))
       generalize wk59.setRow gk49 (Bl.cells (B5 pn pc pa pl pk)) = wk60 at HF hH ⊢
       refine xS 17 90 ⟨gk57, 0, none⟩ (.agg (Rz.cells (R7 er da dl dc sn sc))) (w' := wk60.setRow gk57 (Rz.cells (R7 er da dl dc sn sc))) (rs (Rz.cs rzZ) (Rz.cs (R7 er da dl dc sn sc)) (Rz.cs (R7 er da dl dc sn sc)) (HF.out.box 1 _ _ _ rfl) S90 (Rz.oneL _)) (hH.newRow (nlo (HF.out.low 1 _ _ _ rfl)) _) (fun hH => ?_)
       try simp only [pS]
       have HF : Hid _ := HF.out.set 1 rfl (Rz.cells (R7 er da dl dc sn sc))
       generalize wk60.setRow gk57 (Rz.cells (R7 er da dl dc sn sc)) = wk61 at HF hH ⊢
       refine xV 18 9 (.bool en) hH ?_
       try simp only [pS]
       refine wpAnyH_done (by kernel_rfl) ?_ _
       try simp only [pS]
       clear hH
       exact hh _ _ _ ⟨HF.out.kept, HF.out.box 0 _ _ _ rfl, HF.out.box 1 _ _ _ rfl, nlo (HF.out.low 0 _ _ _ rfl), nlo (HF.out.low 1 _ _ _ rfl)⟩
     ·skip
      clear hi
      refine step_run (i := 15) (o := { dst := some 8, op := Op.alloc 90, type := 0, pos := "phase.go:55", after := #[], guard := none }) rfl (by kernel_rfl) (exec_alloc 90 rfl (Rz.cells rzZ) Z90) (hH.alloc _) (fun hH => ?_)
      try simp only [pS]
      have HF : Hid _ := HF.out.alloc 90 (Rz.cells rzZ)
      generalize wk50.alloc (.cells (Rz.cells rzZ) 90) = wk63 at HF hH ⊢
      generalize wk50.heap.size = gk62 at HF ⊢
      refine xC 4 32 108 #[pV tb 0] (HGr.out wk63 HF.out.kept) ?_
      rintro e wk64 ⟨rfl, hk⟩
      have hH2 : Kept No wk9 wk64 := hH.then hk
      have HF : Hid _ := HF.out.no hk
      clear hk
      refine ⟨.tuple #[bkV G, .bool AL], rfl, hH2, fun hH => ?_⟩
      clear hH2
      try simp only [pS]
      refine xV 5 33 (bkV G) hH <| xV 6 34 (.bool AL) hH <| ?_
      try simp only [pS]
      refine xC 9 37 120 #[.agg #[.int .i64 sz], bkV G, .bool AL] (HSe.out wk64) ?_
      rintro e wk65 ⟨rfl, hk⟩
      have hH2 : Kept No wk9 wk65 := hH.then hk
      have HF : Hid _ := HF.out.no hk
      clear hk
      refine ⟨.tuple #[.agg #[.int .i64 pn, .int .i64 pc, .slice pa pl pk], .agg (resC er sn sc da dl dc), .bool en], rfl, hH2, fun hH => ?_⟩
      clear hH2
      try simp only [pS]
      refine xV 10 27 (.tuple #[.agg #[.int .i64 pn, .int .i64 pc, .slice pa pl pk], .agg (resC er sn sc da dl dc), .bool en]) hH <| xV 11 38 (.agg (Bl.cells (B5 pn pc pa pl pk))) hH <| xV 12 39 (.agg (Rz.cells (R7 er da dl dc sn sc))) hH <| xV 13 40 (.bool en) hH <| ?_
      try simp only [pS]
      refine xS 16 57 ⟨gk49, 0, none⟩ (.agg (Bl.cells (B5 pn pc pa pl pk))) (w' := wk65.setRow gk49 (Bl.cells (B5 pn pc pa pl pk))) (rs (Bl.cs blZ) (Bl.cs (B5 pn pc pa pl pk)) (Bl.cs (B5 pn pc pa pl pk)) (HF.out.box 0 _ _ _ rfl) S57 (Bl.oneL _)) (hH.newRow (nlo (HF.out.low 0 _ _ _ rfl)) _) (fun hH => ?_)
      try simp only [pS]
      have HF : Hid _ := HF.out.set 0 rfl (Bl.cells (B5 pn pc pa pl pk))
      generalize wk65.setRow gk49 (Bl.cells (B5 pn pc pa pl pk)) = wk66 at HF hH ⊢
      refine xS 17 90 ⟨gk62, 0, none⟩ (.agg (Rz.cells (R7 er da dl dc sn sc))) (w' := wk66.setRow gk62 (Rz.cells (R7 er da dl dc sn sc))) (rs (Rz.cs rzZ) (Rz.cs (R7 er da dl dc sn sc)) (Rz.cs (R7 er da dl dc sn sc)) (HF.out.box 1 _ _ _ rfl) S90 (Rz.oneL _)) (hH.newRow (nlo (HF.out.low 1 _ _ _ rfl)) _) (fun hH => ?_)
      try simp only [pS]
      have HF : Hid _ := HF.out.set 1 rfl (Rz.cells (R7 er da dl dc sn sc))
      generalize wk66.setRow gk62 (Rz.cells (R7 er da dl dc sn sc)) = wk67 at HF hH ⊢
      refine xV 18 9 (.bool en) hH ?_
      try simp only [pS]
      refine wpAnyH_done (by kernel_rfl) ?_ _
      try simp only [pS]
      clear hH
      exact hh _ _ _ ⟨HF.out.kept, HF.out.box 0 _ _ _ rfl, HF.out.box 1 _ _ _ rfl, nlo (HF.out.low 0 _ _ _ rfl), nlo (HF.out.low 1 _ _ _ rfl)⟩
    ·skip
     clear hi
     refine step_run (i := 15) (o := { dst := some 8, op := Op.alloc 90, type := 0, pos := "phase.go:55", after := #[], guard := none }) rfl (by kernel_rfl) (exec_alloc 90 rfl (Rz.cells rzZ) Z90) (hH.alloc _) (fun hH => ?_)
     try simp only [pS]
     have HF : Hid _ := HF.out.alloc 90 (Rz.cells rzZ)
     generalize wk10.alloc (.cells (Rz.cells rzZ) 90) = wk69 at HF hH ⊢
     generalize wk10.heap.size = gk68 at HF ⊢
     refine any_pick (rs := [4, 14]) (by kernel_rfl) (by simp) ?_
     intro i hi
     rcases pick2 hi with rfl | rfl
     ·skip
      clear hi
      refine step_call (i := 4) (o := { dst := some 32, op := Op.call { callee := Callee.value (Operand.func 108), args := #[Operand.tmp 31], argTypes := #[179] }, type := 60, pos := "phase.go:55", after := #[{ on := 3, ground := Ground.data }], guard := none }) rfl (by kernel_rfl) 108 #[.pointer (some ⟨tb, 0, none⟩)] (by kernel_rfl) _ (HGr.out wk69 HF.out.kept) ?_
      rintro e wk70 ⟨rfl, hk⟩
      have hH2 : Kept No wk9 wk70 := hH.then hk
      have HF : Hid _ := HF.out.no hk
      clear hk
      refine ⟨.tuple #[bkV G, .bool AL], rfl, hH2, fun hH => ?_⟩
      clear hH2
      try simp only [pS]
      refine xV 5 33 (bkV G) hH <| xV 6 34 (.bool AL) hH <| ?_
      try simp only [pS]
      refine any_pick (rs := [9, 14]) (by kernel_rfl) (by simp) ?_
      intro i hi
      rcases pick2 hi with rfl | rfl
      ·skip
       clear hi
       refine step_call (i := 9) (o := { dst := some 37, op := Op.call { callee := Callee.invoke (Operand.tmp 36) "cairn/register.settle", args := #[Operand.tmp 33, Operand.tmp 34], argTypes := #[57, 4] }, type := 192, pos := "phase.go:55", after := #[{ on := 8, ground := Ground.data }, { on := 5, ground := Ground.data }, { on := 6, ground := Ground.data }, { on := 4, ground := Ground.chain }], guard := none }) rfl (by kernel_rfl) 120 #[.agg #[.int .i64 sz], bkV G, .bool AL] (by kernel_rfl) _ (HSe.out wk70) ?_
       rintro e wk71 ⟨rfl, hk⟩
       have hH2 : Kept No wk9 wk71 := hH.then hk
       have HF : Hid _ := HF.out.no hk
       clear hk
       refine ⟨.tuple #[.agg #[.int .i64 pn, .int .i64 pc, .slice pa pl pk], .agg (resC er sn sc da dl dc), .bool en], rfl, hH2, fun hH => ?_⟩
       clear hH2
       try simp only [pS]
       refine xV 10 27 (.tuple #[.agg #[.int .i64 pn, .int .i64 pc, .slice pa pl pk], .agg (resC er sn sc da dl dc), .bool en]) hH <| xV 11 38 (.agg (Bl.cells (B5 pn pc pa pl pk))) hH <| xV 12 39 (.agg (Rz.cells (R7 er da dl dc sn sc))) hH <| xV 13 40 (.bool en) hH <| ?_
       try simp only [pS]
       refine any_step (i := 14) (o := { dst := some 7, op := Op.alloc 57, type := 0, pos := "phase.go:55", after := #[], guard := none }) rfl (by kernel_rfl) (by kernel_rfl) (exec_alloc 57 rfl (Bl.cells blZ) Z57) (hH.alloc _) (fun hH => ?_)
       try simp only [pS]
       have HF : Hid _ := HF.out.alloc 57 (Bl.cells blZ)
       generalize wk71.alloc (.cells (Bl.cells blZ) 57) = wk73 at HF hH ⊢
       generalize wk71.heap.size = gk72 at HF ⊢
       refine xS 16 57 ⟨gk72, 0, none⟩ (.agg (Bl.cells (B5 pn pc pa pl pk))) (w' := wk73.setRow gk72 (Bl.cells (B5 pn pc pa pl pk))) (rs (Bl.cs blZ) (Bl.cs (B5 pn pc pa pl pk)) (Bl.cs (B5 pn pc pa pl pk)) (HF.out.box 1 _ _ _ rfl) S57 (Bl.oneL _)) (hH.newRow (nlo (HF.out.low 1 _ _ _ rfl)) _) (fun hH => ?_)
       try simp only [pS]
       have HF : Hid _ := HF.out.set 1 rfl (Bl.cells (B5 pn pc pa pl pk))
       generalize wk73.setRow gk72 (Bl.cells (B5 pn pc pa pl pk)) = wk74 at HF hH ⊢
       refine xS 17 90 ⟨gk68, 0, none⟩ (.agg (Rz.cells (R7 er da dl dc sn sc))) (w' := wk74.setRow gk68 (Rz.cells (R7 er da dl dc sn sc))) (rs (Rz.cs rzZ) (Rz.cs (R7 er da dl dc sn sc)) (Rz.cs (R7 er da dl dc sn sc)) (HF.out.box 0 _ _ _ rfl) S90 (Rz.oneL _)) (hH.newRow (nlo (HF.out.low 0 _ _ _ rfl)) _) (fun hH => ?_)
       try simp only [pS]
       have HF : Hid _ := HF.out.set 0 rfl (Rz.cells (R7 er da dl dc sn sc))
       generalize wk74.setRow gk68 (Rz.cells (R7 er da dl dc sn sc)) = wk75 at HF hH ⊢
       refine xV 18 9 (.bool en) hH ?_
       try simp only [pS]
       refine wpAnyH_done (by kernel_rfl) ?_ _
       try simp only [pS]
       clear hH
       exact hh _ _ _ ⟨HF.out.kept, HF.out.box 1 _ _ _ rfl, HF.out.box 0 _ _ _ rfl, nlo (HF.out.low 1 _ _ _ rfl), nlo (HF.out.low 0 _ _ _ rfl)⟩
      ·skip
       clear hi
       refine step_run (i := 14) (o := { dst := some 7, op := Op.alloc 57, type := 0, pos := "phase.go:55", after := #[], guard := none }) rfl (by kernel_rfl) (exec_alloc 57 rfl (Bl.cells blZ) Z57) (hH.alloc _) (fun hH => ?_)
       try simp only [pS]
       have HF : Hid _ := HF.out.alloc 57 (Bl.cells blZ)
       generalize wk70.alloc (.cells (Bl.cells blZ) 57) = wk77 at HF hH ⊢
       generalize wk70.heap.size = gk76 at HF ⊢
       refine xC 9 37 120 #[.agg #[.int .i64 sz], bkV G, .bool AL] (HSe.out wk77) ?_
       rintro e wk78 ⟨rfl, hk⟩
       have hH2 : Kept No wk9 wk78 := hH.then hk
       have HF : Hid _ := HF.out.no hk
       clear hk
       refine ⟨.tuple #[.agg #[.int .i64 pn, .int .i64 pc, .slice pa pl pk], .agg (resC er sn sc da dl dc), .bool en], rfl, hH2, fun hH => ?_⟩
       clear hH2
       try simp only [pS]
       refine xV 10 27 (.tuple #[.agg #[.int .i64 pn, .int .i64 pc, .slice pa pl pk], .agg (resC er sn sc da dl dc), .bool en]) hH <| xV 11 38 (.agg (Bl.cells (B5 pn pc pa pl pk))) hH <| xV 12 39 (.agg (Rz.cells (R7 er da dl dc sn sc))) hH <| xV 13 40 (.bool en) hH <| ?_
       try simp only [pS]
       refine xS 16 57 ⟨gk76, 0, none⟩ (.agg (Bl.cells (B5 pn pc pa pl pk))) (w' := wk78.setRow gk76 (Bl.cells (B5 pn pc pa pl pk))) (rs (Bl.cs blZ) (Bl.cs (B5 pn pc pa pl pk)) (Bl.cs (B5 pn pc pa pl pk)) (HF.out.box 1 _ _ _ rfl) S57 (Bl.oneL _)) (hH.newRow (nlo (HF.out.low 1 _ _ _ rfl)) _) (fun hH => ?_)
       try simp only [pS]
       have HF : Hid _ := HF.out.set 1 rfl (Bl.cells (B5 pn pc pa pl pk))
       generalize wk78.setRow gk76 (Bl.cells (B5 pn pc pa pl pk)) = wk79 at HF hH ⊢
       refine xS 17 90 ⟨gk68, 0, none⟩ (.agg (Rz.cells (R7 er da dl dc sn sc))) (w' := wk79.setRow gk68 (Rz.cells (R7 er da dl dc sn sc))) (rs (Rz.cs rzZ) (Rz.cs (R7 er da dl dc sn sc)) (Rz.cs (R7 er da dl dc sn sc)) (HF.out.box 0 _ _ _ rfl) S90 (Rz.oneL _)) (hH.newRow (nlo (HF.out.low 0 _ _ _ rfl)) _) (fun hH => ?_)
       try simp only [pS]
       have HF : Hid _ := HF.out.set 0 rfl (Rz.cells (R7 er da dl dc sn sc))
       generalize wk79.setRow gk68 (Rz.cells (R7 er da dl dc sn sc)) = wk80 at HF hH ⊢
       refine xV 18 9 (.bool en) hH ?_
       try simp only [pS]
       refine wpAnyH_done (by kernel_rfl) ?_ _
       try simp only [pS]
       clear hH
       exact hh _ _ _ ⟨HF.out.kept, HF.out.box 1 _ _ _ rfl, HF.out.box 0 _ _ _ rfl, nlo (HF.out.low 1 _ _ _ rfl), nlo (HF.out.low 0 _ _ _ rfl)⟩
     ·skip
      clear hi
      refine step_run (i := 14) (o := { dst := some 7, op := Op.alloc 57, type := 0, pos := "phase.go:55", after := #[], guard := none }) rfl (by kernel_rfl) (exec_alloc 57 rfl (Bl.cells blZ) Z57) (hH.alloc _) (fun hH => ?_)
      try simp only [pS]
      have HF : Hid _ := HF.out.alloc 57 (Bl.cells blZ)
      generalize wk69.alloc (.cells (Bl.cells blZ) 57) = wk82 at HF hH ⊢
      generalize wk69.heap.size = gk81 at HF ⊢
      refine xC 4 32 108 #[pV tb 0] (HGr.out wk82 HF.out.kept) ?_
      rintro e wk83 ⟨rfl, hk⟩
      have hH2 : Kept No wk9 wk83 := hH.then hk
      have HF : Hid _ := HF.out.no hk
      clear hk
      refine ⟨.tuple #[bkV G, .bool AL], rfl, hH2, fun hH => ?_⟩
      clear hH2
      try simp only [pS]
      refine xV 5 33 (bkV G) hH <| xV 6 34 (.bool AL) hH <| ?_
      try simp only [pS]
      refine xC 9 37 120 #[.agg #[.int .i64 sz], bkV G, .bool AL] (HSe.out wk83) ?_
      rintro e wk84 ⟨rfl, hk⟩
      have hH2 : Kept No wk9 wk84 := hH.then hk
      have HF : Hid _ := HF.out.no hk
      clear hk
      refine ⟨.tuple #[.agg #[.int .i64 pn, .int .i64 pc, .slice pa pl pk], .agg (resC er sn sc da dl dc), .bool en], rfl, hH2, fun hH => ?_⟩
      clear hH2
      try simp only [pS]
      refine xV 10 27 (.tuple #[.agg #[.int .i64 pn, .int .i64 pc, .slice pa pl pk], .agg (resC er sn sc da dl dc), .bool en]) hH <| xV 11 38 (.agg (Bl.cells (B5 pn pc pa pl pk))) hH <| xV 12 39 (.agg (Rz.cells (R7 er da dl dc sn sc))) hH <| xV 13 40 (.bool en) hH <| ?_
      try simp only [pS]
      refine xS 16 57 ⟨gk81, 0, none⟩ (.agg (Bl.cells (B5 pn pc pa pl pk))) (w' := wk84.setRow gk81 (Bl.cells (B5 pn pc pa pl pk))) (rs (Bl.cs blZ) (Bl.cs (B5 pn pc pa pl pk)) (Bl.cs (B5 pn pc pa pl pk)) (HF.out.box 1 _ _ _ rfl) S57 (Bl.oneL _)) (hH.newRow (nlo (HF.out.low 1 _ _ _ rfl)) _) (fun hH => ?_)
      try simp only [pS]
      have HF : Hid _ := HF.out.set 1 rfl (Bl.cells (B5 pn pc pa pl pk))
      generalize wk84.setRow gk81 (Bl.cells (B5 pn pc pa pl pk)) = wk85 at HF hH ⊢
      refine xS 17 90 ⟨gk68, 0, none⟩ (.agg (Rz.cells (R7 er da dl dc sn sc))) (w' := wk85.setRow gk68 (Rz.cells (R7 er da dl dc sn sc))) (rs (Rz.cs rzZ) (Rz.cs (R7 er da dl dc sn sc)) (Rz.cs (R7 er da dl dc sn sc)) (HF.out.box 0 _ _ _ rfl) S90 (Rz.oneL _)) (hH.newRow (nlo (HF.out.low 0 _ _ _ rfl)) _) (fun hH => ?_)
      try simp only [pS]
      have HF : Hid _ := HF.out.set 0 rfl (Rz.cells (R7 er da dl dc sn sc))
      generalize wk85.setRow gk68 (Rz.cells (R7 er da dl dc sn sc)) = wk86 at HF hH ⊢
      refine xV 18 9 (.bool en) hH ?_
      try simp only [pS]
      refine wpAnyH_done (by kernel_rfl) ?_ _
      try simp only [pS]
      clear hH
      exact hh _ _ _ ⟨HF.out.kept, HF.out.box 1 _ _ _ rfl, HF.out.box 0 _ _ _ rfl, nlo (HF.out.low 1 _ _ _ rfl), nlo (HF.out.low 0 _ _ _ rfl)⟩
   case tail =>
    have HF2 : Hid (Fq No wk9 W [(A, 57, Bl.cells (B5 pn pc pa pl pk)), (B, 90, Rz.cells (R7 er da dl dc sn sc))]) := ⟨hJ.1, fun i g' T cs hi => by
     match i, hi with
     | 0, hi => cases hi; exact hJ.2.1
     | 1, hi => cases hi; exact hJ.2.2.1, fun i g' T cs hi => by
     match i, hi with
     | 0, hi => cases hi; exact .inl hJ.2.2.2.1
     | 1, hi => cases hi; exact .inl hJ.2.2.2.2, fun i j g' T cs T' cs' hi hj => by
     match i, j, hi, hj with
     | 0, 0, _, _ => rfl
     | 1, 1, _, _ => rfl
     | 0, 1, hi, hj => cases hi; cases hj; exact absurd rfl (box_ne hJ.2.1 hJ.2.2.1 (by decide))
     | 1, 0, hi, hj => cases hi; cases hj; exact absurd rfl (box_ne hJ.2.1 hJ.2.2.1 (by decide))⟩
    clear hJ HF hH
    have HF := HF2
    clear HF2
    go_upto_region 4 with fail
    refine WL.start <| uK (.bool en) <| WL.nil <| ?_
    try simp only [pS]
    cases q3 : (en)
    ·skip
     try simp only [q3]
     have HZl := HZl.out q3
     have HBy := HBy.out q3
     have HZl : Hid ((pz b).length = pl ∧ pl ≤ 140737488355328) := HZl
     have HBy : Hid (Bytes wk9 pa (pz b) ∧ ¬ At pa m) := HBy
     go_upto_region 6 with fail
     refine WL.start <| uK (pV m 0) <| uK (pV m 0) <| uK (pV m 8) <| uL 3 ⟨m, 8, none⟩ (.int .i64 x.rd) (load_one ((HMb.out.box.kept HF.out.kept (fun e => e)).cell 8 |>.trans (by kernel_rfl)) U3 rfl) <| ?_
     try simp only [pS]
     cases q4 : (x.rd == 1099511627776)
     ·skip
      refine uB .eql 3 (.int .i64 x.rd) (.int .i64 1099511627776) (.bool false) (by rw [b_eql, q4]; try rfl) <| WL.nil <| ?_
      try simp only [pS]
      go_upto_region 8 with fail
      refine WL.start <| uK (pV m 0) <| uK (pV m 0) <| uK (pV m 8) <| uL 3 ⟨m, 8, none⟩ (.int .i64 x.rd) (load_one ((HMb.out.box.kept HF.out.kept (fun e => e)).cell 8 |>.trans (by kernel_rfl)) U3 rfl) <| uB .add 3 (.int .i64 x.rd) (.int .i64 1) (.int .i64 (x.rd + 1)) (b_addw _ _ _ (by rw [IntKind.wrap_i64]; have := of_beq_f q4; omega) _) <| uK (pV m 0) <| uK (pV m 8) <| ?_
      try simp only [pS]
      have HBm : Hid (Box W m 142 ([.bool true, .int .i64 x.cl, .int .i64 x.op, .int .i64 x.k0, .int .i64 x.k1, .int .i64 x.k2, .int .i64 x.k3, .slice a x.g.length cap, .int .i64 x.rd, .iface 182 (.agg #[.iface 120 (.agg #[.int .i64 sz]), .pointer (some ⟨tb, 0, none⟩)])] : List Value).toArray) := HMb.out.box.kept HF.out.kept (fun e => e)
      refine uT 3 ⟨m, 8, none⟩ (.int .i64 (x.rd + 1)) (W.setRow m ([.bool true, .int .i64 x.cl, .int .i64 x.op, .int .i64 x.k0, .int .i64 x.k1, .int .i64 x.k2, .int .i64 x.k3, .slice a x.g.length cap, .int .i64 (x.rd + 1), .iface 182 (.agg #[.iface 120 (.agg #[.int .i64 sz]), pV tb 0])] : List Value).toArray) (rs ([.bool true, .int .i64 x.cl, .int .i64 x.op, .int .i64 x.k0, .int .i64 x.k1, .int .i64 x.k2, .int .i64 x.k3, .slice a x.g.length cap, .int .i64 x.rd, .iface 182 (.agg #[.iface 120 (.agg #[.int .i64 sz]), pV tb 0])]) ([.int .i64 (x.rd + 1)]) ([.bool true, .int .i64 x.cl, .int .i64 x.op, .int .i64 x.k0, .int .i64 x.k1, .int .i64 x.k2, .int .i64 x.k3, .slice a x.g.length cap, .int .i64 (x.rd + 1), .iface 182 (.agg #[.iface 120 (.agg #[.int .i64 sz]), pV tb 0])]) HBm.out S3 (by simp [Value.oneCell'])) ?_
      try simp only [pS]
      have hPm : A ≠ m := box_ne (HF.out.box 0 _ _ _ rfl) HBm.out (by decide)
      have hRm : B ≠ m := box_ne (HF.out.box 1 _ _ _ rfl) HBm.out (by decide)
      have HMk : Hid (Mach (W.setRow m ([.bool true, .int .i64 x.cl, .int .i64 x.op, .int .i64 x.k0, .int .i64 x.k1, .int .i64 x.k2, .int .i64 x.k3, .slice a x.g.length cap, .int .i64 (x.rd + 1), .iface 182 (.agg #[.iface 120 (.agg #[.int .i64 sz]), .pointer (some ⟨tb, 0, none⟩)])] : List Value).toArray) m a cap { x with rd := x.rd + 1 } 182 (.agg #[.iface 120 (.agg #[.int .i64 sz]), .pointer (some ⟨tb, 0, none⟩)])) := ⟨HBm.out.setRow _, (HMb.out.no HF.out.kept).row.kept (Kept.setRow _ _ _) (fun k e f => (HMb.out.no HF.out.kept).off e f), HMb.out.nd, HMb.out.len⟩
      have HF2 : Hid (Fq (Only m) wk9 (W.setRow m ([.bool true, .int .i64 x.cl, .int .i64 x.op, .int .i64 x.k0, .int .i64 x.k1, .int .i64 x.k2, .int .i64 x.k3, .slice a x.g.length cap, .int .i64 (x.rd + 1), .iface 182 (.agg #[.iface 120 (.agg #[.int .i64 sz]), .pointer (some ⟨tb, 0, none⟩)])] : List Value).toArray) [(A, 57, Bl.cells (B5 pn pc pa pl pk)), (B, 90, Rz.cells (R7 er da dl dc sn sc))]) := ⟨HF.out.kept.of_no.trans (Kept.setRow _ _ _) (fun _ e => e) (fun _ _ e => e), fun i g' T cs hi => (HF.out.box i g' T cs hi).rowNe (by
       match i, hi with
       | 0, hi => cases hi; exact hPm
       | 1, hi => cases hi; exact hRm) _, fun i g' T cs hi => .inl ((HF.out.low i g' T cs hi).elim id (fun e => e.elim)), HF.out.inj⟩
      clear HBm HF
      have HF := HF2
      clear HF2
      generalize (W.setRow m ([.bool true, .int .i64 x.cl, .int .i64 x.op, .int .i64 x.k0, .int .i64 x.k1, .int .i64 x.k2, .int .i64 x.k3, .slice a x.g.length cap, .int .i64 (x.rd + 1), .iface 182 (.agg #[.iface 120 (.agg #[.int .i64 sz]), .pointer (some ⟨tb, 0, none⟩)])] : List Value).toArray) = wk87 at HF HMk ⊢
      refine WL.nil ?_
      try simp only [pS]
      go_upto_region 9 with fail
      refine wp_region_held_drew (S := fun w' => Box w' A 57 (Bl.cells (B5 pn pc pa pl pk)) ∧ Box w' B 90 (Rz.cells (R7 er da dl dc sn sc)) ∧ w'.cell? ⟨m, 7, none⟩ = some (.slice a x.g.length cap)) rfl ⟨(HF.out.drew.box 0 _ _ _ rfl), (HF.out.drew.box 1 _ _ _ rfl), (HMk.out.no (Kept.refl No _).drew).box.cell 7⟩ (fun hH => ?_)
      have HMk : Hid (Mach wk87.drew m a cap { x with rd := x.rd + 1 } 182 (.agg #[.iface 120 (.agg #[.int .i64 sz]), .pointer (some ⟨tb, 0, none⟩)])) := HMk.out.no (Kept.refl No _).drew
      have HF : Hid _ := HF.out.drew
      generalize wk87.drew = wk88 at HF HMk hH ⊢
      refine xV 0 63 (pV m 0) hH <| xL 1 64 57 ⟨A, 0, none⟩ (.agg (Bl.cells (B5 pn pc pa pl pk))) (fun _ hw => run_load_part (cs := Bl.cs (B5 pn pc pa pl pk)) (sub := Bl.cs (B5 pn pc pa pl pk)) (hw.1) (Part.all _) U57 rfl S57) hH <| xL 2 65 90 ⟨B, 0, none⟩ (.agg (Rz.cells (R7 er da dl dc sn sc))) (fun _ hw => run_load_part (cs := Rz.cs (R7 er da dl dc sn sc)) (sub := Rz.cs (R7 er da dl dc sn sc)) (hw.2.1) (Part.all _) U90 rfl S90) hH <| xV 3 66 (pV m 0) hH <| xV 4 67 (pV m 0) hH <| xV 5 68 (pV m 7) hH <| xL 6 69 24 ⟨m, 7, none⟩ (.slice a x.g.length cap) (fun _ hw => load_one (hw.2.2) U24 rfl) hH <| xV 7 70 (pV m 0) hH <| ?_
      try simp only [pS]
      refine xC 8 71 99 #[pV m 0] (need_any m a cap { x with rd := x.rd + 1 } 182 (.agg #[.iface 120 (.agg #[.int .i64 sz]), pV tb 0]) wk88 HMk.out) ?_
      rintro e wq ⟨rfl, hwq⟩
      rw [hwq]
      clear hwq wq
      refine ⟨.int .i64 (needI x), rfl, hH, fun hH => ?_⟩
      try simp only [pS]
      refine xC 9 72 61 #[.slice a x.g.length cap, .int .i64 (needI x)] (new_anyU a x.g.length cap x.g (needI x) wk88 rfl (by omega) (HMk.out.row.nums rfl)) ?_
      rintro e wk89 ⟨ua, ut, rfl, hU, hUa, hk⟩
      have hH2 : Box wk89 A 57 (Bl.cells (B5 pn pc pa pl pk)) ∧ Box wk89 B 90 (Rz.cells (R7 er da dl dc sn sc)) ∧ wk89.cell? ⟨m, 7, none⟩ = some (.slice a x.g.length cap) := ⟨hH.1.kept hk (fun e => e), hH.2.1.kept hk (fun e => e), hk.cell hH.2.2 (fun e => e)⟩
      have HUl : Hid (∀ k, TB (wk88.heap.size + 1) wk88.heap.size ua k → ¬ Only m k) := fun k e f => by
       have h1 : m < wk88.heap.size := HMk.out.box.lt
       have f : k = m := f
       rcases e with e | e | e
       · omega
       · omega
       · have := hUa k e; omega
      have HUg : Hid (∀ k, TB (wk88.heap.size + 1) wk88.heap.size ua k → wk9.heap.size ≤ k) := fun k e => by
       have h1 : wk9.heap.size ≤ wk88.heap.size := HF.out.kept.size
       rcases e with e | e | e
       · omega
       · omega
       · have := hUa k e; omega
      have HU : Hid (Tal 150 ansU wk89 (wk88.heap.size + 1) wk88.heap.size ua ut (tNew Unit x.g (needI x))) := hU
      have HMk : Hid (Mach wk89 m a cap { x with rd := x.rd + 1 } 182 (.agg #[.iface 120 (.agg #[.int .i64 sz]), .pointer (some ⟨tb, 0, none⟩)])) := HMk.out.no hk
      have HF : Hid _ := HF.out.no hk
      clear hU hUa hk
      generalize wk88.heap.size + 1 = ub at HU HUl HUg ⊢
      generalize wk88.heap.size = ubb at HU HUl HUg
      refine ⟨.pointer (some ⟨ub, 0, none⟩), rfl, hH2, fun hH => ?_⟩
      clear hH2
      try simp only [pS]
      refine xU 10 73 (.agg (laC pn pc pa pl pk er sn sc da dl dc ub)) (fun w' hw => exec_build 195 _ rfl (laC pn pc pa pl pk er sn sc da dl dc ub) (by kernel_rfl)) hH <| xV 11 74 (.iface 195 (.agg (laC pn pc pa pl pk er sn sc da dl dc ub))) hH <| ?_
      try simp only [pS]
      refine xC 12 75 96 #[pV m 0, .iface 195 (.agg (laC pn pc pa pl pk er sn sc da dl dc ub))] (enterL_any m a cap { x with rd := x.rd + 1 } 182 (.agg #[.iface 120 (.agg #[.int .i64 sz]), pV tb 0]) pn pc pa pl pk er sn sc da dl dc ub ubb ut ua (tNew Unit x.g (needI x)) (pz b) wk89 HMk.out HU.out (by rw [show (tNew Unit x.g (needI x)).g = uq x.g from rfl]; have := uq_len x.g; omega) HZl.out.1 HZl.out.2 (Nums.kept HBy.out.1 HF.out.kept (fun b' off e f => HBy.out.2 ⟨_, e, f⟩)) (fun e => HUl.out _ e rfl) HBy.out.2) ?_
      rintro e wk90 ⟨la, lc, qs, rfl, hq, hMs, hM2, hk⟩
      have HMf : Hid (Mach wk90 m a cap { x with rd := x.rd + 1 } 195 (layV pn pc pa pl pk er sn sc da dl dc ub)) := hM2
      have hH2 : Box wk90 A 57 (Bl.cells (B5 pn pc pa pl pk)) ∧ Box wk90 B 90 (Rz.cells (R7 er da dl dc sn sc)) ∧ wk90.cell? ⟨m, 7, none⟩ = some (.slice a x.g.length cap) := ⟨(HF.out.box 0 _ _ _ rfl).kept hk (fun e => hPm e), (HF.out.box 1 _ _ _ rfl).kept hk (fun e => hRm e), HMf.out.box.cell 7⟩
      have HKf : Hid (Kept (Only m) wk9 wk90) := HF.out.kept.trans hk (fun _ e => e) (fun _ _ e => e)
      have HMs : Hid (Msgs wk90 wk9.heap.size la lc { x with rd := x.rd + 1 } ⟨2, pn, pc, pl⟩ (pz b) qs) := ⟨Own.lower hMs.row HF.out.kept.size, fun q hq => Own.lower (hMs.own q hq) HF.out.kept.size, hMs.ord, hMs.len⟩
      have HQ : Hid (qs.map Qm.sv = x.g) := by show qs.map Qm.sv = x.g; rw [hq]; simp [missL, tNew, uq_nd HMb.out.nd]
      have HUf : Hid (Tal 150 ansU wk90 ub ubb ua ut (tNew Unit x.g (needI x))) := HU.out.kept hk (fun k e f => HUl.out k e f)
      clear hk hM2 hMs hq
      refine ⟨.slice la qs.length lc, rfl, hH2, fun hH => ?_⟩
      clear hH2
      try simp only [pS]
      refine xV 13 6 (.slice la qs.length lc) hH ?_
      try simp only [pS]
      refine wpAnyH_done (by kernel_rfl) ?_ _
      try simp only [pS]
      clear hH
      go_wp2
      rw [HC.out]
      have hsz := HKt.out.size
      have HKa : Hid (Kept (fun k => k = m ∨ Tb2 tb bb k) w wk90) := (HKt.out.mono (fun _ _ e => .inr e)).trans HKf.out (fun _ e => e) (fun _ _ e => .inl e)
      have HOf : Hid (OwnB wk90 w.heap.size ka kk kz) := Own.kept HO.out HKf.out (fun k e f => by have := Own.base HO.out e; have f : k = m := f; omega)
      have HTf : Hid (Tal 185 ansB wk90 tb bb at' ct (takeS Y d.fr.id b)) := HTb.out.kept HKf.out (fun k e f => by
       have f : k = m := f
       subst f
       rcases e with e | e | e
       · exact HD.out k (.inl rfl) (.inl e)
       · exact HD.out k (.inl rfl) (.inr e)
       · exact Own.notBox HTb.out.row HMb.out.box (by decide) e)
      refine .inr ⟨q1, ka, kk, b, HBb.out, HOf.out, HKa.out, HTf.out, .inr (.inr (.inr ⟨q2, by rw [← HQq.out]; exact q3, of_beq_f q4, ub, ubb, ut, ua, la, lc, qs, rfl, HQ.out, by rw [← HQq.out]; exact ⟨Own.lower HMs.out.row hsz, fun q hq => Own.lower (HMs.out.own q hq) hsz, HMs.out.ord, HMs.out.len⟩, by rw [← HQq.out]; exact HMf.out, HUf.out, fun k e => Nat.le_trans hsz (HUg.out k e)⟩))⟩
     ·skip
      refine uB .eql 3 (.int .i64 x.rd) (.int .i64 1099511627776) (.bool true) (by rw [b_eql, q4]; try rfl) <| WL.nil <| ?_
      try simp only [pS]
      go_upto_region 7 with fail
      refine WL.start <| uK (pV m 0) <| ?_
      try simp only [pS]
      refine uC 97 #[] (worn97 W) ?_
      rintro e wk91 ⟨rfl, hk⟩
      have HF : Hid _ := HF.out.no hk
      clear hk
      refine ⟨.agg (Rz.cells { rzZ with er := 4 }), rfl, ?_⟩
      try simp only [pS]
      refine uK (.iface 177 (.agg (Rz.cells { rzZ with er := 4 }))) ?_
      try simp only [pS]
      have HKn : Hid (Kept No wk9 wk91) := HF.out.kept
      refine uC 96 #[pV m 0, .iface 177 (.agg (Rz.cells { rzZ with er := 4 }))] (enterE_any m a cap x 182 (.agg #[.iface 120 (.agg #[.int .i64 sz]), pV tb 0]) 4 0 0 none 0 0 wk91 (HMb.out.no HKn.out)) ?_
      rintro e wk92 ⟨rfl, hM2, hk⟩
      have HMf : Hid (Mach wk92 m a cap x 177 (endV 4 0 0 none 0 0)) := hM2
      have HKf : Hid (Kept (Only m) wk9 wk92) := (HKn.out.of_no : Kept (Only m) _ _).then hk
      clear hk hM2
      refine ⟨.slice none 0 0, rfl, ?_⟩
      try simp only [pS]
      refine uK (.slice none 0 0) <| WL.nil <| ?_
      try simp only [pS]
      go_wp2
      rw [HC.out]
      have hsz := HKt.out.size
      have HKa : Hid (Kept (fun k => k = m ∨ Tb2 tb bb k) w wk92) := (HKt.out.mono (fun _ _ e => .inr e)).trans HKf.out (fun _ e => e) (fun _ _ e => .inl e)
      have HOf : Hid (OwnB wk92 w.heap.size ka kk kz) := Own.kept HO.out HKf.out (fun k e f => by have := Own.base HO.out e; have f : k = m := f; omega)
      have HTf : Hid (Tal 185 ansB wk92 tb bb at' ct (takeS Y d.fr.id b)) := HTb.out.kept HKf.out (fun k e f => by
       have f : k = m := f
       subst f
       rcases e with e | e | e
       · exact HD.out k (.inl rfl) (.inl e)
       · exact HD.out k (.inl rfl) (.inr e)
       · exact Own.notBox HTb.out.row HMb.out.box (by decide) e)
      refine .inr ⟨q1, ka, kk, b, HBb.out, HOf.out, HKa.out, HTf.out, .inr (.inr (.inl ⟨q2, by rw [← HQq.out]; exact q3, beq_iff_eq.1 q4, rfl, HMf.out⟩))⟩
    ·skip
     try simp only [q3]
     go_upto_region 5 with fail
     refine WL.start <| uK (pV m 0) <| uL 90 ⟨B, 0, none⟩ (.agg (Rz.cells (R7 er da dl dc sn sc))) (run_load_part (cs := Rz.cs (R7 er da dl dc sn sc)) (sub := Rz.cs (R7 er da dl dc sn sc)) (HF.out.box 1 _ _ _ rfl) (Part.all _) U90 rfl S90) <| uW (.agg (Rz.cells (R7 er da dl dc sn sc))) (exec_build 177 _ rfl (Rz.cells (R7 er da dl dc sn sc)) (by kernel_rfl)) <| uK (.iface 177 (.agg (Rz.cells (R7 er da dl dc sn sc)))) <| ?_
     try simp only [pS]
     have HKn : Hid (Kept No wk9 W) := HF.out.kept
     refine uC 96 #[pV m 0, .iface 177 (.agg (Rz.cells (R7 er da dl dc sn sc)))] (enterE_any m a cap x 182 (.agg #[.iface 120 (.agg #[.int .i64 sz]), pV tb 0]) er sn sc da dl dc W (HMb.out.no HKn.out)) ?_
     rintro e wk93 ⟨rfl, hM2, hk⟩
     have HMf : Hid (Mach wk93 m a cap x 177 (endV er sn sc da dl dc)) := hM2
     have HKf : Hid (Kept (Only m) wk9 wk93) := (HKn.out.of_no : Kept (Only m) _ _).then hk
     clear hk hM2
     refine ⟨.slice none 0 0, rfl, ?_⟩
     try simp only [pS]
     refine uK (.slice none 0 0) <| WL.nil <| ?_
     try simp only [pS]
     go_wp2
     rw [HC.out]
     have hsz := HKt.out.size
     have HKa : Hid (Kept (fun k => k = m ∨ Tb2 tb bb k) w wk93) := (HKt.out.mono (fun _ _ e => .inr e)).trans HKf.out (fun _ e => e) (fun _ _ e => .inl e)
     have HOf : Hid (OwnB wk93 w.heap.size ka kk kz) := Own.kept HO.out HKf.out (fun k e f => by have := Own.base HO.out e; have f : k = m := f; omega)
     have HTf : Hid (Tal 185 ansB wk93 tb bb at' ct (takeS Y d.fr.id b)) := HTb.out.kept HKf.out (fun k e f => by
      have f : k = m := f
      subst f
      rcases e with e | e | e
      · exact HD.out k (.inl rfl) (.inl e)
      · exact HD.out k (.inl rfl) (.inr e)
      · exact Own.notBox HTb.out.row HMb.out.box (by decide) e)
     refine .inr ⟨q1, ka, kk, b, HBb.out, HOf.out, HKa.out, HTf.out, .inr (.inl ⟨q2, by rw [← HQq.out]; exact q3, rfl, by rw [← HQq.out]; exact HMf.out⟩)⟩
end Go.Proofs.Ytgiokkcdgoloaaa.Md
