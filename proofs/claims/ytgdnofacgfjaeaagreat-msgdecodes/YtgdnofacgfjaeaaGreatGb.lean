import Derived.Test.YtgdnofacgfjaeaaGreatFi
namespace Go.Proofs.YtgdnofacgfjaeaaGreat.Md
set_option maxRecDepth 100000
set_option maxHeartbeats 4000000
open Go.RowKit
set_option linter.unusedVariables false
set_option linter.unusedSimpArgs false
theorem r_bare (m:Mg) (w:World):Calls Tryz.prog 173 #[.agg (Mg.cells m)] w (fun e w'=>e=.returned (.bool (bareR m))∧Kept No w w'):=by
  refine hidC fun C HC=>?_;have HF:Hid (Fq No w w []):=Fq.start _ _;go_enter Tryz.func173,Tryz.ntmps173;go_upto_region 0 with fail;refine Sg<|xB (Mg.cells m) HF fun g1 w2 HF=>tF<|Nl ?_;simp only[pS];go_upto_region 1 with fail;refine Sg<|tK (pg g1 11)<|lP (Sp.cs m.st) HF 0 11 U34 S34 (Mg.cs m) rfl<|?_;simp only[pS];cases q1:(eqS m.st spZ)
  ·refine cB (r_None m.st _) q1 HF fun w3 HF=>tF<|sK<|sK<|sK<|tF<|tF<|sK<|sK<|sK<|sK<|tF<|tF<|sK<|sK<|sK<|?_;simp only[pS];refine tF<|tF<|sK<|sK<|sK<|tF<|tF<|sK<|sK<|sK<|sK<|tF<|tF<|sK<|sK<|sK<|tF<|tF<|Nl ?_;simp only[pS];go_wp2;exact lf C HC HF (by simp only[*,bareR,bsq])
  refine cB (r_None m.st _) q1 HF fun w4 HF=>tU<|tK (pg g1 13)<|lP (Sp.cs m.hd) HF 0 13 U34 S34 (Mg.cs m) rfl<|?_;simp only[pS];cases q2:(eqS m.hd spZ)
  ·refine cB (r_None m.hd _) q2 HF fun w5 HF=>tF<|tF<|sK<|sK<|sK<|sK<|tF<|tF<|sK<|sK<|sK<|tF<|tF<|sK<|sK<|?_;simp only[pS];refine sK<|tF<|tF<|sK<|sK<|sK<|sK<|tF<|tF<|sK<|sK<|sK<|tF<|tF<|Nl ?_;simp only[pS];go_wp2;exact lf C HC HF (by simp only[*,bareR,bsq])
  refine cB (r_None m.hd _) q2 HF fun w6 HF=>tU<|tU<|tK (pg g1 15)<|lD (m.bl.v) HF 0 15 U35 rfl<|tK (.int .i64 ((m.bl.l:Nat):Int))<|?_;simp only[pS];cases q3:(((m.bl.l:Nat):Int)==0)
  ·refine bN (eI q3)<|tF<|tF<|sK<|sK<|sK<|tF<|tF<|sK<|sK<|sK<|tF<|tF<|sK<|sK<|sK<|?_;simp only[pS];refine sK<|tF<|tF<|sK<|sK<|sK<|tF<|tF<|Nl ?_;simp only[pS];go_wp2;exact lf C HC HF (by simp only[*,bareR,bsq])
  refine bN (eI q3)<|tU<|tU<|tK (pg g1 16)<|lP (Cm.cs m.c) HF 0 16 U39 S39 (Mg.cs m) rfl<|?_;simp only[pS];cases q4:(eqC m.c cZ)
  ·refine cB (r_none m.c _) q4 HF fun w7 HF=>tF<|tF<|sK<|sK<|sK<|tF<|tF<|sK<|sK<|sK<|sK<|tF<|tF<|sK<|sK<|sK<|tF<|tF<|Nl ?_;simp only[pS];go_wp2;exact lf C HC HF (by simp only[*,bareR,bsq])
  refine cB (r_none m.c _) q4 HF fun w8 HF=>tU<|tU<|tK (pg g1 25)<|lP (Bv.cs m.bk) HF 0 25 U43 S43 (Mg.cs m) rfl<|?_;simp only[pS];cases q5:(empK m.bk)
  ·refine cB (r_empty m.bk _) q5 HF fun w9 HF=>tF<|tF<|sK<|sK<|sK<|sK<|tF<|tF<|sK<|sK<|sK<|tF<|tF<|Nl ?_;simp only[pS];go_wp2;exact lf C HC HF (by simp only[*,bareR,bsq])
  refine cB (r_empty m.bk _) q5 HF fun w10 HF=>tU<|tU<|tK (pg g1 28)<|lD (m.cm.v) HF 0 28 U26 rfl<|tK (.int .i64 ((m.cm.l:Nat):Int))<|?_;simp only[pS];cases q6:(((m.cm.l:Nat):Int)==0)
  ·refine bN (eI q6)<|tF<|tF<|sK<|sK<|sK<|tF<|tF<|Nl ?_;simp only[pS];go_wp2;exact lf C HC HF (by simp only[*,bareR,bsq])
  refine bN (eI q6)<|tU<|tU<|tK (pg g1 29)<|lD (.bool m.mo) HF 0 29 U4 rfl<|?_;simp only[pS];cases q7:(m.mo)
  ·refine tU<|tU<|tU<|Nl ?_;simp only[pS];go_wp2;exact lf C HC HF (by simp only[*,bareR,bsq])
  refine tF<|tF<|tF<|Nl ?_;simp only[pS];go_wp2;exact lf C HC HF (by simp only[*,bareR,bsq])
theorem r_counted (m:Mg) (w:World):Calls Tryz.prog 95 #[.agg (Mg.cells m)] w (fun e w'=>e=.returned (.bool (cntB m))∧Kept No w w'):=by
  refine hidC fun C HC=>?_;have HF:Hid (Fq No w w []):=Fq.start _ _;go_enter Tryz.func95,Tryz.ntmps95;go_upto_region 0 with fail;refine Sg<|xB (Mg.cells m) HF fun g1 w2 HF=>tF<|Nl ?_;simp only[pS];go_upto_region 1 with fail;refine Sg<|tK (pg g1 5)<|lD (.int .i64 m.op) HF 0 5 U3 rfl<|?_;simp only[pS];cases q1:(wn m.op 1 1099511627776)
  ·refine cB (r_within m.op 1 1099511627776 _) q1 HF fun w3 HF=>tF<|sK<|sK<|sK<|tF<|tF<|Nl ?_;simp only[pS];go_wp2;exact lf C HC HF (by simp only[*,cntB,bsq])
  refine cB (r_within m.op 1 1099511627776 _) q1 HF fun w4 HF=>tU<|tK (pg g1 6)<|lD (.int .i64 m.rd) HF 0 6 U3 rfl<|?_;simp only[pS];cases q2:(wn m.rd 1 1099511627776)
  ·refine cB (r_within m.rd 1 1099511627776 _) q2 HF fun w5 HF=>tF<|tF<|Nl ?_;simp only[pS];go_wp2;exact lf C HC HF (by simp only[*,cntB,bsq])
  refine cB (r_within m.rd 1 1099511627776 _) q2 HF fun w6 HF=>tU<|tU<|Nl ?_;simp only[pS];go_wp2;exact lf C HC HF (by simp only[*,cntB,bsq])
theorem r_asks (m:Mg) (c:Cg) (w:World) (hb:0≤c.bl∧c.bl≤4096):Calls Tryz.prog 96 #[.agg (Mg.cells m),.agg (Cg.cells c)] w (fun e w'=>e=.returned (.bool (asksR c.bl m))∧Kept No w w'):=by
  refine hidC fun C HC=>?_;have HB:Hid (0≤c.bl∧c.bl≤4096):=hb;clear hb;have HF:Hid (Fq No w w []):=Fq.start _ _;go_enter Tryz.func96,Tryz.ntmps96;go_upto_region 0 with fail;refine Sg<|xB (Mg.cells m) HF fun g1 w2 HF=>xB (Cg.cells c) HF fun g3 w4 HF=>tF<|Nl ?_;simp only[pS];go_upto_region 1 with fail;refine Sg<|lP (Mg.cs m) HF 0 0 U45 S45 (Mg.cs m) rfl<|xA (Mg.cells mgZ) Z45 HF fun g5 w6 HF=>sB (Mg.cs m) (Mg.cs m) HF 2 0 (v:=.agg (Mg.cells m)) rfl S45 (Mg.oneL _) (Mg.cs mgZ) rfl fun w7 HF=>Nl ?_;simp only[pS];go_upto_region 2 with fail;refine Sg<|bD (Sp.cells spZ)<|tK (pg g5 11)<|sB (Mg.cs ⟨m.k,m.fr,m.too,m.op,m.rd,m.ky,spZ,m.hd,m.bl,m.c,m.bk,m.cm,m.mo⟩) (Sp.cs spZ) HF 2 11 (v:=.agg (Sp.cells spZ)) rfl S34 (Sp.oneL _) (Mg.cs m) rfl fun w8 HF=>Nl ?_;simp only[pS];go_upto_region 3 with fail;refine Sg<|bD (Cm.cells cZ)<|tK (pg g5 16)<|sB (Mg.cs ⟨m.k,m.fr,m.too,m.op,m.rd,m.ky,spZ,m.hd,m.bl,cZ,m.bk,m.cm,m.mo⟩) (Cm.cs cZ) HF 2 16 (v:=.agg (Cm.cells cZ)) rfl S39 (Cm.oneL _) (Mg.cs ⟨m.k,m.fr,m.too,m.op,m.rd,m.ky,spZ,m.hd,m.bl,m.c,m.bk,m.cm,m.mo⟩) rfl fun w9 HF=>Nl ?_;simp only[pS];go_upto_region 4 with fail;refine Sg<|tK (pg g5 15)<|sB (Mg.cs ⟨m.k,m.fr,m.too,m.op,m.rd,m.ky,spZ,m.hd,slZ,cZ,m.bk,m.cm,m.mo⟩) ([.slice none 0 0]) HF 2 15 (v:=.slice none 0 0) rfl S35 (by simp [Value.oneCell',Sl.v]) (Mg.cs ⟨m.k,m.fr,m.too,m.op,m.rd,m.ky,spZ,m.hd,m.bl,cZ,m.bk,m.cm,m.mo⟩) rfl fun w10 HF=>Nl ?_;simp only[pS];go_upto_region 5 with fail;refine Sg<|lP (Mg.cs ⟨m.k,m.fr,m.too,m.op,m.rd,m.ky,spZ,m.hd,slZ,cZ,m.bk,m.cm,m.mo⟩) HF 2 0 U45 S45 (Mg.cs ⟨m.k,m.fr,m.too,m.op,m.rd,m.ky,spZ,m.hd,slZ,cZ,m.bk,m.cm,m.mo⟩) rfl<|?_;simp only[pS];cases q1:(bareR ⟨m.k,m.fr,m.too,m.op,m.rd,m.ky,spZ,m.hd,slZ,cZ,m.bk,m.cm,m.mo⟩)
  ·refine cB (r_bare ⟨m.k,m.fr,m.too,m.op,m.rd,m.ky,spZ,m.hd,slZ,cZ,m.bk,m.cm,m.mo⟩ _) q1 HF fun w11 HF=>tU<|Nl ?_;simp only[pS];go_upto_region 6 with fail;refine Sg<|tF<|Nl ?_;simp only[pS];go_wp2;exact lf C HC HF (by simp only[*,asksR,bsq])
  refine cB (r_bare ⟨m.k,m.fr,m.too,m.op,m.rd,m.ky,spZ,m.hd,slZ,cZ,m.bk,m.cm,m.mo⟩ _) q1 HF fun w12 HF=>tF<|Nl ?_;simp only[pS];go_upto_region 7 with fail;refine Sg<|tK (pg g1 0)<|lD (.int .i64 m.k) HF 0 0 U3 rfl<|Nl ?_;simp only[pS];go_upto_region 8 with fail;refine Sg<|?_;cases q2:(m.k==1);rotate_left
  ·refine bN (eI q2)<|tU<|Nl ?_;simp only[pS];go_upto_region 9 with fail;refine Sg<|tK (pg g1 7)<|tK (pg g1 7)<|lD (.int .i64 m.ky.k) HF 0 7 U3 rfl<|?_;simp only[pS];cases q22:(m.ky.k==1)
   ·refine bN (eI q22)<|tF<|sK<|sK<|tF<|tF<|Nl ?_;simp only[pS];go_wp2;exact lf C HC HF (by simp only[*,asksR,bsq])
   refine bN (eI q22)<|tU<|lP (Mg.cs m) HF 0 0 U45 S45 (Mg.cs m) rfl<|?_;simp only[pS];cases q23:(bareR m)
   ·refine cB (r_bare m _) q23 HF fun w29 HF=>tF<|tF<|Nl ?_;simp only[pS];go_wp2;exact lf C HC HF (by simp only[*,asksR,bsq])
   refine cB (r_bare m _) q23 HF fun w30 HF=>tU<|tU<|Nl ?_;simp only[pS];go_wp2;exact lf C HC HF (by simp only[*,asksR,bsq])
  refine bN (eI q2)<|tF<|Nl ?_;simp only[pS];go_upto_region 10 with fail;refine Sg<|?_;cases q3:(m.k==2);rotate_left
  ·refine bN (eI q3)<|tU<|Nl ?_;simp only[pS];go_upto_region 11 with fail;refine Sg<|tK (pg g1 7)<|tK (pg g1 7)<|lD (.int .i64 m.ky.k) HF 0 7 U3 rfl<|?_;simp only[pS];cases q18:(m.ky.k==1)
   ·refine bN (eI q18)<|tF<|sK<|sK<|sK<|tF<|tF<|sK<|sK<|sK<|sK<|sK<|sK<|tF<|tF<|sK<|sK<|sK<|tF<|tF<|Nl ?_;simp only[pS];go_wp2;exact lf C HC HF (by simp only[*,asksR,bsq])
   refine bN (eI q18)<|tU<|tK (pg g1 11)<|lP (Sp.cs m.st) HF 0 11 U34 S34 (Mg.cs m) rfl<|?_;simp only[pS];cases q19:(oneS m.st)
   ·refine cB (r_One m.st _) q19 HF fun w25 HF=>tF<|tF<|sK<|sK<|sK<|sK<|sK<|sK<|tF<|tF<|sK<|sK<|sK<|tF<|tF<|Nl ?_;simp only[pS];go_wp2;exact lf C HC HF (by simp only[*,asksR,bsq])
   refine cB (r_One m.st _) q19 HF fun w26 HF=>tU<|tU<|tK (pg g1 15)<|lD (m.bl.v) HF 0 15 U35 rfl<|tK (.int .i64 ((m.bl.l:Nat):Int))<|tK (pg g3 4)<|lD (.int .i64 c.bl) HF 1 4 U3 rfl<|?_;simp only[pS];cases q20:(((m.bl.l:Nat):Int)==c.bl)
   ·refine bN (eI q20)<|tF<|tF<|sK<|sK<|sK<|tF<|tF<|Nl ?_;simp only[pS];go_wp2;exact lf C HC HF (by simp only[*,asksR,bsq])
   refine bN (eI q20)<|tU<|tU<|tK (pg g1 16)<|lP (Cm.cs m.c) HF 0 16 U39 S39 (Mg.cs m) rfl<|?_;simp only[pS];cases q21:(eqC m.c cZ)
   ·refine cB (r_none m.c _) q21 HF fun w27 HF=>tF<|tF<|Nl ?_;simp only[pS];go_wp2;exact lf C HC HF (by simp only[*,asksR,bsq])
   refine cB (r_none m.c _) q21 HF fun w28 HF=>tU<|tU<|Nl ?_;simp only[pS];go_wp2;exact lf C HC HF (by simp only[*,asksR,bsq])
  refine bN (eI q3)<|tF<|Nl ?_;simp only[pS];go_upto_region 12 with fail;refine Sg<|?_;cases q4:(m.k==3);rotate_left
  ·refine bN (eI q4)<|tU<|Nl ?_;simp only[pS];go_upto_region 13 with fail;refine Sg<|tK (pg g1 7)<|tK (pg g1 7)<|lD (.int .i64 m.ky.k) HF 0 7 U3 rfl<|?_;simp only[pS];cases q14:(m.ky.k==3)
   ·refine bN (eI q14)<|tF<|sK<|sK<|sK<|tF<|tF<|sK<|sK<|sK<|sK<|tF<|tF<|sK<|sK<|sK<|tF<|tF<|Nl ?_;simp only[pS];go_wp2;exact lf C HC HF (by simp only[*,asksR,bsq])
   refine bN (eI q14)<|tU<|tK (pg g1 11)<|lP (Sp.cs m.st) HF 0 11 U34 S34 (Mg.cs m) rfl<|?_;simp only[pS];cases q15:(oneS m.st)
   ·refine cB (r_One m.st _) q15 HF fun w21 HF=>tF<|tF<|sK<|sK<|sK<|sK<|tF<|tF<|sK<|sK<|sK<|tF<|tF<|Nl ?_;simp only[pS];go_wp2;exact lf C HC HF (by simp only[*,asksR,bsq])
   refine cB (r_One m.st _) q15 HF fun w22 HF=>tU<|tU<|tK (pg g1 15)<|lD (m.bl.v) HF 0 15 U35 rfl<|tK (.int .i64 ((m.bl.l:Nat):Int))<|?_;simp only[pS];cases q16:(((m.bl.l:Nat):Int)==0)
   ·refine bN (eI q16)<|tF<|tF<|sK<|sK<|sK<|tF<|tF<|Nl ?_;simp only[pS];go_wp2;exact lf C HC HF (by simp only[*,asksR,bsq])
   refine bN (eI q16)<|tU<|tU<|tK (pg g1 16)<|lP (Cm.cs m.c) HF 0 16 U39 S39 (Mg.cs m) rfl<|?_;simp only[pS];cases q17:(eqC m.c cZ)
   ·refine cB (r_none m.c _) q17 HF fun w23 HF=>tF<|tF<|Nl ?_;simp only[pS];go_wp2;exact lf C HC HF (by simp only[*,asksR,bsq])
   refine cB (r_none m.c _) q17 HF fun w24 HF=>tU<|tU<|Nl ?_;simp only[pS];go_wp2;exact lf C HC HF (by simp only[*,asksR,bsq])
  refine bN (eI q4)<|tF<|Nl ?_;simp only[pS];go_upto_region 14 with fail;refine Sg<|?_;cases q5:(m.k==4)
  ·refine bN (eI q5)<|tF<|Nl ?_;simp only[pS];go_upto_region 16 with fail;refine Sg<|tK (pg g1 7)<|tK (pg g1 7)<|lD (.int .i64 m.ky.k) HF 0 7 U3 rfl<|?_;simp only[pS];cases q6:(m.ky.k==3)
   ·refine bN (eI q6)<|tF<|sK<|sK<|sK<|tF<|tF<|sK<|sK<|sK<|sK<|tF<|tF<|sK<|sK<|sK<|sK<|tF<|tF<|Nl ?_;simp only[pS];go_wp2;exact lf C HC HF (by simp only[*,asksR,bsq])
   refine bN (eI q6)<|tU<|tK (pg g1 11)<|lP (Sp.cs m.st) HF 0 11 U34 S34 (Mg.cs m) rfl<|?_;simp only[pS];cases q7:(eqS m.st spZ)
   ·refine cB (r_None m.st _) q7 HF fun w13 HF=>tF<|tF<|sK<|sK<|sK<|sK<|tF<|tF<|sK<|sK<|sK<|sK<|tF<|tF<|Nl ?_;simp only[pS];go_wp2;exact lf C HC HF (by simp only[*,asksR,bsq])
   refine cB (r_None m.st _) q7 HF fun w14 HF=>tU<|tU<|tK (pg g1 15)<|lD (m.bl.v) HF 0 15 U35 rfl<|tK (.int .i64 ((m.bl.l:Nat):Int))<|?_;simp only[pS];cases q8:(((m.bl.l:Nat):Int)==0)
   ·refine bN (eI q8)<|tF<|tF<|sK<|sK<|sK<|sK<|tF<|tF<|Nl ?_;simp only[pS];go_wp2;exact lf C HC HF (by simp only[*,asksR,bsq])
   refine bN (eI q8)<|tU<|tU<|tK (pg g1 16)<|lP (Cm.cs m.c) HF 0 16 U39 S39 (Mg.cs m) rfl<|lP (Cg.cs c) HF 1 0 U24 S24 (Cg.cs c) rfl<|?_;simp only[pS];cases q9:(cmdR c.bl m.c)
   ·refine cB (r_IsCommand m.c c _ HB) q9 HF fun w15 HF=>tF<|tF<|Nl ?_;simp only[pS];go_wp2;exact lf C HC HF (by simp only[*,asksR,bsq])
   refine cB (r_IsCommand m.c c _ HB) q9 HF fun w16 HF=>tU<|tU<|Nl ?_;simp only[pS];go_wp2;exact lf C HC HF (by simp only[*,asksR,bsq])
  refine bN (eI q5)<|tU<|Nl ?_;simp only[pS];go_upto_region 15 with fail;refine Sg<|tK (pg g1 7)<|tK (pg g1 7)<|lD (.int .i64 m.ky.k) HF 0 7 U3 rfl<|?_;simp only[pS];cases q10:(m.ky.k==3)
  ·refine bN (eI q10)<|tF<|sK<|sK<|sK<|tF<|tF<|sK<|sK<|sK<|sK<|tF<|tF<|sK<|sK<|sK<|sK<|tF<|tF<|Nl ?_;simp only[pS];go_wp2;exact lf C HC HF (by simp only[*,asksR,bsq])
  refine bN (eI q10)<|tU<|tK (pg g1 11)<|lP (Sp.cs m.st) HF 0 11 U34 S34 (Mg.cs m) rfl<|?_;simp only[pS];cases q11:(oneS m.st)
  ·refine cB (r_One m.st _) q11 HF fun w17 HF=>tF<|tF<|sK<|sK<|sK<|sK<|tF<|tF<|sK<|sK<|sK<|sK<|tF<|tF<|Nl ?_;simp only[pS];go_wp2;exact lf C HC HF (by simp only[*,asksR,bsq])
  refine cB (r_One m.st _) q11 HF fun w18 HF=>tU<|tU<|tK (pg g1 15)<|lD (m.bl.v) HF 0 15 U35 rfl<|tK (.int .i64 ((m.bl.l:Nat):Int))<|?_;simp only[pS];cases q12:(((m.bl.l:Nat):Int)==0)
  ·refine bN (eI q12)<|tF<|tF<|sK<|sK<|sK<|sK<|tF<|tF<|Nl ?_;simp only[pS];go_wp2;exact lf C HC HF (by simp only[*,asksR,bsq])
  refine bN (eI q12)<|tU<|tU<|tK (pg g1 16)<|lP (Cm.cs m.c) HF 0 16 U39 S39 (Mg.cs m) rfl<|lP (Cg.cs c) HF 1 0 U24 S24 (Cg.cs c) rfl<|?_;simp only[pS];cases q13:(cmdR c.bl m.c)
  ·refine cB (r_IsCommand m.c c _ HB) q13 HF fun w19 HF=>tF<|tF<|Nl ?_;simp only[pS];go_wp2;exact lf C HC HF (by simp only[*,asksR,bsq])
  refine cB (r_IsCommand m.c c _ HB) q13 HF fun w20 HF=>tU<|tU<|Nl ?_;simp only[pS];go_wp2;exact lf C HC HF (by simp only[*,asksR,bsq])
set_option maxRecDepth 100000 in
set_option maxHeartbeats 4000000 in
theorem r_answers (m:Mg) (bs:List Int) (es:List En) (ls:List La) (c:Cg) (w:World) (hb:0≤c.bl∧c.bl≤4096) (h1:RdB w m.bl bs) (h2:RdE w m.bk.e es) (h3:RdL w m.bk.l ls) (hnb:m.bl.l≤281474976710656) (hne:m.bk.e.l≤281474976710656) (hnl:m.bk.l.l≤281474976710656):Calls Tryz.prog 97 #[.agg (Mg.cells m),.agg (Cg.cells c)] w (fun e w'=>e=.returned (.bool (ansR c.bl c.rm m bs es ls))∧Kept No w w'):=by
  refine hidC fun C HC=>?_;have HB:Hid (0≤c.bl∧c.bl≤4096):=hb;clear hb;have HRB:Hid (RdB w m.bl bs):=h1;clear h1;have HRE:Hid (RdE w m.bk.e es):=h2;clear h2;have HRL:Hid (RdL w m.bk.l ls):=h3;clear h3;have HF:Hid (Fq No w w []):=Fq.start _ _;go_enter Tryz.func97,Tryz.ntmps97;go_upto_region 0 with fail;refine Sg<|xB (Mg.cells m) HF fun g1 w2 HF=>xB (Cg.cells c) HF fun g3 w4 HF=>tF<|Nl ?_;simp only[pS];go_upto_region 1 with fail;refine Sg<|tK (pg g1 29)<|lD (.bool m.mo) HF 0 29 U4 rfl<|tK (.bool m.mo)<|?_;simp only[pS];cases q1:(m.mo);rotate_left
  ·refine sK<|sK<|sK<|sK<|tU<|tU<|sK<|sK<|sK<|sK<|sK<|sK<|sK<|sK<|sK<|tU<|?_;simp only[pS];refine tU<|sK<|sK<|sK<|sK<|sK<|sK<|sK<|sK<|sK<|tU<|Nl ?_;simp only[pS];go_upto_region 2 with fail;refine Sg<|tF<|Nl ?_;simp only[pS];go_wp2;exact lf C HC HF (by simp only[*,ansR,bsq])
  refine tK (pg g1 28)<|lD (m.cm.v) HF 0 28 U26 rfl<|tK (.int .i64 ((m.cm.l:Nat):Int))<|?_;simp only[pS];cases q2:(decide (0 < ((m.cm.l:Nat):Int)));rotate_left
  ·refine bN (gI q2)<|tU<|tU<|sK<|sK<|sK<|sK<|sK<|sK<|sK<|sK<|sK<|tU<|tU<|sK<|sK<|?_;simp only[pS];refine sK<|sK<|sK<|sK<|sK<|sK<|sK<|tU<|Nl ?_;simp only[pS];go_upto_region 2 with fail;refine Sg<|tF<|Nl ?_;simp only[pS];go_wp2;exact lf C HC HF (by simp only[*,ansR,bsq])
  refine bN (gI q2)<|tF<|tF<|tK (pg g1 0)<|lD (.int .i64 m.k) HF 0 0 U3 rfl<|?_;simp only[pS];cases q3:(m.k==17);rotate_left
  ·refine bN (nI1 q3)<|tF<|sK<|sK<|sK<|sK<|tF<|tF<|tF<|tK (pg g1 0)<|lD (.int .i64 m.k) HF 0 0 U3 rfl<|?_;simp only[pS];have q66:(m.k==13)=false:=by rw [eq_of_beq q3];rfl
   refine bN (nI0 q66)<|tU<|tK (pg g1 13)<|lP (Sp.cs m.hd) HF 0 13 U34 S34 (Mg.cs m) rfl<|?_;simp only[pS];cases q67:(eqS m.hd spZ)
   ·refine cB (r_None m.hd _) q67 HF fun w47 HF=>tU<|tU<|tU<|Nl ?_;simp only[pS];go_upto_region 2 with fail;refine Sg<|tF<|Nl ?_;simp only[pS];go_wp2;exact lf C HC HF (by simp only[*,ansR,bsq])
   refine cB (r_None m.hd _) q67 HF fun w48 HF=>tF<|tF<|tF<|Nl ?_;simp only[pS];go_upto_region 3 with fail;refine Sg<|tK (pg g1 0)<|lD (.int .i64 m.k) HF 0 0 U3 rfl<|?_;simp only[pS];have q68:(m.k==11)=false:=by rw [eq_of_beq q3];rfl
   refine bN (nI0 q68)<|tU<|tK (pg g1 15)<|lD (m.bl.v) HF 0 15 U35 rfl<|tK (.int .i64 ((m.bl.l:Nat):Int))<|?_;simp only[pS];cases q69:(decide (0 < ((m.bl.l:Nat):Int)));rotate_left
   ·refine bN (gI q69)<|tU<|tU<|sK<|sK<|sK<|sK<|sK<|sK<|sK<|sK<|sK<|sK<|sK<|sK<|sK<|sK<|tU<|Nl ?_;simp only[pS];go_upto_region 4 with fail;refine Sg<|tF<|Nl ?_;simp only[pS];go_wp2;exact lf C HC HF (by simp only[*,ansR,bsq])
   refine bN (gI q69)<|tF<|tF<|tK (pg g1 0)<|lD (.int .i64 m.k) HF 0 0 U3 rfl<|bN (nI0 q66)<|tU<|tK (pg g1 0)<|lD (.int .i64 m.k) HF 0 0 U3 rfl<|?_;simp only[pS];have q70:(m.k==16)=false:=by rw [eq_of_beq q3];rfl
   refine bN (nI0 q70)<|tU<|tU<|tK (pg g1 16)<|lP (Cm.cs m.c) HF 0 16 U39 S39 (Mg.cs m) rfl<|?_;simp only[pS];cases q71:(eqC m.c cZ)
   ·refine cB (r_none m.c _) q71 HF fun w49 HF=>tU<|tU<|tU<|Nl ?_;simp only[pS];go_upto_region 4 with fail;refine Sg<|tF<|Nl ?_;simp only[pS];go_wp2;exact lf C HC HF (by simp only[*,ansR,bsq])
   refine cB (r_none m.c _) q71 HF fun w50 HF=>tF<|tF<|tF<|Nl ?_;simp only[pS];go_upto_region 5 with fail;refine Sg<|tK (pg g1 7)<|tK (pg g1 7)<|lD (.int .i64 m.ky.k) HF 0 7 U3 rfl<|?_;simp only[pS];cases q72:(m.ky.k==1);rotate_left
   ·refine bN (eI q72)<|tU<|Nl ?_;simp only[pS];go_upto_region 6 with fail;refine Sg<|tK (pg g1 7)<|tK (pg g1 7)<|lD (.int .i64 m.ky.k) HF 0 7 U3 rfl<|?_;simp only[pS];have q83:(m.ky.k==3)=false:=by rw [eq_of_beq q72];rfl
    refine bN (eI q83)<|tF<|Nl ?_;simp only[pS];go_upto_region 7 with fail;refine Sg<|tK (pg g1 0)<|lD (.int .i64 m.k) HF 0 0 U3 rfl<|Nl ?_;simp only[pS];go_upto_region 8 with fail;refine Sg<|bN (eI q68)<|tF<|Nl ?_;simp only[pS];go_upto_region 10 with fail;refine Sg<|?_;have q84:(m.k==12)=false:=by rw [eq_of_beq q3];rfl
    refine bN (eI q84)<|tF<|Nl ?_;simp only[pS];go_upto_region 12 with fail;refine Sg<|bN (eI q66)<|tF<|Nl ?_;simp only[pS];go_upto_region 16 with fail;refine Sg<|?_;have q85:(m.k==14)=false:=by rw [eq_of_beq q3];rfl
    refine bN (eI q85)<|tF<|Nl ?_;simp only[pS];go_upto_region 17 with fail;refine Sg<|?_;have q86:(m.k==15)=false:=by rw [eq_of_beq q3];rfl
    refine bN (eI q86)<|tF<|Nl ?_;simp only[pS];go_upto_region 19 with fail;refine Sg<|bN (eI q70)<|tF<|Nl ?_;simp only[pS];go_upto_region 21 with fail;refine Sg<|tF<|tF<|sK<|sK<|sK<|tF<|tF<|sK<|sK<|sK<|sK<|tF<|tF<|sK<|sK<|?_;simp only[pS];refine sK<|sK<|sK<|sK<|sK<|tF<|tF<|Nl ?_;simp only[pS];go_wp2;exact lf C HC HF (by simp only[*,ansR,bsq])
   refine bN (eI q72)<|tF<|Nl ?_;simp only[pS];go_upto_region 6 with fail;refine Sg<|tK (pg g1 7)<|tK (pg g1 7)<|lD (.int .i64 m.ky.k) HF 0 7 U3 rfl<|?_;simp only[pS];cases q73:(m.ky.k==3)
   ·refine bN (eI q73)<|tF<|Nl ?_;simp only[pS];go_upto_region 7 with fail;refine Sg<|tK (pg g1 0)<|lD (.int .i64 m.k) HF 0 0 U3 rfl<|Nl ?_;simp only[pS];go_upto_region 8 with fail;refine Sg<|bN (eI q68)<|tF<|Nl ?_;simp only[pS];go_upto_region 10 with fail;refine Sg<|?_;have q74:(m.k==12)=false:=by rw [eq_of_beq q3];rfl
    refine bN (eI q74)<|tF<|Nl ?_;simp only[pS];go_upto_region 12 with fail;refine Sg<|bN (eI q66)<|tF<|Nl ?_;simp only[pS];go_upto_region 16 with fail;refine Sg<|?_;have q75:(m.k==14)=false:=by rw [eq_of_beq q3];rfl
    refine bN (eI q75)<|tF<|Nl ?_;simp only[pS];go_upto_region 17 with fail;refine Sg<|?_;have q76:(m.k==15)=false:=by rw [eq_of_beq q3];rfl
    refine bN (eI q76)<|tF<|Nl ?_;simp only[pS];go_upto_region 19 with fail;refine Sg<|bN (eI q70)<|tF<|Nl ?_;simp only[pS];go_upto_region 21 with fail;refine Sg<|tF<|tF<|sK<|sK<|sK<|tF<|tF<|sK<|sK<|sK<|sK<|tF<|tF<|sK<|sK<|?_;simp only[pS];refine sK<|sK<|sK<|sK<|sK<|tF<|tF<|Nl ?_;simp only[pS];go_wp2;exact lf C HC HF (by simp only[*,ansR,bsq])
   refine bN (eI q73)<|tU<|Nl ?_;simp only[pS];go_upto_region 7 with fail;refine Sg<|tK (pg g1 0)<|lD (.int .i64 m.k) HF 0 0 U3 rfl<|Nl ?_;simp only[pS];go_upto_region 8 with fail;refine Sg<|bN (eI q68)<|tF<|Nl ?_;simp only[pS];go_upto_region 10 with fail;refine Sg<|?_;have q77:(m.k==12)=false:=by rw [eq_of_beq q3];rfl
   refine bN (eI q77)<|tF<|Nl ?_;simp only[pS];go_upto_region 12 with fail;refine Sg<|bN (eI q66)<|tF<|Nl ?_;simp only[pS];go_upto_region 16 with fail;refine Sg<|?_;have q78:(m.k==14)=false:=by rw [eq_of_beq q3];rfl
   refine bN (eI q78)<|tF<|Nl ?_;simp only[pS];go_upto_region 17 with fail;refine Sg<|?_;have q79:(m.k==15)=false:=by rw [eq_of_beq q3];rfl
   refine bN (eI q79)<|tF<|Nl ?_;simp only[pS];go_upto_region 19 with fail;refine Sg<|bN (eI q70)<|tF<|Nl ?_;simp only[pS];go_upto_region 21 with fail;refine Sg<|tU<|tU<|tK (pg g1 11)<|lP (Sp.cs m.st) HF 0 11 U34 S34 (Mg.cs m) rfl<|?_;simp only[pS];cases q80:(eqS m.st spZ)
   ·refine cB (r_None m.st _) q80 HF fun w51 HF=>tF<|tF<|sK<|sK<|sK<|sK<|tF<|tF<|sK<|sK<|sK<|sK<|sK<|sK<|sK<|tF<|tF<|Nl ?_;simp only[pS];go_wp2;exact lf C HC HF (by simp only[*,ansR,bsq])
   refine cB (r_None m.st _) q80 HF fun w52 HF=>tU<|tU<|tK (pg g1 25)<|lP (Bv.cs m.bk) HF 0 25 U43 S43 (Mg.cs m) rfl<|lP (Cg.cs c) HF 1 0 U24 S24 (Cg.cs c) rfl<|?_;simp only[pS];cases q81:(bktR c.bl c.rm m.bk es ls)
   ·refine cB (r_IsBucket m.bk es ls c _ HB (HRE.out.no HF.out.kept) (HRL.out.no HF.out.kept) hne hnl) q81 HF fun w53 HF=>tF<|tF<|sK<|sK<|sK<|sK<|sK<|sK<|sK<|tF<|tF<|Nl ?_;simp only[pS];go_wp2;exact lf C HC HF (by simp only[*,ansR,bsq])
   refine cB (r_IsBucket m.bk es ls c _ HB (HRE.out.no HF.out.kept) (HRL.out.no HF.out.kept) hne hnl) q81 HF fun w54 HF=>tU<|tU<|tK (pg g1 25)<|tK (pg g1 25)<|lD (.int .i64 m.bk.up) HF 0 25 U3 rfl<|tK (pg g1 7)<|tK (pg g1 9)<|lD (.int .i64 m.ky.b) HF 0 9 U3 rfl<|?_;simp only[pS];cases q82:(decide (m.ky.b≤m.bk.up))
   ·refine bN (geI q82)<|tF<|tF<|Nl ?_;simp only[pS];go_wp2;exact lf C HC HF (by simp only[*,ansR,bsq])
   refine bN (geI q82)<|tU<|tU<|Nl ?_;simp only[pS];go_wp2;exact lf C HC HF (by simp only[*,ansR,bsq])
  refine bN (nI0 q3)<|tU<|tK (pg g1 25)<|lP (Bv.cs m.bk) HF 0 25 U43 S43 (Mg.cs m) rfl<|?_;simp only[pS];cases q4:(empK m.bk)
  ·refine cB (r_empty m.bk _) q4 HF fun w5 HF=>tU<|tU<|tU<|tU<|sK<|sK<|sK<|sK<|sK<|sK<|sK<|sK<|sK<|tU<|Nl ?_;simp only[pS];go_upto_region 2 with fail;refine Sg<|tF<|Nl ?_;simp only[pS];go_wp2;exact lf C HC HF (by simp only[*,ansR,bsq])
  refine cB (r_empty m.bk _) q4 HF fun w6 HF=>tF<|tF<|tF<|tF<|tK (pg g1 0)<|lD (.int .i64 m.k) HF 0 0 U3 rfl<|?_;simp only[pS];cases q5:(m.k==13);rotate_left
  ·refine bN (nI1 q5)<|tF<|sK<|sK<|sK<|sK<|tF<|tF<|Nl ?_;simp only[pS];go_upto_region 3 with fail;refine Sg<|tK (pg g1 0)<|lD (.int .i64 m.k) HF 0 0 U3 rfl<|?_;simp only[pS];have q49:(m.k==11)=false:=by rw [eq_of_beq q5];rfl
   refine bN (nI0 q49)<|tU<|tK (pg g1 15)<|lD (m.bl.v) HF 0 15 U35 rfl<|tK (.int .i64 ((m.bl.l:Nat):Int))<|?_;simp only[pS];cases q50:(decide (0 < ((m.bl.l:Nat):Int)));rotate_left
   ·refine bN (gI q50)<|tU<|tU<|sK<|sK<|sK<|sK<|sK<|sK<|sK<|sK<|sK<|sK<|sK<|sK<|sK<|sK<|tU<|Nl ?_;simp only[pS];go_upto_region 4 with fail;refine Sg<|tF<|Nl ?_;simp only[pS];go_wp2;exact lf C HC HF (by simp only[*,ansR,bsq])
   refine bN (gI q50)<|tF<|tF<|tK (pg g1 0)<|lD (.int .i64 m.k) HF 0 0 U3 rfl<|bN (nI1 q5)<|tF<|sK<|sK<|sK<|tF<|tF<|sK<|sK<|sK<|sK<|tF<|tF<|Nl ?_;simp only[pS];go_upto_region 5 with fail;refine Sg<|tK (pg g1 7)<|tK (pg g1 7)<|lD (.int .i64 m.ky.k) HF 0 7 U3 rfl<|?_;simp only[pS];cases q51:(m.ky.k==1);rotate_left
   ·refine bN (eI q51)<|tU<|Nl ?_;simp only[pS];go_upto_region 6 with fail;refine Sg<|tK (pg g1 7)<|tK (pg g1 7)<|lD (.int .i64 m.ky.k) HF 0 7 U3 rfl<|?_;simp only[pS];have q63:(m.ky.k==3)=false:=by rw [eq_of_beq q51];rfl
    refine bN (eI q63)<|tF<|Nl ?_;simp only[pS];go_upto_region 7 with fail;refine Sg<|tK (pg g1 0)<|lD (.int .i64 m.k) HF 0 0 U3 rfl<|Nl ?_;simp only[pS];go_upto_region 8 with fail;refine Sg<|bN (eI q49)<|tF<|Nl ?_;simp only[pS];go_upto_region 10 with fail;refine Sg<|?_;have q64:(m.k==12)=false:=by rw [eq_of_beq q5];rfl
    refine bN (eI q64)<|tF<|Nl ?_;simp only[pS];go_upto_region 12 with fail;refine Sg<|bN (eI q5)<|tU<|Nl ?_;simp only[pS];go_upto_region 13 with fail;refine Sg<|tK (pg g1 13)<|lP (Sp.cs m.hd) HF 0 13 U34 S34 (Mg.cs m) rfl<|?_;simp only[pS];cases q65:(eqS m.hd spZ);rotate_left
    ·refine cB (r_None m.hd _) q65 HF fun w46 HF=>Nl ?_;simp only[pS];go_upto_region 14 with fail;refine Sg<|tF<|tF<|sK<|sK<|sK<|tF<|tF<|sK<|sK<|sK<|tF<|tF<|Nl ?_;simp only[pS];go_wp2;exact lf C HC HF (by simp only[*,ansR,bsq])
    refine cB (r_None m.hd _) q65 HF fun w45 HF=>Nl ?_;simp only[pS];go_upto_region 15 with fail;refine Sg<|tF<|tF<|sK<|sK<|sK<|tF<|tF<|sK<|sK<|sK<|tF<|tF<|sK<|sK<|sK<|?_;simp only[pS];refine sK<|sK<|sK<|tF<|tF<|sK<|sK<|sK<|sK<|tF<|tF<|Nl ?_;simp only[pS];go_wp2;exact lf C HC HF (by simp only[*,ansR,bsq])
   refine bN (eI q51)<|tF<|Nl ?_;simp only[pS];go_upto_region 6 with fail;refine Sg<|tK (pg g1 7)<|tK (pg g1 7)<|lD (.int .i64 m.ky.k) HF 0 7 U3 rfl<|?_;simp only[pS];cases q52:(m.ky.k==3)
   ·refine bN (eI q52)<|tF<|Nl ?_;simp only[pS];go_upto_region 7 with fail;refine Sg<|tK (pg g1 0)<|lD (.int .i64 m.k) HF 0 0 U3 rfl<|Nl ?_;simp only[pS];go_upto_region 8 with fail;refine Sg<|bN (eI q49)<|tF<|Nl ?_;simp only[pS];go_upto_region 10 with fail;refine Sg<|?_;have q53:(m.k==12)=false:=by rw [eq_of_beq q5];rfl
    refine bN (eI q53)<|tF<|Nl ?_;simp only[pS];go_upto_region 12 with fail;refine Sg<|bN (eI q5)<|tU<|Nl ?_;simp only[pS];go_upto_region 13 with fail;refine Sg<|tK (pg g1 13)<|lP (Sp.cs m.hd) HF 0 13 U34 S34 (Mg.cs m) rfl<|?_;simp only[pS];cases q54:(eqS m.hd spZ);rotate_left
    ·refine cB (r_None m.hd _) q54 HF fun w30 HF=>Nl ?_;simp only[pS];go_upto_region 14 with fail;refine Sg<|tF<|tF<|sK<|sK<|sK<|tF<|tF<|sK<|sK<|sK<|tF<|tF<|Nl ?_;simp only[pS];go_wp2;exact lf C HC HF (by simp only[*,ansR,bsq])
    refine cB (r_None m.hd _) q54 HF fun w29 HF=>Nl ?_;simp only[pS];go_upto_region 15 with fail;refine Sg<|tF<|tF<|sK<|sK<|sK<|tF<|tF<|sK<|sK<|sK<|tF<|tF<|sK<|sK<|sK<|?_;simp only[pS];refine sK<|sK<|sK<|tF<|tF<|sK<|sK<|sK<|sK<|tF<|tF<|Nl ?_;simp only[pS];go_wp2;exact lf C HC HF (by simp only[*,ansR,bsq])
   refine bN (eI q52)<|tU<|Nl ?_;simp only[pS];go_upto_region 7 with fail;refine Sg<|tK (pg g1 0)<|lD (.int .i64 m.k) HF 0 0 U3 rfl<|Nl ?_;simp only[pS];go_upto_region 8 with fail;refine Sg<|bN (eI q49)<|tF<|Nl ?_;simp only[pS];go_upto_region 10 with fail;refine Sg<|?_;have q55:(m.k==12)=false:=by rw [eq_of_beq q5];rfl
   refine bN (eI q55)<|tF<|Nl ?_;simp only[pS];go_upto_region 12 with fail;refine Sg<|bN (eI q5)<|tU<|Nl ?_;simp only[pS];go_upto_region 13 with fail;refine Sg<|tK (pg g1 13)<|lP (Sp.cs m.hd) HF 0 13 U34 S34 (Mg.cs m) rfl<|?_;simp only[pS];cases q56:(eqS m.hd spZ);rotate_left
   ·refine cB (r_None m.hd _) q56 HF fun w40 HF=>Nl ?_;simp only[pS];go_upto_region 14 with fail;refine Sg<|tU<|tU<|tK (pg g1 11)<|lP (Sp.cs m.st) HF 0 11 U34 S34 (Mg.cs m) rfl<|?_;simp only[pS];cases q61:(oneS m.st)
    ·refine cB (r_One m.st _) q61 HF fun w41 HF=>tF<|tF<|sK<|sK<|sK<|tF<|tF<|Nl ?_;simp only[pS];go_wp2;exact lf C HC HF (by simp only[*,ansR,bsq])
    refine cB (r_One m.st _) q61 HF fun w42 HF=>tU<|tU<|tK (pg g1 16)<|lP (Cm.cs m.c) HF 0 16 U39 S39 (Mg.cs m) rfl<|?_;simp only[pS];cases q62:(eqC m.c cZ)
    ·refine cB (r_none m.c _) q62 HF fun w43 HF=>tF<|tF<|Nl ?_;simp only[pS];go_wp2;exact lf C HC HF (by simp only[*,ansR,bsq])
    refine cB (r_none m.c _) q62 HF fun w44 HF=>tU<|tU<|Nl ?_;simp only[pS];go_wp2;exact lf C HC HF (by simp only[*,ansR,bsq])
   refine cB (r_None m.hd _) q56 HF fun w31 HF=>Nl ?_;simp only[pS];go_upto_region 15 with fail;refine Sg<|tU<|tU<|tK (pg g1 11)<|lP (Sp.cs m.st) HF 0 11 U34 S34 (Mg.cs m) rfl<|?_;simp only[pS];cases q57:(oneS m.st)
   ·refine cB (r_One m.st _) q57 HF fun w32 HF=>tF<|tF<|sK<|sK<|sK<|tF<|tF<|sK<|sK<|sK<|sK<|sK<|sK<|tF<|tF<|sK<|sK<|sK<|sK<|tF<|tF<|Nl ?_;simp only[pS];go_wp2;exact lf C HC HF (by simp only[*,ansR,bsq])
   refine cB (r_One m.st _) q57 HF fun w33 HF=>tU<|tU<|tK (pg g1 13)<|lP (Sp.cs m.hd) HF 0 13 U34 S34 (Mg.cs m) rfl<|?_;simp only[pS];cases q58:(oneS m.hd)
   ·refine cB (r_One m.hd _) q58 HF fun w34 HF=>tF<|tF<|sK<|sK<|sK<|sK<|sK<|sK<|tF<|tF<|sK<|sK<|sK<|sK<|tF<|tF<|Nl ?_;simp only[pS];go_wp2;exact lf C HC HF (by simp only[*,ansR,bsq])
   refine cB (r_One m.hd _) q58 HF fun w35 HF=>tU<|tU<|tK (pg g1 13)<|lP (Sp.cs m.hd) HF 0 13 U34 S34 (Mg.cs m) rfl<|tK (pg g1 11)<|lP (Sp.cs m.st) HF 0 11 U34 S34 (Mg.cs m) rfl<|?_;simp only[pS];cases q59:(abvS m.hd m.st);rotate_left
   ·refine cB (r_Above m.hd m.st _) q59 HF fun w39 HF=>tF<|tF<|tF<|sK<|sK<|sK<|sK<|tF<|tF<|Nl ?_;simp only[pS];go_wp2;exact lf C HC HF (by simp only[*,ansR,bsq])
   refine cB (r_Above m.hd m.st _) q59 HF fun w36 HF=>tU<|tU<|tU<|tK (pg g1 16)<|lP (Cm.cs m.c) HF 0 16 U39 S39 (Mg.cs m) rfl<|lP (Cg.cs c) HF 1 0 U24 S24 (Cg.cs c) rfl<|?_;simp only[pS];cases q60:(cmdR c.bl m.c)
   ·refine cB (r_IsCommand m.c c _ HB) q60 HF fun w37 HF=>tF<|tF<|Nl ?_;simp only[pS];go_wp2;exact lf C HC HF (by simp only[*,ansR,bsq])
   refine cB (r_IsCommand m.c c _ HB) q60 HF fun w38 HF=>tU<|tU<|Nl ?_;simp only[pS];go_wp2;exact lf C HC HF (by simp only[*,ansR,bsq])
  refine bN (nI0 q5)<|tU<|tK (pg g1 13)<|lP (Sp.cs m.hd) HF 0 13 U34 S34 (Mg.cs m) rfl<|?_;simp only[pS];cases q6:(eqS m.hd spZ)
  ·refine cB (r_None m.hd _) q6 HF fun w7 HF=>tU<|tU<|tU<|Nl ?_;simp only[pS];go_upto_region 2 with fail;refine Sg<|tF<|Nl ?_;simp only[pS];go_wp2;exact lf C HC HF (by simp only[*,ansR,bsq])
  refine cB (r_None m.hd _) q6 HF fun w8 HF=>tF<|tF<|tF<|Nl ?_;simp only[pS];go_upto_region 3 with fail;refine Sg<|tK (pg g1 0)<|lD (.int .i64 m.k) HF 0 0 U3 rfl<|?_;simp only[pS];cases q7:(m.k==11);rotate_left
  ·refine bN (nI1 q7)<|tF<|sK<|sK<|sK<|sK<|tF<|tF<|tK (pg g1 0)<|lD (.int .i64 m.k) HF 0 0 U3 rfl<|bN (nI0 q5)<|tU<|tK (pg g1 0)<|lD (.int .i64 m.k) HF 0 0 U3 rfl<|?_;simp only[pS];have q43:(m.k==16)=false:=by rw [eq_of_beq q7];rfl
   refine bN (nI0 q43)<|tU<|tU<|tK (pg g1 16)<|lP (Cm.cs m.c) HF 0 16 U39 S39 (Mg.cs m) rfl<|?_;simp only[pS];cases q44:(eqC m.c cZ)
   ·refine cB (r_none m.c _) q44 HF fun w25 HF=>tU<|tU<|tU<|Nl ?_;simp only[pS];go_upto_region 4 with fail;refine Sg<|tF<|Nl ?_;simp only[pS];go_wp2;exact lf C HC HF (by simp only[*,ansR,bsq])
   refine cB (r_none m.c _) q44 HF fun w26 HF=>tF<|tF<|tF<|Nl ?_;simp only[pS];go_upto_region 5 with fail;refine Sg<|tK (pg g1 7)<|tK (pg g1 7)<|lD (.int .i64 m.ky.k) HF 0 7 U3 rfl<|?_;simp only[pS];cases q45:(m.ky.k==1);rotate_left
   ·refine bN (eI q45)<|tU<|Nl ?_;simp only[pS];go_upto_region 6 with fail;refine Sg<|tK (pg g1 7)<|tK (pg g1 7)<|lD (.int .i64 m.ky.k) HF 0 7 U3 rfl<|?_;simp only[pS];have q47:(m.ky.k==3)=false:=by rw [eq_of_beq q45];rfl
    refine bN (eI q47)<|tF<|Nl ?_;simp only[pS];go_upto_region 7 with fail;refine Sg<|tK (pg g1 0)<|lD (.int .i64 m.k) HF 0 0 U3 rfl<|Nl ?_;simp only[pS];go_upto_region 8 with fail;refine Sg<|bN (eI q7)<|tU<|Nl ?_;simp only[pS];go_upto_region 9 with fail;refine Sg<|tU<|tU<|tK (pg g1 11)<|lP (Sp.cs m.st) HF 0 11 U34 S34 (Mg.cs m) rfl<|tK (pg g1 15)<|lD (m.bl.v) HF 0 15 U35 rfl<|bD (Bl.cells ⟨m.st,m.bl⟩)<|lP (Cg.cs c) HF 1 0 U24 S24 (Cg.cs c) rfl<|?_;simp only[pS];cases q48:(blkB c.bl ⟨m.st,m.bl⟩ bs)
    ·refine cB (r_IsBlock ⟨m.st,m.bl⟩ c bs _ (HRB.out.no HF.out.kept) hnb) q48 HF fun w27 HF=>tF<|tF<|Nl ?_;simp only[pS];go_wp2;exact lf C HC HF (by simp only[*,ansR,bsq])
    refine cB (r_IsBlock ⟨m.st,m.bl⟩ c bs _ (HRB.out.no HF.out.kept) hnb) q48 HF fun w28 HF=>tU<|tU<|Nl ?_;simp only[pS];go_wp2;exact lf C HC HF (by simp only[*,ansR,bsq])
   refine bN (eI q45)<|tF<|Nl ?_;simp only[pS];go_upto_region 6 with fail;refine Sg<|tK (pg g1 7)<|tK (pg g1 7)<|lD (.int .i64 m.ky.k) HF 0 7 U3 rfl<|?_;simp only[pS];cases q46:(m.ky.k==3)
   ·refine bN (eI q46)<|tF<|Nl ?_;simp only[pS];go_upto_region 7 with fail;refine Sg<|tK (pg g1 0)<|lD (.int .i64 m.k) HF 0 0 U3 rfl<|Nl ?_;simp only[pS];go_upto_region 8 with fail;refine Sg<|bN (eI q7)<|tU<|Nl ?_;simp only[pS];go_upto_region 9 with fail;refine Sg<|tF<|tF<|sK<|sK<|sK<|sK<|sK<|sK<|sK<|tF<|tF<|Nl ?_;simp only[pS];go_wp2;exact lf C HC HF (by simp only[*,ansR,bsq])
   refine bN (eI q46)<|tU<|Nl ?_;simp only[pS];go_upto_region 7 with fail;refine Sg<|tK (pg g1 0)<|lD (.int .i64 m.k) HF 0 0 U3 rfl<|Nl ?_;simp only[pS];go_upto_region 8 with fail;refine Sg<|bN (eI q7)<|tU<|Nl ?_;simp only[pS];go_upto_region 9 with fail;refine Sg<|tF<|tF<|sK<|sK<|sK<|sK<|sK<|sK<|sK<|tF<|tF<|Nl ?_;simp only[pS];go_wp2;exact lf C HC HF (by simp only[*,ansR,bsq])
  refine bN (nI0 q7)<|tU<|tK (pg g1 15)<|lD (m.bl.v) HF 0 15 U35 rfl<|tK (.int .i64 ((m.bl.l:Nat):Int))<|?_;simp only[pS];cases q8:(decide (0 < ((m.bl.l:Nat):Int)));rotate_left
  ·refine bN (gI q8)<|tU<|tU<|sK<|sK<|sK<|sK<|sK<|sK<|sK<|sK<|sK<|sK<|sK<|sK<|sK<|sK<|tU<|Nl ?_;simp only[pS];go_upto_region 4 with fail;refine Sg<|tF<|Nl ?_;simp only[pS];go_wp2;exact lf C HC HF (by simp only[*,ansR,bsq])
  refine bN (gI q8)<|tF<|tF<|tK (pg g1 0)<|lD (.int .i64 m.k) HF 0 0 U3 rfl<|bN (nI0 q5)<|tU<|tK (pg g1 0)<|lD (.int .i64 m.k) HF 0 0 U3 rfl<|?_;simp only[pS];cases q9:(m.k==16);rotate_left
  ·refine bN (nI1 q9)<|tF<|tF<|sK<|sK<|sK<|sK<|tF<|tF<|Nl ?_;simp only[pS];go_upto_region 5 with fail;refine Sg<|tK (pg g1 7)<|tK (pg g1 7)<|lD (.int .i64 m.ky.k) HF 0 7 U3 rfl<|?_;simp only[pS];cases q29:(m.ky.k==1);rotate_left
   ·refine bN (eI q29)<|tU<|Nl ?_;simp only[pS];go_upto_region 6 with fail;refine Sg<|tK (pg g1 7)<|tK (pg g1 7)<|lD (.int .i64 m.ky.k) HF 0 7 U3 rfl<|?_;simp only[pS];have q39:(m.ky.k==3)=false:=by rw [eq_of_beq q29];rfl
    refine bN (eI q39)<|tF<|Nl ?_;simp only[pS];go_upto_region 7 with fail;refine Sg<|tK (pg g1 0)<|lD (.int .i64 m.k) HF 0 0 U3 rfl<|Nl ?_;simp only[pS];go_upto_region 8 with fail;refine Sg<|bN (eI q7)<|tF<|Nl ?_;simp only[pS];go_upto_region 10 with fail;refine Sg<|?_;have q40:(m.k==12)=false:=by rw [eq_of_beq q9];rfl
    refine bN (eI q40)<|tF<|Nl ?_;simp only[pS];go_upto_region 12 with fail;refine Sg<|bN (eI q5)<|tF<|Nl ?_;simp only[pS];go_upto_region 16 with fail;refine Sg<|?_;have q41:(m.k==14)=false:=by rw [eq_of_beq q9];rfl
    refine bN (eI q41)<|tF<|Nl ?_;simp only[pS];go_upto_region 17 with fail;refine Sg<|?_;have q42:(m.k==15)=false:=by rw [eq_of_beq q9];rfl
    refine bN (eI q42)<|tF<|Nl ?_;simp only[pS];go_upto_region 19 with fail;refine Sg<|bN (eI q9)<|tU<|Nl ?_;simp only[pS];go_upto_region 20 with fail;refine Sg<|tF<|tF<|sK<|sK<|sK<|tF<|tF<|sK<|sK<|sK<|sK<|tF<|tF<|Nl ?_;simp only[pS];go_wp2;exact lf C HC HF (by simp only[*,ansR,bsq])
   refine bN (eI q29)<|tF<|Nl ?_;simp only[pS];go_upto_region 6 with fail;refine Sg<|tK (pg g1 7)<|tK (pg g1 7)<|lD (.int .i64 m.ky.k) HF 0 7 U3 rfl<|?_;simp only[pS];cases q30:(m.ky.k==3)
   ·refine bN (eI q30)<|tF<|Nl ?_;simp only[pS];go_upto_region 7 with fail;refine Sg<|tK (pg g1 0)<|lD (.int .i64 m.k) HF 0 0 U3 rfl<|Nl ?_;simp only[pS];go_upto_region 8 with fail;refine Sg<|bN (eI q7)<|tF<|Nl ?_;simp only[pS];go_upto_region 10 with fail;refine Sg<|?_;have q31:(m.k==12)=false:=by rw [eq_of_beq q9];rfl
    refine bN (eI q31)<|tF<|Nl ?_;simp only[pS];go_upto_region 12 with fail;refine Sg<|bN (eI q5)<|tF<|Nl ?_;simp only[pS];go_upto_region 16 with fail;refine Sg<|?_;have q32:(m.k==14)=false:=by rw [eq_of_beq q9];rfl
    refine bN (eI q32)<|tF<|Nl ?_;simp only[pS];go_upto_region 17 with fail;refine Sg<|?_;have q33:(m.k==15)=false:=by rw [eq_of_beq q9];rfl
    refine bN (eI q33)<|tF<|Nl ?_;simp only[pS];go_upto_region 19 with fail;refine Sg<|bN (eI q9)<|tU<|Nl ?_;simp only[pS];go_upto_region 20 with fail;refine Sg<|tF<|tF<|sK<|sK<|sK<|tF<|tF<|sK<|sK<|sK<|sK<|tF<|tF<|Nl ?_;simp only[pS];go_wp2;exact lf C HC HF (by simp only[*,ansR,bsq])
   refine bN (eI q30)<|tU<|Nl ?_;simp only[pS];go_upto_region 7 with fail;refine Sg<|tK (pg g1 0)<|lD (.int .i64 m.k) HF 0 0 U3 rfl<|Nl ?_;simp only[pS];go_upto_region 8 with fail;refine Sg<|bN (eI q7)<|tF<|Nl ?_;simp only[pS];go_upto_region 10 with fail;refine Sg<|?_;have q34:(m.k==12)=false:=by rw [eq_of_beq q9];rfl
   refine bN (eI q34)<|tF<|Nl ?_;simp only[pS];go_upto_region 12 with fail;refine Sg<|bN (eI q5)<|tF<|Nl ?_;simp only[pS];go_upto_region 16 with fail;refine Sg<|?_;have q35:(m.k==14)=false:=by rw [eq_of_beq q9];rfl
   refine bN (eI q35)<|tF<|Nl ?_;simp only[pS];go_upto_region 17 with fail;refine Sg<|?_;have q36:(m.k==15)=false:=by rw [eq_of_beq q9];rfl
   refine bN (eI q36)<|tF<|Nl ?_;simp only[pS];go_upto_region 19 with fail;refine Sg<|bN (eI q9)<|tU<|Nl ?_;simp only[pS];go_upto_region 20 with fail;refine Sg<|tU<|tU<|tK (pg g1 11)<|lP (Sp.cs m.st) HF 0 11 U34 S34 (Mg.cs m) rfl<|?_;simp only[pS];cases q37:(eqS m.st spZ)
   ·refine cB (r_None m.st _) q37 HF fun w21 HF=>tF<|tF<|sK<|sK<|sK<|sK<|tF<|tF<|Nl ?_;simp only[pS];go_wp2;exact lf C HC HF (by simp only[*,ansR,bsq])
   refine cB (r_None m.st _) q37 HF fun w22 HF=>tU<|tU<|tK (pg g1 16)<|lP (Cm.cs m.c) HF 0 16 U39 S39 (Mg.cs m) rfl<|lP (Cg.cs c) HF 1 0 U24 S24 (Cg.cs c) rfl<|?_;simp only[pS];cases q38:(cmdR c.bl m.c)
   ·refine cB (r_IsCommand m.c c _ HB) q38 HF fun w23 HF=>tF<|tF<|Nl ?_;simp only[pS];go_wp2;exact lf C HC HF (by simp only[*,ansR,bsq])
   refine cB (r_IsCommand m.c c _ HB) q38 HF fun w24 HF=>tU<|tU<|Nl ?_;simp only[pS];go_wp2;exact lf C HC HF (by simp only[*,ansR,bsq])
  refine bN (nI0 q9)<|tU<|tU<|tK (pg g1 16)<|lP (Cm.cs m.c) HF 0 16 U39 S39 (Mg.cs m) rfl<|?_;simp only[pS];cases q10:(eqC m.c cZ)
  ·refine cB (r_none m.c _) q10 HF fun w9 HF=>tU<|tU<|tU<|Nl ?_;simp only[pS];go_upto_region 4 with fail;refine Sg<|tF<|Nl ?_;simp only[pS];go_wp2;exact lf C HC HF (by simp only[*,ansR,bsq])
  refine cB (r_none m.c _) q10 HF fun w10 HF=>tF<|tF<|tF<|Nl ?_;simp only[pS];go_upto_region 5 with fail;refine Sg<|tK (pg g1 7)<|tK (pg g1 7)<|lD (.int .i64 m.ky.k) HF 0 7 U3 rfl<|?_;simp only[pS];cases q11:(m.ky.k==1);rotate_left
  ·refine bN (eI q11)<|tU<|Nl ?_;simp only[pS];go_upto_region 6 with fail;refine Sg<|tK (pg g1 7)<|tK (pg g1 7)<|lD (.int .i64 m.ky.k) HF 0 7 U3 rfl<|?_;simp only[pS];have q24:(m.ky.k==3)=false:=by rw [eq_of_beq q11];rfl
   refine bN (eI q24)<|tF<|Nl ?_;simp only[pS];go_upto_region 7 with fail;refine Sg<|tK (pg g1 0)<|lD (.int .i64 m.k) HF 0 0 U3 rfl<|Nl ?_;simp only[pS];go_upto_region 8 with fail;refine Sg<|bN (eI q7)<|tF<|Nl ?_;simp only[pS];go_upto_region 10 with fail;refine Sg<|?_;cases q25:(m.k==12);rotate_left
   ·refine bN (eI q25)<|tU<|Nl ?_;simp only[pS];go_upto_region 11 with fail;refine Sg<|tU<|tU<|tK (pg g1 11)<|lP (Sp.cs m.st) HF 0 11 U34 S34 (Mg.cs m) rfl<|?_;simp only[pS];cases q28:(eqS m.st spZ)
    ·refine cB (r_None m.st _) q28 HF fun w19 HF=>tF<|tF<|Nl ?_;simp only[pS];go_wp2;exact lf C HC HF (by simp only[*,ansR,bsq])
    refine cB (r_None m.st _) q28 HF fun w20 HF=>tU<|tU<|Nl ?_;simp only[pS];go_wp2;exact lf C HC HF (by simp only[*,ansR,bsq])
   refine bN (eI q25)<|tF<|Nl ?_;simp only[pS];go_upto_region 12 with fail;refine Sg<|bN (eI q5)<|tF<|Nl ?_;simp only[pS];go_upto_region 16 with fail;refine Sg<|?_;cases q26:(m.k==14);rotate_left
   ·refine bN (eI q26)<|tU<|Nl ?_;simp only[pS];go_upto_region 18 with fail;refine Sg<|tF<|tF<|sK<|sK<|sK<|tF<|tF<|Nl ?_;simp only[pS];go_wp2;exact lf C HC HF (by simp only[*,ansR,bsq])
   refine bN (eI q26)<|tF<|Nl ?_;simp only[pS];go_upto_region 17 with fail;refine Sg<|?_;cases q27:(m.k==15);rotate_left
   ·refine bN (eI q27)<|tU<|Nl ?_;simp only[pS];go_upto_region 18 with fail;refine Sg<|tF<|tF<|sK<|sK<|sK<|tF<|tF<|Nl ?_;simp only[pS];go_wp2;exact lf C HC HF (by simp only[*,ansR,bsq])
   refine bN (eI q27)<|tF<|Nl ?_;simp only[pS];go_upto_region 19 with fail;refine Sg<|bN (eI q9)<|tF<|Nl ?_;simp only[pS];go_upto_region 21 with fail;refine Sg<|tF<|tF<|sK<|sK<|sK<|tF<|tF<|sK<|sK<|sK<|sK<|tF<|tF<|sK<|sK<|?_;simp only[pS];refine sK<|sK<|sK<|sK<|sK<|tF<|tF<|Nl ?_;simp only[pS];go_wp2;exact lf C HC HF (by simp only[*,ansR,bsq])
  refine bN (eI q11)<|tF<|Nl ?_;simp only[pS];go_upto_region 6 with fail;refine Sg<|tK (pg g1 7)<|tK (pg g1 7)<|lD (.int .i64 m.ky.k) HF 0 7 U3 rfl<|?_;simp only[pS];cases q12:(m.ky.k==3)
  ·refine bN (eI q12)<|tF<|Nl ?_;simp only[pS];go_upto_region 7 with fail;refine Sg<|tK (pg g1 0)<|lD (.int .i64 m.k) HF 0 0 U3 rfl<|Nl ?_;simp only[pS];go_upto_region 8 with fail;refine Sg<|bN (eI q7)<|tF<|Nl ?_;simp only[pS];go_upto_region 10 with fail;refine Sg<|?_;cases q13:(m.k==12);rotate_left
   ·refine bN (eI q13)<|tU<|Nl ?_;simp only[pS];go_upto_region 11 with fail;refine Sg<|tF<|tF<|sK<|sK<|sK<|tF<|tF<|Nl ?_;simp only[pS];go_wp2;exact lf C HC HF (by simp only[*,ansR,bsq])
   refine bN (eI q13)<|tF<|Nl ?_;simp only[pS];go_upto_region 12 with fail;refine Sg<|bN (eI q5)<|tF<|Nl ?_;simp only[pS];go_upto_region 16 with fail;refine Sg<|?_;cases q14:(m.k==14);rotate_left
   ·refine bN (eI q14)<|tU<|Nl ?_;simp only[pS];go_upto_region 18 with fail;refine Sg<|tF<|tF<|sK<|sK<|sK<|tF<|tF<|Nl ?_;simp only[pS];go_wp2;exact lf C HC HF (by simp only[*,ansR,bsq])
   refine bN (eI q14)<|tF<|Nl ?_;simp only[pS];go_upto_region 17 with fail;refine Sg<|?_;cases q15:(m.k==15);rotate_left
   ·refine bN (eI q15)<|tU<|Nl ?_;simp only[pS];go_upto_region 18 with fail;refine Sg<|tF<|tF<|sK<|sK<|sK<|tF<|tF<|Nl ?_;simp only[pS];go_wp2;exact lf C HC HF (by simp only[*,ansR,bsq])
   refine bN (eI q15)<|tF<|Nl ?_;simp only[pS];go_upto_region 19 with fail;refine Sg<|bN (eI q9)<|tF<|Nl ?_;simp only[pS];go_upto_region 21 with fail;refine Sg<|tF<|tF<|sK<|sK<|sK<|tF<|tF<|sK<|sK<|sK<|sK<|tF<|tF<|sK<|sK<|?_;simp only[pS];refine sK<|sK<|sK<|sK<|sK<|tF<|tF<|Nl ?_;simp only[pS];go_wp2;exact lf C HC HF (by simp only[*,ansR,bsq])
  refine bN (eI q12)<|tU<|Nl ?_;simp only[pS];go_upto_region 7 with fail;refine Sg<|tK (pg g1 0)<|lD (.int .i64 m.k) HF 0 0 U3 rfl<|Nl ?_;simp only[pS];go_upto_region 8 with fail;refine Sg<|bN (eI q7)<|tF<|Nl ?_;simp only[pS];go_upto_region 10 with fail;refine Sg<|?_;cases q16:(m.k==12);rotate_left
  ·refine bN (eI q16)<|tU<|Nl ?_;simp only[pS];go_upto_region 11 with fail;refine Sg<|tF<|tF<|sK<|sK<|sK<|tF<|tF<|Nl ?_;simp only[pS];go_wp2;exact lf C HC HF (by simp only[*,ansR,bsq])
  refine bN (eI q16)<|tF<|Nl ?_;simp only[pS];go_upto_region 12 with fail;refine Sg<|bN (eI q5)<|tF<|Nl ?_;simp only[pS];go_upto_region 16 with fail;refine Sg<|?_;cases q17:(m.k==14);rotate_left
  ·refine bN (eI q17)<|tU<|Nl ?_;simp only[pS];go_upto_region 18 with fail;refine Sg<|tU<|tU<|tK (pg g1 11)<|lP (Sp.cs m.st) HF 0 11 U34 S34 (Mg.cs m) rfl<|?_;simp only[pS];cases q23:(oneS m.st)
   ·refine cB (r_One m.st _) q23 HF fun w17 HF=>tF<|tF<|Nl ?_;simp only[pS];go_wp2;exact lf C HC HF (by simp only[*,ansR,bsq])
   refine cB (r_One m.st _) q23 HF fun w18 HF=>tU<|tU<|Nl ?_;simp only[pS];go_wp2;exact lf C HC HF (by simp only[*,ansR,bsq])
  refine bN (eI q17)<|tF<|Nl ?_;simp only[pS];go_upto_region 17 with fail;refine Sg<|?_;cases q18:(m.k==15);rotate_left
  ·refine bN (eI q18)<|tU<|Nl ?_;simp only[pS];go_upto_region 18 with fail;refine Sg<|tU<|tU<|tK (pg g1 11)<|lP (Sp.cs m.st) HF 0 11 U34 S34 (Mg.cs m) rfl<|?_;simp only[pS];cases q22:(oneS m.st)
   ·refine cB (r_One m.st _) q22 HF fun w15 HF=>tF<|tF<|Nl ?_;simp only[pS];go_wp2;exact lf C HC HF (by simp only[*,ansR,bsq])
   refine cB (r_One m.st _) q22 HF fun w16 HF=>tU<|tU<|Nl ?_;simp only[pS];go_wp2;exact lf C HC HF (by simp only[*,ansR,bsq])
  refine bN (eI q18)<|tF<|Nl ?_;simp only[pS];go_upto_region 19 with fail;refine Sg<|bN (eI q9)<|tF<|Nl ?_;simp only[pS];go_upto_region 21 with fail;refine Sg<|tU<|tU<|tK (pg g1 11)<|lP (Sp.cs m.st) HF 0 11 U34 S34 (Mg.cs m) rfl<|?_;simp only[pS];cases q19:(eqS m.st spZ)
  ·refine cB (r_None m.st _) q19 HF fun w11 HF=>tF<|tF<|sK<|sK<|sK<|sK<|tF<|tF<|sK<|sK<|sK<|sK<|sK<|sK<|sK<|tF<|tF<|Nl ?_;simp only[pS];go_wp2;exact lf C HC HF (by simp only[*,ansR,bsq])
  refine cB (r_None m.st _) q19 HF fun w12 HF=>tU<|tU<|tK (pg g1 25)<|lP (Bv.cs m.bk) HF 0 25 U43 S43 (Mg.cs m) rfl<|lP (Cg.cs c) HF 1 0 U24 S24 (Cg.cs c) rfl<|?_;simp only[pS];cases q20:(bktR c.bl c.rm m.bk es ls)
  ·refine cB (r_IsBucket m.bk es ls c _ HB (HRE.out.no HF.out.kept) (HRL.out.no HF.out.kept) hne hnl) q20 HF fun w13 HF=>tF<|tF<|sK<|sK<|sK<|sK<|sK<|sK<|sK<|tF<|tF<|Nl ?_;simp only[pS];go_wp2;exact lf C HC HF (by simp only[*,ansR,bsq])
  refine cB (r_IsBucket m.bk es ls c _ HB (HRE.out.no HF.out.kept) (HRL.out.no HF.out.kept) hne hnl) q20 HF fun w14 HF=>tU<|tU<|tK (pg g1 25)<|tK (pg g1 25)<|lD (.int .i64 m.bk.up) HF 0 25 U3 rfl<|tK (pg g1 7)<|tK (pg g1 9)<|lD (.int .i64 m.ky.b) HF 0 9 U3 rfl<|?_;simp only[pS];cases q21:(decide (m.ky.b≤m.bk.up))
  ·refine bN (geI q21)<|tF<|tF<|Nl ?_;simp only[pS];go_wp2;exact lf C HC HF (by simp only[*,ansR,bsq])
  refine bN (geI q21)<|tU<|tU<|Nl ?_;simp only[pS];go_wp2;exact lf C HC HF (by simp only[*,ansR,bsq])
end Go.Proofs.YtgdnofacgfjaeaaGreat.Md
