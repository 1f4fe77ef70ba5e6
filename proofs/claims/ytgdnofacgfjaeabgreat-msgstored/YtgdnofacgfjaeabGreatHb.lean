import Derived.Test.YtgdnofacgfjaeabGreatFb
namespace Go.Proofs.YtgdnofacgfjaeabGreat.Md
set_option maxRecDepth 100000
set_option maxHeartbeats 4000000
open Go.RowKit
set_option linter.unusedVariables false
set_option linter.unusedSimpArgs false
theorem p_rightName (x:ByteArray) (w:World):Calls Tryz.prog 119 #[.string x] w (fun e w'=>e=.returned (.bool (nameP x))∧Kept No w w'):=by
  refine hidC fun C HC=>?_;have HF:Hid (Fq No w w []):=Fq.start _ _;go_enter Tryz.func119,Tryz.ntmps119;go_upto_region 0 with fail;refine Sg<|tF<|Nl ?_;simp only[pS];go_upto_region 1 with fail;refine Sg<|tK (.string x)<|tK (.int .i64 ((x.size:Nat):Int))<|?_;simp only[pS];cases q1:(wn ((x.size:Nat):Int) 1 255)
  ·refine cB (p_within ((x.size:Nat):Int) 1 255 _) q1 HF fun w1 HF=>tF<|sK<|sK<|sK<|tF<|tF<|sK<|sK<|sK<|tF<|tF<|Nl ?_;simp only[pS];go_wp2;exact lf C HC HF (by simp only[*,nameP,bsq])
  refine cB (p_within ((x.size:Nat):Int) 1 255 _) q1 HF fun w2 HF=>tU<|tK (.string x)<|cV (p_indexB x 0 _) HF fun w3 HF=>?_;simp only[pS];cases q2:(decide ((idxB x 0) < 0))
  ·refine bN (lI q2)<|tF<|tF<|sK<|sK<|sK<|tF<|tF<|Nl ?_;simp only[pS];go_wp2;exact lf C HC HF (by simp only[*,nameP,bsq])
  refine bN (lI q2)<|tU<|tU<|tK (.string x)<|cV (p_indexB x 47 _) HF fun w4 HF=>?_;simp only[pS];cases q3:(decide ((idxB x 47) < 0))
  ·refine bN (lI q3)<|tF<|tF<|Nl ?_;simp only[pS];go_wp2;exact lf C HC HF (by simp only[*,nameP,bsq])
  refine bN (lI q3)<|tU<|tU<|Nl ?_;simp only[pS];go_wp2;exact lf C HC HF (by simp only[*,nameP,bsq])
theorem p_rightChange (x:Cm) (c:Cg) (w:World) (hb:0≤c.bl∧c.bl≤4096):Calls Tryz.prog 120 #[.agg (Cm.cells x),.agg (Cg.cells c)] w (fun e w'=>e=.returned (.bool (chgP c.bl x))∧Kept No w w'):=by
  refine hidC fun C HC=>?_;have HB:Hid (0≤c.bl∧c.bl≤4096):=hb;clear hb;have HF:Hid (Fq No w w []):=Fq.start _ _;go_enter Tryz.func120,Tryz.ntmps120;go_upto_region 0 with fail;refine Sg<|xB (Cm.cells x) HF fun g1 w2 HF=>xB (Cg.cells c) HF fun g3 w4 HF=>tF<|Nl ?_;simp only[pS];go_upto_region 1 with fail;refine Sg<|tK (pg g1 3)<|lD (.string x.nm) HF 0 3 U9 rfl<|?_;simp only[pS];cases q1:(nameP x.nm)
  ·refine cB (p_rightName x.nm _) q1 HF fun w5 HF=>tF<|sK<|sK<|sK<|tF<|tF<|sK<|sK<|sK<|sK<|tF<|tF<|Nl ?_;simp only[pS];go_wp2;exact lf C HC HF (by simp only[*,chgP,bsq])
  refine cB (p_rightName x.nm _) q1 HF fun w6 HF=>tU<|tK (pg g1 4)<|lP (Fi.cs ⟨x.f0,x.f1⟩) HF 0 4 U43 S43 (Cm.cs x) rfl<|?_;simp only[pS];cases q2:(filB ⟨x.f0,x.f1⟩)
  ·refine cB (p_isFile ⟨x.f0,x.f1⟩ _) q2 HF fun w7 HF=>tF<|tF<|sK<|sK<|sK<|sK<|tF<|tF<|Nl ?_;simp only[pS];go_wp2;exact lf C HC HF (by simp only[*,chgP,bsq])
  refine cB (p_isFile ⟨x.f0,x.f1⟩ _) q2 HF fun w8 HF=>tU<|tU<|tK (pg g1 8)<|lD (.int .i64 x.sz) HF 0 8 U3 rfl<|lP (Cg.cs c) HF 1 0 U24 S24 (Cg.cs c) rfl<|?_;simp only[pS];cases q3:(szB c.bl x.sz)
  ·refine cB (p_rightSize x.sz c _ HB) q3 HF fun w9 HF=>tF<|tF<|Nl ?_;simp only[pS];go_wp2;exact lf C HC HF (by simp only[*,chgP,bsq])
  refine cB (p_rightSize x.sz c _ HB) q3 HF fun w10 HF=>tU<|tU<|Nl ?_;simp only[pS];go_wp2;exact lf C HC HF (by simp only[*,chgP,bsq])
theorem p_rightCommand (x:Cm) (c:Cg) (w:World) (hb:0≤c.bl∧c.bl≤4096):Calls Tryz.prog 64 #[.agg (Cm.cells x),.agg (Cg.cells c)] w (fun e w'=>e=.returned (.bool (cmdP c.bl x))∧Kept No w w'):=by
  refine hidC fun C HC=>?_;have HB:Hid (0≤c.bl∧c.bl≤4096):=hb;clear hb;have HF:Hid (Fq No w w []):=Fq.start _ _;go_enter Tryz.func64,Tryz.ntmps64;go_upto_region 0 with fail;refine Sg<|xB (Cm.cells x) HF fun g1 w2 HF=>xB (Cg.cells c) HF fun g3 w4 HF=>tF<|Nl ?_;simp only[pS];go_upto_region 1 with fail;refine Sg<|tK (pg g1 1)<|lD (.int .i64 x.cl) HF 0 1 U3 rfl<|?_;simp only[pS];cases q1:(wn x.cl 1 255)
  ·refine cB (p_rightId x.cl _) q1 HF fun w5 HF=>tU<|tU<|sK<|sK<|sK<|sK<|tU<|Nl ?_;simp only[pS];go_upto_region 2 with fail;refine Sg<|tF<|Nl ?_;simp only[pS];go_wp2;exact lf C HC HF (by simp only[*,cmdP,bsq])
  refine cB (p_rightId x.cl _) q1 HF fun w6 HF=>tF<|tF<|tK (pg g1 2)<|lD (.int .i64 x.op) HF 0 2 U3 rfl<|?_;simp only[pS];cases q2:(wn x.op 1 1099511627776)
  ·refine cB (p_rightNum x.op _) q2 HF fun w7 HF=>tU<|tU<|Nl ?_;simp only[pS];go_upto_region 2 with fail;refine Sg<|tF<|Nl ?_;simp only[pS];go_wp2;exact lf C HC HF (by simp only[*,cmdP,bsq])
  refine cB (p_rightNum x.op _) q2 HF fun w8 HF=>tF<|tF<|Nl ?_;simp only[pS];go_upto_region 3 with fail;refine Sg<|tK (pg g1 0)<|lD (.int .i64 x.k) HF 0 0 U3 rfl<|tK (pg g1 1)<|lD (.int .i64 x.cl) HF 0 1 U3 rfl<|tK (pg g1 2)<|lD (.int .i64 x.op) HF 0 2 U3 rfl<|bD (Cm.cells (⟨x.k,x.cl,x.op,⟨#[]⟩,0,0,0,0,0⟩))<|xA (Cm.cells cZ) Z45 HF fun g9 w10 HF=>sB (Cm.cs (⟨x.k,x.cl,x.op,⟨#[]⟩,0,0,0,0,0⟩)) (Cm.cs (⟨x.k,x.cl,x.op,⟨#[]⟩,0,0,0,0,0⟩)) HF 2 0 (v:=.agg (Cm.cells (⟨x.k,x.cl,x.op,⟨#[]⟩,0,0,0,0,0⟩))) rfl S45 (Cm.oneL _) (Cm.cs cZ) rfl fun w11 HF=>Nl ?_;simp only[pS];go_upto_region 4 with fail;refine Sg<|lP (Cm.cs (⟨x.k,x.cl,x.op,⟨#[]⟩,0,0,0,0,0⟩)) HF 2 0 U45 S45 (Cm.cs (⟨x.k,x.cl,x.op,⟨#[]⟩,0,0,0,0,0⟩)) rfl<|xA (Cm.cells cZ) Z45 HF fun g12 w13 HF=>sB (Cm.cs (⟨x.k,x.cl,x.op,⟨#[]⟩,0,0,0,0,0⟩)) (Cm.cs (⟨x.k,x.cl,x.op,⟨#[]⟩,0,0,0,0,0⟩)) HF 3 0 (v:=.agg (Cm.cells (⟨x.k,x.cl,x.op,⟨#[]⟩,0,0,0,0,0⟩))) rfl S45 (Cm.oneL _) (Cm.cs cZ) rfl fun w14 HF=>Nl ?_;simp only[pS];go_upto_region 5 with fail;refine Sg<|tK (pg g1 3)<|lD (.string x.nm) HF 0 3 U9 rfl<|tK (pg g12 3)<|sB (Cm.cs ⟨x.k,x.cl,x.op,x.nm,0,0,0,0,0⟩) ([.string x.nm]) HF 3 3 (v:=.string x.nm) rfl S9 (by simp [Value.oneCell',Sl.v]) (Cm.cs (⟨x.k,x.cl,x.op,⟨#[]⟩,0,0,0,0,0⟩)) rfl fun w15 HF=>Nl ?_;simp only[pS];go_upto_region 6 with fail;refine Sg<|tK (pg g1 0)<|lD (.int .i64 x.k) HF 0 0 U3 rfl<|Nl ?_;simp only[pS];go_upto_region 7 with fail;refine Sg<|?_;cases q3:(x.k==1);rotate_left
  ·refine bN (eI q3)<|tU<|Nl ?_;simp only[pS];go_upto_region 10 with fail;refine Sg<|lP (Cm.cs x) HF 0 0 U45 S45 (Cm.cs x) rfl<|lP (Cm.cs ⟨x.k,x.cl,x.op,x.nm,0,0,0,0,0⟩) HF 3 0 U45 S45 (Cm.cs ⟨x.k,x.cl,x.op,x.nm,0,0,0,0,0⟩) rfl<|?_;simp only[pS];cases q21:(eqC x ⟨x.k,x.cl,x.op,x.nm,0,0,0,0,0⟩)
   ·refine bN (qeC q21)<|tF<|sK<|sK<|sK<|tF<|tF<|Nl ?_;simp only[pS];go_wp2;exact lf C HC HF (by simp only[*,cmdP,bsq])
   refine bN (qeC q21)<|tU<|tK (pg g1 3)<|lD (.string x.nm) HF 0 3 U9 rfl<|?_;simp only[pS];cases q22:(nameP x.nm)
   ·refine cB (p_rightName x.nm _) q22 HF fun w28 HF=>tF<|tF<|Nl ?_;simp only[pS];go_wp2;exact lf C HC HF (by simp only[*,cmdP,bsq])
   refine cB (p_rightName x.nm _) q22 HF fun w29 HF=>tU<|tU<|Nl ?_;simp only[pS];go_wp2;exact lf C HC HF (by simp only[*,cmdP,bsq])
  refine bN (eI q3)<|tF<|Nl ?_;simp only[pS];go_upto_region 8 with fail;refine Sg<|?_;cases q4:(x.k==2);rotate_left
  ·refine bN (eI q4)<|tU<|Nl ?_;simp only[pS];go_upto_region 10 with fail;refine Sg<|lP (Cm.cs x) HF 0 0 U45 S45 (Cm.cs x) rfl<|lP (Cm.cs ⟨x.k,x.cl,x.op,x.nm,0,0,0,0,0⟩) HF 3 0 U45 S45 (Cm.cs ⟨x.k,x.cl,x.op,x.nm,0,0,0,0,0⟩) rfl<|?_;simp only[pS];cases q19:(eqC x ⟨x.k,x.cl,x.op,x.nm,0,0,0,0,0⟩)
   ·refine bN (qeC q19)<|tF<|sK<|sK<|sK<|tF<|tF<|Nl ?_;simp only[pS];go_wp2;exact lf C HC HF (by simp only[*,cmdP,bsq])
   refine bN (qeC q19)<|tU<|tK (pg g1 3)<|lD (.string x.nm) HF 0 3 U9 rfl<|?_;simp only[pS];cases q20:(nameP x.nm)
   ·refine cB (p_rightName x.nm _) q20 HF fun w26 HF=>tF<|tF<|Nl ?_;simp only[pS];go_wp2;exact lf C HC HF (by simp only[*,cmdP,bsq])
   refine cB (p_rightName x.nm _) q20 HF fun w27 HF=>tU<|tU<|Nl ?_;simp only[pS];go_wp2;exact lf C HC HF (by simp only[*,cmdP,bsq])
  refine bN (eI q4)<|tF<|Nl ?_;simp only[pS];go_upto_region 9 with fail;refine Sg<|?_;cases q5:(x.k==3);rotate_left
  ·refine bN (eI q5)<|tU<|Nl ?_;simp only[pS];go_upto_region 10 with fail;refine Sg<|lP (Cm.cs x) HF 0 0 U45 S45 (Cm.cs x) rfl<|lP (Cm.cs ⟨x.k,x.cl,x.op,x.nm,0,0,0,0,0⟩) HF 3 0 U45 S45 (Cm.cs ⟨x.k,x.cl,x.op,x.nm,0,0,0,0,0⟩) rfl<|?_;simp only[pS];cases q17:(eqC x ⟨x.k,x.cl,x.op,x.nm,0,0,0,0,0⟩)
   ·refine bN (qeC q17)<|tF<|sK<|sK<|sK<|tF<|tF<|Nl ?_;simp only[pS];go_wp2;exact lf C HC HF (by simp only[*,cmdP,bsq])
   refine bN (qeC q17)<|tU<|tK (pg g1 3)<|lD (.string x.nm) HF 0 3 U9 rfl<|?_;simp only[pS];cases q18:(nameP x.nm)
   ·refine cB (p_rightName x.nm _) q18 HF fun w24 HF=>tF<|tF<|Nl ?_;simp only[pS];go_wp2;exact lf C HC HF (by simp only[*,cmdP,bsq])
   refine cB (p_rightName x.nm _) q18 HF fun w25 HF=>tU<|tU<|Nl ?_;simp only[pS];go_wp2;exact lf C HC HF (by simp only[*,cmdP,bsq])
  refine bN (eI q5)<|tF<|Nl ?_;simp only[pS];go_upto_region 11 with fail;refine Sg<|?_;cases q6:(x.k==4);rotate_left
  ·refine bN (eI q6)<|tU<|Nl ?_;simp only[pS];go_upto_region 12 with fail;refine Sg<|lP (Cm.cs x) HF 0 0 U45 S45 (Cm.cs x) rfl<|lP (Cm.cs (⟨x.k,x.cl,x.op,⟨#[]⟩,0,0,0,0,0⟩)) HF 2 0 U45 S45 (Cm.cs (⟨x.k,x.cl,x.op,⟨#[]⟩,0,0,0,0,0⟩)) rfl<|?_;simp only[pS];cases q16:(eqC x (⟨x.k,x.cl,x.op,⟨#[]⟩,0,0,0,0,0⟩))
   ·refine bN (qeC q16)<|tF<|Nl ?_;simp only[pS];go_wp2;exact lf C HC HF (by simp only[*,cmdP,bsq])
   refine bN (qeC q16)<|tU<|Nl ?_;simp only[pS];go_wp2;exact lf C HC HF (by simp only[*,cmdP,bsq])
  refine bN (eI q6)<|tF<|Nl ?_;simp only[pS];go_upto_region 13 with fail;refine Sg<|?_;cases q7:(x.k==5);rotate_left
  ·refine bN (eI q7)<|tU<|Nl ?_;simp only[pS];go_upto_region 15 with fail;refine Sg<|tK (pg g1 6)<|lP (Fi.cs ⟨x.g0,x.g1⟩) HF 0 6 U43 S43 (Cm.cs x) rfl<|bD (Fi.cells fiZ)<|?_;simp only[pS];cases q14:(eqFi ⟨x.g0,x.g1⟩ fiZ)
   ·refine bN (qeFi q14)<|tF<|sK<|sK<|sK<|tF<|tF<|Nl ?_;simp only[pS];go_wp2;exact lf C HC HF (by simp only[*,cmdP,bsq])
   refine bN (qeFi q14)<|tU<|lP (Cm.cs x) HF 0 0 U45 S45 (Cm.cs x) rfl<|lP (Cg.cs c) HF 1 0 U24 S24 (Cg.cs c) rfl<|?_;simp only[pS];cases q15:(chgP c.bl x)
   ·refine cB (p_rightChange x c _ HB) q15 HF fun w22 HF=>tF<|tF<|Nl ?_;simp only[pS];go_wp2;exact lf C HC HF (by simp only[*,cmdP,bsq])
   refine cB (p_rightChange x c _ HB) q15 HF fun w23 HF=>tU<|tU<|Nl ?_;simp only[pS];go_wp2;exact lf C HC HF (by simp only[*,cmdP,bsq])
  refine bN (eI q7)<|tF<|Nl ?_;simp only[pS];go_upto_region 14 with fail;refine Sg<|?_;cases q8:(x.k==6);rotate_left
  ·refine bN (eI q8)<|tU<|Nl ?_;simp only[pS];go_upto_region 15 with fail;refine Sg<|tK (pg g1 6)<|lP (Fi.cs ⟨x.g0,x.g1⟩) HF 0 6 U43 S43 (Cm.cs x) rfl<|bD (Fi.cells fiZ)<|?_;simp only[pS];cases q12:(eqFi ⟨x.g0,x.g1⟩ fiZ)
   ·refine bN (qeFi q12)<|tF<|sK<|sK<|sK<|tF<|tF<|Nl ?_;simp only[pS];go_wp2;exact lf C HC HF (by simp only[*,cmdP,bsq])
   refine bN (qeFi q12)<|tU<|lP (Cm.cs x) HF 0 0 U45 S45 (Cm.cs x) rfl<|lP (Cg.cs c) HF 1 0 U24 S24 (Cg.cs c) rfl<|?_;simp only[pS];cases q13:(chgP c.bl x)
   ·refine cB (p_rightChange x c _ HB) q13 HF fun w20 HF=>tF<|tF<|Nl ?_;simp only[pS];go_wp2;exact lf C HC HF (by simp only[*,cmdP,bsq])
   refine cB (p_rightChange x c _ HB) q13 HF fun w21 HF=>tU<|tU<|Nl ?_;simp only[pS];go_wp2;exact lf C HC HF (by simp only[*,cmdP,bsq])
  refine bN (eI q8)<|tF<|Nl ?_;simp only[pS];go_upto_region 16 with fail;refine Sg<|?_;cases q9:(x.k==7)
  ·refine bN (eI q9)<|tF<|Nl ?_;simp only[pS];go_upto_region 18 with fail;refine Sg<|tF<|Nl ?_;simp only[pS];go_wp2;exact lf C HC HF (by simp only[*,cmdP,bsq])
  refine bN (eI q9)<|tU<|Nl ?_;simp only[pS];go_upto_region 17 with fail;refine Sg<|tK (pg g1 6)<|lP (Fi.cs ⟨x.g0,x.g1⟩) HF 0 6 U43 S43 (Cm.cs x) rfl<|?_;simp only[pS];cases q10:(filB ⟨x.g0,x.g1⟩)
  ·refine cB (p_isFile ⟨x.g0,x.g1⟩ _) q10 HF fun w16 HF=>tF<|sK<|sK<|sK<|tF<|tF<|Nl ?_;simp only[pS];go_wp2;exact lf C HC HF (by simp only[*,cmdP,bsq])
  refine cB (p_isFile ⟨x.g0,x.g1⟩ _) q10 HF fun w17 HF=>tU<|lP (Cm.cs x) HF 0 0 U45 S45 (Cm.cs x) rfl<|lP (Cg.cs c) HF 1 0 U24 S24 (Cg.cs c) rfl<|?_;simp only[pS];cases q11:(chgP c.bl x)
  ·refine cB (p_rightChange x c _ HB) q11 HF fun w18 HF=>tF<|tF<|Nl ?_;simp only[pS];go_wp2;exact lf C HC HF (by simp only[*,cmdP,bsq])
  refine cB (p_rightChange x c _ HB) q11 HF fun w19 HF=>tU<|tU<|Nl ?_;simp only[pS];go_wp2;exact lf C HC HF (by simp only[*,cmdP,bsq])
theorem p_rightAnswer (l:La) (c:Cg) (w:World) (hb:0≤c.bl∧c.bl≤4096):Calls Tryz.prog 137 #[.agg (La.cells l),.agg (Cg.cells c)] w (fun e w'=>e=.returned (.bool (ansP c.bl l))∧Kept No w w'):=by
  refine hidC fun C HC=>?_;have HB:Hid (0≤c.bl∧c.bl≤4096):=hb;clear hb;have HF:Hid (Fq No w w []):=Fq.start _ _;go_enter Tryz.func137,Tryz.ntmps137;go_upto_region 0 with fail;refine Sg<|xB (La.cells l) HF fun g1 w2 HF=>xB (Cg.cells c) HF fun g3 w4 HF=>tF<|Nl ?_;simp only[pS];go_upto_region 1 with fail;refine Sg<|tK (pg g1 3)<|lD (.int .i64 l.er) HF 0 3 U31 rfl<|Nl ?_;simp only[pS];go_upto_region 2 with fail;refine Sg<|?_;cases q1:(l.er==0);rotate_left
  ·refine bN (eIE q1)<|tU<|Nl ?_;simp only[pS];go_upto_region 5 with fail;refine Sg<|tK (pg g1 4)<|lP (Fi.cs ⟨l.f0,l.f1⟩) HF 0 4 U43 S43 (La.cs l) rfl<|?_;simp only[pS];cases q14:(filB ⟨l.f0,l.f1⟩)
   ·refine cB (p_isFile ⟨l.f0,l.f1⟩ _) q14 HF fun w13 HF=>tF<|sK<|sK<|sK<|sK<|tF<|tF<|Nl ?_;simp only[pS];go_wp2;exact lf C HC HF (by simp only[*,ansP,bsq])
   refine cB (p_isFile ⟨l.f0,l.f1⟩ _) q14 HF fun w14 HF=>tU<|tK (pg g1 6)<|lD (.int .i64 l.sz) HF 0 6 U3 rfl<|lP (Cg.cs c) HF 1 0 U24 S24 (Cg.cs c) rfl<|?_;simp only[pS];cases q15:(szB c.bl l.sz)
   ·refine cB (p_rightSize l.sz c _ HB) q15 HF fun w15 HF=>tF<|tF<|Nl ?_;simp only[pS];go_wp2;exact lf C HC HF (by simp only[*,ansP,bsq])
   refine cB (p_rightSize l.sz c _ HB) q15 HF fun w16 HF=>tU<|tU<|Nl ?_;simp only[pS];go_wp2;exact lf C HC HF (by simp only[*,ansP,bsq])
  refine bN (eIE q1)<|tF<|Nl ?_;simp only[pS];go_upto_region 3 with fail;refine Sg<|?_;cases q2:(l.er==101);rotate_left
  ·refine bN (eIE q2)<|tU<|Nl ?_;simp only[pS];go_upto_region 5 with fail;refine Sg<|tK (pg g1 4)<|lP (Fi.cs ⟨l.f0,l.f1⟩) HF 0 4 U43 S43 (La.cs l) rfl<|?_;simp only[pS];cases q12:(filB ⟨l.f0,l.f1⟩)
   ·refine cB (p_isFile ⟨l.f0,l.f1⟩ _) q12 HF fun w9 HF=>tF<|sK<|sK<|sK<|sK<|tF<|tF<|Nl ?_;simp only[pS];go_wp2;exact lf C HC HF (by simp only[*,ansP,bsq])
   refine cB (p_isFile ⟨l.f0,l.f1⟩ _) q12 HF fun w10 HF=>tU<|tK (pg g1 6)<|lD (.int .i64 l.sz) HF 0 6 U3 rfl<|lP (Cg.cs c) HF 1 0 U24 S24 (Cg.cs c) rfl<|?_;simp only[pS];cases q13:(szB c.bl l.sz)
   ·refine cB (p_rightSize l.sz c _ HB) q13 HF fun w11 HF=>tF<|tF<|Nl ?_;simp only[pS];go_wp2;exact lf C HC HF (by simp only[*,ansP,bsq])
   refine cB (p_rightSize l.sz c _ HB) q13 HF fun w12 HF=>tU<|tU<|Nl ?_;simp only[pS];go_wp2;exact lf C HC HF (by simp only[*,ansP,bsq])
  refine bN (eIE q2)<|tF<|Nl ?_;simp only[pS];go_upto_region 4 with fail;refine Sg<|?_;cases q3:(l.er==104);rotate_left
  ·refine bN (eIE q3)<|tU<|Nl ?_;simp only[pS];go_upto_region 5 with fail;refine Sg<|tK (pg g1 4)<|lP (Fi.cs ⟨l.f0,l.f1⟩) HF 0 4 U43 S43 (La.cs l) rfl<|?_;simp only[pS];cases q10:(filB ⟨l.f0,l.f1⟩)
   ·refine cB (p_isFile ⟨l.f0,l.f1⟩ _) q10 HF fun w5 HF=>tF<|sK<|sK<|sK<|sK<|tF<|tF<|Nl ?_;simp only[pS];go_wp2;exact lf C HC HF (by simp only[*,ansP,bsq])
   refine cB (p_isFile ⟨l.f0,l.f1⟩ _) q10 HF fun w6 HF=>tU<|tK (pg g1 6)<|lD (.int .i64 l.sz) HF 0 6 U3 rfl<|lP (Cg.cs c) HF 1 0 U24 S24 (Cg.cs c) rfl<|?_;simp only[pS];cases q11:(szB c.bl l.sz)
   ·refine cB (p_rightSize l.sz c _ HB) q11 HF fun w7 HF=>tF<|tF<|Nl ?_;simp only[pS];go_wp2;exact lf C HC HF (by simp only[*,ansP,bsq])
   refine cB (p_rightSize l.sz c _ HB) q11 HF fun w8 HF=>tU<|tU<|Nl ?_;simp only[pS];go_wp2;exact lf C HC HF (by simp only[*,ansP,bsq])
  refine bN (eIE q3)<|tF<|Nl ?_;simp only[pS];go_upto_region 6 with fail;refine Sg<|?_;cases q4:(l.er==102);rotate_left
  ·refine bN (eIE q4)<|tU<|Nl ?_;simp only[pS];go_upto_region 8 with fail;refine Sg<|tK (pg g1 4)<|lP (Fi.cs ⟨l.f0,l.f1⟩) HF 0 4 U43 S43 (La.cs l) rfl<|bD (Fi.cells fiZ)<|?_;simp only[pS];cases q8:(eqFi ⟨l.f0,l.f1⟩ fiZ)
   ·refine bN (qeFi q8)<|tF<|sK<|sK<|sK<|tF<|tF<|Nl ?_;simp only[pS];go_wp2;exact lf C HC HF (by simp only[*,ansP,bsq])
   refine bN (qeFi q8)<|tU<|tK (pg g1 6)<|lD (.int .i64 l.sz) HF 0 6 U3 rfl<|?_;simp only[pS];cases q9:(l.sz==0)
   ·refine bN (eI q9)<|tF<|tF<|Nl ?_;simp only[pS];go_wp2;exact lf C HC HF (by simp only[*,ansP,bsq])
   refine bN (eI q9)<|tU<|tU<|Nl ?_;simp only[pS];go_wp2;exact lf C HC HF (by simp only[*,ansP,bsq])
  refine bN (eIE q4)<|tF<|Nl ?_;simp only[pS];go_upto_region 7 with fail;refine Sg<|?_;cases q5:(l.er==103)
  ·refine bN (eIE q5)<|tF<|Nl ?_;simp only[pS];go_upto_region 9 with fail;refine Sg<|tF<|Nl ?_;simp only[pS];go_wp2;exact lf C HC HF (by simp only[*,ansP,bsq])
  refine bN (eIE q5)<|tU<|Nl ?_;simp only[pS];go_upto_region 8 with fail;refine Sg<|tK (pg g1 4)<|lP (Fi.cs ⟨l.f0,l.f1⟩) HF 0 4 U43 S43 (La.cs l) rfl<|bD (Fi.cells fiZ)<|?_;simp only[pS];cases q6:(eqFi ⟨l.f0,l.f1⟩ fiZ)
  ·refine bN (qeFi q6)<|tF<|sK<|sK<|sK<|tF<|tF<|Nl ?_;simp only[pS];go_wp2;exact lf C HC HF (by simp only[*,ansP,bsq])
  refine bN (qeFi q6)<|tU<|tK (pg g1 6)<|lD (.int .i64 l.sz) HF 0 6 U3 rfl<|?_;simp only[pS];cases q7:(l.sz==0)
  ·refine bN (eI q7)<|tF<|tF<|Nl ?_;simp only[pS];go_wp2;exact lf C HC HF (by simp only[*,ansP,bsq])
  refine bN (eI q7)<|tU<|tU<|Nl ?_;simp only[pS];go_wp2;exact lf C HC HF (by simp only[*,ansP,bsq])
theorem p_rightHeld (p a:Sp) (x:Cm) (c:Cg) (w:World) (hb:0≤c.bl∧c.bl≤4096):Calls Tryz.prog 86 #[.agg (Sp.cells p),.agg (Sp.cells a),.agg (Cm.cells x),.agg (Cg.cells c)] w (fun e w'=>e=.returned (.bool (heldP c.bl p a x))∧Kept No w w'):=by
  refine hidC fun C HC=>?_;have HB:Hid (0≤c.bl∧c.bl≤4096):=hb;clear hb;have HF:Hid (Fq No w w []):=Fq.start _ _;go_enter Tryz.func86,Tryz.ntmps86;go_upto_region 0 with fail;refine Sg<|xB (Sp.cells p) HF fun g1 w2 HF=>xB (Sp.cells a) HF fun g3 w4 HF=>xB (Cm.cells x) HF fun g5 w6 HF=>xB (Cg.cells c) HF fun g7 w8 HF=>tF<|Nl ?_;simp only[pS];go_upto_region 1 with fail;refine Sg<|lP (Sp.cs a) HF 1 0 U35 S35 (Sp.cs a) rfl<|?_;simp only[pS];cases q1:(eqS a spZ);rotate_left
  ·refine cB (p_isNone a _) q1 HF fun w16 HF=>Nl ?_;simp only[pS];go_upto_region 2 with fail;refine Sg<|lP (Cm.cs x) HF 2 0 U45 S45 (Cm.cs x) rfl<|bD (Cm.cells cZ)<|?_;simp only[pS];cases q5:(eqC x cZ)
   ·refine bN (qeC q5)<|tF<|Nl ?_;simp only[pS];go_wp2;exact lf C HC HF (by simp only[*,heldP,bsq])
   refine bN (qeC q5)<|tU<|Nl ?_;simp only[pS];go_wp2;exact lf C HC HF (by simp only[*,heldP,bsq])
  refine cB (p_isNone a _) q1 HF fun w9 HF=>Nl ?_;simp only[pS];go_upto_region 3 with fail;refine Sg<|lP (Sp.cs a) HF 1 0 U35 S35 (Sp.cs a) rfl<|?_;simp only[pS];cases q2:(oneS a)
  ·refine cB (p_isOne a _) q2 HF fun w10 HF=>tF<|sK<|sK<|sK<|sK<|tF<|tF<|sK<|sK<|sK<|tF<|tF<|Nl ?_;simp only[pS];go_wp2;exact lf C HC HF (by simp only[*,heldP,bsq])
  refine cB (p_isOne a _) q2 HF fun w11 HF=>tU<|lP (Sp.cs a) HF 1 0 U35 S35 (Sp.cs a) rfl<|lP (Sp.cs p) HF 0 0 U35 S35 (Sp.cs p) rfl<|?_;simp only[pS];cases q3:(abvS a p);rotate_left
  ·refine cB (p_above a p _) q3 HF fun w15 HF=>tF<|tF<|tF<|sK<|sK<|sK<|tF<|tF<|Nl ?_;simp only[pS];go_wp2;exact lf C HC HF (by simp only[*,heldP,bsq])
  refine cB (p_above a p _) q3 HF fun w12 HF=>tU<|tU<|tU<|lP (Cm.cs x) HF 2 0 U45 S45 (Cm.cs x) rfl<|lP (Cg.cs c) HF 3 0 U24 S24 (Cg.cs c) rfl<|?_;simp only[pS];cases q4:(cmdP c.bl x)
  ·refine cB (p_rightCommand x c _ HB) q4 HF fun w13 HF=>tF<|tF<|Nl ?_;simp only[pS];go_wp2;exact lf C HC HF (by simp only[*,heldP,bsq])
  refine cB (p_rightCommand x c _ HB) q4 HF fun w14 HF=>tU<|tU<|Nl ?_;simp only[pS];go_wp2;exact lf C HC HF (by simp only[*,heldP,bsq])
theorem all_f {α:Type} {l:List α} {d:α} {p:α→Bool} {i:Nat} (hi:i < l.length) (h:p (l[i]?.getD d)=false):l.all p=false:=by
  rw [List.all_eq_false];exact ⟨l[i],List.getElem_mem hi,by rw [List.getElem?_eq_getElem hi] at h;simp at h;simp [h]⟩
theorem all_t {α:Type} {l:List α} {d:α} {p:α→Bool} (h:∀ i,i < l.length→p (l[i]?.getD d)=true):l.all p=true:=by
  rw [List.all_eq_true];intro x hx;obtain ⟨i,hi,rfl⟩:=List.getElem_of_mem hx;have:=h i hi;rw [List.getElem?_eq_getElem hi] at this;exact this
theorem up_j {P:Nat→Prop} {i:Nat} (h:∀ j,j < i→P j) (hi:P i):∀ j,j < i+1→P j:=fun j hj=>by
  rcases Nat.lt_succ_iff_lt_or_eq.1 hj with h1 | rfl
  · exact h j h1
  · exact hi
theorem p_zeros (x:Sl) (bs:List Int) (w:World) (hz:RdB w x bs) (hn:x.l≤281474976710656):Calls Tryz.prog 75 #[x.v] w (fun e w'=>e=.returned (.bool (allZ bs))∧Kept No w w'):=by
  refine hidC fun C HC=>?_;have HRB:Hid (RdB w x bs):=hz;clear hz;have HF:Hid (Fq No w w []):=Fq.start _ _;go_enter Tryz.func75,Tryz.ntmps75;go_upto_region 0 with fail;refine Sg<|tF<|Nl ?_;simp only[pS];go_upto_region 1 with fail;refine Sg<|tK (x.v)<|tK (.int .i64 ((x.l:Nat):Int))<|tK (.int .i64 0)<|Nl ?_;simp only[pS];go_wp2
  go_loopw [7] (fun v7 wr=>∃ i:Nat,v7=.int .i64 ((i:Nat):Int)∧i≤x.l∧Hid (∀ j,j < i→(bs[j]?.getD 0==0)=true)∧Hid (Fq No w wr [])) (fun v7 _=>x.l - (intOf v7).toNat)
  case atStart=>exact ⟨0,by go_num,by omega,fun j hj=>absurd hj (Nat.not_lt_zero _),HF⟩
  case round=>
    clear HF;obtain ⟨i,rfl,hi,HP,HF⟩:=hrel
    by_cases hlt:i < x.l
    ·obtain ⟨b,off,hsl,hc⟩:=RdB.at HRB.out (i:=i) (by omega);go_upto_region 2 with fail;refine Sg<|bN (lI (a:=((i:Nat):Int)) (b:=((x.l:Nat):Int)) (decide_eq_true (by omega)))<|Nl ?_;simp only[pS];go_upto_region 3 with fail;refine Sg<|iS (s:=x) (i:=i) hsl E30 F30 (by omega)<|lR (load_one (HF.out.kept.cell hc (fun e=>e)) U5 rfl)<|tK (.int .u8 (bs[i]?.getD 0))<|Nl ?_;simp only[pS];go_upto_region 4 with fail;refine Sg<|tK (.int .u8 (bs[i]?.getD 0))<|?_;simp only[pS];cases q1:(bs[i]?.getD 0==0)
     ·refine bN (qn0U q1)<|Nl ?_;simp only[pS];go_upto_region 5 with fail;refine Sg<|tF<|Nl ?_;simp only[pS];go_wp2;rw [HC.out];exact ⟨ret_bool (by rw [show allZ bs=false from all_f (d:=0) (by rw [HRB.out.len];exact hlt) (by rw [q1])]),HF.out.kept⟩
     refine bN (qn1U q1)<|Nl ?_;simp only[pS];go_upto_region 6 with fail;refine Sg<|bN (v:=.int .i64 (((i+1):Nat):Int)) (b_addw ((i:Nat):Int) 1 (((i+1):Nat):Int) (by rw [IntKind.wrap_i64];omega))<|tK (.int .i64 (((i+1):Nat):Int))<|Nl ?_;simp only[pS];go_wp2;go_roundw
     case rel=>exact ⟨i+1,by go_num,by omega,up_j HP.out q1,HF⟩
     case measure=>simp [intOf];omega
    ·go_upto_region 2 with fail;refine Sg<|bN (lI (a:=((i:Nat):Int)) (b:=((x.l:Nat):Int)) (decide_eq_false (by omega)))<|Nl ?_;simp only[pS];go_upto_region 7 with fail;refine Sg<|tU<|Nl ?_;simp only[pS];go_wp2;rw [HC.out];exact ⟨ret_bool (by rw [show allZ bs=true from all_t (d:=0) (fun j hj=>HP.out j (by rw [HRB.out.len] at hj;omega))]),HF.out.kept⟩
theorem p_rightBlock (x:Bl) (c:Cg) (bs:List Int) (w:World) (hz:RdB w x.d bs) (hn:x.d.l≤281474976710656):Calls Tryz.prog 37 #[.agg (Bl.cells x),.agg (Cg.cells c)] w (fun e w'=>e=.returned (.bool (blkB c.bl x bs))∧Kept No w w'):=by
  refine hidC fun C HC=>?_;have HRB:Hid (RdB w x.d bs):=hz;clear hz;have HF:Hid (Fq No w w []):=Fq.start _ _;go_enter Tryz.func37,Tryz.ntmps37;go_upto_region 0 with fail;refine Sg<|xB (Bl.cells x) HF fun g1 w2 HF=>xB (Cg.cells c) HF fun g3 w4 HF=>tF<|Nl ?_;simp only[pS];go_upto_region 1 with fail;refine Sg<|tK (pg g1 2)<|lD (x.d.v) HF 0 2 U30 rfl<|tK (.int .i64 ((x.d.l:Nat):Int))<|tK (pg g3 4)<|lD (.int .i64 c.bl) HF 1 4 U3 rfl<|?_;simp only[pS];cases q1:(((x.d.l:Nat):Int)==c.bl)
  ·refine bN (eI q1)<|tF<|sK<|sK<|sK<|sK<|sK<|sK<|sK<|sK<|sK<|sK<|sK<|sK<|sK<|tF<|tF<|Nl ?_;simp only[pS];go_wp2;exact lf C HC HF (by simp only[*,blkB,bsq])
  refine bN (eI q1)<|tU<|tK (pg g1 0)<|lP (Sp.cs x.s) HF 0 0 U35 S35 (Bl.cs x) rfl<|?_;simp only[pS];cases q2:(oneS x.s);rotate_left
  ·refine cB (p_isOne x.s _) q2 HF fun w10 HF=>tU<|sK<|sK<|sK<|sK<|sK<|sK<|sK<|sK<|tU<|tU<|tU<|Nl ?_;simp only[pS];go_wp2;exact lf C HC HF (by simp only[*,blkB,bsq])
  refine cB (p_isOne x.s _) q2 HF fun w5 HF=>tF<|tK (pg g1 0)<|lP (Sp.cs x.s) HF 0 0 U35 S35 (Bl.cs x) rfl<|?_;simp only[pS];cases q3:(eqS x.s spZ)
  ·refine cB (p_isNone x.s _) q3 HF fun w6 HF=>tF<|sK<|sK<|sK<|tF<|tF<|tF<|tF<|Nl ?_;simp only[pS];go_wp2;exact lf C HC HF (by simp only[*,blkB,bsq])
  refine cB (p_isNone x.s _) q3 HF fun w7 HF=>tU<|tK (pg g1 2)<|lD (x.d.v) HF 0 2 U30 rfl<|?_;simp only[pS];cases q4:(allZ bs)
  ·refine cB (p_zeros x.d bs _ (HRB.out.no HF.out.kept) hn) q4 HF fun w8 HF=>tF<|tF<|tF<|tF<|Nl ?_;simp only[pS];go_wp2;exact lf C HC HF (by simp only[*,blkB,bsq])
  refine cB (p_zeros x.d bs _ (HRB.out.no HF.out.kept) hn) q4 HF fun w9 HF=>tU<|tU<|tU<|tU<|Nl ?_;simp only[pS];go_wp2;exact lf C HC HF (by simp only[*,blkB,bsq])
section
variable {ops:Array Oper} {a:Act} {w:World} {Q:Exit→Act→World→Prop} {md:Region.Mode} {S:Nat→Prop} {w0:World} {l:List (Nat × TypeId × Array Value)} {fuel:Nat} {listed:Array Bool}
end
def opA (l : Array Oper) (i : Nat) : Oper := match l[i]? with | some o => o | none => ⟨none, .move (.tmp 0), 0, "", #[], none⟩
section
variable {ops:Array Oper} {a:Act} {w:World} {Q:Exit→Act→World→Prop} {md:Region.Mode} {S:Nat→Prop} {w0:World} {l:List (Nat × TypeId × Array Value)} {fuel:Nat} {listed:Array Bool}
theorem yT (i d:Nat) (HF:Hid (Fq S w0 w l)) {v:Value} (hy:∀ w,Hid (Fq S w0 w l)→(execOp a.eval (opA ops i)).run Tryz.prog w=.ok (.value v) w)
    (h:wpAnyH Tryz.prog md ops Q (fun w'=>Hid (Fq S w0 w' l)) fuel (listed.setIfInBounds i true) (a.put (some d) v) w)
    (hi:ops[i]?=some (opA ops i):=by kernel_rfl) (hd:(opA ops i).dst=some d:=by kernel_rfl) (hs:Region.noSelect ops=true:=by kernel_rfl) (hf:Region.free md ops listed i=true:=by kernel_rfl) (hr:(Region.ready md ops listed).contains i=true:=by kernel_rfl)
    (hQ:∀ c a w,Q (.panic c) (a.put (some d) v) w→Q (.panic c) a w:=by exact fun _ _ _ h=>h) (hw:Region.wanted (opA ops i) (yielded ops a.tmps)=true:=by kernel_rfl):wpAnyH Tryz.prog md ops Q (fun w'=>Hid (Fq S w0 w' l)) (fuel+1) listed a w:=
  any_take hi hs hf hr (by rw [hd];exact hQ) hw hy HF (by rw [hd];exact h)
theorem yK (i d:Nat) (HF:Hid (Fq S w0 w l)) (v:Value)
    (h:wpAnyH Tryz.prog md ops Q (fun w'=>Hid (Fq S w0 w' l)) fuel (listed.setIfInBounds i true) (a.put (some d) v) w) (hy:∀ w,(execOp a.eval (opA ops i)).run Tryz.prog w=.ok (.value v) w:=by intro _;kernel_rfl)
    (hi:ops[i]?=some (opA ops i):=by kernel_rfl) (hd:(opA ops i).dst=some d:=by kernel_rfl) (hs:Region.noSelect ops=true:=by kernel_rfl) (hf:Region.free md ops listed i=true:=by kernel_rfl) (hr:(Region.ready md ops listed).contains i=true:=by kernel_rfl)
    (hQ:∀ c a w,Q (.panic c) (a.put (some d) v) w→Q (.panic c) a w:=by exact fun _ _ _ h=>h) (hw:Region.wanted (opA ops i) (yielded ops a.tmps)=true:=by kernel_rfl):wpAnyH Tryz.prog md ops Q (fun w'=>Hid (Fq S w0 w' l)) (fuel+1) listed a w:=
  yT i d HF (fun w _=>hy w) h hi hd hs hf hr hQ hw
theorem yC (i d:Nat) {f:FuncId} {args:Array Value} {F b:Bool} (hc:Calls Tryz.prog f args w (fun e w'=>e=.returned (.bool F)∧Kept No w w')) (hF:F=b) (HF:Hid (Fq S w0 w l))
    (h:∀ w',Hid (Fq S w0 w' l)→wpAnyH Tryz.prog md ops Q (fun w'=>Hid (Fq S w0 w' l)) fuel (listed.setIfInBounds i true) (a.put (some d) (.bool b)) w')
    (hi:ops[i]?=some (opA ops i):=by kernel_rfl) (hd:(opA ops i).dst=some d:=by kernel_rfl) (hr:Region.ready md ops listed=[i]:=by kernel_rfl) (hrun:(execOp a.eval (opA ops i)).run Tryz.prog w=.ok (.enter f args) w:=by kernel_rfl) (hw:Region.wanted (opA ops i) (yielded ops a.tmps)=true:=by kernel_rfl):wpAnyH Tryz.prog md ops Q (fun w'=>Hid (Fq S w0 w' l)) (fuel+1) listed a w:=
  any_call hi hr hw f args hrun _ hc (by rintro e w' ⟨rfl,hk⟩;exact ⟨_,by rw [hF],HF.out.no hk,fun HF=>by rw [hd];exact h w' HF⟩)
theorem yV (i d:Nat) {f:FuncId} {args:Array Value} {v:Value} (hc:Calls Tryz.prog f args w (fun e w'=>e=.returned v∧Kept No w w')) (HF:Hid (Fq S w0 w l))
    (h:∀ w',Hid (Fq S w0 w' l)→wpAnyH Tryz.prog md ops Q (fun w'=>Hid (Fq S w0 w' l)) fuel (listed.setIfInBounds i true) (a.put (some d) v) w')
    (hi:ops[i]?=some (opA ops i):=by kernel_rfl) (hd:(opA ops i).dst=some d:=by kernel_rfl) (hr:Region.ready md ops listed=[i]:=by kernel_rfl) (hrun:(execOp a.eval (opA ops i)).run Tryz.prog w=.ok (.enter f args) w:=by kernel_rfl) (hw:Region.wanted (opA ops i) (yielded ops a.tmps)=true:=by kernel_rfl):wpAnyH Tryz.prog md ops Q (fun w'=>Hid (Fq S w0 w' l)) (fuel+1) listed a w:=
  any_call hi hr hw f args hrun _ hc (by rintro e w' ⟨rfl,hk⟩;exact ⟨_,rfl,HF.out.no hk,fun HF=>by rw [hd];exact h w' HF⟩)
def ldA (o:Oper) (ev:Operand→Value):Option (TypeId × Value):=match o.op with | .load t x=>some (t,ev x) | _=>none
def bnA (o:Oper) (ev:Operand→Value):Option (BinOp × TypeId × Value × Value):=match o.op with | .binOp b t x y _=>some (b,t,ev x,ev y) | _=>none
def bnX (o:Oper):Operand:=match o.op with | .binOp _ _ x _ _=>x | _=>.tmp 0
def bnY (o:Oper):Operand:=match o.op with | .binOp _ _ _ y _=>y | _=>.tmp 0
def ixA (o:Oper) (ev:Operand→Value):Option (TypeId × Value × Value):=match o.op with | .indexAddr t x y=>some (t,ev x,ev y) | _=>none
theorem zL {o:Oper} {t:TypeId} {ad:Addr} {v:Value} (hrun:∀ w,Hid (Fq S w0 w l)→(loadVar t ad).run Tryz.prog w=.ok v w) (hl:ldA o a.eval=some (t,.pointer (some ad)):=by kernel_rfl) :
    ∀ w,Hid (Fq S w0 w l)→(execOp a.eval o).run Tryz.prog w=.ok (.value v) w:=fun w HF=>by
  unfold ldA at hl
  split at hl
  · rename_i t' x hx
    obtain ⟨rfl,h2⟩:=Prod.mk.inj (Option.some.inj hl)
    exact exec_load _ x hx ad h2 v (hrun w HF)
  · cases hl
theorem zD {o:Oper} {v:Value} (j k:Nat) {t:TypeId} {d:TypeDesc} (hu:Tryz.prog.underlying t=some d) {g:Nat} {Tb:TypeId} {cs:Array Value} (hi:l[j]?=some (g,Tb,cs))
    (hl:ldA o a.eval=some (t,.pointer (some ⟨g,k,none⟩)):=by kernel_rfl) (hc:cs[k]?=some v:=by kernel_rfl) (hd:(match d with | .struct _ | .array _ _=>true | _=>false)=false:=by kernel_rfl) :
    ∀ w,Hid (Fq S w0 w l)→(execOp a.eval o).run Tryz.prog w=.ok (.value v) w:=zL (fun w HF=>load_one (((HF.out.box j g Tb cs hi).cell k).trans hc) hu hd) hl
theorem zP {o:Oper} (sub:List Value) (j k:Nat) {t:TypeId} (hu:Tryz.prog.underlying t=some (.struct (Tryz.prog.fieldsOf t))) (hs:(Tryz.prog.info? t).map (·.size)=some sub.length) {g:Nat} {Tb:TypeId} (cs:List Value) (hi:l[j]?=some (g,Tb,cs.toArray))
    (hl:ldA o a.eval=some (t,.pointer (some ⟨g,k,none⟩)):=by kernel_rfl) (hc:(cs.drop k).take sub.length=sub:=by kernel_rfl) :
    ∀ w,Hid (Fq S w0 w l)→(execOp a.eval o).run Tryz.prog w=.ok (.value (.agg sub.toArray)) w:=zL (fun w HF=>run_load_part (cs:=cs) (sub:=sub) (HF.out.box j g Tb _ hi) (part_of hc) hu rfl hs) hl
theorem zN {o:Oper} {b:BinOp} {t:TypeId} {vx vy v:Value} (hrun:∀ w,(binOp b t vx vy).run Tryz.prog w=.ok v w)
    (hl:bnA o a.eval=some (b,t,vx,vy):=by kernel_rfl) (hgd:∀ w,(eqGuard b t (bnX o) (bnY o) vx vy).run Tryz.prog w=.ok () w:=by intro _;kernel_rfl) :
    ∀ w,Hid (Fq S w0 w l)→(execOp a.eval o).run Tryz.prog w=.ok (.value v) w:=fun w _=>by
  unfold bnA at hl
  split at hl
  · rename_i b' t' x y s hx
    obtain ⟨rfl,h2⟩:=Prod.mk.inj (Option.some.inj hl)
    obtain ⟨rfl,h3⟩:=Prod.mk.inj h2
    obtain ⟨h4,h5⟩:=Prod.mk.inj h3
    have hg:=hgd w
    unfold bnX bnY at hg
    rw [hx] at hg
    exact exec_bin _ _ s x y hx vx vy v h4 h5 hg (hrun w)
  · cases hl
theorem zI {o:Oper} {s:Sl} {b off i n:Nat} {t:TypeId} (hsl:s.v=.slice (some ⟨b,off,none⟩) s.l s.k) (hu:Tryz.prog.underlying t=some (.slice (Tryz.prog.elem t))) (hs:(Tryz.prog.info? (Tryz.prog.elem t)).map (·.size)=some n) (hi:i < s.l)
    (hl:ixA o a.eval=some (t,s.v,.int .i64 (i:Int)):=by kernel_rfl) :
    ∀ w,Hid (Fq S w0 w l)→(execOp a.eval o).run Tryz.prog w=.ok (.value (.pointer (some ⟨b,off+i*n,none⟩))) w:=fun w _=>by
  unfold ixA at hl
  split at hl
  · rename_i t' x y hx
    obtain ⟨rfl,h2⟩:=Prod.mk.inj (Option.some.inj hl)
    obtain ⟨h4,h5⟩:=Prod.mk.inj h2
    exact exec_ixA _ n hu hs x y hx b off s.l s.k i (h4.trans hsl) h5 hi
  · cases hl
noncomputable def buA (o:Oper) (ev:Operand→Value):Option (TypeId × Option (Array Value)):=match o.op with | .build t parts=>some (t,Tryz.prog.built t (parts.map fun (i,x)=>(i,ev x)).toList) | _=>none
def stA (o:Oper) (ev:Operand→Value):Option (TypeId × Value × Value):=match o.op with | .store t x y=>some (t,ev x,ev y) | _=>none
theorem zU {o:Oper} (t:TypeId) (cs:Array Value) (hl:buA o a.eval=some (t,some cs):=by kernel_rfl) :
    ∀ w,Hid (Fq S w0 w l)→(execOp a.eval o).run Tryz.prog w=.ok (.value (.agg cs)) w:=fun w _=>by
  unfold buA at hl
  split at hl
  · rename_i t' parts hx
    obtain ⟨rfl,h2⟩:=Prod.mk.inj (Option.some.inj hl)
    exact exec_build _ parts hx cs h2
  · cases hl
end
theorem rng_f {n:Nat} {p:Nat→Bool} {i:Nat} (hi:i < n) (h:p i=false):(List.range n).all p=false:=by
  rw [List.all_eq_false];exact ⟨i,List.mem_range.2 hi,by simp [h]⟩
theorem rng_t {n:Nat} {p:Nat→Bool} (h:∀ j,j < n→p j=true):(List.range n).all p=true:=by
  rw [List.all_eq_true];intro i hi;exact h i (List.mem_range.1 hi)
def lastN (es:List En):Nat→ByteArray
  | 0=>⟨#[]⟩
  | i+1=>(eAt es i).nm
def lastC (ls:List La):Nat→Int
  | 0=>0
  | i+1=>(lAt ls i).cl
def entP (B:Int) (es:List En) (i:Nat):Bool:=ltS (lastN es i) (eAt es i).nm&&(nameP (eAt es i).nm&&(filB ⟨(eAt es i).f0,(eAt es i).f1⟩&&szB B (eAt es i).sz))
def entsP (B rm:Int) (es:List En):Bool:=!decide (rm < ((es.length:Nat):Int))&&(List.range es.length).all (entP B es)
def lasP (B up:Int) (ls:List La) (i:Nat):Bool:=!decide ((lAt ls i).cl≤lastC ls i)&&(wn (lAt ls i).cl 1 255&&(wn (lAt ls i).op 1 1099511627776&&(wn (lAt ls i).ins 1 up&&ansP B (lAt ls i))))
def lassP (B up:Int) (ls:List La):Bool:=(List.range ls.length).all (lasP B up ls)
def bktP (B rm:Int) (x:Bv) (es:List En) (ls:List La):Bool:=bif x.up==0 then empK x else wn x.up 1 1048576&&(entsP B rm es&&lassP B x.up ls)
theorem RdE.pre {w:World} {s:Sl} {es:List En} (h:RdE w s es) {b off:Nat} (hsl:s.v=.slice (some ⟨b,off,none⟩) s.l s.k) {i:Nat} (hi:i < s.l) (j:Nat) (v:Value) (hv:(eAt es i).cs[j]?=some v):w.cell? ⟨b,off+i*4+j,none⟩=some v:=by
  obtain ⟨b',off',h1,h2⟩:=h.at' hi;rw [hsl] at h1;simp only[Value.slice.injEq,Option.some.injEq,Addr.mk.injEq] at h1;obtain ⟨⟨rfl,rfl,_⟩,_⟩:=h1;exact h2 j v hv
theorem RdL.pre {w:World} {s:Sl} {es:List La} (h:RdL w s es) {b off:Nat} (hsl:s.v=.slice (some ⟨b,off,none⟩) s.l s.k) {i:Nat} (hi:i < s.l) (j:Nat) (v:Value) (hv:(lAt es i).cs[j]?=some v):w.cell? ⟨b,off+i*7+j,none⟩=some v:=by
  obtain ⟨b',off',h1,h2⟩:=h.at' hi;rw [hsl] at h1;simp only[Value.slice.injEq,Option.some.injEq,Addr.mk.injEq] at h1;obtain ⟨⟨rfl,rfl,_⟩,_⟩:=h1;exact h2 j v hv
theorem p_rightEntries (x:Sl) (es:List En) (c:Cg) (w:World) (hb:0≤c.bl∧c.bl≤4096) (he:RdE w x es) (hn:x.l≤281474976710656):Calls Tryz.prog 93 #[x.v,.agg (Cg.cells c)] w (fun e w'=>e=.returned (.bool (entsP c.bl c.rm es))∧Kept No w w'):=by
  refine hidC fun C HC=>?_;have HB:Hid (0≤c.bl∧c.bl≤4096):=hb;clear hb;have HRE:Hid (RdE w x es):=he;clear he;have HF:Hid (Fq No w w []):=Fq.start _ _;go_enter Tryz.func93,Tryz.ntmps93;go_upto_region 0 with fail;refine Sg<|xB (Cg.cells c) HF fun g1 w2 HF=>tF<|Nl ?_;simp only[pS];go_upto_region 1 with fail;refine Sg<|tK (x.v)<|tK (.int .i64 ((x.l:Nat):Int))<|tK (pg g1 5)<|lD (.int .i64 c.rm) HF 0 5 U3 rfl<|?_;simp only[pS];cases q1:(decide (c.rm < ((x.l:Nat):Int)));rotate_left
  ·refine bN (gI q1)<|Nl ?_;simp only[pS];go_upto_region 2 with fail;refine Sg<|tF<|Nl ?_;simp only[pS];go_wp2;rw [HC.out];exact ⟨ret_bool (by rw [show entsP c.bl c.rm es=false from by simp only[entsP,HRE.out.len,bsq,q1]]),HF.out.kept⟩
  refine bN (gI q1)<|Nl ?_;simp only[pS];go_upto_region 3 with fail;refine Sg<|tK (.string ⟨#[]⟩)<|Nl ?_;simp only[pS];go_upto_region 4 with fail;refine Sg<|tK (x.v)<|tK (.int .i64 ((x.l:Nat):Int))<|tK (.int .i64 0)<|Nl ?_;simp only[pS];go_wp2
  go_loopw [5,15] (fun v5 v15 wr=>∃ i:Nat,v5=.string (lastN es i)∧v15=.int .i64 ((i:Nat):Int)∧i≤x.l∧Hid (∀ j,j < i→entP c.bl es j=true)∧Hid (Fq No w wr [(g1,24,Cg.cells c)])) (fun v5 v15 _=>x.l - (intOf v15).toNat)
  case atStart=>exact ⟨0,rfl,by go_num,by omega,fun j hj=>absurd hj (Nat.not_lt_zero _),HF⟩
  case round=>
    clear HF;obtain ⟨i,rfl,rfl,hi,HP,HF⟩:=hrel
    by_cases hlt:i < x.l
    ·obtain ⟨b,off,hsl,hc⟩:=RdE.at' HRE.out (i:=i) (by omega);go_upto_region 5 with fail;refine Sg<|bN (lI (a:=((i:Nat):Int)) (b:=((x.l:Nat):Int)) (decide_eq_true (by omega)))<|Nl ?_;simp only[pS];go_upto_region 6 with fail;refine Sg<|iS (s:=x) (i:=i) hsl E51 F51 (by omega)<|lR (load_E (fun j v h=>HF.out.kept.cell (hc j v h) (fun e=>e)))<|xA (En.cells enZ) Z106 HF fun g3 w4 HF=>sB (En.cs (eAt es i)) (En.cs (eAt es i)) HF 1 0 (v:=.agg (En.cells (eAt es i))) rfl S106 (En.oneL _) (En.cs enZ) rfl fun w5 HF=>Nl ?_;simp only[pS];go_upto_region 7 with fail;refine Sg<|tK (pg g3 0)<|lD (.string (eAt es i).nm) HF 1 0 U9 rfl<|tK (.string (lastN es i))<|?_;simp only[pS];cases q2:(ltS (lastN es i) ((eAt es i).nm))
     ·refine bN (leN0 q2)<|tU<|sK<|sK<|sK<|sK<|tU<|tU<|sK<|sK<|sK<|sK<|tU<|tU<|sK<|sK<|sK<|sK<|sK<|tU<|Nl ?_;simp only[pS];go_upto_region 8 with fail;refine Sg<|tF<|Nl ?_;simp only[pS];go_wp2;rw [HC.out];exact ⟨ret_bool (by rw [show entsP c.bl c.rm es=false from by unfold entsP;rw [rng_f (i:=i) (by rw [HRE.out.len];exact hlt) (by simp only[entP,bsq,q2])];simp only[bsq]]),HF.out.kept⟩
     refine bN (leN1 q2)<|tF<|tK (pg g3 0)<|lD (.string (eAt es i).nm) HF 1 0 U9 rfl<|?_;simp only[pS];cases q3:(nameP ((eAt es i).nm))
     ·refine cB (p_rightName ((eAt es i).nm) _) q3 HF fun w6 HF=>tU<|tU<|tU<|sK<|sK<|sK<|sK<|tU<|tU<|sK<|sK<|sK<|sK<|sK<|tU<|Nl ?_;simp only[pS];go_upto_region 8 with fail;refine Sg<|tF<|Nl ?_;simp only[pS];go_wp2;rw [HC.out];exact ⟨ret_bool (by rw [show entsP c.bl c.rm es=false from by unfold entsP;rw [rng_f (i:=i) (by rw [HRE.out.len];exact hlt) (by simp only[entP,bsq,q2,q3])];simp only[bsq]]),HF.out.kept⟩
     refine cB (p_rightName ((eAt es i).nm) _) q3 HF fun w7 HF=>tF<|tF<|tF<|tK (pg g3 1)<|lP (Fi.cs ⟨(eAt es i).f0,(eAt es i).f1⟩) HF 1 1 U43 S43 (En.cs (eAt es i)) rfl<|?_;simp only[pS];cases q4:(filB ⟨(eAt es i).f0,(eAt es i).f1⟩)
     ·refine cB (p_isFile ⟨(eAt es i).f0,(eAt es i).f1⟩ _) q4 HF fun w8 HF=>tU<|tU<|tU<|sK<|sK<|sK<|sK<|sK<|tU<|Nl ?_;simp only[pS];go_upto_region 8 with fail;refine Sg<|tF<|Nl ?_;simp only[pS];go_wp2;rw [HC.out];exact ⟨ret_bool (by rw [show entsP c.bl c.rm es=false from by unfold entsP;rw [rng_f (i:=i) (by rw [HRE.out.len];exact hlt) (by simp only[entP,bsq,q2,q3,q4])];simp only[bsq]]),HF.out.kept⟩
     refine cB (p_isFile ⟨(eAt es i).f0,(eAt es i).f1⟩ _) q4 HF fun w9 HF=>tF<|tF<|tF<|tK (pg g3 3)<|lD (.int .i64 (eAt es i).sz) HF 1 3 U3 rfl<|lP (Cg.cs c) HF 0 0 U24 S24 (Cg.cs c) rfl<|?_;simp only[pS];cases q5:(szB c.bl ((eAt es i).sz))
     ·refine cB (p_rightSize ((eAt es i).sz) c _ HB) q5 HF fun w10 HF=>tU<|tU<|Nl ?_;simp only[pS];go_upto_region 8 with fail;refine Sg<|tF<|Nl ?_;simp only[pS];go_wp2;rw [HC.out];exact ⟨ret_bool (by rw [show entsP c.bl c.rm es=false from by unfold entsP;rw [rng_f (i:=i) (by rw [HRE.out.len];exact hlt) (by simp only[entP,bsq,q2,q3,q4,q5])];simp only[bsq]]),HF.out.kept⟩
     refine cB (p_rightSize ((eAt es i).sz) c _ HB) q5 HF fun w11 HF=>tF<|tF<|Nl ?_;simp only[pS];go_upto_region 9 with fail;refine Sg<|tK (pg g3 0)<|lD (.string (eAt es i).nm) HF 1 0 U9 rfl<|tK (.string (eAt es i).nm)<|Nl ?_;simp only[pS];go_upto_region 10 with fail;refine Sg<|bN (v:=.int .i64 (((i+1):Nat):Int)) (b_addw ((i:Nat):Int) 1 (((i+1):Nat):Int) (by rw [IntKind.wrap_i64];omega))<|tK (.int .i64 (((i+1):Nat):Int))<|Nl ?_;simp only[pS];go_wp2;go_roundw
     case rel=>exact ⟨i+1,rfl,by go_num,by omega,up_j HP.out (by simp only[entP,bsq,q2,q3,q4,q5]),Fq.front (l:=[(g1,24,Cg.cells c)]) (m:=[(g3,106,En.cells (eAt es i))]) HF⟩
     case measure=>simp [intOf];omega
    ·go_upto_region 5 with fail;refine Sg<|bN (lI (a:=((i:Nat):Int)) (b:=((x.l:Nat):Int)) (decide_eq_false (by omega)))<|Nl ?_;simp only[pS];go_upto_region 11 with fail;refine Sg<|tU<|Nl ?_;simp only[pS];go_wp2;rw [HC.out];exact ⟨ret_bool (by rw [show entsP c.bl c.rm es=true from by unfold entsP;rw [rng_t (fun j hj=>HP.out j (by rw [HRE.out.len] at hj;omega)),HRE.out.len];simp only[bsq,q1]]),HF.out.kept⟩
theorem p_rightLasts (x:Sl) (ls:List La) (up:Int) (c:Cg) (w:World) (hb:0≤c.bl∧c.bl≤4096) (he:RdL w x ls) (hn:x.l≤281474976710656):Calls Tryz.prog 94 #[x.v,.int .i64 up,.agg (Cg.cells c)] w (fun e w'=>e=.returned (.bool (lassP c.bl up ls))∧Kept No w w'):=by
  refine hidC fun C HC=>?_;have HB:Hid (0≤c.bl∧c.bl≤4096):=hb;clear hb;have HRL:Hid (RdL w x ls):=he;clear he;have HF:Hid (Fq No w w []):=Fq.start _ _;go_enter Tryz.func94,Tryz.ntmps94;go_upto_region 0 with fail;refine Sg<|xB (Cg.cells c) HF fun g1 w2 HF=>tF<|Nl ?_;simp only[pS];go_upto_region 1 with fail;refine Sg<|tK (.int .i64 0)<|Nl ?_;simp only[pS];go_upto_region 2 with fail;refine Sg<|tK (x.v)<|tK (.int .i64 ((x.l:Nat):Int))<|tK (.int .i64 0)<|Nl ?_;simp only[pS];go_wp2
  go_loopw [7,12] (fun v7 v12 wr=>∃ i:Nat,v7=.int .i64 (lastC ls i)∧v12=.int .i64 ((i:Nat):Int)∧i≤x.l∧Hid (∀ j,j < i→lasP c.bl up ls j=true)∧Hid (Fq No w wr [(g1,24,Cg.cells c)])) (fun v7 v12 _=>x.l - (intOf v12).toNat)
  case atStart=>exact ⟨0,rfl,by go_num,by omega,fun j hj=>absurd hj (Nat.not_lt_zero _),HF⟩
  case round=>
    clear HF;obtain ⟨i,rfl,rfl,hi,HP,HF⟩:=hrel
    by_cases hlt:i < x.l
    ·obtain ⟨b,off,hsl,hc⟩:=RdL.at' HRL.out (i:=i) (by omega);go_upto_region 3 with fail;refine Sg<|bN (lI (a:=((i:Nat):Int)) (b:=((x.l:Nat):Int)) (decide_eq_true (by omega)))<|Nl ?_;simp only[pS];go_upto_region 4 with fail;refine Sg<|iS (s:=x) (i:=i) hsl E52 F52 (by omega)<|lR (load_L (fun j v h=>HF.out.kept.cell (hc j v h) (fun e=>e)))<|xA (La.cells laZ) Z108 HF fun g3 w4 HF=>sB (La.cs (lAt ls i)) (La.cs (lAt ls i)) HF 1 0 (v:=.agg (La.cells (lAt ls i))) rfl S108 (La.oneL _) (La.cs laZ) rfl fun w5 HF=>Nl ?_;simp only[pS];go_upto_region 5 with fail;refine Sg<|tK (pg g3 0)<|lD (.int .i64 (lAt ls i).cl) HF 1 0 U3 rfl<|tK (.int .i64 (lastC ls i))<|?_;simp only[pS];cases q1:(decide (((lAt ls i).cl)≤(lastC ls i)));rotate_left
     ·refine bN (leI q1)<|tU<|sK<|sK<|sK<|sK<|tU<|tU<|sK<|sK<|sK<|sK<|tU<|tU<|sK<|sK<|?_;simp only[pS];refine sK<|sK<|sK<|tU<|tU<|sK<|sK<|sK<|sK<|tU<|Nl ?_;simp only[pS];go_upto_region 6 with fail;refine Sg<|tF<|Nl ?_;simp only[pS];go_wp2;rw [HC.out];exact ⟨ret_bool (by rw [show lassP c.bl up ls=false from rng_f (i:=i) (by rw [HRL.out.len];exact hlt) (by simp only[lasP,bsq,q1])]),HF.out.kept⟩
     refine bN (leI q1)<|tF<|tK (pg g3 0)<|lD (.int .i64 (lAt ls i).cl) HF 1 0 U3 rfl<|?_;simp only[pS];cases q2:(wn ((lAt ls i).cl) 1 255)
     ·refine cB (p_rightId ((lAt ls i).cl) _) q2 HF fun w6 HF=>tU<|tU<|tU<|sK<|sK<|sK<|sK<|tU<|tU<|sK<|sK<|sK<|sK<|sK<|tU<|tU<|sK<|sK<|sK<|sK<|tU<|Nl ?_;simp only[pS];go_upto_region 6 with fail;refine Sg<|tF<|Nl ?_;simp only[pS];go_wp2;rw [HC.out];exact ⟨ret_bool (by rw [show lassP c.bl up ls=false from rng_f (i:=i) (by rw [HRL.out.len];exact hlt) (by simp only[lasP,bsq,q1,q2])]),HF.out.kept⟩
     refine cB (p_rightId ((lAt ls i).cl) _) q2 HF fun w7 HF=>tF<|tF<|tF<|tK (pg g3 1)<|lD (.int .i64 (lAt ls i).op) HF 1 1 U3 rfl<|?_;simp only[pS];cases q3:(wn ((lAt ls i).op) 1 1099511627776)
     ·refine cB (p_rightNum ((lAt ls i).op) _) q3 HF fun w8 HF=>tU<|tU<|tU<|sK<|sK<|sK<|sK<|sK<|tU<|tU<|sK<|sK<|sK<|sK<|tU<|Nl ?_;simp only[pS];go_upto_region 6 with fail;refine Sg<|tF<|Nl ?_;simp only[pS];go_wp2;rw [HC.out];exact ⟨ret_bool (by rw [show lassP c.bl up ls=false from rng_f (i:=i) (by rw [HRL.out.len];exact hlt) (by simp only[lasP,bsq,q1,q2,q3])]),HF.out.kept⟩
     refine cB (p_rightNum ((lAt ls i).op) _) q3 HF fun w9 HF=>tF<|tF<|tF<|tK (pg g3 2)<|lD (.int .i64 (lAt ls i).ins) HF 1 2 U3 rfl<|tK (.int .i64 up)<|?_;simp only[pS];cases q4:(wn ((lAt ls i).ins) 1 up)
     ·refine cB (p_within ((lAt ls i).ins) 1 up _) q4 HF fun w10 HF=>tU<|tU<|tU<|sK<|sK<|sK<|sK<|tU<|Nl ?_;simp only[pS];go_upto_region 6 with fail;refine Sg<|tF<|Nl ?_;simp only[pS];go_wp2;rw [HC.out];exact ⟨ret_bool (by rw [show lassP c.bl up ls=false from rng_f (i:=i) (by rw [HRL.out.len];exact hlt) (by simp only[lasP,bsq,q1,q2,q3,q4])]),HF.out.kept⟩
     refine cB (p_within ((lAt ls i).ins) 1 up _) q4 HF fun w11 HF=>tF<|tF<|tF<|lP (La.cs (lAt ls i)) HF 1 0 U108 S108 (La.cs (lAt ls i)) rfl<|lP (Cg.cs c) HF 0 0 U24 S24 (Cg.cs c) rfl<|?_;simp only[pS];cases q5:(ansP c.bl (lAt ls i))
     ·refine cB (p_rightAnswer (lAt ls i) c _ HB) q5 HF fun w12 HF=>tU<|tU<|Nl ?_;simp only[pS];go_upto_region 6 with fail;refine Sg<|tF<|Nl ?_;simp only[pS];go_wp2;rw [HC.out];exact ⟨ret_bool (by rw [show lassP c.bl up ls=false from rng_f (i:=i) (by rw [HRL.out.len];exact hlt) (by simp only[lasP,bsq,q1,q2,q3,q4,q5])]),HF.out.kept⟩
     refine cB (p_rightAnswer (lAt ls i) c _ HB) q5 HF fun w13 HF=>tF<|tF<|Nl ?_;simp only[pS];go_upto_region 7 with fail;refine Sg<|tK (pg g3 0)<|lD (.int .i64 (lAt ls i).cl) HF 1 0 U3 rfl<|tK (.int .i64 (lAt ls i).cl)<|Nl ?_;simp only[pS];go_upto_region 8 with fail;refine Sg<|bN (v:=.int .i64 (((i+1):Nat):Int)) (b_addw ((i:Nat):Int) 1 (((i+1):Nat):Int) (by rw [IntKind.wrap_i64];omega))<|tK (.int .i64 (((i+1):Nat):Int))<|Nl ?_;simp only[pS];go_wp2;go_roundw
     case rel=>exact ⟨i+1,rfl,by go_num,by omega,up_j HP.out (by simp only[lasP,bsq,q1,q2,q3,q4,q5]),Fq.front (l:=[(g1,24,Cg.cells c)]) (m:=[(g3,108,La.cells (lAt ls i))]) HF⟩
     case measure=>simp [intOf];omega
    ·go_upto_region 3 with fail;refine Sg<|bN (lI (a:=((i:Nat):Int)) (b:=((x.l:Nat):Int)) (decide_eq_false (by omega)))<|Nl ?_;simp only[pS];go_upto_region 9 with fail;refine Sg<|tU<|Nl ?_;simp only[pS];go_wp2;rw [HC.out];exact ⟨ret_bool (by rw [show lassP c.bl up ls=true from rng_t (fun j hj=>HP.out j (by rw [HRL.out.len] at hj;omega))]),HF.out.kept⟩
theorem p_rightBucket (x:Bv) (es:List En) (ls:List La) (c:Cg) (w:World) (hb:0≤c.bl∧c.bl≤4096) (he:RdE w x.e es) (hl:RdL w x.l ls) (hne:x.e.l≤281474976710656) (hnl:x.l.l≤281474976710656):Calls Tryz.prog 47 #[.agg (Bv.cells x),.agg (Cg.cells c)] w (fun e w'=>e=.returned (.bool (bktP c.bl c.rm x es ls))∧Kept No w w'):=by
  refine hidC fun C HC=>?_;have HB:Hid (0≤c.bl∧c.bl≤4096):=hb;clear hb;have HRE:Hid (RdE w x.e es):=he;have HRL:Hid (RdL w x.l ls):=hl;clear he hl;have HF:Hid (Fq No w w []):=Fq.start _ _;go_enter Tryz.func47,Tryz.ntmps47;go_upto_region 0 with fail;refine Sg<|xB (Bv.cells x) HF fun g1 w2 HF=>xB (Cg.cells c) HF fun g3 w4 HF=>tF<|Nl ?_;simp only[pS];go_upto_region 1 with fail;refine Sg<|tK (pg g1 0)<|lD (.int .i64 x.up) HF 0 0 U3 rfl<|?_;simp only[pS];cases q1:(x.up==0);rotate_left
  ·refine bN (eI q1)<|Nl ?_;simp only[pS];go_upto_region 2 with fail;refine Sg<|lP (Bv.cs x) HF 0 0 U54 S54 (Bv.cs x) rfl<|?_;simp only[pS];cases q5:(empK x)
   ·refine cB (p_emptyBucket x _) q5 HF fun w11 HF=>tF<|Nl ?_;simp only[pS];go_wp2;exact lf C HC HF (by simp only[*,bktP,bsq])
   refine cB (p_emptyBucket x _) q5 HF fun w12 HF=>tU<|Nl ?_;simp only[pS];go_wp2;exact lf C HC HF (by simp only[*,bktP,bsq])
  refine bN (eI q1)<|Nl ?_;simp only[pS];go_upto_region 3 with fail;refine Sg<|tK (pg g1 0)<|lD (.int .i64 x.up) HF 0 0 U3 rfl<|?_;simp only[pS];cases q2:(wn x.up 1 1048576)
  ·refine cB (p_within x.up 1 1048576 _) q2 HF fun w5 HF=>tF<|sK<|sK<|sK<|sK<|tF<|tF<|sK<|sK<|sK<|sK<|sK<|sK<|tF<|tF<|Nl ?_;simp only[pS];go_wp2;exact lf C HC HF (by simp only[*,bktP,bsq])
  refine cB (p_within x.up 1 1048576 _) q2 HF fun w6 HF=>tU<|tK (pg g1 1)<|lD (x.e.v) HF 0 1 U51 rfl<|lP (Cg.cs c) HF 1 0 U24 S24 (Cg.cs c) rfl<|?_;simp only[pS];cases q3:(entsP c.bl c.rm es)
  ·refine cB (p_rightEntries x.e es c _ HB (HRE.out.no HF.out.kept) hne) q3 HF fun w7 HF=>tF<|tF<|sK<|sK<|sK<|sK<|sK<|sK<|tF<|tF<|Nl ?_;simp only[pS];go_wp2;exact lf C HC HF (by simp only[*,bktP,bsq])
  refine cB (p_rightEntries x.e es c _ HB (HRE.out.no HF.out.kept) hne) q3 HF fun w8 HF=>tU<|tU<|tK (pg g1 2)<|lD (x.l.v) HF 0 2 U52 rfl<|tK (pg g1 0)<|lD (.int .i64 x.up) HF 0 0 U3 rfl<|lP (Cg.cs c) HF 1 0 U24 S24 (Cg.cs c) rfl<|?_;simp only[pS];cases q4:(lassP c.bl x.up ls)
  ·refine cB (p_rightLasts x.l ls x.up c _ HB (HRL.out.no HF.out.kept) hnl) q4 HF fun w9 HF=>tF<|tF<|Nl ?_;simp only[pS];go_wp2;exact lf C HC HF (by simp only[*,bktP,bsq])
  refine cB (p_rightLasts x.l ls x.up c _ HB (HRL.out.no HF.out.kept) hnl) q4 HF fun w10 HF=>tU<|tU<|Nl ?_;simp only[pS];go_wp2;exact lf C HC HF (by simp only[*,bktP,bsq])
section
variable {ops:Array Oper} {rest:List Oper} {o:Oper} {a:Act} {w:World} {Q:Exit→Act→World→Prop} {S:Nat→Prop} {w0:World} {l:List (Nat × TypeId × Array Value)}
end
theorem RdI.nil (w:World):RdI w slZ []:=⟨Nums.nil _ _ _,rfl⟩
theorem RdI.box {w:World} {g:Nat} {t:TypeId} {zs:List Int} (hb:Box w g t (zs.map (Value.int .i64)).toArray):RdI w ⟨some ⟨g,0,none⟩,zs.length,zs.length⟩ zs:=by
  refine ⟨fun i hi=>⟨g,0,rfl,?_⟩,rfl⟩
  rw [Nat.zero_add,hb.cell]
  simp [List.getElem?_eq_getElem hi]
structure SlO (w:World) (zs:List Int) (e:Ending) (w':World):Prop where
  out:∃ s:Sl,e=.returned s.v∧Kept No w w'∧RdI w' s zs∧s.l≤8
section
variable {ops:Array Oper} {a:Act} {w:World} {Q:Exit→Act→World→Prop} {md:Region.Mode} {S:Nat→Prop} {w0:World} {l:List (Nat × TypeId × Array Value)} {fuel:Nat} {listed:Array Bool}
end
def emptyF (m:Mg) (f:Int):Bool:=
  bif f==0 then eqS m.st spZ else bif f==1 then eqS m.hd spZ else bif f==2 then ((m.bl.l:Nat):Int)==0 else bif f==3 then eqC m.c cZ else bif f==4 then empK m.bk else bif f==5 then ((m.cm.l:Nat):Int)==0 else !m.mo
def fieldsK (k:Int):List Int:=
  if k=2∨k=11 then [0,2] else if k=3∨k=14∨k=15∨k=21 then [0] else if k=4 then [0,3] else if k=5∨k=16 then [3] else if k=13 then [0,1,3] else if k=17 then [4] else if k=22 then [0,2,4,5,6] else []
theorem Fq.join {S:Nat→Prop} {w0 w w':World} {l m:List (Nat × TypeId × Array Value)} (h:Fq S w0 w l) (k:Fq No w w' m):Fq S w0 w' (l++m):=by
  have hl:=h.no k.kept
  refine ⟨hl.kept,?_,?_,?_⟩
  · intro i g T cs hi
    rw [List.getElem?_append] at hi
    split at hi
    · exact hl.box i g T cs hi
    · exact k.box _ g T cs hi
  · intro i g T cs hi
    rw [List.getElem?_append] at hi
    split at hi
    · exact h.low i g T cs hi
    · rcases k.low _ g T cs hi with h1 | h1
      · exact .inl (Nat.le_trans h.kept.size h1)
      · exact h1.elim
  · intro i j g T1 c1 T2 c2 hi hj
    rw [List.getElem?_append] at hi hj
    split at hi <;> split at hj
    · exact h.inj i j g T1 c1 T2 c2 hi hj
    · have h1:=(h.box i g T1 c1 hi).lt
      rcases k.low _ g T2 c2 hj with h2 | h2
      · omega
      · exact h2.elim
    · have h1:=(h.box j g T2 c2 hj).lt
      rcases k.low _ g T1 c1 hi with h2 | h2
      · omega
      · exact h2.elim
    · have:=k.inj _ _ g T1 c1 T2 c2 hi hj
      omega
section
variable {ops:Array Oper} {rest:List Oper} {o:Oper} {a:Act} {w:World} {Q:Exit→Act→World→Prop} {S:Nat→Prop} {w0:World} {l:List (Nat × TypeId × Array Value)}
theorem hS {t:TypeId} {g n m len c:Nat} (ht:Tryz.prog.underlying t=some (.slice (Tryz.prog.elem t))) (hs:(Tryz.prog.info? (Tryz.prog.elem t)).map (·.size)=some c) (hm:0 < m) (hn:n≤m)
    (h:WL ops Q rest (a.put o.dst (.slice (some ⟨g,0,none⟩) n m)) w) {x y:Operand} (ho:o.op=.slice t x none (some y) none:=by rfl) (hx:a.eval x=.slice (some ⟨g,0,none⟩) len m:=by kernel_rfl) (hy:a.eval y=.int .i64 (n:Int):=by kernel_rfl)
    (hw:Region.wanted o (yielded ops a.tmps)=true:=by kernel_rfl):WL ops Q (o :: rest) a w:=by
  have e:=exec_slH (w:=w) t x y ho c ht hs _ len m n hx hy hn
  rw [sliced0 g n m c hm] at e
  exact tW _ e h hw
end
theorem put_mid (a b c:List Value) (v:List Value) (h:v.length=b.length):putL (a++(b++c)) a.length v=a++(v++c):=by
  unfold putL
  rw [List.take_left',h,← List.drop_drop,List.drop_left',List.drop_left']
  all_goals rfl
def mk3 (j:Nat):List Int:=List.replicate j 167++List.replicate (3 - j) 0
def i64L (zs:List Int):List Value:=zs.map (Value.int .i64)
def cgZ:Cg:=⟨slZ,0,0,0,0,0⟩
def fB (bs:List Int) (g:Nat):List (Nat × TypeId × Array Value):=[(g,5,(u8L (bs++mk3 3)).toArray)]
section
variable {ops:Array Oper} {a:Act} {w:World} {Q:Exit→Act→World→Prop} {md:Region.Mode} {S:Nat→Prop} {w0:World} {fuel:Nat} {listed:Array Bool}
end
end Go.Proofs.YtgdnofacgfjaeabGreat.Md
