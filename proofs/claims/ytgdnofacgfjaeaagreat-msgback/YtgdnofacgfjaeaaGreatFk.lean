import Derived.Test.YtgdnofacgfjaeaaGreatFi
namespace Go.Proofs.YtgdnofacgfjaeaaGreat.Md
set_option maxRecDepth 100000
set_option maxHeartbeats 4000000
open Go.RowKit
set_option linter.unusedVariables false
set_option linter.unusedSimpArgs false
theorem p_rightEnds (m:Mg) (c:Cg) (zs:List Int) (w:World) (hz:RdI w c.sv zs) (hnz:c.sv.l≤281474976710656):Calls Tryz.prog 86 #[.agg (Mg.cells m),.agg (Cg.cells c)] w (fun e w'=>e=.returned (.bool (endsP zs m))∧Kept No w w'):=by
  refine hidC fun C HC=>?_;have HZ:Hid (RdI w c.sv zs):=hz;clear hz;have HF:Hid (Fq No w w []):=Fq.start _ _;go_enter Tryz.func86,Tryz.ntmps86;go_upto_region 0 with fail;refine Sg<|xB (Mg.cells m) HF fun g1 w2 HF=>xB (Cg.cells c) HF fun g3 w4 HF=>tF<|Nl ?_;simp only[pS];go_upto_region 1 with fail;refine Sg<|tK (pg g1 0)<|lD (.int .i64 m.k) HF 0 0 U3 rfl<|Nl ?_;simp only[pS];go_upto_region 2 with fail;refine Sg<|?_;cases q1:(m.k==1);rotate_left
  ·refine bN (eI q1)<|tU<|Nl ?_;simp only[pS];go_upto_region 7 with fail;refine Sg<|tK (pg g1 1)<|lP (Ad.cs m.fr) HF 0 1 U30 S30 (Mg.cs m) rfl<|?_;simp only[pS];cases q69:(cliB m.fr)
   ·refine cB (p_isClient m.fr _) q69 HF fun w101 HF=>tF<|sK<|sK<|sK<|sK<|tF<|tF<|sK<|sK<|sK<|tF<|tF<|sK<|sK<|sK<|tF<|tF<|Nl ?_;simp only[pS];go_wp2;exact lf C HC HF (by simp only[*,endsP,bsq])
   refine cB (p_isClient m.fr _) q69 HF fun w102 HF=>tU<|tK (pg g1 3)<|lP (Ad.cs m.too) HF 0 3 U30 S30 (Mg.cs m) rfl<|lP (Cg.cs c) HF 1 0 U24 S24 (Cg.cs c) rfl<|?_;simp only[pS];cases q70:(srvB zs m.too)
   ·refine cB (p_isServer m.too c zs _ (HZ.out.no HF.out.kept) hnz) q70 HF fun w103 HF=>tF<|tF<|sK<|sK<|sK<|tF<|tF<|sK<|sK<|sK<|tF<|tF<|Nl ?_;simp only[pS];go_wp2;exact lf C HC HF (by simp only[*,endsP,bsq])
   refine cB (p_isServer m.too c zs _ (HZ.out.no HF.out.kept) hnz) q70 HF fun w104 HF=>tU<|tU<|tK (pg g1 5)<|lD (.int .i64 m.op) HF 0 5 U3 rfl<|?_;simp only[pS];cases q71:(wn m.op 1 1099511627776)
   ·refine cB (p_rightNum m.op _) q71 HF fun w105 HF=>tF<|tF<|sK<|sK<|sK<|tF<|tF<|Nl ?_;simp only[pS];go_wp2;exact lf C HC HF (by simp only[*,endsP,bsq])
   refine cB (p_rightNum m.op _) q71 HF fun w106 HF=>tU<|tU<|tK (pg g1 6)<|lD (.int .i64 m.rd) HF 0 6 U3 rfl<|?_;simp only[pS];cases q72:(wn m.rd 1 1099511627776)
   ·refine cB (p_rightNum m.rd _) q72 HF fun w107 HF=>tF<|tF<|Nl ?_;simp only[pS];go_wp2;exact lf C HC HF (by simp only[*,endsP,bsq])
   refine cB (p_rightNum m.rd _) q72 HF fun w108 HF=>tU<|tU<|Nl ?_;simp only[pS];go_wp2;exact lf C HC HF (by simp only[*,endsP,bsq])
  refine bN (eI q1)<|tF<|Nl ?_;simp only[pS];go_upto_region 3 with fail;refine Sg<|?_;cases q2:(m.k==2);rotate_left
  ·refine bN (eI q2)<|tU<|Nl ?_;simp only[pS];go_upto_region 7 with fail;refine Sg<|tK (pg g1 1)<|lP (Ad.cs m.fr) HF 0 1 U30 S30 (Mg.cs m) rfl<|?_;simp only[pS];cases q65:(cliB m.fr)
   ·refine cB (p_isClient m.fr _) q65 HF fun w93 HF=>tF<|sK<|sK<|sK<|sK<|tF<|tF<|sK<|sK<|sK<|tF<|tF<|sK<|sK<|sK<|tF<|tF<|Nl ?_;simp only[pS];go_wp2;exact lf C HC HF (by simp only[*,endsP,bsq])
   refine cB (p_isClient m.fr _) q65 HF fun w94 HF=>tU<|tK (pg g1 3)<|lP (Ad.cs m.too) HF 0 3 U30 S30 (Mg.cs m) rfl<|lP (Cg.cs c) HF 1 0 U24 S24 (Cg.cs c) rfl<|?_;simp only[pS];cases q66:(srvB zs m.too)
   ·refine cB (p_isServer m.too c zs _ (HZ.out.no HF.out.kept) hnz) q66 HF fun w95 HF=>tF<|tF<|sK<|sK<|sK<|tF<|tF<|sK<|sK<|sK<|tF<|tF<|Nl ?_;simp only[pS];go_wp2;exact lf C HC HF (by simp only[*,endsP,bsq])
   refine cB (p_isServer m.too c zs _ (HZ.out.no HF.out.kept) hnz) q66 HF fun w96 HF=>tU<|tU<|tK (pg g1 5)<|lD (.int .i64 m.op) HF 0 5 U3 rfl<|?_;simp only[pS];cases q67:(wn m.op 1 1099511627776)
   ·refine cB (p_rightNum m.op _) q67 HF fun w97 HF=>tF<|tF<|sK<|sK<|sK<|tF<|tF<|Nl ?_;simp only[pS];go_wp2;exact lf C HC HF (by simp only[*,endsP,bsq])
   refine cB (p_rightNum m.op _) q67 HF fun w98 HF=>tU<|tU<|tK (pg g1 6)<|lD (.int .i64 m.rd) HF 0 6 U3 rfl<|?_;simp only[pS];cases q68:(wn m.rd 1 1099511627776)
   ·refine cB (p_rightNum m.rd _) q68 HF fun w99 HF=>tF<|tF<|Nl ?_;simp only[pS];go_wp2;exact lf C HC HF (by simp only[*,endsP,bsq])
   refine cB (p_rightNum m.rd _) q68 HF fun w100 HF=>tU<|tU<|Nl ?_;simp only[pS];go_wp2;exact lf C HC HF (by simp only[*,endsP,bsq])
  refine bN (eI q2)<|tF<|Nl ?_;simp only[pS];go_upto_region 4 with fail;refine Sg<|?_;cases q3:(m.k==3);rotate_left
  ·refine bN (eI q3)<|tU<|Nl ?_;simp only[pS];go_upto_region 7 with fail;refine Sg<|tK (pg g1 1)<|lP (Ad.cs m.fr) HF 0 1 U30 S30 (Mg.cs m) rfl<|?_;simp only[pS];cases q61:(cliB m.fr)
   ·refine cB (p_isClient m.fr _) q61 HF fun w85 HF=>tF<|sK<|sK<|sK<|sK<|tF<|tF<|sK<|sK<|sK<|tF<|tF<|sK<|sK<|sK<|tF<|tF<|Nl ?_;simp only[pS];go_wp2;exact lf C HC HF (by simp only[*,endsP,bsq])
   refine cB (p_isClient m.fr _) q61 HF fun w86 HF=>tU<|tK (pg g1 3)<|lP (Ad.cs m.too) HF 0 3 U30 S30 (Mg.cs m) rfl<|lP (Cg.cs c) HF 1 0 U24 S24 (Cg.cs c) rfl<|?_;simp only[pS];cases q62:(srvB zs m.too)
   ·refine cB (p_isServer m.too c zs _ (HZ.out.no HF.out.kept) hnz) q62 HF fun w87 HF=>tF<|tF<|sK<|sK<|sK<|tF<|tF<|sK<|sK<|sK<|tF<|tF<|Nl ?_;simp only[pS];go_wp2;exact lf C HC HF (by simp only[*,endsP,bsq])
   refine cB (p_isServer m.too c zs _ (HZ.out.no HF.out.kept) hnz) q62 HF fun w88 HF=>tU<|tU<|tK (pg g1 5)<|lD (.int .i64 m.op) HF 0 5 U3 rfl<|?_;simp only[pS];cases q63:(wn m.op 1 1099511627776)
   ·refine cB (p_rightNum m.op _) q63 HF fun w89 HF=>tF<|tF<|sK<|sK<|sK<|tF<|tF<|Nl ?_;simp only[pS];go_wp2;exact lf C HC HF (by simp only[*,endsP,bsq])
   refine cB (p_rightNum m.op _) q63 HF fun w90 HF=>tU<|tU<|tK (pg g1 6)<|lD (.int .i64 m.rd) HF 0 6 U3 rfl<|?_;simp only[pS];cases q64:(wn m.rd 1 1099511627776)
   ·refine cB (p_rightNum m.rd _) q64 HF fun w91 HF=>tF<|tF<|Nl ?_;simp only[pS];go_wp2;exact lf C HC HF (by simp only[*,endsP,bsq])
   refine cB (p_rightNum m.rd _) q64 HF fun w92 HF=>tU<|tU<|Nl ?_;simp only[pS];go_wp2;exact lf C HC HF (by simp only[*,endsP,bsq])
  refine bN (eI q3)<|tF<|Nl ?_;simp only[pS];go_upto_region 5 with fail;refine Sg<|?_;cases q4:(m.k==4);rotate_left
  ·refine bN (eI q4)<|tU<|Nl ?_;simp only[pS];go_upto_region 7 with fail;refine Sg<|tK (pg g1 1)<|lP (Ad.cs m.fr) HF 0 1 U30 S30 (Mg.cs m) rfl<|?_;simp only[pS];cases q57:(cliB m.fr)
   ·refine cB (p_isClient m.fr _) q57 HF fun w77 HF=>tF<|sK<|sK<|sK<|sK<|tF<|tF<|sK<|sK<|sK<|tF<|tF<|sK<|sK<|sK<|tF<|tF<|Nl ?_;simp only[pS];go_wp2;exact lf C HC HF (by simp only[*,endsP,bsq])
   refine cB (p_isClient m.fr _) q57 HF fun w78 HF=>tU<|tK (pg g1 3)<|lP (Ad.cs m.too) HF 0 3 U30 S30 (Mg.cs m) rfl<|lP (Cg.cs c) HF 1 0 U24 S24 (Cg.cs c) rfl<|?_;simp only[pS];cases q58:(srvB zs m.too)
   ·refine cB (p_isServer m.too c zs _ (HZ.out.no HF.out.kept) hnz) q58 HF fun w79 HF=>tF<|tF<|sK<|sK<|sK<|tF<|tF<|sK<|sK<|sK<|tF<|tF<|Nl ?_;simp only[pS];go_wp2;exact lf C HC HF (by simp only[*,endsP,bsq])
   refine cB (p_isServer m.too c zs _ (HZ.out.no HF.out.kept) hnz) q58 HF fun w80 HF=>tU<|tU<|tK (pg g1 5)<|lD (.int .i64 m.op) HF 0 5 U3 rfl<|?_;simp only[pS];cases q59:(wn m.op 1 1099511627776)
   ·refine cB (p_rightNum m.op _) q59 HF fun w81 HF=>tF<|tF<|sK<|sK<|sK<|tF<|tF<|Nl ?_;simp only[pS];go_wp2;exact lf C HC HF (by simp only[*,endsP,bsq])
   refine cB (p_rightNum m.op _) q59 HF fun w82 HF=>tU<|tU<|tK (pg g1 6)<|lD (.int .i64 m.rd) HF 0 6 U3 rfl<|?_;simp only[pS];cases q60:(wn m.rd 1 1099511627776)
   ·refine cB (p_rightNum m.rd _) q60 HF fun w83 HF=>tF<|tF<|Nl ?_;simp only[pS];go_wp2;exact lf C HC HF (by simp only[*,endsP,bsq])
   refine cB (p_rightNum m.rd _) q60 HF fun w84 HF=>tU<|tU<|Nl ?_;simp only[pS];go_wp2;exact lf C HC HF (by simp only[*,endsP,bsq])
  refine bN (eI q4)<|tF<|Nl ?_;simp only[pS];go_upto_region 6 with fail;refine Sg<|?_;cases q5:(m.k==5);rotate_left
  ·refine bN (eI q5)<|tU<|Nl ?_;simp only[pS];go_upto_region 7 with fail;refine Sg<|tK (pg g1 1)<|lP (Ad.cs m.fr) HF 0 1 U30 S30 (Mg.cs m) rfl<|?_;simp only[pS];cases q53:(cliB m.fr)
   ·refine cB (p_isClient m.fr _) q53 HF fun w69 HF=>tF<|sK<|sK<|sK<|sK<|tF<|tF<|sK<|sK<|sK<|tF<|tF<|sK<|sK<|sK<|tF<|tF<|Nl ?_;simp only[pS];go_wp2;exact lf C HC HF (by simp only[*,endsP,bsq])
   refine cB (p_isClient m.fr _) q53 HF fun w70 HF=>tU<|tK (pg g1 3)<|lP (Ad.cs m.too) HF 0 3 U30 S30 (Mg.cs m) rfl<|lP (Cg.cs c) HF 1 0 U24 S24 (Cg.cs c) rfl<|?_;simp only[pS];cases q54:(srvB zs m.too)
   ·refine cB (p_isServer m.too c zs _ (HZ.out.no HF.out.kept) hnz) q54 HF fun w71 HF=>tF<|tF<|sK<|sK<|sK<|tF<|tF<|sK<|sK<|sK<|tF<|tF<|Nl ?_;simp only[pS];go_wp2;exact lf C HC HF (by simp only[*,endsP,bsq])
   refine cB (p_isServer m.too c zs _ (HZ.out.no HF.out.kept) hnz) q54 HF fun w72 HF=>tU<|tU<|tK (pg g1 5)<|lD (.int .i64 m.op) HF 0 5 U3 rfl<|?_;simp only[pS];cases q55:(wn m.op 1 1099511627776)
   ·refine cB (p_rightNum m.op _) q55 HF fun w73 HF=>tF<|tF<|sK<|sK<|sK<|tF<|tF<|Nl ?_;simp only[pS];go_wp2;exact lf C HC HF (by simp only[*,endsP,bsq])
   refine cB (p_rightNum m.op _) q55 HF fun w74 HF=>tU<|tU<|tK (pg g1 6)<|lD (.int .i64 m.rd) HF 0 6 U3 rfl<|?_;simp only[pS];cases q56:(wn m.rd 1 1099511627776)
   ·refine cB (p_rightNum m.rd _) q56 HF fun w75 HF=>tF<|tF<|Nl ?_;simp only[pS];go_wp2;exact lf C HC HF (by simp only[*,endsP,bsq])
   refine cB (p_rightNum m.rd _) q56 HF fun w76 HF=>tU<|tU<|Nl ?_;simp only[pS];go_wp2;exact lf C HC HF (by simp only[*,endsP,bsq])
  refine bN (eI q5)<|tF<|Nl ?_;simp only[pS];go_upto_region 8 with fail;refine Sg<|?_;cases q6:(m.k==11);rotate_left
  ·refine bN (eI q6)<|tU<|Nl ?_;simp only[pS];go_upto_region 15 with fail;refine Sg<|tK (pg g1 1)<|lP (Ad.cs m.fr) HF 0 1 U30 S30 (Mg.cs m) rfl<|lP (Cg.cs c) HF 1 0 U24 S24 (Cg.cs c) rfl<|?_;simp only[pS];cases q49:(srvB zs m.fr)
   ·refine cB (p_isServer m.fr c zs _ (HZ.out.no HF.out.kept) hnz) q49 HF fun w61 HF=>tF<|sK<|sK<|sK<|tF<|tF<|sK<|sK<|sK<|tF<|tF<|sK<|sK<|sK<|tF<|tF<|Nl ?_;simp only[pS];go_wp2;exact lf C HC HF (by simp only[*,endsP,bsq])
   refine cB (p_isServer m.fr c zs _ (HZ.out.no HF.out.kept) hnz) q49 HF fun w62 HF=>tU<|tK (pg g1 3)<|lP (Ad.cs m.too) HF 0 3 U30 S30 (Mg.cs m) rfl<|?_;simp only[pS];cases q50:(cliB m.too)
   ·refine cB (p_isClient m.too _) q50 HF fun w63 HF=>tF<|tF<|sK<|sK<|sK<|tF<|tF<|sK<|sK<|sK<|tF<|tF<|Nl ?_;simp only[pS];go_wp2;exact lf C HC HF (by simp only[*,endsP,bsq])
   refine cB (p_isClient m.too _) q50 HF fun w64 HF=>tU<|tU<|tK (pg g1 5)<|lD (.int .i64 m.op) HF 0 5 U3 rfl<|?_;simp only[pS];cases q51:(wn m.op 1 1099511627776)
   ·refine cB (p_rightNum m.op _) q51 HF fun w65 HF=>tF<|tF<|sK<|sK<|sK<|tF<|tF<|Nl ?_;simp only[pS];go_wp2;exact lf C HC HF (by simp only[*,endsP,bsq])
   refine cB (p_rightNum m.op _) q51 HF fun w66 HF=>tU<|tU<|tK (pg g1 6)<|lD (.int .i64 m.rd) HF 0 6 U3 rfl<|?_;simp only[pS];cases q52:(wn m.rd 1 1099511627776)
   ·refine cB (p_rightNum m.rd _) q52 HF fun w67 HF=>tF<|tF<|Nl ?_;simp only[pS];go_wp2;exact lf C HC HF (by simp only[*,endsP,bsq])
   refine cB (p_rightNum m.rd _) q52 HF fun w68 HF=>tU<|tU<|Nl ?_;simp only[pS];go_wp2;exact lf C HC HF (by simp only[*,endsP,bsq])
  refine bN (eI q6)<|tF<|Nl ?_;simp only[pS];go_upto_region 9 with fail;refine Sg<|?_;cases q7:(m.k==12);rotate_left
  ·refine bN (eI q7)<|tU<|Nl ?_;simp only[pS];go_upto_region 15 with fail;refine Sg<|tK (pg g1 1)<|lP (Ad.cs m.fr) HF 0 1 U30 S30 (Mg.cs m) rfl<|lP (Cg.cs c) HF 1 0 U24 S24 (Cg.cs c) rfl<|?_;simp only[pS];cases q45:(srvB zs m.fr)
   ·refine cB (p_isServer m.fr c zs _ (HZ.out.no HF.out.kept) hnz) q45 HF fun w53 HF=>tF<|sK<|sK<|sK<|tF<|tF<|sK<|sK<|sK<|tF<|tF<|sK<|sK<|sK<|tF<|tF<|Nl ?_;simp only[pS];go_wp2;exact lf C HC HF (by simp only[*,endsP,bsq])
   refine cB (p_isServer m.fr c zs _ (HZ.out.no HF.out.kept) hnz) q45 HF fun w54 HF=>tU<|tK (pg g1 3)<|lP (Ad.cs m.too) HF 0 3 U30 S30 (Mg.cs m) rfl<|?_;simp only[pS];cases q46:(cliB m.too)
   ·refine cB (p_isClient m.too _) q46 HF fun w55 HF=>tF<|tF<|sK<|sK<|sK<|tF<|tF<|sK<|sK<|sK<|tF<|tF<|Nl ?_;simp only[pS];go_wp2;exact lf C HC HF (by simp only[*,endsP,bsq])
   refine cB (p_isClient m.too _) q46 HF fun w56 HF=>tU<|tU<|tK (pg g1 5)<|lD (.int .i64 m.op) HF 0 5 U3 rfl<|?_;simp only[pS];cases q47:(wn m.op 1 1099511627776)
   ·refine cB (p_rightNum m.op _) q47 HF fun w57 HF=>tF<|tF<|sK<|sK<|sK<|tF<|tF<|Nl ?_;simp only[pS];go_wp2;exact lf C HC HF (by simp only[*,endsP,bsq])
   refine cB (p_rightNum m.op _) q47 HF fun w58 HF=>tU<|tU<|tK (pg g1 6)<|lD (.int .i64 m.rd) HF 0 6 U3 rfl<|?_;simp only[pS];cases q48:(wn m.rd 1 1099511627776)
   ·refine cB (p_rightNum m.rd _) q48 HF fun w59 HF=>tF<|tF<|Nl ?_;simp only[pS];go_wp2;exact lf C HC HF (by simp only[*,endsP,bsq])
   refine cB (p_rightNum m.rd _) q48 HF fun w60 HF=>tU<|tU<|Nl ?_;simp only[pS];go_wp2;exact lf C HC HF (by simp only[*,endsP,bsq])
  refine bN (eI q7)<|tF<|Nl ?_;simp only[pS];go_upto_region 10 with fail;refine Sg<|?_;cases q8:(m.k==13);rotate_left
  ·refine bN (eI q8)<|tU<|Nl ?_;simp only[pS];go_upto_region 15 with fail;refine Sg<|tK (pg g1 1)<|lP (Ad.cs m.fr) HF 0 1 U30 S30 (Mg.cs m) rfl<|lP (Cg.cs c) HF 1 0 U24 S24 (Cg.cs c) rfl<|?_;simp only[pS];cases q41:(srvB zs m.fr)
   ·refine cB (p_isServer m.fr c zs _ (HZ.out.no HF.out.kept) hnz) q41 HF fun w45 HF=>tF<|sK<|sK<|sK<|tF<|tF<|sK<|sK<|sK<|tF<|tF<|sK<|sK<|sK<|tF<|tF<|Nl ?_;simp only[pS];go_wp2;exact lf C HC HF (by simp only[*,endsP,bsq])
   refine cB (p_isServer m.fr c zs _ (HZ.out.no HF.out.kept) hnz) q41 HF fun w46 HF=>tU<|tK (pg g1 3)<|lP (Ad.cs m.too) HF 0 3 U30 S30 (Mg.cs m) rfl<|?_;simp only[pS];cases q42:(cliB m.too)
   ·refine cB (p_isClient m.too _) q42 HF fun w47 HF=>tF<|tF<|sK<|sK<|sK<|tF<|tF<|sK<|sK<|sK<|tF<|tF<|Nl ?_;simp only[pS];go_wp2;exact lf C HC HF (by simp only[*,endsP,bsq])
   refine cB (p_isClient m.too _) q42 HF fun w48 HF=>tU<|tU<|tK (pg g1 5)<|lD (.int .i64 m.op) HF 0 5 U3 rfl<|?_;simp only[pS];cases q43:(wn m.op 1 1099511627776)
   ·refine cB (p_rightNum m.op _) q43 HF fun w49 HF=>tF<|tF<|sK<|sK<|sK<|tF<|tF<|Nl ?_;simp only[pS];go_wp2;exact lf C HC HF (by simp only[*,endsP,bsq])
   refine cB (p_rightNum m.op _) q43 HF fun w50 HF=>tU<|tU<|tK (pg g1 6)<|lD (.int .i64 m.rd) HF 0 6 U3 rfl<|?_;simp only[pS];cases q44:(wn m.rd 1 1099511627776)
   ·refine cB (p_rightNum m.rd _) q44 HF fun w51 HF=>tF<|tF<|Nl ?_;simp only[pS];go_wp2;exact lf C HC HF (by simp only[*,endsP,bsq])
   refine cB (p_rightNum m.rd _) q44 HF fun w52 HF=>tU<|tU<|Nl ?_;simp only[pS];go_wp2;exact lf C HC HF (by simp only[*,endsP,bsq])
  refine bN (eI q8)<|tF<|Nl ?_;simp only[pS];go_upto_region 11 with fail;refine Sg<|?_;cases q9:(m.k==14);rotate_left
  ·refine bN (eI q9)<|tU<|Nl ?_;simp only[pS];go_upto_region 15 with fail;refine Sg<|tK (pg g1 1)<|lP (Ad.cs m.fr) HF 0 1 U30 S30 (Mg.cs m) rfl<|lP (Cg.cs c) HF 1 0 U24 S24 (Cg.cs c) rfl<|?_;simp only[pS];cases q37:(srvB zs m.fr)
   ·refine cB (p_isServer m.fr c zs _ (HZ.out.no HF.out.kept) hnz) q37 HF fun w37 HF=>tF<|sK<|sK<|sK<|tF<|tF<|sK<|sK<|sK<|tF<|tF<|sK<|sK<|sK<|tF<|tF<|Nl ?_;simp only[pS];go_wp2;exact lf C HC HF (by simp only[*,endsP,bsq])
   refine cB (p_isServer m.fr c zs _ (HZ.out.no HF.out.kept) hnz) q37 HF fun w38 HF=>tU<|tK (pg g1 3)<|lP (Ad.cs m.too) HF 0 3 U30 S30 (Mg.cs m) rfl<|?_;simp only[pS];cases q38:(cliB m.too)
   ·refine cB (p_isClient m.too _) q38 HF fun w39 HF=>tF<|tF<|sK<|sK<|sK<|tF<|tF<|sK<|sK<|sK<|tF<|tF<|Nl ?_;simp only[pS];go_wp2;exact lf C HC HF (by simp only[*,endsP,bsq])
   refine cB (p_isClient m.too _) q38 HF fun w40 HF=>tU<|tU<|tK (pg g1 5)<|lD (.int .i64 m.op) HF 0 5 U3 rfl<|?_;simp only[pS];cases q39:(wn m.op 1 1099511627776)
   ·refine cB (p_rightNum m.op _) q39 HF fun w41 HF=>tF<|tF<|sK<|sK<|sK<|tF<|tF<|Nl ?_;simp only[pS];go_wp2;exact lf C HC HF (by simp only[*,endsP,bsq])
   refine cB (p_rightNum m.op _) q39 HF fun w42 HF=>tU<|tU<|tK (pg g1 6)<|lD (.int .i64 m.rd) HF 0 6 U3 rfl<|?_;simp only[pS];cases q40:(wn m.rd 1 1099511627776)
   ·refine cB (p_rightNum m.rd _) q40 HF fun w43 HF=>tF<|tF<|Nl ?_;simp only[pS];go_wp2;exact lf C HC HF (by simp only[*,endsP,bsq])
   refine cB (p_rightNum m.rd _) q40 HF fun w44 HF=>tU<|tU<|Nl ?_;simp only[pS];go_wp2;exact lf C HC HF (by simp only[*,endsP,bsq])
  refine bN (eI q9)<|tF<|Nl ?_;simp only[pS];go_upto_region 12 with fail;refine Sg<|?_;cases q10:(m.k==15);rotate_left
  ·refine bN (eI q10)<|tU<|Nl ?_;simp only[pS];go_upto_region 15 with fail;refine Sg<|tK (pg g1 1)<|lP (Ad.cs m.fr) HF 0 1 U30 S30 (Mg.cs m) rfl<|lP (Cg.cs c) HF 1 0 U24 S24 (Cg.cs c) rfl<|?_;simp only[pS];cases q33:(srvB zs m.fr)
   ·refine cB (p_isServer m.fr c zs _ (HZ.out.no HF.out.kept) hnz) q33 HF fun w29 HF=>tF<|sK<|sK<|sK<|tF<|tF<|sK<|sK<|sK<|tF<|tF<|sK<|sK<|sK<|tF<|tF<|Nl ?_;simp only[pS];go_wp2;exact lf C HC HF (by simp only[*,endsP,bsq])
   refine cB (p_isServer m.fr c zs _ (HZ.out.no HF.out.kept) hnz) q33 HF fun w30 HF=>tU<|tK (pg g1 3)<|lP (Ad.cs m.too) HF 0 3 U30 S30 (Mg.cs m) rfl<|?_;simp only[pS];cases q34:(cliB m.too)
   ·refine cB (p_isClient m.too _) q34 HF fun w31 HF=>tF<|tF<|sK<|sK<|sK<|tF<|tF<|sK<|sK<|sK<|tF<|tF<|Nl ?_;simp only[pS];go_wp2;exact lf C HC HF (by simp only[*,endsP,bsq])
   refine cB (p_isClient m.too _) q34 HF fun w32 HF=>tU<|tU<|tK (pg g1 5)<|lD (.int .i64 m.op) HF 0 5 U3 rfl<|?_;simp only[pS];cases q35:(wn m.op 1 1099511627776)
   ·refine cB (p_rightNum m.op _) q35 HF fun w33 HF=>tF<|tF<|sK<|sK<|sK<|tF<|tF<|Nl ?_;simp only[pS];go_wp2;exact lf C HC HF (by simp only[*,endsP,bsq])
   refine cB (p_rightNum m.op _) q35 HF fun w34 HF=>tU<|tU<|tK (pg g1 6)<|lD (.int .i64 m.rd) HF 0 6 U3 rfl<|?_;simp only[pS];cases q36:(wn m.rd 1 1099511627776)
   ·refine cB (p_rightNum m.rd _) q36 HF fun w35 HF=>tF<|tF<|Nl ?_;simp only[pS];go_wp2;exact lf C HC HF (by simp only[*,endsP,bsq])
   refine cB (p_rightNum m.rd _) q36 HF fun w36 HF=>tU<|tU<|Nl ?_;simp only[pS];go_wp2;exact lf C HC HF (by simp only[*,endsP,bsq])
  refine bN (eI q10)<|tF<|Nl ?_;simp only[pS];go_upto_region 13 with fail;refine Sg<|?_;cases q11:(m.k==16);rotate_left
  ·refine bN (eI q11)<|tU<|Nl ?_;simp only[pS];go_upto_region 15 with fail;refine Sg<|tK (pg g1 1)<|lP (Ad.cs m.fr) HF 0 1 U30 S30 (Mg.cs m) rfl<|lP (Cg.cs c) HF 1 0 U24 S24 (Cg.cs c) rfl<|?_;simp only[pS];cases q29:(srvB zs m.fr)
   ·refine cB (p_isServer m.fr c zs _ (HZ.out.no HF.out.kept) hnz) q29 HF fun w21 HF=>tF<|sK<|sK<|sK<|tF<|tF<|sK<|sK<|sK<|tF<|tF<|sK<|sK<|sK<|tF<|tF<|Nl ?_;simp only[pS];go_wp2;exact lf C HC HF (by simp only[*,endsP,bsq])
   refine cB (p_isServer m.fr c zs _ (HZ.out.no HF.out.kept) hnz) q29 HF fun w22 HF=>tU<|tK (pg g1 3)<|lP (Ad.cs m.too) HF 0 3 U30 S30 (Mg.cs m) rfl<|?_;simp only[pS];cases q30:(cliB m.too)
   ·refine cB (p_isClient m.too _) q30 HF fun w23 HF=>tF<|tF<|sK<|sK<|sK<|tF<|tF<|sK<|sK<|sK<|tF<|tF<|Nl ?_;simp only[pS];go_wp2;exact lf C HC HF (by simp only[*,endsP,bsq])
   refine cB (p_isClient m.too _) q30 HF fun w24 HF=>tU<|tU<|tK (pg g1 5)<|lD (.int .i64 m.op) HF 0 5 U3 rfl<|?_;simp only[pS];cases q31:(wn m.op 1 1099511627776)
   ·refine cB (p_rightNum m.op _) q31 HF fun w25 HF=>tF<|tF<|sK<|sK<|sK<|tF<|tF<|Nl ?_;simp only[pS];go_wp2;exact lf C HC HF (by simp only[*,endsP,bsq])
   refine cB (p_rightNum m.op _) q31 HF fun w26 HF=>tU<|tU<|tK (pg g1 6)<|lD (.int .i64 m.rd) HF 0 6 U3 rfl<|?_;simp only[pS];cases q32:(wn m.rd 1 1099511627776)
   ·refine cB (p_rightNum m.rd _) q32 HF fun w27 HF=>tF<|tF<|Nl ?_;simp only[pS];go_wp2;exact lf C HC HF (by simp only[*,endsP,bsq])
   refine cB (p_rightNum m.rd _) q32 HF fun w28 HF=>tU<|tU<|Nl ?_;simp only[pS];go_wp2;exact lf C HC HF (by simp only[*,endsP,bsq])
  refine bN (eI q11)<|tF<|Nl ?_;simp only[pS];go_upto_region 14 with fail;refine Sg<|?_;cases q12:(m.k==17);rotate_left
  ·refine bN (eI q12)<|tU<|Nl ?_;simp only[pS];go_upto_region 15 with fail;refine Sg<|tK (pg g1 1)<|lP (Ad.cs m.fr) HF 0 1 U30 S30 (Mg.cs m) rfl<|lP (Cg.cs c) HF 1 0 U24 S24 (Cg.cs c) rfl<|?_;simp only[pS];cases q25:(srvB zs m.fr)
   ·refine cB (p_isServer m.fr c zs _ (HZ.out.no HF.out.kept) hnz) q25 HF fun w13 HF=>tF<|sK<|sK<|sK<|tF<|tF<|sK<|sK<|sK<|tF<|tF<|sK<|sK<|sK<|tF<|tF<|Nl ?_;simp only[pS];go_wp2;exact lf C HC HF (by simp only[*,endsP,bsq])
   refine cB (p_isServer m.fr c zs _ (HZ.out.no HF.out.kept) hnz) q25 HF fun w14 HF=>tU<|tK (pg g1 3)<|lP (Ad.cs m.too) HF 0 3 U30 S30 (Mg.cs m) rfl<|?_;simp only[pS];cases q26:(cliB m.too)
   ·refine cB (p_isClient m.too _) q26 HF fun w15 HF=>tF<|tF<|sK<|sK<|sK<|tF<|tF<|sK<|sK<|sK<|tF<|tF<|Nl ?_;simp only[pS];go_wp2;exact lf C HC HF (by simp only[*,endsP,bsq])
   refine cB (p_isClient m.too _) q26 HF fun w16 HF=>tU<|tU<|tK (pg g1 5)<|lD (.int .i64 m.op) HF 0 5 U3 rfl<|?_;simp only[pS];cases q27:(wn m.op 1 1099511627776)
   ·refine cB (p_rightNum m.op _) q27 HF fun w17 HF=>tF<|tF<|sK<|sK<|sK<|tF<|tF<|Nl ?_;simp only[pS];go_wp2;exact lf C HC HF (by simp only[*,endsP,bsq])
   refine cB (p_rightNum m.op _) q27 HF fun w18 HF=>tU<|tU<|tK (pg g1 6)<|lD (.int .i64 m.rd) HF 0 6 U3 rfl<|?_;simp only[pS];cases q28:(wn m.rd 1 1099511627776)
   ·refine cB (p_rightNum m.rd _) q28 HF fun w19 HF=>tF<|tF<|Nl ?_;simp only[pS];go_wp2;exact lf C HC HF (by simp only[*,endsP,bsq])
   refine cB (p_rightNum m.rd _) q28 HF fun w20 HF=>tU<|tU<|Nl ?_;simp only[pS];go_wp2;exact lf C HC HF (by simp only[*,endsP,bsq])
  refine bN (eI q12)<|tF<|Nl ?_;simp only[pS];go_upto_region 16 with fail;refine Sg<|?_;cases q13:(m.k==21);rotate_left
  ·refine bN (eI q13)<|tU<|Nl ?_;simp only[pS];go_upto_region 18 with fail;refine Sg<|tK (pg g1 1)<|lP (Ad.cs m.fr) HF 0 1 U30 S30 (Mg.cs m) rfl<|lP (Cg.cs c) HF 1 0 U24 S24 (Cg.cs c) rfl<|?_;simp only[pS];cases q20:(srvB zs m.fr)
   ·refine cB (p_isServer m.fr c zs _ (HZ.out.no HF.out.kept) hnz) q20 HF fun w9 HF=>tF<|sK<|sK<|sK<|sK<|tF<|tF<|sK<|sK<|sK<|sK<|sK<|tF<|tF<|sK<|?_;simp only[pS];refine sK<|sK<|tF<|tF<|sK<|sK<|sK<|tF<|tF<|Nl ?_;simp only[pS];go_wp2;exact lf C HC HF (by simp only[*,endsP,bsq])
   refine cB (p_isServer m.fr c zs _ (HZ.out.no HF.out.kept) hnz) q20 HF fun w10 HF=>tU<|tK (pg g1 3)<|lP (Ad.cs m.too) HF 0 3 U30 S30 (Mg.cs m) rfl<|lP (Cg.cs c) HF 1 0 U24 S24 (Cg.cs c) rfl<|?_;simp only[pS];cases q21:(srvB zs m.too)
   ·refine cB (p_isServer m.too c zs _ (HZ.out.no HF.out.kept) hnz) q21 HF fun w11 HF=>tF<|tF<|sK<|sK<|sK<|sK<|sK<|tF<|tF<|sK<|sK<|sK<|tF<|tF<|sK<|sK<|sK<|tF<|tF<|Nl ?_;simp only[pS];go_wp2;exact lf C HC HF (by simp only[*,endsP,bsq])
   refine cB (p_isServer m.too c zs _ (HZ.out.no HF.out.kept) hnz) q21 HF fun w12 HF=>tU<|tU<|tK (pg g1 1)<|lP (Ad.cs m.fr) HF 0 1 U30 S30 (Mg.cs m) rfl<|tK (pg g1 3)<|lP (Ad.cs m.too) HF 0 3 U30 S30 (Mg.cs m) rfl<|?_;simp only[pS];cases q22:(eqA m.fr m.too);rotate_left
   ·refine bN (qn1A q22)<|tF<|tF<|sK<|sK<|sK<|tF<|tF<|sK<|sK<|sK<|tF<|tF<|Nl ?_;simp only[pS];go_wp2;exact lf C HC HF (by simp only[*,endsP,bsq])
   refine bN (qn0A q22)<|tU<|tU<|tK (pg g1 5)<|lD (.int .i64 m.op) HF 0 5 U3 rfl<|?_;simp only[pS];cases q23:(m.op==0)
   ·refine bN (eI q23)<|tF<|tF<|sK<|sK<|sK<|tF<|tF<|Nl ?_;simp only[pS];go_wp2;exact lf C HC HF (by simp only[*,endsP,bsq])
   refine bN (eI q23)<|tU<|tU<|tK (pg g1 6)<|lD (.int .i64 m.rd) HF 0 6 U3 rfl<|?_;simp only[pS];cases q24:(m.rd==0)
   ·refine bN (eI q24)<|tF<|tF<|Nl ?_;simp only[pS];go_wp2;exact lf C HC HF (by simp only[*,endsP,bsq])
   refine bN (eI q24)<|tU<|tU<|Nl ?_;simp only[pS];go_wp2;exact lf C HC HF (by simp only[*,endsP,bsq])
  refine bN (eI q13)<|tF<|Nl ?_;simp only[pS];go_upto_region 17 with fail;refine Sg<|?_;cases q14:(m.k==22)
  ·refine bN (eI q14)<|tF<|Nl ?_;simp only[pS];go_upto_region 19 with fail;refine Sg<|tF<|Nl ?_;simp only[pS];go_wp2;exact lf C HC HF (by simp only[*,endsP,bsq])
  refine bN (eI q14)<|tU<|Nl ?_;simp only[pS];go_upto_region 18 with fail;refine Sg<|tK (pg g1 1)<|lP (Ad.cs m.fr) HF 0 1 U30 S30 (Mg.cs m) rfl<|lP (Cg.cs c) HF 1 0 U24 S24 (Cg.cs c) rfl<|?_;simp only[pS];cases q15:(srvB zs m.fr)
  ·refine cB (p_isServer m.fr c zs _ (HZ.out.no HF.out.kept) hnz) q15 HF fun w5 HF=>tF<|sK<|sK<|sK<|sK<|tF<|tF<|sK<|sK<|sK<|sK<|sK<|tF<|tF<|sK<|?_;simp only[pS];refine sK<|sK<|tF<|tF<|sK<|sK<|sK<|tF<|tF<|Nl ?_;simp only[pS];go_wp2;exact lf C HC HF (by simp only[*,endsP,bsq])
  refine cB (p_isServer m.fr c zs _ (HZ.out.no HF.out.kept) hnz) q15 HF fun w6 HF=>tU<|tK (pg g1 3)<|lP (Ad.cs m.too) HF 0 3 U30 S30 (Mg.cs m) rfl<|lP (Cg.cs c) HF 1 0 U24 S24 (Cg.cs c) rfl<|?_;simp only[pS];cases q16:(srvB zs m.too)
  ·refine cB (p_isServer m.too c zs _ (HZ.out.no HF.out.kept) hnz) q16 HF fun w7 HF=>tF<|tF<|sK<|sK<|sK<|sK<|sK<|tF<|tF<|sK<|sK<|sK<|tF<|tF<|sK<|sK<|sK<|tF<|tF<|Nl ?_;simp only[pS];go_wp2;exact lf C HC HF (by simp only[*,endsP,bsq])
  refine cB (p_isServer m.too c zs _ (HZ.out.no HF.out.kept) hnz) q16 HF fun w8 HF=>tU<|tU<|tK (pg g1 1)<|lP (Ad.cs m.fr) HF 0 1 U30 S30 (Mg.cs m) rfl<|tK (pg g1 3)<|lP (Ad.cs m.too) HF 0 3 U30 S30 (Mg.cs m) rfl<|?_;simp only[pS];cases q17:(eqA m.fr m.too);rotate_left
  ·refine bN (qn1A q17)<|tF<|tF<|sK<|sK<|sK<|tF<|tF<|sK<|sK<|sK<|tF<|tF<|Nl ?_;simp only[pS];go_wp2;exact lf C HC HF (by simp only[*,endsP,bsq])
  refine bN (qn0A q17)<|tU<|tU<|tK (pg g1 5)<|lD (.int .i64 m.op) HF 0 5 U3 rfl<|?_;simp only[pS];cases q18:(m.op==0)
  ·refine bN (eI q18)<|tF<|tF<|sK<|sK<|sK<|tF<|tF<|Nl ?_;simp only[pS];go_wp2;exact lf C HC HF (by simp only[*,endsP,bsq])
  refine bN (eI q18)<|tU<|tU<|tK (pg g1 6)<|lD (.int .i64 m.rd) HF 0 6 U3 rfl<|?_;simp only[pS];cases q19:(m.rd==0)
  ·refine bN (eI q19)<|tF<|tF<|Nl ?_;simp only[pS];go_wp2;exact lf C HC HF (by simp only[*,endsP,bsq])
  refine bN (eI q19)<|tU<|tU<|Nl ?_;simp only[pS];go_wp2;exact lf C HC HF (by simp only[*,endsP,bsq])
theorem p_rightKey (m:Mg) (c:Cg) (w:World) (hu:1≤c.bu∧c.bu≤256):Calls Tryz.prog 87 #[.agg (Mg.cells m),.agg (Cg.cells c)] w (fun e w'=>e=.returned (.bool (keyP c.bu m))∧Kept No w w'):=by
  refine hidC fun C HC=>?_;have HU:Hid (1≤c.bu∧c.bu≤256):=hu;clear hu;have HF:Hid (Fq No w w []):=Fq.start _ _;go_enter Tryz.func87,Tryz.ntmps87;go_upto_region 0 with fail;refine Sg<|xB (Mg.cells m) HF fun g1 w2 HF=>xB (Cg.cells c) HF fun g3 w4 HF=>tF<|Nl ?_;simp only[pS];go_upto_region 1 with fail;refine Sg<|tK (pg g1 7)<|lP (Ky.cs m.ky) HF 0 7 U32 S32 (Mg.cs m) rfl<|lP (Cg.cs c) HF 1 0 U24 S24 (Cg.cs c) rfl<|?_;simp only[pS];cases q1:(keyR c.bu m.ky)
  ·refine cB (g_Right m.ky c _ HU) q1 HF fun w5 HF=>tU<|Nl ?_;simp only[pS];go_upto_region 2 with fail;refine Sg<|tF<|Nl ?_;simp only[pS];go_wp2;exact lf C HC HF (by simp only[*,keyP,bsq])
  refine cB (g_Right m.ky c _ HU) q1 HF fun w6 HF=>tF<|Nl ?_;simp only[pS];go_upto_region 3 with fail;refine Sg<|tK (pg g1 0)<|lD (.int .i64 m.k) HF 0 0 U3 rfl<|Nl ?_;simp only[pS];go_upto_region 4 with fail;refine Sg<|?_;cases q2:(m.k==1);rotate_left
  ·refine bN (eI q2)<|tU<|Nl ?_;simp only[pS];go_upto_region 8 with fail;refine Sg<|tK (pg g1 7)<|tK (pg g1 7)<|lD (.int .i64 m.ky.k) HF 0 7 U3 rfl<|?_;simp only[pS];cases q16:(m.ky.k==1)
   ·refine bN (eI q16)<|tF<|Nl ?_;simp only[pS];go_wp2;exact lf C HC HF (by simp only[*,keyP,bsq])
   refine bN (eI q16)<|tU<|Nl ?_;simp only[pS];go_wp2;exact lf C HC HF (by simp only[*,keyP,bsq])
  refine bN (eI q2)<|tF<|Nl ?_;simp only[pS];go_upto_region 5 with fail;refine Sg<|?_;cases q3:(m.k==2);rotate_left
  ·refine bN (eI q3)<|tU<|Nl ?_;simp only[pS];go_upto_region 8 with fail;refine Sg<|tK (pg g1 7)<|tK (pg g1 7)<|lD (.int .i64 m.ky.k) HF 0 7 U3 rfl<|?_;simp only[pS];cases q15:(m.ky.k==1)
   ·refine bN (eI q15)<|tF<|Nl ?_;simp only[pS];go_wp2;exact lf C HC HF (by simp only[*,keyP,bsq])
   refine bN (eI q15)<|tU<|Nl ?_;simp only[pS];go_wp2;exact lf C HC HF (by simp only[*,keyP,bsq])
  refine bN (eI q3)<|tF<|Nl ?_;simp only[pS];go_upto_region 6 with fail;refine Sg<|?_;cases q4:(m.k==11);rotate_left
  ·refine bN (eI q4)<|tU<|Nl ?_;simp only[pS];go_upto_region 8 with fail;refine Sg<|tK (pg g1 7)<|tK (pg g1 7)<|lD (.int .i64 m.ky.k) HF 0 7 U3 rfl<|?_;simp only[pS];cases q14:(m.ky.k==1)
   ·refine bN (eI q14)<|tF<|Nl ?_;simp only[pS];go_wp2;exact lf C HC HF (by simp only[*,keyP,bsq])
   refine bN (eI q14)<|tU<|Nl ?_;simp only[pS];go_wp2;exact lf C HC HF (by simp only[*,keyP,bsq])
  refine bN (eI q4)<|tF<|Nl ?_;simp only[pS];go_upto_region 7 with fail;refine Sg<|?_;cases q5:(m.k==12);rotate_left
  ·refine bN (eI q5)<|tU<|Nl ?_;simp only[pS];go_upto_region 8 with fail;refine Sg<|tK (pg g1 7)<|tK (pg g1 7)<|lD (.int .i64 m.ky.k) HF 0 7 U3 rfl<|?_;simp only[pS];cases q13:(m.ky.k==1)
   ·refine bN (eI q13)<|tF<|Nl ?_;simp only[pS];go_wp2;exact lf C HC HF (by simp only[*,keyP,bsq])
   refine bN (eI q13)<|tU<|Nl ?_;simp only[pS];go_wp2;exact lf C HC HF (by simp only[*,keyP,bsq])
  refine bN (eI q5)<|tF<|Nl ?_;simp only[pS];go_upto_region 9 with fail;refine Sg<|?_;cases q6:(m.k==21);rotate_left
  ·refine bN (eI q6)<|tU<|Nl ?_;simp only[pS];go_upto_region 11 with fail;refine Sg<|tK (pg g1 7)<|tK (pg g1 7)<|lD (.int .i64 m.ky.k) HF 0 7 U3 rfl<|?_;simp only[pS];cases q11:(m.ky.k==1);rotate_left
   ·refine bN (eI q11)<|tU<|sK<|sK<|sK<|sK<|tU<|tU<|Nl ?_;simp only[pS];go_wp2;exact lf C HC HF (by simp only[*,keyP,bsq])
   refine bN (eI q11)<|tF<|tK (pg g1 7)<|tK (pg g1 7)<|lD (.int .i64 m.ky.k) HF 0 7 U3 rfl<|?_;simp only[pS];cases q12:(m.ky.k==2)
   ·refine bN (eI q12)<|tF<|tF<|Nl ?_;simp only[pS];go_wp2;exact lf C HC HF (by simp only[*,keyP,bsq])
   refine bN (eI q12)<|tU<|tU<|Nl ?_;simp only[pS];go_wp2;exact lf C HC HF (by simp only[*,keyP,bsq])
  refine bN (eI q6)<|tF<|Nl ?_;simp only[pS];go_upto_region 10 with fail;refine Sg<|?_;cases q7:(m.k==22)
  ·refine bN (eI q7)<|tF<|Nl ?_;simp only[pS];go_upto_region 12 with fail;refine Sg<|tK (pg g1 7)<|tK (pg g1 7)<|lD (.int .i64 m.ky.k) HF 0 7 U3 rfl<|?_;simp only[pS];cases q8:(m.ky.k==3)
   ·refine bN (eI q8)<|tF<|Nl ?_;simp only[pS];go_wp2;exact lf C HC HF (by simp only[*,keyP,bsq])
   refine bN (eI q8)<|tU<|Nl ?_;simp only[pS];go_wp2;exact lf C HC HF (by simp only[*,keyP,bsq])
  refine bN (eI q7)<|tU<|Nl ?_;simp only[pS];go_upto_region 11 with fail;refine Sg<|tK (pg g1 7)<|tK (pg g1 7)<|lD (.int .i64 m.ky.k) HF 0 7 U3 rfl<|?_;simp only[pS];cases q9:(m.ky.k==1);rotate_left
  ·refine bN (eI q9)<|tU<|sK<|sK<|sK<|sK<|tU<|tU<|Nl ?_;simp only[pS];go_wp2;exact lf C HC HF (by simp only[*,keyP,bsq])
  refine bN (eI q9)<|tF<|tK (pg g1 7)<|tK (pg g1 7)<|lD (.int .i64 m.ky.k) HF 0 7 U3 rfl<|?_;simp only[pS];cases q10:(m.ky.k==2)
  ·refine bN (eI q10)<|tF<|tF<|Nl ?_;simp only[pS];go_wp2;exact lf C HC HF (by simp only[*,keyP,bsq])
  refine bN (eI q10)<|tU<|tU<|Nl ?_;simp only[pS];go_wp2;exact lf C HC HF (by simp only[*,keyP,bsq])
theorem p_rightRow (f:Int) (x:Sl) (cs:List Cm) (c:Cg) (w:World) (hb:0≤c.bl∧c.bl≤4096) (hf:0≤f∧f≤2000000) (h4:RdC w x cs) (hn:x.l≤281474976710656):Calls Tryz.prog 216 #[.int .i64 f,x.v,.agg (Cg.cells c)] w (fun e w'=>e=.returned (.bool (rowsP c.bl f x cs))∧Kept No w w'):=by
  refine hidC fun C HC=>?_;have HB:Hid (0≤c.bl∧c.bl≤4096):=hb;clear hb;have HFr:Hid (0≤f∧f≤2000000):=hf;clear hf;have HRC:Hid (RdC w x cs):=h4;clear h4;have HF:Hid (Fq No w w []):=Fq.start _ _;go_enter Tryz.func216,Tryz.ntmps216;go_upto_region 0 with fail;refine Sg<|xB (Cg.cells c) HF fun g1 w2 HF=>tF<|Nl ?_;simp only[pS];go_upto_region 1 with fail;refine Sg<|tK (x.v)<|tK (.int .i64 ((x.l:Nat):Int))<|?_;simp only[pS];cases q1:(decide (64 < ((x.l:Nat):Int)));rotate_left
  ·refine bN (gI q1)<|tU<|sK<|sK<|sK<|sK<|sK<|tU<|Nl ?_;simp only[pS];go_upto_region 2 with fail;refine Sg<|tF<|Nl ?_;simp only[pS];go_wp2;exact lf C HC HF (by simp only[*,rowsP,bsq])
  refine bN (gI q1)<|tF<|tK (.int .i64 f)<|tK (x.v)<|tK (.int .i64 ((x.l:Nat):Int))<|bN (v:=.int .i64 (f+((x.l:Nat):Int))) (b_addw f ((x.l:Nat):Int) (f+((x.l:Nat):Int)) (by rw [IntKind.wrap_i64];have h1:=HFr.out;have h2:=of_decide_eq_false q1;omega))<|?_;simp only[pS];cases q2:(decide (1048577 < (f+((x.l:Nat):Int))));rotate_left
  ·refine bN (gI q2)<|tU<|Nl ?_;simp only[pS];go_upto_region 2 with fail;refine Sg<|tF<|Nl ?_;simp only[pS];go_wp2;exact lf C HC HF (by simp only[*,rowsP,bsq])
  refine bN (gI q2)<|tF<|Nl ?_;simp only[pS];go_upto_region 3 with fail;refine Sg<|tK (x.v)<|tK (.int .i64 ((x.l:Nat):Int))<|tK (.int .i64 0)<|Nl ?_;simp only[pS];go_wp2
  go_loopw [21] (fun v21 wr=>∃ i:Nat,v21=.int .i64 ((i:Nat):Int)∧i≤x.l∧Hid (∀ j,j < i→(eqC (cAt cs j) cZ||cmdP c.bl (cAt cs j))=true)∧Hid (Fq No w wr [(g1,24,Cg.cells c)])) (fun v21 _=>x.l - (intOf v21).toNat)
  case atStart=>exact ⟨0,by go_num,by omega,fun j hj=>absurd hj (Nat.not_lt_zero _),HF⟩
  case round=>
    clear HF;obtain ⟨i,rfl,hi,HP,HF⟩:=hrel
    by_cases hlt:i < x.l
    ·obtain ⟨b,off,hsl,hc⟩:=RdC.at' HRC.out (i:=i) (by omega);go_upto_region 4 with fail;refine Sg<|bN (lI (a:=((i:Nat):Int)) (b:=((x.l:Nat):Int)) (decide_eq_true (by omega)))<|Nl ?_;simp only[pS];go_upto_region 5 with fail;refine Sg<|iS (s:=x) (i:=i) hsl E26 F26 (by omega)<|lR (load_Ca (fun j v h=>HF.out.kept.cell (hc j v h) (fun e=>e)))<|xA (Cm.cells cZ) Z39 HF fun g3 w4 HF=>sB (Cm.cs (cAt cs i)) (Cm.cs (cAt cs i)) HF 1 0 (v:=.agg (Cm.cells (cAt cs i))) rfl S39 (Cm.oneL _) (Cm.cs cZ) rfl fun w5 HF=>Nl ?_;simp only[pS];go_upto_region 6 with fail;refine Sg<|lP (Cm.cs (cAt cs i)) HF 1 0 U39 S39 (Cm.cs (cAt cs i)) rfl<|bD (Cm.cells cZ)<|?_;simp only[pS];cases q3:(eqC (cAt cs i) cZ);rotate_left
     ·refine bN (qn1C q3)<|tF<|sK<|sK<|sK<|sK<|tF<|Nl ?_;simp only[pS];go_upto_region 8 with fail;refine Sg<|bN (v:=.int .i64 (((i+1):Nat):Int)) (b_addw ((i:Nat):Int) 1 (((i+1):Nat):Int) (by rw [IntKind.wrap_i64];omega))<|tK (.int .i64 (((i+1):Nat):Int))<|Nl ?_;simp only[pS];go_wp2;go_roundw
      case rel=>exact ⟨i+1,by go_num,by omega,up_j (P:=fun j=>(eqC (cAt cs j) cZ||cmdP c.bl (cAt cs j))=true) HP.out (by simp only[bsq,q3]),Fq.front (l:=[(g1,24,Cg.cells c)]) (m:=[(g3,39,Cm.cells (cAt cs i))]) HF⟩
      case measure=>simp [intOf];omega
     refine bN (qn0C q3)<|tU<|lP (Cm.cs (cAt cs i)) HF 1 0 U39 S39 (Cm.cs (cAt cs i)) rfl<|lP (Cg.cs c) HF 0 0 U24 S24 (Cg.cs c) rfl<|?_;simp only[pS];cases q4:(cmdP c.bl (cAt cs i))
     ·refine cB (p_rightCommand (cAt cs i) c _ HB) q4 HF fun w6 HF=>tU<|tU<|Nl ?_;simp only[pS];go_upto_region 7 with fail;refine Sg<|tF<|Nl ?_;simp only[pS];go_wp2;rw [HC.out];exact ⟨ret_bool (by rw [show rowsP c.bl f x cs=false from by unfold rowsP;rw [show rowP c.bl cs=false from rng_f (i:=i) (by rw [HRC.out.len];exact hlt) (by simp only[bsq,q3,q4])];simp only[bsq,q1,q2]]),HF.out.kept⟩
     refine cB (p_rightCommand (cAt cs i) c _ HB) q4 HF fun w7 HF=>tF<|tF<|Nl ?_;simp only[pS];go_upto_region 8 with fail;refine Sg<|bN (v:=.int .i64 (((i+1):Nat):Int)) (b_addw ((i:Nat):Int) 1 (((i+1):Nat):Int) (by rw [IntKind.wrap_i64];omega))<|tK (.int .i64 (((i+1):Nat):Int))<|Nl ?_;simp only[pS];go_wp2;go_roundw
     case rel=>exact ⟨i+1,by go_num,by omega,up_j (P:=fun j=>(eqC (cAt cs j) cZ||cmdP c.bl (cAt cs j))=true) HP.out (by simp only[bsq,q3,q4]),Fq.front (l:=[(g1,24,Cg.cells c)]) (m:=[(g3,39,Cm.cells (cAt cs i))]) HF⟩
     case measure=>simp [intOf];omega
    ·go_upto_region 4 with fail;refine Sg<|bN (lI (a:=((i:Nat):Int)) (b:=((x.l:Nat):Int)) (decide_eq_false (by omega)))<|Nl ?_;simp only[pS];go_upto_region 9 with fail;refine Sg<|tU<|Nl ?_;simp only[pS];go_wp2;rw [HC.out];exact ⟨ret_bool (by rw [show rowsP c.bl f x cs=true from by unfold rowsP;rw [show rowP c.bl cs=true from rng_t (fun j hj=>HP.out j (by rw [HRC.out.len] at hj;omega))];simp only[bsq,q1,q2]]),HF.out.kept⟩
theorem p_rightHave (m:Mg) (es:List En) (ls:List La) (cs:List Cm) (c:Cg) (w:World) (hb:0≤c.bl∧c.bl≤4096) (h2:RdE w m.bk.e es) (h3:RdL w m.bk.l ls) (h4:RdC w m.cm cs) (hne:m.bk.e.l≤281474976710656) (hnl:m.bk.l.l≤281474976710656) (hnc:m.cm.l≤281474976710656):Calls Tryz.prog 171 #[.agg (Mg.cells m),.agg (Cg.cells c)] w (fun e w'=>e=.returned (.bool (haveP c.bl c.rm m es ls cs))∧Kept No w w'):=by
  refine hidC fun C HC=>?_;have HB:Hid (0≤c.bl∧c.bl≤4096):=hb;clear hb;have HRE:Hid (RdE w m.bk.e es):=h2;clear h2;have HRL:Hid (RdL w m.bk.l ls):=h3;clear h3;have HRC:Hid (RdC w m.cm cs):=h4;clear h4;have HF:Hid (Fq No w w []):=Fq.start _ _;go_enter Tryz.func171,Tryz.ntmps171;go_upto_region 0 with fail;refine Sg<|xB (Mg.cells m) HF fun g1 w2 HF=>xB (Cg.cells c) HF fun g3 w4 HF=>tF<|Nl ?_;simp only[pS];go_upto_region 1 with fail;refine Sg<|tK (pg g1 7)<|tK (pg g1 7)<|lD (.int .i64 m.ky.k) HF 0 7 U3 rfl<|?_;simp only[pS];cases q1:(m.ky.k==1);rotate_left
  ·refine bN (eI q1)<|tU<|tK (pg g1 11)<|lP (Sp.cs m.st) HF 0 11 U34 S34 (Mg.cs m) rfl<|?_;simp only[pS];cases q9:(eqS m.st spZ);rotate_left
   ·refine cB (p_isNone m.st _) q9 HF fun w28 HF=>tU<|tU<|Nl ?_;simp only[pS];go_upto_region 2 with fail;refine Sg<|lP (Mg.cs m) HF 0 0 U45 S45 (Mg.cs m) rfl<|?_;simp only[pS];cases q13:(onlyP m [])
    ·refine cB (p_only m slZ [] _ (RdI.nil _) (by decide)) q13 HF fun w29 HF=>tF<|Nl ?_;simp only[pS];go_wp2;exact lf C HC HF (by simp only[*,haveP,bsq])
    refine cB (p_only m slZ [] _ (RdI.nil _) (by decide)) q13 HF fun w30 HF=>tU<|Nl ?_;simp only[pS];go_wp2;exact lf C HC HF (by simp only[*,haveP,bsq])
   refine cB (p_isNone m.st _) q9 HF fun w21 HF=>tF<|tF<|Nl ?_;simp only[pS];go_upto_region 3 with fail;refine Sg<|tK (pg g1 7)<|tK (pg g1 7)<|lD (.int .i64 m.ky.k) HF 0 7 U3 rfl<|bN (eI q1)<|tU<|Nl ?_;simp only[pS];go_upto_region 4 with fail;refine Sg<|lP (Mg.cs m) HF 0 0 U45 S45 (Mg.cs m) rfl<|bS ([0,2]:List Int) HF fun g22 w23 HF=>?_;simp only[pS];cases q10:(onlyP m [0,2])
   ·refine cB (p_only m ⟨some ⟨g22,0,none⟩,2,2⟩ [0,2] _ (RdI.box (HF.out.box 2 _ _ _ rfl)) (by show 2≤281474976710656;omega)) q10 HF fun w24 HF=>tF<|sK<|sK<|sK<|tF<|tF<|sK<|sK<|sK<|sK<|sK<|sK<|tF<|tF<|Nl ?_;simp only[pS];go_wp2;exact lf C HC HF (by simp only[*,haveP,bsq])
   refine cB (p_only m ⟨some ⟨g22,0,none⟩,2,2⟩ [0,2] _ (RdI.box (HF.out.box 2 _ _ _ rfl)) (by show 2≤281474976710656;omega)) q10 HF fun w25 HF=>tU<|tK (pg g1 11)<|lP (Sp.cs m.st) HF 0 11 U34 S34 (Mg.cs m) rfl<|?_;simp only[pS];cases q11:(oneS m.st)
   ·refine cB (p_isOne m.st _) q11 HF fun w26 HF=>tF<|tF<|sK<|sK<|sK<|sK<|sK<|sK<|tF<|tF<|Nl ?_;simp only[pS];go_wp2;exact lf C HC HF (by simp only[*,haveP,bsq])
   refine cB (p_isOne m.st _) q11 HF fun w27 HF=>tU<|tU<|tK (pg g1 15)<|lD (m.bl.v) HF 0 15 U35 rfl<|tK (.int .i64 ((m.bl.l:Nat):Int))<|tK (pg g3 4)<|lD (.int .i64 c.bl) HF 1 4 U3 rfl<|?_;simp only[pS];cases q12:(((m.bl.l:Nat):Int)==c.bl)
   ·refine bN (eI q12)<|tF<|tF<|Nl ?_;simp only[pS];go_wp2;exact lf C HC HF (by simp only[*,haveP,bsq])
   refine bN (eI q12)<|tU<|tU<|Nl ?_;simp only[pS];go_wp2;exact lf C HC HF (by simp only[*,haveP,bsq])
  refine bN (eI q1)<|tF<|sK<|sK<|sK<|tF<|tF<|Nl ?_;simp only[pS];go_upto_region 3 with fail;refine Sg<|tK (pg g1 7)<|tK (pg g1 7)<|lD (.int .i64 m.ky.k) HF 0 7 U3 rfl<|bN (eI q1)<|tF<|Nl ?_;simp only[pS];go_upto_region 5 with fail;refine Sg<|tK (pg g1 11)<|lP (Sp.cs m.st) HF 0 11 U34 S34 (Mg.cs m) rfl<|?_;simp only[pS];cases q2:(eqS m.st spZ)
  ·refine cB (p_isNone m.st _) q2 HF fun w5 HF=>tF<|Nl ?_;simp only[pS];go_upto_region 7 with fail;refine Sg<|lP (Mg.cs m) HF 0 0 U45 S45 (Mg.cs m) rfl<|bS ([0,5,6]:List Int) HF fun g6 w7 HF=>?_;simp only[pS];cases q3:(onlyP m [0,5,6])
   ·refine cB (p_only m ⟨some ⟨g6,0,none⟩,3,3⟩ [0,5,6] _ (RdI.box (HF.out.box 2 _ _ _ rfl)) (by show 3≤281474976710656;omega)) q3 HF fun w8 HF=>tF<|sK<|sK<|sK<|tF<|tF<|sK<|sK<|sK<|sK<|sK<|sK<|sK<|tF<|tF<|Nl ?_;simp only[pS];go_wp2;exact lf C HC HF (by simp only[*,haveP,bsq])
   refine cB (p_only m ⟨some ⟨g6,0,none⟩,3,3⟩ [0,5,6] _ (RdI.box (HF.out.box 2 _ _ _ rfl)) (by show 3≤281474976710656;omega)) q3 HF fun w9 HF=>tU<|tK (pg g1 11)<|lP (Sp.cs m.st) HF 0 11 U34 S34 (Mg.cs m) rfl<|?_;simp only[pS];cases q4:(frmS m.st)
   ·refine cB (p_isFrom m.st _) q4 HF fun w10 HF=>tF<|tF<|sK<|sK<|sK<|sK<|sK<|sK<|sK<|tF<|tF<|Nl ?_;simp only[pS];go_wp2;exact lf C HC HF (by simp only[*,haveP,bsq])
   refine cB (p_isFrom m.st _) q4 HF fun w11 HF=>tU<|tU<|tK (pg g1 11)<|tK (pg g1 11)<|lD (.int .i64 m.st.n) HF 0 11 U3 rfl<|tK (pg g1 28)<|lD (m.cm.v) HF 0 28 U26 rfl<|lP (Cg.cs c) HF 1 0 U24 S24 (Cg.cs c) rfl<|?_;simp only[pS];cases q5:(rowsP c.bl m.st.n m.cm cs)
   ·refine cB (p_rightRow m.st.n m.cm cs c _ HB (frm_bd q4) (HRC.out.no HF.out.kept) hnc) q5 HF fun w12 HF=>tF<|tF<|Nl ?_;simp only[pS];go_wp2;exact lf C HC HF (by simp only[*,haveP,bsq])
   refine cB (p_rightRow m.st.n m.cm cs c _ HB (frm_bd q4) (HRC.out.no HF.out.kept) hnc) q5 HF fun w13 HF=>tU<|tU<|Nl ?_;simp only[pS];go_wp2;exact lf C HC HF (by simp only[*,haveP,bsq])
  refine cB (p_isNone m.st _) q2 HF fun w14 HF=>tU<|Nl ?_;simp only[pS];go_upto_region 6 with fail;refine Sg<|lP (Mg.cs m) HF 0 0 U45 S45 (Mg.cs m) rfl<|bS ([4,6]:List Int) HF fun g15 w16 HF=>?_;simp only[pS];cases q6:(onlyP m [4,6])
  ·refine cB (p_only m ⟨some ⟨g15,0,none⟩,2,2⟩ [4,6] _ (RdI.box (HF.out.box 2 _ _ _ rfl)) (by show 2≤281474976710656;omega)) q6 HF fun w17 HF=>tF<|sK<|sK<|sK<|sK<|tF<|tF<|sK<|sK<|sK<|sK<|tF<|tF<|Nl ?_;simp only[pS];go_wp2;exact lf C HC HF (by simp only[*,haveP,bsq])
  refine cB (p_only m ⟨some ⟨g15,0,none⟩,2,2⟩ [4,6] _ (RdI.box (HF.out.box 2 _ _ _ rfl)) (by show 2≤281474976710656;omega)) q6 HF fun w18 HF=>tU<|tK (pg g1 25)<|tK (pg g1 25)<|lD (.int .i64 m.bk.up) HF 0 25 U3 rfl<|?_;simp only[pS];cases q7:(decide (0 < m.bk.up))
  ·refine bN (gI q7)<|tF<|tF<|sK<|sK<|sK<|sK<|tF<|tF<|Nl ?_;simp only[pS];go_wp2;exact lf C HC HF (by simp only[*,haveP,bsq])
  refine bN (gI q7)<|tU<|tU<|tK (pg g1 25)<|lP (Bv.cs m.bk) HF 0 25 U43 S43 (Mg.cs m) rfl<|lP (Cg.cs c) HF 1 0 U24 S24 (Cg.cs c) rfl<|?_;simp only[pS];cases q8:(bktP c.bl c.rm m.bk es ls)
  ·refine cB (p_rightBucket m.bk es ls c _ HB (HRE.out.no HF.out.kept) (HRL.out.no HF.out.kept) hne hnl) q8 HF fun w19 HF=>tF<|tF<|Nl ?_;simp only[pS];go_wp2;exact lf C HC HF (by simp only[*,haveP,bsq])
  refine cB (p_rightBucket m.bk es ls c _ HB (HRE.out.no HF.out.kept) (HRL.out.no HF.out.kept) hne hnl) q8 HF fun w20 HF=>tU<|tU<|Nl ?_;simp only[pS];go_wp2;exact lf C HC HF (by simp only[*,haveP,bsq])
theorem p_rightFields (m:Mg) (bs:List Int) (es:List En) (ls:List La) (cs:List Cm) (c:Cg) (w:World) (hb:0≤c.bl∧c.bl≤4096) (h1:RdB w m.bl bs) (h2:RdE w m.bk.e es) (h3:RdL w m.bk.l ls) (h4:RdC w m.cm cs) (hnb:m.bl.l≤281474976710656) (hne:m.bk.e.l≤281474976710656) (hnl:m.bk.l.l≤281474976710656) (hnc:m.cm.l≤281474976710656):Calls Tryz.prog 90 #[.agg (Mg.cells m),.agg (Cg.cells c)] w (fun e w'=>e=.returned (.bool (fldsP c.bl c.rm m bs es ls cs))∧Kept No w w'):=by
  refine hidC fun C HC=>?_;have HB:Hid (0≤c.bl∧c.bl≤4096):=hb;clear hb;have HRB:Hid (RdB w m.bl bs):=h1;clear h1;have HRE:Hid (RdE w m.bk.e es):=h2;clear h2;have HRL:Hid (RdL w m.bk.l ls):=h3;clear h3;have HRC:Hid (RdC w m.cm cs):=h4;clear h4;have HF:Hid (Fq No w w []):=Fq.start _ _;go_enter Tryz.func90,Tryz.ntmps90;go_upto_region 0 with fail;refine Sg<|xB (Mg.cells m) HF fun g1 w2 HF=>xB (Cg.cells c) HF fun g3 w4 HF=>tF<|Nl ?_;simp only[pS];go_upto_region 1 with fail;refine Sg<|tK (pg g1 0)<|lD (.int .i64 m.k) HF 0 0 U3 rfl<|Nl ?_;simp only[pS];go_upto_region 2 with fail;refine Sg<|?_;cases q1:(m.k==2);rotate_left
  ·refine bN (eI q1)<|tU<|Nl ?_;simp only[pS];go_upto_region 3 with fail;refine Sg<|tK (pg g1 11)<|lP (Sp.cs m.st) HF 0 11 U34 S34 (Mg.cs m) rfl<|?_;simp only[pS];cases q31:(oneS m.st)
   ·refine cB (p_isOne m.st _) q31 HF fun w33 HF=>tF<|sK<|sK<|sK<|sK<|sK<|sK<|tF<|tF<|Nl ?_;simp only[pS];go_wp2;exact lf C HC HF (by simp only[*,fldsP,bsq])
   refine cB (p_isOne m.st _) q31 HF fun w34 HF=>tU<|tK (pg g1 15)<|lD (m.bl.v) HF 0 15 U35 rfl<|tK (.int .i64 ((m.bl.l:Nat):Int))<|tK (pg g3 4)<|lD (.int .i64 c.bl) HF 1 4 U3 rfl<|?_;simp only[pS];cases q32:(((m.bl.l:Nat):Int)==c.bl)
   ·refine bN (eI q32)<|tF<|tF<|Nl ?_;simp only[pS];go_wp2;exact lf C HC HF (by simp only[*,fldsP,bsq])
   refine bN (eI q32)<|tU<|tU<|Nl ?_;simp only[pS];go_wp2;exact lf C HC HF (by simp only[*,fldsP,bsq])
  refine bN (eI q1)<|tF<|Nl ?_;simp only[pS];go_upto_region 4 with fail;refine Sg<|?_;cases q2:(m.k==11);rotate_left
  ·refine bN (eI q2)<|tU<|Nl ?_;simp only[pS];go_upto_region 5 with fail;refine Sg<|tK (pg g1 11)<|lP (Sp.cs m.st) HF 0 11 U34 S34 (Mg.cs m) rfl<|tK (pg g1 15)<|lD (m.bl.v) HF 0 15 U35 rfl<|bD (Bl.cells ⟨m.st,m.bl⟩)<|lP (Cg.cs c) HF 1 0 U24 S24 (Cg.cs c) rfl<|?_;simp only[pS];cases q30:(blkB c.bl ⟨m.st,m.bl⟩ bs)
   ·refine cB (p_rightBlock ⟨m.st,m.bl⟩ c bs _ (HRB.out.no HF.out.kept) hnb) q30 HF fun w31 HF=>tF<|Nl ?_;simp only[pS];go_wp2;exact lf C HC HF (by simp only[*,fldsP,bsq])
   refine cB (p_rightBlock ⟨m.st,m.bl⟩ c bs _ (HRB.out.no HF.out.kept) hnb) q30 HF fun w32 HF=>tU<|Nl ?_;simp only[pS];go_wp2;exact lf C HC HF (by simp only[*,fldsP,bsq])
  refine bN (eI q2)<|tF<|Nl ?_;simp only[pS];go_upto_region 6 with fail;refine Sg<|?_;cases q3:(m.k==3);rotate_left
  ·refine bN (eI q3)<|tU<|Nl ?_;simp only[pS];go_upto_region 9 with fail;refine Sg<|tK (pg g1 11)<|lP (Sp.cs m.st) HF 0 11 U34 S34 (Mg.cs m) rfl<|?_;simp only[pS];cases q29:(oneS m.st)
   ·refine cB (p_isOne m.st _) q29 HF fun w29 HF=>tF<|Nl ?_;simp only[pS];go_wp2;exact lf C HC HF (by simp only[*,fldsP,bsq])
   refine cB (p_isOne m.st _) q29 HF fun w30 HF=>tU<|Nl ?_;simp only[pS];go_wp2;exact lf C HC HF (by simp only[*,fldsP,bsq])
  refine bN (eI q3)<|tF<|Nl ?_;simp only[pS];go_upto_region 7 with fail;refine Sg<|?_;cases q4:(m.k==14);rotate_left
  ·refine bN (eI q4)<|tU<|Nl ?_;simp only[pS];go_upto_region 9 with fail;refine Sg<|tK (pg g1 11)<|lP (Sp.cs m.st) HF 0 11 U34 S34 (Mg.cs m) rfl<|?_;simp only[pS];cases q28:(oneS m.st)
   ·refine cB (p_isOne m.st _) q28 HF fun w27 HF=>tF<|Nl ?_;simp only[pS];go_wp2;exact lf C HC HF (by simp only[*,fldsP,bsq])
   refine cB (p_isOne m.st _) q28 HF fun w28 HF=>tU<|Nl ?_;simp only[pS];go_wp2;exact lf C HC HF (by simp only[*,fldsP,bsq])
  refine bN (eI q4)<|tF<|Nl ?_;simp only[pS];go_upto_region 8 with fail;refine Sg<|?_;cases q5:(m.k==15);rotate_left
  ·refine bN (eI q5)<|tU<|Nl ?_;simp only[pS];go_upto_region 9 with fail;refine Sg<|tK (pg g1 11)<|lP (Sp.cs m.st) HF 0 11 U34 S34 (Mg.cs m) rfl<|?_;simp only[pS];cases q27:(oneS m.st)
   ·refine cB (p_isOne m.st _) q27 HF fun w25 HF=>tF<|Nl ?_;simp only[pS];go_wp2;exact lf C HC HF (by simp only[*,fldsP,bsq])
   refine cB (p_isOne m.st _) q27 HF fun w26 HF=>tU<|Nl ?_;simp only[pS];go_wp2;exact lf C HC HF (by simp only[*,fldsP,bsq])
  refine bN (eI q5)<|tF<|Nl ?_;simp only[pS];go_upto_region 10 with fail;refine Sg<|?_;cases q6:(m.k==4);rotate_left
  ·refine bN (eI q6)<|tU<|Nl ?_;simp only[pS];go_upto_region 11 with fail;refine Sg<|tK (pg g1 11)<|lP (Sp.cs m.st) HF 0 11 U34 S34 (Mg.cs m) rfl<|?_;simp only[pS];cases q25:(oneS m.st)
   ·refine cB (p_isOne m.st _) q25 HF fun w21 HF=>tF<|sK<|sK<|sK<|sK<|tF<|tF<|Nl ?_;simp only[pS];go_wp2;exact lf C HC HF (by simp only[*,fldsP,bsq])
   refine cB (p_isOne m.st _) q25 HF fun w22 HF=>tU<|tK (pg g1 16)<|lP (Cm.cs m.c) HF 0 16 U39 S39 (Mg.cs m) rfl<|lP (Cg.cs c) HF 1 0 U24 S24 (Cg.cs c) rfl<|?_;simp only[pS];cases q26:(cmdP c.bl m.c)
   ·refine cB (p_rightCommand m.c c _ HB) q26 HF fun w23 HF=>tF<|tF<|Nl ?_;simp only[pS];go_wp2;exact lf C HC HF (by simp only[*,fldsP,bsq])
   refine cB (p_rightCommand m.c c _ HB) q26 HF fun w24 HF=>tU<|tU<|Nl ?_;simp only[pS];go_wp2;exact lf C HC HF (by simp only[*,fldsP,bsq])
  refine bN (eI q6)<|tF<|Nl ?_;simp only[pS];go_upto_region 12 with fail;refine Sg<|?_;cases q7:(m.k==5);rotate_left
  ·refine bN (eI q7)<|tU<|Nl ?_;simp only[pS];go_upto_region 14 with fail;refine Sg<|tK (pg g1 16)<|lP (Cm.cs m.c) HF 0 16 U39 S39 (Mg.cs m) rfl<|lP (Cg.cs c) HF 1 0 U24 S24 (Cg.cs c) rfl<|?_;simp only[pS];cases q24:(cmdP c.bl m.c)
   ·refine cB (p_rightCommand m.c c _ HB) q24 HF fun w19 HF=>tF<|Nl ?_;simp only[pS];go_wp2;exact lf C HC HF (by simp only[*,fldsP,bsq])
   refine cB (p_rightCommand m.c c _ HB) q24 HF fun w20 HF=>tU<|Nl ?_;simp only[pS];go_wp2;exact lf C HC HF (by simp only[*,fldsP,bsq])
  refine bN (eI q7)<|tF<|Nl ?_;simp only[pS];go_upto_region 13 with fail;refine Sg<|?_;cases q8:(m.k==16);rotate_left
  ·refine bN (eI q8)<|tU<|Nl ?_;simp only[pS];go_upto_region 14 with fail;refine Sg<|tK (pg g1 16)<|lP (Cm.cs m.c) HF 0 16 U39 S39 (Mg.cs m) rfl<|lP (Cg.cs c) HF 1 0 U24 S24 (Cg.cs c) rfl<|?_;simp only[pS];cases q23:(cmdP c.bl m.c)
   ·refine cB (p_rightCommand m.c c _ HB) q23 HF fun w17 HF=>tF<|Nl ?_;simp only[pS];go_wp2;exact lf C HC HF (by simp only[*,fldsP,bsq])
   refine cB (p_rightCommand m.c c _ HB) q23 HF fun w18 HF=>tU<|Nl ?_;simp only[pS];go_wp2;exact lf C HC HF (by simp only[*,fldsP,bsq])
  refine bN (eI q8)<|tF<|Nl ?_;simp only[pS];go_upto_region 15 with fail;refine Sg<|?_;cases q9:(m.k==13);rotate_left
  ·refine bN (eI q9)<|tU<|Nl ?_;simp only[pS];go_upto_region 16 with fail;refine Sg<|tK (pg g1 11)<|lP (Sp.cs m.st) HF 0 11 U34 S34 (Mg.cs m) rfl<|?_;simp only[pS];cases q21:(oneS m.st)
   ·refine cB (p_isOne m.st _) q21 HF fun w13 HF=>tF<|sK<|sK<|sK<|sK<|sK<|sK<|sK<|sK<|tF<|tF<|Nl ?_;simp only[pS];go_wp2;exact lf C HC HF (by simp only[*,fldsP,bsq])
   refine cB (p_isOne m.st _) q21 HF fun w14 HF=>tU<|tK (pg g1 11)<|lP (Sp.cs m.st) HF 0 11 U34 S34 (Mg.cs m) rfl<|tK (pg g1 13)<|lP (Sp.cs m.hd) HF 0 13 U34 S34 (Mg.cs m) rfl<|tK (pg g1 16)<|lP (Cm.cs m.c) HF 0 16 U39 S39 (Mg.cs m) rfl<|lP (Cg.cs c) HF 1 0 U24 S24 (Cg.cs c) rfl<|?_;simp only[pS];cases q22:(heldP c.bl m.st m.hd m.c)
   ·refine cB (p_rightHeld m.st m.hd m.c c _ HB) q22 HF fun w15 HF=>tF<|tF<|Nl ?_;simp only[pS];go_wp2;exact lf C HC HF (by simp only[*,fldsP,bsq])
   refine cB (p_rightHeld m.st m.hd m.c c _ HB) q22 HF fun w16 HF=>tU<|tU<|Nl ?_;simp only[pS];go_wp2;exact lf C HC HF (by simp only[*,fldsP,bsq])
  refine bN (eI q9)<|tF<|Nl ?_;simp only[pS];go_upto_region 17 with fail;refine Sg<|?_;cases q10:(m.k==17);rotate_left
  ·refine bN (eI q10)<|tU<|Nl ?_;simp only[pS];go_upto_region 18 with fail;refine Sg<|tK (pg g1 25)<|lP (Bv.cs m.bk) HF 0 25 U43 S43 (Mg.cs m) rfl<|lP (Cg.cs c) HF 1 0 U24 S24 (Cg.cs c) rfl<|?_;simp only[pS];cases q19:(bktP c.bl c.rm m.bk es ls)
   ·refine cB (p_rightBucket m.bk es ls c _ HB (HRE.out.no HF.out.kept) (HRL.out.no HF.out.kept) hne hnl) q19 HF fun w11 HF=>tF<|sK<|sK<|sK<|sK<|sK<|sK<|sK<|tF<|tF<|Nl ?_;simp only[pS];go_wp2;exact lf C HC HF (by simp only[*,fldsP,bsq])
   refine cB (p_rightBucket m.bk es ls c _ HB (HRE.out.no HF.out.kept) (HRL.out.no HF.out.kept) hne hnl) q19 HF fun w12 HF=>tU<|tK (pg g1 25)<|tK (pg g1 25)<|lD (.int .i64 m.bk.up) HF 0 25 U3 rfl<|tK (pg g1 7)<|tK (pg g1 9)<|lD (.int .i64 m.ky.b) HF 0 9 U3 rfl<|?_;simp only[pS];cases q20:(decide (m.ky.b≤m.bk.up))
   ·refine bN (geI q20)<|tF<|tF<|Nl ?_;simp only[pS];go_wp2;exact lf C HC HF (by simp only[*,fldsP,bsq])
   refine bN (geI q20)<|tU<|tU<|Nl ?_;simp only[pS];go_wp2;exact lf C HC HF (by simp only[*,fldsP,bsq])
  refine bN (eI q10)<|tF<|Nl ?_;simp only[pS];go_upto_region 19 with fail;refine Sg<|?_;cases q11:(m.k==21)
  ·refine bN (eI q11)<|tF<|Nl ?_;simp only[pS];go_upto_region 21 with fail;refine Sg<|?_;cases q12:(m.k==22)
   ·refine bN (eI q12)<|tF<|Nl ?_;simp only[pS];go_upto_region 23 with fail;refine Sg<|tU<|Nl ?_;simp only[pS];go_wp2;exact lf C HC HF (by simp only[*,fldsP,bsq])
   refine bN (eI q12)<|tU<|Nl ?_;simp only[pS];go_upto_region 22 with fail;refine Sg<|lP (Mg.cs m) HF 0 0 U45 S45 (Mg.cs m) rfl<|lP (Cg.cs c) HF 1 0 U24 S24 (Cg.cs c) rfl<|?_;simp only[pS];cases q13:(haveP c.bl c.rm m es ls cs)
   ·refine cB (p_rightHave m es ls cs c _ HB (HRE.out.no HF.out.kept) (HRL.out.no HF.out.kept) (HRC.out.no HF.out.kept) hne hnl hnc) q13 HF fun w5 HF=>tF<|Nl ?_;simp only[pS];go_wp2;exact lf C HC HF (by simp only[*,fldsP,bsq])
   refine cB (p_rightHave m es ls cs c _ HB (HRE.out.no HF.out.kept) (HRL.out.no HF.out.kept) (HRC.out.no HF.out.kept) hne hnl hnc) q13 HF fun w6 HF=>tU<|Nl ?_;simp only[pS];go_wp2;exact lf C HC HF (by simp only[*,fldsP,bsq])
  refine bN (eI q11)<|tU<|Nl ?_;simp only[pS];go_upto_region 20 with fail;refine Sg<|tK (pg g1 7)<|tK (pg g1 7)<|lD (.int .i64 m.ky.k) HF 0 7 U3 rfl<|?_;simp only[pS];cases q14:(m.ky.k==1);rotate_left
  ·refine bN (eI q14)<|tU<|tK (pg g1 11)<|lP (Sp.cs m.st) HF 0 11 U34 S34 (Mg.cs m) rfl<|?_;simp only[pS];cases q17:(eqS m.st spZ);rotate_left
   ·refine cB (p_isNone m.st _) q17 HF fun w10 HF=>tU<|tU<|sK<|sK<|sK<|sK<|sK<|sK<|sK<|sK<|sK<|tU<|tU<|Nl ?_;simp only[pS];go_wp2;exact lf C HC HF (by simp only[*,fldsP,bsq])
   refine cB (p_isNone m.st _) q17 HF fun w9 HF=>tF<|tF<|tK (pg g1 7)<|tK (pg g1 7)<|lD (.int .i64 m.ky.k) HF 0 7 U3 rfl<|?_;simp only[pS];have q18:(m.ky.k==2)=false:=by rw [eq_of_beq q14];rfl
   refine bN (eI q18)<|tF<|sK<|sK<|sK<|tF<|tF<|tF<|Nl ?_;simp only[pS];go_wp2;exact lf C HC HF (by simp only[*,fldsP,bsq])
  refine bN (eI q14)<|tF<|sK<|sK<|sK<|tF<|tF<|tK (pg g1 7)<|tK (pg g1 7)<|lD (.int .i64 m.ky.k) HF 0 7 U3 rfl<|?_;simp only[pS];cases q15:(m.ky.k==2)
  ·refine bN (eI q15)<|tF<|sK<|sK<|sK<|tF<|tF<|tF<|Nl ?_;simp only[pS];go_wp2;exact lf C HC HF (by simp only[*,fldsP,bsq])
  refine bN (eI q15)<|tU<|tK (pg g1 11)<|lP (Sp.cs m.st) HF 0 11 U34 S34 (Mg.cs m) rfl<|?_;simp only[pS];cases q16:(frmS m.st)
  ·refine cB (p_isFrom m.st _) q16 HF fun w7 HF=>tF<|tF<|tF<|Nl ?_;simp only[pS];go_wp2;exact lf C HC HF (by simp only[*,fldsP,bsq])
  refine cB (p_isFrom m.st _) q16 HF fun w8 HF=>tU<|tU<|tU<|Nl ?_;simp only[pS];go_wp2;exact lf C HC HF (by simp only[*,fldsP,bsq])
set_option maxRecDepth 100000 in
set_option maxHeartbeats 4000000 in
theorem p_rightMsg (m:Mg) (c:Cg) (zs:List Int) (bs:List Int) (es:List En) (ls:List La) (cs:List Cm) (w:World) (hb:0≤c.bl∧c.bl≤4096) (hu:1≤c.bu∧c.bu≤256) (hz:RdI w c.sv zs) (h1:RdB w m.bl bs) (h2:RdE w m.bk.e es) (h3:RdL w m.bk.l ls) (h4:RdC w m.cm cs) (hnz:c.sv.l≤281474976710656) (hnb:m.bl.l≤281474976710656) (hne:m.bk.e.l≤281474976710656) (hnl:m.bk.l.l≤281474976710656) (hnc:m.cm.l≤281474976710656):Calls Tryz.prog 40 #[.agg (Mg.cells m),.agg (Cg.cells c)] w (fun e w'=>e=.returned (.bool (msgP c.bl c.rm c.bu zs m bs es ls cs))∧Kept No w w'):=by
  refine hidC fun C HC=>?_;have HB:Hid (0≤c.bl∧c.bl≤4096):=hb;clear hb;have HU:Hid (1≤c.bu∧c.bu≤256):=hu;clear hu;have HZ:Hid (RdI w c.sv zs):=hz;clear hz;have HRB:Hid (RdB w m.bl bs):=h1;clear h1;have HRE:Hid (RdE w m.bk.e es):=h2;clear h2;have HRL:Hid (RdL w m.bk.l ls):=h3;clear h3;have HRC:Hid (RdC w m.cm cs):=h4;clear h4;have HF:Hid (Fq No w w []):=Fq.start _ _;go_enter Tryz.func40,Tryz.ntmps40;go_upto_region 0 with fail;refine Sg<|xB (Mg.cells m) HF fun g1 w2 HF=>xB (Cg.cells c) HF fun g3 w4 HF=>tF<|Nl ?_;simp only[pS];go_upto_region 1 with fail;refine wp_region_held_drew (S:=fun w'=>Hid (Fq No w w' [(g1,45,Mg.cells m),(g3,24,Cg.cells c)])) rfl (show Hid _ from HF.out.drew) (fun hH=>?_);replace HF:Hid (Fq No w w4.drew [(g1,45,Mg.cells m),(g3,24,Cg.cells c)]):=hH;clear hH;generalize w4.drew=w5 at HF ⊢;refine yT 0 5 HF (zP (Mg.cs m) 0 0 U45 S45 (Mg.cs m) rfl)<|yT 1 6 HF (zP (Cg.cs c) 1 0 U24 S24 (Cg.cs c) rfl)<|?_;(try simp only[pS]);cases q1:(endsP zs m)
  ·refine yC 2 7 (p_rightEnds m c zs _ (HZ.out.no HF.out.kept) hnz) q1 HF fun w6 HF=>yK 3 8 HF (.bool false)<|yS 4 9 HF<|yS 5 10 HF<|yS 6 11 HF<|yK 7 12 HF (.bool false)<|yK 8 13 HF (.bool false)<|yS 9 14 HF<|?_;(try simp only[pS]);refine yS 10 15 HF<|yS 11 16 HF<|yS 12 17 HF<|yS 13 18 HF<|yK 14 19 HF (.bool false)<|yK 15 20 HF (.bool false)<|yS 16 21 HF<|yS 17 22 HF<|?_;(try simp only[pS]);refine yS 18 23 HF<|yK 19 24 HF (.bool false)<|yK 20 4 HF (.bool false)<|?_;(try simp only[pS]);refine wpAnyH_done (by kernel_rfl) ?_ _;(try simp only[pS]);go_wp2;exact lf C HC HF (by simp only[*,msgP,bsq])
  refine yC 2 7 (p_rightEnds m c zs _ (HZ.out.no HF.out.kept) hnz) q1 HF fun w7 HF=>yK 3 8 HF (.bool true)<|yT 4 9 HF (zP (Mg.cs m) 0 0 U45 S45 (Mg.cs m) rfl)<|yT 5 10 HF (zP (Cg.cs c) 1 0 U24 S24 (Cg.cs c) rfl)<|?_;(try simp only[pS]);cases q2:(keyP c.bu m)
  ·refine yC 6 11 (p_rightKey m c _ HU) q2 HF fun w8 HF=>yK 7 12 HF (.bool false)<|yK 8 13 HF (.bool false)<|yS 9 14 HF<|yS 10 15 HF<|yS 11 16 HF<|yS 12 17 HF<|yS 13 18 HF<|?_;(try simp only[pS]);refine yK 14 19 HF (.bool false)<|yK 15 20 HF (.bool false)<|yS 16 21 HF<|yS 17 22 HF<|yS 18 23 HF<|yK 19 24 HF (.bool false)<|yK 20 4 HF (.bool false)<|?_;(try simp only[pS]);refine wpAnyH_done (by kernel_rfl) ?_ _;(try simp only[pS]);go_wp2;exact lf C HC HF (by simp only[*,msgP,bsq])
  refine yC 6 11 (p_rightKey m c _ HU) q2 HF fun w9 HF=>yK 7 12 HF (.bool true)<|yK 8 13 HF (.bool true)<|yT 9 14 HF (zP (Mg.cs m) 0 0 U45 S45 (Mg.cs m) rfl)<|yK 10 15 HF (pg g1 0)<|yT 11 16 HF (v:=.int .i64 m.k) (zD 0 0 U3 rfl)<|?_;(try simp only[pS]);refine yF 12 17 HF (p_fieldsOf m.k _) HF ?_;intro s10 w11 HF HS12 hl13;(try simp only[pS]);cases q3:(onlyP m (fieldsK m.k))
  ·refine yC 13 18 (p_only m s10 (fieldsK m.k) _ HS12.out (by omega)) q3 HF fun w14 HF=>yK 14 19 HF (.bool false)<|yK 15 20 HF (.bool false)<|yS 16 21 HF<|yS 17 22 HF<|yS 18 23 HF<|yK 19 24 HF (.bool false)<|yK 20 4 HF (.bool false)<|?_;(try simp only[pS]);refine wpAnyH_done (by kernel_rfl) ?_ _;(try simp only[pS]);go_wp2;exact lf C HC HF (by simp only[*,msgP,bsq])
  refine yC 13 18 (p_only m s10 (fieldsK m.k) _ HS12.out (by omega)) q3 HF fun w15 HF=>yK 14 19 HF (.bool true)<|yK 15 20 HF (.bool true)<|yT 16 21 HF (zP (Mg.cs m) 0 0 U45 S45 (Mg.cs m) rfl)<|yT 17 22 HF (zP (Cg.cs c) 1 0 U24 S24 (Cg.cs c) rfl)<|?_;(try simp only[pS]);cases q4:(fldsP c.bl c.rm m bs es ls cs)
  ·refine yC 18 23 (p_rightFields m bs es ls cs c _ HB (HRB.out.no HF.out.kept) (HRE.out.no HF.out.kept) (HRL.out.no HF.out.kept) (HRC.out.no HF.out.kept) hnb hne hnl hnc) q4 HF fun w16 HF=>yK 19 24 HF (.bool false)<|yK 20 4 HF (.bool false)<|?_;(try simp only[pS]);refine wpAnyH_done (by kernel_rfl) ?_ _;(try simp only[pS]);go_wp2;exact lf C HC HF (by simp only[*,msgP,bsq])
  refine yC 18 23 (p_rightFields m bs es ls cs c _ HB (HRB.out.no HF.out.kept) (HRE.out.no HF.out.kept) (HRL.out.no HF.out.kept) (HRC.out.no HF.out.kept) hnb hne hnl hnc) q4 HF fun w17 HF=>yK 19 24 HF (.bool true)<|yK 20 4 HF (.bool true)<|?_;(try simp only[pS]);refine wpAnyH_done (by kernel_rfl) ?_ _;(try simp only[pS]);go_wp2;exact lf C HC HF (by simp only[*,msgP,bsq])
end Go.Proofs.YtgdnofacgfjaeaaGreat.Md
