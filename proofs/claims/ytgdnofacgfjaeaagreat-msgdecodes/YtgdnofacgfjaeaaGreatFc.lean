import Derived.Test.YtgdnofacgfjaeaaGreatKe
import Derived.Lib.Bytealg
import Derived.Lib.Walk
namespace Go.Proofs.YtgdnofacgfjaeaaGreat.Md
set_option maxRecDepth 100000
set_option maxHeartbeats 4000000
open Go.RowKit
set_option linter.unusedVariables false
set_option linter.unusedSimpArgs false
theorem p_within (n lo hi:Int) (w:World):Calls Tryz.prog 109 #[.int .i64 n,.int .i64 lo,.int .i64 hi] w (fun e w'=>e=.returned (.bool (wn n lo hi))∧Kept No w w'):=by
  refine hidC fun C HC=>?_;have HF:Hid (Fq No w w []):=Fq.start _ _;go_enter Tryz.func109,Tryz.ntmps109;go_upto_region 0 with fail;refine Sg<|tF<|Nl ?_;simp only[pS];go_upto_region 1 with fail;refine Sg<|tK (.int .i64 lo)<|tK (.int .i64 n)<|?_;simp only[pS];cases q1:(decide (lo≤n))
  ·refine bN (leI q1)<|tF<|sK<|sK<|sK<|tF<|tF<|Nl ?_;simp only[pS];go_wp2;exact lf C HC HF (by simp only[*,wn,bsq])
  refine bN (leI q1)<|tU<|tK (.int .i64 n)<|tK (.int .i64 hi)<|?_;simp only[pS];cases q2:(decide (n≤hi))
  ·refine bN (leI q2)<|tF<|tF<|Nl ?_;simp only[pS];go_wp2;exact lf C HC HF (by simp only[*,wn,bsq])
  refine bN (leI q2)<|tU<|tU<|Nl ?_;simp only[pS];go_wp2;exact lf C HC HF (by simp only[*,wn,bsq])
theorem g_within (n lo hi:Int) (w:World):Calls Tryz.prog 214 #[.int .i64 n,.int .i64 lo,.int .i64 hi] w (fun e w'=>e=.returned (.bool (wn n lo hi))∧Kept No w w'):=by
  refine hidC fun C HC=>?_;have HF:Hid (Fq No w w []):=Fq.start _ _;go_enter Tryz.func214,Tryz.ntmps214;go_upto_region 0 with fail;refine Sg<|tF<|Nl ?_;simp only[pS];go_upto_region 1 with fail;refine Sg<|tK (.int .i64 lo)<|tK (.int .i64 n)<|?_;simp only[pS];cases q1:(decide (lo≤n))
  ·refine bN (leI q1)<|tF<|sK<|sK<|sK<|tF<|tF<|Nl ?_;simp only[pS];go_wp2;exact lf C HC HF (by simp only[*,wn,bsq])
  refine bN (leI q1)<|tU<|tK (.int .i64 n)<|tK (.int .i64 hi)<|?_;simp only[pS];cases q2:(decide (n≤hi))
  ·refine bN (leI q2)<|tF<|tF<|Nl ?_;simp only[pS];go_wp2;exact lf C HC HF (by simp only[*,wn,bsq])
  refine bN (leI q2)<|tU<|tU<|Nl ?_;simp only[pS];go_wp2;exact lf C HC HF (by simp only[*,wn,bsq])
theorem r_within (n lo hi:Int) (w:World):Calls Tryz.prog 104 #[.int .i64 n,.int .i64 lo,.int .i64 hi] w (fun e w'=>e=.returned (.bool (wn n lo hi))∧Kept No w w'):=by
  refine hidC fun C HC=>?_;have HF:Hid (Fq No w w []):=Fq.start _ _;go_enter Tryz.func104,Tryz.ntmps104;go_upto_region 0 with fail;refine Sg<|tF<|Nl ?_;simp only[pS];go_upto_region 1 with fail;refine Sg<|tK (.int .i64 n)<|tK (.int .i64 lo)<|?_;simp only[pS];cases q1:(decide (lo≤n))
  ·refine bN (geI q1)<|tF<|sK<|sK<|sK<|tF<|tF<|Nl ?_;simp only[pS];go_wp2;exact lf C HC HF (by simp only[*,wn,bsq])
  refine bN (geI q1)<|tU<|tK (.int .i64 n)<|tK (.int .i64 hi)<|?_;simp only[pS];cases q2:(decide (n≤hi))
  ·refine bN (leI q2)<|tF<|tF<|Nl ?_;simp only[pS];go_wp2;exact lf C HC HF (by simp only[*,wn,bsq])
  refine bN (leI q2)<|tU<|tU<|Nl ?_;simp only[pS];go_wp2;exact lf C HC HF (by simp only[*,wn,bsq])
theorem q_within (n lo hi:Int) (w:World):Calls Tryz.prog 91 #[.int .i64 n,.int .i64 lo,.int .i64 hi] w (fun e w'=>e=.returned (.bool (wn n lo hi))∧Kept No w w'):=by
  refine hidC fun C HC=>?_;have HF:Hid (Fq No w w []):=Fq.start _ _;go_enter Tryz.func91,Tryz.ntmps91;go_upto_region 0 with fail;refine Sg<|tF<|Nl ?_;simp only[pS];go_upto_region 1 with fail;refine Sg<|tK (.int .i64 n)<|tK (.int .i64 lo)<|?_;simp only[pS];cases q1:(decide (lo≤n))
  ·refine bN (geI q1)<|tF<|sK<|sK<|sK<|tF<|tF<|Nl ?_;simp only[pS];go_wp2;exact lf C HC HF (by simp only[*,wn,bsq])
  refine bN (geI q1)<|tU<|tK (.int .i64 n)<|tK (.int .i64 hi)<|?_;simp only[pS];cases q2:(decide (n≤hi))
  ·refine bN (leI q2)<|tF<|tF<|Nl ?_;simp only[pS];go_wp2;exact lf C HC HF (by simp only[*,wn,bsq])
  refine bN (leI q2)<|tU<|tU<|Nl ?_;simp only[pS];go_wp2;exact lf C HC HF (by simp only[*,wn,bsq])
theorem p_rightId (n:Int) (w:World):Calls Tryz.prog 99 #[.int .i64 n] w (fun e w'=>e=.returned (.bool (wn n 1 255))∧Kept No w w'):=by
  refine hidC fun C HC=>?_;have HF:Hid (Fq No w w []):=Fq.start _ _;go_enter Tryz.func99,Tryz.ntmps99;go_upto_region 0 with fail;refine Sg<|tF<|Nl ?_;simp only[pS];go_upto_region 1 with fail;refine Sg<|tK (.int .i64 n)<|?_;simp only[pS];cases q1:(wn n 1 255)
  ·refine cB (p_within n 1 255 _) q1 HF fun w1 HF=>tF<|Nl ?_;simp only[pS];go_wp2;rw [HC.out];exact ⟨ret_bool (q1.symm),HF.out.kept⟩
  refine cB (p_within n 1 255 _) q1 HF fun w2 HF=>tU<|Nl ?_;simp only[pS];go_wp2;rw [HC.out];exact ⟨ret_bool (q1.symm),HF.out.kept⟩
theorem p_rightNum (n:Int) (w:World):Calls Tryz.prog 100 #[.int .i64 n] w (fun e w'=>e=.returned (.bool (wn n 1 1099511627776))∧Kept No w w'):=by
  refine hidC fun C HC=>?_;have HF:Hid (Fq No w w []):=Fq.start _ _;go_enter Tryz.func100,Tryz.ntmps100;go_upto_region 0 with fail;refine Sg<|tF<|Nl ?_;simp only[pS];go_upto_region 1 with fail;refine Sg<|tK (.int .i64 n)<|?_;simp only[pS];cases q1:(wn n 1 1099511627776)
  ·refine cB (p_within n 1 1099511627776 _) q1 HF fun w1 HF=>tF<|Nl ?_;simp only[pS];go_wp2;rw [HC.out];exact ⟨ret_bool (q1.symm),HF.out.kept⟩
  refine cB (p_within n 1 1099511627776 _) q1 HF fun w2 HF=>tU<|Nl ?_;simp only[pS];go_wp2;rw [HC.out];exact ⟨ret_bool (q1.symm),HF.out.kept⟩
theorem p_isOne (x:Sp) (w:World):Calls Tryz.prog 126 #[.agg (Sp.cells x)] w (fun e w'=>e=.returned (.bool (oneS x))∧Kept No w w'):=by
  refine hidC fun C HC=>?_;have HF:Hid (Fq No w w []):=Fq.start _ _;go_enter Tryz.func126,Tryz.ntmps126;go_upto_region 0 with fail;refine Sg<|xB (Sp.cells x) HF fun g1 w2 HF=>tF<|Nl ?_;simp only[pS];go_upto_region 1 with fail;refine Sg<|tK (pg g1 0)<|lD (.int .i64 x.n) HF 0 0 U3 rfl<|?_;simp only[pS];cases q1:(wn x.n 1 1099511627776)
  ·refine cB (p_rightNum x.n _) q1 HF fun w3 HF=>tF<|sK<|sK<|sK<|tF<|tF<|Nl ?_;simp only[pS];go_wp2;exact lf C HC HF (by simp only[*,oneS,bsq])
  refine cB (p_rightNum x.n _) q1 HF fun w4 HF=>tU<|tK (pg g1 1)<|lD (.int .i64 x.c) HF 0 1 U3 rfl<|?_;simp only[pS];cases q2:(wn x.c 1 255)
  ·refine cB (p_rightId x.c _) q2 HF fun w5 HF=>tF<|tF<|Nl ?_;simp only[pS];go_wp2;exact lf C HC HF (by simp only[*,oneS,bsq])
  refine cB (p_rightId x.c _) q2 HF fun w6 HF=>tU<|tU<|Nl ?_;simp only[pS];go_wp2;exact lf C HC HF (by simp only[*,oneS,bsq])
theorem r_One (x:Sp) (w:World):Calls Tryz.prog 131 #[.agg (Sp.cells x)] w (fun e w'=>e=.returned (.bool (oneS x))∧Kept No w w'):=by
  refine hidC fun C HC=>?_;have HF:Hid (Fq No w w []):=Fq.start _ _;go_enter Tryz.func131,Tryz.ntmps131;go_upto_region 0 with fail;refine Sg<|xB (Sp.cells x) HF fun g1 w2 HF=>tF<|Nl ?_;simp only[pS];go_upto_region 1 with fail;refine Sg<|tK (pg g1 0)<|lD (.int .i64 x.n) HF 0 0 U3 rfl<|?_;simp only[pS];cases q1:(wn x.n 1 1099511627776)
  ·refine cB (r_within x.n 1 1099511627776 _) q1 HF fun w3 HF=>tF<|sK<|sK<|sK<|tF<|tF<|Nl ?_;simp only[pS];go_wp2;exact lf C HC HF (by simp only[*,oneS,bsq])
  refine cB (r_within x.n 1 1099511627776 _) q1 HF fun w4 HF=>tU<|tK (pg g1 1)<|lD (.int .i64 x.c) HF 0 1 U3 rfl<|?_;simp only[pS];cases q2:(wn x.c 1 255)
  ·refine cB (r_within x.c 1 255 _) q2 HF fun w5 HF=>tF<|tF<|Nl ?_;simp only[pS];go_wp2;exact lf C HC HF (by simp only[*,oneS,bsq])
  refine cB (r_within x.c 1 255 _) q2 HF fun w6 HF=>tU<|tU<|Nl ?_;simp only[pS];go_wp2;exact lf C HC HF (by simp only[*,oneS,bsq])
theorem p_isNone (x:Sp) (w:World):Calls Tryz.prog 127 #[.agg (Sp.cells x)] w (fun e w'=>e=.returned (.bool (eqS x spZ))∧Kept No w w'):=by
  refine hidC fun C HC=>?_;have HF:Hid (Fq No w w []):=Fq.start _ _;go_enter Tryz.func127,Tryz.ntmps127;go_upto_region 0 with fail;refine Sg<|xB (Sp.cells x) HF fun g1 w2 HF=>tF<|Nl ?_;simp only[pS];go_upto_region 1 with fail;refine Sg<|lP (Sp.cs x) HF 0 0 U34 S34 (Sp.cs x) rfl<|bD (Sp.cells spZ)<|?_;simp only[pS];cases q1:(eqS x spZ)
  ·refine bN (qeS q1)<|tF<|Nl ?_;simp only[pS];go_wp2;rw [HC.out];exact ⟨ret_bool (q1.symm),HF.out.kept⟩
  refine bN (qeS q1)<|tU<|Nl ?_;simp only[pS];go_wp2;rw [HC.out];exact ⟨ret_bool (q1.symm),HF.out.kept⟩
theorem r_None (x:Sp) (w:World):Calls Tryz.prog 132 #[.agg (Sp.cells x)] w (fun e w'=>e=.returned (.bool (eqS x spZ))∧Kept No w w'):=by
  refine hidC fun C HC=>?_;have HF:Hid (Fq No w w []):=Fq.start _ _;go_enter Tryz.func132,Tryz.ntmps132;go_upto_region 0 with fail;refine Sg<|xB (Sp.cells x) HF fun g1 w2 HF=>tF<|Nl ?_;simp only[pS];go_upto_region 1 with fail;refine Sg<|tK (pg g1 0)<|lD (.int .i64 x.n) HF 0 0 U3 rfl<|?_;simp only[pS];cases q1:(x.n==0)
  ·refine bN (eI q1)<|tF<|sK<|sK<|sK<|tF<|tF<|Nl ?_;simp only[pS];go_wp2;exact lf C HC HF (by simp only[*,eqS,spZ,bsq])
  refine bN (eI q1)<|tU<|tK (pg g1 1)<|lD (.int .i64 x.c) HF 0 1 U3 rfl<|?_;simp only[pS];cases q2:(x.c==0)
  ·refine bN (eI q2)<|tF<|tF<|Nl ?_;simp only[pS];go_wp2;exact lf C HC HF (by simp only[*,eqS,spZ,bsq])
  refine bN (eI q2)<|tU<|tU<|Nl ?_;simp only[pS];go_wp2;exact lf C HC HF (by simp only[*,eqS,spZ,bsq])
theorem r_none (x:Cm) (w:World):Calls Tryz.prog 140 #[.agg (Cm.cells x)] w (fun e w'=>e=.returned (.bool (eqC x cZ))∧Kept No w w'):=by
  refine hidC fun C HC=>?_;have HF:Hid (Fq No w w []):=Fq.start _ _;go_enter Tryz.func140,Tryz.ntmps140;go_upto_region 0 with fail;refine Sg<|xB (Cm.cells x) HF fun g1 w2 HF=>tF<|Nl ?_;simp only[pS];go_upto_region 1 with fail;refine Sg<|lP (Cm.cs x) HF 0 0 U39 S39 (Cm.cs x) rfl<|bD (Cm.cells cZ)<|?_;simp only[pS];cases q1:(eqC x cZ)
  ·refine bN (qeC q1)<|tF<|Nl ?_;simp only[pS];go_wp2;rw [HC.out];exact ⟨ret_bool (q1.symm),HF.out.kept⟩
  refine bN (qeC q1)<|tU<|Nl ?_;simp only[pS];go_wp2;rw [HC.out];exact ⟨ret_bool (q1.symm),HF.out.kept⟩
theorem p_isFile (x:Fi) (w:World):Calls Tryz.prog 103 #[.agg (Fi.cells x)] w (fun e w'=>e=.returned (.bool (filB x))∧Kept No w w'):=by
  refine hidC fun C HC=>?_;have HF:Hid (Fq No w w []):=Fq.start _ _;go_enter Tryz.func103,Tryz.ntmps103;go_upto_region 0 with fail;refine Sg<|xB (Fi.cells x) HF fun g1 w2 HF=>tF<|Nl ?_;simp only[pS];go_upto_region 1 with fail;refine Sg<|tK (pg g1 0)<|lD (.int .i64 x.c) HF 0 0 U3 rfl<|?_;simp only[pS];cases q1:(wn x.c 1 255)
  ·refine cB (p_rightId x.c _) q1 HF fun w3 HF=>tF<|sK<|sK<|sK<|tF<|tF<|Nl ?_;simp only[pS];go_wp2;exact lf C HC HF (by simp only[*,filB,bsq])
  refine cB (p_rightId x.c _) q1 HF fun w4 HF=>tU<|tK (pg g1 1)<|lD (.int .i64 x.o) HF 0 1 U3 rfl<|?_;simp only[pS];cases q2:(wn x.o 1 1099511627776)
  ·refine cB (p_rightNum x.o _) q2 HF fun w5 HF=>tF<|tF<|Nl ?_;simp only[pS];go_wp2;exact lf C HC HF (by simp only[*,filB,bsq])
  refine cB (p_rightNum x.o _) q2 HF fun w6 HF=>tU<|tU<|Nl ?_;simp only[pS];go_wp2;exact lf C HC HF (by simp only[*,filB,bsq])
theorem r_IsFile (x:Fi) (w:World):Calls Tryz.prog 106 #[.agg (Fi.cells x)] w (fun e w'=>e=.returned (.bool (filB x))∧Kept No w w'):=by
  refine hidC fun C HC=>?_;have HF:Hid (Fq No w w []):=Fq.start _ _;go_enter Tryz.func106,Tryz.ntmps106;go_upto_region 0 with fail;refine Sg<|xB (Fi.cells x) HF fun g1 w2 HF=>tF<|Nl ?_;simp only[pS];go_upto_region 1 with fail;refine Sg<|tK (pg g1 0)<|lD (.int .i64 x.c) HF 0 0 U3 rfl<|?_;simp only[pS];cases q1:(wn x.c 1 255)
  ·refine cB (r_within x.c 1 255 _) q1 HF fun w3 HF=>tF<|sK<|sK<|sK<|tF<|tF<|Nl ?_;simp only[pS];go_wp2;exact lf C HC HF (by simp only[*,filB,bsq])
  refine cB (r_within x.c 1 255 _) q1 HF fun w4 HF=>tU<|tK (pg g1 1)<|lD (.int .i64 x.o) HF 0 1 U3 rfl<|?_;simp only[pS];cases q2:(wn x.o 1 1099511627776)
  ·refine cB (r_within x.o 1 1099511627776 _) q2 HF fun w5 HF=>tF<|tF<|Nl ?_;simp only[pS];go_wp2;exact lf C HC HF (by simp only[*,filB,bsq])
  refine cB (r_within x.o 1 1099511627776 _) q2 HF fun w6 HF=>tU<|tU<|Nl ?_;simp only[pS];go_wp2;exact lf C HC HF (by simp only[*,filB,bsq])
theorem p_emptyBucket (x:Bv) (w:World):Calls Tryz.prog 108 #[.agg (Bv.cells x)] w (fun e w'=>e=.returned (.bool (empK x))∧Kept No w w'):=by
  refine hidC fun C HC=>?_;have HF:Hid (Fq No w w []):=Fq.start _ _;go_enter Tryz.func108,Tryz.ntmps108;go_upto_region 0 with fail;refine Sg<|xB (Bv.cells x) HF fun g1 w2 HF=>tF<|Nl ?_;simp only[pS];go_upto_region 1 with fail;refine Sg<|tK (pg g1 0)<|lD (.int .i64 x.up) HF 0 0 U3 rfl<|?_;simp only[pS];cases q1:(x.up==0)
  ·refine bN (eI q1)<|tF<|sK<|sK<|sK<|sK<|tF<|tF<|sK<|sK<|sK<|sK<|tF<|tF<|Nl ?_;simp only[pS];go_wp2;exact lf C HC HF (by simp only[*,empK,bsq])
  refine bN (eI q1)<|tU<|tK (pg g1 1)<|lD (x.e.v) HF 0 1 U40 rfl<|tK (.int .i64 ((x.e.l:Nat):Int))<|?_;simp only[pS];cases q2:(((x.e.l:Nat):Int)==0)
  ·refine bN (eI q2)<|tF<|tF<|sK<|sK<|sK<|sK<|tF<|tF<|Nl ?_;simp only[pS];go_wp2;exact lf C HC HF (by simp only[*,empK,bsq])
  refine bN (eI q2)<|tU<|tU<|tK (pg g1 2)<|lD (x.l.v) HF 0 2 U41 rfl<|tK (.int .i64 ((x.l.l:Nat):Int))<|?_;simp only[pS];cases q3:(((x.l.l:Nat):Int)==0)
  ·refine bN (eI q3)<|tF<|tF<|Nl ?_;simp only[pS];go_wp2;exact lf C HC HF (by simp only[*,empK,bsq])
  refine bN (eI q3)<|tU<|tU<|Nl ?_;simp only[pS];go_wp2;exact lf C HC HF (by simp only[*,empK,bsq])
theorem r_empty (x:Bv) (w:World):Calls Tryz.prog 174 #[.agg (Bv.cells x)] w (fun e w'=>e=.returned (.bool (empK x))∧Kept No w w'):=by
  refine hidC fun C HC=>?_;have HF:Hid (Fq No w w []):=Fq.start _ _;go_enter Tryz.func174,Tryz.ntmps174;go_upto_region 0 with fail;refine Sg<|xB (Bv.cells x) HF fun g1 w2 HF=>tF<|Nl ?_;simp only[pS];go_upto_region 1 with fail;refine Sg<|tK (pg g1 0)<|lD (.int .i64 x.up) HF 0 0 U3 rfl<|?_;simp only[pS];cases q1:(x.up==0)
  ·refine bN (eI q1)<|tF<|sK<|sK<|sK<|sK<|tF<|tF<|sK<|sK<|sK<|sK<|tF<|tF<|Nl ?_;simp only[pS];go_wp2;exact lf C HC HF (by simp only[*,empK,bsq])
  refine bN (eI q1)<|tU<|tK (pg g1 1)<|lD (x.e.v) HF 0 1 U40 rfl<|tK (.int .i64 ((x.e.l:Nat):Int))<|?_;simp only[pS];cases q2:(((x.e.l:Nat):Int)==0)
  ·refine bN (eI q2)<|tF<|tF<|sK<|sK<|sK<|sK<|tF<|tF<|Nl ?_;simp only[pS];go_wp2;exact lf C HC HF (by simp only[*,empK,bsq])
  refine bN (eI q2)<|tU<|tU<|tK (pg g1 2)<|lD (x.l.v) HF 0 2 U41 rfl<|tK (.int .i64 ((x.l.l:Nat):Int))<|?_;simp only[pS];cases q3:(((x.l.l:Nat):Int)==0)
  ·refine bN (eI q3)<|tF<|tF<|Nl ?_;simp only[pS];go_wp2;exact lf C HC HF (by simp only[*,empK,bsq])
  refine bN (eI q3)<|tU<|tU<|Nl ?_;simp only[pS];go_wp2;exact lf C HC HF (by simp only[*,empK,bsq])
theorem p_isFrom (x:Sp) (w:World):Calls Tryz.prog 170 #[.agg (Sp.cells x)] w (fun e w'=>e=.returned (.bool (frmS x))∧Kept No w w'):=by
  refine hidC fun C HC=>?_;have HF:Hid (Fq No w w []):=Fq.start _ _;go_enter Tryz.func170,Tryz.ntmps170;go_upto_region 0 with fail;refine Sg<|xB (Sp.cells x) HF fun g1 w2 HF=>tF<|Nl ?_;simp only[pS];go_upto_region 1 with fail;refine Sg<|tK (pg g1 0)<|lD (.int .i64 x.n) HF 0 0 U3 rfl<|?_;simp only[pS];cases q1:(wn x.n 1 1048577)
  ·refine cB (p_within x.n 1 1048577 _) q1 HF fun w3 HF=>tF<|sK<|sK<|sK<|tF<|tF<|Nl ?_;simp only[pS];go_wp2;exact lf C HC HF (by simp only[*,frmS,bsq])
  refine cB (p_within x.n 1 1048577 _) q1 HF fun w4 HF=>tU<|tK (pg g1 1)<|lD (.int .i64 x.c) HF 0 1 U3 rfl<|?_;simp only[pS];cases q2:(x.c==0)
  ·refine bN (eI q2)<|tF<|tF<|Nl ?_;simp only[pS];go_wp2;exact lf C HC HF (by simp only[*,frmS,bsq])
  refine bN (eI q2)<|tU<|tU<|Nl ?_;simp only[pS];go_wp2;exact lf C HC HF (by simp only[*,frmS,bsq])
theorem r_from (x:Sp) (w:World):Calls Tryz.prog 175 #[.agg (Sp.cells x)] w (fun e w'=>e=.returned (.bool (frmS x))∧Kept No w w'):=by
  refine hidC fun C HC=>?_;have HF:Hid (Fq No w w []):=Fq.start _ _;go_enter Tryz.func175,Tryz.ntmps175;go_upto_region 0 with fail;refine Sg<|xB (Sp.cells x) HF fun g1 w2 HF=>tF<|Nl ?_;simp only[pS];go_upto_region 1 with fail;refine Sg<|tK (pg g1 0)<|lD (.int .i64 x.n) HF 0 0 U3 rfl<|?_;simp only[pS];cases q1:(wn x.n 1 1048577)
  ·refine cB (r_within x.n 1 1048577 _) q1 HF fun w3 HF=>tF<|sK<|sK<|sK<|tF<|tF<|Nl ?_;simp only[pS];go_wp2;exact lf C HC HF (by simp only[*,frmS,bsq])
  refine cB (r_within x.n 1 1048577 _) q1 HF fun w4 HF=>tU<|tK (pg g1 1)<|lD (.int .i64 x.c) HF 0 1 U3 rfl<|?_;simp only[pS];cases q2:(x.c==0)
  ·refine bN (eI q2)<|tF<|tF<|Nl ?_;simp only[pS];go_wp2;exact lf C HC HF (by simp only[*,frmS,bsq])
  refine bN (eI q2)<|tU<|tU<|Nl ?_;simp only[pS];go_wp2;exact lf C HC HF (by simp only[*,frmS,bsq])
theorem p_isClient (x:Ad) (w:World):Calls Tryz.prog 165 #[.agg (Ad.cells x)] w (fun e w'=>e=.returned (.bool (cliB x))∧Kept No w w'):=by
  refine hidC fun C HC=>?_;have HF:Hid (Fq No w w []):=Fq.start _ _;go_enter Tryz.func165,Tryz.ntmps165;go_upto_region 0 with fail;refine Sg<|xB (Ad.cells x) HF fun g1 w2 HF=>tF<|Nl ?_;simp only[pS];go_upto_region 1 with fail;refine Sg<|tK (pg g1 0)<|lD (.bool x.cl) HF 0 0 U4 rfl<|tK (.bool x.cl)<|?_;simp only[pS];cases q1:(x.cl)
  ·refine sK<|sK<|sK<|tF<|tF<|Nl ?_;simp only[pS];go_wp2;exact lf C HC HF (by simp only[*,cliB,bsq])
  refine tK (pg g1 1)<|lD (.int .i64 x.id) HF 0 1 U3 rfl<|?_;simp only[pS];cases q2:(wn x.id 1 255)
  ·refine cB (p_rightId x.id _) q2 HF fun w3 HF=>tF<|tF<|Nl ?_;simp only[pS];go_wp2;exact lf C HC HF (by simp only[*,cliB,bsq])
  refine cB (p_rightId x.id _) q2 HF fun w4 HF=>tU<|tU<|Nl ?_;simp only[pS];go_wp2;exact lf C HC HF (by simp only[*,cliB,bsq])
theorem r_client (x:Ad) (w:World):Calls Tryz.prog 93 #[.agg (Ad.cells x)] w (fun e w'=>e=.returned (.bool (cliB x))∧Kept No w w'):=by
  refine hidC fun C HC=>?_;have HF:Hid (Fq No w w []):=Fq.start _ _;go_enter Tryz.func93,Tryz.ntmps93;go_upto_region 0 with fail;refine Sg<|xB (Ad.cells x) HF fun g1 w2 HF=>tF<|Nl ?_;simp only[pS];go_upto_region 1 with fail;refine Sg<|tK (pg g1 0)<|lD (.bool x.cl) HF 0 0 U4 rfl<|tK (.bool x.cl)<|?_;simp only[pS];cases q1:(x.cl)
  ·refine sK<|sK<|sK<|tF<|tF<|Nl ?_;simp only[pS];go_wp2;exact lf C HC HF (by simp only[*,cliB,bsq])
  refine tK (pg g1 1)<|lD (.int .i64 x.id) HF 0 1 U3 rfl<|?_;simp only[pS];cases q2:(wn x.id 1 255)
  ·refine cB (r_within x.id 1 255 _) q2 HF fun w3 HF=>tF<|tF<|Nl ?_;simp only[pS];go_wp2;exact lf C HC HF (by simp only[*,cliB,bsq])
  refine cB (r_within x.id 1 255 _) q2 HF fun w4 HF=>tU<|tU<|Nl ?_;simp only[pS];go_wp2;exact lf C HC HF (by simp only[*,cliB,bsq])
theorem p_above (a b:Sp) (w:World):Calls Tryz.prog 185 #[.agg (Sp.cells a),.agg (Sp.cells b)] w (fun e w'=>e=.returned (.bool (abvS a b))∧Kept No w w'):=by
  refine hidC fun C HC=>?_;have HF:Hid (Fq No w w []):=Fq.start _ _;go_enter Tryz.func185,Tryz.ntmps185;go_upto_region 0 with fail;refine Sg<|xB (Sp.cells a) HF fun g1 w2 HF=>xB (Sp.cells b) HF fun g3 w4 HF=>tF<|Nl ?_;simp only[pS];go_upto_region 1 with fail;refine Sg<|tK (pg g1 0)<|lD (.int .i64 a.n) HF 0 0 U3 rfl<|tK (pg g3 0)<|lD (.int .i64 b.n) HF 1 0 U3 rfl<|?_;simp only[pS];cases q1:(decide (b.n < a.n));rotate_left
  ·refine bN (gI q1)<|tU<|sK<|sK<|sK<|sK<|sK<|sK<|sK<|sK<|sK<|sK<|sK<|sK<|tU<|tU<|Nl ?_;simp only[pS];go_wp2;exact lf C HC HF (by simp only[*,abvS,bsq])
  refine bN (gI q1)<|tF<|tK (pg g1 0)<|lD (.int .i64 a.n) HF 0 0 U3 rfl<|tK (pg g3 0)<|lD (.int .i64 b.n) HF 1 0 U3 rfl<|?_;simp only[pS];cases q2:(a.n==b.n)
  ·refine bN (eI q2)<|tF<|sK<|sK<|sK<|sK<|sK<|tF<|tF<|tF<|Nl ?_;simp only[pS];go_wp2;exact lf C HC HF (by simp only[*,abvS,bsq])
  refine bN (eI q2)<|tU<|tK (pg g1 1)<|lD (.int .i64 a.c) HF 0 1 U3 rfl<|tK (pg g3 1)<|lD (.int .i64 b.c) HF 1 1 U3 rfl<|?_;simp only[pS];cases q3:(decide (b.c < a.c))
  ·refine bN (gI q3)<|tF<|tF<|tF<|Nl ?_;simp only[pS];go_wp2;exact lf C HC HF (by simp only[*,abvS,bsq])
  refine bN (gI q3)<|tU<|tU<|tU<|Nl ?_;simp only[pS];go_wp2;exact lf C HC HF (by simp only[*,abvS,bsq])
theorem r_Above (a b:Sp) (w:World):Calls Tryz.prog 139 #[.agg (Sp.cells a),.agg (Sp.cells b)] w (fun e w'=>e=.returned (.bool (abvS a b))∧Kept No w w'):=by
  refine hidC fun C HC=>?_;have HF:Hid (Fq No w w []):=Fq.start _ _;go_enter Tryz.func139,Tryz.ntmps139;go_upto_region 0 with fail;refine Sg<|xB (Sp.cells a) HF fun g1 w2 HF=>xB (Sp.cells b) HF fun g3 w4 HF=>tF<|Nl ?_;simp only[pS];go_upto_region 1 with fail;refine Sg<|tK (pg g1 0)<|lD (.int .i64 a.n) HF 0 0 U3 rfl<|tK (pg g3 0)<|lD (.int .i64 b.n) HF 1 0 U3 rfl<|?_;simp only[pS];cases q1:(decide (b.n < a.n));rotate_left
  ·refine bN (gI q1)<|tU<|sK<|sK<|sK<|sK<|sK<|sK<|sK<|sK<|sK<|sK<|sK<|sK<|tU<|tU<|Nl ?_;simp only[pS];go_wp2;exact lf C HC HF (by simp only[*,abvS,bsq])
  refine bN (gI q1)<|tF<|tK (pg g1 0)<|lD (.int .i64 a.n) HF 0 0 U3 rfl<|tK (pg g3 0)<|lD (.int .i64 b.n) HF 1 0 U3 rfl<|?_;simp only[pS];cases q2:(a.n==b.n)
  ·refine bN (eI q2)<|tF<|sK<|sK<|sK<|sK<|sK<|tF<|tF<|tF<|Nl ?_;simp only[pS];go_wp2;exact lf C HC HF (by simp only[*,abvS,bsq])
  refine bN (eI q2)<|tU<|tK (pg g1 1)<|lD (.int .i64 a.c) HF 0 1 U3 rfl<|tK (pg g3 1)<|lD (.int .i64 b.c) HF 1 1 U3 rfl<|?_;simp only[pS];cases q3:(decide (b.c < a.c))
  ·refine bN (gI q3)<|tF<|tF<|tF<|Nl ?_;simp only[pS];go_wp2;exact lf C HC HF (by simp only[*,abvS,bsq])
  refine bN (gI q3)<|tU<|tU<|tU<|Nl ?_;simp only[pS];go_wp2;exact lf C HC HF (by simp only[*,abvS,bsq])
theorem p_rightSize (n:Int) (c:Cg) (w:World) (hb:0≤c.bl∧c.bl≤4096):Calls Tryz.prog 177 #[.int .i64 n,.agg (Cg.cells c)] w (fun e w'=>e=.returned (.bool (szB c.bl n))∧Kept No w w'):=by
  refine hidC fun C HC=>?_;have HB:Hid (0≤c.bl∧c.bl≤4096):=hb;clear hb;have HF:Hid (Fq No w w []):=Fq.start _ _;go_enter Tryz.func177,Tryz.ntmps177;go_upto_region 0 with fail;refine Sg<|xB (Cg.cells c) HF fun g1 w2 HF=>tF<|Nl ?_;simp only[pS];go_upto_region 1 with fail;refine Sg<|tK (.int .i64 n)<|tK (pg g1 4)<|lD (.int .i64 c.bl) HF 0 4 U3 rfl<|bN (v:=.int .i64 (1048576*c.bl)) (b_mulw 1048576 c.bl (1048576*c.bl) (by rw [IntKind.wrap_i64];have:=HB.out;omega))<|?_;simp only[pS];cases q1:(wn n 0 (1048576*c.bl))
  ·refine cB (p_within n 0 (1048576*c.bl) _) q1 HF fun w3 HF=>tF<|Nl ?_;simp only[pS];go_wp2;exact lf C HC HF (by simp only[*,szB,bsq])
  refine cB (p_within n 0 (1048576*c.bl) _) q1 HF fun w4 HF=>tU<|Nl ?_;simp only[pS];go_wp2;exact lf C HC HF (by simp only[*,szB,bsq])
theorem r_IsSize (n:Int) (c:Cg) (w:World) (hb:0≤c.bl∧c.bl≤4096):Calls Tryz.prog 107 #[.int .i64 n,.agg (Cg.cells c)] w (fun e w'=>e=.returned (.bool (szB c.bl n))∧Kept No w w'):=by
  refine hidC fun C HC=>?_;have HB:Hid (0≤c.bl∧c.bl≤4096):=hb;clear hb;have HF:Hid (Fq No w w []):=Fq.start _ _;go_enter Tryz.func107,Tryz.ntmps107;go_upto_region 0 with fail;refine Sg<|xB (Cg.cells c) HF fun g1 w2 HF=>tF<|Nl ?_;simp only[pS];go_upto_region 1 with fail;refine Sg<|tK (.int .i64 n)<|tK (pg g1 4)<|lD (.int .i64 c.bl) HF 0 4 U3 rfl<|bN (v:=.int .i64 (1048576*c.bl)) (b_mulw 1048576 c.bl (1048576*c.bl) (by rw [IntKind.wrap_i64];have:=HB.out;omega))<|?_;simp only[pS];cases q1:(wn n 0 (1048576*c.bl))
  ·refine cB (r_within n 0 (1048576*c.bl) _) q1 HF fun w3 HF=>tF<|Nl ?_;simp only[pS];go_wp2;exact lf C HC HF (by simp only[*,szB,bsq])
  refine cB (r_within n 0 (1048576*c.bl) _) q1 HF fun w4 HF=>tU<|Nl ?_;simp only[pS];go_wp2;exact lf C HC HF (by simp only[*,szB,bsq])
theorem p_indexS (s:ByteArray) (c:Nat) (hc:c < 256) (w:World):Calls Tryz.prog 217 #[.string s,.int .u8 (c:Int)] w (fun e w'=>e=.returned (.int .i64 (Lib.indexByte s.data.toList (c:Int).toNat.toUInt8))∧Kept No w w'):=by
  go_enter Tryz.func217,Tryz.ntmps217
  go_wp2
  rw [run_callFunc_extern (fn:=Tryz.f229) (by kernel_rfl) (by kernel_rfl) (by kernel_rfl) (by kernel_rfl) (e:=Extern.BytealgIndexByte.indexByte) (by kernel_rfl),Lib.run_indexByteString]
  simp only[Result.andThen]
  rw [Oper.upon_value]
  go_wp2
  go_ret
  exact ⟨rfl,Kept.refl No w⟩
theorem p_indexT (s:ByteArray) (c:Nat) (hc:c < 256) (w:World):Calls Tryz.prog 176 #[.string s,.int .u8 (c:Int)] w (fun e w'=>e=.returned (.int .i64 (Lib.indexByte s.data.toList (c:Int).toNat.toUInt8))∧Kept No w w'):=by
  have H:=p_indexS s c hc
  go_enter Tryz.func176,Tryz.ntmps176
  go_wp2_with (go_at_call 217;refine (H _).mono ?_;rintro e w' ⟨rfl,hk⟩)
  go_ret
  exact ⟨rfl,hk⟩
theorem p_indexB (s:ByteArray) (c:Nat) (w:World) (hc:c < 256:=by decide):Calls Tryz.prog 176 #[.string s,.int .u8 (c:Int)] w (fun e w'=>e=.returned (.int .i64 (idxB s c.toUInt8))∧Kept No w w'):=p_indexT s c hc w
theorem p_rightName (x:ByteArray) (w:World):Calls Tryz.prog 101 #[.string x] w (fun e w'=>e=.returned (.bool (nameP x))∧Kept No w w'):=by
  refine hidC fun C HC=>?_;have HF:Hid (Fq No w w []):=Fq.start _ _;go_enter Tryz.func101,Tryz.ntmps101;go_upto_region 0 with fail;refine Sg<|tF<|Nl ?_;simp only[pS];go_upto_region 1 with fail;refine Sg<|tK (.string x)<|tK (.int .i64 ((x.size:Nat):Int))<|?_;simp only[pS];cases q1:(wn ((x.size:Nat):Int) 1 255)
  ·refine cB (p_within ((x.size:Nat):Int) 1 255 _) q1 HF fun w1 HF=>tF<|sK<|sK<|sK<|tF<|tF<|sK<|sK<|sK<|tF<|tF<|Nl ?_;simp only[pS];go_wp2;exact lf C HC HF (by simp only[*,nameP,bsq])
  refine cB (p_within ((x.size:Nat):Int) 1 255 _) q1 HF fun w2 HF=>tU<|tK (.string x)<|cV (p_indexB x 0 _) HF fun w3 HF=>?_;simp only[pS];cases q2:(decide ((idxB x 0) < 0))
  ·refine bN (lI q2)<|tF<|tF<|sK<|sK<|sK<|tF<|tF<|Nl ?_;simp only[pS];go_wp2;exact lf C HC HF (by simp only[*,nameP,bsq])
  refine bN (lI q2)<|tU<|tU<|tK (.string x)<|cV (p_indexB x 47 _) HF fun w4 HF=>?_;simp only[pS];cases q3:(decide ((idxB x 47) < 0))
  ·refine bN (lI q3)<|tF<|tF<|Nl ?_;simp only[pS];go_wp2;exact lf C HC HF (by simp only[*,nameP,bsq])
  refine bN (lI q3)<|tU<|tU<|Nl ?_;simp only[pS];go_wp2;exact lf C HC HF (by simp only[*,nameP,bsq])
theorem p_rightChange (x:Cm) (c:Cg) (w:World) (hb:0≤c.bl∧c.bl≤4096):Calls Tryz.prog 102 #[.agg (Cm.cells x),.agg (Cg.cells c)] w (fun e w'=>e=.returned (.bool (chgP c.bl x))∧Kept No w w'):=by
  refine hidC fun C HC=>?_;have HB:Hid (0≤c.bl∧c.bl≤4096):=hb;clear hb;have HF:Hid (Fq No w w []):=Fq.start _ _;go_enter Tryz.func102,Tryz.ntmps102;go_upto_region 0 with fail;refine Sg<|xB (Cm.cells x) HF fun g1 w2 HF=>xB (Cg.cells c) HF fun g3 w4 HF=>tF<|Nl ?_;simp only[pS];go_upto_region 1 with fail;refine Sg<|tK (pg g1 3)<|lD (.string x.nm) HF 0 3 U9 rfl<|?_;simp only[pS];cases q1:(nameP x.nm)
  ·refine cB (p_rightName x.nm _) q1 HF fun w5 HF=>tF<|sK<|sK<|sK<|tF<|tF<|sK<|sK<|sK<|sK<|tF<|tF<|Nl ?_;simp only[pS];go_wp2;exact lf C HC HF (by simp only[*,chgP,bsq])
  refine cB (p_rightName x.nm _) q1 HF fun w6 HF=>tU<|tK (pg g1 4)<|lP (Fi.cs ⟨x.f0,x.f1⟩) HF 0 4 U37 S37 (Cm.cs x) rfl<|?_;simp only[pS];cases q2:(filB ⟨x.f0,x.f1⟩)
  ·refine cB (p_isFile ⟨x.f0,x.f1⟩ _) q2 HF fun w7 HF=>tF<|tF<|sK<|sK<|sK<|sK<|tF<|tF<|Nl ?_;simp only[pS];go_wp2;exact lf C HC HF (by simp only[*,chgP,bsq])
  refine cB (p_isFile ⟨x.f0,x.f1⟩ _) q2 HF fun w8 HF=>tU<|tU<|tK (pg g1 8)<|lD (.int .i64 x.sz) HF 0 8 U3 rfl<|lP (Cg.cs c) HF 1 0 U24 S24 (Cg.cs c) rfl<|?_;simp only[pS];cases q3:(szB c.bl x.sz)
  ·refine cB (p_rightSize x.sz c _ HB) q3 HF fun w9 HF=>tF<|tF<|Nl ?_;simp only[pS];go_wp2;exact lf C HC HF (by simp only[*,chgP,bsq])
  refine cB (p_rightSize x.sz c _ HB) q3 HF fun w10 HF=>tU<|tU<|Nl ?_;simp only[pS];go_wp2;exact lf C HC HF (by simp only[*,chgP,bsq])
theorem p_rightCommand (x:Cm) (c:Cg) (w:World) (hb:0≤c.bl∧c.bl≤4096):Calls Tryz.prog 44 #[.agg (Cm.cells x),.agg (Cg.cells c)] w (fun e w'=>e=.returned (.bool (cmdP c.bl x))∧Kept No w w'):=by
  refine hidC fun C HC=>?_;have HB:Hid (0≤c.bl∧c.bl≤4096):=hb;clear hb;have HF:Hid (Fq No w w []):=Fq.start _ _;go_enter Tryz.func44,Tryz.ntmps44;go_upto_region 0 with fail;refine Sg<|xB (Cm.cells x) HF fun g1 w2 HF=>xB (Cg.cells c) HF fun g3 w4 HF=>tF<|Nl ?_;simp only[pS];go_upto_region 1 with fail;refine Sg<|tK (pg g1 1)<|lD (.int .i64 x.cl) HF 0 1 U3 rfl<|?_;simp only[pS];cases q1:(wn x.cl 1 255)
  ·refine cB (p_rightId x.cl _) q1 HF fun w5 HF=>tU<|tU<|sK<|sK<|sK<|sK<|tU<|Nl ?_;simp only[pS];go_upto_region 2 with fail;refine Sg<|tF<|Nl ?_;simp only[pS];go_wp2;exact lf C HC HF (by simp only[*,cmdP,bsq])
  refine cB (p_rightId x.cl _) q1 HF fun w6 HF=>tF<|tF<|tK (pg g1 2)<|lD (.int .i64 x.op) HF 0 2 U3 rfl<|?_;simp only[pS];cases q2:(wn x.op 1 1099511627776)
  ·refine cB (p_rightNum x.op _) q2 HF fun w7 HF=>tU<|tU<|Nl ?_;simp only[pS];go_upto_region 2 with fail;refine Sg<|tF<|Nl ?_;simp only[pS];go_wp2;exact lf C HC HF (by simp only[*,cmdP,bsq])
  refine cB (p_rightNum x.op _) q2 HF fun w8 HF=>tF<|tF<|Nl ?_;simp only[pS];go_upto_region 3 with fail;refine Sg<|tK (pg g1 0)<|lD (.int .i64 x.k) HF 0 0 U3 rfl<|tK (pg g1 1)<|lD (.int .i64 x.cl) HF 0 1 U3 rfl<|tK (pg g1 2)<|lD (.int .i64 x.op) HF 0 2 U3 rfl<|bD (Cm.cells (⟨x.k,x.cl,x.op,⟨#[]⟩,0,0,0,0,0⟩))<|xA (Cm.cells cZ) Z39 HF fun g9 w10 HF=>sB (Cm.cs (⟨x.k,x.cl,x.op,⟨#[]⟩,0,0,0,0,0⟩)) (Cm.cs (⟨x.k,x.cl,x.op,⟨#[]⟩,0,0,0,0,0⟩)) HF 2 0 (v:=.agg (Cm.cells (⟨x.k,x.cl,x.op,⟨#[]⟩,0,0,0,0,0⟩))) rfl S39 (Cm.oneL _) (Cm.cs cZ) rfl fun w11 HF=>Nl ?_;simp only[pS];go_upto_region 4 with fail;refine Sg<|lP (Cm.cs (⟨x.k,x.cl,x.op,⟨#[]⟩,0,0,0,0,0⟩)) HF 2 0 U39 S39 (Cm.cs (⟨x.k,x.cl,x.op,⟨#[]⟩,0,0,0,0,0⟩)) rfl<|xA (Cm.cells cZ) Z39 HF fun g12 w13 HF=>sB (Cm.cs (⟨x.k,x.cl,x.op,⟨#[]⟩,0,0,0,0,0⟩)) (Cm.cs (⟨x.k,x.cl,x.op,⟨#[]⟩,0,0,0,0,0⟩)) HF 3 0 (v:=.agg (Cm.cells (⟨x.k,x.cl,x.op,⟨#[]⟩,0,0,0,0,0⟩))) rfl S39 (Cm.oneL _) (Cm.cs cZ) rfl fun w14 HF=>Nl ?_;simp only[pS];go_upto_region 5 with fail;refine Sg<|tK (pg g1 3)<|lD (.string x.nm) HF 0 3 U9 rfl<|tK (pg g12 3)<|sB (Cm.cs ⟨x.k,x.cl,x.op,x.nm,0,0,0,0,0⟩) ([.string x.nm]) HF 3 3 (v:=.string x.nm) rfl S9 (by simp [Value.oneCell',Sl.v]) (Cm.cs (⟨x.k,x.cl,x.op,⟨#[]⟩,0,0,0,0,0⟩)) rfl fun w15 HF=>Nl ?_;simp only[pS];go_upto_region 6 with fail;refine Sg<|tK (pg g1 0)<|lD (.int .i64 x.k) HF 0 0 U3 rfl<|Nl ?_;simp only[pS];go_upto_region 7 with fail;refine Sg<|?_;cases q3:(x.k==1);rotate_left
  ·refine bN (eI q3)<|tU<|Nl ?_;simp only[pS];go_upto_region 10 with fail;refine Sg<|lP (Cm.cs x) HF 0 0 U39 S39 (Cm.cs x) rfl<|lP (Cm.cs ⟨x.k,x.cl,x.op,x.nm,0,0,0,0,0⟩) HF 3 0 U39 S39 (Cm.cs ⟨x.k,x.cl,x.op,x.nm,0,0,0,0,0⟩) rfl<|?_;simp only[pS];cases q21:(eqC x ⟨x.k,x.cl,x.op,x.nm,0,0,0,0,0⟩)
   ·refine bN (qeC q21)<|tF<|sK<|sK<|sK<|tF<|tF<|Nl ?_;simp only[pS];go_wp2;exact lf C HC HF (by simp only[*,cmdP,bsq])
   refine bN (qeC q21)<|tU<|tK (pg g1 3)<|lD (.string x.nm) HF 0 3 U9 rfl<|?_;simp only[pS];cases q22:(nameP x.nm)
   ·refine cB (p_rightName x.nm _) q22 HF fun w28 HF=>tF<|tF<|Nl ?_;simp only[pS];go_wp2;exact lf C HC HF (by simp only[*,cmdP,bsq])
   refine cB (p_rightName x.nm _) q22 HF fun w29 HF=>tU<|tU<|Nl ?_;simp only[pS];go_wp2;exact lf C HC HF (by simp only[*,cmdP,bsq])
  refine bN (eI q3)<|tF<|Nl ?_;simp only[pS];go_upto_region 8 with fail;refine Sg<|?_;cases q4:(x.k==2);rotate_left
  ·refine bN (eI q4)<|tU<|Nl ?_;simp only[pS];go_upto_region 10 with fail;refine Sg<|lP (Cm.cs x) HF 0 0 U39 S39 (Cm.cs x) rfl<|lP (Cm.cs ⟨x.k,x.cl,x.op,x.nm,0,0,0,0,0⟩) HF 3 0 U39 S39 (Cm.cs ⟨x.k,x.cl,x.op,x.nm,0,0,0,0,0⟩) rfl<|?_;simp only[pS];cases q19:(eqC x ⟨x.k,x.cl,x.op,x.nm,0,0,0,0,0⟩)
   ·refine bN (qeC q19)<|tF<|sK<|sK<|sK<|tF<|tF<|Nl ?_;simp only[pS];go_wp2;exact lf C HC HF (by simp only[*,cmdP,bsq])
   refine bN (qeC q19)<|tU<|tK (pg g1 3)<|lD (.string x.nm) HF 0 3 U9 rfl<|?_;simp only[pS];cases q20:(nameP x.nm)
   ·refine cB (p_rightName x.nm _) q20 HF fun w26 HF=>tF<|tF<|Nl ?_;simp only[pS];go_wp2;exact lf C HC HF (by simp only[*,cmdP,bsq])
   refine cB (p_rightName x.nm _) q20 HF fun w27 HF=>tU<|tU<|Nl ?_;simp only[pS];go_wp2;exact lf C HC HF (by simp only[*,cmdP,bsq])
  refine bN (eI q4)<|tF<|Nl ?_;simp only[pS];go_upto_region 9 with fail;refine Sg<|?_;cases q5:(x.k==3);rotate_left
  ·refine bN (eI q5)<|tU<|Nl ?_;simp only[pS];go_upto_region 10 with fail;refine Sg<|lP (Cm.cs x) HF 0 0 U39 S39 (Cm.cs x) rfl<|lP (Cm.cs ⟨x.k,x.cl,x.op,x.nm,0,0,0,0,0⟩) HF 3 0 U39 S39 (Cm.cs ⟨x.k,x.cl,x.op,x.nm,0,0,0,0,0⟩) rfl<|?_;simp only[pS];cases q17:(eqC x ⟨x.k,x.cl,x.op,x.nm,0,0,0,0,0⟩)
   ·refine bN (qeC q17)<|tF<|sK<|sK<|sK<|tF<|tF<|Nl ?_;simp only[pS];go_wp2;exact lf C HC HF (by simp only[*,cmdP,bsq])
   refine bN (qeC q17)<|tU<|tK (pg g1 3)<|lD (.string x.nm) HF 0 3 U9 rfl<|?_;simp only[pS];cases q18:(nameP x.nm)
   ·refine cB (p_rightName x.nm _) q18 HF fun w24 HF=>tF<|tF<|Nl ?_;simp only[pS];go_wp2;exact lf C HC HF (by simp only[*,cmdP,bsq])
   refine cB (p_rightName x.nm _) q18 HF fun w25 HF=>tU<|tU<|Nl ?_;simp only[pS];go_wp2;exact lf C HC HF (by simp only[*,cmdP,bsq])
  refine bN (eI q5)<|tF<|Nl ?_;simp only[pS];go_upto_region 11 with fail;refine Sg<|?_;cases q6:(x.k==4);rotate_left
  ·refine bN (eI q6)<|tU<|Nl ?_;simp only[pS];go_upto_region 12 with fail;refine Sg<|lP (Cm.cs x) HF 0 0 U39 S39 (Cm.cs x) rfl<|lP (Cm.cs (⟨x.k,x.cl,x.op,⟨#[]⟩,0,0,0,0,0⟩)) HF 2 0 U39 S39 (Cm.cs (⟨x.k,x.cl,x.op,⟨#[]⟩,0,0,0,0,0⟩)) rfl<|?_;simp only[pS];cases q16:(eqC x (⟨x.k,x.cl,x.op,⟨#[]⟩,0,0,0,0,0⟩))
   ·refine bN (qeC q16)<|tF<|Nl ?_;simp only[pS];go_wp2;exact lf C HC HF (by simp only[*,cmdP,bsq])
   refine bN (qeC q16)<|tU<|Nl ?_;simp only[pS];go_wp2;exact lf C HC HF (by simp only[*,cmdP,bsq])
  refine bN (eI q6)<|tF<|Nl ?_;simp only[pS];go_upto_region 13 with fail;refine Sg<|?_;cases q7:(x.k==5);rotate_left
  ·refine bN (eI q7)<|tU<|Nl ?_;simp only[pS];go_upto_region 15 with fail;refine Sg<|tK (pg g1 6)<|lP (Fi.cs ⟨x.g0,x.g1⟩) HF 0 6 U37 S37 (Cm.cs x) rfl<|bD (Fi.cells fiZ)<|?_;simp only[pS];cases q14:(eqFi ⟨x.g0,x.g1⟩ fiZ)
   ·refine bN (qeFi q14)<|tF<|sK<|sK<|sK<|tF<|tF<|Nl ?_;simp only[pS];go_wp2;exact lf C HC HF (by simp only[*,cmdP,bsq])
   refine bN (qeFi q14)<|tU<|lP (Cm.cs x) HF 0 0 U39 S39 (Cm.cs x) rfl<|lP (Cg.cs c) HF 1 0 U24 S24 (Cg.cs c) rfl<|?_;simp only[pS];cases q15:(chgP c.bl x)
   ·refine cB (p_rightChange x c _ HB) q15 HF fun w22 HF=>tF<|tF<|Nl ?_;simp only[pS];go_wp2;exact lf C HC HF (by simp only[*,cmdP,bsq])
   refine cB (p_rightChange x c _ HB) q15 HF fun w23 HF=>tU<|tU<|Nl ?_;simp only[pS];go_wp2;exact lf C HC HF (by simp only[*,cmdP,bsq])
  refine bN (eI q7)<|tF<|Nl ?_;simp only[pS];go_upto_region 14 with fail;refine Sg<|?_;cases q8:(x.k==6);rotate_left
  ·refine bN (eI q8)<|tU<|Nl ?_;simp only[pS];go_upto_region 15 with fail;refine Sg<|tK (pg g1 6)<|lP (Fi.cs ⟨x.g0,x.g1⟩) HF 0 6 U37 S37 (Cm.cs x) rfl<|bD (Fi.cells fiZ)<|?_;simp only[pS];cases q12:(eqFi ⟨x.g0,x.g1⟩ fiZ)
   ·refine bN (qeFi q12)<|tF<|sK<|sK<|sK<|tF<|tF<|Nl ?_;simp only[pS];go_wp2;exact lf C HC HF (by simp only[*,cmdP,bsq])
   refine bN (qeFi q12)<|tU<|lP (Cm.cs x) HF 0 0 U39 S39 (Cm.cs x) rfl<|lP (Cg.cs c) HF 1 0 U24 S24 (Cg.cs c) rfl<|?_;simp only[pS];cases q13:(chgP c.bl x)
   ·refine cB (p_rightChange x c _ HB) q13 HF fun w20 HF=>tF<|tF<|Nl ?_;simp only[pS];go_wp2;exact lf C HC HF (by simp only[*,cmdP,bsq])
   refine cB (p_rightChange x c _ HB) q13 HF fun w21 HF=>tU<|tU<|Nl ?_;simp only[pS];go_wp2;exact lf C HC HF (by simp only[*,cmdP,bsq])
  refine bN (eI q8)<|tF<|Nl ?_;simp only[pS];go_upto_region 16 with fail;refine Sg<|?_;cases q9:(x.k==7)
  ·refine bN (eI q9)<|tF<|Nl ?_;simp only[pS];go_upto_region 18 with fail;refine Sg<|tF<|Nl ?_;simp only[pS];go_wp2;exact lf C HC HF (by simp only[*,cmdP,bsq])
  refine bN (eI q9)<|tU<|Nl ?_;simp only[pS];go_upto_region 17 with fail;refine Sg<|tK (pg g1 6)<|lP (Fi.cs ⟨x.g0,x.g1⟩) HF 0 6 U37 S37 (Cm.cs x) rfl<|?_;simp only[pS];cases q10:(filB ⟨x.g0,x.g1⟩)
  ·refine cB (p_isFile ⟨x.g0,x.g1⟩ _) q10 HF fun w16 HF=>tF<|sK<|sK<|sK<|tF<|tF<|Nl ?_;simp only[pS];go_wp2;exact lf C HC HF (by simp only[*,cmdP,bsq])
  refine cB (p_isFile ⟨x.g0,x.g1⟩ _) q10 HF fun w17 HF=>tU<|lP (Cm.cs x) HF 0 0 U39 S39 (Cm.cs x) rfl<|lP (Cg.cs c) HF 1 0 U24 S24 (Cg.cs c) rfl<|?_;simp only[pS];cases q11:(chgP c.bl x)
  ·refine cB (p_rightChange x c _ HB) q11 HF fun w18 HF=>tF<|tF<|Nl ?_;simp only[pS];go_wp2;exact lf C HC HF (by simp only[*,cmdP,bsq])
  refine cB (p_rightChange x c _ HB) q11 HF fun w19 HF=>tU<|tU<|Nl ?_;simp only[pS];go_wp2;exact lf C HC HF (by simp only[*,cmdP,bsq])
theorem p_rightAnswer (l:La) (c:Cg) (w:World) (hb:0≤c.bl∧c.bl≤4096):Calls Tryz.prog 178 #[.agg (La.cells l),.agg (Cg.cells c)] w (fun e w'=>e=.returned (.bool (ansP c.bl l))∧Kept No w w'):=by
  refine hidC fun C HC=>?_;have HB:Hid (0≤c.bl∧c.bl≤4096):=hb;clear hb;have HF:Hid (Fq No w w []):=Fq.start _ _;go_enter Tryz.func178,Tryz.ntmps178;go_upto_region 0 with fail;refine Sg<|xB (La.cells l) HF fun g1 w2 HF=>xB (Cg.cells c) HF fun g3 w4 HF=>tF<|Nl ?_;simp only[pS];go_upto_region 1 with fail;refine Sg<|tK (pg g1 3)<|lD (.int .i64 l.er) HF 0 3 U47 rfl<|Nl ?_;simp only[pS];go_upto_region 2 with fail;refine Sg<|?_;cases q1:(l.er==0);rotate_left
  ·refine bN (eIE q1)<|tU<|Nl ?_;simp only[pS];go_upto_region 5 with fail;refine Sg<|tK (pg g1 4)<|lP (Fi.cs ⟨l.f0,l.f1⟩) HF 0 4 U37 S37 (La.cs l) rfl<|?_;simp only[pS];cases q14:(filB ⟨l.f0,l.f1⟩)
   ·refine cB (p_isFile ⟨l.f0,l.f1⟩ _) q14 HF fun w13 HF=>tF<|sK<|sK<|sK<|sK<|tF<|tF<|Nl ?_;simp only[pS];go_wp2;exact lf C HC HF (by simp only[*,ansP,bsq])
   refine cB (p_isFile ⟨l.f0,l.f1⟩ _) q14 HF fun w14 HF=>tU<|tK (pg g1 6)<|lD (.int .i64 l.sz) HF 0 6 U3 rfl<|lP (Cg.cs c) HF 1 0 U24 S24 (Cg.cs c) rfl<|?_;simp only[pS];cases q15:(szB c.bl l.sz)
   ·refine cB (p_rightSize l.sz c _ HB) q15 HF fun w15 HF=>tF<|tF<|Nl ?_;simp only[pS];go_wp2;exact lf C HC HF (by simp only[*,ansP,bsq])
   refine cB (p_rightSize l.sz c _ HB) q15 HF fun w16 HF=>tU<|tU<|Nl ?_;simp only[pS];go_wp2;exact lf C HC HF (by simp only[*,ansP,bsq])
  refine bN (eIE q1)<|tF<|Nl ?_;simp only[pS];go_upto_region 3 with fail;refine Sg<|?_;cases q2:(l.er==101);rotate_left
  ·refine bN (eIE q2)<|tU<|Nl ?_;simp only[pS];go_upto_region 5 with fail;refine Sg<|tK (pg g1 4)<|lP (Fi.cs ⟨l.f0,l.f1⟩) HF 0 4 U37 S37 (La.cs l) rfl<|?_;simp only[pS];cases q12:(filB ⟨l.f0,l.f1⟩)
   ·refine cB (p_isFile ⟨l.f0,l.f1⟩ _) q12 HF fun w9 HF=>tF<|sK<|sK<|sK<|sK<|tF<|tF<|Nl ?_;simp only[pS];go_wp2;exact lf C HC HF (by simp only[*,ansP,bsq])
   refine cB (p_isFile ⟨l.f0,l.f1⟩ _) q12 HF fun w10 HF=>tU<|tK (pg g1 6)<|lD (.int .i64 l.sz) HF 0 6 U3 rfl<|lP (Cg.cs c) HF 1 0 U24 S24 (Cg.cs c) rfl<|?_;simp only[pS];cases q13:(szB c.bl l.sz)
   ·refine cB (p_rightSize l.sz c _ HB) q13 HF fun w11 HF=>tF<|tF<|Nl ?_;simp only[pS];go_wp2;exact lf C HC HF (by simp only[*,ansP,bsq])
   refine cB (p_rightSize l.sz c _ HB) q13 HF fun w12 HF=>tU<|tU<|Nl ?_;simp only[pS];go_wp2;exact lf C HC HF (by simp only[*,ansP,bsq])
  refine bN (eIE q2)<|tF<|Nl ?_;simp only[pS];go_upto_region 4 with fail;refine Sg<|?_;cases q3:(l.er==104);rotate_left
  ·refine bN (eIE q3)<|tU<|Nl ?_;simp only[pS];go_upto_region 5 with fail;refine Sg<|tK (pg g1 4)<|lP (Fi.cs ⟨l.f0,l.f1⟩) HF 0 4 U37 S37 (La.cs l) rfl<|?_;simp only[pS];cases q10:(filB ⟨l.f0,l.f1⟩)
   ·refine cB (p_isFile ⟨l.f0,l.f1⟩ _) q10 HF fun w5 HF=>tF<|sK<|sK<|sK<|sK<|tF<|tF<|Nl ?_;simp only[pS];go_wp2;exact lf C HC HF (by simp only[*,ansP,bsq])
   refine cB (p_isFile ⟨l.f0,l.f1⟩ _) q10 HF fun w6 HF=>tU<|tK (pg g1 6)<|lD (.int .i64 l.sz) HF 0 6 U3 rfl<|lP (Cg.cs c) HF 1 0 U24 S24 (Cg.cs c) rfl<|?_;simp only[pS];cases q11:(szB c.bl l.sz)
   ·refine cB (p_rightSize l.sz c _ HB) q11 HF fun w7 HF=>tF<|tF<|Nl ?_;simp only[pS];go_wp2;exact lf C HC HF (by simp only[*,ansP,bsq])
   refine cB (p_rightSize l.sz c _ HB) q11 HF fun w8 HF=>tU<|tU<|Nl ?_;simp only[pS];go_wp2;exact lf C HC HF (by simp only[*,ansP,bsq])
  refine bN (eIE q3)<|tF<|Nl ?_;simp only[pS];go_upto_region 6 with fail;refine Sg<|?_;cases q4:(l.er==102);rotate_left
  ·refine bN (eIE q4)<|tU<|Nl ?_;simp only[pS];go_upto_region 8 with fail;refine Sg<|tK (pg g1 4)<|lP (Fi.cs ⟨l.f0,l.f1⟩) HF 0 4 U37 S37 (La.cs l) rfl<|bD (Fi.cells fiZ)<|?_;simp only[pS];cases q8:(eqFi ⟨l.f0,l.f1⟩ fiZ)
   ·refine bN (qeFi q8)<|tF<|sK<|sK<|sK<|tF<|tF<|Nl ?_;simp only[pS];go_wp2;exact lf C HC HF (by simp only[*,ansP,bsq])
   refine bN (qeFi q8)<|tU<|tK (pg g1 6)<|lD (.int .i64 l.sz) HF 0 6 U3 rfl<|?_;simp only[pS];cases q9:(l.sz==0)
   ·refine bN (eI q9)<|tF<|tF<|Nl ?_;simp only[pS];go_wp2;exact lf C HC HF (by simp only[*,ansP,bsq])
   refine bN (eI q9)<|tU<|tU<|Nl ?_;simp only[pS];go_wp2;exact lf C HC HF (by simp only[*,ansP,bsq])
  refine bN (eIE q4)<|tF<|Nl ?_;simp only[pS];go_upto_region 7 with fail;refine Sg<|?_;cases q5:(l.er==103)
  ·refine bN (eIE q5)<|tF<|Nl ?_;simp only[pS];go_upto_region 9 with fail;refine Sg<|tF<|Nl ?_;simp only[pS];go_wp2;exact lf C HC HF (by simp only[*,ansP,bsq])
  refine bN (eIE q5)<|tU<|Nl ?_;simp only[pS];go_upto_region 8 with fail;refine Sg<|tK (pg g1 4)<|lP (Fi.cs ⟨l.f0,l.f1⟩) HF 0 4 U37 S37 (La.cs l) rfl<|bD (Fi.cells fiZ)<|?_;simp only[pS];cases q6:(eqFi ⟨l.f0,l.f1⟩ fiZ)
  ·refine bN (qeFi q6)<|tF<|sK<|sK<|sK<|tF<|tF<|Nl ?_;simp only[pS];go_wp2;exact lf C HC HF (by simp only[*,ansP,bsq])
  refine bN (qeFi q6)<|tU<|tK (pg g1 6)<|lD (.int .i64 l.sz) HF 0 6 U3 rfl<|?_;simp only[pS];cases q7:(l.sz==0)
  ·refine bN (eI q7)<|tF<|tF<|Nl ?_;simp only[pS];go_wp2;exact lf C HC HF (by simp only[*,ansP,bsq])
  refine bN (eI q7)<|tU<|tU<|Nl ?_;simp only[pS];go_wp2;exact lf C HC HF (by simp only[*,ansP,bsq])
theorem p_rightHeld (p a:Sp) (x:Cm) (c:Cg) (w:World) (hb:0≤c.bl∧c.bl≤4096):Calls Tryz.prog 136 #[.agg (Sp.cells p),.agg (Sp.cells a),.agg (Cm.cells x),.agg (Cg.cells c)] w (fun e w'=>e=.returned (.bool (heldP c.bl p a x))∧Kept No w w'):=by
  refine hidC fun C HC=>?_;have HB:Hid (0≤c.bl∧c.bl≤4096):=hb;clear hb;have HF:Hid (Fq No w w []):=Fq.start _ _;go_enter Tryz.func136,Tryz.ntmps136;go_upto_region 0 with fail;refine Sg<|xB (Sp.cells p) HF fun g1 w2 HF=>xB (Sp.cells a) HF fun g3 w4 HF=>xB (Cm.cells x) HF fun g5 w6 HF=>xB (Cg.cells c) HF fun g7 w8 HF=>tF<|Nl ?_;simp only[pS];go_upto_region 1 with fail;refine Sg<|lP (Sp.cs a) HF 1 0 U34 S34 (Sp.cs a) rfl<|?_;simp only[pS];cases q1:(eqS a spZ);rotate_left
  ·refine cB (p_isNone a _) q1 HF fun w16 HF=>Nl ?_;simp only[pS];go_upto_region 2 with fail;refine Sg<|lP (Cm.cs x) HF 2 0 U39 S39 (Cm.cs x) rfl<|bD (Cm.cells cZ)<|?_;simp only[pS];cases q5:(eqC x cZ)
   ·refine bN (qeC q5)<|tF<|Nl ?_;simp only[pS];go_wp2;exact lf C HC HF (by simp only[*,heldP,bsq])
   refine bN (qeC q5)<|tU<|Nl ?_;simp only[pS];go_wp2;exact lf C HC HF (by simp only[*,heldP,bsq])
  refine cB (p_isNone a _) q1 HF fun w9 HF=>Nl ?_;simp only[pS];go_upto_region 3 with fail;refine Sg<|lP (Sp.cs a) HF 1 0 U34 S34 (Sp.cs a) rfl<|?_;simp only[pS];cases q2:(oneS a)
  ·refine cB (p_isOne a _) q2 HF fun w10 HF=>tF<|sK<|sK<|sK<|sK<|tF<|tF<|sK<|sK<|sK<|tF<|tF<|Nl ?_;simp only[pS];go_wp2;exact lf C HC HF (by simp only[*,heldP,bsq])
  refine cB (p_isOne a _) q2 HF fun w11 HF=>tU<|lP (Sp.cs a) HF 1 0 U34 S34 (Sp.cs a) rfl<|lP (Sp.cs p) HF 0 0 U34 S34 (Sp.cs p) rfl<|?_;simp only[pS];cases q3:(abvS a p);rotate_left
  ·refine cB (p_above a p _) q3 HF fun w15 HF=>tF<|tF<|tF<|sK<|sK<|sK<|tF<|tF<|Nl ?_;simp only[pS];go_wp2;exact lf C HC HF (by simp only[*,heldP,bsq])
  refine cB (p_above a p _) q3 HF fun w12 HF=>tU<|tU<|tU<|lP (Cm.cs x) HF 2 0 U39 S39 (Cm.cs x) rfl<|lP (Cg.cs c) HF 3 0 U24 S24 (Cg.cs c) rfl<|?_;simp only[pS];cases q4:(cmdP c.bl x)
  ·refine cB (p_rightCommand x c _ HB) q4 HF fun w13 HF=>tF<|tF<|Nl ?_;simp only[pS];go_wp2;exact lf C HC HF (by simp only[*,heldP,bsq])
  refine cB (p_rightCommand x c _ HB) q4 HF fun w14 HF=>tU<|tU<|Nl ?_;simp only[pS];go_wp2;exact lf C HC HF (by simp only[*,heldP,bsq])
end Go.Proofs.YtgdnofacgfjaeaaGreat.Md
