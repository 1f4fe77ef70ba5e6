import Derived.Test.YtgdnofacgfjaeaaGreatGb
namespace Go.Proofs.YtgdnofacgfjaeaaGreat.Md
open Go.RowKit
set_option linter.unusedVariables false
set_option linter.unusedSimpArgs false
set_option maxRecDepth 100000 in
set_option maxHeartbeats 4000000 in
theorem r_between (m:Mg) (bs:List Int) (es:List En) (ls:List La) (cs:List Cm) (c:Cg) (w:World) (hb:0≤c.bl∧c.bl≤4096) (h1:RdB w m.bl bs) (h2:RdE w m.bk.e es) (h3:RdL w m.bk.l ls) (h4:RdC w m.cm cs) (hnb:m.bl.l≤281474976710656) (hne:m.bk.e.l≤281474976710656) (hnl:m.bk.l.l≤281474976710656) (hnc:m.cm.l≤281474976710656):Calls Tryz.prog 98 #[.agg (Mg.cells m),.agg (Cg.cells c)] w (fun e w'=>e=.returned (.bool (btwR c.bl c.rm m bs es ls cs))∧Kept No w w'):=by
  refine hidC fun C HC=>?_;have HB:Hid (0≤c.bl∧c.bl≤4096):=hb;clear hb;have HRB:Hid (RdB w m.bl bs):=h1;clear h1;have HRE:Hid (RdE w m.bk.e es):=h2;clear h2;have HRL:Hid (RdL w m.bk.l ls):=h3;clear h3;have HRC:Hid (RdC w m.cm cs):=h4;clear h4;have HF:Hid (Fq No w w []):=Fq.start _ _;go_enter Tryz.func98,Tryz.ntmps98;go_upto_region 0 with fail;refine Sg<|xB (Mg.cells m) HF fun g1 w2 HF=>xB (Cg.cells c) HF fun g3 w4 HF=>tF<|Nl ?_;simp only[pS];go_upto_region 1 with fail;refine Sg<|tK (pg g1 13)<|lP (Sp.cs m.hd) HF 0 13 U34 S34 (Mg.cs m) rfl<|?_;simp only[pS];cases q1:(eqS m.hd spZ)
  ·refine cB (r_None m.hd _) q1 HF fun w5 HF=>tU<|tU<|sK<|sK<|sK<|sK<|tU<|Nl ?_;simp only[pS];go_upto_region 2 with fail;refine Sg<|tF<|Nl ?_;simp only[pS];go_wp2;exact lf C HC HF (by simp only[*,btwR,bsq])
  refine cB (r_None m.hd _) q1 HF fun w6 HF=>tF<|tF<|tK (pg g1 16)<|lP (Cm.cs m.c) HF 0 16 U39 S39 (Mg.cs m) rfl<|?_;simp only[pS];cases q2:(eqC m.c cZ)
  ·refine cB (r_none m.c _) q2 HF fun w7 HF=>tU<|tU<|Nl ?_;simp only[pS];go_upto_region 2 with fail;refine Sg<|tF<|Nl ?_;simp only[pS];go_wp2;exact lf C HC HF (by simp only[*,btwR,bsq])
  refine cB (r_none m.c _) q2 HF fun w8 HF=>tF<|tF<|Nl ?_;simp only[pS];go_upto_region 3 with fail;refine Sg<|tK (pg g1 0)<|lD (.int .i64 m.k) HF 0 0 U3 rfl<|?_;simp only[pS];cases q3:(m.k==21);rotate_left
  ·refine bN (eI q3)<|Nl ?_;simp only[pS];go_upto_region 4 with fail;refine Sg<|tK (pg g1 11)<|lP (Sp.cs m.st) HF 0 11 U34 S34 (Mg.cs m) rfl<|xA (Sp.cells spZ) Z34 HF fun g30 w31 HF=>sB (Sp.cs m.st) (Sp.cs m.st) HF 2 0 (v:=.agg (Sp.cells m.st)) rfl S34 (Sp.oneL _) (Sp.cs spZ) rfl fun w32 HF=>Nl ?_;simp only[pS];go_upto_region 5 with fail;refine Sg<|bD (Sp.cells spZ)<|tK (pg g1 11)<|sB (Mg.cs ⟨m.k,m.fr,m.too,m.op,m.rd,m.ky,spZ,m.hd,m.bl,m.c,m.bk,m.cm,m.mo⟩) (Sp.cs spZ) HF 0 11 (v:=.agg (Sp.cells spZ)) rfl S34 (Sp.oneL _) (Mg.cs m) rfl fun w33 HF=>Nl ?_;simp only[pS];go_upto_region 6 with fail;refine Sg<|lP (Mg.cs ⟨m.k,m.fr,m.too,m.op,m.rd,m.ky,spZ,m.hd,m.bl,m.c,m.bk,m.cm,m.mo⟩) HF 0 0 U45 S45 (Mg.cs ⟨m.k,m.fr,m.too,m.op,m.rd,m.ky,spZ,m.hd,m.bl,m.c,m.bk,m.cm,m.mo⟩) rfl<|?_;simp only[pS];cases q26:(bareR ⟨m.k,m.fr,m.too,m.op,m.rd,m.ky,spZ,m.hd,m.bl,m.c,m.bk,m.cm,m.mo⟩)
   ·refine cB (r_bare ⟨m.k,m.fr,m.too,m.op,m.rd,m.ky,spZ,m.hd,m.bl,m.c,m.bk,m.cm,m.mo⟩ _) q26 HF fun w34 HF=>tF<|sK<|sK<|sK<|sK<|sK<|sK<|sK<|sK<|sK<|sK<|sK<|sK<|sK<|sK<|sK<|sK<|sK<|sK<|tF<|tF<|Nl ?_;simp only[pS];go_wp2;exact lf C HC HF (by simp only[*,btwR,bsq])
   refine cB (r_bare ⟨m.k,m.fr,m.too,m.op,m.rd,m.ky,spZ,m.hd,m.bl,m.c,m.bk,m.cm,m.mo⟩ _) q26 HF fun w35 HF=>tU<|tK (pg g1 7)<|tK (pg g1 7)<|lD (.int .i64 m.ky.k) HF 0 7 U3 rfl<|?_;simp only[pS];cases q27:(m.ky.k==1);rotate_left
   ·refine bN (eI q27)<|tU<|lP (Sp.cs m.st) HF 2 0 U34 S34 (Sp.cs m.st) rfl<|?_;simp only[pS];cases q30:(eqS m.st spZ);rotate_left
    ·refine cB (r_None m.st _) q30 HF fun w39 HF=>tU<|tU<|sK<|sK<|sK<|sK<|sK<|sK<|sK<|sK<|tU<|tU<|tU<|Nl ?_;simp only[pS];go_wp2;exact lf C HC HF (by simp only[*,btwR,bsq])
    refine cB (r_None m.st _) q30 HF fun w38 HF=>tF<|tF<|tK (pg g1 7)<|tK (pg g1 7)<|lD (.int .i64 m.ky.k) HF 0 7 U3 rfl<|?_;simp only[pS];have q31:(m.ky.k==2)=false:=by rw [eq_of_beq q27];rfl
    refine bN (eI q31)<|tF<|sK<|sK<|tF<|tF<|tF<|tF<|Nl ?_;simp only[pS];go_wp2;exact lf C HC HF (by simp only[*,btwR,bsq])
   refine bN (eI q27)<|tF<|sK<|sK<|tF<|tF<|tK (pg g1 7)<|tK (pg g1 7)<|lD (.int .i64 m.ky.k) HF 0 7 U3 rfl<|?_;simp only[pS];cases q28:(m.ky.k==2)
   ·refine bN (eI q28)<|tF<|sK<|sK<|tF<|tF<|tF<|tF<|Nl ?_;simp only[pS];go_wp2;exact lf C HC HF (by simp only[*,btwR,bsq])
   refine bN (eI q28)<|tU<|lP (Sp.cs m.st) HF 2 0 U34 S34 (Sp.cs m.st) rfl<|?_;simp only[pS];cases q29:(frmS m.st)
   ·refine cB (r_from m.st _) q29 HF fun w36 HF=>tF<|tF<|tF<|tF<|Nl ?_;simp only[pS];go_wp2;exact lf C HC HF (by simp only[*,btwR,bsq])
   refine cB (r_from m.st _) q29 HF fun w37 HF=>tU<|tU<|tU<|tU<|Nl ?_;simp only[pS];go_wp2;exact lf C HC HF (by simp only[*,btwR,bsq])
  refine bN (eI q3)<|Nl ?_;simp only[pS];go_upto_region 7 with fail;refine Sg<|tK (pg g1 7)<|tK (pg g1 7)<|lD (.int .i64 m.ky.k) HF 0 7 U3 rfl<|?_;simp only[pS];cases q4:(m.ky.k==1);rotate_left
  ·refine bN (eI q4)<|Nl ?_;simp only[pS];go_upto_region 8 with fail;refine Sg<|tK (pg g1 25)<|lP (Bv.cs m.bk) HF 0 25 U43 S43 (Mg.cs m) rfl<|?_;simp only[pS];cases q17:(empK m.bk)
   ·refine cB (r_empty m.bk _) q17 HF fun w22 HF=>tU<|tU<|sK<|sK<|sK<|sK<|tU<|tU<|sK<|sK<|tU<|Nl ?_;simp only[pS];go_upto_region 9 with fail;refine Sg<|tF<|Nl ?_;simp only[pS];go_wp2;exact lf C HC HF (by simp only[*,btwR,bsq])
   refine cB (r_empty m.bk _) q17 HF fun w23 HF=>tF<|tF<|tK (pg g1 28)<|lD (m.cm.v) HF 0 28 U26 rfl<|tK (.int .i64 ((m.cm.l:Nat):Int))<|?_;simp only[pS];cases q18:(decide (0 < ((m.cm.l:Nat):Int)));rotate_left
   ·refine bN (gI q18)<|tU<|tU<|sK<|sK<|tU<|Nl ?_;simp only[pS];go_upto_region 9 with fail;refine Sg<|tF<|Nl ?_;simp only[pS];go_wp2;exact lf C HC HF (by simp only[*,btwR,bsq])
   refine bN (gI q18)<|tF<|tF<|tK (pg g1 29)<|lD (.bool m.mo) HF 0 29 U4 rfl<|tK (.bool m.mo)<|Nl ?_;simp only[pS];cases q19:(m.mo);rotate_left
   ·go_upto_region 9 with fail;refine Sg<|tF<|Nl ?_;simp only[pS];go_wp2;exact lf C HC HF (by simp only[*,btwR,bsq])
   go_upto_region 10 with fail;refine Sg<|tK (pg g1 11)<|lP (Sp.cs m.st) HF 0 11 U34 S34 (Mg.cs m) rfl<|?_;simp only[pS];cases q20:(eqS m.st spZ)
   ·refine cB (r_None m.st _) q20 HF fun w24 HF=>tF<|sK<|sK<|sK<|sK<|tF<|tF<|tK (pg g1 11)<|lP (Sp.cs m.st) HF 0 11 U34 S34 (Mg.cs m) rfl<|?_;simp only[pS];cases q21:(oneS m.st)
    ·refine cB (r_One m.st _) q21 HF fun w25 HF=>tF<|sK<|sK<|sK<|sK<|sK<|sK<|tF<|tF<|tF<|Nl ?_;simp only[pS];go_wp2;exact lf C HC HF (by simp only[*,btwR,bsq])
    refine cB (r_One m.st _) q21 HF fun w26 HF=>tU<|tK (pg g1 15)<|lD (m.bl.v) HF 0 15 U35 rfl<|tK (.int .i64 ((m.bl.l:Nat):Int))<|tK (pg g3 4)<|lD (.int .i64 c.bl) HF 1 4 U3 rfl<|?_;simp only[pS];cases q22:(((m.bl.l:Nat):Int)==c.bl)
    ·refine bN (eI q22)<|tF<|tF<|tF<|Nl ?_;simp only[pS];go_wp2;exact lf C HC HF (by simp only[*,btwR,bsq])
    refine bN (eI q22)<|tU<|tU<|tU<|Nl ?_;simp only[pS];go_wp2;exact lf C HC HF (by simp only[*,btwR,bsq])
   refine cB (r_None m.st _) q20 HF fun w27 HF=>tU<|tK (pg g1 15)<|lD (m.bl.v) HF 0 15 U35 rfl<|tK (.int .i64 ((m.bl.l:Nat):Int))<|?_;simp only[pS];cases q23:(((m.bl.l:Nat):Int)==0);rotate_left
   ·refine bN (eI q23)<|tU<|tU<|sK<|sK<|sK<|sK<|sK<|sK<|sK<|sK<|sK<|sK<|sK<|tU<|tU<|Nl ?_;simp only[pS];go_wp2;exact lf C HC HF (by simp only[*,btwR,bsq])
   refine bN (eI q23)<|tF<|tF<|tK (pg g1 11)<|lP (Sp.cs m.st) HF 0 11 U34 S34 (Mg.cs m) rfl<|?_;simp only[pS];cases q24:(oneS m.st)
   ·refine cB (r_One m.st _) q24 HF fun w28 HF=>tF<|sK<|sK<|sK<|sK<|sK<|sK<|tF<|tF<|tF<|Nl ?_;simp only[pS];go_wp2;exact lf C HC HF (by simp only[*,btwR,bsq])
   refine cB (r_One m.st _) q24 HF fun w29 HF=>tU<|tK (pg g1 15)<|lD (m.bl.v) HF 0 15 U35 rfl<|tK (.int .i64 ((m.bl.l:Nat):Int))<|tK (pg g3 4)<|lD (.int .i64 c.bl) HF 1 4 U3 rfl<|?_;simp only[pS];cases q25:(((m.bl.l:Nat):Int)==c.bl)
   ·refine bN (eI q25)<|tF<|tF<|tF<|Nl ?_;simp only[pS];go_wp2;exact lf C HC HF (by simp only[*,btwR,bsq])
   refine bN (eI q25)<|tU<|tU<|tU<|Nl ?_;simp only[pS];go_wp2;exact lf C HC HF (by simp only[*,btwR,bsq])
  refine bN (eI q4)<|Nl ?_;simp only[pS];go_upto_region 11 with fail;refine Sg<|tK (pg g1 7)<|tK (pg g1 7)<|lD (.int .i64 m.ky.k) HF 0 7 U3 rfl<|?_;simp only[pS];cases q5:(m.ky.k==2)
  ·refine bN (nI0 q5)<|tU<|sK<|sK<|sK<|sK<|tU<|Nl ?_;simp only[pS];go_upto_region 12 with fail;refine Sg<|tF<|Nl ?_;simp only[pS];go_wp2;exact lf C HC HF (by simp only[*,btwR,bsq])
  refine bN (nI1 q5)<|tF<|tK (pg g1 15)<|lD (m.bl.v) HF 0 15 U35 rfl<|tK (.int .i64 ((m.bl.l:Nat):Int))<|?_;simp only[pS];cases q6:(decide (0 < ((m.bl.l:Nat):Int)));rotate_left
  ·refine bN (gI q6)<|tU<|Nl ?_;simp only[pS];go_upto_region 12 with fail;refine Sg<|tF<|Nl ?_;simp only[pS];go_wp2;exact lf C HC HF (by simp only[*,btwR,bsq])
  refine bN (gI q6)<|tF<|Nl ?_;simp only[pS];go_upto_region 13 with fail;refine Sg<|tK (pg g1 11)<|lP (Sp.cs m.st) HF 0 11 U34 S34 (Mg.cs m) rfl<|?_;simp only[pS];cases q7:(eqS m.st spZ);rotate_left
  ·refine cB (r_None m.st _) q7 HF fun w19 HF=>Nl ?_;simp only[pS];go_upto_region 14 with fail;refine Sg<|tK (pg g1 25)<|lP (Bv.cs m.bk) HF 0 25 U43 S43 (Mg.cs m) rfl<|lP (Cg.cs c) HF 1 0 U24 S24 (Cg.cs c) rfl<|?_;simp only[pS];cases q14:(bktR c.bl c.rm m.bk es ls)
   ·refine cB (r_IsBucket m.bk es ls c _ HB (HRE.out.no HF.out.kept) (HRL.out.no HF.out.kept) hne hnl) q14 HF fun w20 HF=>tF<|sK<|sK<|sK<|sK<|tF<|tF<|sK<|sK<|sK<|sK<|tF<|tF<|Nl ?_;simp only[pS];go_wp2;exact lf C HC HF (by simp only[*,btwR,bsq])
   refine cB (r_IsBucket m.bk es ls c _ HB (HRE.out.no HF.out.kept) (HRL.out.no HF.out.kept) hne hnl) q14 HF fun w21 HF=>tU<|tK (pg g1 25)<|tK (pg g1 25)<|lD (.int .i64 m.bk.up) HF 0 25 U3 rfl<|?_;simp only[pS];cases q15:(decide (0 < m.bk.up))
   ·refine bN (gI q15)<|tF<|tF<|sK<|sK<|sK<|sK<|tF<|tF<|Nl ?_;simp only[pS];go_wp2;exact lf C HC HF (by simp only[*,btwR,bsq])
   refine bN (gI q15)<|tU<|tU<|tK (pg g1 28)<|lD (m.cm.v) HF 0 28 U26 rfl<|tK (.int .i64 ((m.cm.l:Nat):Int))<|?_;simp only[pS];cases q16:(((m.cm.l:Nat):Int)==0)
   ·refine bN (eI q16)<|tF<|tF<|Nl ?_;simp only[pS];go_wp2;exact lf C HC HF (by simp only[*,btwR,bsq])
   refine bN (eI q16)<|tU<|tU<|Nl ?_;simp only[pS];go_wp2;exact lf C HC HF (by simp only[*,btwR,bsq])
  refine cB (r_None m.st _) q7 HF fun w9 HF=>Nl ?_;simp only[pS];go_upto_region 15 with fail;refine Sg<|tK (pg g1 11)<|lP (Sp.cs m.st) HF 0 11 U34 S34 (Mg.cs m) rfl<|?_;simp only[pS];cases q8:(frmS m.st)
  ·refine cB (r_from m.st _) q8 HF fun w10 HF=>tU<|tU<|sK<|sK<|sK<|sK<|tU<|tU<|sK<|sK<|sK<|sK<|tU<|tU<|sK<|?_;simp only[pS];refine sK<|sK<|sK<|sK<|sK<|sK<|sK<|tU<|Nl ?_;simp only[pS];go_upto_region 16 with fail;refine Sg<|tF<|Nl ?_;simp only[pS];go_wp2;exact lf C HC HF (by simp only[*,btwR,bsq])
  refine cB (r_from m.st _) q8 HF fun w11 HF=>tF<|tF<|tK (pg g1 25)<|lP (Bv.cs m.bk) HF 0 25 U43 S43 (Mg.cs m) rfl<|?_;simp only[pS];cases q9:(empK m.bk)
  ·refine cB (r_empty m.bk _) q9 HF fun w12 HF=>tU<|tU<|tU<|sK<|sK<|sK<|sK<|tU<|tU<|sK<|sK<|sK<|sK<|sK<|sK<|sK<|sK<|tU<|Nl ?_;simp only[pS];go_upto_region 16 with fail;refine Sg<|tF<|Nl ?_;simp only[pS];go_wp2;exact lf C HC HF (by simp only[*,btwR,bsq])
  refine cB (r_empty m.bk _) q9 HF fun w13 HF=>tF<|tF<|tF<|tK (pg g1 28)<|lD (m.cm.v) HF 0 28 U26 rfl<|tK (.int .i64 ((m.cm.l:Nat):Int))<|?_;simp only[pS];cases q10:(decide (64 < ((m.cm.l:Nat):Int)));rotate_left
  ·refine bN (gI q10)<|tU<|tU<|sK<|sK<|sK<|sK<|sK<|sK<|sK<|sK<|tU<|Nl ?_;simp only[pS];go_upto_region 16 with fail;refine Sg<|tF<|Nl ?_;simp only[pS];go_wp2;exact lf C HC HF (by simp only[*,btwR,bsq])
  refine bN (gI q10)<|tF<|tF<|tK (pg g1 11)<|tK (pg g1 11)<|lD (.int .i64 m.st.n) HF 0 11 U3 rfl<|tK (pg g1 28)<|lD (m.cm.v) HF 0 28 U26 rfl<|tK (.int .i64 ((m.cm.l:Nat):Int))<|bN (v:=.int .i64 (m.st.n+((m.cm.l:Nat):Int))) (b_addw m.st.n ((m.cm.l:Nat):Int) (m.st.n+((m.cm.l:Nat):Int)) (by rw [IntKind.wrap_i64];have h1:=frm_bd q8;have h2:=of_decide_eq_false q10;omega))<|?_;simp only[pS];cases q11:(decide (1048577 < (m.st.n+((m.cm.l:Nat):Int))));rotate_left
  ·refine bN (gI q11)<|tU<|Nl ?_;simp only[pS];go_upto_region 16 with fail;refine Sg<|tF<|Nl ?_;simp only[pS];go_wp2;exact lf C HC HF (by simp only[*,btwR,bsq])
  refine bN (gI q11)<|tF<|Nl ?_;simp only[pS];go_upto_region 17 with fail;refine Sg<|tK (.int .i64 0)<|Nl ?_;simp only[pS];go_wp2
  go_loopw [6] (fun v6 wr=>∃ i:Nat,v6=.int .i64 ((i:Nat):Int)∧i≤m.cm.l∧Hid (∀ j,j < i→(eqC (cAt cs j) cZ||cmdR c.bl (cAt cs j))=true)∧Hid (Fq No w wr [(g1,45,Mg.cells m),(g3,24,Cg.cells c)])) (fun v6 _=>m.cm.l - (intOf v6).toNat)
  case atStart=>exact ⟨0,by go_num,by omega,fun j hj=>absurd hj (Nat.not_lt_zero _),HF⟩
  case round=>
    clear HF;obtain ⟨i,rfl,hi,HP,HF⟩:=hrel
    by_cases hlt:i < m.cm.l
    ·obtain ⟨b,off,hsl,hc⟩:=RdC.at' HRC.out (i:=i) (by omega);go_upto_region 18 with fail;refine Sg<|tK (.int .i64 ((i:Nat):Int))<|tK (pg g1 28)<|lD (m.cm.v) HF 0 28 U26 rfl<|tK (.int .i64 ((m.cm.l:Nat):Int))<|bN (lI (a:=((i:Nat):Int)) (b:=((m.cm.l:Nat):Int)) (decide_eq_true (by omega)))<|Nl ?_;simp only[pS];go_upto_region 20 with fail;refine wp_region_held_drew (S:=fun w'=>Hid (Fq No w w' [(g1,45,Mg.cells m),(g3,24,Cg.cells c)])) rfl (show Hid _ from HF.out.drew) (fun hH=>?_);replace HF:Hid (Fq No w wr.drew [(g1,45,Mg.cells m),(g3,24,Cg.cells c)]):=hH;clear hH;generalize wr.drew=w14 at HF ⊢;refine yK 0 148 HF (pg g1 28)<|yT 1 149 HF (v:=m.cm.v) (zD 0 28 U26 rfl)<|yK 2 150 HF (.int .i64 ((i:Nat):Int))<|yT 3 151 HF (zI (s:=m.cm) (i:=i) hsl E26 F26 (by omega))<|yT 4 152 HF (zL fun w HF=>(load_Ca (fun j v h=>HF.out.kept.cell (hc j v h) (fun e=>e))))<|?_;(try simp only[pS]);cases q12:(eqC (cAt cs i) cZ);rotate_left
     ·refine yC 5 153 (r_none (cAt cs i) _) q12 HF fun w18 HF=>yK 6 154 HF (.bool false)<|yK 7 155 HF (.bool false)<|yS 8 156 HF<|yS 9 157 HF<|yS 10 158 HF<|yS 11 159 HF<|yS 12 160 HF<|?_;(try simp only[pS]);refine yS 13 161 HF<|yS 14 162 HF<|yS 15 163 HF<|yK 16 164 HF (.bool false)<|?_;(try simp only[pS]);refine wpAnyH_done (by kernel_rfl) ?_ _;(try simp only[pS]);go_upto_region 19 with fail;refine Sg<|tK (.int .i64 ((i:Nat):Int))<|bN (v:=.int .i64 (((i+1):Nat):Int)) (b_addw ((i:Nat):Int) 1 (((i+1):Nat):Int) (by rw [IntKind.wrap_i64];omega))<|tK (.int .i64 (((i+1):Nat):Int))<|Nl ?_;simp only[pS];go_wp2;go_roundw
      case rel=>exact ⟨i+1,by go_num,by omega,up_j (P:=fun j=>(eqC (cAt cs j) cZ||cmdR c.bl (cAt cs j))=true) HP.out (by simp only[bsq,q12]),HF⟩
      case measure=>simp [intOf];omega
     refine yC 5 153 (r_none (cAt cs i) _) q12 HF fun w15 HF=>yK 6 154 HF (.bool true)<|yK 7 155 HF (.bool true)<|yK 8 156 HF (pg g1 28)<|yT 9 157 HF (v:=m.cm.v) (zD 0 28 U26 rfl)<|yK 10 158 HF (.int .i64 ((i:Nat):Int))<|yT 11 159 HF (zI (s:=m.cm) (i:=i) hsl E26 F26 (by omega))<|yT 12 160 HF (zL fun w HF=>(load_Ca (fun j v h=>HF.out.kept.cell (hc j v h) (fun e=>e))))<|?_;(try simp only[pS]);refine yT 13 161 HF (zP (Cg.cs c) 1 0 U24 S24 (Cg.cs c) rfl)<|?_;(try simp only[pS]);cases q13:(cmdR c.bl (cAt cs i))
     ·refine yC 14 162 (r_IsCommand (cAt cs i) c _ HB) q13 HF fun w16 HF=>yK 15 163 HF (.bool true)<|yK 16 164 HF (.bool true)<|?_;(try simp only[pS]);refine wpAnyH_done (by kernel_rfl) ?_ _;(try simp only[pS]);go_upto_region 21 with fail;refine Sg<|tF<|Nl ?_;simp only[pS];go_wp2;rw [HC.out];exact ⟨ret_bool (by rw [show btwR c.bl c.rm m bs es ls cs=false from by unfold btwR;rw [show rowR c.bl cs=false from rng_f (i:=i) (by rw [HRC.out.len];exact hlt) (by simp only[bsq,q12,q13])];simp only[bsq,q1,q6,q10,q3,q4,q7,q8,q5,q2,q9,q11]]),HF.out.kept⟩
     refine yC 14 162 (r_IsCommand (cAt cs i) c _ HB) q13 HF fun w17 HF=>yK 15 163 HF (.bool false)<|yK 16 164 HF (.bool false)<|?_;(try simp only[pS]);refine wpAnyH_done (by kernel_rfl) ?_ _;(try simp only[pS]);go_upto_region 19 with fail;refine Sg<|tK (.int .i64 ((i:Nat):Int))<|bN (v:=.int .i64 (((i+1):Nat):Int)) (b_addw ((i:Nat):Int) 1 (((i+1):Nat):Int) (by rw [IntKind.wrap_i64];omega))<|tK (.int .i64 (((i+1):Nat):Int))<|Nl ?_;simp only[pS];go_wp2;go_roundw
     case rel=>exact ⟨i+1,by go_num,by omega,up_j (P:=fun j=>(eqC (cAt cs j) cZ||cmdR c.bl (cAt cs j))=true) HP.out (by simp only[bsq,q12,q13]),HF⟩
     case measure=>simp [intOf];omega
    ·go_upto_region 18 with fail;refine Sg<|tK (.int .i64 ((i:Nat):Int))<|tK (pg g1 28)<|lD (m.cm.v) HF 0 28 U26 rfl<|tK (.int .i64 ((m.cm.l:Nat):Int))<|bN (lI (a:=((i:Nat):Int)) (b:=((m.cm.l:Nat):Int)) (decide_eq_false (by omega)))<|Nl ?_;simp only[pS];go_upto_region 22 with fail;refine Sg<|tU<|Nl ?_;simp only[pS];go_wp2;rw [HC.out];exact ⟨ret_bool (by rw [show btwR c.bl c.rm m bs es ls cs=true from by unfold btwR;rw [show rowR c.bl cs=true from rng_t (fun j hj=>HP.out j (by rw [HRC.out.len] at hj;omega))];simp only[bsq,q1,q6,q10,q3,q4,q7,q8,q5,q2,q9,q11]]),HF.out.kept⟩
set_option maxRecDepth 100000 in
set_option maxHeartbeats 4000000 in
theorem r_Is (m:Mg) (c:Cg) (zs:List Int) (bs:List Int) (es:List En) (ls:List La) (cs:List Cm) (w:World) (hb:0≤c.bl∧c.bl≤4096) (hu:1≤c.bu∧c.bu≤256) (hz:RdI w c.sv zs) (h1:RdB w m.bl bs) (h2:RdE w m.bk.e es) (h3:RdL w m.bk.l ls) (h4:RdC w m.cm cs) (hnz:c.sv.l≤281474976710656) (hnb:m.bl.l≤281474976710656) (hne:m.bk.e.l≤281474976710656) (hnl:m.bk.l.l≤281474976710656) (hnc:m.cm.l≤281474976710656):Calls Tryz.prog 42 #[.agg (Mg.cells m),.agg (Cg.cells c)] w (fun e w'=>e=.returned (.bool (msgR c.bl c.rm c.bu zs m bs es ls cs))∧Kept No w w'):=by
  refine hidC fun C HC=>?_;have HB:Hid (0≤c.bl∧c.bl≤4096):=hb;clear hb;have HU:Hid (1≤c.bu∧c.bu≤256):=hu;clear hu;have HZ:Hid (RdI w c.sv zs):=hz;clear hz;have HRB:Hid (RdB w m.bl bs):=h1;clear h1;have HRE:Hid (RdE w m.bk.e es):=h2;clear h2;have HRL:Hid (RdL w m.bk.l ls):=h3;clear h3;have HRC:Hid (RdC w m.cm cs):=h4;clear h4;have HF:Hid (Fq No w w []):=Fq.start _ _;go_enter Tryz.func42,Tryz.ntmps42;go_upto_region 0 with fail;refine Sg<|xB (Mg.cells m) HF fun g1 w2 HF=>xB (Cg.cells c) HF fun g3 w4 HF=>tF<|Nl ?_;simp only[pS];go_upto_region 1 with fail;refine Sg<|tK (pg g1 7)<|lP (Ky.cs m.ky) HF 0 7 U32 S32 (Mg.cs m) rfl<|lP (Cg.cs c) HF 1 0 U24 S24 (Cg.cs c) rfl<|?_;simp only[pS];cases q1:(keyR c.bu m.ky)
  ·refine cB (q_Right m.ky c _ HU) q1 HF fun w5 HF=>tU<|Nl ?_;simp only[pS];go_upto_region 2 with fail;refine Sg<|tF<|Nl ?_;simp only[pS];go_wp2;exact lf C HC HF (by simp only[*,msgR,bsq])
  refine cB (q_Right m.ky c _ HU) q1 HF fun w6 HF=>tF<|Nl ?_;simp only[pS];go_upto_region 3 with fail;refine Sg<|tK (pg g1 0)<|lD (.int .i64 m.k) HF 0 0 U3 rfl<|Nl ?_;simp only[pS];go_upto_region 4 with fail;refine Sg<|?_;cases q2:(m.k==1);rotate_left
  ·refine bN (eI q2)<|tU<|Nl ?_;simp only[pS];go_upto_region 9 with fail;refine Sg<|tK (pg g1 1)<|lP (Ad.cs m.fr) HF 0 1 U30 S30 (Mg.cs m) rfl<|?_;simp only[pS];cases q72:(cliB m.fr)
   ·refine cB (r_client m.fr _) q72 HF fun w107 HF=>tF<|sK<|sK<|sK<|sK<|tF<|tF<|sK<|sK<|tF<|tF<|sK<|sK<|sK<|tF<|tF<|Nl ?_;simp only[pS];go_wp2;exact lf C HC HF (by simp only[*,msgR,bsq])
   refine cB (r_client m.fr _) q72 HF fun w108 HF=>tU<|tK (pg g1 3)<|lP (Ad.cs m.too) HF 0 3 U30 S30 (Mg.cs m) rfl<|lP (Cg.cs c) HF 1 0 U24 S24 (Cg.cs c) rfl<|?_;simp only[pS];cases q73:(srvB zs m.too)
   ·refine cB (r_server m.too c zs _ (HZ.out.no HF.out.kept) hnz) q73 HF fun w109 HF=>tF<|tF<|sK<|sK<|tF<|tF<|sK<|sK<|sK<|tF<|tF<|Nl ?_;simp only[pS];go_wp2;exact lf C HC HF (by simp only[*,msgR,bsq])
   refine cB (r_server m.too c zs _ (HZ.out.no HF.out.kept) hnz) q73 HF fun w110 HF=>tU<|tU<|lP (Mg.cs m) HF 0 0 U45 S45 (Mg.cs m) rfl<|?_;simp only[pS];cases q74:(cntB m)
   ·refine cB (r_counted m _) q74 HF fun w111 HF=>tF<|tF<|sK<|sK<|sK<|tF<|tF<|Nl ?_;simp only[pS];go_wp2;exact lf C HC HF (by simp only[*,msgR,bsq])
   refine cB (r_counted m _) q74 HF fun w112 HF=>tU<|tU<|lP (Mg.cs m) HF 0 0 U45 S45 (Mg.cs m) rfl<|lP (Cg.cs c) HF 1 0 U24 S24 (Cg.cs c) rfl<|?_;simp only[pS];cases q75:(asksR c.bl m)
   ·refine cB (r_asks m c _ HB) q75 HF fun w113 HF=>tF<|tF<|Nl ?_;simp only[pS];go_wp2;exact lf C HC HF (by simp only[*,msgR,bsq])
   refine cB (r_asks m c _ HB) q75 HF fun w114 HF=>tU<|tU<|Nl ?_;simp only[pS];go_wp2;exact lf C HC HF (by simp only[*,msgR,bsq])
  refine bN (eI q2)<|tF<|Nl ?_;simp only[pS];go_upto_region 5 with fail;refine Sg<|?_;cases q3:(m.k==2);rotate_left
  ·refine bN (eI q3)<|tU<|Nl ?_;simp only[pS];go_upto_region 9 with fail;refine Sg<|tK (pg g1 1)<|lP (Ad.cs m.fr) HF 0 1 U30 S30 (Mg.cs m) rfl<|?_;simp only[pS];cases q68:(cliB m.fr)
   ·refine cB (r_client m.fr _) q68 HF fun w99 HF=>tF<|sK<|sK<|sK<|sK<|tF<|tF<|sK<|sK<|tF<|tF<|sK<|sK<|sK<|tF<|tF<|Nl ?_;simp only[pS];go_wp2;exact lf C HC HF (by simp only[*,msgR,bsq])
   refine cB (r_client m.fr _) q68 HF fun w100 HF=>tU<|tK (pg g1 3)<|lP (Ad.cs m.too) HF 0 3 U30 S30 (Mg.cs m) rfl<|lP (Cg.cs c) HF 1 0 U24 S24 (Cg.cs c) rfl<|?_;simp only[pS];cases q69:(srvB zs m.too)
   ·refine cB (r_server m.too c zs _ (HZ.out.no HF.out.kept) hnz) q69 HF fun w101 HF=>tF<|tF<|sK<|sK<|tF<|tF<|sK<|sK<|sK<|tF<|tF<|Nl ?_;simp only[pS];go_wp2;exact lf C HC HF (by simp only[*,msgR,bsq])
   refine cB (r_server m.too c zs _ (HZ.out.no HF.out.kept) hnz) q69 HF fun w102 HF=>tU<|tU<|lP (Mg.cs m) HF 0 0 U45 S45 (Mg.cs m) rfl<|?_;simp only[pS];cases q70:(cntB m)
   ·refine cB (r_counted m _) q70 HF fun w103 HF=>tF<|tF<|sK<|sK<|sK<|tF<|tF<|Nl ?_;simp only[pS];go_wp2;exact lf C HC HF (by simp only[*,msgR,bsq])
   refine cB (r_counted m _) q70 HF fun w104 HF=>tU<|tU<|lP (Mg.cs m) HF 0 0 U45 S45 (Mg.cs m) rfl<|lP (Cg.cs c) HF 1 0 U24 S24 (Cg.cs c) rfl<|?_;simp only[pS];cases q71:(asksR c.bl m)
   ·refine cB (r_asks m c _ HB) q71 HF fun w105 HF=>tF<|tF<|Nl ?_;simp only[pS];go_wp2;exact lf C HC HF (by simp only[*,msgR,bsq])
   refine cB (r_asks m c _ HB) q71 HF fun w106 HF=>tU<|tU<|Nl ?_;simp only[pS];go_wp2;exact lf C HC HF (by simp only[*,msgR,bsq])
  refine bN (eI q3)<|tF<|Nl ?_;simp only[pS];go_upto_region 6 with fail;refine Sg<|?_;cases q4:(m.k==3);rotate_left
  ·refine bN (eI q4)<|tU<|Nl ?_;simp only[pS];go_upto_region 9 with fail;refine Sg<|tK (pg g1 1)<|lP (Ad.cs m.fr) HF 0 1 U30 S30 (Mg.cs m) rfl<|?_;simp only[pS];cases q64:(cliB m.fr)
   ·refine cB (r_client m.fr _) q64 HF fun w91 HF=>tF<|sK<|sK<|sK<|sK<|tF<|tF<|sK<|sK<|tF<|tF<|sK<|sK<|sK<|tF<|tF<|Nl ?_;simp only[pS];go_wp2;exact lf C HC HF (by simp only[*,msgR,bsq])
   refine cB (r_client m.fr _) q64 HF fun w92 HF=>tU<|tK (pg g1 3)<|lP (Ad.cs m.too) HF 0 3 U30 S30 (Mg.cs m) rfl<|lP (Cg.cs c) HF 1 0 U24 S24 (Cg.cs c) rfl<|?_;simp only[pS];cases q65:(srvB zs m.too)
   ·refine cB (r_server m.too c zs _ (HZ.out.no HF.out.kept) hnz) q65 HF fun w93 HF=>tF<|tF<|sK<|sK<|tF<|tF<|sK<|sK<|sK<|tF<|tF<|Nl ?_;simp only[pS];go_wp2;exact lf C HC HF (by simp only[*,msgR,bsq])
   refine cB (r_server m.too c zs _ (HZ.out.no HF.out.kept) hnz) q65 HF fun w94 HF=>tU<|tU<|lP (Mg.cs m) HF 0 0 U45 S45 (Mg.cs m) rfl<|?_;simp only[pS];cases q66:(cntB m)
   ·refine cB (r_counted m _) q66 HF fun w95 HF=>tF<|tF<|sK<|sK<|sK<|tF<|tF<|Nl ?_;simp only[pS];go_wp2;exact lf C HC HF (by simp only[*,msgR,bsq])
   refine cB (r_counted m _) q66 HF fun w96 HF=>tU<|tU<|lP (Mg.cs m) HF 0 0 U45 S45 (Mg.cs m) rfl<|lP (Cg.cs c) HF 1 0 U24 S24 (Cg.cs c) rfl<|?_;simp only[pS];cases q67:(asksR c.bl m)
   ·refine cB (r_asks m c _ HB) q67 HF fun w97 HF=>tF<|tF<|Nl ?_;simp only[pS];go_wp2;exact lf C HC HF (by simp only[*,msgR,bsq])
   refine cB (r_asks m c _ HB) q67 HF fun w98 HF=>tU<|tU<|Nl ?_;simp only[pS];go_wp2;exact lf C HC HF (by simp only[*,msgR,bsq])
  refine bN (eI q4)<|tF<|Nl ?_;simp only[pS];go_upto_region 7 with fail;refine Sg<|?_;cases q5:(m.k==4);rotate_left
  ·refine bN (eI q5)<|tU<|Nl ?_;simp only[pS];go_upto_region 9 with fail;refine Sg<|tK (pg g1 1)<|lP (Ad.cs m.fr) HF 0 1 U30 S30 (Mg.cs m) rfl<|?_;simp only[pS];cases q60:(cliB m.fr)
   ·refine cB (r_client m.fr _) q60 HF fun w83 HF=>tF<|sK<|sK<|sK<|sK<|tF<|tF<|sK<|sK<|tF<|tF<|sK<|sK<|sK<|tF<|tF<|Nl ?_;simp only[pS];go_wp2;exact lf C HC HF (by simp only[*,msgR,bsq])
   refine cB (r_client m.fr _) q60 HF fun w84 HF=>tU<|tK (pg g1 3)<|lP (Ad.cs m.too) HF 0 3 U30 S30 (Mg.cs m) rfl<|lP (Cg.cs c) HF 1 0 U24 S24 (Cg.cs c) rfl<|?_;simp only[pS];cases q61:(srvB zs m.too)
   ·refine cB (r_server m.too c zs _ (HZ.out.no HF.out.kept) hnz) q61 HF fun w85 HF=>tF<|tF<|sK<|sK<|tF<|tF<|sK<|sK<|sK<|tF<|tF<|Nl ?_;simp only[pS];go_wp2;exact lf C HC HF (by simp only[*,msgR,bsq])
   refine cB (r_server m.too c zs _ (HZ.out.no HF.out.kept) hnz) q61 HF fun w86 HF=>tU<|tU<|lP (Mg.cs m) HF 0 0 U45 S45 (Mg.cs m) rfl<|?_;simp only[pS];cases q62:(cntB m)
   ·refine cB (r_counted m _) q62 HF fun w87 HF=>tF<|tF<|sK<|sK<|sK<|tF<|tF<|Nl ?_;simp only[pS];go_wp2;exact lf C HC HF (by simp only[*,msgR,bsq])
   refine cB (r_counted m _) q62 HF fun w88 HF=>tU<|tU<|lP (Mg.cs m) HF 0 0 U45 S45 (Mg.cs m) rfl<|lP (Cg.cs c) HF 1 0 U24 S24 (Cg.cs c) rfl<|?_;simp only[pS];cases q63:(asksR c.bl m)
   ·refine cB (r_asks m c _ HB) q63 HF fun w89 HF=>tF<|tF<|Nl ?_;simp only[pS];go_wp2;exact lf C HC HF (by simp only[*,msgR,bsq])
   refine cB (r_asks m c _ HB) q63 HF fun w90 HF=>tU<|tU<|Nl ?_;simp only[pS];go_wp2;exact lf C HC HF (by simp only[*,msgR,bsq])
  refine bN (eI q5)<|tF<|Nl ?_;simp only[pS];go_upto_region 8 with fail;refine Sg<|?_;cases q6:(m.k==5);rotate_left
  ·refine bN (eI q6)<|tU<|Nl ?_;simp only[pS];go_upto_region 9 with fail;refine Sg<|tK (pg g1 1)<|lP (Ad.cs m.fr) HF 0 1 U30 S30 (Mg.cs m) rfl<|?_;simp only[pS];cases q56:(cliB m.fr)
   ·refine cB (r_client m.fr _) q56 HF fun w75 HF=>tF<|sK<|sK<|sK<|sK<|tF<|tF<|sK<|sK<|tF<|tF<|sK<|sK<|sK<|tF<|tF<|Nl ?_;simp only[pS];go_wp2;exact lf C HC HF (by simp only[*,msgR,bsq])
   refine cB (r_client m.fr _) q56 HF fun w76 HF=>tU<|tK (pg g1 3)<|lP (Ad.cs m.too) HF 0 3 U30 S30 (Mg.cs m) rfl<|lP (Cg.cs c) HF 1 0 U24 S24 (Cg.cs c) rfl<|?_;simp only[pS];cases q57:(srvB zs m.too)
   ·refine cB (r_server m.too c zs _ (HZ.out.no HF.out.kept) hnz) q57 HF fun w77 HF=>tF<|tF<|sK<|sK<|tF<|tF<|sK<|sK<|sK<|tF<|tF<|Nl ?_;simp only[pS];go_wp2;exact lf C HC HF (by simp only[*,msgR,bsq])
   refine cB (r_server m.too c zs _ (HZ.out.no HF.out.kept) hnz) q57 HF fun w78 HF=>tU<|tU<|lP (Mg.cs m) HF 0 0 U45 S45 (Mg.cs m) rfl<|?_;simp only[pS];cases q58:(cntB m)
   ·refine cB (r_counted m _) q58 HF fun w79 HF=>tF<|tF<|sK<|sK<|sK<|tF<|tF<|Nl ?_;simp only[pS];go_wp2;exact lf C HC HF (by simp only[*,msgR,bsq])
   refine cB (r_counted m _) q58 HF fun w80 HF=>tU<|tU<|lP (Mg.cs m) HF 0 0 U45 S45 (Mg.cs m) rfl<|lP (Cg.cs c) HF 1 0 U24 S24 (Cg.cs c) rfl<|?_;simp only[pS];cases q59:(asksR c.bl m)
   ·refine cB (r_asks m c _ HB) q59 HF fun w81 HF=>tF<|tF<|Nl ?_;simp only[pS];go_wp2;exact lf C HC HF (by simp only[*,msgR,bsq])
   refine cB (r_asks m c _ HB) q59 HF fun w82 HF=>tU<|tU<|Nl ?_;simp only[pS];go_wp2;exact lf C HC HF (by simp only[*,msgR,bsq])
  refine bN (eI q6)<|tF<|Nl ?_;simp only[pS];go_upto_region 10 with fail;refine Sg<|?_;cases q7:(m.k==11);rotate_left
  ·refine bN (eI q7)<|tU<|Nl ?_;simp only[pS];go_upto_region 17 with fail;refine Sg<|tK (pg g1 1)<|lP (Ad.cs m.fr) HF 0 1 U30 S30 (Mg.cs m) rfl<|lP (Cg.cs c) HF 1 0 U24 S24 (Cg.cs c) rfl<|?_;simp only[pS];cases q52:(srvB zs m.fr)
   ·refine cB (r_server m.fr c zs _ (HZ.out.no HF.out.kept) hnz) q52 HF fun w67 HF=>tF<|sK<|sK<|sK<|tF<|tF<|sK<|sK<|tF<|tF<|sK<|sK<|sK<|tF<|tF<|Nl ?_;simp only[pS];go_wp2;exact lf C HC HF (by simp only[*,msgR,bsq])
   refine cB (r_server m.fr c zs _ (HZ.out.no HF.out.kept) hnz) q52 HF fun w68 HF=>tU<|tK (pg g1 3)<|lP (Ad.cs m.too) HF 0 3 U30 S30 (Mg.cs m) rfl<|?_;simp only[pS];cases q53:(cliB m.too)
   ·refine cB (r_client m.too _) q53 HF fun w69 HF=>tF<|tF<|sK<|sK<|tF<|tF<|sK<|sK<|sK<|tF<|tF<|Nl ?_;simp only[pS];go_wp2;exact lf C HC HF (by simp only[*,msgR,bsq])
   refine cB (r_client m.too _) q53 HF fun w70 HF=>tU<|tU<|lP (Mg.cs m) HF 0 0 U45 S45 (Mg.cs m) rfl<|?_;simp only[pS];cases q54:(cntB m)
   ·refine cB (r_counted m _) q54 HF fun w71 HF=>tF<|tF<|sK<|sK<|sK<|tF<|tF<|Nl ?_;simp only[pS];go_wp2;exact lf C HC HF (by simp only[*,msgR,bsq])
   refine cB (r_counted m _) q54 HF fun w72 HF=>tU<|tU<|lP (Mg.cs m) HF 0 0 U45 S45 (Mg.cs m) rfl<|lP (Cg.cs c) HF 1 0 U24 S24 (Cg.cs c) rfl<|?_;simp only[pS];cases q55:(ansR c.bl c.rm m bs es ls)
   ·refine cB (r_answers m bs es ls c _ HB (HRB.out.no HF.out.kept) (HRE.out.no HF.out.kept) (HRL.out.no HF.out.kept) hnb hne hnl) q55 HF fun w73 HF=>tF<|tF<|Nl ?_;simp only[pS];go_wp2;exact lf C HC HF (by simp only[*,msgR,bsq])
   refine cB (r_answers m bs es ls c _ HB (HRB.out.no HF.out.kept) (HRE.out.no HF.out.kept) (HRL.out.no HF.out.kept) hnb hne hnl) q55 HF fun w74 HF=>tU<|tU<|Nl ?_;simp only[pS];go_wp2;exact lf C HC HF (by simp only[*,msgR,bsq])
  refine bN (eI q7)<|tF<|Nl ?_;simp only[pS];go_upto_region 11 with fail;refine Sg<|?_;cases q8:(m.k==12);rotate_left
  ·refine bN (eI q8)<|tU<|Nl ?_;simp only[pS];go_upto_region 17 with fail;refine Sg<|tK (pg g1 1)<|lP (Ad.cs m.fr) HF 0 1 U30 S30 (Mg.cs m) rfl<|lP (Cg.cs c) HF 1 0 U24 S24 (Cg.cs c) rfl<|?_;simp only[pS];cases q48:(srvB zs m.fr)
   ·refine cB (r_server m.fr c zs _ (HZ.out.no HF.out.kept) hnz) q48 HF fun w59 HF=>tF<|sK<|sK<|sK<|tF<|tF<|sK<|sK<|tF<|tF<|sK<|sK<|sK<|tF<|tF<|Nl ?_;simp only[pS];go_wp2;exact lf C HC HF (by simp only[*,msgR,bsq])
   refine cB (r_server m.fr c zs _ (HZ.out.no HF.out.kept) hnz) q48 HF fun w60 HF=>tU<|tK (pg g1 3)<|lP (Ad.cs m.too) HF 0 3 U30 S30 (Mg.cs m) rfl<|?_;simp only[pS];cases q49:(cliB m.too)
   ·refine cB (r_client m.too _) q49 HF fun w61 HF=>tF<|tF<|sK<|sK<|tF<|tF<|sK<|sK<|sK<|tF<|tF<|Nl ?_;simp only[pS];go_wp2;exact lf C HC HF (by simp only[*,msgR,bsq])
   refine cB (r_client m.too _) q49 HF fun w62 HF=>tU<|tU<|lP (Mg.cs m) HF 0 0 U45 S45 (Mg.cs m) rfl<|?_;simp only[pS];cases q50:(cntB m)
   ·refine cB (r_counted m _) q50 HF fun w63 HF=>tF<|tF<|sK<|sK<|sK<|tF<|tF<|Nl ?_;simp only[pS];go_wp2;exact lf C HC HF (by simp only[*,msgR,bsq])
   refine cB (r_counted m _) q50 HF fun w64 HF=>tU<|tU<|lP (Mg.cs m) HF 0 0 U45 S45 (Mg.cs m) rfl<|lP (Cg.cs c) HF 1 0 U24 S24 (Cg.cs c) rfl<|?_;simp only[pS];cases q51:(ansR c.bl c.rm m bs es ls)
   ·refine cB (r_answers m bs es ls c _ HB (HRB.out.no HF.out.kept) (HRE.out.no HF.out.kept) (HRL.out.no HF.out.kept) hnb hne hnl) q51 HF fun w65 HF=>tF<|tF<|Nl ?_;simp only[pS];go_wp2;exact lf C HC HF (by simp only[*,msgR,bsq])
   refine cB (r_answers m bs es ls c _ HB (HRB.out.no HF.out.kept) (HRE.out.no HF.out.kept) (HRL.out.no HF.out.kept) hnb hne hnl) q51 HF fun w66 HF=>tU<|tU<|Nl ?_;simp only[pS];go_wp2;exact lf C HC HF (by simp only[*,msgR,bsq])
  refine bN (eI q8)<|tF<|Nl ?_;simp only[pS];go_upto_region 12 with fail;refine Sg<|?_;cases q9:(m.k==13);rotate_left
  ·refine bN (eI q9)<|tU<|Nl ?_;simp only[pS];go_upto_region 17 with fail;refine Sg<|tK (pg g1 1)<|lP (Ad.cs m.fr) HF 0 1 U30 S30 (Mg.cs m) rfl<|lP (Cg.cs c) HF 1 0 U24 S24 (Cg.cs c) rfl<|?_;simp only[pS];cases q44:(srvB zs m.fr)
   ·refine cB (r_server m.fr c zs _ (HZ.out.no HF.out.kept) hnz) q44 HF fun w51 HF=>tF<|sK<|sK<|sK<|tF<|tF<|sK<|sK<|tF<|tF<|sK<|sK<|sK<|tF<|tF<|Nl ?_;simp only[pS];go_wp2;exact lf C HC HF (by simp only[*,msgR,bsq])
   refine cB (r_server m.fr c zs _ (HZ.out.no HF.out.kept) hnz) q44 HF fun w52 HF=>tU<|tK (pg g1 3)<|lP (Ad.cs m.too) HF 0 3 U30 S30 (Mg.cs m) rfl<|?_;simp only[pS];cases q45:(cliB m.too)
   ·refine cB (r_client m.too _) q45 HF fun w53 HF=>tF<|tF<|sK<|sK<|tF<|tF<|sK<|sK<|sK<|tF<|tF<|Nl ?_;simp only[pS];go_wp2;exact lf C HC HF (by simp only[*,msgR,bsq])
   refine cB (r_client m.too _) q45 HF fun w54 HF=>tU<|tU<|lP (Mg.cs m) HF 0 0 U45 S45 (Mg.cs m) rfl<|?_;simp only[pS];cases q46:(cntB m)
   ·refine cB (r_counted m _) q46 HF fun w55 HF=>tF<|tF<|sK<|sK<|sK<|tF<|tF<|Nl ?_;simp only[pS];go_wp2;exact lf C HC HF (by simp only[*,msgR,bsq])
   refine cB (r_counted m _) q46 HF fun w56 HF=>tU<|tU<|lP (Mg.cs m) HF 0 0 U45 S45 (Mg.cs m) rfl<|lP (Cg.cs c) HF 1 0 U24 S24 (Cg.cs c) rfl<|?_;simp only[pS];cases q47:(ansR c.bl c.rm m bs es ls)
   ·refine cB (r_answers m bs es ls c _ HB (HRB.out.no HF.out.kept) (HRE.out.no HF.out.kept) (HRL.out.no HF.out.kept) hnb hne hnl) q47 HF fun w57 HF=>tF<|tF<|Nl ?_;simp only[pS];go_wp2;exact lf C HC HF (by simp only[*,msgR,bsq])
   refine cB (r_answers m bs es ls c _ HB (HRB.out.no HF.out.kept) (HRE.out.no HF.out.kept) (HRL.out.no HF.out.kept) hnb hne hnl) q47 HF fun w58 HF=>tU<|tU<|Nl ?_;simp only[pS];go_wp2;exact lf C HC HF (by simp only[*,msgR,bsq])
  refine bN (eI q9)<|tF<|Nl ?_;simp only[pS];go_upto_region 13 with fail;refine Sg<|?_;cases q10:(m.k==14);rotate_left
  ·refine bN (eI q10)<|tU<|Nl ?_;simp only[pS];go_upto_region 17 with fail;refine Sg<|tK (pg g1 1)<|lP (Ad.cs m.fr) HF 0 1 U30 S30 (Mg.cs m) rfl<|lP (Cg.cs c) HF 1 0 U24 S24 (Cg.cs c) rfl<|?_;simp only[pS];cases q40:(srvB zs m.fr)
   ·refine cB (r_server m.fr c zs _ (HZ.out.no HF.out.kept) hnz) q40 HF fun w43 HF=>tF<|sK<|sK<|sK<|tF<|tF<|sK<|sK<|tF<|tF<|sK<|sK<|sK<|tF<|tF<|Nl ?_;simp only[pS];go_wp2;exact lf C HC HF (by simp only[*,msgR,bsq])
   refine cB (r_server m.fr c zs _ (HZ.out.no HF.out.kept) hnz) q40 HF fun w44 HF=>tU<|tK (pg g1 3)<|lP (Ad.cs m.too) HF 0 3 U30 S30 (Mg.cs m) rfl<|?_;simp only[pS];cases q41:(cliB m.too)
   ·refine cB (r_client m.too _) q41 HF fun w45 HF=>tF<|tF<|sK<|sK<|tF<|tF<|sK<|sK<|sK<|tF<|tF<|Nl ?_;simp only[pS];go_wp2;exact lf C HC HF (by simp only[*,msgR,bsq])
   refine cB (r_client m.too _) q41 HF fun w46 HF=>tU<|tU<|lP (Mg.cs m) HF 0 0 U45 S45 (Mg.cs m) rfl<|?_;simp only[pS];cases q42:(cntB m)
   ·refine cB (r_counted m _) q42 HF fun w47 HF=>tF<|tF<|sK<|sK<|sK<|tF<|tF<|Nl ?_;simp only[pS];go_wp2;exact lf C HC HF (by simp only[*,msgR,bsq])
   refine cB (r_counted m _) q42 HF fun w48 HF=>tU<|tU<|lP (Mg.cs m) HF 0 0 U45 S45 (Mg.cs m) rfl<|lP (Cg.cs c) HF 1 0 U24 S24 (Cg.cs c) rfl<|?_;simp only[pS];cases q43:(ansR c.bl c.rm m bs es ls)
   ·refine cB (r_answers m bs es ls c _ HB (HRB.out.no HF.out.kept) (HRE.out.no HF.out.kept) (HRL.out.no HF.out.kept) hnb hne hnl) q43 HF fun w49 HF=>tF<|tF<|Nl ?_;simp only[pS];go_wp2;exact lf C HC HF (by simp only[*,msgR,bsq])
   refine cB (r_answers m bs es ls c _ HB (HRB.out.no HF.out.kept) (HRE.out.no HF.out.kept) (HRL.out.no HF.out.kept) hnb hne hnl) q43 HF fun w50 HF=>tU<|tU<|Nl ?_;simp only[pS];go_wp2;exact lf C HC HF (by simp only[*,msgR,bsq])
  refine bN (eI q10)<|tF<|Nl ?_;simp only[pS];go_upto_region 14 with fail;refine Sg<|?_;cases q11:(m.k==15);rotate_left
  ·refine bN (eI q11)<|tU<|Nl ?_;simp only[pS];go_upto_region 17 with fail;refine Sg<|tK (pg g1 1)<|lP (Ad.cs m.fr) HF 0 1 U30 S30 (Mg.cs m) rfl<|lP (Cg.cs c) HF 1 0 U24 S24 (Cg.cs c) rfl<|?_;simp only[pS];cases q36:(srvB zs m.fr)
   ·refine cB (r_server m.fr c zs _ (HZ.out.no HF.out.kept) hnz) q36 HF fun w35 HF=>tF<|sK<|sK<|sK<|tF<|tF<|sK<|sK<|tF<|tF<|sK<|sK<|sK<|tF<|tF<|Nl ?_;simp only[pS];go_wp2;exact lf C HC HF (by simp only[*,msgR,bsq])
   refine cB (r_server m.fr c zs _ (HZ.out.no HF.out.kept) hnz) q36 HF fun w36 HF=>tU<|tK (pg g1 3)<|lP (Ad.cs m.too) HF 0 3 U30 S30 (Mg.cs m) rfl<|?_;simp only[pS];cases q37:(cliB m.too)
   ·refine cB (r_client m.too _) q37 HF fun w37 HF=>tF<|tF<|sK<|sK<|tF<|tF<|sK<|sK<|sK<|tF<|tF<|Nl ?_;simp only[pS];go_wp2;exact lf C HC HF (by simp only[*,msgR,bsq])
   refine cB (r_client m.too _) q37 HF fun w38 HF=>tU<|tU<|lP (Mg.cs m) HF 0 0 U45 S45 (Mg.cs m) rfl<|?_;simp only[pS];cases q38:(cntB m)
   ·refine cB (r_counted m _) q38 HF fun w39 HF=>tF<|tF<|sK<|sK<|sK<|tF<|tF<|Nl ?_;simp only[pS];go_wp2;exact lf C HC HF (by simp only[*,msgR,bsq])
   refine cB (r_counted m _) q38 HF fun w40 HF=>tU<|tU<|lP (Mg.cs m) HF 0 0 U45 S45 (Mg.cs m) rfl<|lP (Cg.cs c) HF 1 0 U24 S24 (Cg.cs c) rfl<|?_;simp only[pS];cases q39:(ansR c.bl c.rm m bs es ls)
   ·refine cB (r_answers m bs es ls c _ HB (HRB.out.no HF.out.kept) (HRE.out.no HF.out.kept) (HRL.out.no HF.out.kept) hnb hne hnl) q39 HF fun w41 HF=>tF<|tF<|Nl ?_;simp only[pS];go_wp2;exact lf C HC HF (by simp only[*,msgR,bsq])
   refine cB (r_answers m bs es ls c _ HB (HRB.out.no HF.out.kept) (HRE.out.no HF.out.kept) (HRL.out.no HF.out.kept) hnb hne hnl) q39 HF fun w42 HF=>tU<|tU<|Nl ?_;simp only[pS];go_wp2;exact lf C HC HF (by simp only[*,msgR,bsq])
  refine bN (eI q11)<|tF<|Nl ?_;simp only[pS];go_upto_region 15 with fail;refine Sg<|?_;cases q12:(m.k==16);rotate_left
  ·refine bN (eI q12)<|tU<|Nl ?_;simp only[pS];go_upto_region 17 with fail;refine Sg<|tK (pg g1 1)<|lP (Ad.cs m.fr) HF 0 1 U30 S30 (Mg.cs m) rfl<|lP (Cg.cs c) HF 1 0 U24 S24 (Cg.cs c) rfl<|?_;simp only[pS];cases q32:(srvB zs m.fr)
   ·refine cB (r_server m.fr c zs _ (HZ.out.no HF.out.kept) hnz) q32 HF fun w27 HF=>tF<|sK<|sK<|sK<|tF<|tF<|sK<|sK<|tF<|tF<|sK<|sK<|sK<|tF<|tF<|Nl ?_;simp only[pS];go_wp2;exact lf C HC HF (by simp only[*,msgR,bsq])
   refine cB (r_server m.fr c zs _ (HZ.out.no HF.out.kept) hnz) q32 HF fun w28 HF=>tU<|tK (pg g1 3)<|lP (Ad.cs m.too) HF 0 3 U30 S30 (Mg.cs m) rfl<|?_;simp only[pS];cases q33:(cliB m.too)
   ·refine cB (r_client m.too _) q33 HF fun w29 HF=>tF<|tF<|sK<|sK<|tF<|tF<|sK<|sK<|sK<|tF<|tF<|Nl ?_;simp only[pS];go_wp2;exact lf C HC HF (by simp only[*,msgR,bsq])
   refine cB (r_client m.too _) q33 HF fun w30 HF=>tU<|tU<|lP (Mg.cs m) HF 0 0 U45 S45 (Mg.cs m) rfl<|?_;simp only[pS];cases q34:(cntB m)
   ·refine cB (r_counted m _) q34 HF fun w31 HF=>tF<|tF<|sK<|sK<|sK<|tF<|tF<|Nl ?_;simp only[pS];go_wp2;exact lf C HC HF (by simp only[*,msgR,bsq])
   refine cB (r_counted m _) q34 HF fun w32 HF=>tU<|tU<|lP (Mg.cs m) HF 0 0 U45 S45 (Mg.cs m) rfl<|lP (Cg.cs c) HF 1 0 U24 S24 (Cg.cs c) rfl<|?_;simp only[pS];cases q35:(ansR c.bl c.rm m bs es ls)
   ·refine cB (r_answers m bs es ls c _ HB (HRB.out.no HF.out.kept) (HRE.out.no HF.out.kept) (HRL.out.no HF.out.kept) hnb hne hnl) q35 HF fun w33 HF=>tF<|tF<|Nl ?_;simp only[pS];go_wp2;exact lf C HC HF (by simp only[*,msgR,bsq])
   refine cB (r_answers m bs es ls c _ HB (HRB.out.no HF.out.kept) (HRE.out.no HF.out.kept) (HRL.out.no HF.out.kept) hnb hne hnl) q35 HF fun w34 HF=>tU<|tU<|Nl ?_;simp only[pS];go_wp2;exact lf C HC HF (by simp only[*,msgR,bsq])
  refine bN (eI q12)<|tF<|Nl ?_;simp only[pS];go_upto_region 16 with fail;refine Sg<|?_;cases q13:(m.k==17);rotate_left
  ·refine bN (eI q13)<|tU<|Nl ?_;simp only[pS];go_upto_region 17 with fail;refine Sg<|tK (pg g1 1)<|lP (Ad.cs m.fr) HF 0 1 U30 S30 (Mg.cs m) rfl<|lP (Cg.cs c) HF 1 0 U24 S24 (Cg.cs c) rfl<|?_;simp only[pS];cases q28:(srvB zs m.fr)
   ·refine cB (r_server m.fr c zs _ (HZ.out.no HF.out.kept) hnz) q28 HF fun w19 HF=>tF<|sK<|sK<|sK<|tF<|tF<|sK<|sK<|tF<|tF<|sK<|sK<|sK<|tF<|tF<|Nl ?_;simp only[pS];go_wp2;exact lf C HC HF (by simp only[*,msgR,bsq])
   refine cB (r_server m.fr c zs _ (HZ.out.no HF.out.kept) hnz) q28 HF fun w20 HF=>tU<|tK (pg g1 3)<|lP (Ad.cs m.too) HF 0 3 U30 S30 (Mg.cs m) rfl<|?_;simp only[pS];cases q29:(cliB m.too)
   ·refine cB (r_client m.too _) q29 HF fun w21 HF=>tF<|tF<|sK<|sK<|tF<|tF<|sK<|sK<|sK<|tF<|tF<|Nl ?_;simp only[pS];go_wp2;exact lf C HC HF (by simp only[*,msgR,bsq])
   refine cB (r_client m.too _) q29 HF fun w22 HF=>tU<|tU<|lP (Mg.cs m) HF 0 0 U45 S45 (Mg.cs m) rfl<|?_;simp only[pS];cases q30:(cntB m)
   ·refine cB (r_counted m _) q30 HF fun w23 HF=>tF<|tF<|sK<|sK<|sK<|tF<|tF<|Nl ?_;simp only[pS];go_wp2;exact lf C HC HF (by simp only[*,msgR,bsq])
   refine cB (r_counted m _) q30 HF fun w24 HF=>tU<|tU<|lP (Mg.cs m) HF 0 0 U45 S45 (Mg.cs m) rfl<|lP (Cg.cs c) HF 1 0 U24 S24 (Cg.cs c) rfl<|?_;simp only[pS];cases q31:(ansR c.bl c.rm m bs es ls)
   ·refine cB (r_answers m bs es ls c _ HB (HRB.out.no HF.out.kept) (HRE.out.no HF.out.kept) (HRL.out.no HF.out.kept) hnb hne hnl) q31 HF fun w25 HF=>tF<|tF<|Nl ?_;simp only[pS];go_wp2;exact lf C HC HF (by simp only[*,msgR,bsq])
   refine cB (r_answers m bs es ls c _ HB (HRB.out.no HF.out.kept) (HRE.out.no HF.out.kept) (HRL.out.no HF.out.kept) hnb hne hnl) q31 HF fun w26 HF=>tU<|tU<|Nl ?_;simp only[pS];go_wp2;exact lf C HC HF (by simp only[*,msgR,bsq])
  refine bN (eI q13)<|tF<|Nl ?_;simp only[pS];go_upto_region 18 with fail;refine Sg<|?_;cases q14:(m.k==21);rotate_left
  ·refine bN (eI q14)<|tU<|Nl ?_;simp only[pS];go_upto_region 20 with fail;refine Sg<|tK (pg g1 1)<|lP (Ad.cs m.fr) HF 0 1 U30 S30 (Mg.cs m) rfl<|lP (Cg.cs c) HF 1 0 U24 S24 (Cg.cs c) rfl<|?_;simp only[pS];cases q22:(srvB zs m.fr)
   ·refine cB (r_server m.fr c zs _ (HZ.out.no HF.out.kept) hnz) q22 HF fun w13 HF=>tF<|sK<|sK<|sK<|sK<|tF<|tF<|sK<|sK<|sK<|sK<|sK<|tF<|tF<|sK<|?_;simp only[pS];refine sK<|sK<|tF<|tF<|sK<|sK<|sK<|tF<|tF<|sK<|sK<|sK<|tF<|tF<|Nl ?_;simp only[pS];go_wp2;exact lf C HC HF (by simp only[*,msgR,bsq])
   refine cB (r_server m.fr c zs _ (HZ.out.no HF.out.kept) hnz) q22 HF fun w14 HF=>tU<|tK (pg g1 3)<|lP (Ad.cs m.too) HF 0 3 U30 S30 (Mg.cs m) rfl<|lP (Cg.cs c) HF 1 0 U24 S24 (Cg.cs c) rfl<|?_;simp only[pS];cases q23:(srvB zs m.too)
   ·refine cB (r_server m.too c zs _ (HZ.out.no HF.out.kept) hnz) q23 HF fun w15 HF=>tF<|tF<|sK<|sK<|sK<|sK<|sK<|tF<|tF<|sK<|sK<|sK<|tF<|tF<|sK<|?_;simp only[pS];refine sK<|sK<|tF<|tF<|sK<|sK<|sK<|tF<|tF<|Nl ?_;simp only[pS];go_wp2;exact lf C HC HF (by simp only[*,msgR,bsq])
   refine cB (r_server m.too c zs _ (HZ.out.no HF.out.kept) hnz) q23 HF fun w16 HF=>tU<|tU<|tK (pg g1 1)<|lP (Ad.cs m.fr) HF 0 1 U30 S30 (Mg.cs m) rfl<|tK (pg g1 3)<|lP (Ad.cs m.too) HF 0 3 U30 S30 (Mg.cs m) rfl<|?_;simp only[pS];cases q24:(eqA m.fr m.too);rotate_left
   ·refine bN (qn1A q24)<|tF<|tF<|sK<|sK<|sK<|tF<|tF<|sK<|sK<|sK<|tF<|tF<|sK<|sK<|sK<|tF<|tF<|Nl ?_;simp only[pS];go_wp2;exact lf C HC HF (by simp only[*,msgR,bsq])
   refine bN (qn0A q24)<|tU<|tU<|tK (pg g1 5)<|lD (.int .i64 m.op) HF 0 5 U3 rfl<|?_;simp only[pS];cases q25:(m.op==0)
   ·refine bN (eI q25)<|tF<|tF<|sK<|sK<|sK<|tF<|tF<|sK<|sK<|sK<|tF<|tF<|Nl ?_;simp only[pS];go_wp2;exact lf C HC HF (by simp only[*,msgR,bsq])
   refine bN (eI q25)<|tU<|tU<|tK (pg g1 6)<|lD (.int .i64 m.rd) HF 0 6 U3 rfl<|?_;simp only[pS];cases q26:(m.rd==0)
   ·refine bN (eI q26)<|tF<|tF<|sK<|sK<|sK<|tF<|tF<|Nl ?_;simp only[pS];go_wp2;exact lf C HC HF (by simp only[*,msgR,bsq])
   refine bN (eI q26)<|tU<|tU<|lP (Mg.cs m) HF 0 0 U45 S45 (Mg.cs m) rfl<|lP (Cg.cs c) HF 1 0 U24 S24 (Cg.cs c) rfl<|?_;simp only[pS];cases q27:(btwR c.bl c.rm m bs es ls cs)
   ·refine cB (r_between m bs es ls cs c _ HB (HRB.out.no HF.out.kept) (HRE.out.no HF.out.kept) (HRL.out.no HF.out.kept) (HRC.out.no HF.out.kept) hnb hne hnl hnc) q27 HF fun w17 HF=>tF<|tF<|Nl ?_;simp only[pS];go_wp2;exact lf C HC HF (by simp only[*,msgR,bsq])
   refine cB (r_between m bs es ls cs c _ HB (HRB.out.no HF.out.kept) (HRE.out.no HF.out.kept) (HRL.out.no HF.out.kept) (HRC.out.no HF.out.kept) hnb hne hnl hnc) q27 HF fun w18 HF=>tU<|tU<|Nl ?_;simp only[pS];go_wp2;exact lf C HC HF (by simp only[*,msgR,bsq])
  refine bN (eI q14)<|tF<|Nl ?_;simp only[pS];go_upto_region 19 with fail;refine Sg<|?_;cases q15:(m.k==22)
  ·refine bN (eI q15)<|tF<|Nl ?_;simp only[pS];go_upto_region 21 with fail;refine Sg<|tF<|Nl ?_;simp only[pS];go_wp2;exact lf C HC HF (by simp only[*,msgR,bsq])
  refine bN (eI q15)<|tU<|Nl ?_;simp only[pS];go_upto_region 20 with fail;refine Sg<|tK (pg g1 1)<|lP (Ad.cs m.fr) HF 0 1 U30 S30 (Mg.cs m) rfl<|lP (Cg.cs c) HF 1 0 U24 S24 (Cg.cs c) rfl<|?_;simp only[pS];cases q16:(srvB zs m.fr)
  ·refine cB (r_server m.fr c zs _ (HZ.out.no HF.out.kept) hnz) q16 HF fun w7 HF=>tF<|sK<|sK<|sK<|sK<|tF<|tF<|sK<|sK<|sK<|sK<|sK<|tF<|tF<|sK<|?_;simp only[pS];refine sK<|sK<|tF<|tF<|sK<|sK<|sK<|tF<|tF<|sK<|sK<|sK<|tF<|tF<|Nl ?_;simp only[pS];go_wp2;exact lf C HC HF (by simp only[*,msgR,bsq])
  refine cB (r_server m.fr c zs _ (HZ.out.no HF.out.kept) hnz) q16 HF fun w8 HF=>tU<|tK (pg g1 3)<|lP (Ad.cs m.too) HF 0 3 U30 S30 (Mg.cs m) rfl<|lP (Cg.cs c) HF 1 0 U24 S24 (Cg.cs c) rfl<|?_;simp only[pS];cases q17:(srvB zs m.too)
  ·refine cB (r_server m.too c zs _ (HZ.out.no HF.out.kept) hnz) q17 HF fun w9 HF=>tF<|tF<|sK<|sK<|sK<|sK<|sK<|tF<|tF<|sK<|sK<|sK<|tF<|tF<|sK<|?_;simp only[pS];refine sK<|sK<|tF<|tF<|sK<|sK<|sK<|tF<|tF<|Nl ?_;simp only[pS];go_wp2;exact lf C HC HF (by simp only[*,msgR,bsq])
  refine cB (r_server m.too c zs _ (HZ.out.no HF.out.kept) hnz) q17 HF fun w10 HF=>tU<|tU<|tK (pg g1 1)<|lP (Ad.cs m.fr) HF 0 1 U30 S30 (Mg.cs m) rfl<|tK (pg g1 3)<|lP (Ad.cs m.too) HF 0 3 U30 S30 (Mg.cs m) rfl<|?_;simp only[pS];cases q18:(eqA m.fr m.too);rotate_left
  ·refine bN (qn1A q18)<|tF<|tF<|sK<|sK<|sK<|tF<|tF<|sK<|sK<|sK<|tF<|tF<|sK<|sK<|sK<|tF<|tF<|Nl ?_;simp only[pS];go_wp2;exact lf C HC HF (by simp only[*,msgR,bsq])
  refine bN (qn0A q18)<|tU<|tU<|tK (pg g1 5)<|lD (.int .i64 m.op) HF 0 5 U3 rfl<|?_;simp only[pS];cases q19:(m.op==0)
  ·refine bN (eI q19)<|tF<|tF<|sK<|sK<|sK<|tF<|tF<|sK<|sK<|sK<|tF<|tF<|Nl ?_;simp only[pS];go_wp2;exact lf C HC HF (by simp only[*,msgR,bsq])
  refine bN (eI q19)<|tU<|tU<|tK (pg g1 6)<|lD (.int .i64 m.rd) HF 0 6 U3 rfl<|?_;simp only[pS];cases q20:(m.rd==0)
  ·refine bN (eI q20)<|tF<|tF<|sK<|sK<|sK<|tF<|tF<|Nl ?_;simp only[pS];go_wp2;exact lf C HC HF (by simp only[*,msgR,bsq])
  refine bN (eI q20)<|tU<|tU<|lP (Mg.cs m) HF 0 0 U45 S45 (Mg.cs m) rfl<|lP (Cg.cs c) HF 1 0 U24 S24 (Cg.cs c) rfl<|?_;simp only[pS];cases q21:(btwR c.bl c.rm m bs es ls cs)
  ·refine cB (r_between m bs es ls cs c _ HB (HRB.out.no HF.out.kept) (HRE.out.no HF.out.kept) (HRL.out.no HF.out.kept) (HRC.out.no HF.out.kept) hnb hne hnl hnc) q21 HF fun w11 HF=>tF<|tF<|Nl ?_;simp only[pS];go_wp2;exact lf C HC HF (by simp only[*,msgR,bsq])
  refine cB (r_between m bs es ls cs c _ HB (HRB.out.no HF.out.kept) (HRE.out.no HF.out.kept) (HRL.out.no HF.out.kept) (HRC.out.no HF.out.kept) hnb hne hnl hnc) q21 HF fun w12 HF=>tU<|tU<|Nl ?_;simp only[pS];go_wp2;exact lf C HC HF (by simp only[*,msgR,bsq])
end Go.Proofs.YtgdnofacgfjaeaaGreat.Md
