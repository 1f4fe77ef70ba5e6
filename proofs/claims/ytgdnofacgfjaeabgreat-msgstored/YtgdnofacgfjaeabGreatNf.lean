import Derived.Test.YtgdnofacgfjaeabGreatMa
import Derived.Test.YtgdnofacgfjaeabGreatHf
import Derived.Test.YtgdnofacgfjaeabGreatWiZl
import Derived.Laws.ResultCell
import Derived.Deep.RegionLaw
import Derived.Test.YtgdnofacgfjaeabGreatIb
import Derived.Test.YtgdnofacgfjaeabGreatWiU
namespace Go.Proofs.YtgdnofacgfjaeabGreat.Md
set_option maxRecDepth 100000
set_option maxHeartbeats 4000000
open Go.RowKit
set_option linter.unusedVariables false
set_option linter.unusedSimpArgs false
theorem judgeB (x:Bl) (bs:List Int) (c:Cg) (zs:List Int) (r:Int) (w:World) (hc:CgIn w c zs) (hm:BlIn w x bs) :
    Calls Tryz.prog 71 #[.agg (Bl.cells x),.agg (Cg.cells c),.func (.func 37) #[] #[],.int .i64 r] w fun e w'=>e=.returned (.int .i64 (jdg (cfgP c zs) (blkB c.bl x bs) r))∧Kept No w w':=by
  cases hq:cfgP c zs with
  | false=>exact callw (Wi.judgeBlock_no (Bl.cells x) _ r c.sv.a c.sv.l c.sv.k zs c.f c.po c.bu c.bl c.rm w hc.wi hq)
  | true=>
    rw [← jdg_if];exact callw (Wi.judgeBlock_all (Bl.cells x) rfl _ r c.sv.a c.sv.l c.sv.k zs c.f c.po c.bu c.bl c.rm w hc.wi hq (fun W hk=>wcall (p_rightBlock x c bs W (hm.b.no (kw hk)) (by have:=hm.nb;omega))))
theorem judgeI (x:In) (c:Cg) (zs:List Int) (r:Int) (w:World) (hc:CgIn w c zs) (hm:InIn w x) :
    Calls Tryz.prog 84 #[.agg (In.cells x),.agg (Cg.cells c),.func (.func 42) #[] #[],.int .i64 r] w fun e w'=>e=.returned (.int .i64 (jdg (cfgP c zs) (insP c.bl x) r))∧Kept No w w':=by
  cases hq:cfgP c zs with
  | false=>exact callw (Wi.judgeInst_no (In.cells x) _ r c.sv.a c.sv.l c.sv.k zs c.f c.po c.bu c.bl c.rm w hc.wi hq)
  | true=>
    rw [← jdg_if];exact callw (Wi.judgeInst_all (In.cells x) rfl _ r c.sv.a c.sv.l c.sv.k zs c.f c.po c.bu c.bl c.rm w hc.wi hq (fun W hk=>wcall (p_rightInstance x c W (cfg_bl hq))))
theorem p_packB (x:Bl) (bs:List Int) (c:Cg) (zs:List Int) (w:World) (hc:CgIn w c zs) (hm:BlIn w x bs) :
    Calls Tryz.prog 36 #[.agg (Bl.cells x),.agg (Cg.cells c),.func (.func 37) #[] #[],.func (.func 38) #[] #[],.int .i64 1] w (EncO w (jdg (cfgP c zs) (blkB c.bl x bs) 1) (encR (cfgP c zs&&blkB c.bl x bs) (blkIts x bs))):=by
  cases hq:(cfgP c zs&&blkB c.bl x bs) with
  | false=>
    refine (Wi.packBlock_no (Bl.cells x) rfl _ 1 _ (jdg_ne hq (by decide)) c.sv.a c.sv.l c.sv.k zs c.f c.po c.bu c.bl c.rm w (fun W hk=>wcall (judgeB x bs c zs 1 W (hc.no (kw hk)) (hm.no (kw hk))))).mono ?_;rintro e w' ⟨rfl,hk⟩;exact ⟨slZ,rfl,RdB.nilS _,Nat.zero_le _,kw hk⟩
  | true=>
    rw [Bool.and_eq_true] at hq;obtain ⟨h1,h2⟩:=hq;have hB:=cfgP_bd h1;have hB0:=cfg_bl h1;have hr0:c.rm≤256:=by omega
    obtain ⟨hok,hlen⟩:=blk_ok hB0 hm h2;have hbl:=encB_len hok;refine (Wi.packBlock_all (Bl.cells x) rfl 1 c.sv.a c.sv.l c.sv.k zs c.f c.po c.bu c.bl c.rm (encB (blkIts x bs)) w (by omega) (encB_u8 hok) (fun W hk=>?_) (fun W g hk hW=>?_)).mono ?_
    · have:=judgeB x bs c zs 1 W (hc.no (kw hk)) (hm.no (kw hk))
      rw [h1,h2] at this;exact wcall this
    · have hm2:=hm.no (kw hk)
      exact pPut' (ok:=hok) (len:=hlen) (putTs_some hok) (p_block x bs W none [] ⟨0,hW⟩ List.prefix_rfl hm2.b (low_B hm.b))
    · rintro e w' ⟨a',c',rfl,hO,hk⟩
      have hz:=own_rdB (n:=(encB (blkIts x bs)).length+12) hO (by rw [Wi.sealOf_len]);refine ⟨⟨a',(encB (blkIts x bs)).length+12,c'⟩,?_,hz,by show _+12≤_;omega,kw hk⟩;rw [h1,h2];rfl
theorem p_packI (x:In) (c:Cg) (zs:List Int) (w:World) (hc:CgIn w c zs) (hm:InIn w x) :
    Calls Tryz.prog 41 #[.agg (In.cells x),.agg (Cg.cells c),.func (.func 42) #[] #[],.func (.func 43) #[] #[],.int .i64 1] w (EncO w (jdg (cfgP c zs) (insP c.bl x) 1) (encR (cfgP c zs&&insP c.bl x) (insIts x))):=by
  cases hq:(cfgP c zs&&insP c.bl x) with
  | false=>
    refine (Wi.packInst_no (In.cells x) rfl _ 1 _ (jdg_ne hq (by decide)) c.sv.a c.sv.l c.sv.k zs c.f c.po c.bu c.bl c.rm w (fun W hk=>wcall (judgeI x c zs 1 W (hc.no (kw hk)) (hm.no (kw hk))))).mono ?_;rintro e w' ⟨rfl,hk⟩;exact ⟨slZ,rfl,RdB.nilS _,Nat.zero_le _,kw hk⟩
  | true=>
    rw [Bool.and_eq_true] at hq;obtain ⟨h1,h2⟩:=hq;have hB:=cfgP_bd h1;have hB0:=cfg_bl h1;have hr0:c.rm≤256:=by omega
    obtain ⟨hok,hlen⟩:=ins_ok hB0 h2;have hbl:=encB_len hok;refine (Wi.packInst_all (In.cells x) rfl 1 c.sv.a c.sv.l c.sv.k zs c.f c.po c.bu c.bl c.rm (encB (insIts x)) w (by omega) (encB_u8 hok) (fun W hk=>?_) (fun W g hk hW=>?_)).mono ?_
    · have:=judgeI x c zs 1 W (hc.no (kw hk)) (hm.no (kw hk))
      rw [h1,h2] at this;exact wcall this
    · have hm2:=hm.no (kw hk)
      exact pPut' (ok:=hok) (len:=hlen) (putTs_some hok) (p_inst x W none [] ⟨0,hW⟩ List.prefix_rfl)
    · rintro e w' ⟨a',c',rfl,hO,hk⟩
      have hz:=own_rdB (n:=(encB (insIts x)).length+12) hO (by rw [Wi.sealOf_len]);refine ⟨⟨a',(encB (insIts x)).length+12,c'⟩,?_,hz,by show _+12≤_;omega,kw hk⟩;rw [h1,h2];rfl
theorem p_packK (x:Bv) (es:List En) (ls:List La) (c:Cg) (zs:List Int) (w:World) (hc:CgIn w c zs) (hm:BkIn w x es ls) :
    Calls Tryz.prog 46 #[.agg (Bv.cells x),.agg (Cg.cells c),.func (.func 47) #[] #[],.func (.func 48) #[] #[],.int .i64 1] w (EncO w (jdg (cfgP c zs) (bktP c.bl c.rm x es ls) 1) (encR (cfgP c zs&&bktP c.bl c.rm x es ls) (bktIts x es ls))):=by
  cases hq:(cfgP c zs&&bktP c.bl c.rm x es ls) with
  | false=>
    refine (Wi.packBucket_no (Bv.cells x) rfl _ 1 _ (jdg_ne hq (by decide)) c.sv.a c.sv.l c.sv.k zs c.f c.po c.bu c.bl c.rm w (fun W hk=>wcall (judgeK x c zs es ls 1 W (hc.no (kw hk)) (hm.no (kw hk))))).mono ?_;rintro e w' ⟨rfl,hk⟩;exact ⟨slZ,rfl,RdB.nilS _,Nat.zero_le _,kw hk⟩
  | true=>
    rw [Bool.and_eq_true] at hq;obtain ⟨h1,h2⟩:=hq;have hB:=cfgP_bd h1;have hB0:=cfg_bl h1;have hr0:c.rm≤256:=by omega
    obtain ⟨hok,hlen⟩:=bktK_ok hB0 hr0 hm h2;have hbl:=encB_len hok;refine (Wi.packBucket_all (Bv.cells x) rfl 1 c.sv.a c.sv.l c.sv.k zs c.f c.po c.bu c.bl c.rm (encB (bktIts x es ls)) w (by omega) (encB_u8 hok) (fun W hk=>?_) (fun W g hk hW=>?_)).mono ?_
    · have:=judgeK x c zs es ls 1 W (hc.no (kw hk)) (hm.no (kw hk))
      rw [h1,h2] at this;exact wcall this
    · have hm2:=hm.no (kw hk)
      exact pPut' (ok:=hok) (len:=hlen) (putTs_some hok) (p_bucket x es ls W none [] ⟨0,hW⟩ List.prefix_rfl hm2.e hm2.l (low_E hm.e) (low_L hm.l) (by have:=hm.ne;omega) (by have:=hm.nl;omega))
    · rintro e w' ⟨a',c',rfl,hO,hk⟩
      have hz:=own_rdB (n:=(encB (bktIts x es ls)).length+12) hO (by rw [Wi.sealOf_len]);refine ⟨⟨a',(encB (bktIts x es ls)).length+12,c'⟩,?_,hz,by show _+12≤_;omega,kw hk⟩;rw [h1,h2];rfl
theorem p_PkB (x:Bl) (bs:List Int) (c:Cg) (zs:List Int) (w:World) (hc:CgIn w c zs) (hm:BlIn w x bs):Calls Tryz.prog 8 #[.agg (Bl.cells x),.agg (Cg.cells c)] w (EncO w (jdg (cfgP c zs) (blkB c.bl x bs) 1) (encR (cfgP c zs&&blkB c.bl x bs) (blkIts x bs))):=by
  refine hidC fun C HC=>?_;have HCg:Hid (CgIn w c zs):=hc;have HI:Hid (BlIn w x bs):=hm;clear hc hm;have HF:Hid (Fq No w w []):=Fq.start _ _;go_enter Tryz.func8,Tryz.ntmps8;go_upto_region 0 with fail;refine Sg<|xB (Bl.cells x) HF fun g1 w2 HF=>xB (Cg.cells c) HF fun g3 w4 HF=>tK (.slice none 0 0)<|tK (.int .i64 0)<|Nl ?_;simp only[pS];go_upto_region 1 with fail;refine Sg<|lP (Bl.cs x) HF 0 0 U37 S37 (Bl.cs x) rfl<|lP (Cg.cs c) HF 1 0 U24 S24 (Cg.cs c) rfl<|cEn (p_packB x bs c zs _ (HCg.out.no HF.out.kept) (HI.out.no HF.out.kept)) HF fun s5 w6 HF HR hs=>tK (s5.v)<|tK (.int .i64 (jdg (cfgP c zs) (blkB c.bl x bs) 1))<|tK (s5.v)<|tK (.int .i64 (jdg (cfgP c zs) (blkB c.bl x bs) 1))<|Nl ?_;simp only[pS];go_wp2;rw [HC.out];exact ⟨s5,rfl,HR.out,hs,HF.out.kept⟩
theorem p_PkI (x:In) (c:Cg) (zs:List Int) (w:World) (hc:CgIn w c zs) (hm:InIn w x):Calls Tryz.prog 11 #[.agg (In.cells x),.agg (Cg.cells c)] w (EncO w (jdg (cfgP c zs) (insP c.bl x) 1) (encR (cfgP c zs&&insP c.bl x) (insIts x))):=by
  refine hidC fun C HC=>?_;have HCg:Hid (CgIn w c zs):=hc;have HI:Hid (InIn w x):=hm;clear hc hm;have HF:Hid (Fq No w w []):=Fq.start _ _;go_enter Tryz.func11,Tryz.ntmps11;go_upto_region 0 with fail;refine Sg<|xB (In.cells x) HF fun g1 w2 HF=>xB (Cg.cells c) HF fun g3 w4 HF=>tK (.slice none 0 0)<|tK (.int .i64 0)<|Nl ?_;simp only[pS];go_upto_region 1 with fail;refine Sg<|lP (In.cs x) HF 0 0 U47 S47 (In.cs x) rfl<|lP (Cg.cs c) HF 1 0 U24 S24 (Cg.cs c) rfl<|cEn (p_packI x c zs _ (HCg.out.no HF.out.kept) (HI.out.no HF.out.kept)) HF fun s5 w6 HF HR hs=>tK (s5.v)<|tK (.int .i64 (jdg (cfgP c zs) (insP c.bl x) 1))<|tK (s5.v)<|tK (.int .i64 (jdg (cfgP c zs) (insP c.bl x) 1))<|Nl ?_;simp only[pS];go_wp2;rw [HC.out];exact ⟨s5,rfl,HR.out,hs,HF.out.kept⟩
theorem p_PkK (x:Bv) (es:List En) (ls:List La) (c:Cg) (zs:List Int) (w:World) (hc:CgIn w c zs) (hm:BkIn w x es ls):Calls Tryz.prog 13 #[.agg (Bv.cells x),.agg (Cg.cells c)] w (EncO w (jdg (cfgP c zs) (bktP c.bl c.rm x es ls) 1) (encR (cfgP c zs&&bktP c.bl c.rm x es ls) (bktIts x es ls))):=by
  refine hidC fun C HC=>?_;have HCg:Hid (CgIn w c zs):=hc;have HI:Hid (BkIn w x es ls):=hm;clear hc hm;have HF:Hid (Fq No w w []):=Fq.start _ _;go_enter Tryz.func13,Tryz.ntmps13;go_upto_region 0 with fail;refine Sg<|xB (Bv.cells x) HF fun g1 w2 HF=>xB (Cg.cells c) HF fun g3 w4 HF=>tK (.slice none 0 0)<|tK (.int .i64 0)<|Nl ?_;simp only[pS];go_upto_region 1 with fail;refine Sg<|lP (Bv.cs x) HF 0 0 U54 S54 (Bv.cs x) rfl<|lP (Cg.cs c) HF 1 0 U24 S24 (Cg.cs c) rfl<|cEn (p_packK x es ls c zs _ (HCg.out.no HF.out.kept) (HI.out.no HF.out.kept)) HF fun s5 w6 HF HR hs=>tK (s5.v)<|tK (.int .i64 (jdg (cfgP c zs) (bktP c.bl c.rm x es ls) 1))<|tK (s5.v)<|tK (.int .i64 (jdg (cfgP c zs) (bktP c.bl c.rm x es ls) 1))<|Nl ?_;simp only[pS];go_wp2;rw [HC.out];exact ⟨s5,rfl,HR.out,hs,HF.out.kept⟩
structure RdM (w:World) (s:Sl) (ms:List Mg):Prop where
  row:RowsAt 30 w s.a (ms.map Mg.cs)
  len:ms.length=s.l
structure RdK (w:World) (s:Sl) (ks:List Bv):Prop where
  row:RowsAt 3 w s.a (ks.map Bv.cs)
  len:ks.length=s.l
def gAt (ms:List Mg) (i:Nat):Mg:=ms[i]?.getD mgZ
def kAt (ks:List Bv) (i:Nat):Bv:=ks[i]?.getD bvZ
theorem RdM.at' {w:World} {s:Sl} {es:List Mg} (h:RdM w s es) {i:Nat} (hi:i < s.l):∃ b off,s.v=.slice (some ⟨b,off,none⟩) s.l s.k∧∀ (j:Nat) v,(gAt es i).cs[j]?=some v→w.cell? ⟨b,off+i*30+j,none⟩=some v:=by
  obtain ⟨b,off,ha,hc⟩:=h.row i (gAt es i).cs (by rw [List.getElem?_map,show es[i]?=some (gAt es i) by simp [gAt,List.getElem?_eq_getElem (show i < es.length by rw [h.len];exact hi)]];rfl);exact ⟨b,off,by unfold Sl.v;rw [ha],hc⟩
theorem RdK.at' {w:World} {s:Sl} {es:List Bv} (h:RdK w s es) {i:Nat} (hi:i < s.l):∃ b off,s.v=.slice (some ⟨b,off,none⟩) s.l s.k∧∀ (j:Nat) v,(kAt es i).cs[j]?=some v→w.cell? ⟨b,off+i*3+j,none⟩=some v:=by
  obtain ⟨b,off,ha,hc⟩:=h.row i (kAt es i).cs (by rw [List.getElem?_map,show es[i]?=some (kAt es i) by simp [kAt,List.getElem?_eq_getElem (show i < es.length by rw [h.len];exact hi)]];rfl);exact ⟨b,off,by unfold Sl.v;rw [ha],hc⟩
theorem load_K {w:World} {b off i:Nat} {e:Bv} (hc:∀ (j:Nat) v,e.cs[j]?=some v→w.cell? ⟨b,off+i*3+j,none⟩=some v):(loadVar 54 ⟨b,off+i*3,none⟩).run Tryz.prog w=.ok (.agg e.cells) w:=load_at hc U54 rfl S54
set_option maxRecDepth 100000 in
set_option maxHeartbeats 4000000 in
theorem p_Bucket (x:Bv) (c:Cg) (zs:List Int) (es:List En) (ls:List La) (w:World) (hc:CgIn w c zs) (hm:BkIn w x es ls):Calls Tryz.prog 14 #[.agg (Bv.cells x),.agg (Cg.cells c)] w (fun e w'=>e=.returned (.int .i64 (jdg (cfgP c zs) (bktP c.bl c.rm x es ls) 1))∧Kept No w w'):=by
  refine hidC fun C HC=>?_;have HCg:Hid (CgIn w c zs):=hc;have HI:Hid (BkIn w x es ls):=hm;clear hc hm;have HF:Hid (Fq No w w []):=Fq.start _ _;go_enter Tryz.func14,Tryz.ntmps14;go_upto_region 0 with fail;refine Sg<|xB (Bv.cells x) HF fun g1 w2 HF=>xB (Cg.cells c) HF fun g3 w4 HF=>tK (.int .i64 0)<|Nl ?_;simp only[pS];go_upto_region 1 with fail;refine Sg<|lP (Bv.cs x) HF 0 0 U54 S54 (Bv.cs x) rfl<|lP (Cg.cs c) HF 1 0 U24 S24 (Cg.cs c) rfl<|cV (judgeK x c zs es ls 1 _ (HCg.out.no HF.out.kept) (HI.out.no HF.out.kept)) HF fun w5 HF=>tK (.int .i64 (jdg (cfgP c zs) (bktP c.bl c.rm x es ls) 1))<|Nl ?_;simp only[pS];go_wp2;rw [HC.out];exact ⟨rfl,HF.out.kept⟩
structure RdO (w:World) (s:Sl) (xs:List Bl):Prop where
  row:RowsAt 3 w s.a (xs.map Bl.cs)
  len:xs.length=s.l
structure RdN (w:World) (s:Sl) (xs:List In):Prop where
  row:RowsAt 14 w s.a (xs.map In.cs)
  len:xs.length=s.l
def blZ':Bl:=⟨spZ,slZ⟩
def inZ':In:=⟨spZ,spZ,cZ,false⟩
def oAt (xs:List Bl) (i:Nat):Bl:=xs[i]?.getD blZ'
def nAt (xs:List In) (i:Nat):In:=xs[i]?.getD inZ'
theorem RdO.at' {w:World} {s:Sl} {es:List Bl} (h:RdO w s es) {i:Nat} (hi:i < s.l):∃ b off,s.v=.slice (some ⟨b,off,none⟩) s.l s.k∧∀ (j:Nat) v,(oAt es i).cs[j]?=some v→w.cell? ⟨b,off+i*3+j,none⟩=some v:=by
  obtain ⟨b,off,ha,hc⟩:=h.row i (oAt es i).cs (by rw [List.getElem?_map,show es[i]?=some (oAt es i) by simp [oAt,List.getElem?_eq_getElem (show i < es.length by rw [h.len];exact hi)]];rfl)
  exact ⟨b,off,by unfold Sl.v;rw [ha],hc⟩
theorem RdN.at' {w:World} {s:Sl} {es:List In} (h:RdN w s es) {i:Nat} (hi:i < s.l):∃ b off,s.v=.slice (some ⟨b,off,none⟩) s.l s.k∧∀ (j:Nat) v,(nAt es i).cs[j]?=some v→w.cell? ⟨b,off+i*14+j,none⟩=some v:=by
  obtain ⟨b,off,ha,hc⟩:=h.row i (nAt es i).cs (by rw [List.getElem?_map,show es[i]?=some (nAt es i) by simp [nAt,List.getElem?_eq_getElem (show i < es.length by rw [h.len];exact hi)]];rfl)
  exact ⟨b,off,by unfold Sl.v;rw [ha],hc⟩
theorem load_O {w:World} {b off i:Nat} {e:Bl} (hc:∀ (j:Nat) v,e.cs[j]?=some v→w.cell? ⟨b,off+i*3+j,none⟩=some v):(loadVar 37 ⟨b,off+i*3,none⟩).run Tryz.prog w=.ok (.agg e.cells) w:=load_at hc U37 rfl S37
theorem load_N {w:World} {b off i:Nat} {e:In} (hc:∀ (j:Nat) v,e.cs[j]?=some v→w.cell? ⟨b,off+i*14+j,none⟩=some v):(loadVar 47 ⟨b,off+i*14,none⟩).run Tryz.prog w=.ok (.agg e.cells) w:=load_at hc U47 rfl S47
theorem bl_sp {x:Bl} {j:Nat} {v:Value} (h:(Sp.cs x.s)[j]?=some v):x.cs[j]?=some v:=by
  have hj:=(List.getElem?_eq_some_iff.1 h).1
  have:j=0∨j=1:=by have:j < 2:=hj;omega
  rcases this with rfl | rfl <;> exact h
theorem E25:Tryz.prog.underlying 25=some (.slice (Tryz.prog.elem 25)):=by kernel_rfl
theorem F25:(Tryz.prog.info? (Tryz.prog.elem 25)).map (·.size)=some 3:=by kernel_rfl
theorem E26:Tryz.prog.underlying 26=some (.slice (Tryz.prog.elem 26)):=by kernel_rfl
theorem F26:(Tryz.prog.info? (Tryz.prog.elem 26)).map (·.size)=some 14:=by kernel_rfl
section
variable {ops:Array Oper} {a:Act} {w:World} {Q:Exit→Act→World→Prop} {md:Region.Mode} {SS:World→Prop} {S:Nat→Prop} {w0:World} {lA lB:List (Nat × TypeId × Array Value)} {fuel:Nat} {listed:Array Bool}
def EntH (ops:Array Oper) (Q:Exit→Act→World→Prop) (md:Region.Mode) (SS:World→Prop) (fuel:Nat) (listed:Array Bool) (a:Act) (w:World) (i:Nat):Prop:=
  wpOp Tryz.prog ops Q i (fun a' w'=>SS w'∧wpAnyH Tryz.prog md ops Q SS fuel (listed.setIfInBounds i true) a' w') a w
theorem y1 (i:Nat) (h1:EntH ops Q md SS fuel listed a w i) (hr:Region.ready md ops listed=[i]:=by kernel_rfl):wpAnyH Tryz.prog md ops Q SS (fuel+1) listed a w:=
  wpAnyH_ready hr (by simp) (fun k hk=>by
    rcases List.mem_cons.1 hk with rfl | hk
    · exact h1
    · cases hk)
theorem y2 (i j:Nat) (h1:EntH ops Q md SS fuel listed a w i) (h2:EntH ops Q md SS fuel listed a w j) (hr:Region.ready md ops listed=[i,j]:=by kernel_rfl):wpAnyH Tryz.prog md ops Q SS (fuel+1) listed a w:=
  wpAnyH_ready hr (by simp) (fun k hk=>by
    rcases List.mem_cons.1 hk with rfl | hk
    · exact h1
    · rcases List.mem_cons.1 hk with rfl | hk
      · exact h2
      · cases hk)
end
end Go.Proofs.YtgdnofacgfjaeabGreat.Md
namespace Go.Proofs.YtgdnofacgfjaeabGreat.Wi
open Go.RowKit
set_option linter.unusedVariables false
theorem byt_at {zs:List Int} (h8:U8 zs) (i:Nat):zs[i]?.getD 0=(byt zs i:Int):=by have:=h8 i;unfold byt;omega
theorem byt_app (pre:List Int) (x:Int) (r:List Int):byt (pre++(x :: r)) pre.length=x.toNat:=by unfold byt;simp
theorem vrGo_vint (v:Nat):∀ (pre rest:List Int) (f:Nat),pre.length+f=10→acc (pre++(vint v++rest)) pre.length+v*128 ^ pre.length < 18446744073709551616→(0 < pre.length→0 < v)→pre.length≤9 →
    vrGo (pre++(vint v++rest)) pre.length f=.ok (acc (pre++(vint v++rest)) pre.length+v*128 ^ pre.length,pre.length+(vint v).length):=by
  induction v using Nat.strongRecOn with
  | _ v ih=>
    intro pre rest f hf hb hpos hp9
    obtain ⟨f',rfl⟩:∃ f',f=f'+1:=⟨f - 1,by omega⟩
    by_cases hv:v < 128
    · rw [vint_lo hv] at hb ⊢
      have hB:byt (pre++([(v:Int)]++rest)) pre.length=v:=by have:=byt_app pre (v:Int) rest;simpa using this
      rw [vrGo,if_neg (by simp),hB,if_pos hv,if_neg ?_]
      · rw [acc,hB,Nat.mod_eq_of_lt hv];rfl
      · rintro (⟨h1,h2⟩ | ⟨h1,h2⟩)
        · have:=hpos h1;omega
        · rw [h1] at hb
          have:2*128 ^ 9≤v*128 ^ 9:=Nat.mul_le_mul_right _ h2
          omega
    · rw [vint_hi hv] at hb ⊢
      have hB:byt (pre++(((v % 128+128:Nat):Int) :: vint (v / 128)++rest)) pre.length=v % 128+128:=by
        have:=byt_app pre ((v % 128+128:Nat):Int) (vint (v / 128)++rest)
        rw [List.cons_append,this];exact Int.toNat_natCast _
      have e:pre++(((v % 128+128:Nat):Int) :: vint (v / 128)++rest)=(pre++[((v % 128+128:Nat):Int)])++(vint (v / 128)++rest):=by simp
      have hl:(pre++[((v % 128+128:Nat):Int)]).length=pre.length+1:=by simp
      have hacc:acc (pre++(((v % 128+128:Nat):Int) :: vint (v / 128)++rest)) (pre.length+1)=acc (pre++(((v % 128+128:Nat):Int) :: vint (v / 128)++rest)) pre.length+v % 128*128 ^ pre.length:=by
        rw [acc,hB,Nat.add_mod_right,Nat.mod_mod]
      have hsplit:v % 128*128 ^ pre.length+v / 128*128 ^ (pre.length+1)=v*128 ^ pre.length:=by
        have:v / 128*128 ^ (pre.length+1)=(v / 128*128) * 128 ^ pre.length:=by rw [Nat.pow_succ,Nat.mul_assoc,Nat.mul_comm 128]
        rw [this,← Nat.add_mul];congr 1;omega
      have h9:pre.length+1≤9:=by
        by_cases h:pre.length=9
        · rw [h] at hb
          have:128*128 ^ 9≤v*128 ^ 9:=Nat.mul_le_mul_right _ (by omega)
          omega
        · omega
      rw [vrGo,if_neg (by simp),hB,if_neg (by omega)]
      have:=ih (v / 128) (by omega) (pre++[((v % 128+128:Nat):Int)]) rest f' (by rw [hl];omega) (by rw [hl,← e,hacc];omega) (fun _=>by omega) (by rw [hl];exact h9)
      rw [hl,← e,hacc] at this
      rw [this]
      congr 2
      · omega
      · simp;omega
theorem vr_vint (u:Nat) (rest:List Int) (h:W64 u):vr (vint u++rest)=.ok (u,(vint u).length):=by
  have:=vrGo_vint u [] rest 10 rfl (by simp [acc];exact h) (by simp) (by simp)
  simpa [acc,vr] using this
theorem nr_vint (u:Nat) (rest:List Int) (h:u≤9223372036854775807):nr (vint u++rest)=.ok (u,(vint u).length):=by
  unfold nr
  rw [vr_vint u rest (by unfold W64;omega)]
  simp only
  rw [if_neg (by omega)]
theorem cr_vint (ys rest:List Int) (h:ys.length≤140737488355328):cr (vint ys.length++ys++rest)=.ok (ys.length,(vint ys.length).length):=by
  unfold cr
  rw [List.append_assoc,nr_vint _ _ (by omega)]
  simp only
  rw [if_neg (by simp)]
theorem vrGo_form {zs:List Int} (h8:U8 zs) {u k:Nat}:∀ f i,i+f=10→vrGo zs i f=.ok (u,k)→∃ v,u=acc zs i+v*128 ^ i∧i < k∧(zs.drop i).take (k - i)=vint v∧(0 < i→0 < v):=by
  intro f
  induction f with
  | zero=>intro i _ h;simp [vrGo] at h
  | succ f ih=>
    intro i hi h
    rw [vrGo] at h
    split at h
    · cases h
    · rename_i hlen
      have hcons:zs.drop i=(byt zs i:Int) :: zs.drop (i+1):=by
        rw [List.drop_eq_getElem_cons (by omega)]
        congr 1
        have:=byt_at h8 i
        rw [List.getElem?_eq_getElem (by omega)] at this
        exact this
      split at h
      · rename_i hb
        split at h
        · cases h
        · rename_i hg
          simp only[Except.ok.injEq,Prod.mk.injEq] at h
          obtain ⟨rfl,rfl⟩:=h
          refine ⟨byt zs i,by rw [acc,Nat.mod_eq_of_lt hb],by omega,?_,fun h0=>by omega⟩
          rw [hcons,show i+1 - i=1 from by omega,vint_lo hb];rfl
      · rename_i hb
        obtain ⟨v,h1,h2,h3,h4⟩:=ih (i+1) (by omega) h
        have hv:=h4 (by omega)
        have hb255:byt zs i≤255:=by have:=h8 i;unfold byt;omega
        refine ⟨byt zs i % 128+128*v,?_,by omega,?_,fun _=>by omega⟩
        · rw [h1,acc,Nat.pow_succ,Nat.add_mul,Nat.add_assoc]
          congr 2
          rw [Nat.mul_comm (128 ^ i) 128,← Nat.mul_assoc,Nat.mul_comm v 128]
        · rw [hcons,show k - i=(k - (i+1))+1 from by omega,List.take_succ_cons,h3,vint_hi (u:=byt zs i % 128+128*v) (by omega)]
          have e1:(byt zs i % 128+128*v) / 128=v:=by omega
          have e2:(byt zs i % 128+128*v) % 128+128=byt zs i:=by omega
          rw [e1,e2]
theorem vr_form {zs:List Int} (h8:U8 zs) {u k:Nat} (h:vr zs=.ok (u,k)):zs.take k=vint u:=by
  obtain ⟨v,h1,h2,h3,_⟩:=vrGo_form h8 10 0 rfl h
  have:u=v:=by simpa [acc] using h1
  rw [this]
  simpa using h3
structure Rr (w:World) (g:Nat) (ba:Option Addr) (bc:Nat) (bs:List Int) (at_:Nat) (e p:Int):Prop where
  cell:w.heap[g]?=some (.cells #[.slice ba bs.length bc,.int .i64 (at_:Int),.int .i64 e,.int .i64 p] 212 (0,0))
  sl:Sl w ba bs.length bc bs
  le:at_≤bs.length
theorem Rr.lt {w:World} {g:Nat} {ba:Option Addr} {bc:Nat} {bs:List Int} {at_:Nat} {e p:Int} (h:Rr w g ba bc bs at_ e p):g < w.heap.size:=(Array.getElem?_eq_some_iff.1 h.cell).1
theorem Rr.kept {S:Nat→Prop} {w w':World} {g:Nat} {ba:Option Addr} {bc:Nat} {bs:List Int} {at_:Nat} {e p:Int} (h:Rr w g ba bc bs at_ e p) (hk:Kept S w w') (hg:¬ S g) (hS:0 < bs.length→∀ k,At ba k→¬ S k):Rr w' g ba bc bs at_ e p:=
  ⟨(hk.block g h.lt hg).trans h.cell,h.sl.kept2 hk hS,h.le⟩
theorem Rr.no {w w':World} {g:Nat} {ba:Option Addr} {bc:Nat} {bs:List Int} {at_:Nat} {e p:Int} (h:Rr w g ba bc bs at_ e p) (hk:Kept No w w'):Rr w' g ba bc bs at_ e p:=h.kept hk (fun e=>e) (fun _ _ _ e=>e)
theorem Rr.ne {w:World} {g:Nat} {ba:Option Addr} {bc:Nat} {bs:List Int} {at_:Nat} {e p:Int} (h:Rr w g ba bc bs at_ e p) (h0:0 < bs.length) {k:Nat} (hk:At ba k):k≠g:=by
  rintro rfl
  obtain ⟨b,off,rfl,hc⟩:=h.sl.bytes 0 h0
  obtain ⟨ad,e',e2⟩:=hk
  cases e'
  simp only at e2
  subst e2
  rw [cell_of_row w b (off+0) _ 212 (0,0) h.cell] at hc
  match off,hc with
  | 0,hc=>simp at hc
  | 1,hc=>simp at hc
  | 2,hc=>simp at hc
  | 3,hc=>simp at hc
  | n+4,hc=>simp at hc
def rvGo (zs:List Int) (s:Bool):Nat→Nat→Except Int (Nat × Nat)
  | i,0=>.error 11
  | i,f+1=>if zs.length≤i then .error 10 else
      if (i=9∧(1 < byt zs i∨s=false))∨(byt zs i=0∧0 < i) then .error 11 else
      if byt zs i < 128 then .ok (acc zs (i+1),i+1) else rvGo zs s (i+1) f
def rv (zs:List Int) (s:Bool):Except Int (Nat × Nat):=rvGo zs s 0 10
def Rf (w:World) (g:Nat) (ba:Option Addr) (bc:Nat) (bs:List Int):RS→Prop
  | .ok zs at_=>Rr w g ba bc bs at_ 0 0∧zs=bs.drop at_
  | .bad p c=>c≠0∧∃ at_,Rr w g ba bc bs at_ c (p:Int)
theorem Rf.lt {w:World} {g:Nat} {ba:Option Addr} {bc:Nat} {bs:List Int} {st:RS} (h:Rf w g ba bc bs st):g < w.heap.size:=by
  cases st with
  | ok zs at_=>exact h.1.lt
  | bad p c=>obtain ⟨_,a,hr⟩:=h;exact hr.lt
theorem Rf.kept {S:Nat→Prop} {w w':World} {g:Nat} {ba:Option Addr} {bc:Nat} {bs:List Int} {st:RS} (h:Rf w g ba bc bs st) (hk:Kept S w w') (hg:¬ S g) (hS:0 < bs.length→∀ k,At ba k→¬ S k):Rf w' g ba bc bs st:=by
  cases st with
  | ok zs at_=>exact ⟨h.1.kept hk hg hS,h.2⟩
  | bad p c=>obtain ⟨h0,a,hr⟩:=h;exact ⟨h0,a,hr.kept hk hg hS⟩
theorem Rf.no {w w':World} {g:Nat} {ba:Option Addr} {bc:Nat} {bs:List Int} {st:RS} (h:Rf w g ba bc bs st) (hk:Kept No w w'):Rf w' g ba bc bs st:=h.kept hk (fun e=>e) (fun _ _ _ e=>e)
theorem Bytes.cut {w:World} {b off:Nat} {bs:List Int} (h:Bytes w (some ⟨b,off,none⟩) bs) (f u:Nat) (hfu:f+u≤bs.length):Bytes w (some ⟨b,off+f,none⟩) ((bs.drop f).take u):=by
  intro i hi
  simp only[List.length_take,List.length_drop] at hi
  obtain ⟨b',o',e,hc⟩:=h (f+i) (by omega)
  cases e
  refine ⟨b,off+f,rfl,?_⟩
  rw [List.getElem?_take_of_lt (by omega),List.getElem?_drop,Nat.add_assoc]
  exact hc
end Go.Proofs.YtgdnofacgfjaeabGreat.Wi
namespace Go.Proofs.YtgdnofacgfjaeabGreat.Md
open Go.RowKit
set_option linter.unusedVariables false
set_option linter.unusedSimpArgs false
theorem wkS {S:Nat→Prop} {w w':World} (h:Kept S w w'):Wi.Kept S w w':=⟨h.os,h.tape,h.output,h.size,fun k hk hS=>h.block k hk hS⟩
theorem kwS {S:Nat→Prop} {w w':World} (h:Wi.Kept S w w'):Kept S w w':=⟨h.os,h.tape,h.output,h.size,fun k hk hS=>h.block k hk hS⟩
structure Src where
  pb:Nat
  pg:Nat
  In:Nat→Prop
  Wr:Nat→Prop
  sub:∀ k,Wr k→In k
  St:World→Wi.RS × Bool→Prop
  lt:∀ {w s},St w s→∀ k,In k→k < w.heap.size
  far:∀ {w w':World} {s:Wi.RS × Bool} {S:Nat→Prop},St w s→Kept S w w'→(∀ k,S k→¬ In k)→St w' s
  pt:∀ {w s},St w s→w.cell? ⟨pb,0,none⟩=some (.pointer (some ⟨pg,0,none⟩))
def Src.Got (K:Src) (w:World) (v:Value) (s':Wi.RS × Bool) (e:Ending) (w':World):Prop:=e=.returned v∧K.St w' s'∧Kept K.Wr w w'
structure Kr (K:Src) (w0 w:World) (s:Wi.RS × Bool) (l:List (Nat × TypeId × Array Value)):Prop where
  fq:Fq K.Wr w0 w l
  st:K.St w s
  out:∀ (i:Nat) g T cs,l[i]?=some (g,T,cs)→¬ K.In g
theorem Src.no {K:Src} {w w':World} {s:Wi.RS × Bool} (h:K.St w s) (hk:Kept No w w'):K.St w' s:=K.far h hk (fun _ e=>e.elim)
theorem Kr.start {K:Src} {w:World} {s:Wi.RS × Bool} (h:K.St w s):Kr K w w s []:=⟨Fq.start _ _,h,by simp⟩
theorem Kr.no {K:Src} {w0 w w':World} {s:Wi.RS × Bool} {l:List (Nat × TypeId × Array Value)} (h:Kr K w0 w s l) (hk:Kept No w w'):Kr K w0 w' s l:=⟨h.fq.no hk,Src.no h.st hk,h.out⟩
theorem Kr.front {K:Src} {w0 w:World} {s:Wi.RS × Bool} {l m:List (Nat × TypeId × Array Value)} (h:Kr K w0 w s (l++m)):Kr K w0 w s l:=
  ⟨h.fq.front,h.st,fun i g T cs hi=>h.out i g T cs (List.getElem?_append_left (List.getElem?_eq_some_iff.1 hi).1 ▸ hi)⟩
theorem Kr.alloc {K:Src} {w0 w:World} {s:Wi.RS × Bool} {l:List (Nat × TypeId × Array Value)} (h:Kr K w0 w s l) (T:TypeId) (cs:Array Value):Kr K w0 (w.alloc (.cells cs T)) s (l++[(w.heap.size,T,cs)]):=by
  refine ⟨h.fq.alloc T cs,Src.no h.st ((Kept.refl No w).alloc _),fun i g T' cs' hi=>?_⟩
  rw [List.getElem?_append] at hi
  split at hi
  · exact h.out i g T' cs' hi
  · have hlt:=(List.getElem?_eq_some_iff.1 hi).1
    have:i - l.length=0:=by simp at hlt;omega
    rw [this] at hi
    simp at hi
    rw [← hi.1]
    intro e
    have:=K.lt h.st _ e
    omega
theorem Kr.set {K:Src} {w0 w:World} {s:Wi.RS × Bool} {l:List (Nat × TypeId × Array Value)} (h:Kr K w0 w s l) (i:Nat) {g:Nat} {T:TypeId} {cs:Array Value} (hi:l[i]?=some (g,T,cs)) (cs':Array Value):Kr K w0 (w.setRow g cs') s (l.set i (g,T,cs')):=by
  refine ⟨h.fq.set i hi cs',K.far h.st (kept_row (Kept.refl (Only g) w) (.inr rfl) cs') (fun k e=>?_),fun j g' T' cs2 hj=>?_⟩
  · have e:k=g:=e
    rw [e];exact h.out i g T cs hi
  · rw [List.getElem?_set] at hj
    split at hj
    · split at hj
      · simp only[Option.some.injEq,Prod.mk.injEq] at hj
        rw [← hj.1];exact h.out i g T cs hi
      · cases hj
    · exact h.out j g' T' cs2 hj
theorem Kr.call {K:Src} {w0 w:World} {s s':Wi.RS × Bool} {v:Value} {l:List (Nat × TypeId × Array Value)} (h:Kr K w0 w s l) {e:Ending} {w':World} (hg:K.Got w v s' e w'):Kr K w0 w' s' l:=by
  obtain ⟨_,h2,h3⟩:=hg
  exact ⟨⟨h.fq.kept.then h3,fun i g T cs hi=>(h.fq.box i g T cs hi).kept h3 (fun e=>h.out i g T cs hi (K.sub _ e)),h.fq.low,h.fq.inj⟩,h2,h.out⟩
theorem Kr.from {K:Src} {w0 w:World} {s:Wi.RS × Bool} {l:List (Nat × TypeId × Array Value)} (h:Fq No w0 w l) (hs:K.St w s) (ho:∀ (i:Nat) g T cs,l[i]?=some (g,T,cs)→¬ K.In g):Kr K w0 w s l:=
  ⟨⟨h.kept.of_no,h.box,fun i g T cs hi=>.inl ((h.low i g T cs hi).elim id False.elim),h.inj⟩,hs,ho⟩
theorem Kr.got {K:Src} {w0 w:World} {s:Wi.RS × Bool} {l:List (Nat × TypeId × Array Value)} (h:Kr K w0 w s l) (v:Value):K.Got w0 v s (.returned v) w:=⟨rfl,h.st,h.fq.kept⟩
def Ex (K:Src) (w0:World) (l:List (Nat × TypeId × Array Value)) (w:World):Prop:=∃ s,Kr K w0 w s l
section
variable {ops:Array Oper} {rest:List Oper} {o:Oper} {a:Act} {w:World} {Q:Exit→Act→World→Prop} {K:Src} {w0:World} {s s':Wi.RS × Bool} {l:List (Nat × TypeId × Array Value)}
theorem rA {t:TypeId} (cs:Array Value) (hz:(Tryz.prog.info? t).bind (·.zero)=some (.agg cs)) (HF:Hid (Kr K w0 w s l)) (h:∀ g w',Hid (Kr K w0 w' s (l++[(g,t,cs)]))→WL ops Q rest (a.put o.dst (.pointer (some ⟨g,0,none⟩))) w')
    (ho:o.op=.alloc t:=by rfl) (hw:Region.wanted o (yielded ops a.tmps)=true:=by kernel_rfl):WL ops Q (o :: rest) a w:=
  wp_runW _ _ (exec_alloc t ho cs hz) hw (h _ _ (HF.out.alloc t cs))
theorem rW (new:List Value) (vs:List Value) (HF:Hid (Kr K w0 w s l)) (i k:Nat) {t:TypeId} {v:Value} (hv:v.cells=vs.toArray) (hs:(Tryz.prog.info? t).map (·.size)=some vs.length) (h1:∀ x∈vs,x.oneCell'=true) {g:Nat} {Tb:TypeId} (cur:List Value) (hi:l[i]?=some (g,Tb,cur.toArray))
    (h:∀ w',Hid (Kr K w0 w' s (l.set i (g,Tb,new.toArray)))→WL ops Q rest (a.put o.dst undef) w') {x y:Operand}
    (ho:o.op=.store t x y:=by rfl) (hx:a.eval x=.pointer (some ⟨g,k,none⟩):=by kernel_rfl) (hy:a.eval y=v:=by kernel_rfl) (hl:k+vs.length≤cur.length:=by exact Nat.le_of_ble_eq_true (by kernel_rfl)) (hn:putL cur k vs=new:=by kernel_rfl)
    (hw:Region.wanted o (yielded ops a.tmps)=true:=by kernel_rfl):WL ops Q (o :: rest) a w:=
  wp_storeW t x y ho ⟨g,k,none⟩ v hx hy _ (run_store_to (HF.out.fq.box i g Tb _ hi) hv hs hl h1 hn) hw (h _ (HF.out.set i hi _))
theorem rC (v:Value) (s':Wi.RS × Bool) {f:FuncId} {args:Array Value} (HF:Hid (Kr K w0 w s l)) (hc:K.St w s→Calls Tryz.prog f args w (K.Got w v s'))
    (h:∀ w',Hid (Kr K w0 w' s' l)→WL ops Q rest (a.put o.dst v) w')
    (hrun:(execOp a.eval o).run Tryz.prog w=.ok (.enter f args) w:=by kernel_rfl) (hw:Region.wanted o (yielded ops a.tmps)=true:=by kernel_rfl):WL ops Q (o :: rest) a w:=
  wp_callW f args hrun _ (hc HF.out.st) hw (by rintro e w' hg;exact ⟨v,hg.1,h w' (HF.out.call hg)⟩)
end
section
variable {ops:Array Oper} {a:Act} {w:World} {Q:Exit→Act→World→Prop} {md:Region.Mode} {K:Src} {w0:World} {s s':Wi.RS × Bool} {lA lB:List (Nat × TypeId × Array Value)} {fuel:Nat} {listed:Array Bool}
theorem qT (i d:Nat) (HG:Hid (Kr K w0 w s (lA++lB))) {v:Value} (hy:∀ w,Hid (Ex K w0 lA w)→(execOp a.eval (opA ops i)).run Tryz.prog w=.ok (.value v) w)
    (h:wpAnyH Tryz.prog md ops Q (fun w'=>Hid (Ex K w0 lA w')) fuel (listed.setIfInBounds i true) (a.put (some d) v) w)
    (hi:ops[i]?=some (opA ops i):=by kernel_rfl) (hd:(opA ops i).dst=some d:=by kernel_rfl) (hs:Region.noSelect ops=true:=by kernel_rfl) (hf:Region.free md ops listed i=true:=by kernel_rfl) (hr:(Region.ready md ops listed).contains i=true:=by kernel_rfl)
    (hQ:∀ c a w,Q (.panic c) (a.put (some d) v) w→Q (.panic c) a w:=by exact fun _ _ _ h=>h) (hw:Region.wanted (opA ops i) (yielded ops a.tmps)=true:=by kernel_rfl):wpAnyH Tryz.prog md ops Q (fun w'=>Hid (Ex K w0 lA w')) (fuel+1) listed a w:=
  any_take hi hs hf hr (by rw [hd];exact hQ) hw hy ⟨s,HG.out.front⟩ (by rw [hd];exact h)
theorem qK (i d:Nat) (HG:Hid (Kr K w0 w s (lA++lB))) (v:Value)
    (h:wpAnyH Tryz.prog md ops Q (fun w'=>Hid (Ex K w0 lA w')) fuel (listed.setIfInBounds i true) (a.put (some d) v) w) (hy:∀ w,(execOp a.eval (opA ops i)).run Tryz.prog w=.ok (.value v) w:=by intro _;kernel_rfl)
    (hi:ops[i]?=some (opA ops i):=by kernel_rfl) (hd:(opA ops i).dst=some d:=by kernel_rfl) (hs:Region.noSelect ops=true:=by kernel_rfl) (hf:Region.free md ops listed i=true:=by kernel_rfl) (hr:(Region.ready md ops listed).contains i=true:=by kernel_rfl)
    (hQ:∀ c a w,Q (.panic c) (a.put (some d) v) w→Q (.panic c) a w:=by exact fun _ _ _ h=>h) (hw:Region.wanted (opA ops i) (yielded ops a.tmps)=true:=by kernel_rfl):wpAnyH Tryz.prog md ops Q (fun w'=>Hid (Ex K w0 lA w')) (fuel+1) listed a w:=
  qT i d HG (fun w _=>hy w) h hi hd hs hf hr hQ hw
theorem qC (i d:Nat) (v:Value) (s':Wi.RS × Bool) {f:FuncId} {args:Array Value} (HG:Hid (Kr K w0 w s (lA++lB))) (hc:K.St w s→Calls Tryz.prog f args w (K.Got w v s'))
    (h:∀ w',Hid (Kr K w0 w' s' (lA++lB))→wpAnyH Tryz.prog md ops Q (fun w'=>Hid (Ex K w0 lA w')) fuel (listed.setIfInBounds i true) (a.put (some d) v) w')
    (hi:ops[i]?=some (opA ops i):=by kernel_rfl) (hd:(opA ops i).dst=some d:=by kernel_rfl) (hr:Region.ready md ops listed=[i]:=by kernel_rfl) (hrun:(execOp a.eval (opA ops i)).run Tryz.prog w=.ok (.enter f args) w:=by kernel_rfl) (hw:Region.wanted (opA ops i) (yielded ops a.tmps)=true:=by kernel_rfl):wpAnyH Tryz.prog md ops Q (fun w'=>Hid (Ex K w0 lA w')) (fuel+1) listed a w:=
  any_call hi hr hw f args hrun _ (hc HG.out.st) (by rintro e w' hg;exact ⟨v,hg.1,⟨s',(HG.out.call hg).front⟩,fun _=>by rw [hd];exact h w' (HG.out.call hg)⟩)
theorem qW (i:Nat) (lA lB:List (Nat × TypeId × Array Value)) (HG:Hid (Kr K w0 w s (lA++lB))) (j k:Nat) {g:Nat} {Tb:TypeId} (cur new vs:List Value) (hj:lB[j]?=some (g,Tb,cur.toArray)) {t:TypeId} {v:Value} (hv:v.cells=vs.toArray) (hs:(Tryz.prog.info? t).map (·.size)=some vs.length) (h1:∀ x∈vs,x.oneCell'=true)
    (h:∀ w',Hid (Kr K w0 w' s (lA++lB.set j (g,Tb,new.toArray)))→wpAnyH Tryz.prog md ops Q (fun w'=>Hid (Ex K w0 lA w')) fuel (listed.setIfInBounds i true) a w')
    (ho:stA (opA ops i) a.eval=some (t,.pointer (some ⟨g,k,none⟩),v):=by kernel_rfl) (hi:ops[i]?=some (opA ops i):=by kernel_rfl) (hd:(opA ops i).dst=none:=by kernel_rfl) (hr:Region.ready md ops listed=[i]:=by kernel_rfl) (hl:k+vs.length≤cur.length:=by exact Nat.le_of_ble_eq_true (by kernel_rfl)) (hn:putL cur k vs=new:=by kernel_rfl)
    (hw:Region.wanted (opA ops i) (yielded ops a.tmps)=true:=by kernel_rfl):wpAnyH Tryz.prog md ops Q (fun w'=>Hid (Ex K w0 lA w')) (fuel+1) listed a w:=by
  have hj2:(lA++lB)[lA.length+j]?=some (g,Tb,cur.toArray):=by rw [List.getElem?_append_right (by omega),Nat.add_sub_cancel_left];exact hj
  have H2:=HG.out.set _ hj2 new.toArray
  rw [List.set_append_right _ _ (by omega),Nat.add_sub_cancel_left] at H2
  unfold stA at ho
  split at ho
  · rename_i t' x y hx
    obtain ⟨rfl,h2⟩:=Prod.mk.inj (Option.some.inj ho)
    obtain ⟨h4,h5⟩:=Prod.mk.inj h2
    exact any_store hi hr hw _ x y hx ⟨g,k,none⟩ v h4 h5 (run_store_to (HG.out.fq.box _ g Tb _ hj2) hv hs hl h1 hn) (show Hid _ from ⟨s,H2.front⟩) (fun _=>by rw [hd];exact h _ H2)
  · cases ho
theorem zQ {o:Oper} {t:TypeId} {d:TypeDesc} (hu:Tryz.prog.underlying t=some d) (hl:ldA o a.eval=some (t,.pointer (some ⟨K.pb,0,none⟩)):=by kernel_rfl) (hd:(match d with | .struct _ | .array _ _=>true | _=>false)=false:=by kernel_rfl) :
    ∀ w,Hid (Ex K w0 lA w)→(execOp a.eval o).run Tryz.prog w=.ok (.value (.pointer (some ⟨K.pg,0,none⟩))) w:=fun w HE=>by
  obtain ⟨s,h⟩:=HE
  exact exL (load_one (K.pt h.st) hu hd) hl
theorem qN (HF:Hid (Kr K w0 w s (lA++lB))):Hid (Ex K w0 lA w.drew):=⟨s,(HF.out.no (Kept.refl No _).drew).front⟩
end
def rdSrc (r g lb:Nat):Src where
  pb:=r
  pg:=g
  In:=fun k=>k=r∨k=g∨k=lb
  Wr:=fun k=>k=r∨k=g
  sub:=fun k e=>e.elim .inl (fun e=>.inr (.inl e))
  St:=fun w s=>Wi.RdM w w r g lb s.2 s.1
  lt:=fun h k e=>by
    rcases e with rfl | rfl | rfl
    · exact h.ltr
    · exact h.ltg
    · exact h.ltl
  far:=fun {w w' s S} h hk hS=>⟨h.box.kept (wkS hk) (fun e=>hS _ e (.inl rfl)),h.rs.kept (wkS hk) (fun e=>hS _ e (.inr (.inl rfl))) (fun e=>hS _ e (.inr (.inr rfl))),h.rg,h.rl,Nat.lt_of_lt_of_le h.ltl hk.size,Wi.Kept.refl _ _⟩
  pt:=fun h=>h.c0
def tS (st:Wi.RS):Wi.RS:=(Wi.bytesS st).1
def tV (st:Wi.RS):List Int:=(Wi.bytesS st).2
abbrev stV (st:Wi.RS):Sp:=⟨Wi.nV st,Wi.nV (Wi.nS st)⟩
abbrev fiV (st:Wi.RS):Fi:=⟨Wi.nV st,Wi.nV (Wi.nS st)⟩
def cm6 (st:Wi.RS):Wi.RS:=Wi.aS (Wi.aS (tS (Wi.nS (Wi.nS (Wi.nS st)))))
def cmW (st:Wi.RS):Cm:=⟨Wi.nV st,Wi.nV (Wi.nS st),Wi.nV (Wi.nS (Wi.nS st)),Wi.strOf (tV (Wi.nS (Wi.nS (Wi.nS st)))),Wi.nV (tS (Wi.nS (Wi.nS (Wi.nS st)))),Wi.nV (Wi.nS (tS (Wi.nS (Wi.nS (Wi.nS st))))),
  Wi.nV (Wi.aS (tS (Wi.nS (Wi.nS (Wi.nS st))))),Wi.nV (Wi.nS (Wi.aS (tS (Wi.nS (Wi.nS (Wi.nS st)))))),Wi.nV (cm6 st)⟩
def cmV (st:Wi.RS):Cm:=bif Wi.nV st==0 then cZ else cmW st
def cmS (st:Wi.RS):Wi.RS:=bif Wi.nV st==0 then Wi.nS st else Wi.nS (cm6 st)
section
variable {r g lb:Nat} {st:Wi.RS} {odd:Bool} {w:World}
theorem rdGot {f:FuncId} {args:Array Value} {v:Value} {st':Wi.RS} {odd':Bool} {P:World→Prop} (hc:Calls Tryz.prog f args w fun e w'=>e=.returned v∧Wi.RdM w w' r g lb odd' st'∧P w'):Calls Tryz.prog f args w ((rdSrc r g lb).Got w v (st',odd')):=
  hc.mono (by rintro e w' ⟨rfl,h1,_⟩;exact ⟨rfl,h1.anew,kwS h1.kept⟩)
theorem p_Num (h:(rdSrc r g lb).St w (st,odd)):Calls Tryz.prog 102 #[.pointer (some ⟨g,0,none⟩)] w ((rdSrc r g lb).Got w (.int .i64 (Wi.nV st)) (Wi.nS st,odd)):=rdGot h.num
theorem p_rflag (h:(rdSrc r g lb).St w (st,odd)):Calls Tryz.prog 90 #[.pointer (some ⟨r,0,none⟩)] w ((rdSrc r g lb).Got w (.bool (Wi.fV st)) (Wi.nS st,Wi.fO odd st)):=rdGot h.flag
theorem p_rstamp (h:(rdSrc r g lb).St w (st,odd)):Calls Tryz.prog 82 #[.pointer (some ⟨r,0,none⟩)] w ((rdSrc r g lb).Got w (.agg (Sp.cells (stV st))) (Wi.aS st,odd)):=rdGot h.stamp
theorem p_rfile (h:(rdSrc r g lb).St w (st,odd)):Calls Tryz.prog 101 #[.pointer (some ⟨r,0,none⟩)] w ((rdSrc r g lb).Got w (.agg (Fi.cells (fiV st))) (Wi.aS st,odd)):=rdGot h.file
theorem p_Text (h:(rdSrc r g lb).St w (st,odd)):Calls Tryz.prog 100 #[.pointer (some ⟨g,0,none⟩)] w ((rdSrc r g lb).Got w (.string (Wi.strOf (tV st))) (tS st,odd)):=by
  refine (Wi.Text_all g lb st w h.rs).mono ?_
  rintro e w' ⟨rfl,h1,h2⟩
  exact ⟨rfl,⟨h.box.kept h2 (fun e=>h.rg e),h1,h.rg,h.rl,Nat.lt_of_lt_of_le h.ltl h2.size,Wi.Kept.refl _ _⟩,(kwS h2).mono (fun k _ e=>.inr e)⟩
end
section
variable {ops:Array Oper} {rest:List Oper} {o:Oper} {a:Act} {w:World} {Q:Exit→Act→World→Prop} {K:Src} {w0:World} {s s':Wi.RS × Bool} {l:List (Nat × TypeId × Array Value)}
end
section
variable {i g:Nat} {ba:Option Addr} {bc:Nat} {bs:List Int} {st:Wi.RS} {w:World}
end
section
variable {a:Act} {K:Src} {w0:World} {lA:List (Nat × TypeId × Array Value)}
theorem zBd {o:Oper} (t:TypeId) (cs:Array Value) (hl:buA o a.eval=some (t,some cs):=by kernel_rfl):∀ w,Hid (Ex K w0 lA w)→(execOp a.eval o).run Tryz.prog w=.ok (.value (.agg cs)) w:=fun w _=>
  zU (S:=fun _=>True) (w0:=w) (l:=[]) t cs hl w (Fq.start _ _)
end
theorem U137:Tryz.prog.underlying 137=some (.pointer 190):=by kernel_rfl
theorem U136:Tryz.prog.underlying 136=some (.pointer 140):=by kernel_rfl
section
variable {r g lb:Nat} {st:Wi.RS} {odd:Bool} {w:World}
set_option maxRecDepth 100000 in
set_option maxHeartbeats 4000000 in
theorem p_rcommand (h:(rdSrc r g lb).St w (st,odd)):Calls Tryz.prog 89 #[.pointer (some ⟨r,0,none⟩)] w ((rdSrc r g lb).Got w (.agg (Cm.cells (cmV st))) ((cmS st,odd))):=by
  refine hidC fun C HC=>?_;have HF:Hid (Kr (rdSrc r g lb) w w (st,odd) []):=Kr.start h;clear h;go_enter Tryz.func89,Tryz.ntmps89;go_upto_region 0 with fail;refine Sg<|rA (Cm.cells cZ) Z45 HF fun g1 w2 HF=>?_;simp only[pS];refine Nl ?_;(try simp only[pS]);go_upto_region 1 with fail;refine Sg<|tK (pg r 0)<|tK (pg r 0)<|tK (pg r 0)<|lR (load_one (Src.pt _ HF.out.st) U137 rfl)<|rC _ _ HF (fun h=>p_Num h) fun w3 HF=>tK (.int .i64 (Wi.nV st))<|Nl ?_;simp only[pS];go_upto_region 2 with fail;refine Sg<|tK (.int .i64 (Wi.nV st))<|?_;simp only[pS];cases q1:((Wi.nV st)==0);rotate_left
  ·refine bN (eI q1)<|Nl ?_;simp only[pS];go_upto_region 3 with fail;refine Sg<|bD (Cm.cells cZ)<|rW (Cm.cs cZ) (Cm.cs cZ) HF 0 0 (v:=.agg (Cm.cells cZ)) rfl S45 (Cm.oneL _) (Cm.cs cZ) rfl fun w12 HF=>?_;simp only[pS];refine Nl ?_;(try simp only[pS]);have e1:cmV st=cZ:=by unfold cmV;rw [q1];rfl
   have e2:cmS st=Wi.nS st:=by unfold cmS;rw [q1];rfl
   rw [e1,e2] at HC;go_wp2;rw [HC.out];refine bodyPost_ret (results_row1 (by rfl) _ _ g1 _ (by rfl) (run_load_part (HF.out.fq.box 0 _ _ _ rfl) (Part.all _) U45 rfl S45)) rfl ?_;exact HF.out.got _
  refine bN (eI q1)<|Nl ?_;simp only[pS];go_upto_region 4 with fail;refine wp_region_held_drew (S:=fun w'=>Hid (Ex (rdSrc r g lb) w [] w')) rfl (qN (lA:=[]) (lB:=[(g1,45,Cm.cells cZ)]) HF) (fun _=>?_);have HG:Hid (Kr (rdSrc r g lb) w w3.drew (Wi.nS st,odd) ([]++[(g1,45,Cm.cells cZ)])):=HF.out.no (Kept.refl No _).drew;clear HF;generalize w3.drew=w4 at HG ⊢;refine qK 0 12 HG (.int .i64 (Wi.nV st))<|qK 1 13 HG (.pointer (some ⟨r,0,none⟩))<|qK 2 14 HG (.pointer (some ⟨r,0,none⟩))<|qK 3 15 HG (.pointer (some ⟨r,0,none⟩))<|qT 4 16 HG (zQ U137)<|qK 6 18 HG (.pointer (some ⟨r,0,none⟩))<|qK 7 19 HG (.pointer (some ⟨r,0,none⟩))<|qK 8 20 HG (.pointer (some ⟨r,0,none⟩))<|?_;(try simp only[pS]);refine qT 9 21 HG (zQ U137)<|qK 11 23 HG (.pointer (some ⟨r,0,none⟩))<|qK 12 24 HG (.pointer (some ⟨r,0,none⟩))<|qK 13 25 HG (.pointer (some ⟨r,0,none⟩))<|qT 14 26 HG (zQ U137)<|qK 16 28 HG (.pointer (some ⟨r,0,none⟩))<|qK 18 30 HG (.pointer (some ⟨r,0,none⟩))<|qK 20 32 HG (.pointer (some ⟨r,0,none⟩))<|?_;(try simp only[pS]);refine qK 21 33 HG (.pointer (some ⟨r,0,none⟩))<|qK 22 34 HG (.pointer (some ⟨r,0,none⟩))<|qT 23 35 HG (zQ U137)<|?_;(try simp only[pS]);refine qC 5 17 _ _ HG (fun h=>p_Num h) fun w5 HG=>?_;(try simp only[pS]);refine qC 10 22 _ _ HG (fun h=>p_Num h) fun w6 HG=>?_;(try simp only[pS]);refine qC 15 27 _ _ HG (fun h=>p_Text h) fun w7 HG=>?_;(try simp only[pS]);refine qC 17 29 _ _ HG (fun h=>p_rfile h) fun w8 HG=>?_;(try simp only[pS]);refine qC 19 31 _ _ HG (fun h=>p_rfile h) fun w9 HG=>?_;(try simp only[pS]);refine qC 24 36 _ _ HG (fun h=>p_Num h) fun w10 HG=>?_;(try simp only[pS]);refine qT 25 37 HG (v:=.agg (Cm.cells ⟨(Wi.nV st),(Wi.nV (Wi.nS st)),(Wi.nV (Wi.nS (Wi.nS st))),(Wi.strOf (tV (Wi.nS (Wi.nS (Wi.nS st))))),((fiV (tS (Wi.nS (Wi.nS (Wi.nS st))))).c),((fiV (tS (Wi.nS (Wi.nS (Wi.nS st))))).o),((fiV (Wi.aS (tS (Wi.nS (Wi.nS (Wi.nS st)))))).c),((fiV (Wi.aS (tS (Wi.nS (Wi.nS (Wi.nS st)))))).o),(Wi.nV (Wi.aS (Wi.aS (tS (Wi.nS (Wi.nS (Wi.nS st)))))))⟩)) (zBd 45 (Cm.cells ⟨(Wi.nV st),(Wi.nV (Wi.nS st)),(Wi.nV (Wi.nS (Wi.nS st))),(Wi.strOf (tV (Wi.nS (Wi.nS (Wi.nS st))))),((fiV (tS (Wi.nS (Wi.nS (Wi.nS st))))).c),((fiV (tS (Wi.nS (Wi.nS (Wi.nS st))))).o),((fiV (Wi.aS (tS (Wi.nS (Wi.nS (Wi.nS st)))))).c),((fiV (Wi.aS (tS (Wi.nS (Wi.nS (Wi.nS st)))))).o),(Wi.nV (Wi.aS (Wi.aS (tS (Wi.nS (Wi.nS (Wi.nS st)))))))⟩))<|?_;(try simp only[pS]);refine qW 26 [] [(g1,45,Cm.cells cZ)] HG 0 0 (Cm.cs cZ) (Cm.cs ⟨(Wi.nV st),(Wi.nV (Wi.nS st)),(Wi.nV (Wi.nS (Wi.nS st))),(Wi.strOf (tV (Wi.nS (Wi.nS (Wi.nS st))))),((fiV (tS (Wi.nS (Wi.nS (Wi.nS st))))).c),((fiV (tS (Wi.nS (Wi.nS (Wi.nS st))))).o),((fiV (Wi.aS (tS (Wi.nS (Wi.nS (Wi.nS st)))))).c),((fiV (Wi.aS (tS (Wi.nS (Wi.nS (Wi.nS st)))))).o),(Wi.nV (Wi.aS (Wi.aS (tS (Wi.nS (Wi.nS (Wi.nS st)))))))⟩) (Cm.cs ⟨(Wi.nV st),(Wi.nV (Wi.nS st)),(Wi.nV (Wi.nS (Wi.nS st))),(Wi.strOf (tV (Wi.nS (Wi.nS (Wi.nS st))))),((fiV (tS (Wi.nS (Wi.nS (Wi.nS st))))).c),((fiV (tS (Wi.nS (Wi.nS (Wi.nS st))))).o),((fiV (Wi.aS (tS (Wi.nS (Wi.nS (Wi.nS st)))))).c),((fiV (Wi.aS (tS (Wi.nS (Wi.nS (Wi.nS st)))))).o),(Wi.nV (Wi.aS (Wi.aS (tS (Wi.nS (Wi.nS (Wi.nS st)))))))⟩) rfl (v:=.agg (Cm.cells ⟨(Wi.nV st),(Wi.nV (Wi.nS st)),(Wi.nV (Wi.nS (Wi.nS st))),(Wi.strOf (tV (Wi.nS (Wi.nS (Wi.nS st))))),((fiV (tS (Wi.nS (Wi.nS (Wi.nS st))))).c),((fiV (tS (Wi.nS (Wi.nS (Wi.nS st))))).o),((fiV (Wi.aS (tS (Wi.nS (Wi.nS (Wi.nS st)))))).c),((fiV (Wi.aS (tS (Wi.nS (Wi.nS (Wi.nS st)))))).o),(Wi.nV (Wi.aS (Wi.aS (tS (Wi.nS (Wi.nS (Wi.nS st)))))))⟩)) rfl S45 (Cm.oneL _) fun w11 HG=>?_;(try simp only[pS]);refine wpAnyH_done (by kernel_rfl) ?_ _;(try simp only[pS]);have HF:Hid (Kr (rdSrc r g lb) w w11 (Wi.nS (Wi.aS (Wi.aS (tS (Wi.nS (Wi.nS (Wi.nS st)))))),odd) [(g1,45,Cm.cells ⟨(Wi.nV st),(Wi.nV (Wi.nS st)),(Wi.nV (Wi.nS (Wi.nS st))),(Wi.strOf (tV (Wi.nS (Wi.nS (Wi.nS st))))),((fiV (tS (Wi.nS (Wi.nS (Wi.nS st))))).c),((fiV (tS (Wi.nS (Wi.nS (Wi.nS st))))).o),((fiV (Wi.aS (tS (Wi.nS (Wi.nS (Wi.nS st)))))).c),((fiV (Wi.aS (tS (Wi.nS (Wi.nS (Wi.nS st)))))).o),(Wi.nV (Wi.aS (Wi.aS (tS (Wi.nS (Wi.nS (Wi.nS st)))))))⟩)]):=HG;clear HG;have e1:cmV st=cmW st:=by unfold cmV;rw [q1];rfl
  have e2:cmS st=Wi.nS (cm6 st):=by unfold cmS;rw [q1];rfl
  rw [e1,e2] at HC;go_wp2;rw [HC.out];refine bodyPost_ret (results_row1 (by rfl) _ _ g1 _ (by rfl) (run_load_part (HF.out.fq.box 0 _ _ _ rfl) (Part.all _) U45 rfl S45)) rfl ?_;exact HF.out.got _
end
section
variable {i g:Nat} {ba:Option Addr} {bc:Nat} {bs:List Int} {st:Wi.RS} {w:World}
end
def inV (st:Wi.RS):In:=⟨stV st,stV (Wi.aS st),cmV (Wi.aS (Wi.aS st)),Wi.fV (cmS (Wi.aS (Wi.aS st)))⟩
def inS (st:Wi.RS):Wi.RS:=Wi.nS (cmS (Wi.aS (Wi.aS st)))
theorem Z47:(Tryz.prog.info? 47).bind (·.zero)=some (.agg (In.cells inZ')):=by kernel_rfl
section
variable {r g lb:Nat} {st:Wi.RS} {odd:Bool} {w:World}
set_option maxRecDepth 100000 in
set_option maxHeartbeats 4000000 in
theorem p_rinst (h:(rdSrc r g lb).St w (st,odd)):Calls Tryz.prog 45 #[.pointer (some ⟨r,0,none⟩)] w ((rdSrc r g lb).Got w (.agg (In.cells (inV st))) ((inS st,Wi.fO odd (cmS (Wi.aS (Wi.aS st)))))):=by
  refine hidC fun C HC=>?_;have HF:Hid (Kr (rdSrc r g lb) w w (st,odd) []):=Kr.start h;clear h;go_enter Tryz.func45,Tryz.ntmps45;go_upto_region 0 with fail;refine Sg<|rA (In.cells inZ') Z47 HF fun g1 w2 HF=>?_;simp only[pS];refine Nl ?_;(try simp only[pS]);go_upto_region 1 with fail;refine Sg<|tK (pg r 0)<|rC _ _ HF (fun h=>p_rstamp h) fun w3 HF=>tK (pg r 0)<|rC _ _ HF (fun h=>p_rstamp h) fun w4 HF=>tK (pg r 0)<|rC _ _ HF (fun h=>p_rcommand h) fun w5 HF=>tK (pg r 0)<|rC _ _ HF (fun h=>p_rflag h) fun w6 HF=>bD (In.cells ⟨(stV st),(stV (Wi.aS st)),(cmV (Wi.aS (Wi.aS st))),(Wi.fV (cmS (Wi.aS (Wi.aS st))))⟩)<|rW (In.cs ⟨(stV st),(stV (Wi.aS st)),(cmV (Wi.aS (Wi.aS st))),(Wi.fV (cmS (Wi.aS (Wi.aS st))))⟩) (In.cs ⟨(stV st),(stV (Wi.aS st)),(cmV (Wi.aS (Wi.aS st))),(Wi.fV (cmS (Wi.aS (Wi.aS st))))⟩) HF 0 0 (v:=.agg (In.cells ⟨(stV st),(stV (Wi.aS st)),(cmV (Wi.aS (Wi.aS st))),(Wi.fV (cmS (Wi.aS (Wi.aS st))))⟩)) rfl S47 (In.oneL _) (In.cs inZ') rfl fun w7 HF=>?_;simp only[pS];refine Nl ?_;(try simp only[pS]);go_wp2;rw [HC.out];refine bodyPost_ret (results_row1 (by rfl) _ _ g1 _ (by rfl) (run_load_part (HF.out.fq.box 0 _ _ _ rfl) (Part.all _) U47 rfl S47)) rfl ?_;exact HF.out.got _
end
theorem vint_ne0 {u:Nat} (h:1 < u):Wi.vint u≠[0]:=by
  intro e
  by_cases h2:u < 128
  · rw [Wi.vint_lo h2] at e;simp at e;omega
  · rw [Wi.vint_hi h2] at e;simp at e;omega
def uR:Wi.RS→Prop
  | .ok zs _=>Wi.U8 zs
  | .bad _ c=>c≠0
def Took (st:Wi.RS) (L:List It) (st':Wi.RS):Prop:=uR st→uR st'∧∀ zs' a',st'=.ok zs' a'→∃ zs a,st=.ok zs a∧zs=encB L++zs'
theorem encB_app (A B:List It):encB (A++B)=encB A++encB B:=by simp [encB]
theorem Took.nil (st:Wi.RS):Took st [] st:=fun h=>⟨h,fun zs' a' e=>⟨zs',a',e,by simp [encB]⟩⟩
theorem Took.trans {st s1 s2:Wi.RS} {A B:List It} (h1:Took st A s1) (h2:Took s1 B s2):Took st (A++B) s2:=fun h=>by
  obtain ⟨u1,k1⟩:=h1 h
  obtain ⟨u2,k2⟩:=h2 u1
  refine ⟨u2,fun zs' a' e=>?_⟩
  obtain ⟨z1,a1,e1,rfl⟩:=k2 zs' a' e
  obtain ⟨z0,a0,e0,rfl⟩:=k1 _ a1 e1
  exact ⟨_,a0,e0,by rw [encB_app,List.append_assoc]⟩
theorem took_n (st:Wi.RS):Took st [It.n (Wi.nV st)] (Wi.nS st):=fun h=>by
  cases st with
  | bad p c=>exact ⟨h,fun zs' a' e=>by cases e⟩
  | ok zs a=>
    have h8:Wi.U8 zs:=h
    cases hq:Wi.nr zs with
    | error c=>
      have e1:Wi.nS (.ok zs a)=.bad a c:=by simp only[Wi.nS,Wi.numS,hq]
      rw [e1]
      exact ⟨by show c≠0;rcases Wi.nr_code hq with rfl | rfl <;> decide,fun zs' a' e=>by cases e⟩
    | ok q=>
      obtain ⟨u,k⟩:=q
      have e1:Wi.nS (.ok zs a)=.ok (zs.drop k) (a+k):=by simp only[Wi.nS,Wi.numS,hq]
      have e2:Wi.nV (.ok zs a)=(u:Int):=by simp only[Wi.nV,Wi.numS,hq]
      rw [e1,e2]
      refine ⟨h8.drop k,fun zs' a' e=>⟨zs,a,rfl,?_⟩⟩
      injection e with e1 _
      subst e1
      have hv:Wi.vr zs=.ok (u,k):=by
        unfold Wi.nr at hq
        split at hq
        · cases hq
        · rename_i u' k' hv
          split at hq
          · cases hq
          · simp only[Except.ok.injEq,Prod.mk.injEq] at hq
            obtain ⟨rfl,rfl⟩:=hq
            exact hv
      have hf:=Wi.vr_form h8 hv
      have:encB [It.n ((u:Nat):Int)]=Wi.vint u:=by simp [encB,encIt]
      rw [this,← hf,List.take_append_drop]
theorem took_t (st:Wi.RS):Took st [It.b (tV st)] (tS st):=fun h=>by
  cases st with
  | bad p c=>exact ⟨h,fun zs' a' e=>by cases e⟩
  | ok zs a=>
    have h8:Wi.U8 zs:=h
    cases hq:Wi.cr zs with
    | error c=>
      have e1:tS (.ok zs a)=.bad a c:=by simp only[tS,Wi.bytesS,hq]
      rw [e1]
      exact ⟨by show c≠0;rcases Wi.cr_code hq with rfl | rfl <;> decide,fun zs' a' e=>by cases e⟩
    | ok q=>
      obtain ⟨n,k⟩:=q
      have e1:tS (.ok zs a)=.ok (zs.drop (k+n)) (a+(k+n)):=by simp only[tS,Wi.bytesS,hq]
      have e2:tV (.ok zs a)=(zs.drop k).take n:=by simp only[tV,Wi.bytesS,hq]
      rw [e1,e2]
      refine ⟨h8.drop _,fun zs' a' e=>⟨zs,a,rfl,?_⟩⟩
      injection e with e1 _
      subst e1
      have hn:Wi.nr zs=.ok (n,k)∧n≤zs.length - k:=by
        unfold Wi.cr at hq
        split at hq
        · cases hq
        · rename_i n' k' hv
          split at hq
          · cases hq
          · rename_i hlt
            simp only[Except.ok.injEq,Prod.mk.injEq] at hq
            obtain ⟨rfl,rfl⟩:=hq
            exact ⟨hv,by omega⟩
      have hv:Wi.vr zs=.ok (n,k):=by
        have hq:=hn.1
        unfold Wi.nr at hq
        split at hq
        · cases hq
        · rename_i u' k' hv
          split at hq
          · cases hq
          · simp only[Except.ok.injEq,Prod.mk.injEq] at hq
            obtain ⟨rfl,rfl⟩:=hq
            exact hv
      have hf:=Wi.vr_form h8 hv
      have hl:((zs.drop k).take n).length=n:=by rw [List.length_take,List.length_drop];omega
      have:encB [It.b ((zs.drop k).take n)]=Wi.vint n++(zs.drop k).take n:=by simp only[encB,encIt,List.map_cons,List.map_nil,List.flatten_cons,List.flatten_nil,List.append_nil,hl]
      rw [this,← hf,List.append_assoc,← List.drop_drop,List.take_append_drop,List.take_append_drop]
theorem tV_u8 {st:Wi.RS} (h:uR st):Wi.U8 (tV st):=by
  cases st with
  | bad p c=>exact Wi.U8.nil
  | ok zs a=>
    have h8:Wi.U8 zs:=h
    cases hq:Wi.cr zs with
    | error c=>
      have e2:tV (.ok zs a)=[]:=by simp only[tV,Wi.bytesS,hq]
      rw [e2];exact Wi.U8.nil
    | ok q=>
      obtain ⟨n,k⟩:=q
      have e2:tV (.ok zs a)=(zs.drop k).take n:=by simp only[tV,Wi.bytesS,hq]
      rw [e2];exact (h8.drop _).take _
theorem took_x (st:Wi.RS):Took st [It.b (Wi.numsOf (Wi.strOf (tV st)))] (tS st):=fun h=>by
  have:=took_t st h
  rw [Wi.numsOf_strOf (tV_u8 h)]
  exact this
theorem took_2 (st:Wi.RS):Took st [It.n (Wi.nV st),It.n (Wi.nV (Wi.nS st))] (Wi.aS st):=(took_n st).trans (took_n _)
theorem took_cm (st:Wi.RS):Took st (cmdIts (cmV st)) (cmS st):=by
  unfold cmV cmS cmdIts
  cases hk:(Wi.nV st==0)
  · simp only[cond_false]
    have:(cmW st).k=Wi.nV st:=rfl
    rw [this,hk]
    simp only[cond_false]
    exact (took_n st).trans<|(took_n _).trans<|(took_n _).trans<|(took_x _).trans<|(took_2 _).trans<|(took_2 _).trans (took_n _)
  · simp only[cond_true]
    have h0:Wi.nV st=0:=eq_of_beq hk
    have h1:=took_n st
    rw [h0] at h1
    exact h1
def blkS (st:Wi.RS):Wi.RS:=tS (Wi.aS st)
theorem took_blk (st:Wi.RS) (x:Bl) (h:x.s=stV st):Took st (blkIts x (tV (Wi.aS st))) (blkS st):=by
  unfold blkIts
  rw [h]
  exact (took_2 st).trans (took_t _)
def inRaw (st:Wi.RS):List It:=(([It.n (Wi.nV st),It.n (Wi.nV (Wi.nS st))]++[It.n (Wi.nV (Wi.aS st)),It.n (Wi.nV (Wi.nS (Wi.aS st)))])++cmdIts (cmV (Wi.aS (Wi.aS st))))
theorem took_in0 (st:Wi.RS):Took st (inRaw st) (cmS (Wi.aS (Wi.aS st))):=((took_2 st).trans (took_2 _)).trans (took_cm _)
theorem took_in (st:Wi.RS):Took st (inRaw st++[It.n (Wi.nV (cmS (Wi.aS (Wi.aS st))))]) (inS st):=(took_in0 st).trans (took_n _)
theorem four_num {zs:List Int} (h:Wi.U8 zs) (hl:4≤zs.length):Wi.fourOf (Wi.numOf zs)=zs.take 4:=by
  match zs,hl with
  | a :: b :: c :: d :: r,_=>
    have h0:=h 0
    have h1:=h 1
    have h2:=h 2
    have h3:=h 3
    simp at h0 h1 h2 h3
    unfold Wi.fourOf Wi.numOf
    simp
    omega
theorem open_form {ys:List Int} (h:Wi.U8 ys) (ho:(Wi.openOf ys).2=0):Wi.sealOf (Wi.openOf ys).1=ys∧(Wi.openOf ys).1.length≤131072:=by
  unfold Wi.openOf at ho ⊢
  split at ho
  · cases ho
  rename_i h1
  split at ho
  · cases ho
  rename_i h2
  split at ho
  · cases ho
  rename_i h3
  split at ho
  · cases ho
  rename_i h4
  split at ho
  · cases ho
  rename_i h5
  split at ho
  · cases ho
  rename_i h6
  have hb:=Wi.numOf_bd h
  obtain ⟨n,hn⟩:∃ n:Nat,Wi.numOf ys=n:=⟨(Wi.numOf ys).toNat,by omega⟩
  rw [if_neg h1,if_neg h2,if_neg h3,if_neg h4,if_neg h5,if_neg h6]
  simp only[Decidable.not_not] at h2 h6
  rw [hn] at h3 h4 h5 h6 ⊢
  simp only[Int.toNat_natCast] at h6 ⊢
  have hlen:ys.length=n+12:=by omega
  have hbl:((ys.drop 8).take n).length=n:=by rw [List.length_take,List.length_drop];omega
  have e1:Wi.fourOf (n:Int)=ys.take 4:=by rw [← hn];exact four_num h (by omega)
  have e2:Wi.fourOf (Wi.sumOf (ys.take 4))=(ys.drop 4).take 4:=by rw [← h2];exact four_num (h.drop 4) (by rw [List.length_drop];omega)
  have e3:Wi.headOf ((ys.drop 8).take n)=ys.take 8:=by
    unfold Wi.headOf
    rw [hbl,e1,e2]
    rw [show (8:Nat)=4+4 from rfl,List.take_add]
  have e4:ys.take 8++(ys.drop 8).take n=ys.take (n+8):=by rw [show n+8=8+n by omega,List.take_add]
  have e5:Wi.fourOf (Wi.sumOf (ys.take (n+8)))=ys.drop (n+8):=by
    rw [← h6,four_num (h.drop _) (by rw [List.length_drop];omega),List.take_of_length_le (by rw [List.length_drop];omega)]
  refine ⟨?_,by rw [hbl];omega⟩
  unfold Wi.sealOf
  rw [e3,e4,e5,List.take_append_drop]
theorem fin_eq {ys body:List Int} {L:List It} {st':Wi.RS} {R:Bool} (h8:Wi.U8 ys) (ho:(Wi.openOf ys).2=0) (hb:(Wi.openOf ys).1=body) (hT:Took (.ok body 0) L st') :
    (Wi.wholeB false st'&&R)=((Wi.errS st').2==0&&(!Wi.moreS st'&&(R&&decide (Wi.sealOf (encB L)=ys)))):=by
  have hf:=open_form h8 ho
  rw [hb] at hf
  have hu:Wi.U8 body:=by rw [← hb];unfold Wi.openOf;(repeat' split) <;> first | exact Wi.U8.nil | exact (h8.drop _).take _
  obtain ⟨u,k⟩:=hT hu
  cases st' with
  | bad p c=>
    have hc:c≠0:=u
    have e1:(c==0)=false:=beq_eq_false_iff_ne.2 hc
    simp [Wi.wholeB,Wi.endS,Wi.errS,e1,hc]
  | ok zs' a'=>
    obtain ⟨zs,a,e,hz⟩:=k zs' a' rfl
    injection e with e1 _
    subst e1
    cases zs' with
    | nil=>
      rw [List.append_nil] at hz
      rw [← hz,hf.1]
      simp [Wi.wholeB,Wi.endS,Wi.errS,Wi.moreS]
    | cons z r=>simp [Wi.wholeB,Wi.endS,Wi.errS,Wi.moreS]
theorem nV_pos (st:Wi.RS):0≤Wi.nV st:=by
  cases st with
  | bad p c=>exact Int.le_refl 0
  | ok zs a=>
    cases hq:Wi.nr zs with
    | error c=>
      have e2:Wi.nV (.ok zs a)=0:=by simp only[Wi.nV,Wi.numS,hq]
      rw [e2];omega
    | ok q=>
      have e2:Wi.nV (.ok zs a)=((q.1:Nat):Int):=by simp only[Wi.nV,Wi.numS,hq]
      rw [e2];omega
theorem fin_ins {ys body:List Int} {R:Bool} (h8:Wi.U8 ys) (ho:(Wi.openOf ys).2=0) (hb:(Wi.openOf ys).1=body) (hR:R=true→okL (insIts (inV (.ok body 0)))∧itsLen (insIts (inV (.ok body 0)))≤131072) :
    (Wi.wholeB (Wi.fO false (cmS (Wi.aS (Wi.aS (.ok body 0))))) (inS (.ok body 0))&&R)=((Wi.errS (inS (.ok body 0))).2==0&&(!Wi.moreS (inS (.ok body 0))&&(R&&decide (Wi.sealOf (encB (insIts (inV (.ok body 0))))=ys)))):=by
  have hT:=took_in (.ok body 0)
  have hu:Wi.U8 body:=by rw [← hb];unfold Wi.openOf;(repeat' split) <;> first | exact Wi.U8.nil | exact (h8.drop _).take _
  obtain ⟨v,hv⟩:∃ v,Wi.nV (cmS (Wi.aS (Wi.aS (.ok body 0))))=v:=⟨_,rfl⟩
  have hi:insIts (inV (.ok body 0))=inRaw (.ok body 0)++[It.n (bif decide (v=1) then 1 else 0)]:=by
    unfold insIts inV inRaw Wi.fV
    rw [hv]
  have hO:Wi.fO false (cmS (Wi.aS (Wi.aS (.ok body 0))))=decide (v > 1):=by unfold Wi.fO;rw [hv];rfl
  have hv0:0≤v:=by
    rw [← hv];exact nV_pos _
  rw [hv] at hT
  by_cases h1:v > 1
  · have e1:decide (v > 1)=true:=decide_eq_true h1
    have e2:decide (v=1)=false:=decide_eq_false (by omega)
    rw [hO,e1]
    have hl:Wi.wholeB true (inS (.ok body 0))=false:=by simp [Wi.wholeB]
    rw [hl,Bool.false_and]
    symm
    cases hq:((Wi.errS (inS (.ok body 0))).2==0&&(!Wi.moreS (inS (.ok body 0))&&(R&&decide (Wi.sealOf (encB (insIts (inV (.ok body 0))))=ys)))) with
    | false=>rfl
    | true=>
      exfalso
      rw [Bool.and_eq_true,Bool.and_eq_true,Bool.and_eq_true] at hq
      obtain ⟨q1,q2,q3,q4⟩:=hq
      have q5:=of_decide_eq_true q4
      obtain ⟨hok,hlen⟩:=hR q3
      have h3:=encB_len hok
      have h4:=Wi.open_seal (encB (insIts (inV (.ok body 0)))) (by omega)
      rw [q5] at h4
      have h5:body=encB (insIts (inV (.ok body 0))):=hb.symm.trans (congrArg Prod.fst h4)
      obtain ⟨u,k⟩:=hT hu
      cases hs:inS (.ok body 0) with
      | bad p c=>rw [hs] at u q1;have u:c≠0:=u;simp [Wi.errS] at q1;exact u q1
      | ok zs' a'=>
        obtain ⟨zs,a,e,hz⟩:=k zs' a' hs
        injection e with e6 _
        subst e6
        have hn:zs'=[]:=by
          rw [hs] at q2
          cases zs' with
          | nil=>rfl
          | cons z r=>simp [Wi.moreS] at q2
        rw [hn,List.append_nil] at hz
        rw [hi] at h5
        have h6:=List.append_cancel_left ((hz.trans (encB_app _ _)).symm.trans (h5.trans (encB_app _ _)))
        rw [e2] at h6
        have h7:Wi.vint v.toNat=Wi.vint 0:=by simpa [encB,encIt] using h6
        have h9:Wi.vint v.toNat=[0]:=h7.trans (Wi.vint_lo (by omega))
        exact absurd h9 (vint_ne0 (by omega))
  · have e1:decide (v > 1)=false:=decide_eq_false h1
    rw [hO,e1]
    have e2:(bif decide (v=1) then (1:Int) else 0)=v:=by
      by_cases h2:v=1
      · rw [decide_eq_true h2];exact h2.symm
      · rw [decide_eq_false h2];show (0:Int)=v;omega
    rw [hi,e2]
    exact fin_eq h8 ho hb hT
theorem open_u8 {ys:List Int} (h8:Wi.U8 ys):Wi.U8 (Wi.openOf ys).1:=by unfold Wi.openOf;(repeat' split) <;> first | exact Wi.U8.nil | exact (h8.drop _).take _
section
variable {ops:Array Oper} {rest:List Oper} {o:Oper} {a:Act} {w:World} {Q:Exit→Act→World→Prop} {S:Nat→Prop} {w0:World} {l:List (Nat × TypeId × Array Value)}
end
end Go.Proofs.YtgdnofacgfjaeabGreat.Md
