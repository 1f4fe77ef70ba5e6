import Derived.Test.YtgdnofacgfjaeabGreatRc
import Derived.Test.YtgdnofacgfjaeabGreatNf
import Derived.Test.YtgdnofacgfjaeabGreatPa
namespace Go.Proofs.YtgdnofacgfjaeabGreat.Md
set_option maxRecDepth 100000
set_option maxHeartbeats 4000000
open Go.RowKit
set_option linter.unusedVariables false
set_option linter.unusedSimpArgs false
theorem back_bkt {B rm:Int} {x:Bv} {es:List En} {ls:List La} {st:Wi.RS} (hB:0≤B∧B≤4096) (hr:0≤rm∧rm≤256) (he:es.length=x.e.l) (hl:ls.length=x.l.l) (h:bktP B rm x es ls=true) (ha:AtO st (bktIts x es ls)) :
    Wi.nV st=x.up∧rkE st (bkE st)=es∧rkL st (bkE st) (bkL st)=ls∧goodK B rm st=true:=by
  obtain ⟨_,b1,b2⟩:=bkt_len hB hr he hl h;obtain ⟨h1,h2,h3,h4⟩:=ao_bk (X:=[]) (by rw [List.append_nil];exact ha) he hl (by omega) (by omega);refine ⟨h1,h2,h3,?_⟩;have e1:bkE st=x.e.l:=by rw [← he,← h2];exact (ensL_len _ _).symm
  have e2:bkL st=x.l.l:=by rw [← hl,← h3];exact (lasL_len _ _).symm
  unfold goodK rkP;rw [show Wi.wholeB false (bkS st)=true from ao_end h4,h1,h2,h3,e1,e2,← bktP_is,h];rfl
theorem dec_blk {c:Cg} {zs ys:List Int} (h8:Wi.U8 ys) (hq:cfgP c zs=true) (ho:((Wi.openOf ys).2==0)=true) (h:(Wi.wholeB false (blkS (.ok (Wi.openOf ys).1 0))&&blkP c.bl (.ok (Wi.openOf ys).1 0))=true) :
    blkP c.bl (.ok (Wi.openOf ys).1 0)=true∧Wi.sealOf (encB (blkI (.ok (Wi.openOf ys).1 0)))=ys:=by
  have hp:=and_r h;rw [good_blk h8 hq ho] at h;have h2:=of_decide_eq_true (and_r (and_r (and_r h)));rw [hq,hp] at h2;exact ⟨hp,h2⟩
theorem dec_ins {c:Cg} {zs ys:List Int} (h8:Wi.U8 ys) (hq:cfgP c zs=true) (ho:((Wi.openOf ys).2==0)=true) (h:(Wi.wholeB (Wi.fO false (cmS (Wi.aS (Wi.aS (.ok (Wi.openOf ys).1 0))))) (inS (.ok (Wi.openOf ys).1 0))&&insP c.bl (inV (.ok (Wi.openOf ys).1 0)))=true) :
    insP c.bl (inV (.ok (Wi.openOf ys).1 0))=true∧Wi.sealOf (encB (insIts (inV (.ok (Wi.openOf ys).1 0))))=ys:=by
  have hp:=and_r h;rw [good_ins h8 hq ho] at h;have h2:=of_decide_eq_true (and_r (and_r (and_r h)));rw [hq,hp] at h2;exact ⟨hp,h2⟩
theorem dec_bkt {B rm:Int} {ys:List Int} (hr:rm≤256) (h8:Wi.U8 ys) (ho:((Wi.openOf ys).2==0)=true) (h:goodK B rm (.ok (Wi.openOf ys).1 0)=true) :
    rkP B rm (.ok (Wi.openOf ys).1 0) (bkE (.ok (Wi.openOf ys).1 0)) (bkL (.ok (Wi.openOf ys).1 0))=true∧Wi.sealOf (encB (rkI (.ok (Wi.openOf ys).1 0) (bkE (.ok (Wi.openOf ys).1 0)) (bkL (.ok (Wi.openOf ys).1 0))))=ys:=by
  obtain ⟨S,hS⟩:∃ S:Wi.RS,S=.ok (Wi.openOf ys).1 0:=⟨_,rfl⟩;obtain ⟨N,hN⟩:∃ N:Nat,Wi.nV (Wi.nS S)=((N:Nat):Int):=⟨(Wi.nV (Wi.nS S)).toNat,by have:=nV_pos (Wi.nS S);omega⟩;obtain ⟨M,hM⟩:∃ M:Nat,Wi.nV (ensS N (Wi.nS (Wi.nS S)))=((M:Nat):Int):=⟨(Wi.nV (ensS N (Wi.nS (Wi.nS S)))).toNat,by have:=nV_pos (ensS N (Wi.nS (Wi.nS S)));omega⟩;subst hS;obtain ⟨h1,h2⟩:=rk_good (B:=B) (rm:=rm) hr h8 (eq_of_beq ho) rfl hN hM (Nat.le_refl _) (Nat.le_refl _) (fun h=>absurd h (Nat.lt_irrefl _)) (fun h=>absurd h (Nat.lt_irrefl _));obtain ⟨e1,e2⟩:=h2 h;rw [h,e1,e2] at h1;have h3:=h1.symm;exact ⟨and_l (and_r (and_r h3)),of_decide_eq_true (and_r (and_r (and_r h3)))⟩
theorem p_packBS (x:Bl) (bs:List Int) (c:Cg) (zs:List Int) (w:World) (hc:CgIn w c zs) (hm:BlIn w x bs) :
    Calls Tryz.prog 36 #[.agg (Bl.cells x),.agg (Cg.cells c),.func (.func 37) #[] #[],.func (.func 38) #[] #[],.int .i64 1] w (EncS w (jdg (cfgP c zs) (blkB c.bl x bs) 1) (encR (cfgP c zs&&blkB c.bl x bs) (blkIts x bs))):=by
  cases hq:(cfgP c zs&&blkB c.bl x bs) with
  | false=>
    refine (Wi.packBlock_no (Bl.cells x) rfl _ 1 _ (jdg_ne hq (by decide)) c.sv.a c.sv.l c.sv.k zs c.f c.po c.bu c.bl c.rm w (fun W hk=>wcall (judgeB x bs c zs 1 W (hc.no (kw hk)) (hm.no (kw hk))))).mono ?_;rintro e w' ⟨rfl,hk⟩;exact ⟨slZ,rfl,Wi.OwnS.nil _ _,rfl,(by show 0≤_;omega),kw hk⟩
  | true=>
    rw [Bool.and_eq_true] at hq;obtain ⟨h1,h2⟩:=hq;have hB:=cfgP_bd h1;have hB0:=cfg_bl h1;have hr0:c.rm≤256:=by omega
    obtain ⟨hok,hlen⟩:=blk_ok hB0 hm h2;have hbl:=encB_len hok;refine (Wi.packBlock_all (Bl.cells x) rfl 1 c.sv.a c.sv.l c.sv.k zs c.f c.po c.bu c.bl c.rm (encB (blkIts x bs)) w (by omega) (encB_u8 hok) (fun W hk=>?_) (fun W g hk hW=>?_)).mono ?_
    · have:=judgeB x bs c zs 1 W (hc.no (kw hk)) (hm.no (kw hk))
      rw [h1,h2] at this;exact wcall this
    · have hm2:=hm.no (kw hk)
      exact pPut' (ok:=hok) (len:=hlen) (putTs_some hok) (p_block x bs W none [] ⟨0,hW⟩ List.prefix_rfl hm2.b (low_B hm.b))
    · rintro e w' ⟨a',c',rfl,hO,hk⟩
      refine ⟨⟨a',(encB (blkIts x bs)).length+12,c'⟩,?_,hO,(by show _=(Wi.sealOf _).length;rw [Wi.sealOf_len]),(by show _+12≤_;omega),kw hk⟩;rw [h1,h2];rfl
theorem p_packIS (x:In) (c:Cg) (zs:List Int) (w:World) (hc:CgIn w c zs) (hm:InIn w x) :
    Calls Tryz.prog 41 #[.agg (In.cells x),.agg (Cg.cells c),.func (.func 42) #[] #[],.func (.func 43) #[] #[],.int .i64 1] w (EncS w (jdg (cfgP c zs) (insP c.bl x) 1) (encR (cfgP c zs&&insP c.bl x) (insIts x))):=by
  cases hq:(cfgP c zs&&insP c.bl x) with
  | false=>
    refine (Wi.packInst_no (In.cells x) rfl _ 1 _ (jdg_ne hq (by decide)) c.sv.a c.sv.l c.sv.k zs c.f c.po c.bu c.bl c.rm w (fun W hk=>wcall (judgeI x c zs 1 W (hc.no (kw hk)) (hm.no (kw hk))))).mono ?_;rintro e w' ⟨rfl,hk⟩;exact ⟨slZ,rfl,Wi.OwnS.nil _ _,rfl,(by show 0≤_;omega),kw hk⟩
  | true=>
    rw [Bool.and_eq_true] at hq;obtain ⟨h1,h2⟩:=hq;have hB:=cfgP_bd h1;have hB0:=cfg_bl h1;have hr0:c.rm≤256:=by omega
    obtain ⟨hok,hlen⟩:=ins_ok hB0 h2;have hbl:=encB_len hok;refine (Wi.packInst_all (In.cells x) rfl 1 c.sv.a c.sv.l c.sv.k zs c.f c.po c.bu c.bl c.rm (encB (insIts x)) w (by omega) (encB_u8 hok) (fun W hk=>?_) (fun W g hk hW=>?_)).mono ?_
    · have:=judgeI x c zs 1 W (hc.no (kw hk)) (hm.no (kw hk))
      rw [h1,h2] at this;exact wcall this
    · have hm2:=hm.no (kw hk)
      exact pPut' (ok:=hok) (len:=hlen) (putTs_some hok) (p_inst x W none [] ⟨0,hW⟩ List.prefix_rfl)
    · rintro e w' ⟨a',c',rfl,hO,hk⟩
      refine ⟨⟨a',(encB (insIts x)).length+12,c'⟩,?_,hO,(by show _=(Wi.sealOf _).length;rw [Wi.sealOf_len]),(by show _+12≤_;omega),kw hk⟩;rw [h1,h2];rfl
theorem p_packKS (x:Bv) (es:List En) (ls:List La) (c:Cg) (zs:List Int) (w:World) (hc:CgIn w c zs) (hm:BkIn w x es ls) :
    Calls Tryz.prog 46 #[.agg (Bv.cells x),.agg (Cg.cells c),.func (.func 47) #[] #[],.func (.func 48) #[] #[],.int .i64 1] w (EncS w (jdg (cfgP c zs) (bktP c.bl c.rm x es ls) 1) (encR (cfgP c zs&&bktP c.bl c.rm x es ls) (bktIts x es ls))):=by
  cases hq:(cfgP c zs&&bktP c.bl c.rm x es ls) with
  | false=>
    refine (Wi.packBucket_no (Bv.cells x) rfl _ 1 _ (jdg_ne hq (by decide)) c.sv.a c.sv.l c.sv.k zs c.f c.po c.bu c.bl c.rm w (fun W hk=>wcall (judgeK x c zs es ls 1 W (hc.no (kw hk)) (hm.no (kw hk))))).mono ?_;rintro e w' ⟨rfl,hk⟩;exact ⟨slZ,rfl,Wi.OwnS.nil _ _,rfl,(by show 0≤_;omega),kw hk⟩
  | true=>
    rw [Bool.and_eq_true] at hq;obtain ⟨h1,h2⟩:=hq;have hB:=cfgP_bd h1;have hB0:=cfg_bl h1;have hr0:c.rm≤256:=by omega
    obtain ⟨hok,hlen⟩:=bktK_ok hB0 hr0 hm h2;have hbl:=encB_len hok;refine (Wi.packBucket_all (Bv.cells x) rfl 1 c.sv.a c.sv.l c.sv.k zs c.f c.po c.bu c.bl c.rm (encB (bktIts x es ls)) w (by omega) (encB_u8 hok) (fun W hk=>?_) (fun W g hk hW=>?_)).mono ?_
    · have:=judgeK x c zs es ls 1 W (hc.no (kw hk)) (hm.no (kw hk))
      rw [h1,h2] at this;exact wcall this
    · have hm2:=hm.no (kw hk)
      exact pPut' (ok:=hok) (len:=hlen) (putTs_some hok) (p_bucket x es ls W none [] ⟨0,hW⟩ List.prefix_rfl hm2.e hm2.l (low_E hm.e) (low_L hm.l) (by have:=hm.ne;omega) (by have:=hm.nl;omega))
    · rintro e w' ⟨a',c',rfl,hO,hk⟩
      refine ⟨⟨a',(encB (bktIts x es ls)).length+12,c'⟩,?_,hO,(by show _=(Wi.sealOf _).length;rw [Wi.sealOf_len]),(by show _+12≤_;omega),kw hk⟩;rw [h1,h2];rfl
theorem p_PkBS (x:Bl) (bs:List Int) (c:Cg) (zs:List Int) (w:World) (hc:CgIn w c zs) (hm:BlIn w x bs):Calls Tryz.prog 8 #[.agg (Bl.cells x),.agg (Cg.cells c)] w (EncS w (jdg (cfgP c zs) (blkB c.bl x bs) 1) (encR (cfgP c zs&&blkB c.bl x bs) (blkIts x bs))):=by
  refine hidC fun C HC=>?_;have HCg:Hid (CgIn w c zs):=hc;have HI:Hid (BlIn w x bs):=hm;clear hc hm;have HF:Hid (Fq No w w []):=Fq.start _ _;go_enter Tryz.func8,Tryz.ntmps8;go_upto_region 0 with fail;refine Sg<|xB (Bl.cells x) HF fun g1 w2 HF=>xB (Cg.cells c) HF fun g3 w4 HF=>tK (.slice none 0 0)<|tK (.int .i64 0)<|Nl ?_;simp only[pS];go_upto_region 1 with fail;refine Sg<|lP (Bl.cs x) HF 0 0 U37 S37 (Bl.cs x) rfl<|lP (Cg.cs c) HF 1 0 U24 S24 (Cg.cs c) rfl<|cEnS (p_packBS x bs c zs _ (HCg.out.no HF.out.kept) (HI.out.no HF.out.kept)) HF fun s5 w6 HF HR hs=>tK (s5.v)<|tK (.int .i64 (jdg (cfgP c zs) (blkB c.bl x bs) 1))<|tK (s5.v)<|tK (.int .i64 (jdg (cfgP c zs) (blkB c.bl x bs) 1))<|Nl ?_;simp only[pS];go_wp2;rw [HC.out];exact ⟨s5,rfl,HR.out.1,HR.out.2,hs,HF.out.kept⟩
theorem p_PkIS (x:In) (c:Cg) (zs:List Int) (w:World) (hc:CgIn w c zs) (hm:InIn w x):Calls Tryz.prog 11 #[.agg (In.cells x),.agg (Cg.cells c)] w (EncS w (jdg (cfgP c zs) (insP c.bl x) 1) (encR (cfgP c zs&&insP c.bl x) (insIts x))):=by
  refine hidC fun C HC=>?_;have HCg:Hid (CgIn w c zs):=hc;have HI:Hid (InIn w x):=hm;clear hc hm;have HF:Hid (Fq No w w []):=Fq.start _ _;go_enter Tryz.func11,Tryz.ntmps11;go_upto_region 0 with fail;refine Sg<|xB (In.cells x) HF fun g1 w2 HF=>xB (Cg.cells c) HF fun g3 w4 HF=>tK (.slice none 0 0)<|tK (.int .i64 0)<|Nl ?_;simp only[pS];go_upto_region 1 with fail;refine Sg<|lP (In.cs x) HF 0 0 U47 S47 (In.cs x) rfl<|lP (Cg.cs c) HF 1 0 U24 S24 (Cg.cs c) rfl<|cEnS (p_packIS x c zs _ (HCg.out.no HF.out.kept) (HI.out.no HF.out.kept)) HF fun s5 w6 HF HR hs=>tK (s5.v)<|tK (.int .i64 (jdg (cfgP c zs) (insP c.bl x) 1))<|tK (s5.v)<|tK (.int .i64 (jdg (cfgP c zs) (insP c.bl x) 1))<|Nl ?_;simp only[pS];go_wp2;rw [HC.out];exact ⟨s5,rfl,HR.out.1,HR.out.2,hs,HF.out.kept⟩
theorem p_PkKS (x:Bv) (es:List En) (ls:List La) (c:Cg) (zs:List Int) (w:World) (hc:CgIn w c zs) (hm:BkIn w x es ls):Calls Tryz.prog 13 #[.agg (Bv.cells x),.agg (Cg.cells c)] w (EncS w (jdg (cfgP c zs) (bktP c.bl c.rm x es ls) 1) (encR (cfgP c zs&&bktP c.bl c.rm x es ls) (bktIts x es ls))):=by
  refine hidC fun C HC=>?_;have HCg:Hid (CgIn w c zs):=hc;have HI:Hid (BkIn w x es ls):=hm;clear hc hm;have HF:Hid (Fq No w w []):=Fq.start _ _;go_enter Tryz.func13,Tryz.ntmps13;go_upto_region 0 with fail;refine Sg<|xB (Bv.cells x) HF fun g1 w2 HF=>xB (Cg.cells c) HF fun g3 w4 HF=>tK (.slice none 0 0)<|tK (.int .i64 0)<|Nl ?_;simp only[pS];go_upto_region 1 with fail;refine Sg<|lP (Bv.cs x) HF 0 0 U54 S54 (Bv.cs x) rfl<|lP (Cg.cs c) HF 1 0 U24 S24 (Cg.cs c) rfl<|cEnS (p_packKS x es ls c zs _ (HCg.out.no HF.out.kept) (HI.out.no HF.out.kept)) HF fun s5 w6 HF HR hs=>tK (s5.v)<|tK (.int .i64 (jdg (cfgP c zs) (bktP c.bl c.rm x es ls) 1))<|tK (s5.v)<|tK (.int .i64 (jdg (cfgP c zs) (bktP c.bl c.rm x es ls) 1))<|Nl ?_;simp only[pS];go_wp2;rw [HC.out];exact ⟨s5,rfl,HR.out.1,HR.out.2,hs,HF.out.kept⟩
theorem putB_no {c:Cg} {zs:List Int} {x:Bl} {bs:List Int} (hq:(cfgP c zs&&blkB c.bl x bs)=false) :
    ∃ er:Int,(er==0)=false∧∀ W,CgIn W c zs→BlIn W x bs→Calls Tryz.prog 8 #[.agg (Bl.cells x),.agg (Cg.cells c)] W (EncS W er []):=by
  refine ⟨jdg (cfgP c zs) (blkB c.bl x bs) 1,beq_eq_false_iff_ne.2 (jdg_ne hq (by decide)),fun W h1 h2=>?_⟩;have h:=p_PkBS x bs c zs W h1 h2;rw [hq] at h;exact h
theorem out_okB {ys body:List Int} {b:Bool} (h:(Wi.openOf ys)=(body,0)):outB true ys b=bif b then (stV (.ok body 0),tV (Wi.aS (.ok body 0)),0) else (spZ,[],11):=by
  unfold outB;rw [h];cases b <;> rfl
theorem out_okI {ys body:List Int} {b:Bool} (h:(Wi.openOf ys)=(body,0)):outI true ys b=bif b then (inV (.ok body 0),0) else (inZ',11):=by
  unfold outI;rw [h];cases b <;> rfl
theorem out_okK {ys body:List Int} {b:Bool} {i j:Nat} (h:(Wi.openOf ys)=(body,0)):outK true ys b i j=bif b then (Wi.nV (.ok body 0),rkE (.ok body 0) i,rkL (.ok body 0) i j,0) else (0,[],[],11):=by
  unfold outK;rw [h];cases b <;> rfl
theorem putB_yes {w:World} {c:Cg} {zs:List Int} {x:Bl} {bs:List Int} (hm:BlIn w x bs) (hq:(cfgP c zs&&blkB c.bl x bs)=true) :
    ∃ ys:List Int,Wi.U8 ys∧((ys.length:Nat):Int)≤c.bl+22∧(0≤c.bl∧c.bl≤4096)∧(∀ W,CgIn W c zs→BlIn W x bs→Calls Tryz.prog 8 #[.agg (Bl.cells x),.agg (Cg.cells c)] W (EncS W 0 ys)) ∧
      (∀ (y:Sl) W,CgIn W c zs→Wi.Sl W y.a y.l y.k ys→Calls Tryz.prog 9 #[y.v,.agg (Cg.cells c)] W (BlkO W (x.s,bs,0))):=by
  rw [Bool.and_eq_true] at hq;obtain ⟨h1,h2⟩:=hq;have hB:=cfg_bl h1;obtain ⟨hok,hlen⟩:=blk_ok hB hm h2;have hbl:=encB_len hok;have hl:=blk_len hB hm.b.len h2;have ho:=Wi.open_seal (encB (blkIts x bs)) (by omega);refine ⟨Wi.sealOf (encB (blkIts x bs)),Wi.sealOf_u8 (encB_u8 hok),by rw [Wi.sealOf_len];omega,hB,fun W k1 k2=>?_,fun y W k1 k2=>?_⟩
  · have h:=p_PkBS x bs c zs W k1 k2
    rw [h1,h2] at h;exact h
  · have h:=p_ReadB y (Wi.sealOf (encB (blkIts x bs))) c zs W k1 k2
    obtain ⟨e1,e2,e3⟩:=back_blk (st:=.ok (encB (blkIts x bs)) 0) hm.b.len h2 ⟨⟨0,rfl⟩,hok⟩;rw [h1,out_okB ho,ho] at h;simp only[] at h;rw [e3,e1,e2] at h;exact h
theorem putI_no {c:Cg} {zs:List Int} {x:In} (hq:(cfgP c zs&&insP c.bl x)=false) :
    ∃ er:Int,(er==0)=false∧∀ W,CgIn W c zs→Calls Tryz.prog 11 #[.agg (In.cells x),.agg (Cg.cells c)] W (EncS W er []):=by
  refine ⟨jdg (cfgP c zs) (insP c.bl x) 1,beq_eq_false_iff_ne.2 (jdg_ne hq (by decide)),fun W h1=>?_⟩;have h:=p_PkIS x c zs W h1 ⟨rfl⟩;rw [hq] at h;exact h
theorem putI_yes {c:Cg} {zs:List Int} {x:In} (hq:(cfgP c zs&&insP c.bl x)=true) :
    ∃ ys:List Int,Wi.U8 ys∧ys.length≤316∧(∀ W,CgIn W c zs→Calls Tryz.prog 11 #[.agg (In.cells x),.agg (Cg.cells c)] W (EncS W 0 ys)) ∧
      (∀ (y:Sl) W,CgIn W c zs→Wi.Sl W y.a y.l y.k ys→Calls Tryz.prog 12 #[y.v,.agg (Cg.cells c)] W (InsO W (x,0))):=by
  rw [Bool.and_eq_true] at hq;obtain ⟨h1,h2⟩:=hq;have hB:=cfg_bl h1;obtain ⟨hok,hlen⟩:=ins_ok hB h2;have hbl:=encB_len hok;have hl:=ins_len hB h2;have ho:=Wi.open_seal (encB (insIts x)) (by omega);refine ⟨Wi.sealOf (encB (insIts x)),Wi.sealOf_u8 (encB_u8 hok),by rw [Wi.sealOf_len];omega,fun W k1=>?_,fun y W k1 k2=>?_⟩
  · have h:=p_PkIS x c zs W k1 ⟨rfl⟩
    rw [h1,h2] at h;exact h
  · have h:=p_ReadI0 y (Wi.sealOf (encB (insIts x))) c zs W k1 k2
    obtain ⟨e1,e2⟩:=back_ins (st:=.ok (encB (insIts x)) 0) hB h2 ⟨⟨0,rfl⟩,hok⟩;rw [h1,out_okI ho,ho] at h;simp only[] at h;rw [e2,e1] at h;exact h
theorem putK_no {c:Cg} {zs:List Int} {x:Bv} {es:List En} {ls:List La} (hq:(cfgP c zs&&bktP c.bl c.rm x es ls)=false) :
    ∃ er:Int,(er==0)=false∧(∀ W,CgIn W c zs→BkIn W x es ls→Calls Tryz.prog 13 #[.agg (Bv.cells x),.agg (Cg.cells c)] W (EncS W er [])) ∧
      (∀ W,CgIn W c zs→BkIn W x es ls→Calls Tryz.prog 14 #[.agg (Bv.cells x),.agg (Cg.cells c)] W (fun e w'=>e=.returned (.int .i64 er)∧Kept No W w')):=by
  refine ⟨jdg (cfgP c zs) (bktP c.bl c.rm x es ls) 1,beq_eq_false_iff_ne.2 (jdg_ne hq (by decide)),fun W h1 h2=>?_,fun W h1 h2=>p_Bucket x c zs es ls W h1 h2⟩;have h:=p_PkKS x es ls c zs W h1 h2;rw [hq] at h;exact h
theorem putK_yes {w:World} {c:Cg} {zs:List Int} {x:Bv} {es:List En} {ls:List La} (hm:BkIn w x es ls) (hq:(cfgP c zs&&bktP c.bl c.rm x es ls)=true) :
    ∃ ys:List Int,Wi.U8 ys∧((ys.length:Nat):Int)≤270*c.rm+6394∧(1≤c.rm∧c.rm≤256)∧(∀ W,CgIn W c zs→BkIn W x es ls→Calls Tryz.prog 13 #[.agg (Bv.cells x),.agg (Cg.cells c)] W (EncS W 0 ys)) ∧
      (∀ W,CgIn W c zs→BkIn W x es ls→Calls Tryz.prog 14 #[.agg (Bv.cells x),.agg (Cg.cells c)] W (fun e w'=>e=.returned (.int .i64 0)∧Kept No W w')) ∧
      (∀ (y:Sl) W,CgIn W c zs→Wi.Sl W y.a y.l y.k ys→Calls Tryz.prog 15 #[y.v,.agg (Cg.cells c)] W (BckO W (x.up,es,ls,0))):=by
  rw [Bool.and_eq_true] at hq;obtain ⟨h1,h2⟩:=hq;have hB:=cfg_bl h1;have hC:=cfgP_bd h1;have hr:1≤c.rm∧c.rm≤256:=by omega
  obtain ⟨hok,hlen⟩:=bktK_ok hB hr.2 hm h2;have hbl:=encB_len hok;obtain ⟨hl,_,_⟩:=bkt_len hB ⟨by omega,hr.2⟩ hm.e.len hm.l.len h2;have ho:=Wi.open_seal (encB (bktIts x es ls)) (by omega);refine ⟨Wi.sealOf (encB (bktIts x es ls)),Wi.sealOf_u8 (encB_u8 hok),by rw [Wi.sealOf_len];omega,hr,fun W k1 k2=>?_,fun W k1 k2=>?_,fun y W k1 k2=>?_⟩
  · have h:=p_PkKS x es ls c zs W k1 k2
    rw [h1,h2] at h;exact h
  · have h:=p_Bucket x c zs es ls W k1 k2
    rw [h1,h2] at h;exact h
  · have h:=p_ReadK y (Wi.sealOf (encB (bktIts x es ls))) c zs W k1 k2
    obtain ⟨e1,e2,e3,e4⟩:=back_bkt (st:=.ok (encB (bktIts x es ls)) 0) hB ⟨by omega,hr.2⟩ hm.e.len hm.l.len h2 ⟨⟨0,rfl⟩,hok⟩;rw [h1,out_okK ho,ho] at h;simp only[] at h;rw [e4,e1,e2,e3] at h;exact h
section
variable {ops:Array Oper} {rest:List Oper} {o:Oper} {a:Act} {w:World} {Q:Exit→Act→World→Prop} {S:Nat→Prop} {w0:World} {l:List (Nat × TypeId × Array Value)}
theorem oB_zero {b:Bool} {ys:List Int} {good:Bool} {P:Sp × List Int × Int} (hP:outB b ys good=P) (h:(P.2.2==0)=true):b=true∧((Wi.openOf ys).2==0)=true∧good=true∧P=(stV (.ok (Wi.openOf ys).1 0),tV (Wi.aS (.ok (Wi.openOf ys).1 0)),0):=by
  subst hP
  unfold outB at h ⊢
  cases b
  · cases h
  · cases ho:((Wi.openOf ys).2==0)
    · rw [ho] at h
      have h:((Wi.openOf ys).2==0)=true:=h
      rw [ho] at h;cases h
    · rw [ho] at h
      cases good
      · cases h
      · exact ⟨rfl,rfl,rfl,rfl⟩
theorem oI_zero {b:Bool} {ys:List Int} {good:Bool} {P:In × Int} (hP:outI b ys good=P) (h:(P.2==0)=true):b=true∧((Wi.openOf ys).2==0)=true∧good=true∧P=(inV (.ok (Wi.openOf ys).1 0),0):=by
  subst hP
  unfold outI at h ⊢
  cases b
  · cases h
  · cases ho:((Wi.openOf ys).2==0)
    · rw [ho] at h
      have h:((Wi.openOf ys).2==0)=true:=h
      rw [ho] at h;cases h
    · rw [ho] at h
      cases good
      · cases h
      · exact ⟨rfl,rfl,rfl,rfl⟩
theorem oK_zero {b:Bool} {ys:List Int} {good:Bool} {i j:Nat} {P:Int × List En × List La × Int} (hP:outK b ys good i j=P) (h:(P.2.2.2==0)=true):b=true∧((Wi.openOf ys).2==0)=true∧good=true∧P=(Wi.nV (.ok (Wi.openOf ys).1 0),rkE (.ok (Wi.openOf ys).1 0) i,rkL (.ok (Wi.openOf ys).1 0) i j,0):=by
  subst hP
  unfold outK at h ⊢
  cases b
  · cases h
  · cases ho:((Wi.openOf ys).2==0)
    · rw [ho] at h
      have h:((Wi.openOf ys).2==0)=true:=h
      rw [ho] at h;cases h
    · rw [ho] at h
      cases good
      · cases h
      · exact ⟨rfl,rfl,rfl,rfl⟩
theorem againB {c:Cg} {zs ys:List Int} {P:Sp × List Int × Int} (h8:Wi.U8 ys) (hP:outB (cfgP c zs) ys (Wi.wholeB false (blkS (.ok (Wi.openOf ys).1 0))&&blkP c.bl (.ok (Wi.openOf ys).1 0))=P) (hz:(P.2.2==0)=true) (s:Sl) (W:World) (hc:CgIn W c zs) (hs:RdB W s P.2.1) :
    Calls Tryz.prog 8 #[.agg (Bl.cells ⟨P.1,s⟩),.agg (Cg.cells c)] W (EncO W 0 ys):=by
  obtain ⟨h1,h2,h3,rfl⟩:=oB_zero hP hz
  obtain ⟨h4,h5⟩:=dec_blk h8 h1 h2 h3
  have hu:uR (.ok (Wi.openOf ys).1 0):=open_u8 h8
  have hu2:uR (Wi.aS (.ok (Wi.openOf ys).1 0)):=(took_n _ (took_n _ hu).1).1
  have hb:blkB c.bl ⟨stV (.ok (Wi.openOf ys).1 0),s⟩ (tV (Wi.aS (.ok (Wi.openOf ys).1 0)))=true:=by rw [blkP_is c.bl _ s hs.len.symm];exact h4
  have hl:((s.l:Nat):Int)=c.bl:=by
    have hb2:=hb
    unfold blkB at hb2
    exact eq_of_beq (and_l hb2)
  have hB:=cfg_bl h1
  have h:=p_PkB ⟨stV (.ok (Wi.openOf ys).1 0),s⟩ (tV (Wi.aS (.ok (Wi.openOf ys).1 0))) c zs W hc ⟨hs,by show s.l≤_;omega,tV_u8 hu2⟩
  rw [h1,hb] at h
  have e:encR (true&&true) (blkIts ⟨stV (.ok (Wi.openOf ys).1 0),s⟩ (tV (Wi.aS (.ok (Wi.openOf ys).1 0))))=ys:=h5
  rw [e] at h
  exact h
theorem againI {c:Cg} {zs ys:List Int} {P:In × Int} (h8:Wi.U8 ys) (hP:outI (cfgP c zs) ys (Wi.wholeB (Wi.fO false (cmS (Wi.aS (Wi.aS (.ok (Wi.openOf ys).1 0))))) (inS (.ok (Wi.openOf ys).1 0))&&insP c.bl (inV (.ok (Wi.openOf ys).1 0)))=P) (hz:(P.2==0)=true) (W:World) (hc:CgIn W c zs) :
    Calls Tryz.prog 11 #[.agg (In.cells P.1),.agg (Cg.cells c)] W (EncO W 0 ys):=by
  obtain ⟨h1,h2,h3,rfl⟩:=oI_zero hP hz
  obtain ⟨h4,h5⟩:=dec_ins h8 h1 h2 h3
  have h:=p_PkI (inV (.ok (Wi.openOf ys).1 0)) c zs W hc ⟨rfl⟩
  rw [h1,h4] at h
  have e:encR (true&&true) (insIts (inV (.ok (Wi.openOf ys).1 0)))=ys:=h5
  rw [e] at h
  exact h
theorem againK {c:Cg} {zs ys:List Int} {P:Int × List En × List La × Int} (h8:Wi.U8 ys) (hP:outK (cfgP c zs) ys (goodK c.bl c.rm (.ok (Wi.openOf ys).1 0)) (bkE (.ok (Wi.openOf ys).1 0)) (bkL (.ok (Wi.openOf ys).1 0))=P) (hz:(P.2.2.2==0)=true) (x y:Sl) (W:World) (hc:CgIn W c zs) (he:RdE W x P.2.1) (hl:RdL W y P.2.2.1) :
    Calls Tryz.prog 13 #[.agg (Bv.cells ⟨P.1,x,y⟩),.agg (Cg.cells c)] W (EncO W 0 ys):=by
  obtain ⟨h1,h2,h3,rfl⟩:=oK_zero hP hz
  have hC:=cfgP_bd h1
  obtain ⟨h4,h5⟩:=dec_bkt (by omega) h8 h2 h3
  obtain ⟨b1,b2⟩:=rk_bd (by omega) h4
  obtain ⟨S,hS⟩:∃ S:Wi.RS,S=.ok (Wi.openOf ys).1 0:=⟨_,rfl⟩
  rw [← hS] at h4 h5 he hl b1 b2 ⊢
  have e1:x.l=bkE S:=by rw [← he.len];exact ensL_len _ _
  have e2:y.l=bkL S:=by rw [← hl.len];exact lasL_len _ _
  have h:=p_PkK ⟨Wi.nV S,x,y⟩ (rkE S (bkE S)) (rkL S (bkE S) (bkL S)) c zs W hc ⟨he,hl,by show x.l≤_;omega,by show y.l≤_;omega⟩
  have e3:bktP c.bl c.rm ⟨Wi.nV S,x,y⟩ (rkE S (bkE S)) (rkL S (bkE S) (bkL S))=true:=by
    rw [bktP_is]
    show bktP c.bl c.rm (bkX (Wi.nV S) x.l y.l) _ _=true
    rw [e1,e2];exact h4
  have e4:bktIts ⟨Wi.nV S,x,y⟩ (rkE S (bkE S)) (rkL S (bkE S) (bkL S))=rkI S (bkE S) (bkL S):=by
    rw [bktI_is]
    show bktIts (bkX (Wi.nV S) x.l y.l) _ _=_
    rw [e1,e2];rfl
  rw [h1,e3,e4] at h
  have e:encR (true&&true) (rkI S (bkE S) (bkL S))=ys:=h5
  rw [e] at h
  exact h
end
set_option maxRecDepth 100000 in
set_option maxHeartbeats 4000000 in
theorem againWalk (x:Sl) (ys:List Int) (c:Cg) (zs:List Int) (w:World) (hc:CgIn w c zs) (hx:Wi.Sl w x.a x.l x.k ys):Calls Tryz.prog 17 #[x.v,.agg (Cg.cells c)] w (fun e w'=>e=.returned (.bool true)∧Kept No w w'):=by
  refine hidC fun C HC=>?_;have HCg:Hid (CgIn w c zs):=hc;have HX:Hid (Wi.Sl w x.a x.l x.k ys):=hx;clear hc hx;obtain ⟨PB,hPB⟩:∃ P,outB (cfgP c zs) ys (Wi.wholeB false (blkS (.ok (Wi.openOf ys).1 0))&&blkP c.bl (.ok (Wi.openOf ys).1 0))=P:=⟨_,rfl⟩;obtain ⟨PI,hPI⟩:∃ P,outI (cfgP c zs) ys (Wi.wholeB (Wi.fO false (cmS (Wi.aS (Wi.aS (.ok (Wi.openOf ys).1 0))))) (inS (.ok (Wi.openOf ys).1 0))&&insP c.bl (inV (.ok (Wi.openOf ys).1 0)))=P:=⟨_,rfl⟩;obtain ⟨PK,hPK⟩:∃ P,outK (cfgP c zs) ys (goodK c.bl c.rm (.ok (Wi.openOf ys).1 0)) (bkE (.ok (Wi.openOf ys).1 0)) (bkL (.ok (Wi.openOf ys).1 0))=P:=⟨_,rfl⟩;have HpB:∀ W,CgIn W c zs→Wi.Sl W x.a x.l x.k ys→Calls Tryz.prog 9 #[x.v,.agg (Cg.cells c)] W (BlkO W PB):=fun W h1 h2=>by rw [← hPB];exact p_ReadB x ys c zs W h1 h2
  have HpI:∀ W,CgIn W c zs→Wi.Sl W x.a x.l x.k ys→Calls Tryz.prog 12 #[x.v,.agg (Cg.cells c)] W (InsO W PI):=fun W h1 h2=>by rw [← hPI];exact p_ReadI0 x ys c zs W h1 h2
  have HpK:∀ W,CgIn W c zs→Wi.Sl W x.a x.l x.k ys→Calls Tryz.prog 15 #[x.v,.agg (Cg.cells c)] W (BckO W PK):=fun W h1 h2=>by rw [← hPK];exact p_ReadK x ys c zs W h1 h2
  have HKN:Hid (Kept No w w):=Kept.refl _ _;have HF:Hid (Fq No w w []):=Fq.start _ _;go_enter Tryz.func17,Tryz.ntmps17;go_upto_region 0 with fail;refine Sg<|xB (Cg.cells c) HF fun g1 w2 HF=>tF<|Nl ?_;simp only[pS];go_upto_region 1 with fail;refine Sg<|tK (x.v)<|lP (Cg.cs c) HF 0 0 U24 S24 (Cg.cs c) rfl<|cBlk (HpB _ (HCg.out.no (HKN.out.thenNo HF.out.kept)) (HX.out.no (wk (HKN.out.thenNo HF.out.kept)))) HF fun s3 w5 HF HR4 hHR4=>?_;simp only[pS];have HBg1:Hid (Box w5 g1 24 (Cg.cells c)):=HF.out.box 0 _ _ _ rfl;have HKN:Hid (Kept No w w5):=HKN.out.thenNo HF.out.kept;have HF:Hid (Fq No w5 w5 []):=Fq.start _ _;refine tK (.tuple #[.agg (Bl.cells ⟨PB.1,s3⟩),.int .i64 PB.2.2])<|tK (.agg (Bl.cells ⟨PB.1,s3⟩))<|tK (.int .i64 PB.2.2)<|xA (Bl.cells blZ) Z37 HF fun g6 w7 HF=>sB (Bl.cs ⟨PB.1,s3⟩) (Bl.cs ⟨PB.1,s3⟩) HF 0 0 (v:=.agg (Bl.cells ⟨PB.1,s3⟩)) rfl S37 (Bl.oneL _) (Bl.cs blZ) rfl fun w8 HF=>tK (.int .i64 PB.2.2)<|Nl ?_;simp only[pS];go_upto_region 2 with fail;refine Sg<|tK (.int .i64 PB.2.2)<|?_;simp only[pS];cases q1:(PB.2.2==0)
  ·refine bN (eI q1)<|Nl ?_;simp only[pS];go_upto_region 6 with fail;refine Sg<|tK (x.v)<|lR (run_load_part (off:=0) (cs:=Cg.cs c) (sub:=Cg.cs c) (HBg1.out.kept HF.out.kept (fun e=>e)) (part_of (by kernel_rfl)) U24 rfl S24)<|cIns (HpI _ (HCg.out.no (HKN.out.thenNo HF.out.kept)) (HX.out.no (wk (HKN.out.thenNo HF.out.kept)))) HF fun w9 HF=>?_;simp only[pS];replace HBg1:Hid (Box w9 g1 24 (Cg.cells c)):=HBg1.out.kept HF.out.kept (fun e=>e);have HBg6:Hid (Box w9 g6 37 (Bl.cells ⟨PB.1,s3⟩)):=HF.out.box 0 _ _ _ rfl;replace HR4:Hid _:=HR4.out.no HF.out.kept;have HKN:Hid (Kept No w w9):=HKN.out.thenNo HF.out.kept;have HF:Hid (Fq No w9 w9 []):=Fq.start _ _;refine tK (.tuple #[.agg (In.cells PI.1),.int .i64 PI.2])<|tK (.agg (In.cells PI.1))<|tK (.int .i64 PI.2)<|xA (In.cells inZ') Z47 HF fun g10 w11 HF=>sB (In.cs PI.1) (In.cs PI.1) HF 0 0 (v:=.agg (In.cells PI.1)) rfl S47 (In.oneL _) (In.cs inZ') rfl fun w12 HF=>tK (.int .i64 PI.2)<|Nl ?_;simp only[pS];go_upto_region 7 with fail;refine Sg<|tK (.int .i64 PI.2)<|?_;simp only[pS];cases q2:(PI.2==0)
   ·refine bN (eI q2)<|Nl ?_;simp only[pS];go_upto_region 11 with fail;refine Sg<|tK (x.v)<|lR (run_load_part (off:=0) (cs:=Cg.cs c) (sub:=Cg.cs c) (HBg1.out.kept HF.out.kept (fun e=>e)) (part_of (by kernel_rfl)) U24 rfl S24)<|cBck (HpK _ (HCg.out.no (HKN.out.thenNo HF.out.kept)) (HX.out.no (wk (HKN.out.thenNo HF.out.kept)))) HF fun s13 t14 w16 HF HR15 haHR15 hbHR15=>?_;simp only[pS];replace HBg1:Hid (Box w16 g1 24 (Cg.cells c)):=HBg1.out.kept HF.out.kept (fun e=>e);replace HBg6:Hid (Box w16 g6 37 (Bl.cells ⟨PB.1,s3⟩)):=HBg6.out.kept HF.out.kept (fun e=>e);have HBg10:Hid (Box w16 g10 47 (In.cells PI.1)):=HF.out.box 0 _ _ _ rfl;replace HR4:Hid _:=HR4.out.no HF.out.kept;have HKN:Hid (Kept No w w16):=HKN.out.thenNo HF.out.kept;have HF:Hid (Fq No w16 w16 []):=Fq.start _ _;refine tK (.tuple #[.agg (Bv.cells ⟨PK.1,s13,t14⟩),.int .i64 PK.2.2.2])<|tK (.agg (Bv.cells ⟨PK.1,s13,t14⟩))<|tK (.int .i64 PK.2.2.2)<|xA (Bv.cells bvZ) Z54 HF fun g17 w18 HF=>sB (Bv.cs ⟨PK.1,s13,t14⟩) (Bv.cs ⟨PK.1,s13,t14⟩) HF 0 0 (v:=.agg (Bv.cells ⟨PK.1,s13,t14⟩)) rfl S54 (Bv.oneL _) (Bv.cs bvZ) rfl fun w19 HF=>tK (.int .i64 PK.2.2.2)<|Nl ?_;simp only[pS];go_upto_region 12 with fail;refine Sg<|tK (.int .i64 PK.2.2.2)<|?_;simp only[pS];cases q3:(PK.2.2.2==0)
    ·refine bN (eI q3)<|Nl ?_;simp only[pS];go_upto_region 15 with fail;refine Sg<|tU<|Nl ?_;simp only[pS];go_wp2;rw [HC.out];exact ⟨rfl,HKN.out.thenNo HF.out.kept⟩
    refine bN (eI q3)<|Nl ?_;simp only[pS];go_upto_region 13 with fail;refine Sg<|lP (Bv.cs ⟨PK.1,s13,t14⟩) HF 0 0 U54 S54 (Bv.cs ⟨PK.1,s13,t14⟩) rfl<|lR (run_load_part (off:=0) (cs:=Cg.cs c) (sub:=Cg.cs c) (HBg1.out.kept HF.out.kept (fun e=>e)) (part_of (by kernel_rfl)) U24 rfl S24)<|cEn (againK HX.out.u8 hPK q3 s13 t14 _ (HCg.out.no (HKN.out.thenNo HF.out.kept)) (HR15.out.1.no HF.out.kept) (HR15.out.2.no HF.out.kept)) HF fun s20 w22 HF HR21 hsHR21=>?_;simp only[pS];replace HBg1:Hid (Box w22 g1 24 (Cg.cells c)):=HBg1.out.kept HF.out.kept (fun e=>e);replace HBg6:Hid (Box w22 g6 37 (Bl.cells ⟨PB.1,s3⟩)):=HBg6.out.kept HF.out.kept (fun e=>e);replace HBg10:Hid (Box w22 g10 47 (In.cells PI.1)):=HBg10.out.kept HF.out.kept (fun e=>e);have HBg17:Hid (Box w22 g17 54 (Bv.cells ⟨PK.1,s13,t14⟩)):=HF.out.box 0 _ _ _ rfl;replace HR4:Hid _:=HR4.out.no HF.out.kept;replace HR15:Hid _:=And.intro (HR15.out.1.no HF.out.kept) (HR15.out.2.no HF.out.kept);have HKN:Hid (Kept No w w22):=HKN.out.thenNo HF.out.kept;have HF:Hid (Fq No w22 w22 []):=Fq.start _ _;refine tK (.tuple #[s20.v,.int .i64 0])<|tK (s20.v)<|tK (.int .i64 0)<|tK (s20.v)<|tK (.int .i64 0)<|Nl ?_;simp only[pS];go_upto_region 14 with fail;refine Sg<|tK (.int .i64 0)<|bN (eI (beq_self_eq_true (0)))<|tU<|tK (s20.v)<|tK (x.v)<|cB (sameB s20 x ys _ (HR21.out.no HF.out.kept) (sl_rd (HX.out.no (wk (HKN.out.thenNo HF.out.kept)))) (by omega)) rfl HF fun w23 HF=>tU<|tU<|Nl ?_;simp only[pS];go_wp2;rw [HC.out];exact ⟨rfl,HKN.out.thenNo HF.out.kept⟩
   refine bN (eI q2)<|Nl ?_;simp only[pS];go_upto_region 8 with fail;refine Sg<|lP (In.cs PI.1) HF 0 0 U47 S47 (In.cs PI.1) rfl<|lR (run_load_part (off:=0) (cs:=Cg.cs c) (sub:=Cg.cs c) (HBg1.out.kept HF.out.kept (fun e=>e)) (part_of (by kernel_rfl)) U24 rfl S24)<|cEn (againI HX.out.u8 hPI q2 _ (HCg.out.no (HKN.out.thenNo HF.out.kept))) HF fun s24 w26 HF HR25 hsHR25=>?_;simp only[pS];replace HBg1:Hid (Box w26 g1 24 (Cg.cells c)):=HBg1.out.kept HF.out.kept (fun e=>e);replace HBg6:Hid (Box w26 g6 37 (Bl.cells ⟨PB.1,s3⟩)):=HBg6.out.kept HF.out.kept (fun e=>e);have HBg10:Hid (Box w26 g10 47 (In.cells PI.1)):=HF.out.box 0 _ _ _ rfl;replace HR4:Hid _:=HR4.out.no HF.out.kept;have HKN:Hid (Kept No w w26):=HKN.out.thenNo HF.out.kept;have HF:Hid (Fq No w26 w26 []):=Fq.start _ _;refine tK (.tuple #[s24.v,.int .i64 0])<|tK (s24.v)<|tK (.int .i64 0)<|tK (s24.v)<|tK (.int .i64 0)<|Nl ?_;simp only[pS];go_upto_region 9 with fail;refine Sg<|tK (.int .i64 0)<|bN (nI1 (beq_self_eq_true (0)))<|tF<|tK (s24.v)<|tK (x.v)<|cB (sameB s24 x ys _ (HR25.out.no HF.out.kept) (sl_rd (HX.out.no (wk (HKN.out.thenNo HF.out.kept)))) (by omega)) rfl HF fun w27 HF=>tF<|tF<|Nl ?_;simp only[pS];go_upto_region 11 with fail;refine Sg<|tK (x.v)<|lR (run_load_part (off:=0) (cs:=Cg.cs c) (sub:=Cg.cs c) (HBg1.out.kept HF.out.kept (fun e=>e)) (part_of (by kernel_rfl)) U24 rfl S24)<|cBck (HpK _ (HCg.out.no (HKN.out.thenNo HF.out.kept)) (HX.out.no (wk (HKN.out.thenNo HF.out.kept)))) HF fun s28 t29 w31 HF HR30 haHR30 hbHR30=>?_;simp only[pS];replace HBg1:Hid (Box w31 g1 24 (Cg.cells c)):=HBg1.out.kept HF.out.kept (fun e=>e);replace HBg6:Hid (Box w31 g6 37 (Bl.cells ⟨PB.1,s3⟩)):=HBg6.out.kept HF.out.kept (fun e=>e);replace HBg10:Hid (Box w31 g10 47 (In.cells PI.1)):=HBg10.out.kept HF.out.kept (fun e=>e);replace HR4:Hid _:=HR4.out.no HF.out.kept;replace HR25:Hid _:=HR25.out.no HF.out.kept;have HKN:Hid (Kept No w w31):=HKN.out.thenNo HF.out.kept;have HF:Hid (Fq No w31 w31 []):=Fq.start _ _;refine tK (.tuple #[.agg (Bv.cells ⟨PK.1,s28,t29⟩),.int .i64 PK.2.2.2])<|tK (.agg (Bv.cells ⟨PK.1,s28,t29⟩))<|tK (.int .i64 PK.2.2.2)<|xA (Bv.cells bvZ) Z54 HF fun g32 w33 HF=>sB (Bv.cs ⟨PK.1,s28,t29⟩) (Bv.cs ⟨PK.1,s28,t29⟩) HF 0 0 (v:=.agg (Bv.cells ⟨PK.1,s28,t29⟩)) rfl S54 (Bv.oneL _) (Bv.cs bvZ) rfl fun w34 HF=>tK (.int .i64 PK.2.2.2)<|Nl ?_;simp only[pS];go_upto_region 12 with fail;refine Sg<|tK (.int .i64 PK.2.2.2)<|?_;simp only[pS];cases q4:(PK.2.2.2==0)
   ·refine bN (eI q4)<|Nl ?_;simp only[pS];go_upto_region 15 with fail;refine Sg<|tU<|Nl ?_;simp only[pS];go_wp2;rw [HC.out];exact ⟨rfl,HKN.out.thenNo HF.out.kept⟩
   refine bN (eI q4)<|Nl ?_;simp only[pS];go_upto_region 13 with fail;refine Sg<|lP (Bv.cs ⟨PK.1,s28,t29⟩) HF 0 0 U54 S54 (Bv.cs ⟨PK.1,s28,t29⟩) rfl<|lR (run_load_part (off:=0) (cs:=Cg.cs c) (sub:=Cg.cs c) (HBg1.out.kept HF.out.kept (fun e=>e)) (part_of (by kernel_rfl)) U24 rfl S24)<|cEn (againK HX.out.u8 hPK q4 s28 t29 _ (HCg.out.no (HKN.out.thenNo HF.out.kept)) (HR30.out.1.no HF.out.kept) (HR30.out.2.no HF.out.kept)) HF fun s35 w37 HF HR36 hsHR36=>?_;simp only[pS];replace HBg1:Hid (Box w37 g1 24 (Cg.cells c)):=HBg1.out.kept HF.out.kept (fun e=>e);replace HBg6:Hid (Box w37 g6 37 (Bl.cells ⟨PB.1,s3⟩)):=HBg6.out.kept HF.out.kept (fun e=>e);replace HBg10:Hid (Box w37 g10 47 (In.cells PI.1)):=HBg10.out.kept HF.out.kept (fun e=>e);have HBg32:Hid (Box w37 g32 54 (Bv.cells ⟨PK.1,s28,t29⟩)):=HF.out.box 0 _ _ _ rfl;replace HR4:Hid _:=HR4.out.no HF.out.kept;replace HR25:Hid _:=HR25.out.no HF.out.kept;replace HR30:Hid _:=And.intro (HR30.out.1.no HF.out.kept) (HR30.out.2.no HF.out.kept);have HKN:Hid (Kept No w w37):=HKN.out.thenNo HF.out.kept;have HF:Hid (Fq No w37 w37 []):=Fq.start _ _;refine tK (.tuple #[s35.v,.int .i64 0])<|tK (s35.v)<|tK (.int .i64 0)<|tK (s35.v)<|tK (.int .i64 0)<|Nl ?_;simp only[pS];go_upto_region 14 with fail;refine Sg<|tK (.int .i64 0)<|bN (eI (beq_self_eq_true (0)))<|tU<|tK (s35.v)<|tK (x.v)<|cB (sameB s35 x ys _ (HR36.out.no HF.out.kept) (sl_rd (HX.out.no (wk (HKN.out.thenNo HF.out.kept)))) (by omega)) rfl HF fun w38 HF=>tU<|tU<|Nl ?_;simp only[pS];go_wp2;rw [HC.out];exact ⟨rfl,HKN.out.thenNo HF.out.kept⟩
  refine bN (eI q1)<|Nl ?_;simp only[pS];go_upto_region 3 with fail;refine Sg<|lP (Bl.cs ⟨PB.1,s3⟩) HF 0 0 U37 S37 (Bl.cs ⟨PB.1,s3⟩) rfl<|lR (run_load_part (off:=0) (cs:=Cg.cs c) (sub:=Cg.cs c) (HBg1.out.kept HF.out.kept (fun e=>e)) (part_of (by kernel_rfl)) U24 rfl S24)<|cEn (againB HX.out.u8 hPB q1 s3 _ (HCg.out.no (HKN.out.thenNo HF.out.kept)) (HR4.out.no HF.out.kept)) HF fun s39 w41 HF HR40 hsHR40=>?_;simp only[pS];replace HBg1:Hid (Box w41 g1 24 (Cg.cells c)):=HBg1.out.kept HF.out.kept (fun e=>e);have HBg6:Hid (Box w41 g6 37 (Bl.cells ⟨PB.1,s3⟩)):=HF.out.box 0 _ _ _ rfl;replace HR4:Hid _:=HR4.out.no HF.out.kept;have HKN:Hid (Kept No w w41):=HKN.out.thenNo HF.out.kept;have HF:Hid (Fq No w41 w41 []):=Fq.start _ _;refine tK (.tuple #[s39.v,.int .i64 0])<|tK (s39.v)<|tK (.int .i64 0)<|tK (s39.v)<|tK (.int .i64 0)<|Nl ?_;simp only[pS];go_upto_region 4 with fail;refine Sg<|tK (.int .i64 0)<|bN (nI1 (beq_self_eq_true (0)))<|tF<|tK (s39.v)<|tK (x.v)<|cB (sameB s39 x ys _ (HR40.out.no HF.out.kept) (sl_rd (HX.out.no (wk (HKN.out.thenNo HF.out.kept)))) (by omega)) rfl HF fun w42 HF=>tF<|tF<|Nl ?_;simp only[pS];go_upto_region 6 with fail;refine Sg<|tK (x.v)<|lR (run_load_part (off:=0) (cs:=Cg.cs c) (sub:=Cg.cs c) (HBg1.out.kept HF.out.kept (fun e=>e)) (part_of (by kernel_rfl)) U24 rfl S24)<|cIns (HpI _ (HCg.out.no (HKN.out.thenNo HF.out.kept)) (HX.out.no (wk (HKN.out.thenNo HF.out.kept)))) HF fun w43 HF=>?_;simp only[pS];replace HBg1:Hid (Box w43 g1 24 (Cg.cells c)):=HBg1.out.kept HF.out.kept (fun e=>e);replace HBg6:Hid (Box w43 g6 37 (Bl.cells ⟨PB.1,s3⟩)):=HBg6.out.kept HF.out.kept (fun e=>e);replace HR4:Hid _:=HR4.out.no HF.out.kept;replace HR40:Hid _:=HR40.out.no HF.out.kept;have HKN:Hid (Kept No w w43):=HKN.out.thenNo HF.out.kept;have HF:Hid (Fq No w43 w43 []):=Fq.start _ _;refine tK (.tuple #[.agg (In.cells PI.1),.int .i64 PI.2])<|tK (.agg (In.cells PI.1))<|tK (.int .i64 PI.2)<|xA (In.cells inZ') Z47 HF fun g44 w45 HF=>sB (In.cs PI.1) (In.cs PI.1) HF 0 0 (v:=.agg (In.cells PI.1)) rfl S47 (In.oneL _) (In.cs inZ') rfl fun w46 HF=>tK (.int .i64 PI.2)<|Nl ?_;simp only[pS];go_upto_region 7 with fail;refine Sg<|tK (.int .i64 PI.2)<|?_;simp only[pS];cases q5:(PI.2==0)
  ·refine bN (eI q5)<|Nl ?_;simp only[pS];go_upto_region 11 with fail;refine Sg<|tK (x.v)<|lR (run_load_part (off:=0) (cs:=Cg.cs c) (sub:=Cg.cs c) (HBg1.out.kept HF.out.kept (fun e=>e)) (part_of (by kernel_rfl)) U24 rfl S24)<|cBck (HpK _ (HCg.out.no (HKN.out.thenNo HF.out.kept)) (HX.out.no (wk (HKN.out.thenNo HF.out.kept)))) HF fun s47 t48 w50 HF HR49 haHR49 hbHR49=>?_;simp only[pS];replace HBg1:Hid (Box w50 g1 24 (Cg.cells c)):=HBg1.out.kept HF.out.kept (fun e=>e);replace HBg6:Hid (Box w50 g6 37 (Bl.cells ⟨PB.1,s3⟩)):=HBg6.out.kept HF.out.kept (fun e=>e);have HBg44:Hid (Box w50 g44 47 (In.cells PI.1)):=HF.out.box 0 _ _ _ rfl;replace HR4:Hid _:=HR4.out.no HF.out.kept;replace HR40:Hid _:=HR40.out.no HF.out.kept;have HKN:Hid (Kept No w w50):=HKN.out.thenNo HF.out.kept;have HF:Hid (Fq No w50 w50 []):=Fq.start _ _;refine tK (.tuple #[.agg (Bv.cells ⟨PK.1,s47,t48⟩),.int .i64 PK.2.2.2])<|tK (.agg (Bv.cells ⟨PK.1,s47,t48⟩))<|tK (.int .i64 PK.2.2.2)<|xA (Bv.cells bvZ) Z54 HF fun g51 w52 HF=>sB (Bv.cs ⟨PK.1,s47,t48⟩) (Bv.cs ⟨PK.1,s47,t48⟩) HF 0 0 (v:=.agg (Bv.cells ⟨PK.1,s47,t48⟩)) rfl S54 (Bv.oneL _) (Bv.cs bvZ) rfl fun w53 HF=>tK (.int .i64 PK.2.2.2)<|Nl ?_;simp only[pS];go_upto_region 12 with fail;refine Sg<|tK (.int .i64 PK.2.2.2)<|?_;simp only[pS];cases q6:(PK.2.2.2==0)
   ·refine bN (eI q6)<|Nl ?_;simp only[pS];go_upto_region 15 with fail;refine Sg<|tU<|Nl ?_;simp only[pS];go_wp2;rw [HC.out];exact ⟨rfl,HKN.out.thenNo HF.out.kept⟩
   refine bN (eI q6)<|Nl ?_;simp only[pS];go_upto_region 13 with fail;refine Sg<|lP (Bv.cs ⟨PK.1,s47,t48⟩) HF 0 0 U54 S54 (Bv.cs ⟨PK.1,s47,t48⟩) rfl<|lR (run_load_part (off:=0) (cs:=Cg.cs c) (sub:=Cg.cs c) (HBg1.out.kept HF.out.kept (fun e=>e)) (part_of (by kernel_rfl)) U24 rfl S24)<|cEn (againK HX.out.u8 hPK q6 s47 t48 _ (HCg.out.no (HKN.out.thenNo HF.out.kept)) (HR49.out.1.no HF.out.kept) (HR49.out.2.no HF.out.kept)) HF fun s54 w56 HF HR55 hsHR55=>?_;simp only[pS];replace HBg1:Hid (Box w56 g1 24 (Cg.cells c)):=HBg1.out.kept HF.out.kept (fun e=>e);replace HBg6:Hid (Box w56 g6 37 (Bl.cells ⟨PB.1,s3⟩)):=HBg6.out.kept HF.out.kept (fun e=>e);replace HBg44:Hid (Box w56 g44 47 (In.cells PI.1)):=HBg44.out.kept HF.out.kept (fun e=>e);have HBg51:Hid (Box w56 g51 54 (Bv.cells ⟨PK.1,s47,t48⟩)):=HF.out.box 0 _ _ _ rfl;replace HR4:Hid _:=HR4.out.no HF.out.kept;replace HR40:Hid _:=HR40.out.no HF.out.kept;replace HR49:Hid _:=And.intro (HR49.out.1.no HF.out.kept) (HR49.out.2.no HF.out.kept);have HKN:Hid (Kept No w w56):=HKN.out.thenNo HF.out.kept;have HF:Hid (Fq No w56 w56 []):=Fq.start _ _;refine tK (.tuple #[s54.v,.int .i64 0])<|tK (s54.v)<|tK (.int .i64 0)<|tK (s54.v)<|tK (.int .i64 0)<|Nl ?_;simp only[pS];go_upto_region 14 with fail;refine Sg<|tK (.int .i64 0)<|bN (eI (beq_self_eq_true (0)))<|tU<|tK (s54.v)<|tK (x.v)<|cB (sameB s54 x ys _ (HR55.out.no HF.out.kept) (sl_rd (HX.out.no (wk (HKN.out.thenNo HF.out.kept)))) (by omega)) rfl HF fun w57 HF=>tU<|tU<|Nl ?_;simp only[pS];go_wp2;rw [HC.out];exact ⟨rfl,HKN.out.thenNo HF.out.kept⟩
  refine bN (eI q5)<|Nl ?_;simp only[pS];go_upto_region 8 with fail;refine Sg<|lP (In.cs PI.1) HF 0 0 U47 S47 (In.cs PI.1) rfl<|lR (run_load_part (off:=0) (cs:=Cg.cs c) (sub:=Cg.cs c) (HBg1.out.kept HF.out.kept (fun e=>e)) (part_of (by kernel_rfl)) U24 rfl S24)<|cEn (againI HX.out.u8 hPI q5 _ (HCg.out.no (HKN.out.thenNo HF.out.kept))) HF fun s58 w60 HF HR59 hsHR59=>?_;simp only[pS];replace HBg1:Hid (Box w60 g1 24 (Cg.cells c)):=HBg1.out.kept HF.out.kept (fun e=>e);replace HBg6:Hid (Box w60 g6 37 (Bl.cells ⟨PB.1,s3⟩)):=HBg6.out.kept HF.out.kept (fun e=>e);have HBg44:Hid (Box w60 g44 47 (In.cells PI.1)):=HF.out.box 0 _ _ _ rfl;replace HR4:Hid _:=HR4.out.no HF.out.kept;replace HR40:Hid _:=HR40.out.no HF.out.kept;have HKN:Hid (Kept No w w60):=HKN.out.thenNo HF.out.kept;have HF:Hid (Fq No w60 w60 []):=Fq.start _ _;refine tK (.tuple #[s58.v,.int .i64 0])<|tK (s58.v)<|tK (.int .i64 0)<|tK (s58.v)<|tK (.int .i64 0)<|Nl ?_;simp only[pS];go_upto_region 9 with fail;refine Sg<|tK (.int .i64 0)<|bN (nI1 (beq_self_eq_true (0)))<|tF<|tK (s58.v)<|tK (x.v)<|cB (sameB s58 x ys _ (HR59.out.no HF.out.kept) (sl_rd (HX.out.no (wk (HKN.out.thenNo HF.out.kept)))) (by omega)) rfl HF fun w61 HF=>tF<|tF<|Nl ?_;simp only[pS];go_upto_region 11 with fail;refine Sg<|tK (x.v)<|lR (run_load_part (off:=0) (cs:=Cg.cs c) (sub:=Cg.cs c) (HBg1.out.kept HF.out.kept (fun e=>e)) (part_of (by kernel_rfl)) U24 rfl S24)<|cBck (HpK _ (HCg.out.no (HKN.out.thenNo HF.out.kept)) (HX.out.no (wk (HKN.out.thenNo HF.out.kept)))) HF fun s62 t63 w65 HF HR64 haHR64 hbHR64=>?_;simp only[pS];replace HBg1:Hid (Box w65 g1 24 (Cg.cells c)):=HBg1.out.kept HF.out.kept (fun e=>e);replace HBg6:Hid (Box w65 g6 37 (Bl.cells ⟨PB.1,s3⟩)):=HBg6.out.kept HF.out.kept (fun e=>e);replace HBg44:Hid (Box w65 g44 47 (In.cells PI.1)):=HBg44.out.kept HF.out.kept (fun e=>e);replace HR4:Hid _:=HR4.out.no HF.out.kept;replace HR40:Hid _:=HR40.out.no HF.out.kept;replace HR59:Hid _:=HR59.out.no HF.out.kept;have HKN:Hid (Kept No w w65):=HKN.out.thenNo HF.out.kept;have HF:Hid (Fq No w65 w65 []):=Fq.start _ _;refine tK (.tuple #[.agg (Bv.cells ⟨PK.1,s62,t63⟩),.int .i64 PK.2.2.2])<|tK (.agg (Bv.cells ⟨PK.1,s62,t63⟩))<|tK (.int .i64 PK.2.2.2)<|xA (Bv.cells bvZ) Z54 HF fun g66 w67 HF=>sB (Bv.cs ⟨PK.1,s62,t63⟩) (Bv.cs ⟨PK.1,s62,t63⟩) HF 0 0 (v:=.agg (Bv.cells ⟨PK.1,s62,t63⟩)) rfl S54 (Bv.oneL _) (Bv.cs bvZ) rfl fun w68 HF=>tK (.int .i64 PK.2.2.2)<|Nl ?_;simp only[pS];go_upto_region 12 with fail;refine Sg<|tK (.int .i64 PK.2.2.2)<|?_;simp only[pS];cases q7:(PK.2.2.2==0)
  ·refine bN (eI q7)<|Nl ?_;simp only[pS];go_upto_region 15 with fail;refine Sg<|tU<|Nl ?_;simp only[pS];go_wp2;rw [HC.out];exact ⟨rfl,HKN.out.thenNo HF.out.kept⟩
  refine bN (eI q7)<|Nl ?_;simp only[pS];go_upto_region 13 with fail;refine Sg<|lP (Bv.cs ⟨PK.1,s62,t63⟩) HF 0 0 U54 S54 (Bv.cs ⟨PK.1,s62,t63⟩) rfl<|lR (run_load_part (off:=0) (cs:=Cg.cs c) (sub:=Cg.cs c) (HBg1.out.kept HF.out.kept (fun e=>e)) (part_of (by kernel_rfl)) U24 rfl S24)<|cEn (againK HX.out.u8 hPK q7 s62 t63 _ (HCg.out.no (HKN.out.thenNo HF.out.kept)) (HR64.out.1.no HF.out.kept) (HR64.out.2.no HF.out.kept)) HF fun s69 w71 HF HR70 hsHR70=>?_;simp only[pS];replace HBg1:Hid (Box w71 g1 24 (Cg.cells c)):=HBg1.out.kept HF.out.kept (fun e=>e);replace HBg6:Hid (Box w71 g6 37 (Bl.cells ⟨PB.1,s3⟩)):=HBg6.out.kept HF.out.kept (fun e=>e);replace HBg44:Hid (Box w71 g44 47 (In.cells PI.1)):=HBg44.out.kept HF.out.kept (fun e=>e);have HBg66:Hid (Box w71 g66 54 (Bv.cells ⟨PK.1,s62,t63⟩)):=HF.out.box 0 _ _ _ rfl;replace HR4:Hid _:=HR4.out.no HF.out.kept;replace HR40:Hid _:=HR40.out.no HF.out.kept;replace HR59:Hid _:=HR59.out.no HF.out.kept;replace HR64:Hid _:=And.intro (HR64.out.1.no HF.out.kept) (HR64.out.2.no HF.out.kept);have HKN:Hid (Kept No w w71):=HKN.out.thenNo HF.out.kept;have HF:Hid (Fq No w71 w71 []):=Fq.start _ _;refine tK (.tuple #[s69.v,.int .i64 0])<|tK (s69.v)<|tK (.int .i64 0)<|tK (s69.v)<|tK (.int .i64 0)<|Nl ?_;simp only[pS];go_upto_region 14 with fail;refine Sg<|tK (.int .i64 0)<|bN (eI (beq_self_eq_true (0)))<|tU<|tK (s69.v)<|tK (x.v)<|cB (sameB s69 x ys _ (HR70.out.no HF.out.kept) (sl_rd (HX.out.no (wk (HKN.out.thenNo HF.out.kept)))) (by omega)) rfl HF fun w72 HF=>tU<|tU<|Nl ?_;simp only[pS];go_wp2;rw [HC.out];exact ⟨rfl,HKN.out.thenNo HF.out.kept⟩
theorem MsF.no {N:Nat} {w w':World} {x e l c:Sl} {p:Pm} (h:MsF N w x e l c p) (hk:Kept No w w'):MsF N w' x e l c p:=h.kept hk (fun _ _ e=>e)
theorem EnOk.no {aa oa:Option Addr} {w w':World} {t:Ent} (h:EnOk aa oa w t) (hk:Kept No w w'):EnOk aa oa w' t:=h.kept hk (fun k _ e=>e.elim) aa oa (fun k e=>.inl e) (fun k e=>.inl e)
theorem pSealC (x:Sl) (ys:List Int) (w:World) (h:Wi.Sl w x.a x.l x.k ys):∃ zs,Calls Tryz.prog 18 #[x.v] w (SealO w zs):=by
  by_cases hl:x.l≤131072
  · refine ⟨Wi.sealOf ys,(Wi.seal_any x.a x.l x.k ys w h.len hl h.bytes h.u8 h.nil).mono ?_⟩
    rintro e w' ⟨a',c',rfl,hO,hk⟩
    exact ⟨⟨a',x.l+12,c'⟩,rfl,hO.sl (by rw [Wi.sealOf_len,h.len]) (Wi.sealOf_u8 h.u8) (by show x.l+12≤_;omega),kw hk⟩
  · refine ⟨[],(Wi.seal_long x.a x.l x.k w (by omega) (by have:=h.bd;omega)).mono ?_⟩
    rintro e w' ⟨rfl,rfl⟩
    exact ⟨slZ,rfl,⟨rfl,fun i hi=>absurd hi (Nat.not_lt_zero _),Wi.U8.nil,Nat.le_refl _,by show 0≤_;omega,Nat.zero_le _,fun _=>rfl⟩,Kept.refl _ _⟩
section
variable {ops:Array Oper} {rest:List Oper} {o:Oper} {a:Act} {w:World} {Q:Exit→Act→World→Prop} {S:Nat→Prop} {w0:World} {l:List (Nat × TypeId × Array Value)} {md:Region.Mode} {fuel:Nat} {listed:Array Bool}
theorem yES (i d:Nat) {f:FuncId} {args:Array Value} {err:Int} {bytes:List Int} (hc:Calls Tryz.prog f args w (EncS w err bytes)) (HF:Hid (Fq S w0 w l))
    (h:∀ (s:Sl) w',Hid (Fq S w0 w' l)→Hid (Wi.OwnS w' w0.heap.size s.a s.k bytes)→s.l=bytes.length→s.l≤131084→wpAnyH Tryz.prog md ops Q (fun w'=>Hid (Fq S w0 w' l)) fuel (listed.setIfInBounds i true) (a.put (some d) (.tuple #[s.v,.int .i64 err])) w')
    (hi:ops[i]?=some (opA ops i):=by kernel_rfl) (hd:(opA ops i).dst=some d:=by kernel_rfl) (hr:Region.ready md ops listed=[i]:=by kernel_rfl) (hrun:(execOp a.eval (opA ops i)).run Tryz.prog w=.ok (.enter f args) w:=by kernel_rfl) (hw:Region.wanted (opA ops i) (yielded ops a.tmps)=true:=by kernel_rfl):wpAnyH Tryz.prog md ops Q (fun w'=>Hid (Fq S w0 w' l)) (fuel+1) listed a w:=
  any_call hi hr hw f args hrun _ hc (by rintro e w' ⟨s,rfl,h1,h2,h3,hk⟩;exact ⟨_,rfl,HF.out.no hk,fun HF2=>by rw [hd];exact h s w' HF2 (h1.lower HF.out.kept.size) h2 h3⟩)
end
theorem BkL.lt {w0 w:World} {aa:Option Addr} {ca:Nat} {oa:Option Addr} {co:Nat} {E:List Ent} (h:BkL w0 w aa ca oa co E) (k:Nat) (e:At aa k∨At oa k):k < w.heap.size:=e.elim (own_lt h.ra) (own_lt h.ro)
theorem Fq.start0 {S:Nat→Prop} {w0 w:World} (h:Kept S w0 w):Fq S w0 w []:=⟨h,by simp,by simp,by simp⟩
end Go.Proofs.YtgdnofacgfjaeabGreat.Md
