import Derived.Test.YtgdnofacgfjaeaaGreatQb
import Derived.Test.YtgdnofacgfjaeaaGreatNl
namespace Go.Proofs.YtgdnofacgfjaeaaGreat.Md
open Go.RowKit
set_option linter.unusedVariables false
set_option linter.unusedSimpArgs false
def hdI (st:Wi.RS):List It:=[It.n (Wi.nV st)]++([It.n (b01 (Wi.nV (Wi.t1 st)))]++([It.n (Wi.nV (Wi.nS (Wi.t1 st)))]++([It.n (b01 (Wi.nV (Wi.t2 st)))]++([It.n (Wi.nV (Wi.nS (Wi.t2 st))),It.n (Wi.nV (Wi.t3 st)),It.n (Wi.nV (Wi.t4 st))]++[It.n (kyV (Wi.t5 st)).k,It.n (kyV (Wi.t5 st)).a,It.n (kyV (Wi.t5 st)).b,It.n (kyV (Wi.t5 st)).c]))))
theorem o2_is (st:Wi.RS):Wi.o2 false st=(decide (Wi.nV (Wi.t1 st) > 1)||decide (Wi.nV (Wi.t2 st) > 1)):=by
  show ((false||decide (Wi.nV (Wi.t1 st) > 1))||decide (Wi.nV (Wi.t2 st) > 1))=_
  rw [Bool.false_or]
theorem hd_fin {st:Wi.RS} {X Y:List It} {o3:Bool} (hX:o3=false→Y=X) (hX2:encB X=encB Y→o3=false) :
    ((Wi.o2 false st||o3)=false→hdI st++Y=hdR st++X)∧(encB (hdR st++X)=encB (hdI st++Y)→(Wi.o2 false st||o3)=false):=by
  rw [o2_is]
  constructor
  · intro h
    rw [Bool.or_eq_false_iff,Bool.or_eq_false_iff] at h
    rw [hX h.2]
    unfold hdI hdR
    rw [b01_eq (nV_pos _) h.1.1,b01_eq (nV_pos _) h.1.2]
  · intro h
    unfold hdI hdR at h
    simp only[List.append_assoc] at h
    have h1:=flag_eq (nV_pos _) (nV_hi _) (cut_eq h)
    have h2:=flag_eq (nV_pos _) (nV_hi _) (cut_eq h1.2)
    have h3:=hX2 (cut_eq (cut_eq h2.2))
    rw [b01_odd (nV_pos _) h1.1,b01_odd (nV_pos _) h2.1,h3];rfl
abbrev ctN (n:Nat):Wi.RS→Nat:=fun _=>n
def goodD (B rm bu:Int) (zs:List Int) (st:Wi.RS):Bool:=Wi.wholeB (mOd bkE bkL cqF st) (mSt bkE bkL cqF st)&&pmP B rm bu zs (mPm bkE bkL cqF st)
def Cnt (st:Wi.RS) (i j q:Nat):Prop:=(Wi.nV st=17→BC (Wi.t9 st) i j)∧(Wi.nV st=22→BC (tS (Wi.aS (Wi.t9 st))) i j∧QC (rkS (tS (Wi.aS (Wi.t9 st))) i j) q)
theorem whole_ok2 {st:Wi.RS} {odd:Bool} (hu:uR st) (h:Wi.wholeB odd st=true):okB st:=by
  cases st with
  | ok zs a=>exact ⟨zs,a,rfl⟩
  | bad p c=>
    have hu:c≠0:=hu
    unfold Wi.wholeB at h
    rw [Bool.and_eq_true] at h
    exact absurd (of_decide_eq_true h.1) hu
theorem bkt_raw {s:Wi.RS} {i j:Nat} (hN:Wi.nV (Wi.nS s)=((i:Nat):Int)) (hM:Wi.nV (ensS i (Wi.nS (Wi.nS s)))=((j:Nat):Int)) :
    bktIts ⟨Wi.nV s,nilL (rkE s i).length,nilL (rkL s i j).length⟩ (rkE s i) (rkL s i j)=rkR s i j:=by
  unfold bktIts rkR
  show ((([It.n (Wi.nV s),It.n (((rkE s i).length:Nat):Int)]++fl (fun k=>entIts (eAt (rkE s i) k)) (rkE s i).length)++[It.n (((rkL s i j).length:Nat):Int)])++fl (fun k=>lasIts (lAt (rkL s i j) k)) (rkL s i j).length)=_
  have e1:(rkE s i).length=i:=ensL_len _ _
  have e2:(rkL s i j).length=j:=lasL_len _ _
  rw [e1,e2,hN,hM,fl_congr (f:=fun k=>entIts (eAt (rkE s i) k)) (fun k hk=>by unfold rkE;rw [ensL_at _ hk]),fl_congr (f:=fun k=>lasIts (lAt (rkL s i j) k)) (fun k hk=>by unfold rkL;rw [lasL_at _ hk])]
theorem cms_raw {s:Wi.RS} {q:Nat} (hN:Wi.nV s=((q:Nat):Int)) :
    [It.n (((cmsL q (Wi.nS s)).length:Nat):Int)]++fl (fun j=>cmdIts (cAt (cmsL q (Wi.nS s)) j)) (cmsL q (Wi.nS s)).length=[It.n (Wi.nV s)]++fl (fun k=>cmdIts (cmV (cmsS k (Wi.nS s)))) q:=by
  rw [cmsL_len,hN,fl_congr (f:=fun k=>cmdIts (cAt (cmsL q (Wi.nS s)) k)) (fun k hk=>by rw [cmsL_at _ hk])]
section
variable {B rm bu:Int} {zs:List Int} {body:List Int} {i j q:Nat}
abbrev refD (B rm bu:Int) (zs:List Int) (body:List Int) (i j q:Nat):Bool:=
  (Wi.errS (mSt (ctN i) (ctN j) (ctN q) (.ok body 0))).2==0&&(!Wi.moreS (mSt (ctN i) (ctN j) (ctN q) (.ok body 0))&&(pmP B rm bu zs (mPm (ctN i) (ctN j) (ctN q) (.ok body 0))&&decide (encB (pmI (mPm (ctN i) (ctN j) (ctN q) (.ok body 0)))=body)))
theorem dec_plain {F:List Int} (hu:uR (.ok body 0)) (hF:fieldsK (Wi.nV (.ok body 0))=F) (hS:∀ a b c a' b' c' s,fdsS a b c F s=fdsS a' b' c' F s) (hP:∀ a b c a' b' c' p s,fdsP a b c F p s=fdsP a' b' c' F p s) (hO:∀ a b c o s,fdsO a b c F o s=o)
    (hI:pmI (fdsP (ctN i) (ctN j) (ctN q) F (hdP (.ok body 0)) (Wi.t9 (.ok body 0)))=hdI (.ok body 0)++fdsR (ctN i) (ctN j) (ctN q) F (Wi.t9 (.ok body 0))) :
    goodD B rm bu zs (.ok body 0)=refD B rm bu zs body i j q∧(goodD B rm bu zs (.ok body 0)=true→mPm (ctN i) (ctN j) (ctN q) (.ok body 0)=mPm bkE bkL cqF (.ok body 0)):=by
  have e1:mSt bkE bkL cqF (.ok body 0)=mSt (ctN i) (ctN j) (ctN q) (.ok body 0):=by unfold mSt;rw [hF];exact hS ..
  have e2:mPm bkE bkL cqF (.ok body 0)=mPm (ctN i) (ctN j) (ctN q) (.ok body 0):=by unfold mPm;rw [hF];exact hP ..
  have e3:mOd bkE bkL cqF (.ok body 0)=(Wi.o2 false (.ok body 0)||false):=by unfold mOd;rw [hF,hO,Bool.or_false]
  refine ⟨?_,fun _=>e2.symm⟩
  unfold goodD refD
  rw [e1,e2,e3]
  have hT:=took_m (ctN i) (ctN j) (ctN q) (.ok body 0)
  have e4:pmI (mPm (ctN i) (ctN j) (ctN q) (.ok body 0))=hdI (.ok body 0)++mRw (ctN i) (ctN j) (ctN q) (.ok body 0):=by unfold mPm mRw;rw [hF];exact hI
  rw [e4]
  have hf:=hd_fin (st:=.ok body 0) (X:=mRw (ctN i) (ctN j) (ctN q) (.ok body 0)) (Y:=mRw (ctN i) (ctN j) (ctN q) (.ok body 0)) (o3:=false) (fun _=>rfl) (fun _=>rfl)
  exact fin_raw hu hT hf.1 hf.2
theorem pmI_F {bi bj bq:Wi.RS→Nat} {F:List Int} {st:Wi.RS} (hF:fieldsK (Wi.nV st)=F) (hk:(fdsP bi bj bq F (hdP st) (Wi.t9 st)).k=Wi.nV st) :
    pmI (fdsP bi bj bq F (hdP st) (Wi.t9 st))=hdIts (pmM (fdsP bi bj bq F (hdP st) (Wi.t9 st)))++fl (fun j=>fldIts (pmM (fdsP bi bj bq F (hdP st) (Wi.t9 st))) (fdsP bi bj bq F (hdP st) (Wi.t9 st)).bs (fdsP bi bj bq F (hdP st) (Wi.t9 st)).es (fdsP bi bj bq F (hdP st) (Wi.t9 st)).ls (fdsP bi bj bq F (hdP st) (Wi.t9 st)).cs (F[j]?.getD 0)) F.length:=by
  unfold pmI msgIts
  have hk2:(pmM (fdsP bi bj bq F (hdP st) (Wi.t9 st))).k=Wi.nV st:=hk
  rw [hk2,hF]
theorem fdP4 (a b c:Wi.RS→Nat) (p:Pm) (s:Wi.RS):fdP a b c 4 p s=⟨p.k,p.fr,p.too,p.op,p.rd,p.ky,p.st,p.hd,p.bs,p.c,Wi.nV s,rkE s (a s),rkL s (a s) (b s),p.cs,p.mo⟩:=rfl
theorem fdP5 (a b c:Wi.RS→Nat) (p:Pm) (s:Wi.RS):fdP a b c 5 p s=⟨p.k,p.fr,p.too,p.op,p.rd,p.ky,p.st,p.hd,p.bs,p.c,p.up,p.es,p.ls,cmsL (c s) (Wi.nS s),p.mo⟩:=rfl
theorem fdP6 (a b c:Wi.RS→Nat) (p:Pm) (s:Wi.RS):fdP a b c 6 p s=⟨p.k,p.fr,p.too,p.op,p.rd,p.ky,p.st,p.hd,p.bs,p.c,p.up,p.es,p.ls,p.cs,Wi.fV s⟩:=rfl
theorem dec_17 (hr:rm≤256) (hu:uR (.ok body 0)) (hk:Wi.nV (.ok body 0)=17) (hB:BC (Wi.t9 (.ok body 0)) i j) :
    goodD B rm bu zs (.ok body 0)=refD B rm bu zs body i j q∧(goodD B rm bu zs (.ok body 0)=true→mPm (ctN i) (ctN j) (ctN q) (.ok body 0)=mPm bkE bkL cqF (.ok body 0)):=by
  have hF:fieldsK (Wi.nV (.ok body 0))=[4]:=by rw [hk];exact fK17
  obtain ⟨st,hst⟩:∃ st,Wi.RS.ok body 0=st:=⟨_,rfl⟩
  have hu0:=hu
  rw [hst] at hu hk hB hF
  obtain ⟨S,hS⟩:∃ S,Wi.t9 st=S:=⟨_,rfl⟩
  have huS:uR S:=by rw [← hS];exact (took_hd st hu).1
  have s1:∀ a b c,mSt a b c st=rkS S (a S) (b S):=fun a b c=>by unfold mSt;rw [hF,hS];rfl
  have p1:∀ a b c,mPm a b c st=fdP a b c 4 (hdP st) S:=fun a b c=>by unfold mPm;rw [hF,hS];rfl
  rw [hS] at hB
  unfold goodD refD
  rw [hst,s1,s1,p1,p1]
  by_cases hm:BM S i j
  · obtain ⟨eE,eL,n1,n2⟩:=hm
    have e2:fdP bkE bkL cqF 4 (hdP st) S=fdP (ctN i) (ctN j) (ctN q) 4 (hdP st) S:=by rw [fdP4,fdP4,eE,eL]
    rw [e2,eE,eL]
    refine ⟨?_,fun _=>rfl⟩
    have hT:=took_m (ctN i) (ctN j) (ctN q) st
    rw [s1] at hT
    have hX:mRw (ctN i) (ctN j) (ctN q) st=rkR S i j++[]:=by unfold mRw;rw [hF,hS];rfl
    have hI:pmI (fdP (ctN i) (ctN j) (ctN q) 4 (hdP st) S)=hdI st++(rkR S i j++[]):=by
      have:=pmI_F (bi:=ctN i) (bj:=ctN j) (bq:=ctN q) hF rfl
      rw [hS] at this
      refine this.trans ?_
      rw [← bkt_raw n1 n2]
      rfl
    rw [hX] at hT
    have e3:mOd bkE bkL cqF st=(Wi.o2 false st||false):=by unfold mOd;rw [hF,Bool.or_false];rfl
    rw [hI,e3]
    have hf:=hd_fin (st:=st) (X:=rkR S i j++[]) (Y:=rkR S i j++[]) (o3:=false) (fun _=>rfl) (fun _=>rfl)
    rw [← hst] at hT hf ⊢
    exact fin_raw hu0 hT hf.1 hf.2
  · have c2:(Wi.wholeB (mOd bkE bkL cqF st) (rkS S (bkE S) (bkL S))&&pmP B rm bu zs (fdP bkE bkL cqF 4 (hdP st) S))=true→BM S i j:=fun h=>by
      rw [Bool.and_eq_true] at h
      have b:=pm_b17 hr (show (fdP bkE bkL cqF 4 (hdP st) S).k=17 from hk) h.2
      have b1:(rkE S (bkE S)).length≤256:=b.1
      have b2:(rkL S (bkE S) (bkL S)).length≤255:=b.2
      have l1:(rkE S (bkE S)).length=bkE S:=ensL_len _ _
      have l2:(rkL S (bkE S) (bkL S)).length=bkL S:=lasL_len _ _
      exact bk_m2 huS hB (whole_ok2 ((took_rk S _ _) huS).1 h.1) (by omega) (by omega)
    have c1:((Wi.errS (rkS S (ctN i S) (ctN j S))).2==0&&(!Wi.moreS (rkS S (ctN i S) (ctN j S))&&(pmP B rm bu zs (fdP (ctN i) (ctN j) (ctN q) 4 (hdP st) S)&&decide (encB (pmI (fdP (ctN i) (ctN j) (ctN q) 4 (hdP st) S))=body))))=true→BM S i j:=fun h=>by
      rw [Bool.and_eq_true,Bool.and_eq_true,Bool.and_eq_true] at h
      have b:=pm_b17 hr (show (fdP (ctN i) (ctN j) (ctN q) 4 (hdP st) S).k=17 from hk) h.2.2.1
      have b1:(rkE S i).length≤256:=b.1
      have b2:(rkL S i j).length≤255:=b.2
      have l1:(rkE S i).length=i:=ensL_len _ _
      have l2:(rkL S i j).length=j:=lasL_len _ _
      exact bk_m1 huS hB (err_ok ((took_rk S i j) huS).1 h.1) (by omega) (by omega)
    have f1:=Bool.eq_false_iff.2 (fun h=>hm (c2 h))
    have f2:=Bool.eq_false_iff.2 (fun h=>hm (c1 h))
    rw [f1,f2]
    exact ⟨rfl,fun h=>by cases h⟩
theorem dec_22 (hr:rm≤256) (hu:uR (.ok body 0)) (hk:Wi.nV (.ok body 0)=22) (hB:BC (tS (Wi.aS (Wi.t9 (.ok body 0)))) i j) (hQ:QC (rkS (tS (Wi.aS (Wi.t9 (.ok body 0)))) i j) q) :
    goodD B rm bu zs (.ok body 0)=refD B rm bu zs body i j q∧(goodD B rm bu zs (.ok body 0)=true→mPm (ctN i) (ctN j) (ctN q) (.ok body 0)=mPm bkE bkL cqF (.ok body 0)):=by
  have hF:fieldsK (Wi.nV (.ok body 0))=[0,2,4,5,6]:=by rw [hk];exact fK22
  obtain ⟨st,hst⟩:∃ st,Wi.RS.ok body 0=st:=⟨_,rfl⟩
  have hu0:=hu
  rw [hst] at hu hk hB hQ hF
  obtain ⟨S0,hS⟩:∃ S,Wi.t9 st=S:=⟨_,rfl⟩
  rw [hS] at hB hQ
  obtain ⟨S,hS2⟩:∃ S,tS (Wi.aS S0)=S:=⟨_,rfl⟩
  rw [hS2] at hB hQ
  have huS:uR S:=by rw [← hS2,← hS];exact (took_t _ (took_2 _ (took_hd st hu).1).1).1
  obtain ⟨p2,hp2⟩:∃ p2,fdP (ctN 0) (ctN 0) (ctN 0) 2 (fdP (ctN 0) (ctN 0) (ctN 0) 0 (hdP st) S0) (Wi.aS S0)=p2:=⟨_,rfl⟩
  have pk:p2.k=22:=by rw [← hp2];exact hk
  have s1:∀ a b c,mSt a b c st=Wi.nS (cmsS (c (rkS S (a S) (b S))) (Wi.nS (rkS S (a S) (b S)))):=fun a b c=>by unfold mSt;rw [hF,hS,← hS2];rfl
  have p1:∀ a b c,mPm a b c st=fdP a b c 6 (fdP a b c 5 (fdP a b c 4 p2 S) (rkS S (a S) (b S))) (cmsS (c (rkS S (a S) (b S))) (Wi.nS (rkS S (a S) (b S)))):=fun a b c=>by unfold mPm;rw [hF,hS,← hp2,← hS2];rfl
  have o1:∀ a b c,mOd a b c st=(Wi.o2 false st||decide (Wi.nV (cmsS (c (rkS S (a S) (b S))) (Wi.nS (rkS S (a S) (b S)))) > 1)):=fun a b c=>by unfold mOd;rw [hF,hS,← hS2];rfl
  have hM:∀ i j q,BM S i j→cqF (rkS S i j)=q→mSt bkE bkL cqF st=mSt (ctN i) (ctN j) (ctN q) st∧mPm bkE bkL cqF st=mPm (ctN i) (ctN j) (ctN q) st∧mOd bkE bkL cqF st=mOd (ctN i) (ctN j) (ctN q) st:=fun i j q hm hq=>by
    obtain ⟨eE,eL,_,_⟩:=hm
    refine ⟨?_,?_,?_⟩
    · rw [s1,s1,eE,eL,hq]
    · rw [p1,p1,fdP6,fdP6,fdP5,fdP5,fdP4,fdP4,eE,eL,hq]
    · rw [o1,o1,eE,eL,hq]
  have hm:((goodD B rm bu zs st=true)∨(refD B rm bu zs body i j q=true))→BM S i j∧cqF (rkS S i j)=q∧Wi.nV (rkS S i j)=((q:Nat):Int):=by
    rintro (h | h)
    · unfold goodD at h
      rw [Bool.and_eq_true] at h
      have b:=pm_b22 hr (by rw [p1];exact pk) h.2
      rw [p1] at b
      have b1:(rkE S (bkE S)).length≤256:=b.1
      have b2:(rkL S (bkE S) (bkL S)).length≤255:=b.2.1
      have b3:(cmsL (cqF (rkS S (bkE S) (bkL S))) (Wi.nS (rkS S (bkE S) (bkL S)))).length≤64:=b.2.2
      have l1:(rkE S (bkE S)).length=bkE S:=ensL_len _ _
      have l2:(rkL S (bkE S) (bkL S)).length=bkL S:=lasL_len _ _
      rw [cmsL_len] at b3
      have h1:=h.1
      rw [s1] at h1
      have u4:=((took_rk S (bkE S) (bkL S)) huS).1
      have u5:=cms_u (took_n _ u4).1 (cqF (rkS S (bkE S) (bkL S)))
      have k6:=whole_ok2 (took_n _ u5).1 h1
      have k5:=took_back (took_n _) u5 k6
      have k4:=took_back (took_n _) u4 (cms_back (took_n _ u4).1 (Nat.zero_le _) k5)
      have hb:=bk_m2 huS hB k4 (by omega) (by omega)
      obtain ⟨eE,eL,_,_⟩:=id hb
      rw [eE,eL] at u4 k5 b3
      exact ⟨hb,cm_m2 u4 hQ k5 b3⟩
    · unfold refD at h
      rw [hst,Bool.and_eq_true,Bool.and_eq_true,Bool.and_eq_true] at h
      have b:=pm_b22 hr (by rw [p1];exact pk) h.2.2.1
      rw [p1] at b
      have b1:(rkE S i).length≤256:=b.1
      have b2:(rkL S i j).length≤255:=b.2.1
      have b3:(cmsL q (Wi.nS (rkS S i j))).length≤64:=b.2.2
      have l1:(rkE S i).length=i:=ensL_len _ _
      have l2:(rkL S i j).length=j:=lasL_len _ _
      rw [cmsL_len] at b3
      have h1:=h.1
      rw [s1] at h1
      have u4:=((took_rk S i j) huS).1
      have u5:=cms_u (took_n _ u4).1 q
      have k6:=err_ok (took_n _ u5).1 h1
      have k5:=took_back (took_n _) u5 k6
      have k4:=took_back (took_n _) u4 (cms_back (took_n _ u4).1 (Nat.zero_le _) k5)
      exact ⟨bk_m1 huS hB k4 (by omega) (by omega),cm_m1 hQ k5 b3⟩
  rw [hst]
  by_cases hx:BM S i j∧cqF (rkS S i j)=q∧Wi.nV (rkS S i j)=((q:Nat):Int)
  · obtain ⟨hb,hq,n3⟩:=hx
    obtain ⟨e1,e2,e3⟩:=hM i j q hb hq
    refine ⟨?_,fun _=>e2.symm⟩
    unfold goodD refD
    rw [hst,e1,e2,e3]
    obtain ⟨_,_,n1,n2⟩:=hb
    obtain ⟨v,hv⟩:∃ v,cmsS q (Wi.nS (rkS S i j))=v:=⟨_,rfl⟩
    obtain ⟨Y,hY⟩:∃ Y,([It.n (Wi.nV S0),It.n (Wi.nV (Wi.nS S0))]++([It.b (tV (Wi.aS S0))]++(rkR S i j++([It.n (Wi.nV (rkS S i j))]++fl (fun k=>cmdIts (cmV (cmsS k (Wi.nS (rkS S i j))))) q))))=Y:=⟨_,rfl⟩
    have hX:mRw (ctN i) (ctN j) (ctN q) st=Y++[It.n (Wi.nV v)]:=by
      unfold mRw
      rw [hF,hS,← hY,← hv]
      simp only[List.append_assoc]
      rw [← hS2]
      rfl
    have hI:pmI (mPm (ctN i) (ctN j) (ctN q) st)=hdI st++(Y++[It.n (b01 (Wi.nV v))]):=by
      have:=pmI_F (bi:=ctN i) (bj:=ctN j) (bq:=ctN q) hF rfl
      rw [hS] at this
      have e0:mPm (ctN i) (ctN j) (ctN q) st=fdsP (ctN i) (ctN j) (ctN q) [0,2,4,5,6] (hdP st) S0:=by unfold mPm;rw [hF,hS]
      rw [e0]
      refine this.trans ?_
      rw [← hY,← hv,← bkt_raw n1 n2,← cms_raw n3,← hS2]
      simp only[List.append_assoc]
      rfl
    have hT:=took_m (ctN i) (ctN j) (ctN q) st
    rw [hX] at hT
    have e4:mOd (ctN i) (ctN j) (ctN q) st=(Wi.o2 false st||decide (Wi.nV v > 1)):=by rw [o1,← hv]
    rw [hI,e4]
    have hf:=hd_fin (st:=st) (X:=Y++[It.n (Wi.nV v)]) (Y:=Y++[It.n (b01 (Wi.nV v))]) (o3:=decide (Wi.nV v > 1)) (fun h=>by rw [b01_eq (nV_pos _) h])
      (fun h=>b01_odd (nV_pos _) (flag_eq (X:=[]) (Y:=[]) (nV_pos _) (nV_hi _) (by simpa using cut_eq h)).1)
    rw [← hst] at hT hf ⊢
    exact fin_raw hu0 hT hf.1 hf.2
  · have f1:=Bool.eq_false_iff.2 (fun h=>hx (hm (.inl h)))
    have f2:=Bool.eq_false_iff.2 (fun h=>hx (hm (.inr h)))
    rw [f1,f2]
    exact ⟨rfl,fun h=>by cases h⟩
theorem dec_good (hr:rm≤256) (hu:uR (.ok body 0)) (hc:Cnt (.ok body 0) i j q) :
    goodD B rm bu zs (.ok body 0)=refD B rm bu zs body i j q∧(goodD B rm bu zs (.ok body 0)=true→mPm (ctN i) (ctN j) (ctN q) (.ok body 0)=mPm bkE bkL cqF (.ok body 0)):=by
  rcases fk_cases (Wi.nV (.ok body 0)) with h | h | h | h | h | ⟨hk,h⟩ | ⟨hk,h⟩ | h
  · exact dec_plain hu h (fun _ _ _ _ _ _ _=>rfl) (fun _ _ _ _ _ _ _ _=>rfl) (fun _ _ _ _ _=>rfl) ((pmI_F h rfl).trans rfl)
  · exact dec_plain hu h (fun _ _ _ _ _ _ _=>rfl) (fun _ _ _ _ _ _ _ _=>rfl) (fun _ _ _ _ _=>rfl) ((pmI_F h rfl).trans rfl)
  · exact dec_plain hu h (fun _ _ _ _ _ _ _=>rfl) (fun _ _ _ _ _ _ _ _=>rfl) (fun _ _ _ _ _=>rfl) ((pmI_F h rfl).trans rfl)
  · exact dec_plain hu h (fun _ _ _ _ _ _ _=>rfl) (fun _ _ _ _ _ _ _ _=>rfl) (fun _ _ _ _ _=>rfl) ((pmI_F h rfl).trans rfl)
  · exact dec_plain hu h (fun _ _ _ _ _ _ _=>rfl) (fun _ _ _ _ _ _ _ _=>rfl) (fun _ _ _ _ _=>rfl) ((pmI_F h rfl).trans rfl)
  · exact dec_17 hr hu hk (hc.1 hk)
  · exact dec_22 hr hu hk (hc.2 hk).1 (hc.2 hk).2
  · exact dec_plain hu h (fun _ _ _ _ _ _ _=>rfl) (fun _ _ _ _ _ _ _ _=>rfl) (fun _ _ _ _ _=>rfl) ((pmI_F h rfl).trans rfl)
end
def AtO (st:Wi.RS) (L:List It):Prop:=(∃ a,st=.ok (encB L) a)∧okL L
theorem ao_n {st:Wi.RS} {v:Int} {X:List It} (h:AtO st (It.n v :: X)):Wi.nV st=v∧AtO (Wi.nS st) X:=by
  obtain ⟨⟨a,rfl⟩,hok⟩:=h
  have hv:0≤v∧v≤1099511627776:=hok _ (List.mem_cons_self ..)
  have e0:encB (It.n v :: X)=Wi.vint v.toNat++encB X:=encB_n v X
  have hr:=Wi.nr_vint v.toNat (encB X) (by omega)
  rw [e0]
  refine ⟨?_,⟨a+(Wi.vint v.toNat).length,?_⟩,fun x hx=>hok x (List.mem_cons_of_mem _ hx)⟩
  · simp only[Wi.nV,Wi.numS,hr];omega
  · simp only[Wi.nS,Wi.numS,hr,List.drop_left]
theorem ao_b {st:Wi.RS} {zs:List Int} {X:List It} (h:AtO st (It.b zs :: X)):tV st=zs∧AtO (tS st) X:=by
  obtain ⟨⟨a,rfl⟩,hok⟩:=h
  have hv:zs.length≤4096∧Wi.U8 zs:=hok _ (List.mem_cons_self ..)
  have e0:encB (It.b zs :: X)=Wi.vint zs.length++zs++encB X:=by simp [encB,encIt]
  have hr:=Wi.cr_vint zs (encB X) (by omega)
  rw [e0]
  refine ⟨?_,⟨a+((Wi.vint zs.length).length+zs.length),?_⟩,fun x hx=>hok x (List.mem_cons_of_mem _ hx)⟩
  · simp only[tV,Wi.bytesS,hr]
    rw [List.append_assoc,List.drop_left,List.take_left]
  · simp only[tS,Wi.bytesS,hr]
    rw [← List.drop_drop,List.append_assoc,List.drop_left,List.drop_left]
theorem ao_2 {st:Wi.RS} {a b:Int} {X:List It} (h:AtO st (It.n a :: It.n b :: X)):stV st=⟨a,b⟩∧AtO (Wi.aS st) X:=by
  obtain ⟨h1,h2⟩:=ao_n h
  obtain ⟨h3,h4⟩:=ao_n h2
  exact ⟨by unfold stV;rw [h1,h3],h4⟩
theorem str_num (s:ByteArray):Wi.strOf (Wi.numsOf s)=s:=by
  unfold Wi.strOf Wi.numsOf
  apply ByteArray.ext
  apply Array.toList_inj.1
  simp only[List.map_map]
  conv=>rhs;rw [← List.map_id s.data.toList]
  apply List.map_congr_left
  intro b _
  simp
theorem ao_cm {st:Wi.RS} {x:Cm} {X:List It} (h:AtO st (cmdIts x++X)) (hz:x.k=0→x=cZ):cmV st=x∧AtO (cmS st) X:=by
  unfold cmdIts at h
  cases hk:(x.k==0)
  · rw [hk] at h
    obtain ⟨n1,h1⟩:=ao_n h
    obtain ⟨n2,h2⟩:=ao_n h1
    obtain ⟨n3,h3⟩:=ao_n h2
    obtain ⟨n4,h4⟩:=ao_b h3
    obtain ⟨n5,h5⟩:=ao_2 h4
    obtain ⟨n6,h6⟩:=ao_2 h5
    obtain ⟨n7,h7⟩:=ao_n h6
    have e:(Wi.nV st==0)=false:=by rw [n1];exact hk
    unfold cmV cmS
    rw [e]
    refine ⟨?_,h7⟩
    show cmW st=x
    have e5:Wi.nV (tS (Wi.nS (Wi.nS (Wi.nS st))))=x.f0∧Wi.nV (Wi.nS (tS (Wi.nS (Wi.nS (Wi.nS st)))))=x.f1:=⟨congrArg Sp.n n5,congrArg Sp.c n5⟩
    have e6:Wi.nV (Wi.aS (tS (Wi.nS (Wi.nS (Wi.nS st)))))=x.g0∧Wi.nV (Wi.nS (Wi.aS (tS (Wi.nS (Wi.nS (Wi.nS st))))))=x.g1:=⟨congrArg Sp.n n6,congrArg Sp.c n6⟩
    have e7:Wi.nV (cm6 st)=x.sz:=n7
    unfold cmW
    rw [n1,n2,n3,n4,str_num,e5.1,e5.2,e6.1,e6.2,e7]
  · rw [hk] at h
    have h0:x.k=0:=eq_of_beq hk
    obtain ⟨n1,h1⟩:=ao_n h
    have e:(Wi.nV st==0)=true:=by rw [n1];exact hk
    unfold cmV cmS
    rw [e]
    exact ⟨(hz h0).symm,h1⟩
theorem ao_en {st:Wi.RS} {x:En} {X:List It} (h:AtO st (entIts x++X)):enV st=x∧AtO (enS st) X:=by
  obtain ⟨n1,h1⟩:=ao_b h
  obtain ⟨n2,h2⟩:=ao_2 h1
  obtain ⟨n3,h3⟩:=ao_n h2
  have e2:Wi.nV (tS st)=x.f0∧Wi.nV (Wi.nS (tS st))=x.f1:=⟨congrArg Sp.n n2,congrArg Sp.c n2⟩
  refine ⟨?_,h3⟩
  unfold enV
  rw [n1,str_num,e2.1,e2.2,n3]
theorem ao_la {st:Wi.RS} {x:La} {X:List It} (h:AtO st (lasIts x++X)):laV st=x∧AtO (laS st) X:=by
  obtain ⟨n1,h1⟩:=ao_n h
  obtain ⟨n2,h2⟩:=ao_n h1
  obtain ⟨n3,h3⟩:=ao_n h2
  obtain ⟨n4,h4⟩:=ao_n h3
  obtain ⟨n5,h5⟩:=ao_2 h4
  obtain ⟨n6,h6⟩:=ao_n h5
  have e5:Wi.nV (la4 st)=x.f0∧Wi.nV (Wi.nS (la4 st))=x.f1:=⟨congrArg Sp.n n5,congrArg Sp.c n5⟩
  have e6:Wi.nV (Wi.aS (la4 st))=x.sz:=n6
  refine ⟨?_,h6⟩
  unfold laV
  rw [n1,n2,n3,n4,e5.1,e5.2,e6]
theorem fl_front (f:Nat→List It):∀ n,fl f (n+1)=f 0++fl (fun j=>f (j+1)) n
  | 0=>by rw [fl_succ,fl0,fl0,List.nil_append,List.append_nil]
  | n+1=>by rw [fl_succ,fl_front f n,fl_succ,List.append_assoc]
theorem ens_front (st:Wi.RS):∀ n,ensS (n+1) st=ensS n (enS st)
  | 0=>rfl
  | n+1=>by show enS (ensS (n+1) st)=enS (ensS n (enS st));rw [ens_front st n]
theorem las_front (st:Wi.RS):∀ n,lasS (n+1) st=lasS n (laS st)
  | 0=>rfl
  | n+1=>by show laS (lasS (n+1) st)=laS (lasS n (laS st));rw [las_front st n]
theorem cms_front (st:Wi.RS):∀ n,cmsS (n+1) st=cmsS n (cmS st)
  | 0=>rfl
  | n+1=>by show cmS (cmsS (n+1) st)=cmS (cmsS n (cmS st));rw [cms_front st n]
theorem ensL_front (st:Wi.RS) (n:Nat):ensL (n+1) st=enV st :: ensL n (enS st):=by
  unfold ensL
  rw [List.range_succ_eq_map,List.map_cons,List.map_map]
  refine congrArg _ (List.map_congr_left fun i _=>?_)
  show enV (ensS (i+1) st)=_
  rw [ens_front]
theorem lasL_front (st:Wi.RS) (n:Nat):lasL (n+1) st=laV st :: lasL n (laS st):=by
  unfold lasL
  rw [List.range_succ_eq_map,List.map_cons,List.map_map]
  refine congrArg _ (List.map_congr_left fun i _=>?_)
  show laV (lasS (i+1) st)=_
  rw [las_front]
theorem cmsL_front (st:Wi.RS) (n:Nat):cmsL (n+1) st=cmV st :: cmsL n (cmS st):=by
  unfold cmsL
  rw [List.range_succ_eq_map,List.map_cons,List.map_map]
  refine congrArg _ (List.map_congr_left fun i _=>?_)
  show cmV (cmsS (i+1) st)=_
  rw [cms_front]
theorem ao_ens:∀ (es:List En) {st:Wi.RS} {X:List It},AtO st (fl (fun j=>entIts (eAt es j)) es.length++X)→ensL es.length st=es∧AtO (ensS es.length st) X
  | [],st,X,h=>⟨rfl,h⟩
  | x :: t,st,X,h=>by
    rw [List.length_cons,fl_front,List.append_assoc] at h
    obtain ⟨h1,h2⟩:=ao_en h
    obtain ⟨h3,h4⟩:=ao_ens t h2
    rw [List.length_cons,ensL_front,ens_front,h1,h3]
    exact ⟨rfl,h4⟩
theorem ao_las:∀ (es:List La) {st:Wi.RS} {X:List It},AtO st (fl (fun j=>lasIts (lAt es j)) es.length++X)→lasL es.length st=es∧AtO (lasS es.length st) X
  | [],st,X,h=>⟨rfl,h⟩
  | x :: t,st,X,h=>by
    rw [List.length_cons,fl_front,List.append_assoc] at h
    obtain ⟨h1,h2⟩:=ao_la h
    obtain ⟨h3,h4⟩:=ao_las t h2
    rw [List.length_cons,lasL_front,las_front,h1,h3]
    exact ⟨rfl,h4⟩
theorem ao_cms:∀ (es:List Cm) {st:Wi.RS} {X:List It},(∀ j,j < es.length→(cAt es j).k=0→cAt es j=cZ)→AtO st (fl (fun j=>cmdIts (cAt es j)) es.length++X)→cmsL es.length st=es∧AtO (cmsS es.length st) X
  | [],st,X,_,h=>⟨rfl,h⟩
  | x :: t,st,X,hz,h=>by
    rw [List.length_cons,fl_front,List.append_assoc] at h
    obtain ⟨h1,h2⟩:=ao_cm h (hz 0 (by simp))
    obtain ⟨h3,h4⟩:=ao_cms t (fun j hj=>hz (j+1) (by simp;omega)) h2
    rw [List.length_cons,cmsL_front,cms_front,h1,h3]
    exact ⟨rfl,h4⟩
theorem ao_bk {st:Wi.RS} {x:Bv} {es:List En} {ls:List La} {X:List It} (h:AtO st (bktIts x es ls++X)) (he:es.length=x.e.l) (hl:ls.length=x.l.l) (b1:es.length≤256) (b2:ls.length≤255) :
    Wi.nV st=x.up∧rkE st (bkE st)=es∧rkL st (bkE st) (bkL st)=ls∧AtO (rkS st (bkE st) (bkL st)) X:=by
  unfold bktIts at h
  rw [← he,← hl] at h
  simp only[List.append_assoc] at h
  obtain ⟨n1,h1⟩:=ao_n h
  obtain ⟨n2,h2⟩:=ao_n h1
  obtain ⟨n3,h3⟩:=ao_ens es h2
  obtain ⟨n4,h4⟩:=ao_n h3
  obtain ⟨n5,h5⟩:=ao_las ls h4
  have eE:bkE st=es.length:=by unfold bkE cntK;rw [n2];split <;> omega
  have eL:bkL st=ls.length:=by unfold bkL cntK bk2;rw [eE,n4];split <;> omega
  unfold rkE rkL rkS
  rw [eE,eL]
  exact ⟨n1,n3,n5,h5⟩
theorem cmdP_k {B:Int} {x:Cm} (h:cmdP B x=true):x.k≠0:=by
  intro e
  unfold cmdP at h
  rw [e] at h
  cases hq:(!wn x.cl 1 255||!wn x.op 1 1099511627776)
  · rw [hq] at h;cases h
  · rw [hq] at h;cases h
def pOf (m:Mg) (bs:List Int) (es:List En) (ls:List La) (cs:List Cm):Pm:=⟨m.k,m.fr,m.too,m.op,m.rd,m.ky,m.st,m.hd,bs,m.c,m.bk.up,es,ls,cs,m.mo⟩
theorem ao_hd {st:Wi.RS} {m:Mg} {X:List It} (h:AtO st (hdIts m++X)):hdP st=⟨m.k,m.fr,m.too,m.op,m.rd,m.ky,spZ,spZ,[],cZ,0,[],[],[],false⟩∧Wi.o2 false st=false∧AtO (Wi.t9 st) X:=by
  obtain ⟨n0,h0⟩:=ao_n h
  obtain ⟨n1,h1⟩:=ao_n h0
  obtain ⟨n2,h2⟩:=ao_n h1
  obtain ⟨n3,h3⟩:=ao_n h2
  obtain ⟨n4,h4⟩:=ao_n h3
  obtain ⟨n5,h5⟩:=ao_n h4
  obtain ⟨n6,h6⟩:=ao_n h5
  obtain ⟨n7,h7⟩:=ao_n h6
  obtain ⟨n8,h8⟩:=ao_n h7
  obtain ⟨n9,h9⟩:=ao_n h8
  obtain ⟨n10,h10⟩:=ao_n h9
  have f1:Wi.fV (Wi.t1 st)=m.fr.cl:=by unfold Wi.fV;rw [show Wi.nV (Wi.t1 st)=_ from n1];cases m.fr.cl <;> rfl
  have f2:Wi.fV (Wi.t2 st)=m.too.cl:=by unfold Wi.fV;rw [show Wi.nV (Wi.t2 st)=_ from n3];cases m.too.cl <;> rfl
  refine ⟨?_,?_,h10⟩
  · unfold hdP adV kyV
    rw [f1,f2,n0,show Wi.nV (Wi.nS (Wi.t1 st))=_ from n2,show Wi.nV (Wi.nS (Wi.t2 st))=_ from n4,show Wi.nV (Wi.t3 st)=_ from n5,show Wi.nV (Wi.t4 st)=_ from n6,show Wi.nV (Wi.t5 st)=_ from n7,show Wi.nV (Wi.nS (Wi.t5 st))=_ from n8,show Wi.nV (Wi.nS (Wi.nS (Wi.t5 st)))=_ from n9,show Wi.nV (Wi.nS (Wi.nS (Wi.nS (Wi.t5 st))))=_ from n10]
  · rw [o2_is,show Wi.nV (Wi.t1 st)=_ from n1,show Wi.nV (Wi.t2 st)=_ from n3]
    cases m.fr.cl <;> cases m.too.cl <;> rfl
theorem fk_03 {k:Int} (h:fieldsK k=[0,3]):k=4:=by
  unfold fieldsK at h
  repeat' (split at h)
  all_goals first | assumption | (simp at h)
theorem fk_3 {k:Int} (h:fieldsK k=[3]):k=5∨k=16:=by
  unfold fieldsK at h
  repeat' (split at h)
  all_goals first | assumption | (simp at h)
theorem fk_013 {k:Int} (h:fieldsK k=[0,1,3]):k=13:=by
  unfold fieldsK at h
  repeat' (split at h)
  all_goals first | assumption | (simp at h)
structure Onl (m:Mg) (bs:List Int) (es:List En) (ls:List La) (cs:List Cm) (F:List Int):Prop where
  st:hasB F 0=false→m.st=spZ
  hd:hasB F 1=false→m.hd=spZ
  bl:hasB F 2=false→bs=[]
  c:hasB F 3=false→m.c=cZ
  bk:hasB F 4=false→m.bk.up=0∧es=[]∧ls=[]
  cm:hasB F 5=false→cs=[]
  mo:hasB F 6=false→m.mo=false
theorem onl_all {m:Mg} {bs:List Int} {es:List En} {ls:List La} {cs:List Cm} {F:List Int} (hb:bs.length=m.bl.l) (he:es.length=m.bk.e.l) (hl:ls.length=m.bk.l.l) (hc:cs.length=m.cm.l) (h:onlyP m F=true):Onl m bs es ls cs F:=by
  rw [onl] at h
  simp only[Bool.and_eq_true] at h
  obtain ⟨h0,h1,h2,h3,h4,h5,h6⟩:=h
  refine ⟨fun e=>?_,fun e=>?_,fun e=>?_,fun e=>?_,fun e=>?_,fun e=>?_,fun e=>?_⟩
  · rw [e,Bool.or_false] at h0;exact eqS_iff.1 h0
  · rw [e,Bool.or_false] at h1;exact eqS_iff.1 h1
  · rw [e,Bool.or_false] at h2
    have:=eq_of_beq h2
    exact List.length_eq_zero_iff.1 (by omega)
  · rw [e,Bool.or_false] at h3;exact eqC_iff.1 h3
  · rw [e,Bool.or_false] at h4
    unfold empK at h4
    rw [Bool.and_eq_true,Bool.and_eq_true] at h4
    have e1:=eq_of_beq h4.2.1
    have e2:=eq_of_beq h4.2.2
    exact ⟨eq_of_beq h4.1,List.length_eq_zero_iff.1 (by omega),List.length_eq_zero_iff.1 (by omega)⟩
  · rw [e,Bool.or_false] at h5
    have:=eq_of_beq h5
    exact List.length_eq_zero_iff.1 (by omega)
  · rw [e,Bool.or_false] at h6
    cases hm:m.mo
    · rfl
    · rw [hm] at h6;cases h6
theorem row_z {B:Int} {cs:List Cm} (h:rowP B cs=true):∀ j,j < cs.length→(cAt cs j).k=0→cAt cs j=cZ:=fun j hj hk=>by
  have h1:=rng_all h j hj
  simp only[Bool.or_eq_true] at h1
  rcases h1 with h1 | h1
  · exact eqC_iff.1 h1
  · exact absurd hk (cmdP_k h1)
section
variable {B rm bu:Int} {zs:List Int} {m:Mg} {bs:List Int} {es:List En} {ls:List La} {cs:List Cm}
theorem msgP_parts (h:msgP B rm bu zs m bs es ls cs=true):onlyP m (fieldsK m.k)=true∧fldsP B rm m bs es ls cs=true:=by
  unfold msgP at h
  rw [Bool.and_eq_true,Bool.and_eq_true,Bool.and_eq_true] at h
  exact h.2.2
theorem have_z (hc:cs.length=m.cm.l) (h:haveP B rm m es ls cs=true):∀ j,j < cs.length→(cAt cs j).k=0→cAt cs j=cZ:=by
  have key:∀ fs:List Int,hasB fs 5=false→onlyP m fs=true→cs=[]:=fun fs hf ho=>by
    have:=(onl_t ho).2
    rw [hf,Bool.or_false] at this
    have h1:=eq_of_beq this
    exact List.length_eq_zero_iff.1 (by omega)
  have k0:cs=[]→∀ j,j < cs.length→(cAt cs j).k=0→cAt cs j=cZ:=fun e j hj=>by subst e;simp at hj
  unfold haveP at h
  cases q1:(m.ky.k==1&&eqS m.st spZ)
  · rw [q1] at h
    cases q2:(m.ky.k==1)
    · rw [q2] at h
      cases q3:eqS m.st spZ
      · rw [q3] at h
        simp only[cond_false,Bool.and_eq_true] at h
        have h4:=h.2.2
        unfold rowsP at h4
        cases q4:(decide (64 < ((m.cm.l:Nat):Int))||decide (1048577 < m.st.n+((m.cm.l:Nat):Int)))
        · rw [q4] at h4;exact row_z h4
        · rw [q4] at h4;cases h4
      · rw [q3] at h
        simp only[cond_false,cond_true,Bool.and_eq_true] at h
        exact k0 (key _ (by decide) h.1)
    · rw [q2] at h
      simp only[cond_false,cond_true,Bool.and_eq_true] at h
      exact k0 (key _ (by decide) h.1)
  · rw [q1] at h
    simp only[cond_true] at h
    exact k0 (key _ (by decide) h)
theorem back_msg {st:Wi.RS} (hr:rm≤256) (hb:bs.length=m.bl.l) (he:es.length=m.bk.e.l) (hl:ls.length=m.bk.l.l) (hc:cs.length=m.cm.l) (h:msgP B rm bu zs m bs es ls cs=true) (ha:AtO st (msgIts m bs es ls cs)) :
    mPm bkE bkL cqF st=pOf m bs es ls cs∧mOd bkE bkL cqF st=false∧∃ a,mSt bkE bkL cqF st=.ok [] a:=by
  obtain ⟨ho,hf⟩:=msgP_parts h
  have hO:=onl_all hb he hl hc ho
  have hpP:pmP B rm bu zs (pOf m bs es ls cs)=true:=by rw [← pmP_is B rm bu zs (pOf m bs es ls cs) m.bl m.bk.e m.bk.l m.cm hb.symm he.symm hl.symm hc.symm];exact h
  have ha0:=ha
  unfold msgIts at ha
  obtain ⟨hh,h2,h3⟩:=ao_hd ha
  have hk:Wi.nV st=m.k:=congrArg Pm.k hh
  unfold mPm mOd mSt
  rw [hk,hh,h2]
  have fin:∀ {s:Wi.RS},AtO s []→∃ a,s=.ok [] a:=fun h=>h.1
  have nil:∀ L:List It,L=L++[]:=fun L=>(List.append_nil L).symm
  rcases fk_cases m.k with hF | hF | hF | hF | hF | ⟨hk2,hF⟩ | ⟨hk2,hF⟩ | hF
  · rw [hF] at hO h3 ⊢
    obtain ⟨n1,h4⟩:=ao_2 (X:=[It.b bs]) h3
    obtain ⟨n2,h5⟩:=ao_b (X:=[]) h4
    refine ⟨?_,rfl,fin h5⟩
    show (⟨m.k,m.fr,m.too,m.op,m.rd,m.ky,stV (Wi.t9 st),spZ,tV (Wi.aS (Wi.t9 st)),cZ,0,[],[],[],false⟩:Pm)=_
    unfold pOf
    rw [n1,n2,hO.hd (by decide),hO.c (by decide),(hO.bk (by decide)).1,(hO.bk (by decide)).2.1,(hO.bk (by decide)).2.2,hO.cm (by decide),hO.mo (by decide)]
  · rw [hF] at hO h3 ⊢
    obtain ⟨n1,h4⟩:=ao_2 (X:=[]) h3
    refine ⟨?_,rfl,fin h4⟩
    show (⟨m.k,m.fr,m.too,m.op,m.rd,m.ky,stV (Wi.t9 st),spZ,[],cZ,0,[],[],[],false⟩:Pm)=_
    unfold pOf
    rw [n1,hO.hd (by decide),hO.bl (by decide),hO.c (by decide),(hO.bk (by decide)).1,(hO.bk (by decide)).2.1,(hO.bk (by decide)).2.2,hO.cm (by decide),hO.mo (by decide)]
  · have hk4:=fk_03 hF
    have hcm:cmdP B m.c=true:=by
      unfold fldsP at hf
      rw [hk4] at hf
      have h1:(oneS m.st&&cmdP B m.c)=true:=hf
      rw [Bool.and_eq_true] at h1;exact h1.2
    rw [hF] at hO h3 ⊢
    obtain ⟨n1,h4⟩:=ao_2 (X:=cmdIts m.c++[]) h3
    obtain ⟨n2,h5⟩:=ao_cm h4 (fun e=>absurd e (cmdP_k hcm))
    refine ⟨?_,rfl,fin h5⟩
    show (⟨m.k,m.fr,m.too,m.op,m.rd,m.ky,stV (Wi.t9 st),spZ,[],cmV (Wi.aS (Wi.t9 st)),0,[],[],[],false⟩:Pm)=_
    unfold pOf
    rw [n1,n2,hO.hd (by decide),hO.bl (by decide),(hO.bk (by decide)).1,(hO.bk (by decide)).2.1,(hO.bk (by decide)).2.2,hO.cm (by decide),hO.mo (by decide)]
  · have hcm:cmdP B m.c=true:=by
      unfold fldsP at hf
      rcases fk_3 hF with e | e <;> rw [e] at hf <;> exact hf
    rw [hF] at hO h3 ⊢
    obtain ⟨n2,h5⟩:=ao_cm (X:=[]) h3 (fun e=>absurd e (cmdP_k hcm))
    refine ⟨?_,rfl,fin h5⟩
    show (⟨m.k,m.fr,m.too,m.op,m.rd,m.ky,spZ,spZ,[],cmV (Wi.t9 st),0,[],[],[],false⟩:Pm)=_
    unfold pOf
    rw [n2,hO.st (by decide),hO.hd (by decide),hO.bl (by decide),(hO.bk (by decide)).1,(hO.bk (by decide)).2.1,(hO.bk (by decide)).2.2,hO.cm (by decide),hO.mo (by decide)]
  · have hk13:=fk_013 hF
    have hcm:m.c.k=0→m.c=cZ:=by
      unfold fldsP at hf
      rw [hk13] at hf
      have h1:(oneS m.st&&heldP B m.st m.hd m.c)=true:=hf
      rw [Bool.and_eq_true] at h1
      have h2:=h1.2
      unfold heldP at h2
      cases q:eqS m.hd spZ
      · rw [q] at h2
        simp only[cond_false,Bool.and_eq_true] at h2
        exact fun e=>absurd e (cmdP_k h2.2.2)
      · rw [q] at h2
        exact fun _=>eqC_iff.1 h2
    rw [hF] at hO h3 ⊢
    obtain ⟨n1,h4⟩:=ao_2 (X:=It.n m.hd.n :: It.n m.hd.c :: (cmdIts m.c++[])) h3
    obtain ⟨n2,h5⟩:=ao_2 h4
    obtain ⟨n3,h6⟩:=ao_cm h5 hcm
    refine ⟨?_,rfl,fin h6⟩
    show (⟨m.k,m.fr,m.too,m.op,m.rd,m.ky,stV (Wi.t9 st),stV (Wi.aS (Wi.t9 st)),[],cmV (Wi.aS (Wi.aS (Wi.t9 st))),0,[],[],[],false⟩:Pm)=_
    unfold pOf
    rw [n1,n2,n3,hO.bl (by decide),(hO.bk (by decide)).1,(hO.bk (by decide)).2.1,(hO.bk (by decide)).2.2,hO.cm (by decide),hO.mo (by decide)]
  · have bd:=pm_b17 hr (show (pOf m bs es ls cs).k=17 from hk2) hpP
    rw [hF] at hO h3 ⊢
    obtain ⟨n1,n2,n3,h5⟩:=ao_bk (X:=[]) h3 he hl bd.1 bd.2
    refine ⟨?_,rfl,fin h5⟩
    show (⟨m.k,m.fr,m.too,m.op,m.rd,m.ky,spZ,spZ,[],cZ,Wi.nV (Wi.t9 st),rkE (Wi.t9 st) (bkE (Wi.t9 st)),rkL (Wi.t9 st) (bkE (Wi.t9 st)) (bkL (Wi.t9 st)),[],false⟩:Pm)=_
    unfold pOf
    rw [n1,n2,n3,hO.st (by decide),hO.hd (by decide),hO.bl (by decide),hO.c (by decide),hO.cm (by decide),hO.mo (by decide)]
  · have bd:=pm_b22 hr (show (pOf m bs es ls cs).k=22 from hk2) hpP
    have hz:∀ j,j < cs.length→(cAt cs j).k=0→cAt cs j=cZ:=by
      unfold fldsP at hf
      rw [hk2] at hf
      exact have_z hc hf
    rw [hF] at hO h3 ⊢
    obtain ⟨n1,h4⟩:=ao_2 (X:=[It.b bs]++(bktIts m.bk es ls++(([It.n ((m.cm.l:Nat):Int)]++fl (fun j=>cmdIts (cAt cs j)) m.cm.l)++([It.n (bif m.mo then 1 else 0)]++[])))) (by
      have e:fl (fun j=>fldIts m bs es ls cs (([0,2,4,5,6]:List Int)[j]?.getD 0)) ([0,2,4,5,6]:List Int).length=[It.n m.st.n,It.n m.st.c]++([It.b bs]++(bktIts m.bk es ls++(([It.n ((m.cm.l:Nat):Int)]++fl (fun j=>cmdIts (cAt cs j)) m.cm.l)++([It.n (bif m.mo then 1 else 0)]++[])))):=rfl
      rw [e] at h3
      exact h3)
    obtain ⟨n2,h5⟩:=ao_b h4
    obtain ⟨n3,n4,n5,h6⟩:=ao_bk h5 he hl bd.1 bd.2.1
    rw [← hc,List.append_assoc] at h6
    obtain ⟨n6,h7⟩:=ao_n h6
    obtain ⟨n7,h8⟩:=ao_cms cs hz h7
    obtain ⟨n8,h9⟩:=ao_n h8
    obtain ⟨S,hS⟩:∃ S,tS (Wi.aS (Wi.t9 st))=S:=⟨_,rfl⟩
    rw [hS] at n3 n4 n5 h6 h7 h8 h9 n6 n7 n8
    obtain ⟨T,hT⟩:∃ T,rkS S (bkE S) (bkL S)=T:=⟨_,rfl⟩
    rw [hT] at h6 h7 h8 h9 n6 n7 n8
    have eq:cqF T=cs.length:=by have:=bd.2.2;have:cs.length≤64:=this;unfold cqF cntK;rw [n6];split <;> omega
    have n8':Wi.nV (cmsS (cqF T) (Wi.nS T))=(bif m.mo then 1 else 0):=by rw [eq];exact n8
    refine ⟨?_,?_,fin ?_⟩
    · show (⟨m.k,m.fr,m.too,m.op,m.rd,m.ky,stV (Wi.t9 st),spZ,tV (Wi.aS (Wi.t9 st)),cZ,Wi.nV (tS (Wi.aS (Wi.t9 st))),rkE (tS (Wi.aS (Wi.t9 st))) (bkE (tS (Wi.aS (Wi.t9 st)))),rkL (tS (Wi.aS (Wi.t9 st))) (bkE (tS (Wi.aS (Wi.t9 st)))) (bkL (tS (Wi.aS (Wi.t9 st)))),cmsL (cqF (rkS (tS (Wi.aS (Wi.t9 st))) (bkE (tS (Wi.aS (Wi.t9 st)))) (bkL (tS (Wi.aS (Wi.t9 st)))))) (Wi.nS (rkS (tS (Wi.aS (Wi.t9 st))) (bkE (tS (Wi.aS (Wi.t9 st)))) (bkL (tS (Wi.aS (Wi.t9 st)))))),Wi.fV (cmsS (cqF (rkS (tS (Wi.aS (Wi.t9 st))) (bkE (tS (Wi.aS (Wi.t9 st)))) (bkL (tS (Wi.aS (Wi.t9 st)))))) (Wi.nS (rkS (tS (Wi.aS (Wi.t9 st))) (bkE (tS (Wi.aS (Wi.t9 st)))) (bkL (tS (Wi.aS (Wi.t9 st)))))))⟩:Pm)=_
      rw [hS,hT]
      unfold pOf Wi.fV
      rw [n8',eq,n1,n2,n3,n4,n5,n7,hO.hd (by decide),hO.c (by decide)]
      cases m.mo <;> rfl
    · show Wi.fO false (cmsS (cqF (rkS (tS (Wi.aS (Wi.t9 st))) (bkE (tS (Wi.aS (Wi.t9 st)))) (bkL (tS (Wi.aS (Wi.t9 st)))))) (Wi.nS (rkS (tS (Wi.aS (Wi.t9 st))) (bkE (tS (Wi.aS (Wi.t9 st)))) (bkL (tS (Wi.aS (Wi.t9 st)))))))=false
      rw [hS,hT]
      unfold Wi.fO
      rw [n8']
      cases m.mo <;> rfl
    · show AtO (Wi.nS (cmsS (cqF (rkS (tS (Wi.aS (Wi.t9 st))) (bkE (tS (Wi.aS (Wi.t9 st)))) (bkL (tS (Wi.aS (Wi.t9 st)))))) (Wi.nS (rkS (tS (Wi.aS (Wi.t9 st))) (bkE (tS (Wi.aS (Wi.t9 st)))) (bkL (tS (Wi.aS (Wi.t9 st)))))))) []
      rw [hS,hT,eq]
      exact h9
  · rw [hF] at hO h3 ⊢
    refine ⟨?_,rfl,fin h3⟩
    show (⟨m.k,m.fr,m.too,m.op,m.rd,m.ky,spZ,spZ,[],cZ,0,[],[],[],false⟩:Pm)=_
    unfold pOf
    rw [hO.st (by decide),hO.hd (by decide),hO.bl (by decide),hO.c (by decide),(hO.bk (by decide)).1,(hO.bk (by decide)).2.1,(hO.bk (by decide)).2.2,hO.cm (by decide),hO.mo (by decide)]
end
theorem dec_back {B rm bu:Int} {zs body:List Int} (hr:rm≤256) (hu:uR (.ok body 0)) (h:goodD B rm bu zs (.ok body 0)=true):encB (pmI (mPm bkE bkL cqF (.ok body 0)))=body:=by
  have key:∀ S:Wi.RS,∃ i j,BC S i j:=fun S=>by
    obtain ⟨N,hN⟩:∃ N:Nat,Wi.nV (Wi.nS S)=((N:Nat):Int):=⟨(Wi.nV (Wi.nS S)).toNat,by have:=nV_pos (Wi.nS S);omega⟩
    obtain ⟨M,hM⟩:∃ M:Nat,Wi.nV (ensS N (Wi.nS (Wi.nS S)))=((M:Nat):Int):=⟨(Wi.nV (ensS N (Wi.nS (Wi.nS S)))).toNat,by have:=nV_pos (ensS N (Wi.nS (Wi.nS S)));omega⟩
    exact ⟨N,M,N,M,hN,hM,Nat.le_refl _,Nat.le_refl _,fun h=>absurd h (Nat.lt_irrefl _),fun h=>absurd h (Nat.lt_irrefl _)⟩
  have keyQ:∀ S:Wi.RS,∃ q,QC S q:=fun S=>by
    obtain ⟨N,hN⟩:∃ N:Nat,Wi.nV S=((N:Nat):Int):=⟨(Wi.nV S).toNat,by have:=nV_pos S;omega⟩
    exact ⟨N,N,hN,Nat.le_refl _,fun h=>absurd h (Nat.lt_irrefl _)⟩
  have hc:∃ i j q,Cnt (.ok body 0) i j q:=by
    by_cases h17:Wi.nV (.ok body 0)=17
    · obtain ⟨i,j,hB⟩:=key (Wi.t9 (.ok body 0))
      exact ⟨i,j,0,fun _=>hB,fun h=>absurd (h17.symm.trans h) (by decide)⟩
    · obtain ⟨i,j,hB⟩:=key (tS (Wi.aS (Wi.t9 (.ok body 0))))
      obtain ⟨q,hQ⟩:=keyQ (rkS (tS (Wi.aS (Wi.t9 (.ok body 0)))) i j)
      exact ⟨i,j,q,fun h=>absurd h h17,fun _=>⟨hB,hQ⟩⟩
  obtain ⟨i,j,q,hc⟩:=hc
  obtain ⟨h1,h2⟩:=dec_good (B:=B) (bu:=bu) (zs:=zs) hr hu hc
  rw [h] at h1
  have h3:=h2 h
  unfold refD at h1
  have h4:=h1.symm
  rw [Bool.and_eq_true,Bool.and_eq_true,Bool.and_eq_true] at h4
  have h5:=of_decide_eq_true h4.2.2.2
  rw [h3] at h5
  exact h5
theorem U210:Tryz.prog.underlying 210=some (.pointer 45):=by kernel_rfl
theorem putCm (i n:Nat) (st:Wi.RS) (h:i < n):putL (cmL (cmsL i st++List.replicate (n - i) cZ)) (0+i*9) (Cm.cs (cmV (cmsS i st)))=cmL (cmsL (i+1) st++List.replicate (n - (i+1)) cZ):=by
  have e:n - i=(n - (i+1))+1:=by omega
  rw [e,List.replicate_succ,cmsL_succ,show cmsL i st++cZ :: List.replicate (n - (i+1)) cZ=cmsL i st++([cZ]++List.replicate (n - (i+1)) cZ) by simp,cmL_app',cmL_app',Nat.zero_add];have h2:=put_mid (cmL (cmsL i st)) (cmL [cZ]) (cmL (List.replicate (n - (i+1)) cZ)) (Cm.cs (cmV (cmsS i st))) rfl;rw [cmL_len',cmsL_len] at h2;rw [h2,cmL_app',cmL_app',List.append_assoc]
  simp [cmL]
structure MsF (N:Nat) (w:World) (x e l c:Sl) (p:Pm):Prop where
  rb:RdB w x p.bs
  re:RdE w e p.es
  rl:RdL w l p.ls
  rc:RdC w c p.cs
  fb:∀ k,At x.a k→N≤k∧k < w.heap.size
  fe:∀ k,At e.a k→N≤k∧k < w.heap.size
  fl:∀ k,At l.a k→N≤k∧k < w.heap.size
  fc:∀ k,At c.a k→N≤k∧k < w.heap.size
theorem MsF.kept {N:Nat} {S:Nat→Prop} {w w':World} {x e l c:Sl} {p:Pm} (h:MsF N w x e l c p) (hk:Kept S w w') (hS:∀ k,N≤k→¬ S k):MsF N w' x e l c p:=
  ⟨h.rb.keptL hk (fun _ k e=>hS k (h.fb k e).1),h.re.keptL hk (fun _ k e=>hS k (h.fe k e).1),h.rl.keptL hk (fun _ k e=>hS k (h.fl k e).1),h.rc.keptL hk (fun _ k e=>hS k (h.fc k e).1),
    fun k e=>⟨(h.fb k e).1,Nat.lt_of_lt_of_le (h.fb k e).2 hk.size⟩,fun k e=>⟨(h.fe k e).1,Nat.lt_of_lt_of_le (h.fe k e).2 hk.size⟩,fun k e=>⟨(h.fl k e).1,Nat.lt_of_lt_of_le (h.fl k e).2 hk.size⟩,fun k e=>⟨(h.fc k e).1,Nat.lt_of_lt_of_le (h.fc k e).2 hk.size⟩⟩
structure Mf (N r g lb b b1 gm:Nat) (w0 w:World) (s:Wi.RS × Bool) (p:Pm):Prop where
  src:(rdSrc r g lb).St w s
  hb:Box w b 202 #[.pointer (some ⟨r,0,none⟩)]
  hb1:Box w b1 210 #[.pointer (some ⟨gm,0,none⟩)]
  msg:∃ x e l c,Box w gm 45 (Mg.cells (pmG p x e l c))∧MsF N w x e l c p
  lt:r < N∧g < N∧gm < N∧N≤w.heap.size
  ne:(b≠r∧b≠g∧b≠gm)∧(b1≠r∧b1≠g∧b1≠gm)∧gm≠r∧gm≠g∧gm≠lb
  kept:Kept (fun k=>k=r∨k=g∨k=gm) w0 w
section
variable {N r g lb b b1 gm:Nat} {w0 w w':World} {s s':Wi.RS × Bool} {p p':Pm}
theorem Mf.no (h:Mf N r g lb b b1 gm w0 w s p) (hk:Kept No w w'):Mf N r g lb b b1 gm w0 w' s p:=by
  obtain ⟨x,e,l,c,h1,h2⟩:=h.msg;exact ⟨Src.no h.src hk,h.hb.kept hk (fun e=>e),h.hb1.kept hk (fun e=>e),⟨x,e,l,c,h1.kept hk (fun e=>e),h2.kept hk (fun _ _ e=>e)⟩,⟨h.lt.1,h.lt.2.1,h.lt.2.2.1,Nat.le_trans h.lt.2.2.2 hk.size⟩,h.ne,h.kept.then hk.of_no⟩
theorem Mf.step (h:Mf N r g lb b b1 gm w0 w s p) (hS:(rdSrc r g lb).St w' s') (hk:Kept (rdSrc r g lb).Wr w w'):Mf N r g lb b b1 gm w0 w' s' p:=by
  obtain ⟨x,e,l,c,h1,h2⟩:=h.msg;obtain ⟨l1,l2,l3,l4⟩:=h.lt;obtain ⟨⟨n1,n2,n3⟩,⟨m1,m2,m3⟩,g1,g2,g3⟩:=h.ne;exact ⟨hS,h.hb.kept hk (fun e=>e.elim n1 n2),h.hb1.kept hk (fun e=>e.elim m1 m2),⟨x,e,l,c,h1.kept hk (fun e=>e.elim g1 g2),h2.kept hk (fun k e e2=>by rcases e2 with e2 | e2 <;> omega)⟩,⟨l1,l2,l3,Nat.le_trans l4 hk.size⟩,h.ne,h.kept.then (hk.mono (fun k _ e=>e.elim .inl (fun e=>.inr (.inl e))))⟩
theorem Mf.set (h:Mf N r g lb b b1 gm w0 w s p) {x e l c:Sl} (hb:∃ cur:Array Value,Box w gm 45 cur) (hm:MsF N w x e l c p'):Mf N r g lb b b1 gm w0 (w.setRow gm (Mg.cells (pmG p' x e l c))) s p':=by
  obtain ⟨cur,hb⟩:=hb;obtain ⟨l1,l2,l3,l4⟩:=h.lt;obtain ⟨⟨n1,n2,n3⟩,⟨m1,m2,m3⟩,g1,g2,g3⟩:=h.ne;have hk:Kept (Only gm) w (w.setRow gm (Mg.cells (pmG p' x e l c))):=kept_row (Kept.refl (Only gm) w) (.inr rfl) _;refine ⟨(rdSrc r g lb).far h.src hk (fun k e e2=>?_),h.hb.kept hk n3,h.hb1.kept hk m3,⟨x,e,l,c,hb.setRow _,hm.kept hk (fun k e e2=>?_)⟩,⟨l1,l2,l3,Nat.le_trans l4 hk.size⟩,h.ne,h.kept.then (hk.mono (fun k _ e=>.inr (.inr e)))⟩
  · have e:k=gm:=e
    rcases e2 with e2 | e2 | e2 <;> omega
  · have e2:k=gm:=e2
    omega
theorem Mf.start (h:Mf N r g lb b b1 gm w0 w s p):Mf N r g lb b b1 gm w w s p:=⟨h.src,h.hb,h.hb1,h.msg,h.lt,h.ne,Kept.refl _ _⟩
end
def Mx (N r g lb b b1 gm:Nat) (w0 w:World):Prop:=∃ s p,Mf N r g lb b b1 gm w0 w s p
section
variable {ops:Array Oper} {a:Act} {w w0:World} {Q:Exit→Act→World→Prop} {md:Region.Mode} {N r g lb b b1 gm:Nat} {s s':Wi.RS × Bool} {p p':Pm} {fuel:Nat} {listed:Array Bool}
theorem mT (i d:Nat) (HG:Hid (Mf N r g lb b b1 gm w0 w s p)) {v:Value} (hy:∀ w,Hid (Mx N r g lb b b1 gm w0 w)→(execOp a.eval (opA ops i)).run Tryz.prog w=.ok (.value v) w)
    (h:wpAnyH Tryz.prog md ops Q (fun w'=>Hid (Mx N r g lb b b1 gm w0 w')) fuel (listed.setIfInBounds i true) (a.put (some d) v) w)
    (hi:ops[i]?=some (opA ops i):=by kernel_rfl) (hd:(opA ops i).dst=some d:=by kernel_rfl) (hs:Region.noSelect ops=true:=by kernel_rfl) (hf:Region.free md ops listed i=true:=by kernel_rfl) (hr:(Region.ready md ops listed).contains i=true:=by kernel_rfl)
    (hQ:∀ c a w,Q (.panic c) (a.put (some d) v) w→Q (.panic c) a w:=by exact fun _ _ _ h=>h) (hw:Region.wanted (opA ops i) (yielded ops a.tmps)=true:=by kernel_rfl):wpAnyH Tryz.prog md ops Q (fun w'=>Hid (Mx N r g lb b b1 gm w0 w')) (fuel+1) listed a w:=
  any_take hi hs hf hr (by rw [hd];exact hQ) hw hy ⟨s,p,HG.out⟩ (by rw [hd];exact h)
theorem mK (i d:Nat) (HG:Hid (Mf N r g lb b b1 gm w0 w s p)) (v:Value)
    (h:wpAnyH Tryz.prog md ops Q (fun w'=>Hid (Mx N r g lb b b1 gm w0 w')) fuel (listed.setIfInBounds i true) (a.put (some d) v) w) (hy:∀ w,(execOp a.eval (opA ops i)).run Tryz.prog w=.ok (.value v) w:=by intro _;kernel_rfl)
    (hi:ops[i]?=some (opA ops i):=by kernel_rfl) (hd:(opA ops i).dst=some d:=by kernel_rfl) (hs:Region.noSelect ops=true:=by kernel_rfl) (hf:Region.free md ops listed i=true:=by kernel_rfl) (hr:(Region.ready md ops listed).contains i=true:=by kernel_rfl)
    (hQ:∀ c a w,Q (.panic c) (a.put (some d) v) w→Q (.panic c) a w:=by exact fun _ _ _ h=>h) (hw:Region.wanted (opA ops i) (yielded ops a.tmps)=true:=by kernel_rfl):wpAnyH Tryz.prog md ops Q (fun w'=>Hid (Mx N r g lb b b1 gm w0 w')) (fuel+1) listed a w:=
  mT i d HG (fun w _=>hy w) h hi hd hs hf hr hQ hw
theorem zMb {o:Oper} {t:TypeId} {d:TypeDesc} (hu:Tryz.prog.underlying t=some d) (hl:ldA o a.eval=some (t,.pointer (some ⟨b,0,none⟩)):=by kernel_rfl) (hd:(match d with | .struct _ | .array _ _=>true | _=>false)=false:=by kernel_rfl) :
    ∀ w,Hid (Mx N r g lb b b1 gm w0 w)→(execOp a.eval o).run Tryz.prog w=.ok (.value (.pointer (some ⟨r,0,none⟩))) w:=fun w HE=>by
  obtain ⟨s,p,h⟩:=HE;exact exL (load_one (h.hb.cell 0) hu hd) hl
theorem zM1 {o:Oper} {t:TypeId} {d:TypeDesc} (hu:Tryz.prog.underlying t=some d) (hl:ldA o a.eval=some (t,.pointer (some ⟨b1,0,none⟩)):=by kernel_rfl) (hd:(match d with | .struct _ | .array _ _=>true | _=>false)=false:=by kernel_rfl) :
    ∀ w,Hid (Mx N r g lb b b1 gm w0 w)→(execOp a.eval o).run Tryz.prog w=.ok (.value (.pointer (some ⟨gm,0,none⟩))) w:=fun w HE=>by
  obtain ⟨s,p,h⟩:=HE;exact exL (load_one (h.hb1.cell 0) hu hd) hl
theorem zMr {o:Oper} {t:TypeId} {d:TypeDesc} (hu:Tryz.prog.underlying t=some d) (hl:ldA o a.eval=some (t,.pointer (some ⟨r,0,none⟩)):=by kernel_rfl) (hd:(match d with | .struct _ | .array _ _=>true | _=>false)=false:=by kernel_rfl) :
    ∀ w,Hid (Mx N r g lb b b1 gm w0 w)→(execOp a.eval o).run Tryz.prog w=.ok (.value (.pointer (some ⟨g,0,none⟩))) w:=fun w HE=>by
  obtain ⟨s,p,h⟩:=HE;exact exL (load_one (Src.pt _ h.src) hu hd) hl
theorem mC (i d:Nat) {f:FuncId} {args:Array Value} (HG:Hid (Mf N r g lb b b1 gm w0 w s p)) {C:Ending→World→Prop} (hc:Calls Tryz.prog f args w C)
    (h:∀ e w',C e w'→∃ v,e=.returned v∧(rdSrc r g lb).St w' s'∧Kept (rdSrc r g lb).Wr w w'∧(Hid (Mf N r g lb b b1 gm w0 w' s' p)→wpAnyH Tryz.prog md ops Q (fun w'=>Hid (Mx N r g lb b b1 gm w0 w')) fuel (listed.setIfInBounds i true) (a.put (some d) v) w'))
    (hi:ops[i]?=some (opA ops i):=by kernel_rfl) (hd:(opA ops i).dst=some d:=by kernel_rfl) (hr:Region.ready md ops listed=[i]:=by kernel_rfl) (hrun:(execOp a.eval (opA ops i)).run Tryz.prog w=.ok (.enter f args) w:=by kernel_rfl) (hw:Region.wanted (opA ops i) (yielded ops a.tmps)=true:=by kernel_rfl):wpAnyH Tryz.prog md ops Q (fun w'=>Hid (Mx N r g lb b b1 gm w0 w')) (fuel+1) listed a w:=
  any_call hi hr hw f args hrun _ hc (by
    intro e w' hg;obtain ⟨v,h1,h2,h3,h4⟩:=h e w' hg;have HM:=HG.out.step h2 h3;exact ⟨v,h1,⟨s',p,HM⟩,fun _=>by rw [hd];exact h4 HM⟩)
theorem mW (i off:Nat) (HG:Hid (Mf N r g lb b b1 gm w0 w s p)) (p':Pm) (vs:List Value) {t:TypeId} {v:Value} (hv:v.cells=vs.toArray) (hs:(Tryz.prog.info? t).map (·.size)=some vs.length) (h1:∀ x∈vs,x.oneCell'=true) (hl:off+vs.length≤30)
    (hN:∀ x e l c,MsF N w x e l c p→∃ x' e' l' c',putL (Mg.cs (pmG p x e l c)) off vs=Mg.cs (pmG p' x' e' l' c')∧MsF N w x' e' l' c' p')
    (h:∀ w',Hid (Mf N r g lb b b1 gm w0 w' s p')→wpAnyH Tryz.prog md ops Q (fun w'=>Hid (Mx N r g lb b b1 gm w0 w')) fuel (listed.setIfInBounds i true) a w')
    (ho:stA (opA ops i) a.eval=some (t,.pointer (some ⟨gm,off,none⟩),v):=by kernel_rfl) (hi:ops[i]?=some (opA ops i):=by kernel_rfl) (hd:(opA ops i).dst=none:=by kernel_rfl) (hr:Region.ready md ops listed=[i]:=by kernel_rfl)
    (hw:Region.wanted (opA ops i) (yielded ops a.tmps)=true:=by kernel_rfl):wpAnyH Tryz.prog md ops Q (fun w'=>Hid (Mx N r g lb b b1 gm w0 w')) (fuel+1) listed a w:=by
  obtain ⟨x,e,l,c,hb,hm⟩:=HG.out.msg;obtain ⟨x',e',l',c',hp,hm'⟩:=hN x e l c hm;have H2:=HG.out.set ⟨_,hb⟩ hm';unfold stA at ho
  split at ho
  · rename_i t' x0 y0 hx
    obtain ⟨rfl,h2⟩:=Prod.mk.inj (Option.some.inj ho);obtain ⟨h4,h5⟩:=Prod.mk.inj h2;exact any_store hi hr hw _ x0 y0 hx ⟨gm,off,none⟩ v h4 h5 (run_store_to hb hv hs (show off+vs.length≤(Mg.cs (pmG p x e l c)).length from hl) h1 hp) (show Hid _ from ⟨s,p',H2⟩) (fun _=>by rw [hd];exact h _ H2)
  · cases ho
theorem mN (HF:Hid (Mf N r g lb b b1 gm w0 w s p)):Hid (Mx N r g lb b b1 gm w0 w.drew):=⟨s,p,HF.out.no (Kept.refl No _).drew⟩
end
def MfO (N r g lb b b1 gm:Nat) (w:World) (s:Wi.RS × Bool) (p:Pm) (e:Ending) (w':World):Prop:=e=.returned (.tuple #[])∧Mf N r g lb b b1 gm w w' s p
theorem RdC.ofBox {w:World} {g n k:Nat} {es:List Cm} (hb:Box w g 39 (cmL es).toArray) (hl:es.length=n):RdC w ⟨some ⟨g,0,none⟩,n,k⟩ es:=by
  refine ⟨?_,hl,fun e=>by cases e⟩;intro i it hi;refine ⟨g,0,rfl,fun j v hv=>?_⟩;have h1:=flat_get 9 _ (cmL_c es) i it hi j v hv;rw [Nat.zero_add,hb.cell,List.getElem?_toArray];exact h1
theorem at_box {g n k k':Nat} (h:At (⟨some ⟨g,0,none⟩,n,k⟩:Sl).a k'):k'=g:=by
  obtain ⟨ad,h1,h2⟩:=h;cases h1;exact h2.symm
theorem RdC.nilS (w:World):RdC w slZ []:=⟨RowsAt.nil _ _ _,rfl,fun _=>rfl⟩
section
variable {r g lb:Nat} {st:Wi.RS} {odd:Bool} {w:World}
set_option maxRecDepth 100000 in
set_option maxHeartbeats 4000000 in
theorem p_listC (h:(rdSrc r g lb).St w (st,odd)):Calls Tryz.prog 211 #[.pointer (some ⟨r,0,none⟩),.int .i64 64,.func (.func 190) #[.pointer (some ⟨r,0,none⟩)] #[]] w (ListO (rdSrc r g lb) w 39 (cmL (cmsL (cntK (Wi.nV st) 65) (Wi.nS st))) (cntK (Wi.nV st) 65) (cmsS (cntK (Wi.nV st) 65) (Wi.nS st),odd)):=by
  refine hidC fun C HC=>?_;obtain ⟨cnt,hcn2⟩:∃ n,cntK (Wi.nV st) 65=n:=⟨_,rfl⟩;have hcn:((cnt:Nat):Int)=if (65:Int) < Wi.nV st then 65 else Wi.nV st:=by rw [← hcn2];exact cntK_is (nV_pos st) 65
  have hcb:cnt≤65:=by rw [← hcn2];exact cntK_le _ _
  have HF:Hid (Kr (rdSrc r g lb) w w (st,odd) []):=Kr.start h;clear h;go_enter Tryz.func211,Tryz.ntmps211;go_upto_region 0 with fail;refine Sg<|tK (.slice none 0 0)<|Nl ?_;simp only[pS];go_upto_region 1 with fail;refine Sg<|tK (pg r 0)<|tK (pg r 0)<|tK (pg r 0)<|lR (load_one (Src.pt _ HF.out.st) U203 rfl)<|rC _ _ HF (fun h=>p_Num h) fun w1 HF=>tK (.int .i64 64)<|tK (.int .i64 65)<|rMn hcn<|rM cnt (cmL (List.replicate cnt cZ)) HF (make_cm _ _ (by omega)) fun g2 w3 HF=>?_;simp only[pS];refine tK (.slice (some ⟨g2,0,none⟩) cnt cnt)<|Nl ?_;simp only[pS];go_upto_region 2 with fail;refine Sg<|tK (.slice (some ⟨g2,0,none⟩) cnt cnt)<|tK (.int .i64 ((cnt:Nat):Int))<|tK (.int .i64 0)<|Nl ?_;simp only[pS];go_wp2
  go_loopw [20] (fun v20 wr=>∃ i:Nat,v20=.int .i64 ((i:Nat):Int)∧i≤cnt∧Hid (Kr (rdSrc r g lb) w wr (cmsS i (Wi.nS st),odd) [(g2,39,(cmL (cmsL i (Wi.nS st)++List.replicate (cnt - i) cZ)).toArray)])) (fun v20 _=>cnt - (intOf v20).toNat)
  case atStart=>exact ⟨0,by go_num,by omega,HF⟩
  case round=>
    clear HF;obtain ⟨i,rfl,hi,HF⟩:=hrel
    by_cases hlt:i < cnt
    ·go_upto_region 3 with fail;refine Sg<|bN (lI (a:=((i:Nat):Int)) (b:=((cnt:Nat):Int)) (decide_eq_true (by omega)))<|Nl ?_;simp only[pS];go_upto_region 4 with fail;refine Sg<|tK (.int .i64 ((i:Nat):Int))<|tK (.int .i64 ((i:Nat):Int))<|Nl ?_;simp only[pS];go_upto_region 5 with fail;refine Sg<|tK (.slice (some ⟨g2,0,none⟩) cnt cnt)<|tK (.int .i64 ((i:Nat):Int))<|tK (.func (.func 190) #[.pointer (some ⟨r,0,none⟩)] #[])<|rC _ _ HF (fun h=>p_rcommand h) fun w4 HF=>?_;simp only[pS];refine iS (s:=⟨some ⟨g2,0,none⟩,cnt,cnt⟩) (i:=i) rfl E26 F26 (by show _ < cnt;omega)<|rW (cmL (cmsL (i+1) (Wi.nS st)++List.replicate (cnt - (i+1)) cZ)) (Cm.cs (cmV (cmsS i (Wi.nS st)))) HF 0 (0+i*9) (v:=.agg (Cm.cells (cmV (cmsS i (Wi.nS st))))) rfl S39 (Cm.oneL _) (cmL (cmsL i (Wi.nS st)++List.replicate (cnt - i) cZ)) rfl (hl:=by rw [cmL_len];simp only[List.length_append,cmsL_len,List.length_replicate];show 0+i*9+9≤_;omega) (hn:=putCm i cnt (Wi.nS st) hlt) fun w5 HF=>?_;simp only[pS];refine Nl ?_;(try simp only[pS]);go_upto_region 6 with fail;refine Sg<|bN (v:=.int .i64 (((i+1):Nat):Int)) (b_addw ((i:Nat):Int) 1 (((i+1):Nat):Int) (by rw [IntKind.wrap_i64];omega))<|tK (.int .i64 (((i+1):Nat):Int))<|Nl ?_;simp only[pS];go_wp2;go_roundw
     case rel=>exact ⟨i+1,by go_num,by omega,HF⟩
     case measure=>simp [intOf];omega
    ·obtain rfl:i=cnt:=by omega
     rw [Nat.sub_self,List.replicate_zero,List.append_nil] at HF;go_upto_region 3 with fail;refine Sg<|bN (lI (a:=((i:Nat):Int)) (b:=((i:Nat):Int)) (decide_eq_false (by omega)))<|Nl ?_;simp only[pS];go_upto_region 7 with fail;refine Sg<|tK (.slice (some ⟨g2,0,none⟩) i i)<|tK (.slice (some ⟨g2,0,none⟩) i i)<|Nl ?_;simp only[pS];go_wp2;rw [HC.out,hcn2];exact ⟨g2,rfl,HF.out⟩
end
end Go.Proofs.YtgdnofacgfjaeaaGreat.Md
