import Derived.Test.YtgdnofacgfjaeaaGreatJa
namespace Go.Proofs.YtgdnofacgfjaeaaGreat.Md
open Go.RowKit
set_option linter.unusedVariables false
set_option linter.unusedSimpArgs false
theorem addr_ok' {zs:List Int} {x:Ad} (hz:∀ i,i < zs.length→1≤zs[i]?.getD 0∧zs[i]?.getD 0≤255) (h:cliB x=true∨srvB zs x=true):0≤x.id∧x.id≤255:=by
  rcases h with h | h
  · unfold cliB at h
    rw [Bool.and_eq_true] at h
    have:=wn_t h.2;omega
  · unfold srvB hasB at h
    rw [Bool.and_eq_true,List.contains_iff_mem] at h
    obtain ⟨i,hi,e⟩:=List.getElem_of_mem h.2
    have:=hz i hi
    rw [List.getElem?_eq_getElem hi,e] at this
    simp only[Option.getD_some] at this
    omega
open Classical in
theorem cfg_ids {c:Cg} {zs:List Int} (h:cfgP c zs=true):∀ i,i < zs.length→1≤zs[i]?.getD 0∧zs[i]?.getD 0≤255:=by
  unfold cfgP Wi.cfgB at h
  rw [Bool.and_eq_true] at h
  have:=of_decide_eq_true h.1
  exact fun i hi=>(this.2 i hi).1
theorem flag_ok (b:Bool):itOk (.n (bif b then 1 else 0)):=by cases b <;> exact ⟨by decide,by decide⟩
theorem stamp1 {s:Sp} (h:oneS s=true∨eqS s spZ=true∨frmS s=true):okL [It.n s.n,It.n s.c]:=by
  have:(0≤s.n∧s.n≤1099511627776)∧0≤s.c∧s.c≤255:=by
    rcases h with h | h | h
    · have:=oneS_t h;omega
    · have:=eqS_t h;omega
    · have:=frmS_t h;omega
  exact okL_cons ⟨by omega,by omega⟩ (okL_cons ⟨by omega,by omega⟩ okL_nil)
theorem hd_ok {bu:Int} {zs:List Int} {m:Mg} (hbu:bu≤256) (hz:∀ i,i < zs.length→1≤zs[i]?.getD 0∧zs[i]?.getD 0≤255) (h1:endsP zs m=true) (h2:keyP bu m=true):okL (hdIts m):=by
  have hk:(1≤m.k∧m.k≤22)∧(cliB m.fr=true∨srvB zs m.fr=true)∧(cliB m.too=true∨srvB zs m.too=true)∧(0≤m.op∧m.op≤1099511627776)∧0≤m.rd∧m.rd≤1099511627776:=by
    unfold endsP at h1
    cases e1:(m.k==1||(m.k==2||(m.k==3||(m.k==4||m.k==5))))
    · rw [e1] at h1
      simp only[bsq] at h1
      cases e2:(m.k==11||(m.k==12||(m.k==13||(m.k==14||(m.k==15||(m.k==16||m.k==17))))))
      · rw [e2] at h1
        simp only[bsq] at h1
        cases e3:(m.k==21||m.k==22)
        · rw [e3] at h1;cases h1
        · rw [e3] at h1
          simp only[bsq] at h1
          simp only[Bool.and_eq_true,beq_iff_eq] at h1
          simp only[Bool.or_eq_true,beq_iff_eq] at e3
          exact ⟨by omega,.inr h1.1,.inr h1.2.1,by omega,by omega,by omega⟩
      · rw [e2] at h1
        simp only[bsq] at h1
        simp only[Bool.and_eq_true] at h1
        simp only[Bool.or_eq_true,beq_iff_eq] at e2
        have a1:=wn_t h1.2.2.1
        have a2:=wn_t h1.2.2.2
        exact ⟨by omega,.inr h1.1,.inl h1.2.1,by omega,by omega,by omega⟩
    · rw [e1] at h1
      simp only[bsq] at h1
      simp only[Bool.and_eq_true] at h1
      simp only[Bool.or_eq_true,beq_iff_eq] at e1
      have a1:=wn_t h1.2.2.1
      have a2:=wn_t h1.2.2.2
      exact ⟨by omega,.inl h1.1,.inr h1.2.1,by omega,by omega,by omega⟩
  have hy:(0≤m.ky.k∧m.ky.k≤3)∧(0≤m.ky.a∧m.ky.a≤255)∧(0≤m.ky.b∧m.ky.b≤1099511627776)∧0≤m.ky.c∧m.ky.c≤1048575:=by
    have hr:keyR bu m.ky=true:=by
      unfold keyP at h2
      cases e:keyR bu m.ky
      · rw [e] at h2;cases h2
      · rfl
    unfold keyR at hr
    cases e1:(m.ky.k==1)
    · rw [e1] at hr
      simp only[bsq] at hr
      cases e2:(m.ky.k==2)
      · rw [e2] at hr
        simp only[bsq] at hr
        cases e3:(m.ky.k==3)
        · rw [e3] at hr;cases hr
        · rw [e3] at hr
          simp only[bsq] at hr
          simp only[Bool.and_eq_true,beq_iff_eq] at hr e3
          have a1:=wn_t hr.1
          have a2:=wn_t hr.2.1
          omega
      · rw [e2] at hr
        simp only[bsq] at hr
        simp only[Bool.and_eq_true,beq_iff_eq] at hr e2
        have a1:=wn_t hr.1
        omega
    · rw [e1] at hr
      simp only[bsq] at hr
      simp only[Bool.and_eq_true] at hr
      simp only[beq_iff_eq] at e1
      have a1:=wn_t hr.1
      have a2:=wn_t hr.2.1
      have a3:=wn_t hr.2.2
      omega
  have f1:=addr_ok' hz hk.2.1
  have f2:=addr_ok' hz hk.2.2.1
  unfold hdIts
  exact okL_cons ⟨by omega,by omega⟩ (okL_cons (flag_ok _) (okL_cons ⟨by omega,by omega⟩ (okL_cons (flag_ok _) (okL_cons ⟨by omega,by omega⟩ (okL_cons ⟨by omega,by omega⟩ (okL_cons ⟨by omega,by omega⟩ (okL_cons ⟨by omega,by omega⟩ (okL_cons ⟨by omega,by omega⟩ (okL_cons ⟨by omega,by omega⟩ (okL_cons ⟨by omega,by omega⟩ okL_nil))))))))))
theorem held_t {B:Int} {p a:Sp} {x:Cm} (hB:0≤B∧B≤4096) (h:heldP B p a x=true):okL [It.n a.n,It.n a.c]∧OkC x:=by
  unfold heldP at h
  cases e:eqS a spZ
  · rw [e] at h
    simp only[bsq] at h
    simp only[Bool.and_eq_true] at h
    exact ⟨stamp1 (.inl h.1),cmdL_ok hB h.2.2⟩
  · rw [e] at h
    exact ⟨stamp1 (.inr (.inl e)),cmd_z h⟩
theorem bytes_ok' {bs:List Int} (hu:Wi.U8 bs) (hl:bs.length≤4096):okL [It.b bs]:=okL_cons ⟨hl,hu⟩ okL_nil
theorem msg_its {m:Mg} {bs:List Int} {es:List En} {ls:List La} {cs:List Cm} {F:List Int} (hf:fieldsK m.k=F) (hh:okL (hdIts m)) (h:okL (fl (fun j=>fldIts m bs es ls cs (F[j]?.getD 0)) F.length)∧itsLen (fl (fun j=>fldIts m bs es ls cs (F[j]?.getD 0)) F.length)≤130000):okL (msgIts m bs es ls cs)∧itsLen (msgIts m bs es ls cs)≤131072:=by
  unfold msgIts
  rw [hf]
  refine ⟨okL_app hh h.1,?_⟩
  rw [itsLen_app]
  have:itsLen (hdIts m)=110:=by unfold hdIts;simp only[len_cons,len_nil,len_n]
  have:=h.2
  omega
theorem msg_ok' {B rm bu:Int} {zs:List Int} {m:Mg} {bs:List Int} {es:List En} {ls:List La} {cs:List Cm} (hB:0≤B∧B≤4096) (hr:0≤rm∧rm≤256) (hbu:bu≤256) (hz:∀ i,i < zs.length→1≤zs[i]?.getD 0∧zs[i]?.getD 0≤255) (hu:Wi.U8 bs) (hb:bs.length=m.bl.l) (he:es.length=m.bk.e.l) (hl:ls.length=m.bk.l.l) (hc:cs.length=m.cm.l)
    (h:msgP B rm bu zs m bs es ls cs=true):okL (msgIts m bs es ls cs)∧itsLen (msgIts m bs es ls cs)≤131072:=by
  unfold msgP at h
  simp only[Bool.and_eq_true] at h
  obtain ⟨h1,h2,h3,h4⟩:=h
  have hh:=hd_ok hbu hz h1 h2
  have l2:itsLen [It.n m.st.n,It.n m.st.c]=20:=rfl
  have l3:itsLen [It.n m.hd.n,It.n m.hd.c]=20:=rfl
  have lb:itsLen [It.b bs]=10+bs.length:=by simp only[len_cons,len_nil,len_b];rfl
  have hk:m.k=1∨m.k=2∨m.k=3∨m.k=4∨m.k=5∨m.k=11∨m.k=12∨m.k=13∨m.k=14∨m.k=15∨m.k=16∨m.k=17∨m.k=21∨m.k=22:=by
    by_cases hq:m.k=1∨m.k=2∨m.k=3∨m.k=4∨m.k=5∨m.k=11∨m.k=12∨m.k=13∨m.k=14∨m.k=15∨m.k=16∨m.k=17∨m.k=21∨m.k=22
    · exact hq
    · exfalso
      have q:∀ n:Int,(n=1∨n=2∨n=3∨n=4∨n=5∨n=11∨n=12∨n=13∨n=14∨n=15∨n=16∨n=17∨n=21∨n=22)→(m.k==n)=false:=fun n hn=>by rw [beq_eq_false_iff_ne];intro e;apply hq;rw [e];exact hn
      simp only[endsP,q 1 (by decide),q 2 (by decide),q 3 (by decide),q 4 (by decide),q 5 (by decide),q 11 (by decide),q 12 (by decide),q 13 (by decide),q 14 (by decide),q 15 (by decide),q 16 (by decide),q 17 (by decide),q 21 (by decide),q 22 (by decide),bsq] at h1
      cases h1
  rcases hk with hk | hk | hk | hk | hk | hk | hk | hk | hk | hk | hk | hk | hk | hk
  · have hf:fieldsK m.k=[]:=by rw [hk];decide
    refine msg_its hf hh ?_
    simp only[fldsP,haveP,hk,Int.reduceBEq,bsq] at h4
    rw [show fl (fun j=>fldIts m bs es ls cs ([][j]?.getD 0)) ([]:List Int).length=([]:List It) from rfl]
    exact ⟨okL_nil,by rw [len_nil];omega⟩
  · have hf:fieldsK m.k=[0,2]:=by rw [hk];decide
    refine msg_its hf hh ?_
    simp only[fldsP,haveP,hk,Int.reduceBEq,bsq] at h4
    rw [show fl (fun j=>fldIts m bs es ls cs ([0,2][j]?.getD 0)) ([0,2]:List Int).length=(([It.n m.st.n,It.n m.st.c]++([It.b bs]++[])):List It) from rfl]
    rw [Bool.and_eq_true] at h4
    have:=eq_of_beq h4.2
    refine ⟨okL_app (stamp1 (.inl h4.1)) (okL_app (bytes_ok' hu (by omega)) okL_nil),?_⟩
    rw [itsLen_app,itsLen_app,l2,lb,len_nil];omega
  · have hf:fieldsK m.k=[0]:=by rw [hk];decide
    refine msg_its hf hh ?_
    simp only[fldsP,haveP,hk,Int.reduceBEq,bsq] at h4
    rw [show fl (fun j=>fldIts m bs es ls cs ([0][j]?.getD 0)) ([0]:List Int).length=(([It.n m.st.n,It.n m.st.c]++[]):List It) from rfl]
    exact ⟨okL_app (stamp1 (.inl h4)) okL_nil,by rw [itsLen_app,l2,len_nil];omega⟩
  · have hf:fieldsK m.k=[0,3]:=by rw [hk];decide
    refine msg_its hf hh ?_
    simp only[fldsP,haveP,hk,Int.reduceBEq,bsq] at h4
    rw [show fl (fun j=>fldIts m bs es ls cs ([0,3][j]?.getD 0)) ([0,3]:List Int).length=(([It.n m.st.n,It.n m.st.c]++(cmdIts m.c++[])):List It) from rfl]
    rw [Bool.and_eq_true] at h4
    have k1:=cmdIts_ok (cmdL_ok hB h4.2)
    refine ⟨okL_app (stamp1 (.inl h4.1)) (okL_app k1.1 okL_nil),?_⟩
    rw [itsLen_app,itsLen_app,l2,len_nil];omega
  · have hf:fieldsK m.k=[3]:=by rw [hk];decide
    refine msg_its hf hh ?_
    simp only[fldsP,haveP,hk,Int.reduceBEq,bsq] at h4
    rw [show fl (fun j=>fldIts m bs es ls cs ([3][j]?.getD 0)) ([3]:List Int).length=((cmdIts m.c++[]):List It) from rfl]
    have k1:=cmdIts_ok (cmdL_ok hB h4)
    exact ⟨okL_app k1.1 okL_nil,by rw [itsLen_app,len_nil];omega⟩
  · have hf:fieldsK m.k=[0,2]:=by rw [hk];decide
    refine msg_its hf hh ?_
    simp only[fldsP,haveP,hk,Int.reduceBEq,bsq] at h4
    rw [show fl (fun j=>fldIts m bs es ls cs ([0,2][j]?.getD 0)) ([0,2]:List Int).length=(([It.n m.st.n,It.n m.st.c]++([It.b bs]++[])):List It) from rfl]
    unfold blkB at h4
    rw [Bool.and_eq_true,Bool.or_eq_true,Bool.and_eq_true] at h4
    have:=eq_of_beq h4.1
    simp only at this
    refine ⟨okL_app (stamp1 (h4.2.elim .inl (fun e=>.inr (.inl e.1)))) (okL_app (bytes_ok' hu (by omega)) okL_nil),?_⟩
    rw [itsLen_app,itsLen_app,l2,lb,len_nil];omega
  · have hf:fieldsK m.k=[]:=by rw [hk];decide
    refine msg_its hf hh ?_
    simp only[fldsP,haveP,hk,Int.reduceBEq,bsq] at h4
    rw [show fl (fun j=>fldIts m bs es ls cs ([][j]?.getD 0)) ([]:List Int).length=([]:List It) from rfl]
    exact ⟨okL_nil,by rw [len_nil];omega⟩
  · have hf:fieldsK m.k=[0,1,3]:=by rw [hk];decide
    refine msg_its hf hh ?_
    simp only[fldsP,haveP,hk,Int.reduceBEq,bsq] at h4
    rw [show fl (fun j=>fldIts m bs es ls cs ([0,1,3][j]?.getD 0)) ([0,1,3]:List Int).length=(([It.n m.st.n,It.n m.st.c]++([It.n m.hd.n,It.n m.hd.c]++(cmdIts m.c++[]))):List It) from rfl]
    rw [Bool.and_eq_true] at h4
    have k2:=held_t hB h4.2
    have k1:=cmdIts_ok k2.2
    refine ⟨okL_app (stamp1 (.inl h4.1)) (okL_app k2.1 (okL_app k1.1 okL_nil)),?_⟩
    rw [itsLen_app,itsLen_app,itsLen_app,l2,l3,len_nil];omega
  · have hf:fieldsK m.k=[0]:=by rw [hk];decide
    refine msg_its hf hh ?_
    simp only[fldsP,haveP,hk,Int.reduceBEq,bsq] at h4
    rw [show fl (fun j=>fldIts m bs es ls cs ([0][j]?.getD 0)) ([0]:List Int).length=(([It.n m.st.n,It.n m.st.c]++[]):List It) from rfl]
    exact ⟨okL_app (stamp1 (.inl h4)) okL_nil,by rw [itsLen_app,l2,len_nil];omega⟩
  · have hf:fieldsK m.k=[0]:=by rw [hk];decide
    refine msg_its hf hh ?_
    simp only[fldsP,haveP,hk,Int.reduceBEq,bsq] at h4
    rw [show fl (fun j=>fldIts m bs es ls cs ([0][j]?.getD 0)) ([0]:List Int).length=(([It.n m.st.n,It.n m.st.c]++[]):List It) from rfl]
    exact ⟨okL_app (stamp1 (.inl h4)) okL_nil,by rw [itsLen_app,l2,len_nil];omega⟩
  · have hf:fieldsK m.k=[3]:=by rw [hk];decide
    refine msg_its hf hh ?_
    simp only[fldsP,haveP,hk,Int.reduceBEq,bsq] at h4
    rw [show fl (fun j=>fldIts m bs es ls cs ([3][j]?.getD 0)) ([3]:List Int).length=((cmdIts m.c++[]):List It) from rfl]
    have k1:=cmdIts_ok (cmdL_ok hB h4)
    exact ⟨okL_app k1.1 okL_nil,by rw [itsLen_app,len_nil];omega⟩
  · have hf:fieldsK m.k=[4]:=by rw [hk];decide
    refine msg_its hf hh ?_
    simp only[fldsP,haveP,hk,Int.reduceBEq,bsq] at h4
    rw [show fl (fun j=>fldIts m bs es ls cs ([4][j]?.getD 0)) ([4]:List Int).length=((bktIts m.bk es ls++[]):List It) from rfl]
    rw [Bool.and_eq_true] at h4
    have k1:=bktIts_ok hB hr.2 he hl h4.1
    exact ⟨okL_app k1.1 okL_nil,by rw [itsLen_app,len_nil];omega⟩
  · have hf:fieldsK m.k=[0]:=by rw [hk];decide
    refine msg_its hf hh ?_
    simp only[fldsP,haveP,hk,Int.reduceBEq,bsq] at h4
    rw [show fl (fun j=>fldIts m bs es ls cs ([0][j]?.getD 0)) ([0]:List Int).length=(([It.n m.st.n,It.n m.st.c]++[]):List It) from rfl]
    simp only[Bool.or_eq_true,Bool.and_eq_true] at h4
    exact ⟨okL_app (stamp1 (h4.elim (fun e=>.inr (.inl e.2)) (fun e=>.inr (.inr e.2)))) okL_nil,by rw [itsLen_app,l2,len_nil];omega⟩
  · have hf:fieldsK m.k=[0,2,4,5,6]:=by rw [hk];decide
    refine msg_its hf hh ?_
    simp only[fldsP,haveP,hk,Int.reduceBEq,bsq] at h4
    rw [show fl (fun j=>fldIts m bs es ls cs ([0,2,4,5,6][j]?.getD 0)) ([0,2,4,5,6]:List Int).length=(([It.n m.st.n,It.n m.st.c]++([It.b bs]++(bktIts m.bk es ls++(([It.n ((m.cm.l:Nat):Int)]++fl (fun j=>cmdIts (cAt cs j)) m.cm.l)++([It.n (bif m.mo then 1 else 0)]++[]))))):List It) from rfl]
    have key:(oneS m.st=true∨eqS m.st spZ=true∨frmS m.st=true)∧bs.length≤4096∧(okL (bktIts m.bk es ls)∧itsLen (bktIts m.bk es ls)≤93500)∧okL (fl (fun j=>cmdIts (cAt cs j)) m.cm.l)∧itsLen (fl (fun j=>cmdIts (cAt cs j)) m.cm.l)≤22080∧m.cm.l≤64:=by
      have eb:empK m.bk=true→okL (bktIts m.bk es ls)∧itsLen (bktIts m.bk es ls)≤93500:=fun e=>bktIts_ok (B:=B) (rm:=rm) hB hr.2 he hl (by
        have e2:(m.bk.up==0)=true:=by unfold empK at e;rw [Bool.and_eq_true] at e;exact e.1
        unfold bktP;rw [e2];exact e)
      have ec:((m.cm.l:Nat):Int)==0→okL (fl (fun j=>cmdIts (cAt cs j)) m.cm.l)∧itsLen (fl (fun j=>cmdIts (cAt cs j)) m.cm.l)≤22080∧m.cm.l≤64:=fun e=>by
        have e0:m.cm.l=0:=by have:=eq_of_beq e;omega
        rw [e0];exact ⟨okL_nil,by rw [fl0,len_nil];omega,by omega⟩
      cases e1:(m.ky.k==1)
      · simp only[e1,bsq] at h4
        cases e2:eqS m.st spZ
        · simp only[e2,bsq] at h4
          rw [Bool.and_eq_true,Bool.and_eq_true,onl] at h4
          simp only[show hasB [0,5,6] 1=false by decide,show hasB [0,5,6] 2=false by decide,show hasB [0,5,6] 3=false by decide,show hasB [0,5,6] 4=false by decide,Bool.and_eq_true,Bool.or_false] at h4
          obtain ⟨⟨_,_,q2,_,q4,_⟩,qf,qr⟩:=h4
          have:=eq_of_beq q2
          exact ⟨.inr (.inr qf),by omega,eb q4,rowP_ok hB hc qr⟩
        · simp only[e2,bsq] at h4
          rw [Bool.and_eq_true,Bool.and_eq_true,onl] at h4
          simp only[show hasB [4,6] 0=false by decide,show hasB [4,6] 1=false by decide,show hasB [4,6] 2=false by decide,show hasB [4,6] 3=false by decide,show hasB [4,6] 5=false by decide,Bool.and_eq_true,Bool.or_false] at h4
          obtain ⟨⟨_,_,q2,_,_,q5,_⟩,_,qb⟩:=h4
          have:=eq_of_beq q2
          exact ⟨.inr (.inl rfl),by omega,bktIts_ok hB hr.2 he hl qb,ec q5⟩
      · cases e2:eqS m.st spZ
        · simp only[e1,e2,bsq] at h4
          rw [Bool.and_eq_true,Bool.and_eq_true,onl] at h4
          simp only[show hasB [0,2] 1=false by decide,show hasB [0,2] 3=false by decide,show hasB [0,2] 4=false by decide,show hasB [0,2] 5=false by decide,show hasB [0,2] 6=false by decide,Bool.and_eq_true,Bool.or_false] at h4
          obtain ⟨⟨_,_,_,_,q4,q5,_⟩,qo,qb⟩:=h4
          have:=eq_of_beq qb
          exact ⟨.inl qo,by omega,eb q4,ec q5⟩
        · simp only[e1,e2,bsq] at h4
          rw [onl] at h4
          simp only[show ∀ n,hasB [] n=false from fun n=>rfl,Bool.and_eq_true,Bool.or_false] at h4
          obtain ⟨_,_,q2,_,q4,q5,_⟩:=h4
          have:=eq_of_beq q2
          exact ⟨.inr (.inl rfl),by omega,eb q4,ec q5⟩
    obtain ⟨k1,k2,k3,k4,k5,k6⟩:=key
    refine ⟨okL_app (stamp1 k1) (okL_app (bytes_ok' hu k2) (okL_app k3.1 (okL_app (okL_app (okL_cons (show itOk (.n _) from ⟨by omega,by omega⟩) okL_nil) k4) (okL_app (okL_cons (flag_ok _) okL_nil) okL_nil)))),?_⟩
    rw [itsLen_app,itsLen_app,itsLen_app,itsLen_app,itsLen_app,itsLen_app,l2,lb]
    simp only[len_cons,len_nil,len_n]
    have:=k3.2
    omega
set_option maxRecDepth 100000
set_option maxHeartbeats 4000000
section
variable {base g:Nat} {T:List It} {ok:∀ x∈T,itOk x} {len:itsLen T≤131072}
theorem p_fld0 (m:Mg) (bs:List Int) (es:List En) (ls:List La) (cs:List Cm) (w:World) (a:Option Addr) (L:List It) (h:(pSink base g T ok len).St w a L) (hp:L++fldIts m bs es ls cs 0 <+: T) (h1:RdB w m.bl bs) (h2:RdE w m.bk.e es) (h3:RdL w m.bk.l ls) (h4:RdC w m.cm cs) (l1:Low base m.bl) (l2:Low base m.bk.e) (l3:Low base m.bk.l) (l4:Low base m.cm) (hne:m.bk.e.l≤281474976710656) (hnl:m.bk.l.l≤281474976710656) (hnc:m.cm.l≤281474976710656):Calls Tryz.prog 116 #[.pointer (some ⟨g,0,none⟩),.agg (Mg.cells m),.int .i64 0] w ((pSink base g T ok len).Put w a (L++fldIts m bs es ls cs 0)):=by
  refine hidC fun C HC=>?_;have HP:Hid (L++fldIts m bs es ls cs 0 <+: T):=hp;have HF:Hid (Kf (pSink base g T ok len) w w a (L++[]) []):=Kf.start h;have HBS:Hid (∀ k,(pSink base g T ok len).Wr a k→base≤k):=fun k hk=>s_base h hk;clear hp h;have HRB:Hid (RdB w m.bl bs):=h1;have HRE:Hid (RdE w m.bk.e es):=h2;have HRL:Hid (RdL w m.bk.l ls):=h3;have HRC:Hid (RdC w m.cm cs):=h4;have HLB:Hid (Low base m.bl):=l1;have HLE:Hid (Low base m.bk.e):=l2;have HLL:Hid (Low base m.bk.l):=l3;have HLC:Hid (Low base m.cm):=l4;clear h1 h2 h3 h4 l1 l2 l3 l4;go_enter Tryz.func116,Tryz.ntmps116;go_upto_region 0 with fail;refine Sg<|kB (Mg.cells m) HF (pT (t:=45)) fun g1 w2 HF=>?_;(try simp only[pS]);refine Nl ?_;(try simp only[pS]);go_upto_region 1 with fail;refine Sg<|tK (.int .i64 0)<|Nl ?_;simp only[pS];go_upto_region 2 with fail;refine Sg<|bN (eIF (show ((0:Int)==0)=true by decide))<|tU<|Nl ?_;simp only[pS];go_upto_region 3 with fail;refine Sg<|tK (pg g 0)<|tK (pg g1 11)<|kP (Sp.cs m.st) HF 0 11 U34 S34 (Mg.cs m) rfl<|kC ([It.n m.st.n,It.n m.st.c]) HF (fun a0 h0=>p_stamp m.st _ a0 _ h0 (pfx HP (by first | exact ⟨_,rfl⟩ | exact List.prefix_rfl | exact pl List.prefix_rfl | exact pl (pl List.prefix_rfl) | exact pl (pl (pl List.prefix_rfl))))) fun w3 HF=>Nl ?_;simp only[pS];go_wp2;rw [HC.out];have e:([It.n m.st.n,It.n m.st.c]:List It)=fldIts m bs es ls cs 0:=rfl;rw [← e];go_end0;exact HF.out.put
theorem p_fld1 (m:Mg) (bs:List Int) (es:List En) (ls:List La) (cs:List Cm) (w:World) (a:Option Addr) (L:List It) (h:(pSink base g T ok len).St w a L) (hp:L++fldIts m bs es ls cs 1 <+: T) (h1:RdB w m.bl bs) (h2:RdE w m.bk.e es) (h3:RdL w m.bk.l ls) (h4:RdC w m.cm cs) (l1:Low base m.bl) (l2:Low base m.bk.e) (l3:Low base m.bk.l) (l4:Low base m.cm) (hne:m.bk.e.l≤281474976710656) (hnl:m.bk.l.l≤281474976710656) (hnc:m.cm.l≤281474976710656):Calls Tryz.prog 116 #[.pointer (some ⟨g,0,none⟩),.agg (Mg.cells m),.int .i64 1] w ((pSink base g T ok len).Put w a (L++fldIts m bs es ls cs 1)):=by
  refine hidC fun C HC=>?_;have HP:Hid (L++fldIts m bs es ls cs 1 <+: T):=hp;have HF:Hid (Kf (pSink base g T ok len) w w a (L++[]) []):=Kf.start h;have HBS:Hid (∀ k,(pSink base g T ok len).Wr a k→base≤k):=fun k hk=>s_base h hk;clear hp h;have HRB:Hid (RdB w m.bl bs):=h1;have HRE:Hid (RdE w m.bk.e es):=h2;have HRL:Hid (RdL w m.bk.l ls):=h3;have HRC:Hid (RdC w m.cm cs):=h4;have HLB:Hid (Low base m.bl):=l1;have HLE:Hid (Low base m.bk.e):=l2;have HLL:Hid (Low base m.bk.l):=l3;have HLC:Hid (Low base m.cm):=l4;clear h1 h2 h3 h4 l1 l2 l3 l4;go_enter Tryz.func116,Tryz.ntmps116;go_upto_region 0 with fail;refine Sg<|kB (Mg.cells m) HF (pT (t:=45)) fun g1 w2 HF=>?_;(try simp only[pS]);refine Nl ?_;(try simp only[pS]);go_upto_region 1 with fail;refine Sg<|tK (.int .i64 1)<|Nl ?_;simp only[pS];go_upto_region 2 with fail;refine Sg<|bN (eIF (show ((1:Int)==0)=false by decide))<|tF<|Nl ?_;simp only[pS];go_upto_region 4 with fail;refine Sg<|bN (eIF (show ((1:Int)==1)=true by decide))<|tU<|Nl ?_;simp only[pS];go_upto_region 5 with fail;refine Sg<|tK (pg g 0)<|tK (pg g1 13)<|kP (Sp.cs m.hd) HF 0 13 U34 S34 (Mg.cs m) rfl<|kC ([It.n m.hd.n,It.n m.hd.c]) HF (fun a0 h0=>p_stamp m.hd _ a0 _ h0 (pfx HP (by first | exact ⟨_,rfl⟩ | exact List.prefix_rfl | exact pl List.prefix_rfl | exact pl (pl List.prefix_rfl) | exact pl (pl (pl List.prefix_rfl))))) fun w3 HF=>Nl ?_;simp only[pS];go_wp2;rw [HC.out];have e:([It.n m.hd.n,It.n m.hd.c]:List It)=fldIts m bs es ls cs 1:=rfl;rw [← e];go_end0;exact HF.out.put
theorem p_fld2 (m:Mg) (bs:List Int) (es:List En) (ls:List La) (cs:List Cm) (w:World) (a:Option Addr) (L:List It) (h:(pSink base g T ok len).St w a L) (hp:L++fldIts m bs es ls cs 2 <+: T) (h1:RdB w m.bl bs) (h2:RdE w m.bk.e es) (h3:RdL w m.bk.l ls) (h4:RdC w m.cm cs) (l1:Low base m.bl) (l2:Low base m.bk.e) (l3:Low base m.bk.l) (l4:Low base m.cm) (hne:m.bk.e.l≤281474976710656) (hnl:m.bk.l.l≤281474976710656) (hnc:m.cm.l≤281474976710656):Calls Tryz.prog 116 #[.pointer (some ⟨g,0,none⟩),.agg (Mg.cells m),.int .i64 2] w ((pSink base g T ok len).Put w a (L++fldIts m bs es ls cs 2)):=by
  refine hidC fun C HC=>?_;have HP:Hid (L++fldIts m bs es ls cs 2 <+: T):=hp;have HF:Hid (Kf (pSink base g T ok len) w w a (L++[]) []):=Kf.start h;have HBS:Hid (∀ k,(pSink base g T ok len).Wr a k→base≤k):=fun k hk=>s_base h hk;clear hp h;have HRB:Hid (RdB w m.bl bs):=h1;have HRE:Hid (RdE w m.bk.e es):=h2;have HRL:Hid (RdL w m.bk.l ls):=h3;have HRC:Hid (RdC w m.cm cs):=h4;have HLB:Hid (Low base m.bl):=l1;have HLE:Hid (Low base m.bk.e):=l2;have HLL:Hid (Low base m.bk.l):=l3;have HLC:Hid (Low base m.cm):=l4;clear h1 h2 h3 h4 l1 l2 l3 l4;go_enter Tryz.func116,Tryz.ntmps116;go_upto_region 0 with fail;refine Sg<|kB (Mg.cells m) HF (pT (t:=45)) fun g1 w2 HF=>?_;(try simp only[pS]);refine Nl ?_;(try simp only[pS]);go_upto_region 1 with fail;refine Sg<|tK (.int .i64 2)<|Nl ?_;simp only[pS];go_upto_region 2 with fail;refine Sg<|bN (eIF (show ((2:Int)==0)=false by decide))<|tF<|Nl ?_;simp only[pS];go_upto_region 4 with fail;refine Sg<|bN (eIF (show ((2:Int)==1)=false by decide))<|tF<|Nl ?_;simp only[pS];go_upto_region 6 with fail;refine Sg<|bN (eIF (show ((2:Int)==2)=true by decide))<|tU<|Nl ?_;simp only[pS];go_upto_region 7 with fail;refine wp_region_held_drew (S:=fun _=>True) rfl trivial (fun _=>?_);replace HF:Hid (Kf (pSink base g T ok len) w w2.drew a (L++[]) [(g1,45,Mg.cells m)]):=HF.out.no (Kept.refl No _).drew;generalize w2.drew=w3 at HF ⊢;refine gK 0 23 (pg g 0)<|gK 1 24 (pg g 0)<|gK 2 25 (pg g 0)<|gK 3 26 (pg g1 15)<|gD 4 27 (m.bl.v) HF 0 15 U35 rfl<|gC 5 28 ([It.b bs]) HF (fun a0 h0=>p_bytes m.bl bs _ a0 _ h0 (pfx HP (by first | exact ⟨_,rfl⟩ | exact List.prefix_rfl | exact pl List.prefix_rfl | exact pl (pl List.prefix_rfl) | exact pl (pl (pl List.prefix_rfl)))) (RdB.keptL HRB.out HF.out.kept (fun h0 k hk e=>by have:=HBS.out k e;have:=HLB.out h0 k hk;omega)) HLB.out) fun w4 HF=>?_;(try simp only[pS]);refine wpAnyH_done (by kernel_rfl) ?_ _;(try simp only[pS]);go_wp2;rw [HC.out];have e:([It.b bs]:List It)=fldIts m bs es ls cs 2:=rfl;rw [← e];go_end0;exact HF.out.put
theorem p_fld3 (m:Mg) (bs:List Int) (es:List En) (ls:List La) (cs:List Cm) (w:World) (a:Option Addr) (L:List It) (h:(pSink base g T ok len).St w a L) (hp:L++fldIts m bs es ls cs 3 <+: T) (h1:RdB w m.bl bs) (h2:RdE w m.bk.e es) (h3:RdL w m.bk.l ls) (h4:RdC w m.cm cs) (l1:Low base m.bl) (l2:Low base m.bk.e) (l3:Low base m.bk.l) (l4:Low base m.cm) (hne:m.bk.e.l≤281474976710656) (hnl:m.bk.l.l≤281474976710656) (hnc:m.cm.l≤281474976710656):Calls Tryz.prog 116 #[.pointer (some ⟨g,0,none⟩),.agg (Mg.cells m),.int .i64 3] w ((pSink base g T ok len).Put w a (L++fldIts m bs es ls cs 3)):=by
  refine hidC fun C HC=>?_;have HP:Hid (L++fldIts m bs es ls cs 3 <+: T):=hp;have HF:Hid (Kf (pSink base g T ok len) w w a (L++[]) []):=Kf.start h;have HBS:Hid (∀ k,(pSink base g T ok len).Wr a k→base≤k):=fun k hk=>s_base h hk;clear hp h;have HRB:Hid (RdB w m.bl bs):=h1;have HRE:Hid (RdE w m.bk.e es):=h2;have HRL:Hid (RdL w m.bk.l ls):=h3;have HRC:Hid (RdC w m.cm cs):=h4;have HLB:Hid (Low base m.bl):=l1;have HLE:Hid (Low base m.bk.e):=l2;have HLL:Hid (Low base m.bk.l):=l3;have HLC:Hid (Low base m.cm):=l4;clear h1 h2 h3 h4 l1 l2 l3 l4;go_enter Tryz.func116,Tryz.ntmps116;go_upto_region 0 with fail;refine Sg<|kB (Mg.cells m) HF (pT (t:=45)) fun g1 w2 HF=>?_;(try simp only[pS]);refine Nl ?_;(try simp only[pS]);go_upto_region 1 with fail;refine Sg<|tK (.int .i64 3)<|Nl ?_;simp only[pS];go_upto_region 2 with fail;refine Sg<|bN (eIF (show ((3:Int)==0)=false by decide))<|tF<|Nl ?_;simp only[pS];go_upto_region 4 with fail;refine Sg<|bN (eIF (show ((3:Int)==1)=false by decide))<|tF<|Nl ?_;simp only[pS];go_upto_region 6 with fail;refine Sg<|bN (eIF (show ((3:Int)==2)=false by decide))<|tF<|Nl ?_;simp only[pS];go_upto_region 8 with fail;refine Sg<|bN (eIF (show ((3:Int)==3)=true by decide))<|tU<|Nl ?_;simp only[pS];go_upto_region 9 with fail;refine Sg<|tK (pg g 0)<|tK (pg g1 16)<|kP (Cm.cs m.c) HF 0 16 U39 S39 (Mg.cs m) rfl<|kC (cmdIts m.c) HF (fun a0 h0=>p_command m.c _ a0 _ h0 (pfx HP (by first | exact ⟨_,rfl⟩ | exact List.prefix_rfl | exact pl List.prefix_rfl | exact pl (pl List.prefix_rfl) | exact pl (pl (pl List.prefix_rfl))))) fun w3 HF=>Nl ?_;simp only[pS];go_wp2;rw [HC.out];have e:(cmdIts m.c:List It)=fldIts m bs es ls cs 3:=rfl;rw [← e];go_end0;exact HF.out.put
theorem p_fld4 (m:Mg) (bs:List Int) (es:List En) (ls:List La) (cs:List Cm) (w:World) (a:Option Addr) (L:List It) (h:(pSink base g T ok len).St w a L) (hp:L++fldIts m bs es ls cs 4 <+: T) (h1:RdB w m.bl bs) (h2:RdE w m.bk.e es) (h3:RdL w m.bk.l ls) (h4:RdC w m.cm cs) (l1:Low base m.bl) (l2:Low base m.bk.e) (l3:Low base m.bk.l) (l4:Low base m.cm) (hne:m.bk.e.l≤281474976710656) (hnl:m.bk.l.l≤281474976710656) (hnc:m.cm.l≤281474976710656):Calls Tryz.prog 116 #[.pointer (some ⟨g,0,none⟩),.agg (Mg.cells m),.int .i64 4] w ((pSink base g T ok len).Put w a (L++fldIts m bs es ls cs 4)):=by
  refine hidC fun C HC=>?_;have HP:Hid (L++fldIts m bs es ls cs 4 <+: T):=hp;have HF:Hid (Kf (pSink base g T ok len) w w a (L++[]) []):=Kf.start h;have HBS:Hid (∀ k,(pSink base g T ok len).Wr a k→base≤k):=fun k hk=>s_base h hk;clear hp h;have HRB:Hid (RdB w m.bl bs):=h1;have HRE:Hid (RdE w m.bk.e es):=h2;have HRL:Hid (RdL w m.bk.l ls):=h3;have HRC:Hid (RdC w m.cm cs):=h4;have HLB:Hid (Low base m.bl):=l1;have HLE:Hid (Low base m.bk.e):=l2;have HLL:Hid (Low base m.bk.l):=l3;have HLC:Hid (Low base m.cm):=l4;clear h1 h2 h3 h4 l1 l2 l3 l4;go_enter Tryz.func116,Tryz.ntmps116;go_upto_region 0 with fail;refine Sg<|kB (Mg.cells m) HF (pT (t:=45)) fun g1 w2 HF=>?_;(try simp only[pS]);refine Nl ?_;(try simp only[pS]);go_upto_region 1 with fail;refine Sg<|tK (.int .i64 4)<|Nl ?_;simp only[pS];go_upto_region 2 with fail;refine Sg<|bN (eIF (show ((4:Int)==0)=false by decide))<|tF<|Nl ?_;simp only[pS];go_upto_region 4 with fail;refine Sg<|bN (eIF (show ((4:Int)==1)=false by decide))<|tF<|Nl ?_;simp only[pS];go_upto_region 6 with fail;refine Sg<|bN (eIF (show ((4:Int)==2)=false by decide))<|tF<|Nl ?_;simp only[pS];go_upto_region 8 with fail;refine Sg<|bN (eIF (show ((4:Int)==3)=false by decide))<|tF<|Nl ?_;simp only[pS];go_upto_region 10 with fail;refine Sg<|bN (eIF (show ((4:Int)==4)=true by decide))<|tU<|Nl ?_;simp only[pS];go_upto_region 11 with fail;refine Sg<|tK (pg g 0)<|tK (pg g1 25)<|kP (Bv.cs m.bk) HF 0 25 U43 S43 (Mg.cs m) rfl<|kC (bktIts m.bk es ls) HF (fun a0 h0=>p_bucket m.bk es ls _ a0 _ h0 (pfx HP (by first | exact ⟨_,rfl⟩ | exact List.prefix_rfl | exact pl List.prefix_rfl | exact pl (pl List.prefix_rfl) | exact pl (pl (pl List.prefix_rfl)))) (RdE.keptL HRE.out HF.out.kept (fun h0 k hk e=>by have:=HBS.out k e;have:=HLE.out h0 k hk;omega)) (RdL.keptL HRL.out HF.out.kept (fun h0 k hk e=>by have:=HBS.out k e;have:=HLL.out h0 k hk;omega)) HLE.out HLL.out hne hnl) fun w3 HF=>Nl ?_;simp only[pS];go_wp2;rw [HC.out];have e:(bktIts m.bk es ls:List It)=fldIts m bs es ls cs 4:=rfl;rw [← e];go_end0;exact HF.out.put
theorem p_fld5 (m:Mg) (bs:List Int) (es:List En) (ls:List La) (cs:List Cm) (w:World) (a:Option Addr) (L:List It) (h:(pSink base g T ok len).St w a L) (hp:L++fldIts m bs es ls cs 5 <+: T) (h1:RdB w m.bl bs) (h2:RdE w m.bk.e es) (h3:RdL w m.bk.l ls) (h4:RdC w m.cm cs) (l1:Low base m.bl) (l2:Low base m.bk.e) (l3:Low base m.bk.l) (l4:Low base m.cm) (hne:m.bk.e.l≤281474976710656) (hnl:m.bk.l.l≤281474976710656) (hnc:m.cm.l≤281474976710656):Calls Tryz.prog 116 #[.pointer (some ⟨g,0,none⟩),.agg (Mg.cells m),.int .i64 5] w ((pSink base g T ok len).Put w a (L++fldIts m bs es ls cs 5)):=by
  refine hidC fun C HC=>?_;have HP:Hid (L++fldIts m bs es ls cs 5 <+: T):=hp;have HF:Hid (Kf (pSink base g T ok len) w w a (L++[]) []):=Kf.start h;have HBS:Hid (∀ k,(pSink base g T ok len).Wr a k→base≤k):=fun k hk=>s_base h hk;clear hp h;have HRB:Hid (RdB w m.bl bs):=h1;have HRE:Hid (RdE w m.bk.e es):=h2;have HRL:Hid (RdL w m.bk.l ls):=h3;have HRC:Hid (RdC w m.cm cs):=h4;have HLB:Hid (Low base m.bl):=l1;have HLE:Hid (Low base m.bk.e):=l2;have HLL:Hid (Low base m.bk.l):=l3;have HLC:Hid (Low base m.cm):=l4;clear h1 h2 h3 h4 l1 l2 l3 l4;go_enter Tryz.func116,Tryz.ntmps116;go_upto_region 0 with fail;refine Sg<|kB (Mg.cells m) HF (pT (t:=45)) fun g1 w2 HF=>?_;(try simp only[pS]);refine Nl ?_;(try simp only[pS]);go_upto_region 1 with fail;refine Sg<|tK (.int .i64 5)<|Nl ?_;simp only[pS];go_upto_region 2 with fail;refine Sg<|bN (eIF (show ((5:Int)==0)=false by decide))<|tF<|Nl ?_;simp only[pS];go_upto_region 4 with fail;refine Sg<|bN (eIF (show ((5:Int)==1)=false by decide))<|tF<|Nl ?_;simp only[pS];go_upto_region 6 with fail;refine Sg<|bN (eIF (show ((5:Int)==2)=false by decide))<|tF<|Nl ?_;simp only[pS];go_upto_region 8 with fail;refine Sg<|bN (eIF (show ((5:Int)==3)=false by decide))<|tF<|Nl ?_;simp only[pS];go_upto_region 10 with fail;refine Sg<|bN (eIF (show ((5:Int)==4)=false by decide))<|tF<|Nl ?_;simp only[pS];go_upto_region 12 with fail;refine Sg<|bN (eIF (show ((5:Int)==5)=true by decide))<|tU<|Nl ?_;simp only[pS];go_upto_region 13 with fail;refine wp_region_held_drew (S:=fun _=>True) rfl trivial (fun _=>?_);replace HF:Hid (Kf (pSink base g T ok len) w w2.drew a (L++[]) [(g1,45,Mg.cells m)]):=HF.out.no (Kept.refl No _).drew;generalize w2.drew=w3 at HF ⊢;refine gK 0 43 (pg g 0)<|gK 1 44 (pg g 0)<|gK 2 45 (pg g 0)<|gK 3 46 (pg g1 28)<|gD 4 47 (m.cm.v) HF 0 28 U26 rfl<|gK 5 48 (.int .i64 ((m.cm.l:Nat):Int))<|gC 6 49 ([It.n ((m.cm.l:Nat):Int)]) HF (fun a0 h0=>p_num ((m.cm.l:Nat):Int) _ a0 _ h0 (pfx HP (by first | exact ⟨_,rfl⟩ | exact List.prefix_rfl | exact pl List.prefix_rfl | exact pl (pl List.prefix_rfl) | exact pl (pl (pl List.prefix_rfl))))) fun w4 HF=>?_;(try simp only[pS]);refine wpAnyH_done (by kernel_rfl) ?_ _;(try simp only[pS]);go_upto_region 14 with fail;refine Sg<|tK (pg g1 28)<|kD (m.cm.v) HF 0 28 U26 rfl<|tK (.int .i64 ((m.cm.l:Nat):Int))<|tK (.int .i64 0)<|Nl ?_;simp only[pS];go_wp2
  go_loopw [53] (fun v53 wr=>∃ i:Nat,v53=.int .i64 ((i:Nat):Int)∧i≤m.cm.l∧Hid (Kf (pSink base g T ok len) w wr a (L++([It.n ((m.cm.l:Nat):Int)]++fl (fun j=>cmdIts (cAt cs j)) i)) [(g1,45,Mg.cells m)])) (fun v53 _=>m.cm.l - (intOf v53).toNat)
  case atStart=>exact ⟨0,by go_num,by omega,(by rw [fl0];rw [List.append_nil];exact HF)⟩
  case round=>
    clear HF;obtain ⟨i,rfl,hi,HF⟩:=hrel
    by_cases hlt:i < m.cm.l
    ·have HP:Hid ((L++([It.n ((m.cm.l:Nat):Int)]++fl (fun j=>cmdIts (cAt cs j)) i))++cmdIts (cAt cs i) <+: T):=pin HP (fl_pre (fun j=>cmdIts (cAt cs j)) hlt) List.prefix_rfl;have HF:Hid (Kf (pSink base g T ok len) w wr a ((L++([It.n ((m.cm.l:Nat):Int)]++fl (fun j=>cmdIts (cAt cs j)) i))++[]) [(g1,45,Mg.cells m)]):=by rw [List.append_nil];exact HF
     obtain ⟨b,off,hsl,hc⟩:=RdC.at' HRC.out (i:=i) (by omega);have hnb:¬ (pSink base g T ok len).Wr a b:=fun e=>by have:=HBS.out b e;have:=HLC.out (by omega) b (at_v hsl);omega
     go_upto_region 15 with fail;refine Sg<|bN (lI (a:=((i:Nat):Int)) (b:=((m.cm.l:Nat):Int)) (decide_eq_true (by omega)))<|Nl ?_;simp only[pS];go_upto_region 16 with fail;refine Sg<|iS (s:=m.cm) (i:=i) hsl E26 F26 (by omega)<|lR (load_Ca (fun j v h=>HF.out.kept.cell (hc j v h) hnb))<|kA (Cm.cells cZ) Z39 HF (pT (t:=39)) fun g5 w6 HF=>?_;simp only[pS];refine kW (Cm.cs (cAt cs i)) (Cm.cs (cAt cs i)) HF 1 0 (v:=.agg (Cm.cells (cAt cs i))) rfl S39 (Cm.oneL _) (Cm.cs cZ) rfl fun w7 HF=>?_;(try simp only[pS]);refine Nl ?_;(try simp only[pS]);go_upto_region 17 with fail;refine Sg<|tK (pg g 0)<|kP (Cm.cs (cAt cs i)) HF 1 0 U39 S39 (Cm.cs (cAt cs i)) rfl<|kC (cmdIts (cAt cs i)) HF (fun a0 h0=>p_command (cAt cs i) _ a0 _ h0 (pfx HP (by first | exact ⟨_,rfl⟩ | exact List.prefix_rfl | exact pl List.prefix_rfl | exact pl (pl List.prefix_rfl) | exact pl (pl (pl List.prefix_rfl))))) fun w8 HF=>Nl ?_;simp only[pS];go_upto_region 18 with fail;refine Sg<|bN (v:=.int .i64 (((i+1):Nat):Int)) (b_addw ((i:Nat):Int) 1 (((i+1):Nat):Int) (by rw [IntKind.wrap_i64];omega))<|tK (.int .i64 (((i+1):Nat):Int))<|Nl ?_;simp only[pS];go_wp2;go_roundw
     case rel=>exact ⟨i+1,by go_num,by omega,(by rw [fl_succ];have h:=Kf.front (l:=[(g1,45,Mg.cells m)]) (m:=[(g5,39,Cm.cells (cAt cs i))]) HF;simp only[List.append_assoc] at h ⊢;exact h)⟩
     case measure=>simp [intOf];omega
    ·have hi2:i=m.cm.l:=by omega
     clear hlt hi;subst hi2;go_upto_region 15 with fail;refine Sg<|bN (lI (a:=((m.cm.l:Nat):Int)) (b:=((m.cm.l:Nat):Int)) (decide_eq_false (by omega)))<|Nl ?_;simp only[pS];go_wp2;rw [HC.out];have e:(([It.n ((m.cm.l:Nat):Int)]++fl (fun j=>cmdIts (cAt cs j)) m.cm.l):List It)=fldIts m bs es ls cs 5:=rfl;rw [← e];go_end0;exact HF.out.put
theorem p_fld6 (m:Mg) (bs:List Int) (es:List En) (ls:List La) (cs:List Cm) (w:World) (a:Option Addr) (L:List It) (h:(pSink base g T ok len).St w a L) (hp:L++fldIts m bs es ls cs 6 <+: T) (h1:RdB w m.bl bs) (h2:RdE w m.bk.e es) (h3:RdL w m.bk.l ls) (h4:RdC w m.cm cs) (l1:Low base m.bl) (l2:Low base m.bk.e) (l3:Low base m.bk.l) (l4:Low base m.cm) (hne:m.bk.e.l≤281474976710656) (hnl:m.bk.l.l≤281474976710656) (hnc:m.cm.l≤281474976710656):Calls Tryz.prog 116 #[.pointer (some ⟨g,0,none⟩),.agg (Mg.cells m),.int .i64 6] w ((pSink base g T ok len).Put w a (L++fldIts m bs es ls cs 6)):=by
  refine hidC fun C HC=>?_;have HP:Hid (L++fldIts m bs es ls cs 6 <+: T):=hp;have HF:Hid (Kf (pSink base g T ok len) w w a (L++[]) []):=Kf.start h;have HBS:Hid (∀ k,(pSink base g T ok len).Wr a k→base≤k):=fun k hk=>s_base h hk;clear hp h;have HRB:Hid (RdB w m.bl bs):=h1;have HRE:Hid (RdE w m.bk.e es):=h2;have HRL:Hid (RdL w m.bk.l ls):=h3;have HRC:Hid (RdC w m.cm cs):=h4;have HLB:Hid (Low base m.bl):=l1;have HLE:Hid (Low base m.bk.e):=l2;have HLL:Hid (Low base m.bk.l):=l3;have HLC:Hid (Low base m.cm):=l4;clear h1 h2 h3 h4 l1 l2 l3 l4;go_enter Tryz.func116,Tryz.ntmps116;go_upto_region 0 with fail;refine Sg<|kB (Mg.cells m) HF (pT (t:=45)) fun g1 w2 HF=>?_;(try simp only[pS]);refine Nl ?_;(try simp only[pS]);go_upto_region 1 with fail;refine Sg<|tK (.int .i64 6)<|Nl ?_;simp only[pS];go_upto_region 2 with fail;refine Sg<|bN (eIF (show ((6:Int)==0)=false by decide))<|tF<|Nl ?_;simp only[pS];go_upto_region 4 with fail;refine Sg<|bN (eIF (show ((6:Int)==1)=false by decide))<|tF<|Nl ?_;simp only[pS];go_upto_region 6 with fail;refine Sg<|bN (eIF (show ((6:Int)==2)=false by decide))<|tF<|Nl ?_;simp only[pS];go_upto_region 8 with fail;refine Sg<|bN (eIF (show ((6:Int)==3)=false by decide))<|tF<|Nl ?_;simp only[pS];go_upto_region 10 with fail;refine Sg<|bN (eIF (show ((6:Int)==4)=false by decide))<|tF<|Nl ?_;simp only[pS];go_upto_region 12 with fail;refine Sg<|bN (eIF (show ((6:Int)==5)=false by decide))<|tF<|Nl ?_;simp only[pS];go_upto_region 19 with fail;refine Sg<|bN (eIF (show ((6:Int)==6)=true by decide))<|tU<|Nl ?_;simp only[pS];go_upto_region 20 with fail;refine Sg<|tK (pg g 0)<|tK (pg g1 29)<|kD (.bool m.mo) HF 0 29 U4 rfl<|kC ([It.n (bif m.mo then 1 else 0)]) HF (fun a0 h0=>p_flag m.mo _ a0 _ h0 (pfx HP (by first | exact ⟨_,rfl⟩ | exact List.prefix_rfl | exact pl List.prefix_rfl | exact pl (pl List.prefix_rfl) | exact pl (pl (pl List.prefix_rfl))))) fun w3 HF=>Nl ?_;simp only[pS];go_wp2;rw [HC.out];have e:([It.n (bif m.mo then 1 else 0)]:List It)=fldIts m bs es ls cs 6:=rfl;rw [← e];go_end0;exact HF.out.put
theorem p_fldn (m:Mg) (bs:List Int) (es:List En) (ls:List La) (cs:List Cm) (f:Int) (w:World) (a:Option Addr) (L:List It) (h:(pSink base g T ok len).St w a L) (hp:L++[] <+: T) (h1:RdB w m.bl bs) (h2:RdE w m.bk.e es) (h3:RdL w m.bk.l ls) (h4:RdC w m.cm cs) (l1:Low base m.bl) (l2:Low base m.bk.e) (l3:Low base m.bk.l) (l4:Low base m.cm) (hne:m.bk.e.l≤281474976710656) (hnl:m.bk.l.l≤281474976710656) (hnc:m.cm.l≤281474976710656) (k0:(f==0)=false) (k1:(f==1)=false) (k2:(f==2)=false) (k3:(f==3)=false) (k4:(f==4)=false) (k5:(f==5)=false) (k6:(f==6)=false):Calls Tryz.prog 116 #[.pointer (some ⟨g,0,none⟩),.agg (Mg.cells m),.int .i64 f] w ((pSink base g T ok len).Put w a (L++[])):=by
  refine hidC fun C HC=>?_;have HP:Hid (L++[] <+: T):=hp;have HF:Hid (Kf (pSink base g T ok len) w w a (L++[]) []):=Kf.start h;have HBS:Hid (∀ k,(pSink base g T ok len).Wr a k→base≤k):=fun k hk=>s_base h hk;clear hp h;have HRB:Hid (RdB w m.bl bs):=h1;have HRE:Hid (RdE w m.bk.e es):=h2;have HRL:Hid (RdL w m.bk.l ls):=h3;have HRC:Hid (RdC w m.cm cs):=h4;have HLB:Hid (Low base m.bl):=l1;have HLE:Hid (Low base m.bk.e):=l2;have HLL:Hid (Low base m.bk.l):=l3;have HLC:Hid (Low base m.cm):=l4;clear h1 h2 h3 h4 l1 l2 l3 l4;go_enter Tryz.func116,Tryz.ntmps116;go_upto_region 0 with fail;refine Sg<|kB (Mg.cells m) HF (pT (t:=45)) fun g1 w2 HF=>?_;(try simp only[pS]);refine Nl ?_;(try simp only[pS]);go_upto_region 1 with fail;refine Sg<|tK (.int .i64 f)<|Nl ?_;simp only[pS];go_upto_region 2 with fail;refine Sg<|bN (eIF k0)<|tF<|Nl ?_;simp only[pS];go_upto_region 4 with fail;refine Sg<|bN (eIF k1)<|tF<|Nl ?_;simp only[pS];go_upto_region 6 with fail;refine Sg<|bN (eIF k2)<|tF<|Nl ?_;simp only[pS];go_upto_region 8 with fail;refine Sg<|bN (eIF k3)<|tF<|Nl ?_;simp only[pS];go_upto_region 10 with fail;refine Sg<|bN (eIF k4)<|tF<|Nl ?_;simp only[pS];go_upto_region 12 with fail;refine Sg<|bN (eIF k5)<|tF<|Nl ?_;simp only[pS];go_upto_region 19 with fail;refine Sg<|bN (eIF k6)<|tF<|Nl ?_;simp only[pS];go_wp2;rw [HC.out];have e:([]:List It)=[]:=rfl;rw [← e];go_end0;exact HF.out.put
theorem p_field (m:Mg) (bs:List Int) (es:List En) (ls:List La) (cs:List Cm) (f:Int) (w:World) (a:Option Addr) (L:List It) (h:(pSink base g T ok len).St w a L) (hp:L++fldIts m bs es ls cs f <+: T) (h1:RdB w m.bl bs) (h2:RdE w m.bk.e es) (h3:RdL w m.bk.l ls) (h4:RdC w m.cm cs) (l1:Low base m.bl) (l2:Low base m.bk.e) (l3:Low base m.bk.l) (l4:Low base m.cm) (hne:m.bk.e.l≤281474976710656) (hnl:m.bk.l.l≤281474976710656) (hnc:m.cm.l≤281474976710656):Calls Tryz.prog 116 #[.pointer (some ⟨g,0,none⟩),.agg (Mg.cells m),.int .i64 f] w ((pSink base g T ok len).Put w a (L++fldIts m bs es ls cs f)):=by
  by_cases k0:f=0
  · subst k0;exact p_fld0 m bs es ls cs w a L h hp h1 h2 h3 h4 l1 l2 l3 l4 hne hnl hnc
  by_cases k1:f=1
  · subst k1;exact p_fld1 m bs es ls cs w a L h hp h1 h2 h3 h4 l1 l2 l3 l4 hne hnl hnc
  by_cases k2:f=2
  · subst k2;exact p_fld2 m bs es ls cs w a L h hp h1 h2 h3 h4 l1 l2 l3 l4 hne hnl hnc
  by_cases k3:f=3
  · subst k3;exact p_fld3 m bs es ls cs w a L h hp h1 h2 h3 h4 l1 l2 l3 l4 hne hnl hnc
  by_cases k4:f=4
  · subst k4;exact p_fld4 m bs es ls cs w a L h hp h1 h2 h3 h4 l1 l2 l3 l4 hne hnl hnc
  by_cases k5:f=5
  · subst k5;exact p_fld5 m bs es ls cs w a L h hp h1 h2 h3 h4 l1 l2 l3 l4 hne hnl hnc
  by_cases k6:f=6
  · subst k6;exact p_fld6 m bs es ls cs w a L h hp h1 h2 h3 h4 l1 l2 l3 l4 hne hnl hnc
  have q0:(f==0)=false:=beq_eq_false_iff_ne.2 k0;have q1:(f==1)=false:=beq_eq_false_iff_ne.2 k1;have q2:(f==2)=false:=beq_eq_false_iff_ne.2 k2;have q3:(f==3)=false:=beq_eq_false_iff_ne.2 k3;have q4:(f==4)=false:=beq_eq_false_iff_ne.2 k4;have q5:(f==5)=false:=beq_eq_false_iff_ne.2 k5;have q6:(f==6)=false:=beq_eq_false_iff_ne.2 k6;have e:fldIts m bs es ls cs f=[]:=by simp only[fldIts,q0,q1,q2,q3,q4,q5,q6,cond_false]
  rw [e] at hp ⊢;exact p_fldn m bs es ls cs f w a L h hp h1 h2 h3 h4 l1 l2 l3 l4 hne hnl hnc q0 q1 q2 q3 q4 q5 q6
end
theorem fieldsK_len (k:Int):(fieldsK k).length≤5:=by
  unfold fieldsK
  (repeat' split) <;> decide
section
variable {base g:Nat} {T:List It} {ok:∀ x∈T,itOk x} {len:itsLen T≤131072}
theorem p_msg1 (m:Mg) (bs:List Int) (es:List En) (ls:List La) (cs:List Cm) (w:World) (a:Option Addr) (L:List It) (h:(pSink base g T ok len).St w a L) (hp:L++(hdIts m++fl (fun j=>fldIts m bs es ls cs ((fieldsK m.k)[j]?.getD 0)) (fieldsK m.k).length) <+: T) (h1:RdB w m.bl bs) (h2:RdE w m.bk.e es) (h3:RdL w m.bk.l ls) (h4:RdC w m.cm cs) (l1:Low base m.bl) (l2:Low base m.bk.e) (l3:Low base m.bk.l) (l4:Low base m.cm) (hne:m.bk.e.l≤281474976710656) (hnl:m.bk.l.l≤281474976710656) (hnc:m.cm.l≤281474976710656) (hz:fieldsK m.k≠[]):Calls Tryz.prog 53 #[.pointer (some ⟨g,0,none⟩),.agg (Mg.cells m)] w ((pSink base g T ok len).Put w a (L++(hdIts m++fl (fun j=>fldIts m bs es ls cs ((fieldsK m.k)[j]?.getD 0)) (fieldsK m.k).length))):=by
  refine hidC fun C HC=>?_;have HP:Hid (L++(hdIts m++fl (fun j=>fldIts m bs es ls cs ((fieldsK m.k)[j]?.getD 0)) (fieldsK m.k).length) <+: T):=hp;have HF:Hid (Kf (pSink base g T ok len) w w a (L++[]) []):=Kf.start h;have HBS:Hid (∀ k,(pSink base g T ok len).Wr a k→base≤k):=fun k hk=>s_base h hk;clear hp h;have HRB:Hid (RdB w m.bl bs):=h1;have HRE:Hid (RdE w m.bk.e es):=h2;have HRL:Hid (RdL w m.bk.l ls):=h3;have HRC:Hid (RdC w m.cm cs):=h4;have HLB:Hid (Low base m.bl):=l1;have HLE:Hid (Low base m.bk.e):=l2;have HLL:Hid (Low base m.bk.l):=l3;have HLC:Hid (Low base m.cm):=l4;clear h1 h2 h3 h4 l1 l2 l3 l4;have hfl:=fieldsK_len m.k;go_enter Tryz.func53,Tryz.ntmps53;go_upto_region 0 with fail;refine Sg<|kB (Mg.cells m) HF (pT (t:=45)) fun g1 w2 HF=>?_;(try simp only[pS]);refine Nl ?_;(try simp only[pS]);go_upto_region 1 with fail;refine Sg<|tK (pg g 0)<|tK (pg g1 0)<|kD (.int .i64 m.k) HF 0 0 U3 rfl<|kI ([m.k]) HF (pT (t:=3)) fun g3 w4 HF=>?_;simp only[pS];refine kC ([It.n m.k]) HF (fun a0 h0=>p_nums [m.k] g3 _ a0 _ h0 (pfx HP (by first | exact ⟨_,rfl⟩ | exact List.prefix_rfl | exact pl List.prefix_rfl | exact pl (pl List.prefix_rfl) | exact pl (pl (pl List.prefix_rfl)))) (HF.out.box 1 _ _ _ rfl)) fun w5 HF=>Nl ?_;(try simp only[pS]);go_upto_region 2 with fail;refine Sg<|tK (pg g 0)<|tK (pg g1 1)<|kP (Ad.cs m.fr) HF 0 1 U30 S30 (Mg.cs m) rfl<|kC ([It.n (bif m.fr.cl then 1 else 0),It.n m.fr.id]) HF (fun a0 h0=>p_addr m.fr _ a0 _ h0 (pfx HP (by first | exact ⟨_,rfl⟩ | exact List.prefix_rfl | exact pl List.prefix_rfl | exact pl (pl List.prefix_rfl) | exact pl (pl (pl List.prefix_rfl))))) fun w6 HF=>Nl ?_;simp only[pS];go_upto_region 3 with fail;refine Sg<|tK (pg g 0)<|tK (pg g1 3)<|kP (Ad.cs m.too) HF 0 3 U30 S30 (Mg.cs m) rfl<|kC ([It.n (bif m.too.cl then 1 else 0),It.n m.too.id]) HF (fun a0 h0=>p_addr m.too _ a0 _ h0 (pfx HP (by first | exact ⟨_,rfl⟩ | exact List.prefix_rfl | exact pl List.prefix_rfl | exact pl (pl List.prefix_rfl) | exact pl (pl (pl List.prefix_rfl))))) fun w7 HF=>Nl ?_;simp only[pS];go_upto_region 4 with fail;refine Sg<|tK (pg g 0)<|tK (pg g1 5)<|kD (.int .i64 m.op) HF 0 5 U3 rfl<|tK (pg g1 6)<|kD (.int .i64 m.rd) HF 0 6 U3 rfl<|tK (pg g1 7)<|tK (pg g1 7)<|kD (.int .i64 m.ky.k) HF 0 7 U3 rfl<|tK (pg g1 7)<|tK (pg g1 8)<|kD (.int .i64 m.ky.a) HF 0 8 U3 rfl<|tK (pg g1 7)<|tK (pg g1 9)<|kD (.int .i64 m.ky.b) HF 0 9 U3 rfl<|tK (pg g1 7)<|tK (pg g1 10)<|kD (.int .i64 m.ky.c) HF 0 10 U3 rfl<|kI ([m.op,m.rd,m.ky.k,m.ky.a,m.ky.b,m.ky.c]) HF (pT (t:=3)) fun g8 w9 HF=>?_;simp only[pS];refine kC ([It.n m.op,It.n m.rd,It.n m.ky.k,It.n m.ky.a,It.n m.ky.b,It.n m.ky.c]) HF (fun a0 h0=>p_nums [m.op,m.rd,m.ky.k,m.ky.a,m.ky.b,m.ky.c] g8 _ a0 _ h0 (pfx HP (by first | exact ⟨_,rfl⟩ | exact List.prefix_rfl | exact pl List.prefix_rfl | exact pl (pl List.prefix_rfl) | exact pl (pl (pl List.prefix_rfl)))) (HF.out.box 2 _ _ _ rfl)) fun w10 HF=>Nl ?_;(try simp only[pS]);go_upto_region 5 with fail;refine Sg<|tK (pg g1 0)<|kD (.int .i64 m.k) HF 0 0 U3 rfl<|kF (p_fieldsB m.k _) hz HF (pT (t:=164)) fun g12 w11 HF=>?_;simp only[pS];refine tK (.int .i64 (((fieldsK m.k).length:Nat):Int))<|tK (.int .i64 0)<|Nl ?_;simp only[pS];go_wp2
  go_loopw [42] (fun v42 wr=>∃ i:Nat,v42=.int .i64 ((i:Nat):Int)∧i≤(fieldsK m.k).length∧Hid (Kf (pSink base g T ok len) w wr a (L++(((([It.n m.k]++[It.n (bif m.fr.cl then 1 else 0),It.n m.fr.id])++[It.n (bif m.too.cl then 1 else 0),It.n m.too.id])++[It.n m.op,It.n m.rd,It.n m.ky.k,It.n m.ky.a,It.n m.ky.b,It.n m.ky.c])++fl (fun j=>fldIts m bs es ls cs ((fieldsK m.k)[j]?.getD 0)) i)) [(g1,45,Mg.cells m),(g3,3,(i64L [m.k]).toArray),(g8,3,(i64L [m.op,m.rd,m.ky.k,m.ky.a,m.ky.b,m.ky.c]).toArray),(g12,164,(i64L (fieldsK m.k)).toArray)])) (fun v42 _=>(fieldsK m.k).length - (intOf v42).toNat)
  case atStart=>exact ⟨0,by go_num,by omega,(by rw [fl0];rw [List.append_nil];exact HF)⟩
  case round=>
    clear HF;obtain ⟨i,rfl,hi,HF⟩:=hrel
    by_cases hlt:i < (fieldsK m.k).length
    ·have HP:Hid ((L++(((([It.n m.k]++[It.n (bif m.fr.cl then 1 else 0),It.n m.fr.id])++[It.n (bif m.too.cl then 1 else 0),It.n m.too.id])++[It.n m.op,It.n m.rd,It.n m.ky.k,It.n m.ky.a,It.n m.ky.b,It.n m.ky.c])++fl (fun j=>fldIts m bs es ls cs ((fieldsK m.k)[j]?.getD 0)) i))++fldIts m bs es ls cs ((fieldsK m.k)[i]?.getD 0) <+: T):=pin HP (fl_pre (fun j=>fldIts m bs es ls cs ((fieldsK m.k)[j]?.getD 0)) hlt) List.prefix_rfl;have HF:Hid (Kf (pSink base g T ok len) w wr a ((L++(((([It.n m.k]++[It.n (bif m.fr.cl then 1 else 0),It.n m.fr.id])++[It.n (bif m.too.cl then 1 else 0),It.n m.too.id])++[It.n m.op,It.n m.rd,It.n m.ky.k,It.n m.ky.a,It.n m.ky.b,It.n m.ky.c])++fl (fun j=>fldIts m bs es ls cs ((fieldsK m.k)[j]?.getD 0)) i))++[]) [(g1,45,Mg.cells m),(g3,3,(i64L [m.k]).toArray),(g8,3,(i64L [m.op,m.rd,m.ky.k,m.ky.a,m.ky.b,m.ky.c]).toArray),(g12,164,(i64L (fieldsK m.k)).toArray)]):=by rw [List.append_nil];exact HF
     go_upto_region 6 with fail;refine Sg<|bN (lI (a:=((i:Nat):Int)) (b:=(((fieldsK m.k).length:Nat):Int)) (decide_eq_true (by omega)))<|Nl ?_;simp only[pS];go_upto_region 7 with fail;refine Sg<|iS (s:=⟨some ⟨g12,0,none⟩,(fieldsK m.k).length,(fieldsK m.k).length⟩) (i:=i) rfl E141 F141 (by show _ < (fieldsK m.k).length;omega)<|lR (load_one (i64_at (HF.out.box 3 _ _ _ rfl) i hlt) U164 rfl)<|tK (.int .i64 ((fieldsK m.k)[i]?.getD 0))<|Nl ?_;simp only[pS];go_upto_region 8 with fail;refine Sg<|tK (pg g 0)<|kP (Mg.cs m) HF 0 0 U45 S45 (Mg.cs m) rfl<|tK (.int .i64 ((fieldsK m.k)[i]?.getD 0))<|kC (fldIts m bs es ls cs ((fieldsK m.k)[i]?.getD 0)) HF (fun a0 h0=>p_field m bs es ls cs ((fieldsK m.k)[i]?.getD 0) _ a0 _ h0 (pfx HP (by first | exact ⟨_,rfl⟩ | exact List.prefix_rfl | exact pl List.prefix_rfl | exact pl (pl List.prefix_rfl) | exact pl (pl (pl List.prefix_rfl)))) (RdB.keptL HRB.out HF.out.kept (fun h0 k hk e=>by have:=HBS.out k e;have:=HLB.out h0 k hk;omega)) (RdE.keptL HRE.out HF.out.kept (fun h0 k hk e=>by have:=HBS.out k e;have:=HLE.out h0 k hk;omega)) (RdL.keptL HRL.out HF.out.kept (fun h0 k hk e=>by have:=HBS.out k e;have:=HLL.out h0 k hk;omega)) (RdC.keptL HRC.out HF.out.kept (fun h0 k hk e=>by have:=HBS.out k e;have:=HLC.out h0 k hk;omega)) HLB.out HLE.out HLL.out HLC.out hne hnl hnc) fun w13 HF=>Nl ?_;simp only[pS];go_upto_region 9 with fail;refine Sg<|bN (v:=.int .i64 (((i+1):Nat):Int)) (b_addw ((i:Nat):Int) 1 (((i+1):Nat):Int) (by rw [IntKind.wrap_i64];omega))<|tK (.int .i64 (((i+1):Nat):Int))<|Nl ?_;simp only[pS];go_wp2;go_roundw
     case rel=>exact ⟨i+1,by go_num,by omega,(by rw [fl_succ];have h:=HF;simp only[List.append_assoc] at h ⊢;exact h)⟩
     case measure=>simp [intOf];omega
    ·have hi2:i=(fieldsK m.k).length:=by omega
     clear hlt hi;subst hi2;go_upto_region 6 with fail;refine Sg<|bN (lI (a:=(((fieldsK m.k).length:Nat):Int)) (b:=(((fieldsK m.k).length:Nat):Int)) (decide_eq_false (by omega)))<|Nl ?_;simp only[pS];go_wp2;rw [HC.out];have e:((((([It.n m.k]++[It.n (bif m.fr.cl then 1 else 0),It.n m.fr.id])++[It.n (bif m.too.cl then 1 else 0),It.n m.too.id])++[It.n m.op,It.n m.rd,It.n m.ky.k,It.n m.ky.a,It.n m.ky.b,It.n m.ky.c])++fl (fun j=>fldIts m bs es ls cs ((fieldsK m.k)[j]?.getD 0)) (fieldsK m.k).length):List It)=(hdIts m++fl (fun j=>fldIts m bs es ls cs ((fieldsK m.k)[j]?.getD 0)) (fieldsK m.k).length):=rfl;rw [← e];go_end0;exact HF.out.put
theorem p_msg0 (m:Mg) (bs:List Int) (es:List En) (ls:List La) (cs:List Cm) (w:World) (a:Option Addr) (L:List It) (h:(pSink base g T ok len).St w a L) (hp:L++(hdIts m++fl (fun j=>fldIts m bs es ls cs ((fieldsK m.k)[j]?.getD 0)) 0) <+: T) (h1:RdB w m.bl bs) (h2:RdE w m.bk.e es) (h3:RdL w m.bk.l ls) (h4:RdC w m.cm cs) (l1:Low base m.bl) (l2:Low base m.bk.e) (l3:Low base m.bk.l) (l4:Low base m.cm) (hne:m.bk.e.l≤281474976710656) (hnl:m.bk.l.l≤281474976710656) (hnc:m.cm.l≤281474976710656) (hz:fieldsK m.k=[]):Calls Tryz.prog 53 #[.pointer (some ⟨g,0,none⟩),.agg (Mg.cells m)] w ((pSink base g T ok len).Put w a (L++(hdIts m++fl (fun j=>fldIts m bs es ls cs ((fieldsK m.k)[j]?.getD 0)) 0))):=by
  refine hidC fun C HC=>?_;have HP:Hid (L++(hdIts m++fl (fun j=>fldIts m bs es ls cs ((fieldsK m.k)[j]?.getD 0)) 0) <+: T):=hp;have HF:Hid (Kf (pSink base g T ok len) w w a (L++[]) []):=Kf.start h;have HBS:Hid (∀ k,(pSink base g T ok len).Wr a k→base≤k):=fun k hk=>s_base h hk;clear hp h;have HRB:Hid (RdB w m.bl bs):=h1;have HRE:Hid (RdE w m.bk.e es):=h2;have HRL:Hid (RdL w m.bk.l ls):=h3;have HRC:Hid (RdC w m.cm cs):=h4;have HLB:Hid (Low base m.bl):=l1;have HLE:Hid (Low base m.bk.e):=l2;have HLL:Hid (Low base m.bk.l):=l3;have HLC:Hid (Low base m.cm):=l4;clear h1 h2 h3 h4 l1 l2 l3 l4;go_enter Tryz.func53,Tryz.ntmps53;go_upto_region 0 with fail;refine Sg<|kB (Mg.cells m) HF (pT (t:=45)) fun g1 w2 HF=>?_;(try simp only[pS]);refine Nl ?_;(try simp only[pS]);go_upto_region 1 with fail;refine Sg<|tK (pg g 0)<|tK (pg g1 0)<|kD (.int .i64 m.k) HF 0 0 U3 rfl<|kI ([m.k]) HF (pT (t:=3)) fun g3 w4 HF=>?_;simp only[pS];refine kC ([It.n m.k]) HF (fun a0 h0=>p_nums [m.k] g3 _ a0 _ h0 (pfx HP (by first | exact ⟨_,rfl⟩ | exact List.prefix_rfl | exact pl List.prefix_rfl | exact pl (pl List.prefix_rfl) | exact pl (pl (pl List.prefix_rfl)))) (HF.out.box 1 _ _ _ rfl)) fun w5 HF=>Nl ?_;(try simp only[pS]);go_upto_region 2 with fail;refine Sg<|tK (pg g 0)<|tK (pg g1 1)<|kP (Ad.cs m.fr) HF 0 1 U30 S30 (Mg.cs m) rfl<|kC ([It.n (bif m.fr.cl then 1 else 0),It.n m.fr.id]) HF (fun a0 h0=>p_addr m.fr _ a0 _ h0 (pfx HP (by first | exact ⟨_,rfl⟩ | exact List.prefix_rfl | exact pl List.prefix_rfl | exact pl (pl List.prefix_rfl) | exact pl (pl (pl List.prefix_rfl))))) fun w6 HF=>Nl ?_;simp only[pS];go_upto_region 3 with fail;refine Sg<|tK (pg g 0)<|tK (pg g1 3)<|kP (Ad.cs m.too) HF 0 3 U30 S30 (Mg.cs m) rfl<|kC ([It.n (bif m.too.cl then 1 else 0),It.n m.too.id]) HF (fun a0 h0=>p_addr m.too _ a0 _ h0 (pfx HP (by first | exact ⟨_,rfl⟩ | exact List.prefix_rfl | exact pl List.prefix_rfl | exact pl (pl List.prefix_rfl) | exact pl (pl (pl List.prefix_rfl))))) fun w7 HF=>Nl ?_;simp only[pS];go_upto_region 4 with fail;refine Sg<|tK (pg g 0)<|tK (pg g1 5)<|kD (.int .i64 m.op) HF 0 5 U3 rfl<|tK (pg g1 6)<|kD (.int .i64 m.rd) HF 0 6 U3 rfl<|tK (pg g1 7)<|tK (pg g1 7)<|kD (.int .i64 m.ky.k) HF 0 7 U3 rfl<|tK (pg g1 7)<|tK (pg g1 8)<|kD (.int .i64 m.ky.a) HF 0 8 U3 rfl<|tK (pg g1 7)<|tK (pg g1 9)<|kD (.int .i64 m.ky.b) HF 0 9 U3 rfl<|tK (pg g1 7)<|tK (pg g1 10)<|kD (.int .i64 m.ky.c) HF 0 10 U3 rfl<|kI ([m.op,m.rd,m.ky.k,m.ky.a,m.ky.b,m.ky.c]) HF (pT (t:=3)) fun g8 w9 HF=>?_;simp only[pS];refine kC ([It.n m.op,It.n m.rd,It.n m.ky.k,It.n m.ky.a,It.n m.ky.b,It.n m.ky.c]) HF (fun a0 h0=>p_nums [m.op,m.rd,m.ky.k,m.ky.a,m.ky.b,m.ky.c] g8 _ a0 _ h0 (pfx HP (by first | exact ⟨_,rfl⟩ | exact List.prefix_rfl | exact pl List.prefix_rfl | exact pl (pl List.prefix_rfl) | exact pl (pl (pl List.prefix_rfl)))) (HF.out.box 2 _ _ _ rfl)) fun w10 HF=>Nl ?_;(try simp only[pS]);go_upto_region 5 with fail;refine Sg<|tK (pg g1 0)<|kD (.int .i64 m.k) HF 0 0 U3 rfl<|kF0 (p_fieldsB m.k _) hz HF fun w11 HF=>?_;simp only[pS];refine tK (.int .i64 ((0:Nat):Int))<|tK (.int .i64 0)<|Nl ?_;simp only[pS];go_wp2
  go_loopw [42] (fun v42 wr=>∃ i:Nat,v42=.int .i64 ((i:Nat):Int)∧i≤0∧Hid (Kf (pSink base g T ok len) w wr a (L++(((([It.n m.k]++[It.n (bif m.fr.cl then 1 else 0),It.n m.fr.id])++[It.n (bif m.too.cl then 1 else 0),It.n m.too.id])++[It.n m.op,It.n m.rd,It.n m.ky.k,It.n m.ky.a,It.n m.ky.b,It.n m.ky.c])++fl (fun j=>fldIts m bs es ls cs ((fieldsK m.k)[j]?.getD 0)) i)) [(g1,45,Mg.cells m),(g3,3,(i64L [m.k]).toArray),(g8,3,(i64L [m.op,m.rd,m.ky.k,m.ky.a,m.ky.b,m.ky.c]).toArray)])) (fun v42 _=>0 - (intOf v42).toNat)
  case atStart=>exact ⟨0,by go_num,by omega,(by rw [fl0];rw [List.append_nil];exact HF)⟩
  case round=>
    clear HF;obtain ⟨i,rfl,hi,HF⟩:=hrel
    by_cases hlt:i < 0
    ·exact absurd hlt (Nat.not_lt_zero _)
    ·obtain rfl:i=0:=by omega
     go_upto_region 6 with fail;refine Sg<|bN (lI (a:=((0:Nat):Int)) (b:=((0:Nat):Int)) (decide_eq_false (by omega)))<|Nl ?_;simp only[pS];go_wp2;rw [HC.out];have e:((((([It.n m.k]++[It.n (bif m.fr.cl then 1 else 0),It.n m.fr.id])++[It.n (bif m.too.cl then 1 else 0),It.n m.too.id])++[It.n m.op,It.n m.rd,It.n m.ky.k,It.n m.ky.a,It.n m.ky.b,It.n m.ky.c])++fl (fun j=>fldIts m bs es ls cs ((fieldsK m.k)[j]?.getD 0)) 0):List It)=(hdIts m++fl (fun j=>fldIts m bs es ls cs ((fieldsK m.k)[j]?.getD 0)) 0):=rfl;rw [← e];go_end0;exact HF.out.put
theorem p_msg (m:Mg) (bs:List Int) (es:List En) (ls:List La) (cs:List Cm) (w:World) (a:Option Addr) (L:List It) (h:(pSink base g T ok len).St w a L) (hp:L++msgIts m bs es ls cs <+: T) (h1:RdB w m.bl bs) (h2:RdE w m.bk.e es) (h3:RdL w m.bk.l ls) (h4:RdC w m.cm cs) (l1:Low base m.bl) (l2:Low base m.bk.e) (l3:Low base m.bk.l) (l4:Low base m.cm) (hne:m.bk.e.l≤281474976710656) (hnl:m.bk.l.l≤281474976710656) (hnc:m.cm.l≤281474976710656):Calls Tryz.prog 53 #[.pointer (some ⟨g,0,none⟩),.agg (Mg.cells m)] w ((pSink base g T ok len).Put w a (L++msgIts m bs es ls cs)):=by
  by_cases hz:fieldsK m.k=[]
  · have e:msgIts m bs es ls cs=hdIts m++fl (fun j=>fldIts m bs es ls cs ((fieldsK m.k)[j]?.getD 0)) 0:=by unfold msgIts;rw [hz];rfl
    rw [e] at hp ⊢;exact p_msg0 m bs es ls cs w a L h hp h1 h2 h3 h4 l1 l2 l3 l4 hne hnl hnc hz
  · exact p_msg1 m bs es ls cs w a L h hp h1 h2 h3 h4 l1 l2 l3 l4 hne hnl hnc hz
end
def encIt:It→List Int
  | .n i=>Wi.vint i.toNat
  | .b zs=>Wi.vint zs.length++zs
def encB (L:List It):List Int:=(L.map encIt).flatten
theorem putT_some {x:It} (h:itOk x) (ys:List Int):putT (some ys) x=some (ys++encIt x):=by
  cases x with
  | n i=>show Wi.putNum (some ys) i=_;unfold Wi.putNum;rw [if_neg (by have:=h.1;omega)];rfl
  | b zs=>rfl
theorem putTs_some {L:List It} (h:okL L):putTs L=some (encB L):=by
  suffices H:∀ (L:List It) (ys:List Int),okL L→L.foldl putT (some ys)=some (ys++encB L) by
    have:=H L [] h;simpa [putTs] using this
  intro L
  induction L with
  | nil=>intro ys _;simp [encB]
  | cons x r ih=>
    intro ys h
    rw [List.foldl_cons,putT_some (h x (List.mem_cons_self ..)),ih _ (fun y hy=>h y (List.mem_cons_of_mem _ hy))]
    simp [encB]
theorem encB_len {L:List It} (h:okL L):(encB L).length≤itsLen L:=by
  have h1:=putTs_len L h
  rw [putTs_some h] at h1
  exact h1
theorem encB_u8 {L:List It} (h:okL L):Wi.U8 (encB L):=by
  induction L with
  | nil=>exact Wi.U8.nil
  | cons x r ih=>
    have h1:encB (x :: r)=encIt x++encB r:=by simp [encB]
    rw [h1]
    refine Wi.U8.append ?_ (ih (fun y hy=>h y (List.mem_cons_of_mem _ hy)))
    have h2:=h x (List.mem_cons_self ..)
    cases x with
    | n i=>exact Wi.vint_u8 _
    | b zs=>exact Wi.U8.append (Wi.vint_u8 _) h2.2
structure EncO (w:World) (err:Int) (bytes:List Int) (e:Ending) (w':World):Prop where
  out:∃ s:Sl,e=.returned (.tuple #[s.v,.int .i64 err])∧RdB w' s bytes∧s.l≤131084∧Kept No w w'
def encR (b:Bool) (L:List It):List Int:=bif b then Wi.sealOf (encB L) else []
theorem RdB.nilS (w:World):RdB w slZ []:=⟨fun i hi=>absurd hi (Nat.not_lt_zero _),rfl,fun _=>rfl⟩
theorem own_rdB {w:World} {base:Nat} {a:Option Addr} {n c:Nat} {zs:List Int} (h:Wi.OwnS w base a c zs) (hn:zs.length=n):RdB w ⟨a,n,c⟩ zs:=by
  refine ⟨h.bytes,hn,fun e=>?_⟩
  rcases h.cases with ⟨_,h2⟩ | ⟨g,h1,_⟩
  · exact h2.1
  · have e:a=none:=e
    rw [e] at h1;cases h1
theorem pPut' {base g:Nat} {T:List It} {ok:∀ x∈T,itOk x} {len:itsLen T≤131072} {w:World} {a:Option Addr} {L:List It} {body:List Int} (hb:putTs L=some body) {f:FuncId} {args:Array Value} (h:Calls Tryz.prog f args w ((pSink base g T ok len).Put w a L)) :
    Calls Tryz.prog f args w (Wi.Puts w base g a (some body)):=
  h.mono (by rintro e w' ⟨rfl,a',⟨c',h1⟩,h2,h3⟩;exact ⟨rfl,a',c',by rw [← hb];exact h1,⟨h2.os,h2.tape,h2.output,h2.size,fun k hk hS=>h2.block k hk hS⟩,h3⟩)
section
variable {ops:Array Oper} {rest:List Oper} {o:Oper} {a:Act} {w:World} {Q:Exit→Act→World→Prop} {S:Nat→Prop} {w0:World} {l:List (Nat × TypeId × Array Value)}
end
theorem jdg_ne {a b:Bool} {r:Int} (h:(a&&b)=false) (hr:r≠0):jdg a b r≠0:=by
  cases a <;> cases b <;> first | (cases h;done) | (unfold jdg;simp;try exact hr)
section
variable {base g:Nat} {T:List It} {ok:∀ x∈T,itOk x} {len:itsLen T≤131072}
end
section
variable {base g:Nat} {T:List It} {ok:∀ x∈T,itOk x} {len:itsLen T≤131072}
end
theorem Fq.sink {w0 w:World} {l:List (Nat × TypeId × Array Value)} {g:Nat} {T:List It} {ok:∀ x∈T,itOk x} {len:itsLen T≤131072} (h:Fq No w0 w (l++[(g,104,#[.slice none 0 0])])) (ht:∀ (i:Nat) g' t cs,l[i]?=some (g',t,cs)→¬ (t=104∨t=182∨t=5)) :
    Kf (rSink w0.heap.size g T ok len) w0 w none ([]++[]) l:=by
  have hl:(l++[(g,104,#[.slice none 0 0])])[l.length]?=some (g,104,#[.slice none 0 0]):=by rw [List.getElem?_append_right (Nat.le_refl _),Nat.sub_self];rfl
  have hg:w0.heap.size≤g:=(h.low _ _ _ _ hl).elim id False.elim
  have hf:=h.front
  exact ⟨hf.kept.of_no,Nat.le_refl _,⟨none,⟨[],0,0,⟨h.box _ _ _ _ hl,⟨rfl,.inl ⟨rfl,rfl⟩⟩,rfl,rfl,fun x hx=>by simp at hx,hg⟩⟩,fun k hk=>absurd hk At.none⟩,hf.box,fun i g' t cs hi=>(hf.low i g' t cs hi).elim id False.elim,hf.inj,fun i g' t cs hi=>ht i g' t cs hi⟩
theorem Kf.keptNo {w0 w:World} {g:Nat} {T L:List It} {ok:∀ x∈T,itOk x} {len:itsLen T≤131072} {l:List (Nat × TypeId × Array Value)} (h:Kf (rSink w0.heap.size g T ok len) w0 w none L l) (hg:w0.heap.size≤g):Kept No w0 w:=
  h.kept.mono (fun k hk e=>by
    rcases e with e | e
    · have e1:k=g:=e
      omega
    · exact absurd e At.none)
section
variable {ops:Array Oper} {rest:List Oper} {o:Oper} {a:Act} {w:World} {Q:Exit→Act→World→Prop} {w0:World} {l:List (Nat × TypeId × Array Value)}
end
structure BlIn (w:World) (x:Bl) (bs:List Int):Prop where
  b:RdB w x.d bs
  nb:x.d.l≤140737488351232
  u:Wi.U8 bs
theorem BlIn.no {w w':World} {x:Bl} {bs:List Int} (H:BlIn w x bs) (hk:Kept No w w'):BlIn w' x bs:=⟨H.b.no hk,H.nb,H.u⟩
structure InIn (w:World) (x:In):Prop where
  d:x=x
theorem InIn.no {w w':World} {x:In} (H:InIn w x) (hk:Kept No w w'):InIn w' x:=⟨rfl⟩
end Go.Proofs.YtgdnofacgfjaeaaGreat.Md
