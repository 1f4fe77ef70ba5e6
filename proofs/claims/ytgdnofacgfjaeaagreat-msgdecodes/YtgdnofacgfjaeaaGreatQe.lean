import Derived.Test.YtgdnofacgfjaeaaGreatQa
namespace Go.Proofs.YtgdnofacgfjaeaaGreat.Md
open Go.RowKit
set_option linter.unusedVariables false
set_option linter.unusedSimpArgs false
structure Pm where
  k:Int
  fr:Ad
  too:Ad
  op:Int
  rd:Int
  ky:Ky
  st:Sp
  hd:Sp
  bs:List Int
  c:Cm
  up:Int
  es:List En
  ls:List La
  cs:List Cm
  mo:Bool
def pmG (p:Pm) (x e l c:Sl):Mg:=⟨p.k,p.fr,p.too,p.op,p.rd,p.ky,p.st,p.hd,x,p.c,⟨p.up,e,l⟩,c,p.mo⟩
def nilL (n:Nat):Sl:=⟨none,n,0⟩
def pmM (p:Pm):Mg:=pmG p (nilL p.bs.length) (nilL p.es.length) (nilL p.ls.length) (nilL p.cs.length)
def pmP (B rm bu:Int) (zs:List Int) (p:Pm):Bool:=msgP B rm bu zs (pmM p) p.bs p.es p.ls p.cs
def pmI (p:Pm):List It:=msgIts (pmM p) p.bs p.es p.ls p.cs
theorem pmP_is (B rm bu:Int) (zs:List Int) (p:Pm) (x e l c:Sl) (hx:x.l=p.bs.length) (he:e.l=p.es.length) (hl:l.l=p.ls.length) (hc:c.l=p.cs.length):msgP B rm bu zs (pmG p x e l c) p.bs p.es p.ls p.cs=pmP B rm bu zs p:=by
  obtain ⟨xa,xl,xk⟩:=x
  obtain ⟨ea,el,ek⟩:=e
  obtain ⟨la,ll,lk⟩:=l
  obtain ⟨ca,cl,ck⟩:=c
  simp only at hx he hl hc
  subst hx he hl hc
  rfl
theorem pmI_is (p:Pm) (x e l c:Sl) (hx:x.l=p.bs.length) (he:e.l=p.es.length) (hl:l.l=p.ls.length) (hc:c.l=p.cs.length):msgIts (pmG p x e l c) p.bs p.es p.ls p.cs=pmI p:=by
  obtain ⟨xa,xl,xk⟩:=x
  obtain ⟨ea,el,ek⟩:=e
  obtain ⟨la,ll,lk⟩:=l
  obtain ⟨ca,cl,ck⟩:=c
  simp only at hx he hl hc
  subst hx he hl hc
  rfl
def cmsS:Nat→Wi.RS→Wi.RS
  | 0,st=>st
  | n+1,st=>cmS (cmsS n st)
def cmsL (n:Nat) (st:Wi.RS):List Cm:=(List.range n).map (fun i=>cmV (cmsS i st))
theorem cmsL_len (n:Nat) (st:Wi.RS):(cmsL n st).length=n:=by simp [cmsL]
theorem cmsL_succ (n:Nat) (st:Wi.RS):cmsL (n+1) st=cmsL n st++[cmV (cmsS n st)]:=by simp [cmsL,List.range_succ]
theorem cmsL_at {n k:Nat} (st:Wi.RS) (h:k < n):cAt (cmsL n st) k=cmV (cmsS k st):=by
  unfold cAt cmsL;rw [List.getElem?_map,List.getElem?_range h];rfl
theorem took_cms (st:Wi.RS):∀ n,Took st (fl (fun k=>cmdIts (cmV (cmsS k st))) n) (cmsS n st)
  | 0=>by rw [fl0];exact Took.nil st
  | n+1=>by rw [fl_succ];exact (took_cms st n).trans (took_cm _)
theorem cms_u {st:Wi.RS} (hu:uR st):∀ i,uR (cmsS i st)
  | 0=>hu
  | i+1=>((took_cm (cmsS i st)) (cms_u hu i)).1
theorem cms_back {st:Wi.RS} (hu:uR st) {i:Nat}:∀ {n:Nat},i≤n→okB (cmsS n st)→okB (cmsS i st)
  | 0,h,ho=>by rw [show i=0 by omega];exact ho
  | n+1,h,ho=>by
    by_cases e:i=n+1
    · rw [e];exact ho
    · exact cms_back hu (n:=n) (by omega) (took_back (took_cm _) (cms_u hu n) ho)
section
variable (bi bj bq:Wi.RS→Nat)
def fdP (f:Int) (p:Pm) (s:Wi.RS):Pm:=
  if f=0 then ⟨p.k,p.fr,p.too,p.op,p.rd,p.ky,stV s,p.hd,p.bs,p.c,p.up,p.es,p.ls,p.cs,p.mo⟩ else
  if f=1 then ⟨p.k,p.fr,p.too,p.op,p.rd,p.ky,p.st,stV s,p.bs,p.c,p.up,p.es,p.ls,p.cs,p.mo⟩ else
  if f=2 then ⟨p.k,p.fr,p.too,p.op,p.rd,p.ky,p.st,p.hd,tV s,p.c,p.up,p.es,p.ls,p.cs,p.mo⟩ else
  if f=3 then ⟨p.k,p.fr,p.too,p.op,p.rd,p.ky,p.st,p.hd,p.bs,cmV s,p.up,p.es,p.ls,p.cs,p.mo⟩ else
  if f=4 then ⟨p.k,p.fr,p.too,p.op,p.rd,p.ky,p.st,p.hd,p.bs,p.c,Wi.nV s,rkE s (bi s),rkL s (bi s) (bj s),p.cs,p.mo⟩ else
  if f=5 then ⟨p.k,p.fr,p.too,p.op,p.rd,p.ky,p.st,p.hd,p.bs,p.c,p.up,p.es,p.ls,cmsL (bq s) (Wi.nS s),p.mo⟩ else
  ⟨p.k,p.fr,p.too,p.op,p.rd,p.ky,p.st,p.hd,p.bs,p.c,p.up,p.es,p.ls,p.cs,Wi.fV s⟩
def fdS (f:Int) (s:Wi.RS):Wi.RS:=
  if f=0 then Wi.aS s else if f=1 then Wi.aS s else if f=2 then tS s else if f=3 then cmS s else if f=4 then rkS s (bi s) (bj s) else if f=5 then cmsS (bq s) (Wi.nS s) else Wi.nS s
def fdO (f:Int) (odd:Bool) (s:Wi.RS):Bool:=if f=6 then Wi.fO odd s else odd
def rkR (s:Wi.RS) (i j:Nat):List It:=((([It.n (Wi.nV s),It.n (Wi.nV (Wi.nS s))]++fl (fun k=>entIts (enV (ensS k (Wi.nS (Wi.nS s))))) i)++[It.n (Wi.nV (ensS i (Wi.nS (Wi.nS s))))])++fl (fun k=>lasIts (laV (lasS k (Wi.nS (ensS i (Wi.nS (Wi.nS s))))))) j)
def fdR (f:Int) (s:Wi.RS):List It:=
  if f=0 then [It.n (Wi.nV s),It.n (Wi.nV (Wi.nS s))] else if f=1 then [It.n (Wi.nV s),It.n (Wi.nV (Wi.nS s))] else if f=2 then [It.b (tV s)] else if f=3 then cmdIts (cmV s) else
  if f=4 then rkR s (bi s) (bj s) else if f=5 then [It.n (Wi.nV s)]++fl (fun k=>cmdIts (cmV (cmsS k (Wi.nS s)))) (bq s) else [It.n (Wi.nV s)]
theorem took_rk (s:Wi.RS) (i j:Nat):Took s (rkR s i j) (rkS s i j):=(((took_2 s).trans (took_ens _ i)).trans (took_n _)).trans (took_las _ j)
theorem took_fd (f:Int) (s:Wi.RS):Took s (fdR bi bj bq f s) (fdS bi bj bq f s):=by
  unfold fdR fdS
  by_cases h0:f=0
  · rw [if_pos h0,if_pos h0];exact took_2 s
  rw [if_neg h0,if_neg h0]
  by_cases h1:f=1
  · rw [if_pos h1,if_pos h1];exact took_2 s
  rw [if_neg h1,if_neg h1]
  by_cases h2:f=2
  · rw [if_pos h2,if_pos h2];exact took_t s
  rw [if_neg h2,if_neg h2]
  by_cases h3:f=3
  · rw [if_pos h3,if_pos h3];exact took_cm s
  rw [if_neg h3,if_neg h3]
  by_cases h4:f=4
  · rw [if_pos h4,if_pos h4];exact took_rk s _ _
  rw [if_neg h4,if_neg h4]
  by_cases h5:f=5
  · rw [if_pos h5,if_pos h5];exact (took_n s).trans (took_cms _ _)
  rw [if_neg h5,if_neg h5]
  exact took_n s
def fdsS:List Int→Wi.RS→Wi.RS
  | [],s=>s
  | f :: F,s=>fdsS F (fdS bi bj bq f s)
def fdsP:List Int→Pm→Wi.RS→Pm
  | [],p,_=>p
  | f :: F,p,s=>fdsP F (fdP bi bj bq f p s) (fdS bi bj bq f s)
def fdsO:List Int→Bool→Wi.RS→Bool
  | [],o,_=>o
  | f :: F,o,s=>fdsO F (fdO f o s) (fdS bi bj bq f s)
def fdsR:List Int→Wi.RS→List It
  | [],_=>[]
  | f :: F,s=>fdR bi bj bq f s++fdsR F (fdS bi bj bq f s)
theorem took_fds:∀ (F:List Int) (s:Wi.RS),Took s (fdsR bi bj bq F s) (fdsS bi bj bq F s)
  | [],s=>Took.nil s
  | f :: F,s=>(took_fd bi bj bq f s).trans (took_fds F _)
theorem fdsS_snoc (f:Int):∀ (F:List Int) (s:Wi.RS),fdsS bi bj bq (F++[f]) s=fdS bi bj bq f (fdsS bi bj bq F s)
  | [],s=>rfl
  | g :: F,s=>fdsS_snoc f F _
theorem fdsP_snoc (f:Int):∀ (F:List Int) (p:Pm) (s:Wi.RS),fdsP bi bj bq (F++[f]) p s=fdP bi bj bq f (fdsP bi bj bq F p s) (fdsS bi bj bq F s)
  | [],p,s=>rfl
  | g :: F,p,s=>fdsP_snoc f F _ _
theorem fdsO_snoc (f:Int):∀ (F:List Int) (o:Bool) (s:Wi.RS),fdsO bi bj bq (F++[f]) o s=fdO f (fdsO bi bj bq F o s) (fdsS bi bj bq F s)
  | [],o,s=>rfl
  | g :: F,o,s=>fdsO_snoc f F _ _
def hdP (st:Wi.RS):Pm:=⟨Wi.nV st,adV (Wi.t1 st),adV (Wi.t2 st),Wi.nV (Wi.t3 st),Wi.nV (Wi.t4 st),kyV (Wi.t5 st),spZ,spZ,[],cZ,0,[],[],[],false⟩
def mSt (st:Wi.RS):Wi.RS:=fdsS bi bj bq (fieldsK (Wi.nV st)) (Wi.t9 st)
def mPm (st:Wi.RS):Pm:=fdsP bi bj bq (fieldsK (Wi.nV st)) (hdP st) (Wi.t9 st)
def mOd (st:Wi.RS):Bool:=fdsO bi bj bq (fieldsK (Wi.nV st)) (Wi.o2 false st) (Wi.t9 st)
def mRw (st:Wi.RS):List It:=fdsR bi bj bq (fieldsK (Wi.nV st)) (Wi.t9 st)
end
def hdR (st:Wi.RS):List It:=[It.n (Wi.nV st)]++([It.n (Wi.nV (Wi.t1 st))]++([It.n (Wi.nV (Wi.nS (Wi.t1 st)))]++([It.n (Wi.nV (Wi.t2 st))]++([It.n (Wi.nV (Wi.nS (Wi.t2 st))),It.n (Wi.nV (Wi.t3 st)),It.n (Wi.nV (Wi.t4 st))]++[It.n (kyV (Wi.t5 st)).k,It.n (kyV (Wi.t5 st)).a,It.n (kyV (Wi.t5 st)).b,It.n (kyV (Wi.t5 st)).c]))))
theorem took_hd (st:Wi.RS):Took st (hdR st) (Wi.t9 st):=
  (took_n st).trans<|(took_n _).trans<|(took_n _).trans<|(took_n _).trans<|((took_n _).trans<|(took_n _).trans (took_n _)).trans (took_ky _)
theorem took_m (bi bj bq:Wi.RS→Nat) (st:Wi.RS):Took st (hdR st++mRw bi bj bq st) (mSt bi bj bq st):=(took_hd st).trans (took_fds bi bj bq _ _)
theorem fk_cases (k:Int):fieldsK k=[0,2]∨fieldsK k=[0]∨fieldsK k=[0,3]∨fieldsK k=[3]∨fieldsK k=[0,1,3]∨(k=17∧fieldsK k=[4])∨(k=22∧fieldsK k=[0,2,4,5,6])∨fieldsK k=[]:=by
  unfold fieldsK
  by_cases h1:k=2∨k=11
  · rw [if_pos h1];exact .inl rfl
  rw [if_neg h1]
  by_cases h2:k=3∨k=14∨k=15∨k=21
  · rw [if_pos h2];exact .inr (.inl rfl)
  rw [if_neg h2]
  by_cases h3:k=4
  · rw [if_pos h3];exact .inr (.inr (.inl rfl))
  rw [if_neg h3]
  by_cases h4:k=5∨k=16
  · rw [if_pos h4];exact .inr (.inr (.inr (.inl rfl)))
  rw [if_neg h4]
  by_cases h5:k=13
  · rw [if_pos h5];exact .inr (.inr (.inr (.inr (.inl rfl))))
  rw [if_neg h5]
  by_cases h6:k=17
  · rw [if_pos h6];exact .inr (.inr (.inr (.inr (.inr (.inl ⟨h6,rfl⟩)))))
  rw [if_neg h6]
  by_cases h7:k=22
  · rw [if_pos h7];exact .inr (.inr (.inr (.inr (.inr (.inr (.inl ⟨h7,rfl⟩))))))
  rw [if_neg h7]
  exact .inr (.inr (.inr (.inr (.inr (.inr (.inr rfl))))))
theorem fK17:fieldsK 17=[4]:=by decide
theorem fK22:fieldsK 22=[0,2,4,5,6]:=by decide
def cqF (s:Wi.RS):Nat:=cntK (Wi.nV s) 65
def BC (s:Wi.RS) (i j:Nat):Prop:=∃ N M:Nat,Wi.nV (Wi.nS s)=((N:Nat):Int)∧Wi.nV (ensS i (Wi.nS (Wi.nS s)))=((M:Nat):Int)∧i≤N∧j≤M∧(i < N→((Wi.errS (ensS i (Wi.nS (Wi.nS s)))).2==0)=false)∧(j < M→((Wi.errS (rkS s i j)).2==0)=false)
def QC (s:Wi.RS) (q:Nat):Prop:=∃ Q:Nat,Wi.nV s=((Q:Nat):Int)∧q≤Q∧(q < Q→((Wi.errS (cmsS q (Wi.nS s))).2==0)=false)
def BM (s:Wi.RS) (i j:Nat):Prop:=bkE s=i∧bkL s=j∧Wi.nV (Wi.nS s)=((i:Nat):Int)∧Wi.nV (ensS i (Wi.nS (Wi.nS s)))=((j:Nat):Int)
theorem bk_m1 {s:Wi.RS} (hu:uR s) {i j:Nat} (h:BC s i j) (ho:okB (rkS s i j)) (b1:i≤256) (b2:j≤255):BM s i j:=by
  obtain ⟨N,M,hN,hM,hi,hj,hei,hej⟩:=h
  have hu2:uR (Wi.nS (Wi.nS s)):=(took_2 s hu).1
  have hu3:=(took_n _ (ens_u hu2 i)).1
  have e2:j=M:=by
    by_cases e:j < M
    · have:=ok_err ho;rw [hej e] at this;cases this
    · omega
  have o2:=took_back (took_n _) (ens_u hu2 i) (las_back hu3 (Nat.zero_le j) ho)
  have e1:i=N:=by
    by_cases e:i < N
    · have:=ok_err o2;rw [hei e] at this;cases this
    · omega
  subst e1 e2
  have eE:bkE s=i:=by unfold bkE cntK;rw [hN];split <;> omega
  have e3:bk2 s=ensS i (Wi.nS (Wi.nS s)):=by unfold bk2;rw [eE]
  have eL:bkL s=j:=by unfold bkL cntK;rw [e3,hM];split <;> omega
  exact ⟨eE,eL,hN,hM⟩
theorem bk_m2 {s:Wi.RS} (hu:uR s) {i j:Nat} (h:BC s i j) (ho:okB (rkS s (bkE s) (bkL s))) (b1:bkE s≤256) (b2:bkL s≤255):BM s i j:=by
  obtain ⟨N,M,hN,hM,hi,hj,hei,hej⟩:=h
  have hu2:uR (Wi.nS (Wi.nS s)):=(took_2 s hu).1
  have hu3:∀ k,uR (Wi.nS (ensS k (Wi.nS (Wi.nS s)))):=fun k=>(took_n _ (ens_u hu2 k)).1
  have eE:bkE s=N:=by
    unfold bkE cntK at b1 ⊢
    rw [hN] at b1 ⊢
    split at b1 <;> split <;> omega
  have o2:okB (ensS (bkE s) (Wi.nS (Wi.nS s))):=took_back (took_n _) (ens_u hu2 _) (las_back (hu3 _) (Nat.zero_le _) ho)
  have e1:i=N:=by
    by_cases e:i < N
    · have o3:okB (ensS i (Wi.nS (Wi.nS s))):=ens_back hu2 (n:=bkE s) (by omega) o2
      have:=ok_err o3;rw [hei e] at this;cases this
    · omega
  have e3:bk2 s=ensS i (Wi.nS (Wi.nS s)):=by unfold bk2;rw [eE,e1]
  have eL:bkL s=M:=by
    unfold bkL cntK at b2 ⊢
    rw [e3,hM] at b2 ⊢
    split at b2 <;> split <;> omega
  have e2:j=M:=by
    by_cases e:j < M
    · have o3:okB (rkS s i j):=by
        rw [eE,← e1,eL] at ho
        exact las_back (hu3 i) (n:=M) (by omega) ho
      have:=ok_err o3;rw [hej e] at this;cases this
    · omega
  exact ⟨by omega,by omega,by rw [hN,e1],by rw [hM,e2]⟩
theorem cm_m1 {s:Wi.RS} {q:Nat} (h:QC s q) (ho:okB (cmsS q (Wi.nS s))) (b:q≤64):cqF s=q∧Wi.nV s=((q:Nat):Int):=by
  obtain ⟨Q,hQ,hq,he⟩:=h
  have e1:q=Q:=by
    by_cases e:q < Q
    · have:=ok_err ho;rw [he e] at this;cases this
    · omega
  subst e1
  exact ⟨by unfold cqF cntK;rw [hQ];split <;> omega,hQ⟩
theorem cm_m2 {s:Wi.RS} (hu:uR s) {q:Nat} (h:QC s q) (ho:okB (cmsS (cqF s) (Wi.nS s))) (b:cqF s≤64):cqF s=q∧Wi.nV s=((q:Nat):Int):=by
  obtain ⟨Q,hQ,hq,he⟩:=h
  have eE:cqF s=Q:=by
    unfold cqF cntK at b ⊢
    rw [hQ] at b ⊢
    split at b <;> split <;> omega
  have e1:q=Q:=by
    by_cases e:q < Q
    · have o3:okB (cmsS q (Wi.nS s)):=cms_back (took_n _ hu).1 (n:=cqF s) (by omega) ho
      have:=ok_err o3;rw [he e] at this;cases this
    · omega
  exact ⟨by omega,by rw [hQ,e1]⟩
theorem bktP_bd {B rm:Int} (hr:rm≤256) {p:Pm} (h:bktP B rm (pmM p).bk p.es p.ls=true):p.es.length≤256∧p.ls.length≤255:=bkt_bd (x:=(pmM p).bk) hr rfl rfl h
theorem emp_bd {p:Pm} (h:empK (pmM p).bk=true):p.es.length=0∧p.ls.length=0:=by
  unfold empK at h
  rw [Bool.and_eq_true,Bool.and_eq_true] at h
  have h1:(((p.es.length:Nat):Int))=0:=eq_of_beq h.2.1
  have h2:(((p.ls.length:Nat):Int))=0:=eq_of_beq h.2.2
  omega
theorem onl_t {m:Mg} {fs:List Int} (h:onlyP m fs=true):(empK m.bk||hasB fs 4)=true∧(((m.cm.l:Nat):Int)==0||hasB fs 5)=true:=by
  rw [onl] at h
  simp only[Bool.and_eq_true] at h
  exact ⟨h.2.2.2.2.1,h.2.2.2.2.2.1⟩
theorem pm_b17 {B rm bu:Int} {zs:List Int} {p:Pm} (hr:rm≤256) (hk:p.k=17) (h:pmP B rm bu zs p=true):p.es.length≤256∧p.ls.length≤255:=by
  unfold pmP msgP at h
  rw [Bool.and_eq_true,Bool.and_eq_true,Bool.and_eq_true] at h
  have h2:=h.2.2.2
  have e:(pmM p).k=17:=hk
  unfold fldsP at h2
  rw [e] at h2
  have h3:(bktP B rm (pmM p).bk p.es p.ls&&decide ((pmM p).ky.b≤(pmM p).bk.up))=true:=h2
  rw [Bool.and_eq_true] at h3
  exact bktP_bd hr h3.1
theorem pm_b22 {B rm bu:Int} {zs:List Int} {p:Pm} (hr:rm≤256) (hk:p.k=22) (h:pmP B rm bu zs p=true):p.es.length≤256∧p.ls.length≤255∧p.cs.length≤64:=by
  unfold pmP msgP at h
  rw [Bool.and_eq_true,Bool.and_eq_true,Bool.and_eq_true] at h
  have h2:=h.2.2.2
  have e:(pmM p).k=22:=hk
  unfold fldsP at h2
  rw [e] at h2
  have h3:haveP B rm (pmM p) p.es p.ls p.cs=true:=h2
  clear h2 h
  unfold haveP at h3
  have key:∀ fs:List Int,hasB fs 4=false→onlyP (pmM p) fs=true→p.es.length=0∧p.ls.length=0:=fun fs hf ho=>by
    have:=(onl_t ho).1
    rw [hf,Bool.or_false] at this
    exact emp_bd this
  have key2:∀ fs:List Int,hasB fs 5=false→onlyP (pmM p) fs=true→p.cs.length=0:=fun fs hf ho=>by
    have:=(onl_t ho).2
    rw [hf,Bool.or_false] at this
    have h1:(((p.cs.length:Nat):Int))=0:=eq_of_beq this
    omega
  cases q1:((pmM p).ky.k==1&&eqS (pmM p).st spZ)
  · rw [q1] at h3
    cases q2:((pmM p).ky.k==1)
    · rw [q2] at h3
      cases q3:eqS (pmM p).st spZ
      · rw [q3] at h3
        simp only[cond_false,Bool.and_eq_true] at h3
        have:=key _ (by decide) h3.1
        have h4:=h3.2.2
        unfold rowsP at h4
        cases q4:(decide (64 < (((pmM p).cm.l:Nat):Int))||decide (1048577 < (pmM p).st.n+(((pmM p).cm.l:Nat):Int)))
        · rw [Bool.or_eq_false_iff] at q4
          have h5:¬ 64 < ((p.cs.length:Nat):Int):=of_decide_eq_false q4.1
          omega
        · rw [q4] at h4;cases h4
      · rw [q3] at h3
        simp only[cond_false,cond_true,Bool.and_eq_true] at h3
        have:=key2 _ (by decide) h3.1
        have:=bktP_bd hr h3.2.2
        omega
    · rw [q2] at h3
      simp only[cond_false,cond_true,Bool.and_eq_true] at h3
      have:=key _ (by decide) h3.1
      have:=key2 _ (by decide) h3.1
      omega
  · rw [q1] at h3
    simp only[cond_true] at h3
    have:=key _ (by decide) h3
    have:=key2 _ (by decide) h3
    omega
theorem nV_hi (st:Wi.RS):Wi.nV st≤9223372036854775807:=by
  cases st with
  | bad p c=>show (0:Int)≤_;omega
  | ok zs a=>
    cases hq:Wi.nr zs with
    | error c=>
      have e2:Wi.nV (.ok zs a)=0:=by simp only[Wi.nV,Wi.numS,hq]
      rw [e2];omega
    | ok q=>
      have e2:Wi.nV (.ok zs a)=((q.1:Nat):Int):=by simp only[Wi.nV,Wi.numS,hq]
      rw [e2]
      unfold Wi.nr at hq
      split at hq
      · cases hq
      · split at hq
        · cases hq
        · simp only[Except.ok.injEq] at hq
          rw [← hq]
          show ((_:Nat):Int)≤_
          omega
def b01 (v:Int):Int:=bif decide (v=1) then 1 else 0
theorem encB_n (v:Int) (X:List It):encB ([It.n v]++X)=Wi.vint v.toNat++encB X:=by simp [encB,encIt]
theorem flag_eq {v:Int} (h0:0≤v) (h1:v≤9223372036854775807) {X Y:List It} (h:encB ([It.n v]++X)=encB ([It.n (b01 v)]++Y)):v=b01 v∧encB X=encB Y:=by
  have hb:0≤b01 v∧b01 v≤1:=by unfold b01;cases decide (v=1) <;> decide
  rw [encB_n,encB_n] at h
  have e1:=Wi.vr_vint v.toNat (encB X) (by unfold Wi.W64;omega)
  have e2:=Wi.vr_vint (b01 v).toNat (encB Y) (by unfold Wi.W64;omega)
  rw [h,e2] at e1
  simp only[Except.ok.injEq,Prod.mk.injEq] at e1
  have e3:v=b01 v:=by omega
  refine ⟨e3,?_⟩
  rw [← e3] at h
  exact List.append_cancel_left h
theorem cut_eq {A X Y:List It} (h:encB (A++X)=encB (A++Y)):encB X=encB Y:=by
  rw [encB_app,encB_app] at h;exact List.append_cancel_left h
theorem b01_odd {v:Int} (h0:0≤v) (h:v=b01 v):decide (v > 1)=false:=by
  apply decide_eq_false
  have hb:b01 v≤1:=by unfold b01;cases decide (v=1) <;> decide
  omega
theorem b01_eq {v:Int} (h0:0≤v) (h:decide (v > 1)=false):b01 v=v:=by
  have:=of_decide_eq_false h
  unfold b01
  by_cases h2:v=1
  · rw [decide_eq_true h2];exact h2.symm
  · rw [decide_eq_false h2];show (0:Int)=v;omega
theorem fin_raw {body:List Int} {raw its:List It} {st':Wi.RS} {odd R:Bool} (hu:uR (.ok body 0)) (hT:Took (.ok body 0) raw st') (h1:odd=false→its=raw) (h2:encB raw=encB its→odd=false) :
    (Wi.wholeB odd st'&&R)=((Wi.errS st').2==0&&(!Wi.moreS st'&&(R&&decide (encB its=body)))):=by
  obtain ⟨u,k⟩:=hT hu
  cases st' with
  | bad p c=>
    have hc:c≠0:=u
    have e1:(c==0)=false:=beq_eq_false_iff_ne.2 hc
    simp [Wi.wholeB,Wi.endS,Wi.errS,e1,hc]
  | ok zs' a'=>
    obtain ⟨zs,a,e,hz⟩:=k zs' a' rfl
    injection e with e1 _
    subst e1
    cases zs' with
    | nil=>
      rw [List.append_nil] at hz
      rw [hz]
      cases odd with
      | false=>
        rw [h1 rfl]
        simp [Wi.wholeB,Wi.endS,Wi.errS,Wi.moreS]
      | true=>
        have h3:¬ encB its=encB raw:=fun e=>by have:=h2 e.symm;cases this
        simp [Wi.wholeB,Wi.endS,Wi.errS,Wi.moreS,h3]
    | cons z r=>simp [Wi.wholeB,Wi.endS,Wi.errS,Wi.moreS]
def hdI (st:Wi.RS):List It:=[It.n (Wi.nV st)]++([It.n (b01 (Wi.nV (Wi.t1 st)))]++([It.n (Wi.nV (Wi.nS (Wi.t1 st)))]++([It.n (b01 (Wi.nV (Wi.t2 st)))]++([It.n (Wi.nV (Wi.nS (Wi.t2 st))),It.n (Wi.nV (Wi.t3 st)),It.n (Wi.nV (Wi.t4 st))]++[It.n (kyV (Wi.t5 st)).k,It.n (kyV (Wi.t5 st)).a,It.n (kyV (Wi.t5 st)).b,It.n (kyV (Wi.t5 st)).c]))))
theorem o2_is (st:Wi.RS):Wi.o2 false st=(decide (Wi.nV (Wi.t1 st) > 1)||decide (Wi.nV (Wi.t2 st) > 1)):=by
  show ((false||decide (Wi.nV (Wi.t1 st) > 1))||decide (Wi.nV (Wi.t2 st) > 1))=_
  rw [Bool.false_or]
theorem hd_fin {st:Wi.RS} {X Y:List It} {o3:Bool} (hX:o3=false→Y=X) (hX2:encB X=encB Y→o3=false) :
    ((Wi.o2 false st||o3)=false→hdI st++Y=hdR st++X)∧(encB (hdR st++X)=encB (hdI st++Y)→(Wi.o2 false st||o3)=false):=by
  rw [o2_is]
  constructor
  · intro h
    rw [Bool.or_eq_false_iff,Bool.or_eq_false_iff] at h
    rw [hX h.2]
    unfold hdI hdR
    rw [b01_eq (nV_pos _) h.1.1,b01_eq (nV_pos _) h.1.2]
  · intro h
    unfold hdI hdR at h
    simp only[List.append_assoc] at h
    have h1:=flag_eq (nV_pos _) (nV_hi _) (cut_eq h)
    have h2:=flag_eq (nV_pos _) (nV_hi _) (cut_eq h1.2)
    have h3:=hX2 (cut_eq (cut_eq h2.2))
    rw [b01_odd (nV_pos _) h1.1,b01_odd (nV_pos _) h2.1,h3];rfl
abbrev ctN (n:Nat):Wi.RS→Nat:=fun _=>n
def goodD (B rm bu:Int) (zs:List Int) (st:Wi.RS):Bool:=Wi.wholeB (mOd bkE bkL cqF st) (mSt bkE bkL cqF st)&&pmP B rm bu zs (mPm bkE bkL cqF st)
def Cnt (st:Wi.RS) (i j q:Nat):Prop:=(Wi.nV st=17→BC (Wi.t9 st) i j)∧(Wi.nV st=22→BC (tS (Wi.aS (Wi.t9 st))) i j∧QC (rkS (tS (Wi.aS (Wi.t9 st))) i j) q)
theorem whole_ok2 {st:Wi.RS} {odd:Bool} (hu:uR st) (h:Wi.wholeB odd st=true):okB st:=by
  cases st with
  | ok zs a=>exact ⟨zs,a,rfl⟩
  | bad p c=>
    have hu:c≠0:=hu
    unfold Wi.wholeB at h
    rw [Bool.and_eq_true] at h
    exact absurd (of_decide_eq_true h.1) hu
theorem bkt_raw {s:Wi.RS} {i j:Nat} (hN:Wi.nV (Wi.nS s)=((i:Nat):Int)) (hM:Wi.nV (ensS i (Wi.nS (Wi.nS s)))=((j:Nat):Int)) :
    bktIts ⟨Wi.nV s,nilL (rkE s i).length,nilL (rkL s i j).length⟩ (rkE s i) (rkL s i j)=rkR s i j:=by
  unfold bktIts rkR
  show ((([It.n (Wi.nV s),It.n (((rkE s i).length:Nat):Int)]++fl (fun k=>entIts (eAt (rkE s i) k)) (rkE s i).length)++[It.n (((rkL s i j).length:Nat):Int)])++fl (fun k=>lasIts (lAt (rkL s i j) k)) (rkL s i j).length)=_
  have e1:(rkE s i).length=i:=ensL_len _ _
  have e2:(rkL s i j).length=j:=lasL_len _ _
  rw [e1,e2,hN,hM,fl_congr (f:=fun k=>entIts (eAt (rkE s i) k)) (fun k hk=>by unfold rkE;rw [ensL_at _ hk]),fl_congr (f:=fun k=>lasIts (lAt (rkL s i j) k)) (fun k hk=>by unfold rkL;rw [lasL_at _ hk])]
theorem cms_raw {s:Wi.RS} {q:Nat} (hN:Wi.nV s=((q:Nat):Int)) :
    [It.n (((cmsL q (Wi.nS s)).length:Nat):Int)]++fl (fun j=>cmdIts (cAt (cmsL q (Wi.nS s)) j)) (cmsL q (Wi.nS s)).length=[It.n (Wi.nV s)]++fl (fun k=>cmdIts (cmV (cmsS k (Wi.nS s)))) q:=by
  rw [cmsL_len,hN,fl_congr (f:=fun k=>cmdIts (cAt (cmsL q (Wi.nS s)) k)) (fun k hk=>by rw [cmsL_at _ hk])]
section
variable {B rm bu:Int} {zs:List Int} {body:List Int} {i j q:Nat}
abbrev refD (B rm bu:Int) (zs:List Int) (body:List Int) (i j q:Nat):Bool:=
  (Wi.errS (mSt (ctN i) (ctN j) (ctN q) (.ok body 0))).2==0&&(!Wi.moreS (mSt (ctN i) (ctN j) (ctN q) (.ok body 0))&&(pmP B rm bu zs (mPm (ctN i) (ctN j) (ctN q) (.ok body 0))&&decide (encB (pmI (mPm (ctN i) (ctN j) (ctN q) (.ok body 0)))=body)))
theorem dec_plain {F:List Int} (hu:uR (.ok body 0)) (hF:fieldsK (Wi.nV (.ok body 0))=F) (hS:∀ a b c a' b' c' s,fdsS a b c F s=fdsS a' b' c' F s) (hP:∀ a b c a' b' c' p s,fdsP a b c F p s=fdsP a' b' c' F p s) (hO:∀ a b c o s,fdsO a b c F o s=o)
    (hI:pmI (fdsP (ctN i) (ctN j) (ctN q) F (hdP (.ok body 0)) (Wi.t9 (.ok body 0)))=hdI (.ok body 0)++fdsR (ctN i) (ctN j) (ctN q) F (Wi.t9 (.ok body 0))) :
    goodD B rm bu zs (.ok body 0)=refD B rm bu zs body i j q∧(goodD B rm bu zs (.ok body 0)=true→mPm (ctN i) (ctN j) (ctN q) (.ok body 0)=mPm bkE bkL cqF (.ok body 0)):=by
  have e1:mSt bkE bkL cqF (.ok body 0)=mSt (ctN i) (ctN j) (ctN q) (.ok body 0):=by unfold mSt;rw [hF];exact hS ..
  have e2:mPm bkE bkL cqF (.ok body 0)=mPm (ctN i) (ctN j) (ctN q) (.ok body 0):=by unfold mPm;rw [hF];exact hP ..
  have e3:mOd bkE bkL cqF (.ok body 0)=(Wi.o2 false (.ok body 0)||false):=by unfold mOd;rw [hF,hO,Bool.or_false]
  refine ⟨?_,fun _=>e2.symm⟩
  unfold goodD refD
  rw [e1,e2,e3]
  have hT:=took_m (ctN i) (ctN j) (ctN q) (.ok body 0)
  have e4:pmI (mPm (ctN i) (ctN j) (ctN q) (.ok body 0))=hdI (.ok body 0)++mRw (ctN i) (ctN j) (ctN q) (.ok body 0):=by unfold mPm mRw;rw [hF];exact hI
  rw [e4]
  have hf:=hd_fin (st:=.ok body 0) (X:=mRw (ctN i) (ctN j) (ctN q) (.ok body 0)) (Y:=mRw (ctN i) (ctN j) (ctN q) (.ok body 0)) (o3:=false) (fun _=>rfl) (fun _=>rfl)
  exact fin_raw hu hT hf.1 hf.2
theorem pmI_F {bi bj bq:Wi.RS→Nat} {F:List Int} {st:Wi.RS} (hF:fieldsK (Wi.nV st)=F) (hk:(fdsP bi bj bq F (hdP st) (Wi.t9 st)).k=Wi.nV st) :
    pmI (fdsP bi bj bq F (hdP st) (Wi.t9 st))=hdIts (pmM (fdsP bi bj bq F (hdP st) (Wi.t9 st)))++fl (fun j=>fldIts (pmM (fdsP bi bj bq F (hdP st) (Wi.t9 st))) (fdsP bi bj bq F (hdP st) (Wi.t9 st)).bs (fdsP bi bj bq F (hdP st) (Wi.t9 st)).es (fdsP bi bj bq F (hdP st) (Wi.t9 st)).ls (fdsP bi bj bq F (hdP st) (Wi.t9 st)).cs (F[j]?.getD 0)) F.length:=by
  unfold pmI msgIts
  have hk2:(pmM (fdsP bi bj bq F (hdP st) (Wi.t9 st))).k=Wi.nV st:=hk
  rw [hk2,hF]
theorem fdP4 (a b c:Wi.RS→Nat) (p:Pm) (s:Wi.RS):fdP a b c 4 p s=⟨p.k,p.fr,p.too,p.op,p.rd,p.ky,p.st,p.hd,p.bs,p.c,Wi.nV s,rkE s (a s),rkL s (a s) (b s),p.cs,p.mo⟩:=rfl
theorem fdP5 (a b c:Wi.RS→Nat) (p:Pm) (s:Wi.RS):fdP a b c 5 p s=⟨p.k,p.fr,p.too,p.op,p.rd,p.ky,p.st,p.hd,p.bs,p.c,p.up,p.es,p.ls,cmsL (c s) (Wi.nS s),p.mo⟩:=rfl
theorem fdP6 (a b c:Wi.RS→Nat) (p:Pm) (s:Wi.RS):fdP a b c 6 p s=⟨p.k,p.fr,p.too,p.op,p.rd,p.ky,p.st,p.hd,p.bs,p.c,p.up,p.es,p.ls,p.cs,Wi.fV s⟩:=rfl
theorem dec_17 (hr:rm≤256) (hu:uR (.ok body 0)) (hk:Wi.nV (.ok body 0)=17) (hB:BC (Wi.t9 (.ok body 0)) i j) :
    goodD B rm bu zs (.ok body 0)=refD B rm bu zs body i j q∧(goodD B rm bu zs (.ok body 0)=true→mPm (ctN i) (ctN j) (ctN q) (.ok body 0)=mPm bkE bkL cqF (.ok body 0)):=by
  have hF:fieldsK (Wi.nV (.ok body 0))=[4]:=by rw [hk];exact fK17
  obtain ⟨st,hst⟩:∃ st,Wi.RS.ok body 0=st:=⟨_,rfl⟩
  have hu0:=hu
  rw [hst] at hu hk hB hF
  obtain ⟨S,hS⟩:∃ S,Wi.t9 st=S:=⟨_,rfl⟩
  have huS:uR S:=by rw [← hS];exact (took_hd st hu).1
  have s1:∀ a b c,mSt a b c st=rkS S (a S) (b S):=fun a b c=>by unfold mSt;rw [hF,hS];rfl
  have p1:∀ a b c,mPm a b c st=fdP a b c 4 (hdP st) S:=fun a b c=>by unfold mPm;rw [hF,hS];rfl
  rw [hS] at hB
  unfold goodD refD
  rw [hst,s1,s1,p1,p1]
  by_cases hm:BM S i j
  · obtain ⟨eE,eL,n1,n2⟩:=hm
    have e2:fdP bkE bkL cqF 4 (hdP st) S=fdP (ctN i) (ctN j) (ctN q) 4 (hdP st) S:=by rw [fdP4,fdP4,eE,eL]
    rw [e2,eE,eL]
    refine ⟨?_,fun _=>rfl⟩
    have hT:=took_m (ctN i) (ctN j) (ctN q) st
    rw [s1] at hT
    have hX:mRw (ctN i) (ctN j) (ctN q) st=rkR S i j++[]:=by unfold mRw;rw [hF,hS];rfl
    have hI:pmI (fdP (ctN i) (ctN j) (ctN q) 4 (hdP st) S)=hdI st++(rkR S i j++[]):=by
      have:=pmI_F (bi:=ctN i) (bj:=ctN j) (bq:=ctN q) hF rfl
      rw [hS] at this
      refine this.trans ?_
      rw [← bkt_raw n1 n2]
      rfl
    rw [hX] at hT
    have e3:mOd bkE bkL cqF st=(Wi.o2 false st||false):=by unfold mOd;rw [hF,Bool.or_false];rfl
    rw [hI,e3]
    have hf:=hd_fin (st:=st) (X:=rkR S i j++[]) (Y:=rkR S i j++[]) (o3:=false) (fun _=>rfl) (fun _=>rfl)
    rw [← hst] at hT hf ⊢
    exact fin_raw hu0 hT hf.1 hf.2
  · have c2:(Wi.wholeB (mOd bkE bkL cqF st) (rkS S (bkE S) (bkL S))&&pmP B rm bu zs (fdP bkE bkL cqF 4 (hdP st) S))=true→BM S i j:=fun h=>by
      rw [Bool.and_eq_true] at h
      have b:=pm_b17 hr (show (fdP bkE bkL cqF 4 (hdP st) S).k=17 from hk) h.2
      have b1:(rkE S (bkE S)).length≤256:=b.1
      have b2:(rkL S (bkE S) (bkL S)).length≤255:=b.2
      have l1:(rkE S (bkE S)).length=bkE S:=ensL_len _ _
      have l2:(rkL S (bkE S) (bkL S)).length=bkL S:=lasL_len _ _
      exact bk_m2 huS hB (whole_ok2 ((took_rk S _ _) huS).1 h.1) (by omega) (by omega)
    have c1:((Wi.errS (rkS S (ctN i S) (ctN j S))).2==0&&(!Wi.moreS (rkS S (ctN i S) (ctN j S))&&(pmP B rm bu zs (fdP (ctN i) (ctN j) (ctN q) 4 (hdP st) S)&&decide (encB (pmI (fdP (ctN i) (ctN j) (ctN q) 4 (hdP st) S))=body))))=true→BM S i j:=fun h=>by
      rw [Bool.and_eq_true,Bool.and_eq_true,Bool.and_eq_true] at h
      have b:=pm_b17 hr (show (fdP (ctN i) (ctN j) (ctN q) 4 (hdP st) S).k=17 from hk) h.2.2.1
      have b1:(rkE S i).length≤256:=b.1
      have b2:(rkL S i j).length≤255:=b.2
      have l1:(rkE S i).length=i:=ensL_len _ _
      have l2:(rkL S i j).length=j:=lasL_len _ _
      exact bk_m1 huS hB (err_ok ((took_rk S i j) huS).1 h.1) (by omega) (by omega)
    have f1:=Bool.eq_false_iff.2 (fun h=>hm (c2 h))
    have f2:=Bool.eq_false_iff.2 (fun h=>hm (c1 h))
    rw [f1,f2]
    exact ⟨rfl,fun h=>by cases h⟩
theorem dec_22 (hr:rm≤256) (hu:uR (.ok body 0)) (hk:Wi.nV (.ok body 0)=22) (hB:BC (tS (Wi.aS (Wi.t9 (.ok body 0)))) i j) (hQ:QC (rkS (tS (Wi.aS (Wi.t9 (.ok body 0)))) i j) q) :
    goodD B rm bu zs (.ok body 0)=refD B rm bu zs body i j q∧(goodD B rm bu zs (.ok body 0)=true→mPm (ctN i) (ctN j) (ctN q) (.ok body 0)=mPm bkE bkL cqF (.ok body 0)):=by
  have hF:fieldsK (Wi.nV (.ok body 0))=[0,2,4,5,6]:=by rw [hk];exact fK22
  obtain ⟨st,hst⟩:∃ st,Wi.RS.ok body 0=st:=⟨_,rfl⟩
  have hu0:=hu
  rw [hst] at hu hk hB hQ hF
  obtain ⟨S0,hS⟩:∃ S,Wi.t9 st=S:=⟨_,rfl⟩
  rw [hS] at hB hQ
  obtain ⟨S,hS2⟩:∃ S,tS (Wi.aS S0)=S:=⟨_,rfl⟩
  rw [hS2] at hB hQ
  have huS:uR S:=by rw [← hS2,← hS];exact (took_t _ (took_2 _ (took_hd st hu).1).1).1
  obtain ⟨p2,hp2⟩:∃ p2,fdP (ctN 0) (ctN 0) (ctN 0) 2 (fdP (ctN 0) (ctN 0) (ctN 0) 0 (hdP st) S0) (Wi.aS S0)=p2:=⟨_,rfl⟩
  have pk:p2.k=22:=by rw [← hp2];exact hk
  have s1:∀ a b c,mSt a b c st=Wi.nS (cmsS (c (rkS S (a S) (b S))) (Wi.nS (rkS S (a S) (b S)))):=fun a b c=>by unfold mSt;rw [hF,hS,← hS2];rfl
  have p1:∀ a b c,mPm a b c st=fdP a b c 6 (fdP a b c 5 (fdP a b c 4 p2 S) (rkS S (a S) (b S))) (cmsS (c (rkS S (a S) (b S))) (Wi.nS (rkS S (a S) (b S)))):=fun a b c=>by unfold mPm;rw [hF,hS,← hp2,← hS2];rfl
  have o1:∀ a b c,mOd a b c st=(Wi.o2 false st||decide (Wi.nV (cmsS (c (rkS S (a S) (b S))) (Wi.nS (rkS S (a S) (b S)))) > 1)):=fun a b c=>by unfold mOd;rw [hF,hS,← hS2];rfl
  have hM:∀ i j q,BM S i j→cqF (rkS S i j)=q→mSt bkE bkL cqF st=mSt (ctN i) (ctN j) (ctN q) st∧mPm bkE bkL cqF st=mPm (ctN i) (ctN j) (ctN q) st∧mOd bkE bkL cqF st=mOd (ctN i) (ctN j) (ctN q) st:=fun i j q hm hq=>by
    obtain ⟨eE,eL,_,_⟩:=hm
    refine ⟨?_,?_,?_⟩
    · rw [s1,s1,eE,eL,hq]
    · rw [p1,p1,fdP6,fdP6,fdP5,fdP5,fdP4,fdP4,eE,eL,hq]
    · rw [o1,o1,eE,eL,hq]
  have hm:((goodD B rm bu zs st=true)∨(refD B rm bu zs body i j q=true))→BM S i j∧cqF (rkS S i j)=q∧Wi.nV (rkS S i j)=((q:Nat):Int):=by
    rintro (h | h)
    · unfold goodD at h
      rw [Bool.and_eq_true] at h
      have b:=pm_b22 hr (by rw [p1];exact pk) h.2
      rw [p1] at b
      have b1:(rkE S (bkE S)).length≤256:=b.1
      have b2:(rkL S (bkE S) (bkL S)).length≤255:=b.2.1
      have b3:(cmsL (cqF (rkS S (bkE S) (bkL S))) (Wi.nS (rkS S (bkE S) (bkL S)))).length≤64:=b.2.2
      have l1:(rkE S (bkE S)).length=bkE S:=ensL_len _ _
      have l2:(rkL S (bkE S) (bkL S)).length=bkL S:=lasL_len _ _
      rw [cmsL_len] at b3
      have h1:=h.1
      rw [s1] at h1
      have u4:=((took_rk S (bkE S) (bkL S)) huS).1
      have u5:=cms_u (took_n _ u4).1 (cqF (rkS S (bkE S) (bkL S)))
      have k6:=whole_ok2 (took_n _ u5).1 h1
      have k5:=took_back (took_n _) u5 k6
      have k4:=took_back (took_n _) u4 (cms_back (took_n _ u4).1 (Nat.zero_le _) k5)
      have hb:=bk_m2 huS hB k4 (by omega) (by omega)
      obtain ⟨eE,eL,_,_⟩:=id hb
      rw [eE,eL] at u4 k5 b3
      exact ⟨hb,cm_m2 u4 hQ k5 b3⟩
    · unfold refD at h
      rw [hst,Bool.and_eq_true,Bool.and_eq_true,Bool.and_eq_true] at h
      have b:=pm_b22 hr (by rw [p1];exact pk) h.2.2.1
      rw [p1] at b
      have b1:(rkE S i).length≤256:=b.1
      have b2:(rkL S i j).length≤255:=b.2.1
      have b3:(cmsL q (Wi.nS (rkS S i j))).length≤64:=b.2.2
      have l1:(rkE S i).length=i:=ensL_len _ _
      have l2:(rkL S i j).length=j:=lasL_len _ _
      rw [cmsL_len] at b3
      have h1:=h.1
      rw [s1] at h1
      have u4:=((took_rk S i j) huS).1
      have u5:=cms_u (took_n _ u4).1 q
      have k6:=err_ok (took_n _ u5).1 h1
      have k5:=took_back (took_n _) u5 k6
      have k4:=took_back (took_n _) u4 (cms_back (took_n _ u4).1 (Nat.zero_le _) k5)
      exact ⟨bk_m1 huS hB k4 (by omega) (by omega),cm_m1 hQ k5 b3⟩
  rw [hst]
  by_cases hx:BM S i j∧cqF (rkS S i j)=q∧Wi.nV (rkS S i j)=((q:Nat):Int)
  · obtain ⟨hb,hq,n3⟩:=hx
    obtain ⟨e1,e2,e3⟩:=hM i j q hb hq
    refine ⟨?_,fun _=>e2.symm⟩
    unfold goodD refD
    rw [hst,e1,e2,e3]
    obtain ⟨_,_,n1,n2⟩:=hb
    obtain ⟨v,hv⟩:∃ v,cmsS q (Wi.nS (rkS S i j))=v:=⟨_,rfl⟩
    obtain ⟨Y,hY⟩:∃ Y,([It.n (Wi.nV S0),It.n (Wi.nV (Wi.nS S0))]++([It.b (tV (Wi.aS S0))]++(rkR S i j++([It.n (Wi.nV (rkS S i j))]++fl (fun k=>cmdIts (cmV (cmsS k (Wi.nS (rkS S i j))))) q))))=Y:=⟨_,rfl⟩
    have hX:mRw (ctN i) (ctN j) (ctN q) st=Y++[It.n (Wi.nV v)]:=by
      unfold mRw
      rw [hF,hS,← hY,← hv]
      simp only[List.append_assoc]
      rw [← hS2]
      rfl
    have hI:pmI (mPm (ctN i) (ctN j) (ctN q) st)=hdI st++(Y++[It.n (b01 (Wi.nV v))]):=by
      have:=pmI_F (bi:=ctN i) (bj:=ctN j) (bq:=ctN q) hF rfl
      rw [hS] at this
      have e0:mPm (ctN i) (ctN j) (ctN q) st=fdsP (ctN i) (ctN j) (ctN q) [0,2,4,5,6] (hdP st) S0:=by unfold mPm;rw [hF,hS]
      rw [e0]
      refine this.trans ?_
      rw [← hY,← hv,← bkt_raw n1 n2,← cms_raw n3,← hS2]
      simp only[List.append_assoc]
      rfl
    have hT:=took_m (ctN i) (ctN j) (ctN q) st
    rw [hX] at hT
    have e4:mOd (ctN i) (ctN j) (ctN q) st=(Wi.o2 false st||decide (Wi.nV v > 1)):=by rw [o1,← hv]
    rw [hI,e4]
    have hf:=hd_fin (st:=st) (X:=Y++[It.n (Wi.nV v)]) (Y:=Y++[It.n (b01 (Wi.nV v))]) (o3:=decide (Wi.nV v > 1)) (fun h=>by rw [b01_eq (nV_pos _) h])
      (fun h=>b01_odd (nV_pos _) (flag_eq (X:=[]) (Y:=[]) (nV_pos _) (nV_hi _) (by simpa using cut_eq h)).1)
    rw [← hst] at hT hf ⊢
    exact fin_raw hu0 hT hf.1 hf.2
  · have f1:=Bool.eq_false_iff.2 (fun h=>hx (hm (.inl h)))
    have f2:=Bool.eq_false_iff.2 (fun h=>hx (hm (.inr h)))
    rw [f1,f2]
    exact ⟨rfl,fun h=>by cases h⟩
theorem dec_good (hr:rm≤256) (hu:uR (.ok body 0)) (hc:Cnt (.ok body 0) i j q) :
    goodD B rm bu zs (.ok body 0)=refD B rm bu zs body i j q∧(goodD B rm bu zs (.ok body 0)=true→mPm (ctN i) (ctN j) (ctN q) (.ok body 0)=mPm bkE bkL cqF (.ok body 0)):=by
  rcases fk_cases (Wi.nV (.ok body 0)) with h | h | h | h | h | ⟨hk,h⟩ | ⟨hk,h⟩ | h
  · exact dec_plain hu h (fun _ _ _ _ _ _ _=>rfl) (fun _ _ _ _ _ _ _ _=>rfl) (fun _ _ _ _ _=>rfl) ((pmI_F h rfl).trans rfl)
  · exact dec_plain hu h (fun _ _ _ _ _ _ _=>rfl) (fun _ _ _ _ _ _ _ _=>rfl) (fun _ _ _ _ _=>rfl) ((pmI_F h rfl).trans rfl)
  · exact dec_plain hu h (fun _ _ _ _ _ _ _=>rfl) (fun _ _ _ _ _ _ _ _=>rfl) (fun _ _ _ _ _=>rfl) ((pmI_F h rfl).trans rfl)
  · exact dec_plain hu h (fun _ _ _ _ _ _ _=>rfl) (fun _ _ _ _ _ _ _ _=>rfl) (fun _ _ _ _ _=>rfl) ((pmI_F h rfl).trans rfl)
  · exact dec_plain hu h (fun _ _ _ _ _ _ _=>rfl) (fun _ _ _ _ _ _ _ _=>rfl) (fun _ _ _ _ _=>rfl) ((pmI_F h rfl).trans rfl)
  · exact dec_17 hr hu hk (hc.1 hk)
  · exact dec_22 hr hu hk (hc.2 hk).1 (hc.2 hk).2
  · exact dec_plain hu h (fun _ _ _ _ _ _ _=>rfl) (fun _ _ _ _ _ _ _ _=>rfl) (fun _ _ _ _ _=>rfl) ((pmI_F h rfl).trans rfl)
end
theorem U210:Tryz.prog.underlying 210=some (.pointer 45):=by kernel_rfl
theorem putCm (i n:Nat) (st:Wi.RS) (h:i < n):putL (cmL (cmsL i st++List.replicate (n - i) cZ)) (0+i*9) (Cm.cs (cmV (cmsS i st)))=cmL (cmsL (i+1) st++List.replicate (n - (i+1)) cZ):=by
  have e:n - i=(n - (i+1))+1:=by omega
  rw [e,List.replicate_succ,cmsL_succ,show cmsL i st++cZ :: List.replicate (n - (i+1)) cZ=cmsL i st++([cZ]++List.replicate (n - (i+1)) cZ) by simp,cmL_app',cmL_app',Nat.zero_add];have h2:=put_mid (cmL (cmsL i st)) (cmL [cZ]) (cmL (List.replicate (n - (i+1)) cZ)) (Cm.cs (cmV (cmsS i st))) rfl;rw [cmL_len',cmsL_len] at h2;rw [h2,cmL_app',cmL_app',List.append_assoc]
  simp [cmL]
structure MsF (N:Nat) (w:World) (x e l c:Sl) (p:Pm):Prop where
  rb:RdB w x p.bs
  re:RdE w e p.es
  rl:RdL w l p.ls
  rc:RdC w c p.cs
  fb:∀ k,At x.a k→N≤k∧k < w.heap.size
  fe:∀ k,At e.a k→N≤k∧k < w.heap.size
  fl:∀ k,At l.a k→N≤k∧k < w.heap.size
  fc:∀ k,At c.a k→N≤k∧k < w.heap.size
theorem MsF.kept {N:Nat} {S:Nat→Prop} {w w':World} {x e l c:Sl} {p:Pm} (h:MsF N w x e l c p) (hk:Kept S w w') (hS:∀ k,N≤k→¬ S k):MsF N w' x e l c p:=
  ⟨h.rb.keptL hk (fun _ k e=>hS k (h.fb k e).1),h.re.keptL hk (fun _ k e=>hS k (h.fe k e).1),h.rl.keptL hk (fun _ k e=>hS k (h.fl k e).1),h.rc.keptL hk (fun _ k e=>hS k (h.fc k e).1),
    fun k e=>⟨(h.fb k e).1,Nat.lt_of_lt_of_le (h.fb k e).2 hk.size⟩,fun k e=>⟨(h.fe k e).1,Nat.lt_of_lt_of_le (h.fe k e).2 hk.size⟩,fun k e=>⟨(h.fl k e).1,Nat.lt_of_lt_of_le (h.fl k e).2 hk.size⟩,fun k e=>⟨(h.fc k e).1,Nat.lt_of_lt_of_le (h.fc k e).2 hk.size⟩⟩
structure Mf (N r g lb b b1 gm:Nat) (w0 w:World) (s:Wi.RS × Bool) (p:Pm):Prop where
  src:(rdSrc r g lb).St w s
  hb:Box w b 202 #[.pointer (some ⟨r,0,none⟩)]
  hb1:Box w b1 210 #[.pointer (some ⟨gm,0,none⟩)]
  msg:∃ x e l c,Box w gm 45 (Mg.cells (pmG p x e l c))∧MsF N w x e l c p
  lt:r < N∧g < N∧gm < N∧N≤w.heap.size
  ne:(b≠r∧b≠g∧b≠gm)∧(b1≠r∧b1≠g∧b1≠gm)∧gm≠r∧gm≠g∧gm≠lb
  kept:Kept (fun k=>k=r∨k=g∨k=gm) w0 w
section
variable {N r g lb b b1 gm:Nat} {w0 w w':World} {s s':Wi.RS × Bool} {p p':Pm}
theorem Mf.no (h:Mf N r g lb b b1 gm w0 w s p) (hk:Kept No w w'):Mf N r g lb b b1 gm w0 w' s p:=by
  obtain ⟨x,e,l,c,h1,h2⟩:=h.msg;exact ⟨Src.no h.src hk,h.hb.kept hk (fun e=>e),h.hb1.kept hk (fun e=>e),⟨x,e,l,c,h1.kept hk (fun e=>e),h2.kept hk (fun _ _ e=>e)⟩,⟨h.lt.1,h.lt.2.1,h.lt.2.2.1,Nat.le_trans h.lt.2.2.2 hk.size⟩,h.ne,h.kept.then hk.of_no⟩
theorem Mf.step (h:Mf N r g lb b b1 gm w0 w s p) (hS:(rdSrc r g lb).St w' s') (hk:Kept (rdSrc r g lb).Wr w w'):Mf N r g lb b b1 gm w0 w' s' p:=by
  obtain ⟨x,e,l,c,h1,h2⟩:=h.msg;obtain ⟨l1,l2,l3,l4⟩:=h.lt;obtain ⟨⟨n1,n2,n3⟩,⟨m1,m2,m3⟩,g1,g2,g3⟩:=h.ne;exact ⟨hS,h.hb.kept hk (fun e=>e.elim n1 n2),h.hb1.kept hk (fun e=>e.elim m1 m2),⟨x,e,l,c,h1.kept hk (fun e=>e.elim g1 g2),h2.kept hk (fun k e e2=>by rcases e2 with e2 | e2 <;> omega)⟩,⟨l1,l2,l3,Nat.le_trans l4 hk.size⟩,h.ne,h.kept.then (hk.mono (fun k _ e=>e.elim .inl (fun e=>.inr (.inl e))))⟩
theorem Mf.set (h:Mf N r g lb b b1 gm w0 w s p) {x e l c:Sl} (hb:∃ cur:Array Value,Box w gm 45 cur) (hm:MsF N w x e l c p'):Mf N r g lb b b1 gm w0 (w.setRow gm (Mg.cells (pmG p' x e l c))) s p':=by
  obtain ⟨cur,hb⟩:=hb;obtain ⟨l1,l2,l3,l4⟩:=h.lt;obtain ⟨⟨n1,n2,n3⟩,⟨m1,m2,m3⟩,g1,g2,g3⟩:=h.ne;have hk:Kept (Only gm) w (w.setRow gm (Mg.cells (pmG p' x e l c))):=kept_row (Kept.refl (Only gm) w) (.inr rfl) _;refine ⟨(rdSrc r g lb).far h.src hk (fun k e e2=>?_),h.hb.kept hk n3,h.hb1.kept hk m3,⟨x,e,l,c,hb.setRow _,hm.kept hk (fun k e e2=>?_)⟩,⟨l1,l2,l3,Nat.le_trans l4 hk.size⟩,h.ne,h.kept.then (hk.mono (fun k _ e=>.inr (.inr e)))⟩
  · have e:k=gm:=e
    rcases e2 with e2 | e2 | e2 <;> omega
  · have e2:k=gm:=e2
    omega
theorem Mf.start (h:Mf N r g lb b b1 gm w0 w s p):Mf N r g lb b b1 gm w w s p:=⟨h.src,h.hb,h.hb1,h.msg,h.lt,h.ne,Kept.refl _ _⟩
end
def Mx (N r g lb b b1 gm:Nat) (w0 w:World):Prop:=∃ s p,Mf N r g lb b b1 gm w0 w s p
section
variable {ops:Array Oper} {a:Act} {w w0:World} {Q:Exit→Act→World→Prop} {md:Region.Mode} {N r g lb b b1 gm:Nat} {s s':Wi.RS × Bool} {p p':Pm} {fuel:Nat} {listed:Array Bool}
theorem mT (i d:Nat) (HG:Hid (Mf N r g lb b b1 gm w0 w s p)) {v:Value} (hy:∀ w,Hid (Mx N r g lb b b1 gm w0 w)→(execOp a.eval (opA ops i)).run Tryz.prog w=.ok (.value v) w)
    (h:wpAnyH Tryz.prog md ops Q (fun w'=>Hid (Mx N r g lb b b1 gm w0 w')) fuel (listed.setIfInBounds i true) (a.put (some d) v) w)
    (hi:ops[i]?=some (opA ops i):=by kernel_rfl) (hd:(opA ops i).dst=some d:=by kernel_rfl) (hs:Region.noSelect ops=true:=by kernel_rfl) (hf:Region.free md ops listed i=true:=by kernel_rfl) (hr:(Region.ready md ops listed).contains i=true:=by kernel_rfl)
    (hQ:∀ c a w,Q (.panic c) (a.put (some d) v) w→Q (.panic c) a w:=by exact fun _ _ _ h=>h) (hw:Region.wanted (opA ops i) (yielded ops a.tmps)=true:=by kernel_rfl):wpAnyH Tryz.prog md ops Q (fun w'=>Hid (Mx N r g lb b b1 gm w0 w')) (fuel+1) listed a w:=
  any_take hi hs hf hr (by rw [hd];exact hQ) hw hy ⟨s,p,HG.out⟩ (by rw [hd];exact h)
theorem mK (i d:Nat) (HG:Hid (Mf N r g lb b b1 gm w0 w s p)) (v:Value)
    (h:wpAnyH Tryz.prog md ops Q (fun w'=>Hid (Mx N r g lb b b1 gm w0 w')) fuel (listed.setIfInBounds i true) (a.put (some d) v) w) (hy:∀ w,(execOp a.eval (opA ops i)).run Tryz.prog w=.ok (.value v) w:=by intro _;kernel_rfl)
    (hi:ops[i]?=some (opA ops i):=by kernel_rfl) (hd:(opA ops i).dst=some d:=by kernel_rfl) (hs:Region.noSelect ops=true:=by kernel_rfl) (hf:Region.free md ops listed i=true:=by kernel_rfl) (hr:(Region.ready md ops listed).contains i=true:=by kernel_rfl)
    (hQ:∀ c a w,Q (.panic c) (a.put (some d) v) w→Q (.panic c) a w:=by exact fun _ _ _ h=>h) (hw:Region.wanted (opA ops i) (yielded ops a.tmps)=true:=by kernel_rfl):wpAnyH Tryz.prog md ops Q (fun w'=>Hid (Mx N r g lb b b1 gm w0 w')) (fuel+1) listed a w:=
  mT i d HG (fun w _=>hy w) h hi hd hs hf hr hQ hw
theorem zMb {o:Oper} {t:TypeId} {d:TypeDesc} (hu:Tryz.prog.underlying t=some d) (hl:ldA o a.eval=some (t,.pointer (some ⟨b,0,none⟩)):=by kernel_rfl) (hd:(match d with | .struct _ | .array _ _=>true | _=>false)=false:=by kernel_rfl) :
    ∀ w,Hid (Mx N r g lb b b1 gm w0 w)→(execOp a.eval o).run Tryz.prog w=.ok (.value (.pointer (some ⟨r,0,none⟩))) w:=fun w HE=>by
  obtain ⟨s,p,h⟩:=HE;exact exL (load_one (h.hb.cell 0) hu hd) hl
theorem zM1 {o:Oper} {t:TypeId} {d:TypeDesc} (hu:Tryz.prog.underlying t=some d) (hl:ldA o a.eval=some (t,.pointer (some ⟨b1,0,none⟩)):=by kernel_rfl) (hd:(match d with | .struct _ | .array _ _=>true | _=>false)=false:=by kernel_rfl) :
    ∀ w,Hid (Mx N r g lb b b1 gm w0 w)→(execOp a.eval o).run Tryz.prog w=.ok (.value (.pointer (some ⟨gm,0,none⟩))) w:=fun w HE=>by
  obtain ⟨s,p,h⟩:=HE;exact exL (load_one (h.hb1.cell 0) hu hd) hl
theorem zMr {o:Oper} {t:TypeId} {d:TypeDesc} (hu:Tryz.prog.underlying t=some d) (hl:ldA o a.eval=some (t,.pointer (some ⟨r,0,none⟩)):=by kernel_rfl) (hd:(match d with | .struct _ | .array _ _=>true | _=>false)=false:=by kernel_rfl) :
    ∀ w,Hid (Mx N r g lb b b1 gm w0 w)→(execOp a.eval o).run Tryz.prog w=.ok (.value (.pointer (some ⟨g,0,none⟩))) w:=fun w HE=>by
  obtain ⟨s,p,h⟩:=HE;exact exL (load_one (Src.pt _ h.src) hu hd) hl
theorem mC (i d:Nat) {f:FuncId} {args:Array Value} (HG:Hid (Mf N r g lb b b1 gm w0 w s p)) {C:Ending→World→Prop} (hc:Calls Tryz.prog f args w C)
    (h:∀ e w',C e w'→∃ v,e=.returned v∧(rdSrc r g lb).St w' s'∧Kept (rdSrc r g lb).Wr w w'∧(Hid (Mf N r g lb b b1 gm w0 w' s' p)→wpAnyH Tryz.prog md ops Q (fun w'=>Hid (Mx N r g lb b b1 gm w0 w')) fuel (listed.setIfInBounds i true) (a.put (some d) v) w'))
    (hi:ops[i]?=some (opA ops i):=by kernel_rfl) (hd:(opA ops i).dst=some d:=by kernel_rfl) (hr:Region.ready md ops listed=[i]:=by kernel_rfl) (hrun:(execOp a.eval (opA ops i)).run Tryz.prog w=.ok (.enter f args) w:=by kernel_rfl) (hw:Region.wanted (opA ops i) (yielded ops a.tmps)=true:=by kernel_rfl):wpAnyH Tryz.prog md ops Q (fun w'=>Hid (Mx N r g lb b b1 gm w0 w')) (fuel+1) listed a w:=
  any_call hi hr hw f args hrun _ hc (by
    intro e w' hg;obtain ⟨v,h1,h2,h3,h4⟩:=h e w' hg;have HM:=HG.out.step h2 h3;exact ⟨v,h1,⟨s',p,HM⟩,fun _=>by rw [hd];exact h4 HM⟩)
theorem mW (i off:Nat) (HG:Hid (Mf N r g lb b b1 gm w0 w s p)) (p':Pm) (vs:List Value) {t:TypeId} {v:Value} (hv:v.cells=vs.toArray) (hs:(Tryz.prog.info? t).map (·.size)=some vs.length) (h1:∀ x∈vs,x.oneCell'=true) (hl:off+vs.length≤30)
    (hN:∀ x e l c,MsF N w x e l c p→∃ x' e' l' c',putL (Mg.cs (pmG p x e l c)) off vs=Mg.cs (pmG p' x' e' l' c')∧MsF N w x' e' l' c' p')
    (h:∀ w',Hid (Mf N r g lb b b1 gm w0 w' s p')→wpAnyH Tryz.prog md ops Q (fun w'=>Hid (Mx N r g lb b b1 gm w0 w')) fuel (listed.setIfInBounds i true) a w')
    (ho:stA (opA ops i) a.eval=some (t,.pointer (some ⟨gm,off,none⟩),v):=by kernel_rfl) (hi:ops[i]?=some (opA ops i):=by kernel_rfl) (hd:(opA ops i).dst=none:=by kernel_rfl) (hr:Region.ready md ops listed=[i]:=by kernel_rfl)
    (hw:Region.wanted (opA ops i) (yielded ops a.tmps)=true:=by kernel_rfl):wpAnyH Tryz.prog md ops Q (fun w'=>Hid (Mx N r g lb b b1 gm w0 w')) (fuel+1) listed a w:=by
  obtain ⟨x,e,l,c,hb,hm⟩:=HG.out.msg;obtain ⟨x',e',l',c',hp,hm'⟩:=hN x e l c hm;have H2:=HG.out.set ⟨_,hb⟩ hm';unfold stA at ho
  split at ho
  · rename_i t' x0 y0 hx
    obtain ⟨rfl,h2⟩:=Prod.mk.inj (Option.some.inj ho);obtain ⟨h4,h5⟩:=Prod.mk.inj h2;exact any_store hi hr hw _ x0 y0 hx ⟨gm,off,none⟩ v h4 h5 (run_store_to hb hv hs (show off+vs.length≤(Mg.cs (pmG p x e l c)).length from hl) h1 hp) (show Hid _ from ⟨s,p',H2⟩) (fun _=>by rw [hd];exact h _ H2)
  · cases ho
theorem mN (HF:Hid (Mf N r g lb b b1 gm w0 w s p)):Hid (Mx N r g lb b b1 gm w0 w.drew):=⟨s,p,HF.out.no (Kept.refl No _).drew⟩
end
def MfO (N r g lb b b1 gm:Nat) (w:World) (s:Wi.RS × Bool) (p:Pm) (e:Ending) (w':World):Prop:=e=.returned (.tuple #[])∧Mf N r g lb b b1 gm w w' s p
theorem RdC.ofBox {w:World} {g n k:Nat} {es:List Cm} (hb:Box w g 39 (cmL es).toArray) (hl:es.length=n):RdC w ⟨some ⟨g,0,none⟩,n,k⟩ es:=by
  refine ⟨?_,hl,fun e=>by cases e⟩;intro i it hi;refine ⟨g,0,rfl,fun j v hv=>?_⟩;have h1:=flat_get 9 _ (cmL_c es) i it hi j v hv;rw [Nat.zero_add,hb.cell,List.getElem?_toArray];exact h1
theorem at_box {g n k k':Nat} (h:At (⟨some ⟨g,0,none⟩,n,k⟩:Sl).a k'):k'=g:=by
  obtain ⟨ad,h1,h2⟩:=h;cases h1;exact h2.symm
theorem RdC.nilS (w:World):RdC w slZ []:=⟨RowsAt.nil _ _ _,rfl,fun _=>rfl⟩
section
variable {r g lb:Nat} {st:Wi.RS} {odd:Bool} {w:World}
set_option maxRecDepth 100000 in
set_option maxHeartbeats 4000000 in
theorem p_listC (h:(rdSrc r g lb).St w (st,odd)):Calls Tryz.prog 211 #[.pointer (some ⟨r,0,none⟩),.int .i64 64,.func (.func 190) #[.pointer (some ⟨r,0,none⟩)] #[]] w (ListO (rdSrc r g lb) w 39 (cmL (cmsL (cntK (Wi.nV st) 65) (Wi.nS st))) (cntK (Wi.nV st) 65) (cmsS (cntK (Wi.nV st) 65) (Wi.nS st),odd)):=by
  refine hidC fun C HC=>?_;obtain ⟨cnt,hcn2⟩:∃ n,cntK (Wi.nV st) 65=n:=⟨_,rfl⟩;have hcn:((cnt:Nat):Int)=if (65:Int) < Wi.nV st then 65 else Wi.nV st:=by rw [← hcn2];exact cntK_is (nV_pos st) 65
  have hcb:cnt≤65:=by rw [← hcn2];exact cntK_le _ _
  have HF:Hid (Kr (rdSrc r g lb) w w (st,odd) []):=Kr.start h;clear h;go_enter Tryz.func211,Tryz.ntmps211;go_upto_region 0 with fail;refine Sg<|tK (.slice none 0 0)<|Nl ?_;simp only[pS];go_upto_region 1 with fail;refine Sg<|tK (pg r 0)<|tK (pg r 0)<|tK (pg r 0)<|lR (load_one (Src.pt _ HF.out.st) U203 rfl)<|rC _ _ HF (fun h=>p_Num h) fun w1 HF=>tK (.int .i64 64)<|tK (.int .i64 65)<|rMn hcn<|rM cnt (cmL (List.replicate cnt cZ)) HF (make_cm _ _ (by omega)) fun g2 w3 HF=>?_;simp only[pS];refine tK (.slice (some ⟨g2,0,none⟩) cnt cnt)<|Nl ?_;simp only[pS];go_upto_region 2 with fail;refine Sg<|tK (.slice (some ⟨g2,0,none⟩) cnt cnt)<|tK (.int .i64 ((cnt:Nat):Int))<|tK (.int .i64 0)<|Nl ?_;simp only[pS];go_wp2
  go_loopw [20] (fun v20 wr=>∃ i:Nat,v20=.int .i64 ((i:Nat):Int)∧i≤cnt∧Hid (Kr (rdSrc r g lb) w wr (cmsS i (Wi.nS st),odd) [(g2,39,(cmL (cmsL i (Wi.nS st)++List.replicate (cnt - i) cZ)).toArray)])) (fun v20 _=>cnt - (intOf v20).toNat)
  case atStart=>exact ⟨0,by go_num,by omega,HF⟩
  case round=>
    clear HF;obtain ⟨i,rfl,hi,HF⟩:=hrel
    by_cases hlt:i < cnt
    ·go_upto_region 3 with fail;refine Sg<|bN (lI (a:=((i:Nat):Int)) (b:=((cnt:Nat):Int)) (decide_eq_true (by omega)))<|Nl ?_;simp only[pS];go_upto_region 4 with fail;refine Sg<|tK (.int .i64 ((i:Nat):Int))<|tK (.int .i64 ((i:Nat):Int))<|Nl ?_;simp only[pS];go_upto_region 5 with fail;refine Sg<|tK (.slice (some ⟨g2,0,none⟩) cnt cnt)<|tK (.int .i64 ((i:Nat):Int))<|tK (.func (.func 190) #[.pointer (some ⟨r,0,none⟩)] #[])<|rC _ _ HF (fun h=>p_rcommand h) fun w4 HF=>?_;simp only[pS];refine iS (s:=⟨some ⟨g2,0,none⟩,cnt,cnt⟩) (i:=i) rfl E26 F26 (by show _ < cnt;omega)<|rW (cmL (cmsL (i+1) (Wi.nS st)++List.replicate (cnt - (i+1)) cZ)) (Cm.cs (cmV (cmsS i (Wi.nS st)))) HF 0 (0+i*9) (v:=.agg (Cm.cells (cmV (cmsS i (Wi.nS st))))) rfl S39 (Cm.oneL _) (cmL (cmsL i (Wi.nS st)++List.replicate (cnt - i) cZ)) rfl (hl:=by rw [cmL_len];simp only[List.length_append,cmsL_len,List.length_replicate];show 0+i*9+9≤_;omega) (hn:=putCm i cnt (Wi.nS st) hlt) fun w5 HF=>?_;simp only[pS];refine Nl ?_;(try simp only[pS]);go_upto_region 6 with fail;refine Sg<|bN (v:=.int .i64 (((i+1):Nat):Int)) (b_addw ((i:Nat):Int) 1 (((i+1):Nat):Int) (by rw [IntKind.wrap_i64];omega))<|tK (.int .i64 (((i+1):Nat):Int))<|Nl ?_;simp only[pS];go_wp2;go_roundw
     case rel=>exact ⟨i+1,by go_num,by omega,HF⟩
     case measure=>simp [intOf];omega
    ·obtain rfl:i=cnt:=by omega
     rw [Nat.sub_self,List.replicate_zero,List.append_nil] at HF;go_upto_region 3 with fail;refine Sg<|bN (lI (a:=((i:Nat):Int)) (b:=((i:Nat):Int)) (decide_eq_false (by omega)))<|Nl ?_;simp only[pS];go_upto_region 7 with fail;refine Sg<|tK (.slice (some ⟨g2,0,none⟩) i i)<|tK (.slice (some ⟨g2,0,none⟩) i i)<|Nl ?_;simp only[pS];go_wp2;rw [HC.out,hcn2];exact ⟨g2,rfl,HF.out⟩
end
set_option maxRecDepth 100000
set_option maxHeartbeats 4000000
section
variable {N r g lb b b1 gm:Nat} {st:Wi.RS} {odd:Bool} {w:World} {p:Pm}
theorem c_stamp (h:Mf N r g lb b b1 gm w w (st,odd) p):Calls Tryz.prog 205 #[.pointer (some ⟨b,0,none⟩),.pointer (some ⟨b1,0,none⟩)] w (MfO N r g lb b b1 gm w (fdS bkE bkL cqF 0 st,fdO 0 odd st) (fdP bkE bkL cqF 0 p st)):=by
  have eP:fdP bkE bkL cqF 0 p st=⟨p.k,p.fr,p.too,p.op,p.rd,p.ky,stV st,p.hd,p.bs,p.c,p.up,p.es,p.ls,p.cs,p.mo⟩:=rfl;have eS:fdS bkE bkL cqF 0 st=Wi.aS st:=rfl;have eO:fdO 0 odd st=odd:=rfl;rw [eP,eS,eO];clear eP eS eO;refine hidC fun C HC=>?_;have HF:Hid (Mf N r g lb b b1 gm w w (st,odd) p):=h;clear h;go_enter Tryz.func205,Tryz.ntmps205;go_upto_region 0 with fail;refine wp_region_held_drew (S:=fun w'=>Hid (Mx N r g lb b b1 gm w w')) rfl (mN HF) (fun _=>?_);have HG:Hid (Mf N r g lb b b1 gm w w.drew (st,odd) p):=HF.out.no (Kept.refl No _).drew;clear HF;generalize w.drew=w2 at HG ⊢;refine mT 0 2 HG (zM1 U210) ?_;(try simp only[pS]);refine mT 1 3 HG (zMb U202) ?_;(try simp only[pS]);refine mC 2 4 HG (s':=(Wi.aS st,odd)) (p_rstamp HG.out.src) ?_;rintro e w3 ⟨rfl,h1,h2⟩;refine ⟨_,rfl,h1,h2,fun HG2=>?_⟩;(try simp only[pS]);refine mK 3 5 HG2 (.pointer (some ⟨gm,0,none⟩)) ?_;(try simp only[pS]);refine mK 4 6 HG2 (.pointer (some ⟨gm,11,none⟩)) ?_;(try simp only[pS]);refine mW 5 11 HG2 ⟨p.k,p.fr,p.too,p.op,p.rd,p.ky,stV st,p.hd,p.bs,p.c,p.up,p.es,p.ls,p.cs,p.mo⟩ (Sp.cs (stV st)) (t:=34) (v:=.agg (Sp.cells (stV st))) rfl S34 (Sp.oneL _) (Nat.le_of_ble_eq_true (by kernel_rfl)) (fun x e l c h=>⟨x,e,l,c,rfl,h.rb,h.re,h.rl,h.rc,h.fb,h.fe,h.fl,h.fc⟩) fun w4 HG3=>?_;(try simp only[pS]);refine wpAnyH_done (by kernel_rfl) ?_ _;(try simp only[pS]);go_wp2;rw [HC.out];go_end0;exact ⟨rfl,HG3.out⟩
theorem c_held (h:Mf N r g lb b b1 gm w w (st,odd) p):Calls Tryz.prog 206 #[.pointer (some ⟨b,0,none⟩),.pointer (some ⟨b1,0,none⟩)] w (MfO N r g lb b b1 gm w (fdS bkE bkL cqF 1 st,fdO 1 odd st) (fdP bkE bkL cqF 1 p st)):=by
  have eP:fdP bkE bkL cqF 1 p st=⟨p.k,p.fr,p.too,p.op,p.rd,p.ky,p.st,stV st,p.bs,p.c,p.up,p.es,p.ls,p.cs,p.mo⟩:=rfl;have eS:fdS bkE bkL cqF 1 st=Wi.aS st:=rfl;have eO:fdO 1 odd st=odd:=rfl;rw [eP,eS,eO];clear eP eS eO;refine hidC fun C HC=>?_;have HF:Hid (Mf N r g lb b b1 gm w w (st,odd) p):=h;clear h;go_enter Tryz.func206,Tryz.ntmps206;go_upto_region 0 with fail;refine wp_region_held_drew (S:=fun w'=>Hid (Mx N r g lb b b1 gm w w')) rfl (mN HF) (fun _=>?_);have HG:Hid (Mf N r g lb b b1 gm w w.drew (st,odd) p):=HF.out.no (Kept.refl No _).drew;clear HF;generalize w.drew=w2 at HG ⊢;refine mT 0 2 HG (zM1 U210) ?_;(try simp only[pS]);refine mT 1 3 HG (zMb U202) ?_;(try simp only[pS]);refine mC 2 4 HG (s':=(Wi.aS st,odd)) (p_rstamp HG.out.src) ?_;rintro e w3 ⟨rfl,h1,h2⟩;refine ⟨_,rfl,h1,h2,fun HG2=>?_⟩;(try simp only[pS]);refine mK 3 5 HG2 (.pointer (some ⟨gm,0,none⟩)) ?_;(try simp only[pS]);refine mK 4 6 HG2 (.pointer (some ⟨gm,13,none⟩)) ?_;(try simp only[pS]);refine mW 5 13 HG2 ⟨p.k,p.fr,p.too,p.op,p.rd,p.ky,p.st,stV st,p.bs,p.c,p.up,p.es,p.ls,p.cs,p.mo⟩ (Sp.cs (stV st)) (t:=34) (v:=.agg (Sp.cells (stV st))) rfl S34 (Sp.oneL _) (Nat.le_of_ble_eq_true (by kernel_rfl)) (fun x e l c h=>⟨x,e,l,c,rfl,h.rb,h.re,h.rl,h.rc,h.fb,h.fe,h.fl,h.fc⟩) fun w4 HG3=>?_;(try simp only[pS]);refine wpAnyH_done (by kernel_rfl) ?_ _;(try simp only[pS]);go_wp2;rw [HC.out];go_end0;exact ⟨rfl,HG3.out⟩
theorem c_bytes (h:Mf N r g lb b b1 gm w w (st,odd) p):Calls Tryz.prog 207 #[.pointer (some ⟨b,0,none⟩),.pointer (some ⟨b1,0,none⟩)] w (MfO N r g lb b b1 gm w (fdS bkE bkL cqF 2 st,fdO 2 odd st) (fdP bkE bkL cqF 2 p st)):=by
  have eP:fdP bkE bkL cqF 2 p st=⟨p.k,p.fr,p.too,p.op,p.rd,p.ky,p.st,p.hd,tV st,p.c,p.up,p.es,p.ls,p.cs,p.mo⟩:=rfl;have eS:fdS bkE bkL cqF 2 st=tS st:=rfl;have eO:fdO 2 odd st=odd:=rfl;rw [eP,eS,eO];clear eP eS eO;refine hidC fun C HC=>?_;have HF:Hid (Mf N r g lb b b1 gm w w (st,odd) p):=h;clear h;go_enter Tryz.func207,Tryz.ntmps207;go_upto_region 0 with fail;refine wp_region_held_drew (S:=fun w'=>Hid (Mx N r g lb b b1 gm w w')) rfl (mN HF) (fun _=>?_);have HG:Hid (Mf N r g lb b b1 gm w w.drew (st,odd) p):=HF.out.no (Kept.refl No _).drew;clear HF;generalize w.drew=w2 at HG ⊢;refine mT 0 2 HG (zM1 U210) ?_;(try simp only[pS]);refine mT 1 3 HG (zMb U202) ?_;(try simp only[pS]);refine mK 2 4 HG (.pointer (some ⟨r,0,none⟩)) ?_;(try simp only[pS]);refine mK 3 5 HG (.pointer (some ⟨r,0,none⟩)) ?_;(try simp only[pS]);refine mT 4 6 HG (zMr U203) ?_;(try simp only[pS]);refine mC 5 7 HG (s':=(tS st,odd)) (Wi.RdM.bytes HG.out.src) ?_;rintro e w3 ⟨a',n',c',rfl,hn,hO,hr,_⟩;refine ⟨_,rfl,hr.anew,kwS hr.kept,fun HG2=>?_⟩;have HX:Hid (Wi.OwnS w3 w2.heap.size a' c' (tV st)∧n'=(tV st).length∧N≤w2.heap.size):=⟨hO,hn,HG.out.lt.2.2.2⟩;(try simp only[pS]);refine mK 6 8 HG2 (.pointer (some ⟨gm,0,none⟩)) ?_;(try simp only[pS]);refine mK 7 9 HG2 (.pointer (some ⟨gm,15,none⟩)) ?_;(try simp only[pS]);refine mW 8 15 HG2 ⟨p.k,p.fr,p.too,p.op,p.rd,p.ky,p.st,p.hd,tV st,p.c,p.up,p.es,p.ls,p.cs,p.mo⟩ [.slice a' n' c'] (t:=35) (v:=Value.slice a' n' c') rfl S35 (by simp [Value.oneCell']) (Nat.le_of_ble_eq_true (by kernel_rfl)) (fun x e l c h=>⟨⟨a',n',c'⟩,e,l,c,rfl,own_rdB HX.out.1 HX.out.2.1.symm,h.re,h.rl,h.rc,fun k hk=>⟨Nat.le_trans HX.out.2.2 (HX.out.1.base hk),HX.out.1.lt hk⟩,h.fe,h.fl,h.fc⟩) fun w4 HG3=>?_;(try simp only[pS]);refine wpAnyH_done (by kernel_rfl) ?_ _;(try simp only[pS]);go_wp2;rw [HC.out];go_end0;exact ⟨rfl,HG3.out⟩
theorem c_cmd (h:Mf N r g lb b b1 gm w w (st,odd) p):Calls Tryz.prog 208 #[.pointer (some ⟨b,0,none⟩),.pointer (some ⟨b1,0,none⟩)] w (MfO N r g lb b b1 gm w (fdS bkE bkL cqF 3 st,fdO 3 odd st) (fdP bkE bkL cqF 3 p st)):=by
  have eP:fdP bkE bkL cqF 3 p st=⟨p.k,p.fr,p.too,p.op,p.rd,p.ky,p.st,p.hd,p.bs,cmV st,p.up,p.es,p.ls,p.cs,p.mo⟩:=rfl;have eS:fdS bkE bkL cqF 3 st=cmS st:=rfl;have eO:fdO 3 odd st=odd:=rfl;rw [eP,eS,eO];clear eP eS eO;refine hidC fun C HC=>?_;have HF:Hid (Mf N r g lb b b1 gm w w (st,odd) p):=h;clear h;go_enter Tryz.func208,Tryz.ntmps208;go_upto_region 0 with fail;refine wp_region_held_drew (S:=fun w'=>Hid (Mx N r g lb b b1 gm w w')) rfl (mN HF) (fun _=>?_);have HG:Hid (Mf N r g lb b b1 gm w w.drew (st,odd) p):=HF.out.no (Kept.refl No _).drew;clear HF;generalize w.drew=w2 at HG ⊢;refine mT 0 2 HG (zM1 U210) ?_;(try simp only[pS]);refine mT 1 3 HG (zMb U202) ?_;(try simp only[pS]);refine mC 2 4 HG (s':=(cmS st,odd)) (p_rcommand HG.out.src) ?_;rintro e w3 ⟨rfl,h1,h2⟩;refine ⟨_,rfl,h1,h2,fun HG2=>?_⟩;(try simp only[pS]);refine mK 3 5 HG2 (.pointer (some ⟨gm,0,none⟩)) ?_;(try simp only[pS]);refine mK 4 6 HG2 (.pointer (some ⟨gm,16,none⟩)) ?_;(try simp only[pS]);refine mW 5 16 HG2 ⟨p.k,p.fr,p.too,p.op,p.rd,p.ky,p.st,p.hd,p.bs,cmV st,p.up,p.es,p.ls,p.cs,p.mo⟩ (Cm.cs (cmV st)) (t:=39) (v:=.agg (Cm.cells (cmV st))) rfl S39 (Cm.oneL _) (Nat.le_of_ble_eq_true (by kernel_rfl)) (fun x e l c h=>⟨x,e,l,c,rfl,h.rb,h.re,h.rl,h.rc,h.fb,h.fe,h.fl,h.fc⟩) fun w4 HG3=>?_;(try simp only[pS]);refine wpAnyH_done (by kernel_rfl) ?_ _;(try simp only[pS]);go_wp2;rw [HC.out];go_end0;exact ⟨rfl,HG3.out⟩
theorem c_more (h:Mf N r g lb b b1 gm w w (st,odd) p):Calls Tryz.prog 212 #[.pointer (some ⟨b,0,none⟩),.pointer (some ⟨b1,0,none⟩)] w (MfO N r g lb b b1 gm w (fdS bkE bkL cqF 6 st,fdO 6 odd st) (fdP bkE bkL cqF 6 p st)):=by
  have eP:fdP bkE bkL cqF 6 p st=⟨p.k,p.fr,p.too,p.op,p.rd,p.ky,p.st,p.hd,p.bs,p.c,p.up,p.es,p.ls,p.cs,Wi.fV st⟩:=rfl;have eS:fdS bkE bkL cqF 6 st=Wi.nS st:=rfl;have eO:fdO 6 odd st=Wi.fO odd st:=rfl;rw [eP,eS,eO];clear eP eS eO;refine hidC fun C HC=>?_;have HF:Hid (Mf N r g lb b b1 gm w w (st,odd) p):=h;clear h;go_enter Tryz.func212,Tryz.ntmps212;go_upto_region 0 with fail;refine wp_region_held_drew (S:=fun w'=>Hid (Mx N r g lb b b1 gm w w')) rfl (mN HF) (fun _=>?_);have HG:Hid (Mf N r g lb b b1 gm w w.drew (st,odd) p):=HF.out.no (Kept.refl No _).drew;clear HF;generalize w.drew=w2 at HG ⊢;refine mT 0 2 HG (zM1 U210) ?_;(try simp only[pS]);refine mT 1 3 HG (zMb U202) ?_;(try simp only[pS]);refine mC 2 4 HG (s':=(Wi.nS st,Wi.fO odd st)) (p_rflag HG.out.src) ?_;rintro e w3 ⟨rfl,h1,h2⟩;refine ⟨_,rfl,h1,h2,fun HG2=>?_⟩;(try simp only[pS]);refine mK 3 5 HG2 (.pointer (some ⟨gm,0,none⟩)) ?_;(try simp only[pS]);refine mK 4 6 HG2 (.pointer (some ⟨gm,29,none⟩)) ?_;(try simp only[pS]);refine mW 5 29 HG2 ⟨p.k,p.fr,p.too,p.op,p.rd,p.ky,p.st,p.hd,p.bs,p.c,p.up,p.es,p.ls,p.cs,Wi.fV st⟩ [.bool (Wi.fV st)] (t:=4) (v:=Value.bool (Wi.fV st)) rfl S4 (by simp [Value.oneCell']) (Nat.le_of_ble_eq_true (by kernel_rfl)) (fun x e l c h=>⟨x,e,l,c,rfl,h.rb,h.re,h.rl,h.rc,h.fb,h.fe,h.fl,h.fc⟩) fun w4 HG3=>?_;(try simp only[pS]);refine wpAnyH_done (by kernel_rfl) ?_ _;(try simp only[pS]);go_wp2;rw [HC.out];go_end0;exact ⟨rfl,HG3.out⟩
end
end Go.Proofs.YtgdnofacgfjaeaaGreat.Md
