import Derived.Test.YtgdnofacgfjaeaaGreatPa
import Derived.Test.YtgdnofacgfjaeaaGreatKg
namespace Go.Proofs.YtgdnofacgfjaeaaGreat.Md
open Go.RowKit
set_option linter.unusedVariables false
set_option linter.unusedSimpArgs false
theorem onl (m:Mg) (fs:List Int):onlyP m fs=((eqS m.st spZ||hasB fs 0)&&((eqS m.hd spZ||hasB fs 1)&&((((m.bl.l:Nat):Int)==0||hasB fs 2)&&((eqC m.c cZ||hasB fs 3)&&((empK m.bk||hasB fs 4)&&((((m.cm.l:Nat):Int)==0||hasB fs 5)&&(!m.mo||hasB fs 6))))))):=by
  have e:List.range 7=[0,1,2,3,4,5,6]:=by decide
  unfold onlyP
  rw [e]
  simp only[List.all_cons,List.all_nil,Bool.and_true]
  rfl
theorem eqSz:eqS spZ spZ=true:=rfl
theorem eqCz:eqC cZ cZ=true:=eqC_refl _
theorem slz:(((slZ.l:Nat):Int)==0)=true:=rfl
theorem row_eqs (B f:Int) (x:Sl) (cs:List Cm):rowsP B f x cs=(bif decide (64 < ((x.l:Nat):Int))||decide (1048577 < f+((x.l:Nat):Int)) then false else rowR B cs):=by
  unfold rowsP;rw [row_eq]
theorem mq1 {B rm bu:Int} {zs:List Int} {m:Mg} {bs:List Int} {es:List En} {ls:List La} {cs:List Cm} (hk:m.k=1) (he:es.length=m.bk.e.l) (hl:ls.length=m.bk.l.l) (hr:0≤rm):msgP B rm bu zs m bs es ls cs=msgR B rm bu zs m bs es ls cs:=by
  have hf:fieldsK 1=[]:=by decide
  have h0:hasB [] 0=false:=by decide
  have h1:hasB [] 1=false:=by decide
  have h2:hasB [] 2=false:=by decide
  have h3:hasB [] 3=false:=by decide
  have h4:hasB [] 4=false:=by decide
  have h5:hasB [] 5=false:=by decide
  have h6:hasB [] 6=false:=by decide
  have hon:=one_none m.st
  simp only[msgP,msgR,endsP,keyP,fldsP,haveP,asksR,ansR,btwR,bareR,cntB,hk,Int.reduceBEq,bsq,hf,onl,h0,h1,h2,h3,h4,h5,h6,cmd_eq,held_eq,bkt_eq hr he hl,pos_eq,row_eqs,beq_self_eq_true,eqSz,eqCz,slz]
  generalize (keyR bu m.ky)=x0
  generalize (cliB m.fr)=x1
  generalize (srvB zs m.too)=x4
  generalize (wn m.op 1 1099511627776)=x5
  generalize (wn m.rd 1 1099511627776)=x6
  generalize (m.ky.k==1)=y1
  generalize (eqS m.hd spZ)=a1
  generalize (eqC m.c cZ)=a3
  generalize (m.mo)=a6
  generalize (empK m.bk)=a4
  generalize (eqS m.st spZ)=a0
  generalize (((m.bl.l:Nat):Int)==0)=a2
  generalize (((m.cm.l:Nat):Int)==0)=a5
  cases x0 <;> (try simp only[bsq]) <;> cases x1 <;> (try simp only[bsq]) <;> cases x4 <;> (try simp only[bsq]) <;> cases x5 <;> (try simp only[bsq]) <;> cases x6 <;> (try simp only[bsq]) <;> cases y1 <;> (try simp only[bsq]) <;> cases a1 <;> (try simp only[bsq]) <;> cases a3 <;> (try simp only[bsq]) <;> cases a6 <;> (try simp only[bsq]) <;> cases a4 <;> (try simp only[bsq]) <;> cases a0 <;> (try simp only[bsq]) <;> cases a2 <;> (try simp only[bsq]) <;> cases a5 <;> (try simp only[bsq])
theorem mq2 {B rm bu:Int} {zs:List Int} {m:Mg} {bs:List Int} {es:List En} {ls:List La} {cs:List Cm} (hk:m.k=2) (he:es.length=m.bk.e.l) (hl:ls.length=m.bk.l.l) (hr:0≤rm):msgP B rm bu zs m bs es ls cs=msgR B rm bu zs m bs es ls cs:=by
  have hf:fieldsK 2=[0,2]:=by decide
  have h0:hasB [0,2] 0=true:=by decide
  have h1:hasB [0,2] 1=false:=by decide
  have h2:hasB [0,2] 2=true:=by decide
  have h3:hasB [0,2] 3=false:=by decide
  have h4:hasB [0,2] 4=false:=by decide
  have h5:hasB [0,2] 5=false:=by decide
  have h6:hasB [0,2] 6=false:=by decide
  have hon:=one_none m.st
  simp only[msgP,msgR,endsP,keyP,fldsP,haveP,asksR,ansR,btwR,bareR,cntB,hk,Int.reduceBEq,bsq,hf,onl,h0,h1,h2,h3,h4,h5,h6,cmd_eq,held_eq,bkt_eq hr he hl,pos_eq,row_eqs,beq_self_eq_true,eqSz,eqCz,slz]
  generalize (keyR bu m.ky)=x0
  generalize (cliB m.fr)=x1
  generalize (srvB zs m.too)=x4
  generalize (wn m.op 1 1099511627776)=x5
  generalize (wn m.rd 1 1099511627776)=x6
  generalize (m.ky.k==1)=y1
  generalize (eqS m.hd spZ)=a1
  generalize (eqC m.c cZ)=a3
  generalize (m.mo)=a6
  generalize (empK m.bk)=a4
  generalize (((m.cm.l:Nat):Int)==0)=a5
  generalize (oneS m.st)=o0
  generalize (((m.bl.l:Nat):Int)==B)=l0
  cases x0 <;> (try simp only[bsq]) <;> cases x1 <;> (try simp only[bsq]) <;> cases x4 <;> (try simp only[bsq]) <;> cases x5 <;> (try simp only[bsq]) <;> cases x6 <;> (try simp only[bsq]) <;> cases y1 <;> (try simp only[bsq]) <;> cases a1 <;> (try simp only[bsq]) <;> cases a3 <;> (try simp only[bsq]) <;> cases a6 <;> (try simp only[bsq]) <;> cases a4 <;> (try simp only[bsq]) <;> cases a5 <;> (try simp only[bsq]) <;> cases o0 <;> (try simp only[bsq]) <;> cases l0 <;> (try simp only[bsq])
theorem mq3 {B rm bu:Int} {zs:List Int} {m:Mg} {bs:List Int} {es:List En} {ls:List La} {cs:List Cm} (hk:m.k=3) (he:es.length=m.bk.e.l) (hl:ls.length=m.bk.l.l) (hr:0≤rm):msgP B rm bu zs m bs es ls cs=msgR B rm bu zs m bs es ls cs:=by
  have hf:fieldsK 3=[0]:=by decide
  have h0:hasB [0] 0=true:=by decide
  have h1:hasB [0] 1=false:=by decide
  have h2:hasB [0] 2=false:=by decide
  have h3:hasB [0] 3=false:=by decide
  have h4:hasB [0] 4=false:=by decide
  have h5:hasB [0] 5=false:=by decide
  have h6:hasB [0] 6=false:=by decide
  have hon:=one_none m.st
  simp only[msgP,msgR,endsP,keyP,fldsP,haveP,asksR,ansR,btwR,bareR,cntB,hk,Int.reduceBEq,bsq,hf,onl,h0,h1,h2,h3,h4,h5,h6,cmd_eq,held_eq,bkt_eq hr he hl,pos_eq,row_eqs,beq_self_eq_true,eqSz,eqCz,slz]
  generalize (keyR bu m.ky)=x0
  generalize (cliB m.fr)=x1
  generalize (srvB zs m.too)=x4
  generalize (wn m.op 1 1099511627776)=x5
  generalize (wn m.rd 1 1099511627776)=x6
  generalize (m.ky.k==3)=y3
  generalize (eqS m.hd spZ)=a1
  generalize (eqC m.c cZ)=a3
  generalize (m.mo)=a6
  generalize (empK m.bk)=a4
  generalize (((m.bl.l:Nat):Int)==0)=a2
  generalize (((m.cm.l:Nat):Int)==0)=a5
  generalize (oneS m.st)=o0
  cases x0 <;> (try simp only[bsq]) <;> cases x1 <;> (try simp only[bsq]) <;> cases x4 <;> (try simp only[bsq]) <;> cases x5 <;> (try simp only[bsq]) <;> cases x6 <;> (try simp only[bsq]) <;> cases y3 <;> (try simp only[bsq]) <;> cases a1 <;> (try simp only[bsq]) <;> cases a3 <;> (try simp only[bsq]) <;> cases a6 <;> (try simp only[bsq]) <;> cases a4 <;> (try simp only[bsq]) <;> cases a2 <;> (try simp only[bsq]) <;> cases a5 <;> (try simp only[bsq]) <;> cases o0 <;> (try simp only[bsq])
theorem mq4 {B rm bu:Int} {zs:List Int} {m:Mg} {bs:List Int} {es:List En} {ls:List La} {cs:List Cm} (hk:m.k=4) (he:es.length=m.bk.e.l) (hl:ls.length=m.bk.l.l) (hr:0≤rm):msgP B rm bu zs m bs es ls cs=msgR B rm bu zs m bs es ls cs:=by
  have hf:fieldsK 4=[0,3]:=by decide
  have h0:hasB [0,3] 0=true:=by decide
  have h1:hasB [0,3] 1=false:=by decide
  have h2:hasB [0,3] 2=false:=by decide
  have h3:hasB [0,3] 3=true:=by decide
  have h4:hasB [0,3] 4=false:=by decide
  have h5:hasB [0,3] 5=false:=by decide
  have h6:hasB [0,3] 6=false:=by decide
  have hon:=one_none m.st
  simp only[msgP,msgR,endsP,keyP,fldsP,haveP,asksR,ansR,btwR,bareR,cntB,hk,Int.reduceBEq,bsq,hf,onl,h0,h1,h2,h3,h4,h5,h6,cmd_eq,held_eq,bkt_eq hr he hl,pos_eq,row_eqs,beq_self_eq_true,eqSz,eqCz,slz]
  generalize (keyR bu m.ky)=x0
  generalize (cliB m.fr)=x1
  generalize (srvB zs m.too)=x4
  generalize (wn m.op 1 1099511627776)=x5
  generalize (wn m.rd 1 1099511627776)=x6
  generalize (m.ky.k==3)=y3
  generalize (eqS m.hd spZ)=a1
  generalize (m.mo)=a6
  generalize (empK m.bk)=a4
  generalize (((m.bl.l:Nat):Int)==0)=a2
  generalize (((m.cm.l:Nat):Int)==0)=a5
  generalize (oneS m.st)=o0
  generalize (cmdR B m.c)=c0
  cases x0 <;> (try simp only[bsq]) <;> cases x1 <;> (try simp only[bsq]) <;> cases x4 <;> (try simp only[bsq]) <;> cases x5 <;> (try simp only[bsq]) <;> cases x6 <;> (try simp only[bsq]) <;> cases y3 <;> (try simp only[bsq]) <;> cases a1 <;> (try simp only[bsq]) <;> cases a6 <;> (try simp only[bsq]) <;> cases a4 <;> (try simp only[bsq]) <;> cases a2 <;> (try simp only[bsq]) <;> cases a5 <;> (try simp only[bsq]) <;> cases o0 <;> (try simp only[bsq]) <;> cases c0 <;> (try simp only[bsq])
theorem mq5 {B rm bu:Int} {zs:List Int} {m:Mg} {bs:List Int} {es:List En} {ls:List La} {cs:List Cm} (hk:m.k=5) (he:es.length=m.bk.e.l) (hl:ls.length=m.bk.l.l) (hr:0≤rm):msgP B rm bu zs m bs es ls cs=msgR B rm bu zs m bs es ls cs:=by
  have hf:fieldsK 5=[3]:=by decide
  have h0:hasB [3] 0=false:=by decide
  have h1:hasB [3] 1=false:=by decide
  have h2:hasB [3] 2=false:=by decide
  have h3:hasB [3] 3=true:=by decide
  have h4:hasB [3] 4=false:=by decide
  have h5:hasB [3] 5=false:=by decide
  have h6:hasB [3] 6=false:=by decide
  have hon:=one_none m.st
  simp only[msgP,msgR,endsP,keyP,fldsP,haveP,asksR,ansR,btwR,bareR,cntB,hk,Int.reduceBEq,bsq,hf,onl,h0,h1,h2,h3,h4,h5,h6,cmd_eq,held_eq,bkt_eq hr he hl,pos_eq,row_eqs,beq_self_eq_true,eqSz,eqCz,slz]
  generalize (keyR bu m.ky)=x0
  generalize (cliB m.fr)=x1
  generalize (srvB zs m.too)=x4
  generalize (wn m.op 1 1099511627776)=x5
  generalize (wn m.rd 1 1099511627776)=x6
  generalize (m.ky.k==3)=y3
  generalize (eqS m.hd spZ)=a1
  generalize (m.mo)=a6
  generalize (empK m.bk)=a4
  generalize (eqS m.st spZ)=a0
  generalize (((m.bl.l:Nat):Int)==0)=a2
  generalize (((m.cm.l:Nat):Int)==0)=a5
  generalize (cmdR B m.c)=c0
  cases x0 <;> (try simp only[bsq]) <;> cases x1 <;> (try simp only[bsq]) <;> cases x4 <;> (try simp only[bsq]) <;> cases x5 <;> (try simp only[bsq]) <;> cases x6 <;> (try simp only[bsq]) <;> cases y3 <;> (try simp only[bsq]) <;> cases a1 <;> (try simp only[bsq]) <;> cases a6 <;> (try simp only[bsq]) <;> cases a4 <;> (try simp only[bsq]) <;> cases a0 <;> (try simp only[bsq]) <;> cases a2 <;> (try simp only[bsq]) <;> cases a5 <;> (try simp only[bsq]) <;> cases c0 <;> (try simp only[bsq])
theorem mq11 {B rm bu:Int} {zs:List Int} {m:Mg} {bs:List Int} {es:List En} {ls:List La} {cs:List Cm} (hk:m.k=11) (he:es.length=m.bk.e.l) (hl:ls.length=m.bk.l.l) (hr:0≤rm):msgP B rm bu zs m bs es ls cs=msgR B rm bu zs m bs es ls cs:=by
  have hf:fieldsK 11=[0,2]:=by decide
  have h0:hasB [0,2] 0=true:=by decide
  have h1:hasB [0,2] 1=false:=by decide
  have h2:hasB [0,2] 2=true:=by decide
  have h3:hasB [0,2] 3=false:=by decide
  have h4:hasB [0,2] 4=false:=by decide
  have h5:hasB [0,2] 5=false:=by decide
  have h6:hasB [0,2] 6=false:=by decide
  have hon:=one_none m.st
  simp only[msgP,msgR,endsP,keyP,fldsP,haveP,asksR,ansR,btwR,bareR,cntB,hk,Int.reduceBEq,bsq,hf,onl,h0,h1,h2,h3,h4,h5,h6,cmd_eq,held_eq,bkt_eq hr he hl,pos_eq,row_eqs,beq_self_eq_true,eqSz,eqCz,slz]
  generalize (keyR bu m.ky)=x0
  generalize (cliB m.too)=x2
  generalize (srvB zs m.fr)=x3
  generalize (wn m.op 1 1099511627776)=x5
  generalize (wn m.rd 1 1099511627776)=x6
  generalize (m.ky.k==1)=y1
  generalize (eqS m.hd spZ)=a1
  generalize (eqC m.c cZ)=a3
  generalize (m.mo)=a6
  generalize (empK m.bk)=a4
  generalize (((m.cm.l:Nat):Int)==0)=a5
  generalize (blkB B ⟨m.st,m.bl⟩ bs)=b0
  cases x0 <;> (try simp only[bsq]) <;> cases x2 <;> (try simp only[bsq]) <;> cases x3 <;> (try simp only[bsq]) <;> cases x5 <;> (try simp only[bsq]) <;> cases x6 <;> (try simp only[bsq]) <;> cases y1 <;> (try simp only[bsq]) <;> cases a1 <;> (try simp only[bsq]) <;> cases a3 <;> (try simp only[bsq]) <;> cases a6 <;> (try simp only[bsq]) <;> cases a4 <;> (try simp only[bsq]) <;> cases a5 <;> (try simp only[bsq]) <;> cases b0 <;> (try simp only[bsq])
theorem mq12 {B rm bu:Int} {zs:List Int} {m:Mg} {bs:List Int} {es:List En} {ls:List La} {cs:List Cm} (hk:m.k=12) (he:es.length=m.bk.e.l) (hl:ls.length=m.bk.l.l) (hr:0≤rm):msgP B rm bu zs m bs es ls cs=msgR B rm bu zs m bs es ls cs:=by
  have hf:fieldsK 12=[]:=by decide
  have h0:hasB [] 0=false:=by decide
  have h1:hasB [] 1=false:=by decide
  have h2:hasB [] 2=false:=by decide
  have h3:hasB [] 3=false:=by decide
  have h4:hasB [] 4=false:=by decide
  have h5:hasB [] 5=false:=by decide
  have h6:hasB [] 6=false:=by decide
  have hon:=one_none m.st
  simp only[msgP,msgR,endsP,keyP,fldsP,haveP,asksR,ansR,btwR,bareR,cntB,hk,Int.reduceBEq,bsq,hf,onl,h0,h1,h2,h3,h4,h5,h6,cmd_eq,held_eq,bkt_eq hr he hl,pos_eq,row_eqs,beq_self_eq_true,eqSz,eqCz,slz]
  generalize (keyR bu m.ky)=x0
  generalize (cliB m.too)=x2
  generalize (srvB zs m.fr)=x3
  generalize (wn m.op 1 1099511627776)=x5
  generalize (wn m.rd 1 1099511627776)=x6
  generalize (m.ky.k==1)=y1
  generalize (eqS m.hd spZ)=a1
  generalize (eqC m.c cZ)=a3
  generalize (m.mo)=a6
  generalize (empK m.bk)=a4
  generalize (eqS m.st spZ)=a0
  generalize (((m.bl.l:Nat):Int)==0)=a2
  generalize (((m.cm.l:Nat):Int)==0)=a5
  cases x0 <;> (try simp only[bsq]) <;> cases x2 <;> (try simp only[bsq]) <;> cases x3 <;> (try simp only[bsq]) <;> cases x5 <;> (try simp only[bsq]) <;> cases x6 <;> (try simp only[bsq]) <;> cases y1 <;> (try simp only[bsq]) <;> cases a1 <;> (try simp only[bsq]) <;> cases a3 <;> (try simp only[bsq]) <;> cases a6 <;> (try simp only[bsq]) <;> cases a4 <;> (try simp only[bsq]) <;> cases a0 <;> (try simp only[bsq]) <;> cases a2 <;> (try simp only[bsq]) <;> cases a5 <;> (try simp only[bsq])
theorem mq13 {B rm bu:Int} {zs:List Int} {m:Mg} {bs:List Int} {es:List En} {ls:List La} {cs:List Cm} (hk:m.k=13) (he:es.length=m.bk.e.l) (hl:ls.length=m.bk.l.l) (hr:0≤rm):msgP B rm bu zs m bs es ls cs=msgR B rm bu zs m bs es ls cs:=by
  have hf:fieldsK 13=[0,1,3]:=by decide
  have h0:hasB [0,1,3] 0=true:=by decide
  have h1:hasB [0,1,3] 1=true:=by decide
  have h2:hasB [0,1,3] 2=false:=by decide
  have h3:hasB [0,1,3] 3=true:=by decide
  have h4:hasB [0,1,3] 4=false:=by decide
  have h5:hasB [0,1,3] 5=false:=by decide
  have h6:hasB [0,1,3] 6=false:=by decide
  have hon:=one_none m.st
  simp only[msgP,msgR,endsP,keyP,fldsP,haveP,asksR,ansR,btwR,bareR,cntB,hk,Int.reduceBEq,bsq,hf,onl,h0,h1,h2,h3,h4,h5,h6,cmd_eq,held_eq,bkt_eq hr he hl,pos_eq,row_eqs,beq_self_eq_true,eqSz,eqCz,slz]
  generalize (keyR bu m.ky)=x0
  generalize (cliB m.too)=x2
  generalize (srvB zs m.fr)=x3
  generalize (wn m.op 1 1099511627776)=x5
  generalize (wn m.rd 1 1099511627776)=x6
  generalize (m.ky.k==3)=y3
  generalize (eqS m.hd spZ)=a1
  generalize (eqC m.c cZ)=a3
  generalize (m.mo)=a6
  generalize (empK m.bk)=a4
  generalize (((m.bl.l:Nat):Int)==0)=a2
  generalize (((m.cm.l:Nat):Int)==0)=a5
  generalize (oneS m.st)=o0
  generalize (oneS m.hd)=o1
  generalize (abvS m.hd m.st)=o2
  generalize (cmdR B m.c)=c0
  cases x0 <;> (try simp only[bsq]) <;> cases x2 <;> (try simp only[bsq]) <;> cases x3 <;> (try simp only[bsq]) <;> cases x5 <;> (try simp only[bsq]) <;> cases x6 <;> (try simp only[bsq]) <;> cases y3 <;> (try simp only[bsq]) <;> cases a1 <;> (try simp only[bsq]) <;> cases a3 <;> (try simp only[bsq]) <;> cases a6 <;> (try simp only[bsq]) <;> cases a4 <;> (try simp only[bsq]) <;> cases a2 <;> (try simp only[bsq]) <;> cases a5 <;> (try simp only[bsq]) <;> cases o0 <;> (try simp only[bsq]) <;> cases o1 <;> (try simp only[bsq]) <;> cases o2 <;> (try simp only[bsq]) <;> cases c0 <;> (try simp only[bsq])
theorem mq14 {B rm bu:Int} {zs:List Int} {m:Mg} {bs:List Int} {es:List En} {ls:List La} {cs:List Cm} (hk:m.k=14) (he:es.length=m.bk.e.l) (hl:ls.length=m.bk.l.l) (hr:0≤rm):msgP B rm bu zs m bs es ls cs=msgR B rm bu zs m bs es ls cs:=by
  have hf:fieldsK 14=[0]:=by decide
  have h0:hasB [0] 0=true:=by decide
  have h1:hasB [0] 1=false:=by decide
  have h2:hasB [0] 2=false:=by decide
  have h3:hasB [0] 3=false:=by decide
  have h4:hasB [0] 4=false:=by decide
  have h5:hasB [0] 5=false:=by decide
  have h6:hasB [0] 6=false:=by decide
  have hon:=one_none m.st
  simp only[msgP,msgR,endsP,keyP,fldsP,haveP,asksR,ansR,btwR,bareR,cntB,hk,Int.reduceBEq,bsq,hf,onl,h0,h1,h2,h3,h4,h5,h6,cmd_eq,held_eq,bkt_eq hr he hl,pos_eq,row_eqs,beq_self_eq_true,eqSz,eqCz,slz]
  generalize (keyR bu m.ky)=x0
  generalize (cliB m.too)=x2
  generalize (srvB zs m.fr)=x3
  generalize (wn m.op 1 1099511627776)=x5
  generalize (wn m.rd 1 1099511627776)=x6
  generalize (m.ky.k==3)=y3
  generalize (eqS m.hd spZ)=a1
  generalize (eqC m.c cZ)=a3
  generalize (m.mo)=a6
  generalize (empK m.bk)=a4
  generalize (((m.bl.l:Nat):Int)==0)=a2
  generalize (((m.cm.l:Nat):Int)==0)=a5
  generalize (oneS m.st)=o0
  cases x0 <;> (try simp only[bsq]) <;> cases x2 <;> (try simp only[bsq]) <;> cases x3 <;> (try simp only[bsq]) <;> cases x5 <;> (try simp only[bsq]) <;> cases x6 <;> (try simp only[bsq]) <;> cases y3 <;> (try simp only[bsq]) <;> cases a1 <;> (try simp only[bsq]) <;> cases a3 <;> (try simp only[bsq]) <;> cases a6 <;> (try simp only[bsq]) <;> cases a4 <;> (try simp only[bsq]) <;> cases a2 <;> (try simp only[bsq]) <;> cases a5 <;> (try simp only[bsq]) <;> cases o0 <;> (try simp only[bsq])
theorem mq15 {B rm bu:Int} {zs:List Int} {m:Mg} {bs:List Int} {es:List En} {ls:List La} {cs:List Cm} (hk:m.k=15) (he:es.length=m.bk.e.l) (hl:ls.length=m.bk.l.l) (hr:0≤rm):msgP B rm bu zs m bs es ls cs=msgR B rm bu zs m bs es ls cs:=by
  have hf:fieldsK 15=[0]:=by decide
  have h0:hasB [0] 0=true:=by decide
  have h1:hasB [0] 1=false:=by decide
  have h2:hasB [0] 2=false:=by decide
  have h3:hasB [0] 3=false:=by decide
  have h4:hasB [0] 4=false:=by decide
  have h5:hasB [0] 5=false:=by decide
  have h6:hasB [0] 6=false:=by decide
  have hon:=one_none m.st
  simp only[msgP,msgR,endsP,keyP,fldsP,haveP,asksR,ansR,btwR,bareR,cntB,hk,Int.reduceBEq,bsq,hf,onl,h0,h1,h2,h3,h4,h5,h6,cmd_eq,held_eq,bkt_eq hr he hl,pos_eq,row_eqs,beq_self_eq_true,eqSz,eqCz,slz]
  generalize (keyR bu m.ky)=x0
  generalize (cliB m.too)=x2
  generalize (srvB zs m.fr)=x3
  generalize (wn m.op 1 1099511627776)=x5
  generalize (wn m.rd 1 1099511627776)=x6
  generalize (m.ky.k==3)=y3
  generalize (eqS m.hd spZ)=a1
  generalize (eqC m.c cZ)=a3
  generalize (m.mo)=a6
  generalize (empK m.bk)=a4
  generalize (((m.bl.l:Nat):Int)==0)=a2
  generalize (((m.cm.l:Nat):Int)==0)=a5
  generalize (oneS m.st)=o0
  cases x0 <;> (try simp only[bsq]) <;> cases x2 <;> (try simp only[bsq]) <;> cases x3 <;> (try simp only[bsq]) <;> cases x5 <;> (try simp only[bsq]) <;> cases x6 <;> (try simp only[bsq]) <;> cases y3 <;> (try simp only[bsq]) <;> cases a1 <;> (try simp only[bsq]) <;> cases a3 <;> (try simp only[bsq]) <;> cases a6 <;> (try simp only[bsq]) <;> cases a4 <;> (try simp only[bsq]) <;> cases a2 <;> (try simp only[bsq]) <;> cases a5 <;> (try simp only[bsq]) <;> cases o0 <;> (try simp only[bsq])
theorem mq16 {B rm bu:Int} {zs:List Int} {m:Mg} {bs:List Int} {es:List En} {ls:List La} {cs:List Cm} (hk:m.k=16) (he:es.length=m.bk.e.l) (hl:ls.length=m.bk.l.l) (hr:0≤rm):msgP B rm bu zs m bs es ls cs=msgR B rm bu zs m bs es ls cs:=by
  have hf:fieldsK 16=[3]:=by decide
  have h0:hasB [3] 0=false:=by decide
  have h1:hasB [3] 1=false:=by decide
  have h2:hasB [3] 2=false:=by decide
  have h3:hasB [3] 3=true:=by decide
  have h4:hasB [3] 4=false:=by decide
  have h5:hasB [3] 5=false:=by decide
  have h6:hasB [3] 6=false:=by decide
  have hon:=one_none m.st
  simp only[msgP,msgR,endsP,keyP,fldsP,haveP,asksR,ansR,btwR,bareR,cntB,hk,Int.reduceBEq,bsq,hf,onl,h0,h1,h2,h3,h4,h5,h6,cmd_eq,held_eq,bkt_eq hr he hl,pos_eq,row_eqs,beq_self_eq_true,eqSz,eqCz,slz]
  generalize (keyR bu m.ky)=x0
  generalize (cliB m.too)=x2
  generalize (srvB zs m.fr)=x3
  generalize (wn m.op 1 1099511627776)=x5
  generalize (wn m.rd 1 1099511627776)=x6
  generalize (m.ky.k==3)=y3
  generalize (eqS m.hd spZ)=a1
  generalize (m.mo)=a6
  generalize (empK m.bk)=a4
  generalize (eqS m.st spZ)=a0
  generalize (((m.bl.l:Nat):Int)==0)=a2
  generalize (((m.cm.l:Nat):Int)==0)=a5
  generalize (cmdR B m.c)=c0
  cases x0 <;> (try simp only[bsq]) <;> cases x2 <;> (try simp only[bsq]) <;> cases x3 <;> (try simp only[bsq]) <;> cases x5 <;> (try simp only[bsq]) <;> cases x6 <;> (try simp only[bsq]) <;> cases y3 <;> (try simp only[bsq]) <;> cases a1 <;> (try simp only[bsq]) <;> cases a6 <;> (try simp only[bsq]) <;> cases a4 <;> (try simp only[bsq]) <;> cases a0 <;> (try simp only[bsq]) <;> cases a2 <;> (try simp only[bsq]) <;> cases a5 <;> (try simp only[bsq]) <;> cases c0 <;> (try simp only[bsq])
theorem mq17 {B rm bu:Int} {zs:List Int} {m:Mg} {bs:List Int} {es:List En} {ls:List La} {cs:List Cm} (hk:m.k=17) (he:es.length=m.bk.e.l) (hl:ls.length=m.bk.l.l) (hr:0≤rm):msgP B rm bu zs m bs es ls cs=msgR B rm bu zs m bs es ls cs:=by
  have hf:fieldsK 17=[4]:=by decide
  have h0:hasB [4] 0=false:=by decide
  have h1:hasB [4] 1=false:=by decide
  have h2:hasB [4] 2=false:=by decide
  have h3:hasB [4] 3=false:=by decide
  have h4:hasB [4] 4=true:=by decide
  have h5:hasB [4] 5=false:=by decide
  have h6:hasB [4] 6=false:=by decide
  have hon:=one_none m.st
  simp only[msgP,msgR,endsP,keyP,fldsP,haveP,asksR,ansR,btwR,bareR,cntB,hk,Int.reduceBEq,bsq,hf,onl,h0,h1,h2,h3,h4,h5,h6,cmd_eq,held_eq,bkt_eq hr he hl,pos_eq,row_eqs,beq_self_eq_true,eqSz,eqCz,slz]
  generalize (keyR bu m.ky)=x0
  generalize (cliB m.too)=x2
  generalize (srvB zs m.fr)=x3
  generalize (wn m.op 1 1099511627776)=x5
  generalize (wn m.rd 1 1099511627776)=x6
  generalize (m.ky.k==3)=y3
  generalize (eqS m.hd spZ)=a1
  generalize (eqC m.c cZ)=a3
  generalize (m.mo)=a6
  generalize (eqS m.st spZ)=a0
  generalize (((m.bl.l:Nat):Int)==0)=a2
  generalize (((m.cm.l:Nat):Int)==0)=a5
  generalize (bktR B rm m.bk es ls)=b1
  generalize (decide (m.ky.b≤m.bk.up))=b2
  cases x0 <;> (try simp only[bsq]) <;> cases x2 <;> (try simp only[bsq]) <;> cases x3 <;> (try simp only[bsq]) <;> cases x5 <;> (try simp only[bsq]) <;> cases x6 <;> (try simp only[bsq]) <;> cases y3 <;> (try simp only[bsq]) <;> cases a1 <;> (try simp only[bsq]) <;> cases a3 <;> (try simp only[bsq]) <;> cases a6 <;> (try simp only[bsq]) <;> cases a0 <;> (try simp only[bsq]) <;> cases a2 <;> (try simp only[bsq]) <;> cases a5 <;> (try simp only[bsq]) <;> cases b1 <;> (try simp only[bsq]) <;> cases b2 <;> (try simp only[bsq])
theorem mq21 {B rm bu:Int} {zs:List Int} {m:Mg} {bs:List Int} {es:List En} {ls:List La} {cs:List Cm} (hk:m.k=21) (he:es.length=m.bk.e.l) (hl:ls.length=m.bk.l.l) (hr:0≤rm):msgP B rm bu zs m bs es ls cs=msgR B rm bu zs m bs es ls cs:=by
  have hf:fieldsK 21=[0]:=by decide
  have h0:hasB [0] 0=true:=by decide
  have h1:hasB [0] 1=false:=by decide
  have h2:hasB [0] 2=false:=by decide
  have h3:hasB [0] 3=false:=by decide
  have h4:hasB [0] 4=false:=by decide
  have h5:hasB [0] 5=false:=by decide
  have h6:hasB [0] 6=false:=by decide
  have hon:=one_none m.st
  simp only[msgP,msgR,endsP,keyP,fldsP,haveP,asksR,ansR,btwR,bareR,cntB,hk,Int.reduceBEq,bsq,hf,onl,h0,h1,h2,h3,h4,h5,h6,cmd_eq,held_eq,bkt_eq hr he hl,pos_eq,row_eqs,beq_self_eq_true,eqSz,eqCz,slz]
  generalize (keyR bu m.ky)=x0
  generalize (srvB zs m.fr)=x3
  generalize (srvB zs m.too)=x4
  generalize (eqA m.fr m.too)=x7
  generalize (m.op==0)=x8
  generalize (m.rd==0)=x9
  generalize (m.ky.k==1)=y1
  generalize (m.ky.k==2)=y2
  generalize (eqS m.hd spZ)=a1
  generalize (eqC m.c cZ)=a3
  generalize (m.mo)=a6
  generalize (empK m.bk)=a4
  generalize (eqS m.st spZ)=a0
  generalize (((m.bl.l:Nat):Int)==0)=a2
  generalize (((m.cm.l:Nat):Int)==0)=a5
  generalize (frmS m.st)=f0
  cases x0 <;> (try simp only[bsq]) <;> cases x3 <;> (try simp only[bsq]) <;> cases x4 <;> (try simp only[bsq]) <;> cases x7 <;> (try simp only[bsq]) <;> cases x8 <;> (try simp only[bsq]) <;> cases x9 <;> (try simp only[bsq]) <;> cases y1 <;> (try simp only[bsq]) <;> cases y2 <;> (try simp only[bsq]) <;> cases a1 <;> (try simp only[bsq]) <;> cases a3 <;> (try simp only[bsq]) <;> cases a6 <;> (try simp only[bsq]) <;> cases a4 <;> (try simp only[bsq]) <;> cases a0 <;> (try simp only[bsq]) <;> cases a2 <;> (try simp only[bsq]) <;> cases a5 <;> (try simp only[bsq]) <;> cases f0 <;> (try simp only[bsq])
theorem mq22 {B rm bu:Int} {zs:List Int} {m:Mg} {bs:List Int} {es:List En} {ls:List La} {cs:List Cm} (hk:m.k=22) (he:es.length=m.bk.e.l) (hl:ls.length=m.bk.l.l) (hr:0≤rm):msgP B rm bu zs m bs es ls cs=msgR B rm bu zs m bs es ls cs:=by
  have hf:fieldsK 22=[0,2,4,5,6]:=by decide
  have h0:hasB [0,2,4,5,6] 0=true:=by decide
  have h1:hasB [0,2,4,5,6] 1=false:=by decide
  have h2:hasB [0,2,4,5,6] 2=true:=by decide
  have h3:hasB [0,2,4,5,6] 3=false:=by decide
  have h4:hasB [0,2,4,5,6] 4=true:=by decide
  have h5:hasB [0,2,4,5,6] 5=true:=by decide
  have h6:hasB [0,2,4,5,6] 6=true:=by decide
  have u0:hasB [] 0=false:=by decide
  have u1:hasB [] 1=false:=by decide
  have u2:hasB [] 2=false:=by decide
  have u3:hasB [] 3=false:=by decide
  have u4:hasB [] 4=false:=by decide
  have u5:hasB [] 5=false:=by decide
  have u6:hasB [] 6=false:=by decide
  have v0:hasB [0,2] 0=true:=by decide
  have v1:hasB [0,2] 1=false:=by decide
  have v2:hasB [0,2] 2=true:=by decide
  have v3:hasB [0,2] 3=false:=by decide
  have v4:hasB [0,2] 4=false:=by decide
  have v5:hasB [0,2] 5=false:=by decide
  have v6:hasB [0,2] 6=false:=by decide
  have s0:hasB [4,6] 0=false:=by decide
  have s1:hasB [4,6] 1=false:=by decide
  have s2:hasB [4,6] 2=false:=by decide
  have s3:hasB [4,6] 3=false:=by decide
  have s4:hasB [4,6] 4=true:=by decide
  have s5:hasB [4,6] 5=false:=by decide
  have s6:hasB [4,6] 6=true:=by decide
  have t0:hasB [0,5,6] 0=true:=by decide
  have t1:hasB [0,5,6] 1=false:=by decide
  have t2:hasB [0,5,6] 2=false:=by decide
  have t3:hasB [0,5,6] 3=false:=by decide
  have t4:hasB [0,5,6] 4=false:=by decide
  have t5:hasB [0,5,6] 5=true:=by decide
  have t6:hasB [0,5,6] 6=true:=by decide
  have hon:=one_none m.st
  simp only[msgP,msgR,endsP,keyP,fldsP,haveP,asksR,ansR,btwR,bareR,cntB,hk,Int.reduceBEq,bsq,hf,onl,h0,h1,h2,h3,h4,h5,h6,u0,u1,u2,u3,u4,u5,u6,v0,v1,v2,v3,v4,v5,v6,s0,s1,s2,s3,s4,s5,s6,t0,t1,t2,t3,t4,t5,t6,cmd_eq,held_eq,bkt_eq hr he hl,pos_eq,row_eqs,beq_self_eq_true,eqSz,eqCz,slz]
  generalize (keyR bu m.ky)=x0
  generalize (srvB zs m.fr)=x3
  generalize (srvB zs m.too)=x4
  generalize (eqA m.fr m.too)=x7
  generalize (m.op==0)=x8
  generalize (m.rd==0)=x9
  generalize (m.ky.k==1)=y1
  generalize (m.ky.k==2)=y2
  generalize (eqS m.hd spZ)=a1
  generalize (eqC m.c cZ)=a3
  generalize (m.mo)=a6
  generalize (empK m.bk)=a4
  generalize (eqS m.st spZ)=a0 at hon ⊢
  generalize (((m.bl.l:Nat):Int)==0)=a2
  generalize (((m.cm.l:Nat):Int)==0)=a5
  generalize (oneS m.st)=o0 at hon ⊢
  generalize (((m.bl.l:Nat):Int)==B)=l0
  generalize (bktR B rm m.bk es ls)=b1
  generalize (frmS m.st)=f0
  generalize (decide (0 < m.bk.up))=f1
  generalize (decide (64 < ((m.cm.l:Nat):Int)))=f2
  generalize (decide (1048577 < m.st.n+((m.cm.l:Nat):Int)))=f3
  generalize (rowR B cs)=f4
  cases x0 <;> (try simp only[bsq]) <;> cases x3 <;> (try simp only[bsq]) <;> cases x4 <;> (try simp only[bsq]) <;> cases x7 <;> (try simp only[bsq]) <;> cases x8 <;> (try simp only[bsq]) <;> cases x9 <;> (try simp only[bsq]) <;> cases y1 <;> (try simp only[bsq]) <;> cases y2 <;> (try simp only[bsq]) <;> cases a1 <;> (try simp only[bsq]) <;> cases a3 <;> (try simp only[bsq]) <;> cases a6 <;> (try simp only[bsq]) <;> cases a4 <;> (try simp only[bsq]) <;> cases a0 <;> (try simp only[bsq]) <;> cases a2 <;> (try simp only[bsq]) <;> cases a5 <;> (try simp only[bsq]) <;> cases o0 <;> (try simp only[bsq]) <;> cases l0 <;> (try simp only[bsq]) <;> cases b1 <;> (try simp only[bsq]) <;> cases f0 <;> (try simp only[bsq]) <;> cases f1 <;> (try simp only[bsq]) <;> cases f2 <;> (try simp only[bsq]) <;> cases f3 <;> (try simp only[bsq]) <;> cases f4 <;> (try simp only[bsq]) <;> (try cases hon)
theorem msg_eq {B rm bu:Int} {zs:List Int} {m:Mg} {bs:List Int} {es:List En} {ls:List La} {cs:List Cm} (he:es.length=m.bk.e.l) (hl:ls.length=m.bk.l.l) (hr:0≤rm):msgP B rm bu zs m bs es ls cs=msgR B rm bu zs m bs es ls cs:=by
  by_cases h:m.k=1∨m.k=2∨m.k=3∨m.k=4∨m.k=5∨m.k=11∨m.k=12∨m.k=13∨m.k=14∨m.k=15∨m.k=16∨m.k=17∨m.k=21∨m.k=22
  · rcases h with h | h | h | h | h | h | h | h | h | h | h | h | h | h
    · exact mq1 h he hl hr
    · exact mq2 h he hl hr
    · exact mq3 h he hl hr
    · exact mq4 h he hl hr
    · exact mq5 h he hl hr
    · exact mq11 h he hl hr
    · exact mq12 h he hl hr
    · exact mq13 h he hl hr
    · exact mq14 h he hl hr
    · exact mq15 h he hl hr
    · exact mq16 h he hl hr
    · exact mq17 h he hl hr
    · exact mq21 h he hl hr
    · exact mq22 h he hl hr
  · have hn:∀ n:Int,(n=1∨n=2∨n=3∨n=4∨n=5∨n=11∨n=12∨n=13∨n=14∨n=15∨n=16∨n=17∨n=21∨n=22)→(m.k==n)=false:=fun n hn=>by rw [beq_eq_false_iff_ne];intro e;apply h;rw [e];exact hn
    have q:∀ n:Int,(n=1∨n=2∨n=3∨n=4∨n=5∨n=11∨n=12∨n=13∨n=14∨n=15∨n=16∨n=17∨n=21∨n=22)→(m.k==n)=false:=hn
    simp only[msgP,msgR,endsP,q 1 (by decide),q 2 (by decide),q 3 (by decide),q 4 (by decide),q 5 (by decide),q 11 (by decide),q 12 (by decide),q 13 (by decide),q 14 (by decide),q 15 (by decide),q 16 (by decide),q 17 (by decide),q 21 (by decide),q 22 (by decide),bsq]
    cases keyR bu m.ky <;> simp only[bsq]
set_option maxRecDepth 100000
set_option maxHeartbeats 4000000
theorem g_Right (k:Ky) (c:Cg) (w:World) (hu:1≤c.bu∧c.bu≤256):Calls Tryz.prog 167 #[.agg (Ky.cells k),.agg (Cg.cells c)] w (fun e w'=>e=.returned (.bool (keyR c.bu k))∧Kept No w w'):=by
  refine hidC fun C HC=>?_;have HU:Hid (1≤c.bu∧c.bu≤256):=hu;clear hu;have HF:Hid (Fq No w w []):=Fq.start _ _;go_enter Tryz.func167,Tryz.ntmps167;go_upto_region 0 with fail;refine Sg<|xB (Ky.cells k) HF fun g1 w2 HF=>xB (Cg.cells c) HF fun g3 w4 HF=>tF<|Nl ?_;simp only[pS];go_upto_region 1 with fail;refine Sg<|tK (pg g1 0)<|lD (.int .i64 k.k) HF 0 0 U3 rfl<|Nl ?_;simp only[pS];go_upto_region 2 with fail;refine Sg<|?_;cases q1:(k.k==1);rotate_left
  ·refine bN (eI q1)<|tU<|Nl ?_;simp only[pS];go_upto_region 3 with fail;refine Sg<|tK (pg g1 1)<|lD (.int .i64 k.a) HF 0 1 U3 rfl<|?_;simp only[pS];cases q10:(wn k.a 1 255)
   ·refine cB (g_within k.a 1 255 _) q10 HF fun w11 HF=>tF<|sK<|sK<|sK<|tF<|tF<|sK<|sK<|sK<|tF<|tF<|Nl ?_;simp only[pS];go_wp2;exact lf C HC HF (by simp only[*,keyR,bsq])
   refine cB (g_within k.a 1 255 _) q10 HF fun w12 HF=>tU<|tK (pg g1 2)<|lD (.int .i64 k.b) HF 0 2 U3 rfl<|?_;simp only[pS];cases q11:(wn k.b 1 1099511627776)
   ·refine cB (g_within k.b 1 1099511627776 _) q11 HF fun w13 HF=>tF<|tF<|sK<|sK<|sK<|tF<|tF<|Nl ?_;simp only[pS];go_wp2;exact lf C HC HF (by simp only[*,keyR,bsq])
   refine cB (g_within k.b 1 1099511627776 _) q11 HF fun w14 HF=>tU<|tU<|tK (pg g1 3)<|lD (.int .i64 k.c) HF 0 3 U3 rfl<|?_;simp only[pS];cases q12:(wn k.c 0 1048575)
   ·refine cB (g_within k.c 0 1048575 _) q12 HF fun w15 HF=>tF<|tF<|Nl ?_;simp only[pS];go_wp2;exact lf C HC HF (by simp only[*,keyR,bsq])
   refine cB (g_within k.c 0 1048575 _) q12 HF fun w16 HF=>tU<|tU<|Nl ?_;simp only[pS];go_wp2;exact lf C HC HF (by simp only[*,keyR,bsq])
  refine bN (eI q1)<|tF<|Nl ?_;simp only[pS];go_upto_region 4 with fail;refine Sg<|?_;cases q2:(k.k==2);rotate_left
  ·refine bN (eI q2)<|tU<|Nl ?_;simp only[pS];go_upto_region 5 with fail;refine Sg<|tK (pg g1 1)<|lD (.int .i64 k.a) HF 0 1 U3 rfl<|tK (pg g3 3)<|lD (.int .i64 c.bu) HF 1 3 U3 rfl<|bN (v:=.int .i64 (c.bu - 1)) (b_subw c.bu 1 (c.bu - 1) (by rw [IntKind.wrap_i64];have:=HU.out;omega))<|?_;simp only[pS];cases q7:(wn k.a 0 (c.bu - 1))
   ·refine cB (g_within k.a 0 (c.bu - 1) _) q7 HF fun w9 HF=>tF<|sK<|sK<|sK<|tF<|tF<|sK<|sK<|sK<|tF<|tF<|Nl ?_;simp only[pS];go_wp2;exact lf C HC HF (by simp only[*,keyR,bsq])
   refine cB (g_within k.a 0 (c.bu - 1) _) q7 HF fun w10 HF=>tU<|tK (pg g1 2)<|lD (.int .i64 k.b) HF 0 2 U3 rfl<|?_;simp only[pS];cases q8:(k.b==0)
   ·refine bN (eI q8)<|tF<|tF<|sK<|sK<|sK<|tF<|tF<|Nl ?_;simp only[pS];go_wp2;exact lf C HC HF (by simp only[*,keyR,bsq])
   refine bN (eI q8)<|tU<|tU<|tK (pg g1 3)<|lD (.int .i64 k.c) HF 0 3 U3 rfl<|?_;simp only[pS];cases q9:(k.c==0)
   ·refine bN (eI q9)<|tF<|tF<|Nl ?_;simp only[pS];go_wp2;exact lf C HC HF (by simp only[*,keyR,bsq])
   refine bN (eI q9)<|tU<|tU<|Nl ?_;simp only[pS];go_wp2;exact lf C HC HF (by simp only[*,keyR,bsq])
  refine bN (eI q2)<|tF<|Nl ?_;simp only[pS];go_upto_region 6 with fail;refine Sg<|?_;cases q3:(k.k==3)
  ·refine bN (eI q3)<|tF<|Nl ?_;simp only[pS];go_upto_region 8 with fail;refine Sg<|tF<|Nl ?_;simp only[pS];go_wp2;exact lf C HC HF (by simp only[*,keyR,bsq])
  refine bN (eI q3)<|tU<|Nl ?_;simp only[pS];go_upto_region 7 with fail;refine Sg<|tK (pg g1 1)<|lD (.int .i64 k.a) HF 0 1 U3 rfl<|tK (pg g3 3)<|lD (.int .i64 c.bu) HF 1 3 U3 rfl<|bN (v:=.int .i64 (c.bu - 1)) (b_subw c.bu 1 (c.bu - 1) (by rw [IntKind.wrap_i64];have:=HU.out;omega))<|?_;simp only[pS];cases q4:(wn k.a 0 (c.bu - 1))
  ·refine cB (g_within k.a 0 (c.bu - 1) _) q4 HF fun w5 HF=>tF<|sK<|sK<|sK<|tF<|tF<|sK<|sK<|sK<|tF<|tF<|Nl ?_;simp only[pS];go_wp2;exact lf C HC HF (by simp only[*,keyR,bsq])
  refine cB (g_within k.a 0 (c.bu - 1) _) q4 HF fun w6 HF=>tU<|tK (pg g1 2)<|lD (.int .i64 k.b) HF 0 2 U3 rfl<|?_;simp only[pS];cases q5:(wn k.b 1 1048576)
  ·refine cB (g_within k.b 1 1048576 _) q5 HF fun w7 HF=>tF<|tF<|sK<|sK<|sK<|tF<|tF<|Nl ?_;simp only[pS];go_wp2;exact lf C HC HF (by simp only[*,keyR,bsq])
  refine cB (g_within k.b 1 1048576 _) q5 HF fun w8 HF=>tU<|tU<|tK (pg g1 3)<|lD (.int .i64 k.c) HF 0 3 U3 rfl<|?_;simp only[pS];cases q6:(k.c==0)
  ·refine bN (eI q6)<|tF<|tF<|Nl ?_;simp only[pS];go_wp2;exact lf C HC HF (by simp only[*,keyR,bsq])
  refine bN (eI q6)<|tU<|tU<|Nl ?_;simp only[pS];go_wp2;exact lf C HC HF (by simp only[*,keyR,bsq])
theorem q_Right (k:Ky) (c:Cg) (w:World) (hu:1≤c.bu∧c.bu≤256):Calls Tryz.prog 92 #[.agg (Ky.cells k),.agg (Cg.cells c)] w (fun e w'=>e=.returned (.bool (keyR c.bu k))∧Kept No w w'):=by
  refine hidC fun C HC=>?_;have HU:Hid (1≤c.bu∧c.bu≤256):=hu;clear hu;have HF:Hid (Fq No w w []):=Fq.start _ _;go_enter Tryz.func92,Tryz.ntmps92;go_upto_region 0 with fail;refine Sg<|xB (Ky.cells k) HF fun g1 w2 HF=>xB (Cg.cells c) HF fun g3 w4 HF=>tF<|Nl ?_;simp only[pS];go_upto_region 1 with fail;refine Sg<|tK (pg g1 0)<|lD (.int .i64 k.k) HF 0 0 U3 rfl<|Nl ?_;simp only[pS];go_upto_region 2 with fail;refine Sg<|?_;cases q1:(k.k==1);rotate_left
  ·refine bN (eI q1)<|tU<|Nl ?_;simp only[pS];go_upto_region 3 with fail;refine Sg<|tK (pg g1 1)<|lD (.int .i64 k.a) HF 0 1 U3 rfl<|?_;simp only[pS];cases q10:(wn k.a 1 255)
   ·refine cB (q_within k.a 1 255 _) q10 HF fun w11 HF=>tF<|sK<|sK<|sK<|tF<|tF<|sK<|sK<|sK<|tF<|tF<|Nl ?_;simp only[pS];go_wp2;exact lf C HC HF (by simp only[*,keyR,bsq])
   refine cB (q_within k.a 1 255 _) q10 HF fun w12 HF=>tU<|tK (pg g1 2)<|lD (.int .i64 k.b) HF 0 2 U3 rfl<|?_;simp only[pS];cases q11:(wn k.b 1 1099511627776)
   ·refine cB (q_within k.b 1 1099511627776 _) q11 HF fun w13 HF=>tF<|tF<|sK<|sK<|sK<|tF<|tF<|Nl ?_;simp only[pS];go_wp2;exact lf C HC HF (by simp only[*,keyR,bsq])
   refine cB (q_within k.b 1 1099511627776 _) q11 HF fun w14 HF=>tU<|tU<|tK (pg g1 3)<|lD (.int .i64 k.c) HF 0 3 U3 rfl<|?_;simp only[pS];cases q12:(wn k.c 0 1048575)
   ·refine cB (q_within k.c 0 1048575 _) q12 HF fun w15 HF=>tF<|tF<|Nl ?_;simp only[pS];go_wp2;exact lf C HC HF (by simp only[*,keyR,bsq])
   refine cB (q_within k.c 0 1048575 _) q12 HF fun w16 HF=>tU<|tU<|Nl ?_;simp only[pS];go_wp2;exact lf C HC HF (by simp only[*,keyR,bsq])
  refine bN (eI q1)<|tF<|Nl ?_;simp only[pS];go_upto_region 4 with fail;refine Sg<|?_;cases q2:(k.k==2);rotate_left
  ·refine bN (eI q2)<|tU<|Nl ?_;simp only[pS];go_upto_region 5 with fail;refine Sg<|tK (pg g1 1)<|lD (.int .i64 k.a) HF 0 1 U3 rfl<|tK (pg g3 3)<|lD (.int .i64 c.bu) HF 1 3 U3 rfl<|bN (v:=.int .i64 (c.bu - 1)) (b_subw c.bu 1 (c.bu - 1) (by rw [IntKind.wrap_i64];have:=HU.out;omega))<|?_;simp only[pS];cases q7:(wn k.a 0 (c.bu - 1))
   ·refine cB (q_within k.a 0 (c.bu - 1) _) q7 HF fun w9 HF=>tF<|sK<|sK<|sK<|tF<|tF<|sK<|sK<|sK<|tF<|tF<|Nl ?_;simp only[pS];go_wp2;exact lf C HC HF (by simp only[*,keyR,bsq])
   refine cB (q_within k.a 0 (c.bu - 1) _) q7 HF fun w10 HF=>tU<|tK (pg g1 2)<|lD (.int .i64 k.b) HF 0 2 U3 rfl<|?_;simp only[pS];cases q8:(k.b==0)
   ·refine bN (eI q8)<|tF<|tF<|sK<|sK<|sK<|tF<|tF<|Nl ?_;simp only[pS];go_wp2;exact lf C HC HF (by simp only[*,keyR,bsq])
   refine bN (eI q8)<|tU<|tU<|tK (pg g1 3)<|lD (.int .i64 k.c) HF 0 3 U3 rfl<|?_;simp only[pS];cases q9:(k.c==0)
   ·refine bN (eI q9)<|tF<|tF<|Nl ?_;simp only[pS];go_wp2;exact lf C HC HF (by simp only[*,keyR,bsq])
   refine bN (eI q9)<|tU<|tU<|Nl ?_;simp only[pS];go_wp2;exact lf C HC HF (by simp only[*,keyR,bsq])
  refine bN (eI q2)<|tF<|Nl ?_;simp only[pS];go_upto_region 6 with fail;refine Sg<|?_;cases q3:(k.k==3)
  ·refine bN (eI q3)<|tF<|Nl ?_;simp only[pS];go_upto_region 8 with fail;refine Sg<|tF<|Nl ?_;simp only[pS];go_wp2;exact lf C HC HF (by simp only[*,keyR,bsq])
  refine bN (eI q3)<|tU<|Nl ?_;simp only[pS];go_upto_region 7 with fail;refine Sg<|tK (pg g1 1)<|lD (.int .i64 k.a) HF 0 1 U3 rfl<|tK (pg g3 3)<|lD (.int .i64 c.bu) HF 1 3 U3 rfl<|bN (v:=.int .i64 (c.bu - 1)) (b_subw c.bu 1 (c.bu - 1) (by rw [IntKind.wrap_i64];have:=HU.out;omega))<|?_;simp only[pS];cases q4:(wn k.a 0 (c.bu - 1))
  ·refine cB (q_within k.a 0 (c.bu - 1) _) q4 HF fun w5 HF=>tF<|sK<|sK<|sK<|tF<|tF<|sK<|sK<|sK<|tF<|tF<|Nl ?_;simp only[pS];go_wp2;exact lf C HC HF (by simp only[*,keyR,bsq])
  refine cB (q_within k.a 0 (c.bu - 1) _) q4 HF fun w6 HF=>tU<|tK (pg g1 2)<|lD (.int .i64 k.b) HF 0 2 U3 rfl<|?_;simp only[pS];cases q5:(wn k.b 1 1048576)
  ·refine cB (q_within k.b 1 1048576 _) q5 HF fun w7 HF=>tF<|tF<|sK<|sK<|sK<|tF<|tF<|Nl ?_;simp only[pS];go_wp2;exact lf C HC HF (by simp only[*,keyR,bsq])
  refine cB (q_within k.b 1 1048576 _) q5 HF fun w8 HF=>tU<|tU<|tK (pg g1 3)<|lD (.int .i64 k.c) HF 0 3 U3 rfl<|?_;simp only[pS];cases q6:(k.c==0)
  ·refine bN (eI q6)<|tF<|tF<|Nl ?_;simp only[pS];go_wp2;exact lf C HC HF (by simp only[*,keyR,bsq])
  refine bN (eI q6)<|tU<|tU<|Nl ?_;simp only[pS];go_wp2;exact lf C HC HF (by simp only[*,keyR,bsq])
theorem p_IndexF (x:Sl) (zs:List Int) (n:Int) (w:World) (hz:RdI w x zs) (hn:x.l≤281474976710656):Calls Tryz.prog 215 #[x.v,.int .i64 n] w (fun e w'=>e=.returned (.int .i64 (ixI zs n))∧Kept No w w'):=by
  refine hidC fun C HC=>?_;have HZ:Hid (RdI w x zs):=hz;clear hz;have HF:Hid (Fq No w w []):=Fq.start _ _;go_enter Tryz.func215,Tryz.ntmps215;go_upto_region 0 with fail;refine Sg<|tK (.int .i64 0)<|Nl ?_;simp only[pS];go_upto_region 1 with fail;refine Sg<|tK (x.v)<|tK (.int .i64 ((x.l:Nat):Int))<|tK (.int .i64 0)<|Nl ?_;simp only[pS];go_wp2
  go_loopw [8] (fun v8 wr=>∃ i:Nat,v8=.int .i64 ((i:Nat):Int)∧i≤x.l∧Hid (∀ j,j < i→(n==zs[j]?.getD 0)=false)∧Hid (Fq No w wr [])) (fun v8 _=>x.l - (intOf v8).toNat)
  case atStart=>exact ⟨0,by go_num,by omega,fun j hj=>absurd hj (Nat.not_lt_zero _),HF⟩
  case round=>
    clear HF;obtain ⟨i,rfl,hi,HP,HF⟩:=hrel
    by_cases hlt:i < x.l
    ·obtain ⟨b,off,hsl,hc⟩:=RdI.at HZ.out (i:=i) (by omega);go_upto_region 2 with fail;refine Sg<|bN (lI (a:=((i:Nat):Int)) (b:=((x.l:Nat):Int)) (decide_eq_true (by omega)))<|Nl ?_;simp only[pS];go_upto_region 3 with fail;refine Sg<|tK (.int .i64 ((i:Nat):Int))<|tK (.int .i64 ((i:Nat):Int))<|Nl ?_;simp only[pS];go_upto_region 4 with fail;refine Sg<|tK (.int .i64 n)<|tK (x.v)<|tK (.int .i64 ((i:Nat):Int))<|iS (s:=x) (i:=i) hsl E141 F141 (by omega)<|lR (load_one (HF.out.kept.cell hc (fun e=>e)) U164 rfl)<|?_;simp only[pS];cases q1:(n==(zs[i]?.getD 0));rotate_left
     ·refine bN (eIF q1)<|Nl ?_;simp only[pS];go_upto_region 5 with fail;refine Sg<|tK (.int .i64 ((i:Nat):Int))<|tK (.int .i64 ((i:Nat):Int))<|Nl ?_;simp only[pS];go_wp2;rw [HC.out];exact ⟨by rw [ixI_at (by rw [HZ.out.len];exact hlt) q1 HP.out];rfl,HF.out.kept⟩
     refine bN (eIF q1)<|Nl ?_;simp only[pS];go_upto_region 6 with fail;refine Sg<|bN (v:=.int .i64 (((i+1):Nat):Int)) (b_addw ((i:Nat):Int) 1 (((i+1):Nat):Int) (by rw [IntKind.wrap_i64];omega))<|tK (.int .i64 (((i+1):Nat):Int))<|Nl ?_;simp only[pS];go_wp2;go_roundw
     case rel=>exact ⟨i+1,by go_num,by omega,up_j HP.out q1,HF⟩
     case measure=>simp [intOf];omega
    ·go_upto_region 2 with fail;refine Sg<|bN (lI (a:=((i:Nat):Int)) (b:=((x.l:Nat):Int)) (decide_eq_false (by omega)))<|Nl ?_;simp only[pS];go_upto_region 7 with fail;refine Sg<|tK (.int .i64 (-1))<|Nl ?_;simp only[pS];go_wp2;rw [HC.out];exact ⟨by rw [ixI_no (fun j hj=>HP.out j (by rw [HZ.out.len] at hj;omega))];rfl,HF.out.kept⟩
theorem p_ContainsF (x:Sl) (zs:List Int) (n:Int) (w:World) (hz:RdI w x zs) (hn:x.l≤281474976710656):Calls Tryz.prog 169 #[x.v,.int .i64 n] w (fun e w'=>e=.returned (.bool (hasB zs n))∧Kept No w w'):=by
  refine hidC fun C HC=>?_;have HZ:Hid (RdI w x zs):=hz;clear hz;have HF:Hid (Fq No w w []):=Fq.start _ _;go_enter Tryz.func169,Tryz.ntmps169;go_upto_region 0 with fail;refine Sg<|tF<|Nl ?_;simp only[pS];go_upto_region 1 with fail;refine Sg<|tK (x.v)<|tK (.int .i64 n)<|cV (p_IndexF x zs n _ (HZ.out.no HF.out.kept) hn) HF fun w1 HF=>?_;simp only[pS];cases q1:(decide (0≤(ixI zs n)))
  ·refine bN (geI q1)<|tF<|Nl ?_;simp only[pS];go_wp2;rw [HC.out];exact ⟨ret_bool (by rw [← ix_has,q1]),HF.out.kept⟩
  refine bN (geI q1)<|tU<|Nl ?_;simp only[pS];go_wp2;rw [HC.out];exact ⟨ret_bool (by rw [← ix_has,q1]),HF.out.kept⟩
theorem p_empty (m:Mg) (f:Int) (w:World):Calls Tryz.prog 168 #[.agg (Mg.cells m),.int .i64 f] w (fun e w'=>e=.returned (.bool (emptyF m f))∧Kept No w w'):=by
  refine hidC fun C HC=>?_;have HF:Hid (Fq No w w []):=Fq.start _ _;go_enter Tryz.func168,Tryz.ntmps168;go_upto_region 0 with fail;refine Sg<|xB (Mg.cells m) HF fun g1 w2 HF=>tF<|Nl ?_;simp only[pS];go_upto_region 1 with fail;refine Sg<|tK (.int .i64 f)<|Nl ?_;simp only[pS];go_upto_region 2 with fail;refine Sg<|?_;cases q1:(f==0);rotate_left
  ·refine bN (eIF q1)<|tU<|Nl ?_;simp only[pS];go_upto_region 3 with fail;refine Sg<|tK (pg g1 11)<|lP (Sp.cs m.st) HF 0 11 U34 S34 (Mg.cs m) rfl<|?_;simp only[pS];cases q13:(eqS m.st spZ)
   ·refine cB (p_isNone m.st _) q13 HF fun w7 HF=>tF<|Nl ?_;simp only[pS];go_wp2;exact lf C HC HF (by simp only[*,emptyF,bsq])
   refine cB (p_isNone m.st _) q13 HF fun w8 HF=>tU<|Nl ?_;simp only[pS];go_wp2;exact lf C HC HF (by simp only[*,emptyF,bsq])
  refine bN (eIF q1)<|tF<|Nl ?_;simp only[pS];go_upto_region 4 with fail;refine Sg<|?_;cases q2:(f==1);rotate_left
  ·refine bN (eIF q2)<|tU<|Nl ?_;simp only[pS];go_upto_region 5 with fail;refine Sg<|tK (pg g1 13)<|lP (Sp.cs m.hd) HF 0 13 U34 S34 (Mg.cs m) rfl<|?_;simp only[pS];cases q12:(eqS m.hd spZ)
   ·refine cB (p_isNone m.hd _) q12 HF fun w5 HF=>tF<|Nl ?_;simp only[pS];go_wp2;exact lf C HC HF (by simp only[*,emptyF,bsq])
   refine cB (p_isNone m.hd _) q12 HF fun w6 HF=>tU<|Nl ?_;simp only[pS];go_wp2;exact lf C HC HF (by simp only[*,emptyF,bsq])
  refine bN (eIF q2)<|tF<|Nl ?_;simp only[pS];go_upto_region 6 with fail;refine Sg<|?_;cases q3:(f==2);rotate_left
  ·refine bN (eIF q3)<|tU<|Nl ?_;simp only[pS];go_upto_region 7 with fail;refine Sg<|tK (pg g1 15)<|lD (m.bl.v) HF 0 15 U35 rfl<|tK (.int .i64 ((m.bl.l:Nat):Int))<|?_;simp only[pS];cases q11:(((m.bl.l:Nat):Int)==0)
   ·refine bN (eI q11)<|tF<|Nl ?_;simp only[pS];go_wp2;exact lf C HC HF (by simp only[*,emptyF,bsq])
   refine bN (eI q11)<|tU<|Nl ?_;simp only[pS];go_wp2;exact lf C HC HF (by simp only[*,emptyF,bsq])
  refine bN (eIF q3)<|tF<|Nl ?_;simp only[pS];go_upto_region 8 with fail;refine Sg<|?_;cases q4:(f==3);rotate_left
  ·refine bN (eIF q4)<|tU<|Nl ?_;simp only[pS];go_upto_region 9 with fail;refine Sg<|tK (pg g1 16)<|lP (Cm.cs m.c) HF 0 16 U39 S39 (Mg.cs m) rfl<|bD (Cm.cells cZ)<|?_;simp only[pS];cases q10:(eqC m.c cZ)
   ·refine bN (qeC q10)<|tF<|Nl ?_;simp only[pS];go_wp2;exact lf C HC HF (by simp only[*,emptyF,bsq])
   refine bN (qeC q10)<|tU<|Nl ?_;simp only[pS];go_wp2;exact lf C HC HF (by simp only[*,emptyF,bsq])
  refine bN (eIF q4)<|tF<|Nl ?_;simp only[pS];go_upto_region 10 with fail;refine Sg<|?_;cases q5:(f==4);rotate_left
  ·refine bN (eIF q5)<|tU<|Nl ?_;simp only[pS];go_upto_region 11 with fail;refine Sg<|tK (pg g1 25)<|lP (Bv.cs m.bk) HF 0 25 U43 S43 (Mg.cs m) rfl<|?_;simp only[pS];cases q9:(empK m.bk)
   ·refine cB (p_emptyBucket m.bk _) q9 HF fun w3 HF=>tF<|Nl ?_;simp only[pS];go_wp2;exact lf C HC HF (by simp only[*,emptyF,bsq])
   refine cB (p_emptyBucket m.bk _) q9 HF fun w4 HF=>tU<|Nl ?_;simp only[pS];go_wp2;exact lf C HC HF (by simp only[*,emptyF,bsq])
  refine bN (eIF q5)<|tF<|Nl ?_;simp only[pS];go_upto_region 12 with fail;refine Sg<|?_;cases q6:(f==5)
  ·refine bN (eIF q6)<|tF<|Nl ?_;simp only[pS];go_upto_region 14 with fail;refine Sg<|tK (pg g1 29)<|lD (.bool m.mo) HF 0 29 U4 rfl<|?_;simp only[pS];cases q7:(m.mo)
   ·refine tU<|tU<|Nl ?_;simp only[pS];go_wp2;exact lf C HC HF (by simp only[*,emptyF,bsq])
   refine tF<|tF<|Nl ?_;simp only[pS];go_wp2;exact lf C HC HF (by simp only[*,emptyF,bsq])
  refine bN (eIF q6)<|tU<|Nl ?_;simp only[pS];go_upto_region 13 with fail;refine Sg<|tK (pg g1 28)<|lD (m.cm.v) HF 0 28 U26 rfl<|tK (.int .i64 ((m.cm.l:Nat):Int))<|?_;simp only[pS];cases q8:(((m.cm.l:Nat):Int)==0)
  ·refine bN (eI q8)<|tF<|Nl ?_;simp only[pS];go_wp2;exact lf C HC HF (by simp only[*,emptyF,bsq])
  refine bN (eI q8)<|tU<|Nl ?_;simp only[pS];go_wp2;exact lf C HC HF (by simp only[*,emptyF,bsq])
theorem p_only (m:Mg) (x:Sl) (zs:List Int) (w:World) (hz:RdI w x zs) (hn:x.l≤281474976710656):Calls Tryz.prog 88 #[.agg (Mg.cells m),x.v] w (fun e w'=>e=.returned (.bool (onlyP m zs))∧Kept No w w'):=by
  refine hidC fun C HC=>?_;have HZ:Hid (RdI w x zs):=hz;clear hz;have HF:Hid (Fq No w w []):=Fq.start _ _;go_enter Tryz.func88,Tryz.ntmps88;go_upto_region 0 with fail;refine Sg<|xB (Mg.cells m) HF fun g1 w2 HF=>tF<|Nl ?_;simp only[pS];go_upto_region 1 with fail;refine Sg<|tK (.int .i64 0)<|Nl ?_;simp only[pS];go_wp2
  go_loopw [6] (fun v6 wr=>∃ i:Nat,v6=.int .i64 ((i:Nat):Int)∧i≤7∧Hid (∀ j,j < i→(emptyF m ((j:Nat):Int)||hasB zs ((j:Nat):Int))=true)∧Hid (Fq No w wr [(g1,45,Mg.cells m)])) (fun v6 _=>7 - (intOf v6).toNat)
  case atStart=>exact ⟨0,by go_num,by omega,fun j hj=>absurd hj (Nat.not_lt_zero _),HF⟩
  case round=>
    clear HF;obtain ⟨i,rfl,hi,HP,HF⟩:=hrel
    by_cases hlt:i < 7
    ·go_upto_region 2 with fail;refine Sg<|bN (lIF (a:=((i:Nat):Int)) (b:=7) (decide_eq_true (by omega)))<|Nl ?_;simp only[pS];go_upto_region 3 with fail;refine Sg<|tK (.int .i64 ((i:Nat):Int))<|tK (.int .i64 ((i:Nat):Int))<|Nl ?_;simp only[pS];go_upto_region 4 with fail;refine Sg<|lP (Mg.cs m) HF 0 0 U45 S45 (Mg.cs m) rfl<|tK (.int .i64 ((i:Nat):Int))<|?_;simp only[pS];cases q1:(emptyF m ((i:Nat):Int));rotate_left
     ·refine cB (p_empty m ((i:Nat):Int) _) q1 HF fun w6 HF=>tF<|tF<|sK<|sK<|sK<|sK<|tF<|Nl ?_;simp only[pS];go_upto_region 6 with fail;refine Sg<|bN (v:=.int .i64 (((i+1):Nat):Int)) (b_addF ((i:Nat):Int) 1 (((i+1):Nat):Int) (by rw [IntKind.wrap_i64];omega))<|tK (.int .i64 (((i+1):Nat):Int))<|Nl ?_;simp only[pS];go_wp2;go_roundw
      case rel=>exact ⟨i+1,by go_num,by omega,up_j (P:=fun j=>(emptyF m ((j:Nat):Int)||hasB zs ((j:Nat):Int))=true) HP.out (by simp only[bsq,q1]),HF⟩
      case measure=>simp [intOf];omega
     refine cB (p_empty m ((i:Nat):Int) _) q1 HF fun w3 HF=>tU<|tU<|tK (x.v)<|tK (.int .i64 ((i:Nat):Int))<|?_;simp only[pS];cases q2:(hasB zs ((i:Nat):Int))
     ·refine cB (p_ContainsF x zs ((i:Nat):Int) _ (HZ.out.no HF.out.kept) hn) q2 HF fun w4 HF=>tU<|tU<|Nl ?_;simp only[pS];go_upto_region 5 with fail;refine Sg<|tF<|Nl ?_;simp only[pS];go_wp2;rw [HC.out];exact ⟨ret_bool (by rw [show onlyP m zs=false from rng_f (i:=i) hlt (by simp only[bsq,q1,q2])]),HF.out.kept⟩
     refine cB (p_ContainsF x zs ((i:Nat):Int) _ (HZ.out.no HF.out.kept) hn) q2 HF fun w5 HF=>tF<|tF<|Nl ?_;simp only[pS];go_upto_region 6 with fail;refine Sg<|bN (v:=.int .i64 (((i+1):Nat):Int)) (b_addF ((i:Nat):Int) 1 (((i+1):Nat):Int) (by rw [IntKind.wrap_i64];omega))<|tK (.int .i64 (((i+1):Nat):Int))<|Nl ?_;simp only[pS];go_wp2;go_roundw
     case rel=>exact ⟨i+1,by go_num,by omega,up_j (P:=fun j=>(emptyF m ((j:Nat):Int)||hasB zs ((j:Nat):Int))=true) HP.out (by simp only[bsq,q1,q2]),HF⟩
     case measure=>simp [intOf];omega
    ·go_upto_region 2 with fail;refine Sg<|bN (lIF (a:=((i:Nat):Int)) (b:=7) (decide_eq_false (by omega)))<|Nl ?_;simp only[pS];go_upto_region 7 with fail;refine Sg<|tU<|Nl ?_;simp only[pS];go_wp2;rw [HC.out];exact ⟨ret_bool (by rw [show onlyP m zs=true from rng_t (fun j hj=>HP.out j (by omega))]),HF.out.kept⟩
theorem p_fieldsOf (k:Int) (w:World):Calls Tryz.prog 89 #[.int .i64 k] w (SlO w (fieldsK k)):=by
  refine hidC fun C HC=>?_;have HF:Hid (Fq No w w []):=Fq.start _ _;go_enter Tryz.func89,Tryz.ntmps89;go_upto_region 0 with fail;refine Sg<|tK (.slice none 0 0)<|Nl ?_;simp only[pS];go_upto_region 1 with fail;refine Sg<|tK (.int .i64 k)<|Nl ?_;simp only[pS];go_upto_region 2 with fail;refine Sg<|?_;cases q1:(k==2);rotate_left
  ·refine bN (eI q1)<|tU<|Nl ?_;simp only[pS];go_upto_region 4 with fail;refine Sg<|bS ([0,2]:List Int) HF fun g23 w24 HF=>tK (.slice (some ⟨g23,0,none⟩) 2 2)<|Nl ?_;simp only[pS];have hz:fieldsK k=[0,2]:=by
     unfold fieldsK;have e0:=eq_of_beq q1
     simp [*]
   go_wp2;rw [HC.out,hz];exact ⟨⟨⟨some ⟨g23,0,none⟩,2,2⟩,rfl,HF.out.kept,RdI.box (zs:=[0,2]) (HF.out.box 0 _ _ _ rfl),by show 2≤8;omega⟩⟩
  refine bN (eI q1)<|tF<|Nl ?_;simp only[pS];go_upto_region 3 with fail;refine Sg<|?_;cases q2:(k==11);rotate_left
  ·refine bN (eI q2)<|tU<|Nl ?_;simp only[pS];go_upto_region 4 with fail;refine Sg<|bS ([0,2]:List Int) HF fun g21 w22 HF=>tK (.slice (some ⟨g21,0,none⟩) 2 2)<|Nl ?_;simp only[pS];have hz:fieldsK k=[0,2]:=by
     unfold fieldsK;have e0:=ne_of_beq_false q1;have e1:=eq_of_beq q2
     simp [*]
   go_wp2;rw [HC.out,hz];exact ⟨⟨⟨some ⟨g21,0,none⟩,2,2⟩,rfl,HF.out.kept,RdI.box (zs:=[0,2]) (HF.out.box 0 _ _ _ rfl),by show 2≤8;omega⟩⟩
  refine bN (eI q2)<|tF<|Nl ?_;simp only[pS];go_upto_region 5 with fail;refine Sg<|?_;cases q3:(k==3);rotate_left
  ·refine bN (eI q3)<|tU<|Nl ?_;simp only[pS];go_upto_region 9 with fail;refine Sg<|bS ([0]:List Int) HF fun g19 w20 HF=>tK (.slice (some ⟨g19,0,none⟩) 1 1)<|Nl ?_;simp only[pS];have hz:fieldsK k=[0]:=by
     unfold fieldsK;have e0:=ne_of_beq_false q1;have e1:=ne_of_beq_false q2;have e2:=eq_of_beq q3
     simp [*]
   go_wp2;rw [HC.out,hz];exact ⟨⟨⟨some ⟨g19,0,none⟩,1,1⟩,rfl,HF.out.kept,RdI.box (zs:=[0]) (HF.out.box 0 _ _ _ rfl),by show 1≤8;omega⟩⟩
  refine bN (eI q3)<|tF<|Nl ?_;simp only[pS];go_upto_region 6 with fail;refine Sg<|?_;cases q4:(k==14);rotate_left
  ·refine bN (eI q4)<|tU<|Nl ?_;simp only[pS];go_upto_region 9 with fail;refine Sg<|bS ([0]:List Int) HF fun g17 w18 HF=>tK (.slice (some ⟨g17,0,none⟩) 1 1)<|Nl ?_;simp only[pS];have hz:fieldsK k=[0]:=by
     unfold fieldsK;have e0:=ne_of_beq_false q1;have e1:=ne_of_beq_false q2;have e2:=ne_of_beq_false q3;have e3:=eq_of_beq q4
     simp [*]
   go_wp2;rw [HC.out,hz];exact ⟨⟨⟨some ⟨g17,0,none⟩,1,1⟩,rfl,HF.out.kept,RdI.box (zs:=[0]) (HF.out.box 0 _ _ _ rfl),by show 1≤8;omega⟩⟩
  refine bN (eI q4)<|tF<|Nl ?_;simp only[pS];go_upto_region 7 with fail;refine Sg<|?_;cases q5:(k==15);rotate_left
  ·refine bN (eI q5)<|tU<|Nl ?_;simp only[pS];go_upto_region 9 with fail;refine Sg<|bS ([0]:List Int) HF fun g15 w16 HF=>tK (.slice (some ⟨g15,0,none⟩) 1 1)<|Nl ?_;simp only[pS];have hz:fieldsK k=[0]:=by
     unfold fieldsK;have e0:=ne_of_beq_false q1;have e1:=ne_of_beq_false q2;have e2:=ne_of_beq_false q3;have e3:=ne_of_beq_false q4;have e4:=eq_of_beq q5
     simp [*]
   go_wp2;rw [HC.out,hz];exact ⟨⟨⟨some ⟨g15,0,none⟩,1,1⟩,rfl,HF.out.kept,RdI.box (zs:=[0]) (HF.out.box 0 _ _ _ rfl),by show 1≤8;omega⟩⟩
  refine bN (eI q5)<|tF<|Nl ?_;simp only[pS];go_upto_region 8 with fail;refine Sg<|?_;cases q6:(k==21);rotate_left
  ·refine bN (eI q6)<|tU<|Nl ?_;simp only[pS];go_upto_region 9 with fail;refine Sg<|bS ([0]:List Int) HF fun g13 w14 HF=>tK (.slice (some ⟨g13,0,none⟩) 1 1)<|Nl ?_;simp only[pS];have hz:fieldsK k=[0]:=by
     unfold fieldsK;have e0:=ne_of_beq_false q1;have e1:=ne_of_beq_false q2;have e2:=ne_of_beq_false q3;have e3:=ne_of_beq_false q4;have e4:=ne_of_beq_false q5;have e5:=eq_of_beq q6
     simp [*]
   go_wp2;rw [HC.out,hz];exact ⟨⟨⟨some ⟨g13,0,none⟩,1,1⟩,rfl,HF.out.kept,RdI.box (zs:=[0]) (HF.out.box 0 _ _ _ rfl),by show 1≤8;omega⟩⟩
  refine bN (eI q6)<|tF<|Nl ?_;simp only[pS];go_upto_region 10 with fail;refine Sg<|?_;cases q7:(k==4);rotate_left
  ·refine bN (eI q7)<|tU<|Nl ?_;simp only[pS];go_upto_region 11 with fail;refine Sg<|bS ([0,3]:List Int) HF fun g11 w12 HF=>tK (.slice (some ⟨g11,0,none⟩) 2 2)<|Nl ?_;simp only[pS];have hz:fieldsK k=[0,3]:=by
     unfold fieldsK;have e0:=ne_of_beq_false q1;have e1:=ne_of_beq_false q2;have e2:=ne_of_beq_false q3;have e3:=ne_of_beq_false q4;have e4:=ne_of_beq_false q5;have e5:=ne_of_beq_false q6;have e6:=eq_of_beq q7
     simp [*]
   go_wp2;rw [HC.out,hz];exact ⟨⟨⟨some ⟨g11,0,none⟩,2,2⟩,rfl,HF.out.kept,RdI.box (zs:=[0,3]) (HF.out.box 0 _ _ _ rfl),by show 2≤8;omega⟩⟩
  refine bN (eI q7)<|tF<|Nl ?_;simp only[pS];go_upto_region 12 with fail;refine Sg<|?_;cases q8:(k==5);rotate_left
  ·refine bN (eI q8)<|tU<|Nl ?_;simp only[pS];go_upto_region 14 with fail;refine Sg<|bS ([3]:List Int) HF fun g9 w10 HF=>tK (.slice (some ⟨g9,0,none⟩) 1 1)<|Nl ?_;simp only[pS];have hz:fieldsK k=[3]:=by
     unfold fieldsK;have e0:=ne_of_beq_false q1;have e1:=ne_of_beq_false q2;have e2:=ne_of_beq_false q3;have e3:=ne_of_beq_false q4;have e4:=ne_of_beq_false q5;have e5:=ne_of_beq_false q6;have e6:=ne_of_beq_false q7;have e7:=eq_of_beq q8
     simp [*]
   go_wp2;rw [HC.out,hz];exact ⟨⟨⟨some ⟨g9,0,none⟩,1,1⟩,rfl,HF.out.kept,RdI.box (zs:=[3]) (HF.out.box 0 _ _ _ rfl),by show 1≤8;omega⟩⟩
  refine bN (eI q8)<|tF<|Nl ?_;simp only[pS];go_upto_region 13 with fail;refine Sg<|?_;cases q9:(k==16);rotate_left
  ·refine bN (eI q9)<|tU<|Nl ?_;simp only[pS];go_upto_region 14 with fail;refine Sg<|bS ([3]:List Int) HF fun g7 w8 HF=>tK (.slice (some ⟨g7,0,none⟩) 1 1)<|Nl ?_;simp only[pS];have hz:fieldsK k=[3]:=by
     unfold fieldsK;have e0:=ne_of_beq_false q1;have e1:=ne_of_beq_false q2;have e2:=ne_of_beq_false q3;have e3:=ne_of_beq_false q4;have e4:=ne_of_beq_false q5;have e5:=ne_of_beq_false q6;have e6:=ne_of_beq_false q7;have e7:=ne_of_beq_false q8;have e8:=eq_of_beq q9
     simp [*]
   go_wp2;rw [HC.out,hz];exact ⟨⟨⟨some ⟨g7,0,none⟩,1,1⟩,rfl,HF.out.kept,RdI.box (zs:=[3]) (HF.out.box 0 _ _ _ rfl),by show 1≤8;omega⟩⟩
  refine bN (eI q9)<|tF<|Nl ?_;simp only[pS];go_upto_region 15 with fail;refine Sg<|?_;cases q10:(k==13);rotate_left
  ·refine bN (eI q10)<|tU<|Nl ?_;simp only[pS];go_upto_region 16 with fail;refine Sg<|bS ([0,1,3]:List Int) HF fun g5 w6 HF=>tK (.slice (some ⟨g5,0,none⟩) 3 3)<|Nl ?_;simp only[pS];have hz:fieldsK k=[0,1,3]:=by
     unfold fieldsK;have e0:=ne_of_beq_false q1;have e1:=ne_of_beq_false q2;have e2:=ne_of_beq_false q3;have e3:=ne_of_beq_false q4;have e4:=ne_of_beq_false q5;have e5:=ne_of_beq_false q6;have e6:=ne_of_beq_false q7;have e7:=ne_of_beq_false q8;have e8:=ne_of_beq_false q9;have e9:=eq_of_beq q10
     simp [*]
   go_wp2;rw [HC.out,hz];exact ⟨⟨⟨some ⟨g5,0,none⟩,3,3⟩,rfl,HF.out.kept,RdI.box (zs:=[0,1,3]) (HF.out.box 0 _ _ _ rfl),by show 3≤8;omega⟩⟩
  refine bN (eI q10)<|tF<|Nl ?_;simp only[pS];go_upto_region 17 with fail;refine Sg<|?_;cases q11:(k==17);rotate_left
  ·refine bN (eI q11)<|tU<|Nl ?_;simp only[pS];go_upto_region 18 with fail;refine Sg<|bS ([4]:List Int) HF fun g3 w4 HF=>tK (.slice (some ⟨g3,0,none⟩) 1 1)<|Nl ?_;simp only[pS];have hz:fieldsK k=[4]:=by
     unfold fieldsK;have e0:=ne_of_beq_false q1;have e1:=ne_of_beq_false q2;have e2:=ne_of_beq_false q3;have e3:=ne_of_beq_false q4;have e4:=ne_of_beq_false q5;have e5:=ne_of_beq_false q6;have e6:=ne_of_beq_false q7;have e7:=ne_of_beq_false q8;have e8:=ne_of_beq_false q9;have e9:=ne_of_beq_false q10;have e10:=eq_of_beq q11
     simp [*]
   go_wp2;rw [HC.out,hz];exact ⟨⟨⟨some ⟨g3,0,none⟩,1,1⟩,rfl,HF.out.kept,RdI.box (zs:=[4]) (HF.out.box 0 _ _ _ rfl),by show 1≤8;omega⟩⟩
  refine bN (eI q11)<|tF<|Nl ?_;simp only[pS];go_upto_region 19 with fail;refine Sg<|?_;cases q12:(k==22)
  ·refine bN (eI q12)<|tF<|Nl ?_;simp only[pS];go_upto_region 21 with fail;refine Sg<|tK (.slice none 0 0)<|Nl ?_;simp only[pS];have hz:fieldsK k=[]:=by
     unfold fieldsK;have e0:=ne_of_beq_false q1;have e1:=ne_of_beq_false q2;have e2:=ne_of_beq_false q3;have e3:=ne_of_beq_false q4;have e4:=ne_of_beq_false q5;have e5:=ne_of_beq_false q6;have e6:=ne_of_beq_false q7;have e7:=ne_of_beq_false q8;have e8:=ne_of_beq_false q9;have e9:=ne_of_beq_false q10;have e10:=ne_of_beq_false q11;have e11:=ne_of_beq_false q12
     simp [*]
   go_wp2;rw [HC.out,hz];exact ⟨⟨slZ,rfl,HF.out.kept,RdI.nil _,by decide⟩⟩
  refine bN (eI q12)<|tU<|Nl ?_;simp only[pS];go_upto_region 20 with fail;refine Sg<|bS ([0,2,4,5,6]:List Int) HF fun g1 w2 HF=>tK (.slice (some ⟨g1,0,none⟩) 5 5)<|Nl ?_;simp only[pS];have hz:fieldsK k=[0,2,4,5,6]:=by
    unfold fieldsK;have e0:=ne_of_beq_false q1;have e1:=ne_of_beq_false q2;have e2:=ne_of_beq_false q3;have e3:=ne_of_beq_false q4;have e4:=ne_of_beq_false q5;have e5:=ne_of_beq_false q6;have e6:=ne_of_beq_false q7;have e7:=ne_of_beq_false q8;have e8:=ne_of_beq_false q9;have e9:=ne_of_beq_false q10;have e10:=ne_of_beq_false q11;have e11:=eq_of_beq q12
    simp [*]
  go_wp2;rw [HC.out,hz];exact ⟨⟨⟨some ⟨g1,0,none⟩,5,5⟩,rfl,HF.out.kept,RdI.box (zs:=[0,2,4,5,6]) (HF.out.box 0 _ _ _ rfl),by show 5≤8;omega⟩⟩
end Go.Proofs.YtgdnofacgfjaeaaGreat.Md
