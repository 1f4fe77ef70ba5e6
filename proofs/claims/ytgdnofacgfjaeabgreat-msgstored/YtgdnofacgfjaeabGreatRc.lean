import Derived.Test.YtgdnofacgfjaeabGreatNr
import Derived.Test.YtgdnofacgfjaeabGreatNf
import Derived.Test.YtgdnofacgfjaeabGreatMa
import Derived.Test.YtgdnofacgfjaeabGreatWiU
import Derived.Test.YtgdnofacgfjaeabGreatWiZx
namespace Go.Proofs.YtgdnofacgfjaeabGreat.Md
open Go.RowKit
set_option linter.unusedVariables false
set_option linter.unusedSimpArgs false
def outK (b:Bool) (ys:List Int) (good:Bool) (i j:Nat):Int × List En × List La × Int:=
  bif b then (bif (Wi.openOf ys).2==0 then (bif good then (Wi.nV (.ok (Wi.openOf ys).1 0),rkE (.ok (Wi.openOf ys).1 0) i,rkL (.ok (Wi.openOf ys).1 0) i j,0) else (0,[],[],11)) else (0,[],[],(Wi.openOf ys).2)) else (0,[],[],20)
def BckO (w:World) (r:Int × List En × List La × Int) (e:Ending) (w':World):Prop:=∃ x y:Sl,e=.returned (.tuple #[.agg (Bv.cells ⟨r.1,x,y⟩),.int .i64 r.2.2.2])∧RdE w' x r.2.1∧RdL w' y r.2.2.1∧x.l≤281474976710656∧y.l≤281474976710656∧Kept No w w'
theorem RdE.nilS (w:World):RdE w slZ []:=⟨RowsAt.nil _ _ _,rfl,fun _=>rfl⟩
theorem RdL.nilS (w:World):RdL w slZ []:=⟨RowsAt.nil _ _ _,rfl,fun _=>rfl⟩
theorem RdE.ofBox {w:World} {g n k:Nat} {es:List En} (hb:Box w g 106 (enL es).toArray) (hl:es.length=n):RdE w ⟨some ⟨g,0,none⟩,n,k⟩ es:=by
  refine ⟨?_,hl,fun e=>by cases e⟩
  intro i it hi
  refine ⟨g,0,rfl,fun j v hv=>?_⟩
  have h1:=flat_get 4 _ (enL_c es) i it hi j v hv
  rw [Nat.zero_add,hb.cell,List.getElem?_toArray]
  exact h1
theorem RdL.ofBox {w:World} {g n k:Nat} {es:List La} (hb:Box w g 108 (laL es).toArray) (hl:es.length=n):RdL w ⟨some ⟨g,0,none⟩,n,k⟩ es:=by
  refine ⟨?_,hl,fun e=>by cases e⟩
  intro i it hi
  refine ⟨g,0,rfl,fun j v hv=>?_⟩
  have h1:=flat_get 7 _ (laL_c es) i it hi j v hv
  rw [Nat.zero_add,hb.cell,List.getElem?_toArray]
  exact h1
theorem bv_one (x:Bv):(Bv.cells x).all (·.oneCell')=true:=all_one (Bv.oneL x)
theorem kr_fresh {K:Src} {w w':World} {s:Wi.RS × Bool} {m:List (Nat × TypeId × Array Value)} (k:Kr K w w' s m) {i g:Nat} {T:TypeId} {cs:Array Value} (h:m[i]?=some (g,T,cs)):w.heap.size≤g:=(k.fq.low i g T cs h).elim id (fun e=>absurd (K.sub _ e) (k.out i g T cs h))
theorem p_ReadK (x:Sl) (ys:List Int) (c:Cg) (zs:List Int) (w:World) (hc:CgIn w c zs) (hx:Wi.Sl w x.a x.l x.k ys):Calls Tryz.prog 15 #[x.v,.agg (Cg.cells c)] w
    (BckO w (outK (cfgP c zs) ys (goodK c.bl c.rm (.ok (Wi.openOf ys).1 0)) (bkE (.ok (Wi.openOf ys).1 0)) (bkL (.ok (Wi.openOf ys).1 0)))):=by
  cases hq:cfgP c zs with
  | false=>
    refine (Wi.eNoReadBucket x.a x.l x.k c.sv.a c.sv.l c.sv.k zs c.f c.po c.bu c.bl c.rm w hc.wi hq).mono ?_
    rintro e w' ⟨rfl,hk⟩
    exact ⟨slZ,slZ,rfl,RdE.nilS _,RdL.nilS _,Nat.zero_le _,Nat.zero_le _,kw hk⟩
  | true=>
    cases ho:((Wi.openOf ys).2==0) with
    | false=>
      refine (Wi.eReadBucket x.a x.l x.k c.sv.a c.sv.l c.sv.k zs c.f c.po c.bu c.bl c.rm w (fun W cs e w'=>cs=Wi.zK∧e=(Wi.openOf ys).2) (fun W hW=>?_)).mono ?_
      · exact (Wi.unpackBucket_shut x.a x.l x.k ys _ _ _ c.sv.a c.sv.l c.sv.k zs c.f c.po c.bu c.bl c.rm W (hc.wi.no hW) hq (hx.no hW) (by simpa using ho)).mono (fun e w' ⟨a,b⟩=>⟨_,_,a,rfl,Wi.zK_one,b,rfl,rfl⟩)
      · rintro e w' ⟨cs,x,W,w1,rfl,hW,⟨rfl,rfl⟩,hk,hk'⟩
        have hv:outK true ys (goodK c.bl c.rm (.ok (Wi.openOf ys).1 0)) (bkE (.ok (Wi.openOf ys).1 0)) (bkL (.ok (Wi.openOf ys).1 0))=(0,[],[],(Wi.openOf ys).2):=by simp only[outK,cond_true,cond_false,ho]
        rw [hv]
        exact ⟨slZ,slZ,rfl,RdE.nilS _,RdL.nilS _,Nat.zero_le _,Nat.zero_le _,kw hk'⟩
    | true=>
      have h0:(Wi.openOf ys).2=0:=eq_of_beq ho
      have h8:=open_u8 hx.u8
      obtain ⟨st,hst⟩:∃ st,Wi.RS.ok (Wi.openOf ys).1 0=st:=⟨_,rfl⟩
      rw [hst]
      obtain ⟨good,hg⟩:∃ b,goodK c.bl c.rm st=b:=⟨_,rfl⟩
      rw [hg]
      have hE:(rkE st (bkE st)).length=bkE st:=ensL_len _ _
      have hL:(rkL st (bkE st) (bkL st)).length=bkL st:=lasL_len _ _
      have hE2:bkE st≤257:=cntK_le _ _
      have hL2:bkL st≤256:=cntK_le _ _
      refine (Wi.eReadBucket x.a x.l x.k c.sv.a c.sv.l c.sv.k zs c.f c.po c.bu c.bl c.rm w (fun W cs e w'=>∃ ge gl,cs=(if good then Bv.cells ⟨Wi.nV st,⟨some ⟨ge,0,none⟩,bkE st,bkE st⟩,⟨some ⟨gl,0,none⟩,bkL st,bkL st⟩⟩ else Wi.zK)∧(e=if good then 0 else 11)∧Box w' ge 106 (enL (rkE st (bkE st))).toArray∧Box w' gl 108 (laL (rkL st (bkE st) (bkL st))).toArray∧W.heap.size≤ge∧W.heap.size≤gl) (fun W hW=>?_)).mono ?_
      · refine (Wi.unpackBucket_all x.a x.l x.k ys 11 c.sv.a c.sv.l c.sv.k zs c.f c.po c.bu c.bl c.rm W (hc.wi.no hW) hq (hx.no hW) h0 h8 (by have:=(open_form hx.u8 h0).2;omega)
          false (bkS st) (rkP c.bl c.rm st (bkE st) (bkL st)) (fun W0 W1 cs=>∃ ge gl,cs=Bv.cells ⟨Wi.nV st,⟨some ⟨ge,0,none⟩,bkE st,bkE st⟩,⟨some ⟨gl,0,none⟩,bkL st,bkL st⟩⟩∧Box W1 ge 106 (enL (rkE st (bkE st))).toArray∧Box W1 gl 108 (laL (rkL st (bkE st) (bkL st))).toArray∧W0.heap.size≤ge∧W0.heap.size≤gl)
          (fun _ _ cs h=>by obtain ⟨ge,gl,rfl,_⟩:=h;exact ⟨rfl,bv_one _⟩) (fun W0 W1 W2 cs h hk=>?_) (fun W2 r g lb hk hR=>?_) (fun W0 W2 cs hk h=>?_)).mono ?_
        · obtain ⟨ge,gl,h1,h2,h3,h4,h5⟩:=h
          exact ⟨ge,gl,h1,h2.kept (kwS hk) (fun e=>by have:=h2.lt;rcases e with e | e <;> omega),h3.kept (kwS hk) (fun e=>by have:=h3.lt;rcases e with e | e <;> omega),h4,h5⟩
        · rw [hst] at hR
          refine (p_rbkt (r:=r) (g:=g) (lb:=lb) (st:=st) (odd:=false) (w:=W2) hR).mono ?_
          rintro e w' ⟨ge,gl,rfl,hk2⟩
          refine ⟨_,rfl,Wi.RdM.since hk2.st (wkS hk2.fq.kept),ge,gl,?_,hk2.fq.box 0 _ _ _ rfl,hk2.fq.box 1 _ _ _ rfl,kr_fresh hk2 (i:=0) rfl,kr_fresh hk2 (i:=1) rfl⟩
          rw [ensL_len,lasL_len]
        · obtain ⟨ge,gl,rfl,h2,h3,h4,h5⟩:=h
          exact wcall (p_rightBucket ⟨Wi.nV st,⟨some ⟨ge,0,none⟩,bkE st,bkE st⟩,⟨some ⟨gl,0,none⟩,bkL st,bkL st⟩⟩ (rkE st (bkE st)) (rkL st (bkE st) (bkL st)) c W2 (cfg_bl hq) (RdE.ofBox h2 hE) (RdL.ofBox h3 hL) (by show bkE st≤_;omega) (by show bkL st≤_;omega))
        · rintro e w' ⟨cs,rfl,⟨W0,hW0,ge,gl,rfl,h2,h3,h4,h5⟩,hk⟩
          have hg2:(Wi.wholeB false (bkS st)&&rkP c.bl c.rm st (bkE st) (bkL st))=good:=hg
          rw [hg2]
          refine ⟨_,_,rfl,?_,?_,hk,ge,gl,rfl,rfl,h2,h3,by omega,by omega⟩
          · cases good <;> rfl
          · cases good
            · exact Wi.zK_one
            · exact bv_one _
      · rintro e w' ⟨cs,x,W,w1,rfl,hW,⟨ge,gl,rfl,rfl,h2,h3,h4,h5⟩,hk,hk'⟩
        have k2:=h2.kept (kwS hk) (fun e=>by omega)
        have k3:=h3.kept (kwS hk) (fun e=>by omega)
        cases good with
        | false=>
          have hv:outK true ys false (bkE st) (bkL st)=(0,[],[],11):=by simp only[outK,cond_true,cond_false,ho]
          rw [hv]
          exact ⟨slZ,slZ,rfl,RdE.nilS _,RdL.nilS _,Nat.zero_le _,Nat.zero_le _,kw hk'⟩
        | true=>
          have hv:outK true ys true (bkE st) (bkL st)=(Wi.nV st,rkE st (bkE st),rkL st (bkE st) (bkL st),0):=by simp only[outK,cond_true,cond_false,ho,hst]
          rw [hv]
          exact ⟨⟨some ⟨ge,0,none⟩,bkE st,bkE st⟩,⟨some ⟨gl,0,none⟩,bkL st,bkL st⟩,rfl,RdE.ofBox k2 hE,RdL.ofBox k3 hL,by show bkE st≤_;omega,by show bkL st≤_;omega,kw hk'⟩
theorem Kr.bkt {K:Src} {w0 w w':World} {s s':Wi.RS × Bool} {l:List (Nat × TypeId × Array Value)} {a1 a3:Option Addr} {m c1 q c3:Nat} {vs us:List Value} (h:Kr K w0 w s l) (hS:K.St w' s') (hk:Kept K.Wr w w')
    (hoE:Own 106 4 w' w.heap.size a1 c1 m vs) (hoL:Own 108 7 w' w.heap.size a3 c3 q us):Kr (lsSrc (lsSrc K 106 4 w.heap.size a1 m c1 vs) 108 7 w.heap.size a3 q c3 us) w0 w' s' l:=by
  have H:=h.call (v:=undef) ⟨rfl,hS,hk⟩
  refine ⟨H.fq,⟨⟨hS,hoE,fun k e e2=>?_⟩,hoL,fun k e e2=>?_⟩,fun i g T cs hi e=>?_⟩
  · have:=hoE.base e;have:=K.lt h.st k e2;omega
  · rcases e2 with e2 | e2
    · have:=hoL.base e;have:=K.lt h.st k e2;omega
    · obtain ⟨x,hx⟩:=own_typ hoE e2
      obtain ⟨y,hy⟩:=own_typ hoL e
      have:=cells_ty hx hy
      cases this
  · have hlt:=(h.fq.box i g T cs hi).lt
    rcases e with (e | e) | e
    · exact H.out i g T cs hi e
    · have:=hoE.base e;omega
    · have:=hoL.base e;omega
section
variable {ops:Array Oper} {rest:List Oper} {o:Oper} {a:Act} {w:World} {Q:Exit→Act→World→Prop} {S:Nat→Prop} {w0:World} {l:List (Nat × TypeId × Array Value)}
theorem cBlk {f:FuncId} {args:Array Value} {r:Sp × List Int × Int} (hc:Calls Tryz.prog f args w (BlkO w r)) (HF:Hid (Fq S w0 w l))
    (h:∀ (s:Sl) w',Hid (Fq S w0 w' l)→Hid (RdB w' s r.2.1)→s.l≤281474976710656→WL ops Q rest (a.put o.dst (.tuple #[.agg (Bl.cells ⟨r.1,s⟩),.int .i64 r.2.2])) w') (hrun:(execOp a.eval o).run Tryz.prog w=.ok (.enter f args) w:=by kernel_rfl) (hw:Region.wanted o (yielded ops a.tmps)=true:=by kernel_rfl):WL ops Q (o :: rest) a w:=
  wp_callW f args hrun _ hc hw (by rintro e w' ⟨s,rfl,h1,h2,hk⟩;exact ⟨_,rfl,h s w' (HF.out.no hk) h1 h2⟩)
theorem cIns {f:FuncId} {args:Array Value} {r:In × Int} (hc:Calls Tryz.prog f args w (InsO w r)) (HF:Hid (Fq S w0 w l))
    (h:∀ w',Hid (Fq S w0 w' l)→WL ops Q rest (a.put o.dst (.tuple #[.agg (In.cells r.1),.int .i64 r.2])) w') (hrun:(execOp a.eval o).run Tryz.prog w=.ok (.enter f args) w:=by kernel_rfl) (hw:Region.wanted o (yielded ops a.tmps)=true:=by kernel_rfl):WL ops Q (o :: rest) a w:=
  wp_callW f args hrun _ hc hw (by rintro e w' ⟨rfl,hk⟩;exact ⟨_,rfl,h w' (HF.out.no hk)⟩)
theorem cBck {f:FuncId} {args:Array Value} {r:Int × List En × List La × Int} (hc:Calls Tryz.prog f args w (BckO w r)) (HF:Hid (Fq S w0 w l))
    (h:∀ (x y:Sl) w',Hid (Fq S w0 w' l)→Hid (RdE w' x r.2.1∧RdL w' y r.2.2.1)→x.l≤281474976710656→y.l≤281474976710656→WL ops Q rest (a.put o.dst (.tuple #[.agg (Bv.cells ⟨r.1,x,y⟩),.int .i64 r.2.2.2])) w') (hrun:(execOp a.eval o).run Tryz.prog w=.ok (.enter f args) w:=by kernel_rfl) (hw:Region.wanted o (yielded ops a.tmps)=true:=by kernel_rfl):WL ops Q (o :: rest) a w:=
  wp_callW f args hrun _ hc hw (by rintro e w' ⟨x,y,rfl,h1,h2,h3,h4,hk⟩;exact ⟨_,rfl,h x y w' (HF.out.no hk) ⟨h1,h2⟩ h3 h4⟩)
end
theorem flds78 : (Tryz.prog.fieldsOf 47).toList = [fld "Promised" 35 0 0, fld "Accepted" 35 2 16, fld "Command" 45 4 32, fld "Decided" 4 13 112] := by kernel_rfl
theorem eqIn_self (x:In) (w:World):(Op.equalIn 10000 47 (.agg (In.cells x)) (.agg (In.cells x))).run Tryz.prog w=.ok true w:=by
  have h0:∀ (w:World),(part 35 (In.cells x) 0).run Tryz.prog w=.ok (.agg (Sp.cells x.p)) w:=fun w=>by kernel_rfl
  have h1:∀ (w:World),(part 35 (In.cells x) 2).run Tryz.prog w=.ok (.agg (Sp.cells x.a)) w:=fun w=>by kernel_rfl
  have h2:∀ (w:World),(part 45 (In.cells x) 4).run Tryz.prog w=.ok (.agg (Cm.cells x.c)) w:=fun w=>by kernel_rfl
  have h3:∀ (w:World),(part 4 (In.cells x) 13).run Tryz.prog w=.ok (.bool x.d) w:=fun w=>by kernel_rfl
  have g1:∀ (a:Sp) (w:World),(Op.equalIn 9999 35 (.agg (Sp.cells a)) (.agg (Sp.cells a))).run Tryz.prog w=.ok true w:=fun a w=>by rw [show (9999:Nat)=9997+2 from rfl,eq25 9997,eqS_refl]
  have g2:∀ (a:Cm) (w:World),(Op.equalIn 9999 45 (.agg (Cm.cells a)) (.agg (Cm.cells a))).run Tryz.prog w=.ok true w:=fun a w=>by rw [show (9999:Nat)=9996+3 from rfl,eq47 9996,eqC_refl]
  have g3:∀ (b:Bool) (w:World),(Op.equalIn 9999 4 (.bool b) (.bool b)).run Tryz.prog w=.ok true w:=fun b w=>by rw [show (9999:Nat)=9998+1 from rfl,run_equalIn_bool' w 9998 4 b b (by kernel_rfl),beq_self_eq_true]
  rw [show (10000:Nat)=9999+1 from rfl,run_equalIn_struct w 9999 47 _ _ U47 (by kernel_rfl),flds78]
  simp [Op.eqFields,fld,h0,h1,h2,h3,g1,g2,g3,Result.andThen]
theorem neqIn0 (x:In) (w:World):(binOp .neq 47 (.agg (In.cells x)) (.agg (In.cells x))).run Tryz.prog w=.ok (.bool false) w:=by
  rw [run_neq_struct,eqIn_self];rfl
def adV (st:Wi.RS):Ad:=⟨Wi.fV st,Wi.nV (Wi.nS st)⟩
def kyV (st:Wi.RS):Ky:=⟨Wi.nV st,Wi.nV (Wi.nS st),Wi.nV (Wi.nS (Wi.nS st)),Wi.nV (Wi.nS (Wi.nS (Wi.nS st)))⟩
section
variable {r g lb:Nat} {st:Wi.RS} {odd:Bool} {w:World}
end
section
variable {i g:Nat} {ba:Option Addr} {bc:Nat} {bs:List Int} {st:Wi.RS} {w:World}
end
structure Pm where
  k:Int
  fr:Ad
  too:Ad
  op:Int
  rd:Int
  ky:Ky
  st:Sp
  hd:Sp
  bs:List Int
  c:Cm
  up:Int
  es:List En
  ls:List La
  cs:List Cm
  mo:Bool
def pmG (p:Pm) (x e l c:Sl):Mg:=⟨p.k,p.fr,p.too,p.op,p.rd,p.ky,p.st,p.hd,x,p.c,⟨p.up,e,l⟩,c,p.mo⟩
def cmsS:Nat→Wi.RS→Wi.RS
  | 0,st=>st
  | n+1,st=>cmS (cmsS n st)
def cmsL (n:Nat) (st:Wi.RS):List Cm:=(List.range n).map (fun i=>cmV (cmsS i st))
section
variable (bi bj bq:Wi.RS→Nat)
def fdP (f:Int) (p:Pm) (s:Wi.RS):Pm:=
  if f=0 then ⟨p.k,p.fr,p.too,p.op,p.rd,p.ky,stV s,p.hd,p.bs,p.c,p.up,p.es,p.ls,p.cs,p.mo⟩ else
  if f=1 then ⟨p.k,p.fr,p.too,p.op,p.rd,p.ky,p.st,stV s,p.bs,p.c,p.up,p.es,p.ls,p.cs,p.mo⟩ else
  if f=2 then ⟨p.k,p.fr,p.too,p.op,p.rd,p.ky,p.st,p.hd,tV s,p.c,p.up,p.es,p.ls,p.cs,p.mo⟩ else
  if f=3 then ⟨p.k,p.fr,p.too,p.op,p.rd,p.ky,p.st,p.hd,p.bs,cmV s,p.up,p.es,p.ls,p.cs,p.mo⟩ else
  if f=4 then ⟨p.k,p.fr,p.too,p.op,p.rd,p.ky,p.st,p.hd,p.bs,p.c,Wi.nV s,rkE s (bi s),rkL s (bi s) (bj s),p.cs,p.mo⟩ else
  if f=5 then ⟨p.k,p.fr,p.too,p.op,p.rd,p.ky,p.st,p.hd,p.bs,p.c,p.up,p.es,p.ls,cmsL (bq s) (Wi.nS s),p.mo⟩ else
  ⟨p.k,p.fr,p.too,p.op,p.rd,p.ky,p.st,p.hd,p.bs,p.c,p.up,p.es,p.ls,p.cs,Wi.fV s⟩
def fdS (f:Int) (s:Wi.RS):Wi.RS:=
  if f=0 then Wi.aS s else if f=1 then Wi.aS s else if f=2 then tS s else if f=3 then cmS s else if f=4 then rkS s (bi s) (bj s) else if f=5 then cmsS (bq s) (Wi.nS s) else Wi.nS s
def fdO (f:Int) (odd:Bool) (s:Wi.RS):Bool:=if f=6 then Wi.fO odd s else odd
def fdsS:List Int→Wi.RS→Wi.RS
  | [],s=>s
  | f :: F,s=>fdsS F (fdS bi bj bq f s)
def fdsP:List Int→Pm→Wi.RS→Pm
  | [],p,_=>p
  | f :: F,p,s=>fdsP F (fdP bi bj bq f p s) (fdS bi bj bq f s)
def fdsO:List Int→Bool→Wi.RS→Bool
  | [],o,_=>o
  | f :: F,o,s=>fdsO F (fdO f o s) (fdS bi bj bq f s)
theorem fdsS_snoc (f:Int):∀ (F:List Int) (s:Wi.RS),fdsS bi bj bq (F++[f]) s=fdS bi bj bq f (fdsS bi bj bq F s)
  | [],s=>rfl
  | g :: F,s=>fdsS_snoc f F _
theorem fdsP_snoc (f:Int):∀ (F:List Int) (p:Pm) (s:Wi.RS),fdsP bi bj bq (F++[f]) p s=fdP bi bj bq f (fdsP bi bj bq F p s) (fdsS bi bj bq F s)
  | [],p,s=>rfl
  | g :: F,p,s=>fdsP_snoc f F _ _
theorem fdsO_snoc (f:Int):∀ (F:List Int) (o:Bool) (s:Wi.RS),fdsO bi bj bq (F++[f]) o s=fdO f (fdsO bi bj bq F o s) (fdsS bi bj bq F s)
  | [],o,s=>rfl
  | g :: F,o,s=>fdsO_snoc f F _ _
def hdP (st:Wi.RS):Pm:=⟨Wi.nV st,adV (Wi.t1 st),adV (Wi.t2 st),Wi.nV (Wi.t3 st),Wi.nV (Wi.t4 st),kyV (Wi.t5 st),spZ,spZ,[],cZ,0,[],[],[],false⟩
def mPm (st:Wi.RS):Pm:=fdsP bi bj bq (fieldsK (Wi.nV st)) (hdP st) (Wi.t9 st)
end
def cqF (s:Wi.RS):Nat:=cntK (Wi.nV s) 65
theorem encB_n (v:Int) (X:List It):encB ([It.n v]++X)=Wi.vint v.toNat++encB X:=by simp [encB,encIt]
def AtO (st:Wi.RS) (L:List It):Prop:=(∃ a,st=.ok (encB L) a)∧okL L
theorem ao_n {st:Wi.RS} {v:Int} {X:List It} (h:AtO st (It.n v :: X)):Wi.nV st=v∧AtO (Wi.nS st) X:=by
  obtain ⟨⟨a,rfl⟩,hok⟩:=h
  have hv:0≤v∧v≤1099511627776:=hok _ (List.mem_cons_self ..)
  have e0:encB (It.n v :: X)=Wi.vint v.toNat++encB X:=encB_n v X
  have hr:=Wi.nr_vint v.toNat (encB X) (by omega)
  rw [e0]
  refine ⟨?_,⟨a+(Wi.vint v.toNat).length,?_⟩,fun x hx=>hok x (List.mem_cons_of_mem _ hx)⟩
  · simp only[Wi.nV,Wi.numS,hr];omega
  · simp only[Wi.nS,Wi.numS,hr,List.drop_left]
theorem ao_b {st:Wi.RS} {zs:List Int} {X:List It} (h:AtO st (It.b zs :: X)):tV st=zs∧AtO (tS st) X:=by
  obtain ⟨⟨a,rfl⟩,hok⟩:=h
  have hv:zs.length≤4096∧Wi.U8 zs:=hok _ (List.mem_cons_self ..)
  have e0:encB (It.b zs :: X)=Wi.vint zs.length++zs++encB X:=by simp [encB,encIt]
  have hr:=Wi.cr_vint zs (encB X) (by omega)
  rw [e0]
  refine ⟨?_,⟨a+((Wi.vint zs.length).length+zs.length),?_⟩,fun x hx=>hok x (List.mem_cons_of_mem _ hx)⟩
  · simp only[tV,Wi.bytesS,hr]
    rw [List.append_assoc,List.drop_left,List.take_left]
  · simp only[tS,Wi.bytesS,hr]
    rw [← List.drop_drop,List.append_assoc,List.drop_left,List.drop_left]
theorem ao_2 {st:Wi.RS} {a b:Int} {X:List It} (h:AtO st (It.n a :: It.n b :: X)):stV st=⟨a,b⟩∧AtO (Wi.aS st) X:=by
  obtain ⟨h1,h2⟩:=ao_n h
  obtain ⟨h3,h4⟩:=ao_n h2
  exact ⟨by unfold stV;rw [h1,h3],h4⟩
theorem str_num (s:ByteArray):Wi.strOf (Wi.numsOf s)=s:=by
  unfold Wi.strOf Wi.numsOf
  apply ByteArray.ext
  apply Array.toList_inj.1
  simp only[List.map_map]
  conv=>rhs;rw [← List.map_id s.data.toList]
  apply List.map_congr_left
  intro b _
  simp
theorem ao_cm {st:Wi.RS} {x:Cm} {X:List It} (h:AtO st (cmdIts x++X)) (hz:x.k=0→x=cZ):cmV st=x∧AtO (cmS st) X:=by
  unfold cmdIts at h
  cases hk:(x.k==0)
  · rw [hk] at h
    obtain ⟨n1,h1⟩:=ao_n h
    obtain ⟨n2,h2⟩:=ao_n h1
    obtain ⟨n3,h3⟩:=ao_n h2
    obtain ⟨n4,h4⟩:=ao_b h3
    obtain ⟨n5,h5⟩:=ao_2 h4
    obtain ⟨n6,h6⟩:=ao_2 h5
    obtain ⟨n7,h7⟩:=ao_n h6
    have e:(Wi.nV st==0)=false:=by rw [n1];exact hk
    unfold cmV cmS
    rw [e]
    refine ⟨?_,h7⟩
    show cmW st=x
    have e5:Wi.nV (tS (Wi.nS (Wi.nS (Wi.nS st))))=x.f0∧Wi.nV (Wi.nS (tS (Wi.nS (Wi.nS (Wi.nS st)))))=x.f1:=⟨congrArg Sp.n n5,congrArg Sp.c n5⟩
    have e6:Wi.nV (Wi.aS (tS (Wi.nS (Wi.nS (Wi.nS st)))))=x.g0∧Wi.nV (Wi.nS (Wi.aS (tS (Wi.nS (Wi.nS (Wi.nS st))))))=x.g1:=⟨congrArg Sp.n n6,congrArg Sp.c n6⟩
    have e7:Wi.nV (cm6 st)=x.sz:=n7
    unfold cmW
    rw [n1,n2,n3,n4,str_num,e5.1,e5.2,e6.1,e6.2,e7]
  · rw [hk] at h
    have h0:x.k=0:=eq_of_beq hk
    obtain ⟨n1,h1⟩:=ao_n h
    have e:(Wi.nV st==0)=true:=by rw [n1];exact hk
    unfold cmV cmS
    rw [e]
    exact ⟨(hz h0).symm,h1⟩
theorem ao_en {st:Wi.RS} {x:En} {X:List It} (h:AtO st (entIts x++X)):enV st=x∧AtO (enS st) X:=by
  obtain ⟨n1,h1⟩:=ao_b h
  obtain ⟨n2,h2⟩:=ao_2 h1
  obtain ⟨n3,h3⟩:=ao_n h2
  have e2:Wi.nV (tS st)=x.f0∧Wi.nV (Wi.nS (tS st))=x.f1:=⟨congrArg Sp.n n2,congrArg Sp.c n2⟩
  refine ⟨?_,h3⟩
  unfold enV
  rw [n1,str_num,e2.1,e2.2,n3]
theorem ao_la {st:Wi.RS} {x:La} {X:List It} (h:AtO st (lasIts x++X)):laV st=x∧AtO (laS st) X:=by
  obtain ⟨n1,h1⟩:=ao_n h
  obtain ⟨n2,h2⟩:=ao_n h1
  obtain ⟨n3,h3⟩:=ao_n h2
  obtain ⟨n4,h4⟩:=ao_n h3
  obtain ⟨n5,h5⟩:=ao_2 h4
  obtain ⟨n6,h6⟩:=ao_n h5
  have e5:Wi.nV (la4 st)=x.f0∧Wi.nV (Wi.nS (la4 st))=x.f1:=⟨congrArg Sp.n n5,congrArg Sp.c n5⟩
  have e6:Wi.nV (Wi.aS (la4 st))=x.sz:=n6
  refine ⟨?_,h6⟩
  unfold laV
  rw [n1,n2,n3,n4,e5.1,e5.2,e6]
theorem fl_front (f:Nat→List It):∀ n,fl f (n+1)=f 0++fl (fun j=>f (j+1)) n
  | 0=>by rw [fl_succ,fl0,fl0,List.nil_append,List.append_nil]
  | n+1=>by rw [fl_succ,fl_front f n,fl_succ,List.append_assoc]
theorem ens_front (st:Wi.RS):∀ n,ensS (n+1) st=ensS n (enS st)
  | 0=>rfl
  | n+1=>by show enS (ensS (n+1) st)=enS (ensS n (enS st));rw [ens_front st n]
theorem las_front (st:Wi.RS):∀ n,lasS (n+1) st=lasS n (laS st)
  | 0=>rfl
  | n+1=>by show laS (lasS (n+1) st)=laS (lasS n (laS st));rw [las_front st n]
theorem ensL_front (st:Wi.RS) (n:Nat):ensL (n+1) st=enV st :: ensL n (enS st):=by
  unfold ensL
  rw [List.range_succ_eq_map,List.map_cons,List.map_map]
  refine congrArg _ (List.map_congr_left fun i _=>?_)
  show enV (ensS (i+1) st)=_
  rw [ens_front]
theorem lasL_front (st:Wi.RS) (n:Nat):lasL (n+1) st=laV st :: lasL n (laS st):=by
  unfold lasL
  rw [List.range_succ_eq_map,List.map_cons,List.map_map]
  refine congrArg _ (List.map_congr_left fun i _=>?_)
  show laV (lasS (i+1) st)=_
  rw [las_front]
theorem ao_ens:∀ (es:List En) {st:Wi.RS} {X:List It},AtO st (fl (fun j=>entIts (eAt es j)) es.length++X)→ensL es.length st=es∧AtO (ensS es.length st) X
  | [],st,X,h=>⟨rfl,h⟩
  | x :: t,st,X,h=>by
    rw [List.length_cons,fl_front,List.append_assoc] at h
    obtain ⟨h1,h2⟩:=ao_en h
    obtain ⟨h3,h4⟩:=ao_ens t h2
    rw [List.length_cons,ensL_front,ens_front,h1,h3]
    exact ⟨rfl,h4⟩
theorem ao_las:∀ (es:List La) {st:Wi.RS} {X:List It},AtO st (fl (fun j=>lasIts (lAt es j)) es.length++X)→lasL es.length st=es∧AtO (lasS es.length st) X
  | [],st,X,h=>⟨rfl,h⟩
  | x :: t,st,X,h=>by
    rw [List.length_cons,fl_front,List.append_assoc] at h
    obtain ⟨h1,h2⟩:=ao_la h
    obtain ⟨h3,h4⟩:=ao_las t h2
    rw [List.length_cons,lasL_front,las_front,h1,h3]
    exact ⟨rfl,h4⟩
theorem ao_bk {st:Wi.RS} {x:Bv} {es:List En} {ls:List La} {X:List It} (h:AtO st (bktIts x es ls++X)) (he:es.length=x.e.l) (hl:ls.length=x.l.l) (b1:es.length≤256) (b2:ls.length≤255) :
    Wi.nV st=x.up∧rkE st (bkE st)=es∧rkL st (bkE st) (bkL st)=ls∧AtO (rkS st (bkE st) (bkL st)) X:=by
  unfold bktIts at h
  rw [← he,← hl] at h
  simp only[List.append_assoc] at h
  obtain ⟨n1,h1⟩:=ao_n h
  obtain ⟨n2,h2⟩:=ao_n h1
  obtain ⟨n3,h3⟩:=ao_ens es h2
  obtain ⟨n4,h4⟩:=ao_n h3
  obtain ⟨n5,h5⟩:=ao_las ls h4
  have eE:bkE st=es.length:=by unfold bkE cntK;rw [n2];split <;> omega
  have eL:bkL st=ls.length:=by unfold bkL cntK bk2;rw [eE,n4];split <;> omega
  unfold rkE rkL rkS
  rw [eE,eL]
  exact ⟨n1,n3,n5,h5⟩
theorem cmdP_k {B:Int} {x:Cm} (h:cmdP B x=true):x.k≠0:=by
  intro e
  unfold cmdP at h
  rw [e] at h
  cases hq:(!wn x.cl 1 255||!wn x.op 1 1099511627776)
  · rw [hq] at h;cases h
  · rw [hq] at h;cases h
structure Onl (m:Mg) (bs:List Int) (es:List En) (ls:List La) (cs:List Cm) (F:List Int):Prop where
  st:hasB F 0=false→m.st=spZ
  hd:hasB F 1=false→m.hd=spZ
  bl:hasB F 2=false→bs=[]
  c:hasB F 3=false→m.c=cZ
  bk:hasB F 4=false→m.bk.up=0∧es=[]∧ls=[]
  cm:hasB F 5=false→cs=[]
  mo:hasB F 6=false→m.mo=false
section
variable {B rm bu:Int} {zs:List Int} {m:Mg} {bs:List Int} {es:List En} {ls:List La} {cs:List Cm}
end
theorem encB_cn (v:Int) (X:List It):(encB (It.n v :: X)).length=(Wi.vint v.toNat).length+(encB X).length:=by
  have e:encB (It.n v :: X)=Wi.vint v.toNat++encB X:=encB_n v X
  rw [e,List.length_append]
theorem encB_cb (zs:List Int) (X:List It):(encB (It.b zs :: X)).length=(Wi.vint zs.length).length+zs.length+(encB X).length:=by
  have e:encB (It.b zs :: X)=Wi.vint zs.length++zs++encB X:=by simp [encB,encIt]
  rw [e,List.length_append,List.length_append]
theorem encB_ap (a b:List It):(encB (a++b)).length=(encB a).length+(encB b).length:=by simp [encB]
theorem v1 {v:Int} (h:v≤127):(Wi.vint v.toNat).length≤1:=Wi.vint_len _ 0 (by omega)
theorem v2 {v:Int} (h:v≤16383):(Wi.vint v.toNat).length≤2:=Wi.vint_len _ 1 (by omega)
theorem v3 {v:Int} (h:v≤2097151):(Wi.vint v.toNat).length≤3:=Wi.vint_len _ 2 (by omega)
theorem v5 {v:Int} (h:v≤34359738367):(Wi.vint v.toNat).length≤5:=Wi.vint_len _ 4 (by omega)
theorem v6 {v:Int} (h:v≤4398046511103):(Wi.vint v.toNat).length≤6:=Wi.vint_len _ 5 (by omega)
theorem nm_len {nm:ByteArray} (h:nm.size≤255) (X:List It):(encB (It.b (Wi.numsOf nm) :: X)).length≤257+(encB X).length:=by
  rw [encB_cb,Wi.numsOf_len]
  have:=Wi.vint_len nm.size 1 (by omega)
  omega
theorem encB_nil0:(encB []).length=0:=rfl
theorem cmd_len {x:Cm} (h:OkC x):(encB (cmdIts x)).length≤287:=by
  unfold cmdIts
  cases x.k==0
  · simp only[cond_false]
    rw [encB_cn,encB_cn,encB_cn]
    have h1:=nm_len h.nm [It.n x.f0,It.n x.f1,It.n x.g0,It.n x.g1,It.n x.sz]
    rw [encB_cn,encB_cn,encB_cn,encB_cn,encB_cn,encB_nil0] at h1
    have k1:=v1 (v:=x.k) (by have:=h.k.2;omega)
    have k2:=v2 (v:=x.cl) (by have:=h.cl.2;omega)
    have k3:=v6 (v:=x.op) (by have:=h.op.2;omega)
    have k4:=v2 (v:=x.f0) (by have:=h.f0.2;omega)
    have k5:=v6 (v:=x.f1) (by have:=h.f1.2;omega)
    have k6:=v2 (v:=x.g0) (by have:=h.g0.2;omega)
    have k7:=v6 (v:=x.g1) (by have:=h.g1.2;omega)
    have k8:=v5 (v:=x.sz) (by have:=h.sz.2;omega)
    omega
  · simp only[cond_true]
    rw [encB_cn,encB_nil0]
    have k1:=v1 (v:=x.k) (by have:=h.k.2;omega)
    omega
theorem blk_len {B:Int} {x:Bl} {bs:List Int} (hB:0≤B∧B≤4096) (hl:bs.length=x.d.l) (h:blkB B x bs=true):(((encB (blkIts x bs)).length:Nat):Int)≤B+10:=by
  unfold blkB at h
  rw [Bool.and_eq_true] at h
  have h0:((x.d.l:Nat):Int)=B:=eq_of_beq h.1
  have h2:stP x.s=true:=by
    have h3:=h.2
    unfold stP
    rw [Bool.or_eq_true] at h3 ⊢
    rcases h3 with h3 | h3
    · exact .inr h3
    · rw [Bool.and_eq_true] at h3;exact .inl h3.1
  have h1:=stP_t h2
  unfold blkIts
  rw [encB_ap,encB_cn,encB_cn,encB_cb,encB_nil0]
  have k1:=v6 (v:=x.s.n) (by omega)
  have k2:=v2 (v:=x.s.c) (by omega)
  have k3:=Wi.vint_len bs.length 1 (by omega)
  omega
theorem ins_key {B:Int} {x:In} (hB:0≤B∧B≤4096) (h:insP B x=true):((0≤x.p.n∧x.p.n≤1099511627776)∧0≤x.p.c∧x.p.c≤255)∧((0≤x.a.n∧x.a.n≤1099511627776)∧0≤x.a.c∧x.a.c≤255)∧OkC x.c∧(x.c.k=0→x.c=cZ):=by
  unfold insP at h
  cases hd:x.d
  · rw [hd] at h
    simp only[cond_false] at h
    rw [Bool.and_eq_true] at h
    refine ⟨stP_t h.1,?_⟩
    have h2:=h.2
    unfold heldP at h2
    cases ha:eqS x.a spZ
    · rw [ha] at h2
      simp only[cond_false] at h2
      rw [Bool.and_eq_true,Bool.and_eq_true] at h2
      have:=oneS_t h2.1
      exact ⟨by omega,cmdL_ok hB h2.2.2,fun e=>absurd e (cmdP_k h2.2.2)⟩
    · rw [ha] at h2
      have:=eqS_t ha
      exact ⟨by omega,cmd_z h2,fun _=>eqC_iff.1 h2⟩
  · rw [hd] at h
    simp only[cond_true] at h
    rw [Bool.and_eq_true,Bool.and_eq_true] at h
    have:=eqS_t h.1
    have:=eqS_t h.2.1
    exact ⟨by omega,by omega,cmdL_ok hB h.2.2,fun e=>absurd e (cmdP_k h.2.2)⟩
theorem ins_len {B:Int} {x:In} (hB:0≤B∧B≤4096) (h:insP B x=true):(encB (insIts x)).length≤304:=by
  obtain ⟨h1,h2,h3,_⟩:=ins_key hB h
  have h4:=cmd_len h3
  unfold insIts
  rw [encB_ap,encB_ap,encB_ap,encB_cn,encB_cn,encB_cn,encB_cn,encB_cn,encB_nil0]
  have k1:=v6 (v:=x.p.n) (by omega)
  have k2:=v2 (v:=x.p.c) (by omega)
  have k3:=v6 (v:=x.a.n) (by omega)
  have k4:=v2 (v:=x.a.c) (by omega)
  have k5:(Wi.vint (bif x.d then 1 else 0:Int).toNat).length≤1:=by cases x.d <;> exact v1 (by decide)
  omega
theorem ent_len {B:Int} {es:List En} {i:Nat} (hB:0≤B∧B≤4096) (h:entP B es i=true):(encB (entIts (eAt es i))).length≤270:=by
  unfold entP at h
  rw [Bool.and_eq_true,Bool.and_eq_true,Bool.and_eq_true] at h
  have h1:=nameR_t2 (by rw [← name_eq];exact h.2.1)
  have h2:=filB_t h.2.2.1
  have h3:=szB_t hB h.2.2.2
  simp only at h2
  unfold entIts
  have k:=nm_len h1 [It.n (eAt es i).f0,It.n (eAt es i).f1,It.n (eAt es i).sz]
  rw [encB_cn,encB_cn,encB_cn,encB_nil0] at k
  have k1:=v2 (v:=(eAt es i).f0) (by omega)
  have k2:=v6 (v:=(eAt es i).f1) (by omega)
  have k3:=v5 (v:=(eAt es i).sz) (by omega)
  omega
theorem las_len {B up:Int} {ls:List La} {i:Nat} (hB:0≤B∧B≤4096) (hu:up≤1048576) (h:lasP B up ls i=true):(encB (lasIts (lAt ls i))).length≤25:=by
  unfold lasP at h
  rw [Bool.and_eq_true,Bool.and_eq_true,Bool.and_eq_true,Bool.and_eq_true] at h
  have h1:=wn_t h.2.1
  have h2:=wn_t h.2.2.1
  have h3:=wn_t h.2.2.2.1
  have h4:=ansP_t hB h.2.2.2.2
  unfold lasIts
  rw [encB_cn,encB_cn,encB_cn,encB_cn,encB_cn,encB_cn,encB_cn,encB_nil0]
  have k1:=v2 (v:=(lAt ls i).cl) (by omega)
  have k2:=v6 (v:=(lAt ls i).op) (by omega)
  have k3:=v3 (v:=(lAt ls i).ins) (by omega)
  have k4:=v1 (v:=(lAt ls i).er) (by omega)
  have k5:=v2 (v:=(lAt ls i).f0) (by omega)
  have k6:=v6 (v:=(lAt ls i).f1) (by omega)
  have k7:=v5 (v:=(lAt ls i).sz) (by omega)
  omega
theorem fl_len2 {f:Nat→List It} {n M:Nat} (h:∀ i,i < n→(encB (f i)).length≤M):(encB (fl f n)).length≤n * M:=by
  induction n with
  | zero=>rw [fl0];simp [encB]
  | succ n ih=>
    rw [fl_succ,encB_ap,Nat.succ_mul]
    have:=ih (fun i hi=>h i (by omega))
    have:=h n (by omega)
    omega
theorem bkt_len {B rm:Int} {x:Bv} {es:List En} {ls:List La} (hB:0≤B∧B≤4096) (hr:0≤rm∧rm≤256) (he:es.length=x.e.l) (hl:ls.length=x.l.l) (h:bktP B rm x es ls=true):(((encB (bktIts x es ls)).length:Nat):Int)≤270*rm+6382∧x.e.l≤256∧x.l.l≤255:=by
  unfold bktP at h
  have key:((x.e.l:Nat):Int)≤rm∧x.l.l≤255∧0≤x.up∧x.up≤1048576∧(∀ i,i < x.e.l→entP B es i=true)∧∀ i,i < x.l.l→lasP B x.up ls i=true:=by
    cases e1:(x.up==0)
    · rw [e1] at h
      simp only[bsq] at h
      rw [Bool.and_eq_true,Bool.and_eq_true] at h
      have hu:=wn_t h.1
      have h2:=h.2.1
      unfold entsP at h2
      rw [Bool.and_eq_true] at h2
      have h3:¬ rm < ((es.length:Nat):Int):=by simpa using h2.1
      have h4:=rng_all h.2.2
      have h5:=las_cnt h4
      exact ⟨by omega,by omega,by omega,by omega,fun i hi=>rng_all h2.2 i (by omega),fun i hi=>h4 i (by omega)⟩
    · rw [e1] at h
      simp only[bsq] at h
      unfold empK at h
      rw [Bool.and_eq_true,Bool.and_eq_true] at h
      have h1:=eq_of_beq h.1
      have h2:=eq_of_beq h.2.1
      have h3:=eq_of_beq h.2.2
      exact ⟨by omega,by omega,by omega,by omega,fun i hi=>by omega,fun i hi=>by omega⟩
  obtain ⟨h1,h2,h3,h4,h5,h6⟩:=key
  have k1:=fl_len2 (f:=fun j=>entIts (eAt es j)) (n:=x.e.l) (M:=270) (fun i hi=>ent_len hB (h5 i hi))
  have k2:=fl_len2 (f:=fun j=>lasIts (lAt ls j)) (n:=x.l.l) (M:=25) (fun i hi=>las_len hB h4 (h6 i hi))
  unfold bktIts
  refine ⟨?_,by omega,h2⟩
  rw [encB_ap,encB_ap,encB_ap,encB_cn,encB_cn,encB_cn,encB_nil0]
  have k3:=v3 (v:=x.up) (by omega)
  have k4:=v2 (v:=((x.e.l:Nat):Int)) (by omega)
  have k5:=v2 (v:=((x.l.l:Nat):Int)) (by omega)
  omega
theorem whole_nil {a:Nat}:Wi.wholeB false (.ok [] a)=true:=by simp [Wi.wholeB,Wi.endS,Wi.errS]
theorem ao_end {st:Wi.RS} (h:AtO st []):Wi.wholeB false st=true:=by
  obtain ⟨⟨a,e⟩,_⟩:=h
  rw [e]
  exact whole_nil
theorem back_blk {B:Int} {x:Bl} {bs:List Int} {st:Wi.RS} (hl:bs.length=x.d.l) (h:blkB B x bs=true) (ha:AtO st (blkIts x bs)):stV st=x.s∧tV (Wi.aS st)=bs∧(Wi.wholeB false (blkS st)&&blkP B st)=true:=by
  obtain ⟨h1,h2⟩:=ao_2 (X:=[It.b bs]) ha
  obtain ⟨h3,h4⟩:=ao_b h2
  refine ⟨h1,h3,?_⟩
  rw [show Wi.wholeB false (blkS st)=true from ao_end h4,← blkP_is B st x.d (by rw [h3,hl]),h1,h3]
  simpa using h
theorem back_ins {B:Int} {x:In} {st:Wi.RS} (hB:0≤B∧B≤4096) (h:insP B x=true) (ha:AtO st (insIts x)):inV st=x∧(Wi.wholeB (Wi.fO false (cmS (Wi.aS (Wi.aS st)))) (inS st)&&insP B (inV st))=true:=by
  obtain ⟨_,_,_,hz⟩:=ins_key hB h
  unfold insIts at ha
  rw [List.append_assoc,List.append_assoc] at ha
  obtain ⟨h1,h2⟩:=ao_2 ha
  obtain ⟨h3,h4⟩:=ao_2 h2
  obtain ⟨h5,h6⟩:=ao_cm h4 hz
  obtain ⟨h7,h8⟩:=ao_n (X:=[]) h6
  have e:inV st=x:=by
    unfold inV
    rw [h1,h3,h5]
    have e2:Wi.fV (cmS (Wi.aS (Wi.aS st)))=x.d:=by
      unfold Wi.fV
      rw [h7]
      cases x.d <;> rfl
    rw [e2]
  have e3:Wi.fO false (cmS (Wi.aS (Wi.aS st)))=false:=by
    unfold Wi.fO
    rw [h7]
    cases x.d <;> rfl
  refine ⟨e,?_⟩
  rw [e,h,e3,show Wi.wholeB false (inS st)=true from ao_end h8]
  rfl
structure MsF (N:Nat) (w:World) (x e l c:Sl) (p:Pm):Prop where
  rb:RdB w x p.bs
  re:RdE w e p.es
  rl:RdL w l p.ls
  rc:RdC w c p.cs
  fb:∀ k,At x.a k→N≤k∧k < w.heap.size
  fe:∀ k,At e.a k→N≤k∧k < w.heap.size
  fl:∀ k,At l.a k→N≤k∧k < w.heap.size
  fc:∀ k,At c.a k→N≤k∧k < w.heap.size
theorem MsF.kept {N:Nat} {S:Nat→Prop} {w w':World} {x e l c:Sl} {p:Pm} (h:MsF N w x e l c p) (hk:Kept S w w') (hS:∀ k,N≤k→¬ S k):MsF N w' x e l c p:=
  ⟨h.rb.keptL hk (fun _ k e=>hS k (h.fb k e).1),h.re.keptL hk (fun _ k e=>hS k (h.fe k e).1),h.rl.keptL hk (fun _ k e=>hS k (h.fl k e).1),h.rc.keptL hk (fun _ k e=>hS k (h.fc k e).1),
    fun k e=>⟨(h.fb k e).1,Nat.lt_of_lt_of_le (h.fb k e).2 hk.size⟩,fun k e=>⟨(h.fe k e).1,Nat.lt_of_lt_of_le (h.fe k e).2 hk.size⟩,fun k e=>⟨(h.fl k e).1,Nat.lt_of_lt_of_le (h.fl k e).2 hk.size⟩,fun k e=>⟨(h.fc k e).1,Nat.lt_of_lt_of_le (h.fc k e).2 hk.size⟩⟩
structure Mf (N r g lb b b1 gm:Nat) (w0 w:World) (s:Wi.RS × Bool) (p:Pm):Prop where
  src:(rdSrc r g lb).St w s
  hb:Box w b 136 #[.pointer (some ⟨r,0,none⟩)]
  hb1:Box w b1 175 #[.pointer (some ⟨gm,0,none⟩)]
  msg:∃ x e l c,Box w gm 71 (Mg.cells (pmG p x e l c))∧MsF N w x e l c p
  lt:r < N∧g < N∧gm < N∧N≤w.heap.size
  ne:(b≠r∧b≠g∧b≠gm)∧(b1≠r∧b1≠g∧b1≠gm)∧gm≠r∧gm≠g∧gm≠lb
  kept:Kept (fun k=>k=r∨k=g∨k=gm) w0 w
section
variable {N r g lb b b1 gm:Nat} {w0 w w':World} {s s':Wi.RS × Bool} {p p':Pm}
theorem Mf.no (h:Mf N r g lb b b1 gm w0 w s p) (hk:Kept No w w'):Mf N r g lb b b1 gm w0 w' s p:=by
  obtain ⟨x,e,l,c,h1,h2⟩:=h.msg
  exact ⟨Src.no h.src hk,h.hb.kept hk (fun e=>e),h.hb1.kept hk (fun e=>e),⟨x,e,l,c,h1.kept hk (fun e=>e),h2.kept hk (fun _ _ e=>e)⟩,⟨h.lt.1,h.lt.2.1,h.lt.2.2.1,Nat.le_trans h.lt.2.2.2 hk.size⟩,h.ne,h.kept.then hk.of_no⟩
theorem Mf.step (h:Mf N r g lb b b1 gm w0 w s p) (hS:(rdSrc r g lb).St w' s') (hk:Kept (rdSrc r g lb).Wr w w'):Mf N r g lb b b1 gm w0 w' s' p:=by
  obtain ⟨x,e,l,c,h1,h2⟩:=h.msg
  obtain ⟨l1,l2,l3,l4⟩:=h.lt
  obtain ⟨⟨n1,n2,n3⟩,⟨m1,m2,m3⟩,g1,g2,g3⟩:=h.ne
  exact ⟨hS,h.hb.kept hk (fun e=>e.elim n1 n2),h.hb1.kept hk (fun e=>e.elim m1 m2),⟨x,e,l,c,h1.kept hk (fun e=>e.elim g1 g2),h2.kept hk (fun k e e2=>by rcases e2 with e2 | e2 <;> omega)⟩,⟨l1,l2,l3,Nat.le_trans l4 hk.size⟩,h.ne,h.kept.then (hk.mono (fun k _ e=>e.elim .inl (fun e=>.inr (.inl e))))⟩
theorem Mf.set (h:Mf N r g lb b b1 gm w0 w s p) {x e l c:Sl} (hb:∃ cur:Array Value,Box w gm 71 cur) (hm:MsF N w x e l c p'):Mf N r g lb b b1 gm w0 (w.setRow gm (Mg.cells (pmG p' x e l c))) s p':=by
  obtain ⟨cur,hb⟩:=hb
  obtain ⟨l1,l2,l3,l4⟩:=h.lt
  obtain ⟨⟨n1,n2,n3⟩,⟨m1,m2,m3⟩,g1,g2,g3⟩:=h.ne
  have hk:Kept (Only gm) w (w.setRow gm (Mg.cells (pmG p' x e l c))):=kept_row (Kept.refl (Only gm) w) (.inr rfl) _
  refine ⟨(rdSrc r g lb).far h.src hk (fun k e e2=>?_),h.hb.kept hk n3,h.hb1.kept hk m3,⟨x,e,l,c,hb.setRow _,hm.kept hk (fun k e e2=>?_)⟩,⟨l1,l2,l3,Nat.le_trans l4 hk.size⟩,h.ne,h.kept.then (hk.mono (fun k _ e=>.inr (.inr e)))⟩
  · have e:k=gm:=e
    rcases e2 with e2 | e2 | e2 <;> omega
  · have e2:k=gm:=e2
    omega
theorem Mf.start (h:Mf N r g lb b b1 gm w0 w s p):Mf N r g lb b b1 gm w w s p:=⟨h.src,h.hb,h.hb1,h.msg,h.lt,h.ne,Kept.refl _ _⟩
end
def Mx (N r g lb b b1 gm:Nat) (w0 w:World):Prop:=∃ s p,Mf N r g lb b b1 gm w0 w s p
section
variable {ops:Array Oper} {a:Act} {w w0:World} {Q:Exit→Act→World→Prop} {md:Region.Mode} {N r g lb b b1 gm:Nat} {s s':Wi.RS × Bool} {p p':Pm} {fuel:Nat} {listed:Array Bool}
theorem mT (i d:Nat) (HG:Hid (Mf N r g lb b b1 gm w0 w s p)) {v:Value} (hy:∀ w,Hid (Mx N r g lb b b1 gm w0 w)→(execOp a.eval (opA ops i)).run Tryz.prog w=.ok (.value v) w)
    (h:wpAnyH Tryz.prog md ops Q (fun w'=>Hid (Mx N r g lb b b1 gm w0 w')) fuel (listed.setIfInBounds i true) (a.put (some d) v) w)
    (hi:ops[i]?=some (opA ops i):=by kernel_rfl) (hd:(opA ops i).dst=some d:=by kernel_rfl) (hs:Region.noSelect ops=true:=by kernel_rfl) (hf:Region.free md ops listed i=true:=by kernel_rfl) (hr:(Region.ready md ops listed).contains i=true:=by kernel_rfl)
    (hQ:∀ c a w,Q (.panic c) (a.put (some d) v) w→Q (.panic c) a w:=by exact fun _ _ _ h=>h) (hw:Region.wanted (opA ops i) (yielded ops a.tmps)=true:=by kernel_rfl):wpAnyH Tryz.prog md ops Q (fun w'=>Hid (Mx N r g lb b b1 gm w0 w')) (fuel+1) listed a w:=
  any_take hi hs hf hr (by rw [hd];exact hQ) hw hy ⟨s,p,HG.out⟩ (by rw [hd];exact h)
theorem mK (i d:Nat) (HG:Hid (Mf N r g lb b b1 gm w0 w s p)) (v:Value)
    (h:wpAnyH Tryz.prog md ops Q (fun w'=>Hid (Mx N r g lb b b1 gm w0 w')) fuel (listed.setIfInBounds i true) (a.put (some d) v) w) (hy:∀ w,(execOp a.eval (opA ops i)).run Tryz.prog w=.ok (.value v) w:=by intro _;kernel_rfl)
    (hi:ops[i]?=some (opA ops i):=by kernel_rfl) (hd:(opA ops i).dst=some d:=by kernel_rfl) (hs:Region.noSelect ops=true:=by kernel_rfl) (hf:Region.free md ops listed i=true:=by kernel_rfl) (hr:(Region.ready md ops listed).contains i=true:=by kernel_rfl)
    (hQ:∀ c a w,Q (.panic c) (a.put (some d) v) w→Q (.panic c) a w:=by exact fun _ _ _ h=>h) (hw:Region.wanted (opA ops i) (yielded ops a.tmps)=true:=by kernel_rfl):wpAnyH Tryz.prog md ops Q (fun w'=>Hid (Mx N r g lb b b1 gm w0 w')) (fuel+1) listed a w:=
  mT i d HG (fun w _=>hy w) h hi hd hs hf hr hQ hw
theorem mC (i d:Nat) {f:FuncId} {args:Array Value} (HG:Hid (Mf N r g lb b b1 gm w0 w s p)) {C:Ending→World→Prop} (hc:Calls Tryz.prog f args w C)
    (h:∀ e w',C e w'→∃ v,e=.returned v∧(rdSrc r g lb).St w' s'∧Kept (rdSrc r g lb).Wr w w'∧(Hid (Mf N r g lb b b1 gm w0 w' s' p)→wpAnyH Tryz.prog md ops Q (fun w'=>Hid (Mx N r g lb b b1 gm w0 w')) fuel (listed.setIfInBounds i true) (a.put (some d) v) w'))
    (hi:ops[i]?=some (opA ops i):=by kernel_rfl) (hd:(opA ops i).dst=some d:=by kernel_rfl) (hr:Region.ready md ops listed=[i]:=by kernel_rfl) (hrun:(execOp a.eval (opA ops i)).run Tryz.prog w=.ok (.enter f args) w:=by kernel_rfl) (hw:Region.wanted (opA ops i) (yielded ops a.tmps)=true:=by kernel_rfl):wpAnyH Tryz.prog md ops Q (fun w'=>Hid (Mx N r g lb b b1 gm w0 w')) (fuel+1) listed a w:=
  any_call hi hr hw f args hrun _ hc (by
    intro e w' hg
    obtain ⟨v,h1,h2,h3,h4⟩:=h e w' hg
    have HM:=HG.out.step h2 h3
    exact ⟨v,h1,⟨s',p,HM⟩,fun _=>by rw [hd];exact h4 HM⟩)
end
theorem RdC.ofBox {w:World} {g n k:Nat} {es:List Cm} (hb:Box w g 45 (cmL es).toArray) (hl:es.length=n):RdC w ⟨some ⟨g,0,none⟩,n,k⟩ es:=by
  refine ⟨?_,hl,fun e=>by cases e⟩
  intro i it hi
  refine ⟨g,0,rfl,fun j v hv=>?_⟩
  have h1:=flat_get 9 _ (cmL_c es) i it hi j v hv
  rw [Nat.zero_add,hb.cell,List.getElem?_toArray]
  exact h1
theorem RdC.nilS (w:World):RdC w slZ []:=⟨RowsAt.nil _ _ _,rfl,fun _=>rfl⟩
section
variable {r g lb:Nat} {st:Wi.RS} {odd:Bool} {w:World}
end
theorem MsF.lower {N M:Nat} {w:World} {x e l c:Sl} {p:Pm} (h:MsF N w x e l c p) (hM:M≤N):MsF M w x e l c p:=
  ⟨h.rb,h.re,h.rl,h.rc,fun k e=>⟨Nat.le_trans hM (h.fb k e).1,(h.fb k e).2⟩,fun k e=>⟨Nat.le_trans hM (h.fe k e).1,(h.fe k e).2⟩,fun k e=>⟨Nat.le_trans hM (h.fl k e).1,(h.fl k e).2⟩,fun k e=>⟨Nat.le_trans hM (h.fc k e).1,(h.fc k e).2⟩⟩
theorem take_snoc {F:List Int} {i:Nat} (h:i < F.length):F.take (i+1)=F.take i++[F[i]?.getD 0]:=by rw [List.take_add_one,List.getElem?_eq_getElem h];rfl
structure LpS (N r g lb b b1 gm M ga gf:Nat) (F:List Int) (st:Wi.RS) (odd:Bool) (w0:World) (i:Nat) (w:World):Prop where
  mf:Mf N r g lb b b1 gm w0 w (fdsS bkE bkL cqF (F.take i) (Wi.t9 st),fdsO bkE bkL cqF (F.take i) (Wi.o2 odd st) (Wi.t9 st)) (fdsP bkE bkL cqF (F.take i) (hdP st) (Wi.t9 st))
  ans:Box w M 71 (Mg.cells mgZ)
  arr:Box w ga 173 (Wi.fldV b b1)
  fl:Box w gf 170 (i64L F).toArray
  ne:(M≠r∧M≠g∧M≠gm)∧(ga≠r∧ga≠g∧ga≠gm)∧gf≠r∧gf≠g∧gf≠gm
theorem LpS.step {N r g lb b b1 gm M ga gf:Nat} {F:List Int} {st:Wi.RS} {odd:Bool} {w0 w w':World} {i:Nat} {f:Int} (h:LpS N r g lb b b1 gm M ga gf F st odd w0 i w) (hlt:i < F.length) (hf:F[i]?.getD 0=f)
    (hm:Mf N r g lb b b1 gm w w' (fdS bkE bkL cqF f (fdsS bkE bkL cqF (F.take i) (Wi.t9 st)),fdO f (fdsO bkE bkL cqF (F.take i) (Wi.o2 odd st) (Wi.t9 st)) (fdsS bkE bkL cqF (F.take i) (Wi.t9 st))) (fdP bkE bkL cqF f (fdsP bkE bkL cqF (F.take i) (hdP st) (Wi.t9 st)) (fdsS bkE bkL cqF (F.take i) (Wi.t9 st)))) :
    LpS N r g lb b b1 gm M ga gf F st odd w0 (i+1) w':=by
  have hx:∀ k,k≠r∧k≠g∧k≠gm→¬ (k=r∨k=g∨k=gm):=fun k hk e=>by rcases e with e | e | e <;> omega
  refine ⟨?_,h.ans.kept hm.kept (hx _ h.ne.1),h.arr.kept hm.kept (hx _ h.ne.2.1),h.fl.kept hm.kept (hx _ h.ne.2.2),h.ne⟩
  rw [take_snoc hlt,hf,fdsS_snoc,fdsO_snoc,fdsP_snoc]
  exact ⟨hm.src,hm.hb,hm.hb1,hm.msg,hm.lt,hm.ne,h.mf.kept.then hm.kept⟩
def RmO (w0 W:World) (r g lb:Nat) (odd:Bool) (st:Wi.RS) (e:Ending) (w':World):Prop:=
  ∃ x es l c,e=.returned (.agg (Mg.cells (pmG (fdsP bkE bkL cqF (fieldsK (Wi.nV st)) (hdP st) (Wi.t9 st)) x es l c)))∧Wi.RdM w0 w' r g lb (fdsO bkE bkL cqF (fieldsK (Wi.nV st)) (Wi.o2 odd st) (Wi.t9 st)) (fdsS bkE bkL cqF (fieldsK (Wi.nV st)) (Wi.t9 st))∧MsF W.heap.size w' x es l c (fdsP bkE bkL cqF (fieldsK (Wi.nV st)) (hdP st) (Wi.t9 st))
theorem RmO.nil {w0 W:World} {r g lb:Nat} {odd:Bool} {st:Wi.RS} (h:Wi.RdM w0 W r g lb odd st) (hf:fieldsK (Wi.nV st)=[]):Calls Tryz.prog 58 #[.pointer (some ⟨r,0,none⟩)] W (RmO w0 W r g lb odd st):=by
  refine (Wi.readMsg_nil h hf).mono ?_
  rintro e w' ⟨rfl,hr⟩
  refine ⟨slZ,slZ,slZ,slZ,?_,?_,?_⟩
  · rw [hf];rfl
  · rw [hf];exact hr
  · rw [hf]
    exact ⟨RdB.nilS _,RdE.nilS _,RdL.nilS _,RdC.nilS _,fun k e=>absurd e At.none,fun k e=>absurd e At.none,fun k e=>absurd e At.none,fun k e=>absurd e At.none⟩
section
attribute [local go_sem ↓] Wi.run_zero71 Wi.run_store71
attribute [local go_sem] Wi.box_new Wi.build71 Wi.run_cells71 Wi.mZ_size Wi.mZ_ne
end
section
variable {K:Src} {x:Sl} {xs:List Int} {s s':Wi.RS × Bool} {w w':World}
end
section
variable {ops:Array Oper} {o:Oper} {a:Act} {w:World} {Q:Exit→Act→World→Prop} {md:Region.Mode} {K:Src} {w0:World} {s s':Wi.RS × Bool} {l:List (Nat × TypeId × Array Value)} {fuel:Nat} {listed:Array Bool}
end
structure MsR (w0 w:World) (x e l c:Sl) (p:Pm):Prop where
  m:MgIn w (pmG p x e l c) p.bs p.es p.ls p.cs
  fe:∀ k,At e.a k→w0.heap.size≤k
  fl:∀ k,At l.a k→w0.heap.size≤k
  fc:∀ k,At c.a k→w0.heap.size≤k
def pmZ:Pm:=⟨0,adZ,adZ,0,0,kyZ,spZ,spZ,[],cZ,0,[],[],[],false⟩
structure PmB (p:Pm):Prop where
  u:Wi.U8 p.bs
  b:p.bs.length≤131072
  e:p.es.length≤257
  l:p.ls.length≤256
  c:p.cs.length≤65
theorem MsF.kept2 {N:Nat} {S:Nat→Prop} {w w':World} {x e l c:Sl} {p:Pm} (h:MsF N w x e l c p) (hk:Kept S w w') (hS:∀ k,N≤k→k < w.heap.size→¬ S k):MsF N w' x e l c p:=
  ⟨h.rb.keptL hk (fun _ k e=>hS k (h.fb k e).1 (h.fb k e).2),h.re.keptL hk (fun _ k e=>hS k (h.fe k e).1 (h.fe k e).2),h.rl.keptL hk (fun _ k e=>hS k (h.fl k e).1 (h.fl k e).2),h.rc.keptL hk (fun _ k e=>hS k (h.fc k e).1 (h.fc k e).2),
    fun k e=>⟨(h.fb k e).1,Nat.lt_of_lt_of_le (h.fb k e).2 hk.size⟩,fun k e=>⟨(h.fe k e).1,Nat.lt_of_lt_of_le (h.fe k e).2 hk.size⟩,fun k e=>⟨(h.fl k e).1,Nat.lt_of_lt_of_le (h.fl k e).2 hk.size⟩,fun k e=>⟨(h.fc k e).1,Nat.lt_of_lt_of_le (h.fc k e).2 hk.size⟩⟩
structure RdS (w:World) (x:Sl) (ss:List Sl):Prop where
  row:RowsAt 1 w x.a (ss.map (fun s=>[s.v]))
  len:ss.length=x.l
def sAt (ss:List Sl) (i:Nat):Sl:=ss[i]?.getD slZ
theorem RdS.at' {w:World} {s:Sl} {es:List Sl} (h:RdS w s es) {i:Nat} (hi:i < s.l):∃ b off,s.v=.slice (some ⟨b,off,none⟩) s.l s.k∧∀ (j:Nat) v,[(sAt es i).v][j]?=some v→w.cell? ⟨b,off+i*1+j,none⟩=some v:=by
  obtain ⟨b,off,ha,hc⟩:=h.row i [(sAt es i).v] (by rw [List.getElem?_map,show es[i]?=some (sAt es i) by simp [sAt,List.getElem?_eq_getElem (show i < es.length by rw [h.len];exact hi)]];rfl)
  exact ⟨b,off,by unfold Sl.v;rw [ha],hc⟩
theorem E28:Tryz.prog.underlying 28=some (.slice (Tryz.prog.elem 28)):=by kernel_rfl
theorem F28:(Tryz.prog.info? (Tryz.prog.elem 28)).map (·.size)=some 1:=by kernel_rfl
def SealO (w:World) (zs:List Int) (e:Ending) (w':World):Prop:=∃ s:Sl,e=.returned s.v∧Wi.Sl w' s.a s.l s.k zs∧Kept No w w'
section
variable {ops:Array Oper} {a:Act} {w:World} {Q:Exit→Act→World→Prop} {md:Region.Mode} {S:Nat→Prop} {w0:World} {l:List (Nat × TypeId × Array Value)} {fuel:Nat} {listed:Array Bool}
theorem ySl (i d:Nat) {f:FuncId} {args:Array Value} (hc:∃ zs,Calls Tryz.prog f args w (SealO w zs)) (HF:Hid (Fq S w0 w l))
    (h:∀ (s:Sl) zs w',Hid (Fq S w0 w' l)→Hid (Wi.Sl w' s.a s.l s.k zs)→wpAnyH Tryz.prog md ops Q (fun w'=>Hid (Fq S w0 w' l)) fuel (listed.setIfInBounds i true) (a.put (some d) s.v) w')
    (hi:ops[i]?=some (opA ops i):=by kernel_rfl) (hd:(opA ops i).dst=some d:=by kernel_rfl) (hr:Region.ready md ops listed=[i]:=by kernel_rfl) (hrun:(execOp a.eval (opA ops i)).run Tryz.prog w=.ok (.enter f args) w:=by kernel_rfl) (hw:Region.wanted (opA ops i) (yielded ops a.tmps)=true:=by kernel_rfl):wpAnyH Tryz.prog md ops Q (fun w'=>Hid (Fq S w0 w' l)) (fuel+1) listed a w:=by
  obtain ⟨zs,hc⟩:=hc
  exact any_call hi hr hw f args hrun _ hc (by rintro e w' ⟨s,rfl,h1,hk⟩;exact ⟨_,rfl,HF.out.no hk,fun HF=>by rw [hd];exact h s zs w' HF h1⟩)
end
def EncS (w:World) (err:Int) (bytes:List Int) (e:Ending) (w':World):Prop:=∃ s:Sl,e=.returned (.tuple #[s.v,.int .i64 err])∧Wi.OwnS w' w.heap.size s.a s.k bytes∧s.l=bytes.length∧s.l≤131084∧Kept No w w'
section
variable {ops:Array Oper} {rest:List Oper} {o:Oper} {a:Act} {w:World} {Q:Exit→Act→World→Prop} {S:Nat→Prop} {w0:World} {l:List (Nat × TypeId × Array Value)}
theorem cEnS {f:FuncId} {args:Array Value} {err:Int} {bytes:List Int} (hc:Calls Tryz.prog f args w (EncS w err bytes)) (HF:Hid (Fq S w0 w l))
    (h:∀ (s:Sl) w',Hid (Fq S w0 w' l)→Hid (Wi.OwnS w' w0.heap.size s.a s.k bytes∧s.l=bytes.length)→s.l≤131084→WL ops Q rest (a.put o.dst (.tuple #[s.v,.int .i64 err])) w') (hrun:(execOp a.eval o).run Tryz.prog w=.ok (.enter f args) w:=by kernel_rfl) (hw:Region.wanted o (yielded ops a.tmps)=true:=by kernel_rfl):WL ops Q (o :: rest) a w:=
  wp_callW f args hrun _ hc hw (by rintro e w' ⟨s,rfl,h1,h2,h3,hk⟩;exact ⟨_,rfl,h s w' (HF.out.no hk) ⟨h1.lower HF.out.kept.size,h2⟩ h3⟩)
end
def dcd (ys:List Int):Pm:=mPm bkE bkL cqF (.ok (Wi.openOf ys).1 0)
theorem I30:(Tryz.prog.info? 30).map (fun i=>(i.zero,i.size,i.bytes))=some (some (.slice none 0 0),1,24):=by kernel_rfl
theorem I71:(Tryz.prog.info? 71).map (fun i=>(i.zero,i.size,i.bytes))=some (some (.agg (Mg.cells mgZ)),30,312):=by kernel_rfl
theorem J28:Tryz.prog.underlying 28=some (.slice 30):=by kernel_rfl
theorem J62:Tryz.prog.underlying 62=some (.slice 71):=by kernel_rfl
structure Ent where
  x:Sl
  A:List Int
  b:Sl
  e:Sl
  l:Sl
  c:Sl
  p:Pm
def Ent.m (t:Ent):Mg:=pmG t.p t.b t.e t.l t.c
def entZ:Ent:=⟨slZ,[],slZ,slZ,slZ,slZ,pmZ⟩
def tAt (E:List Ent) (k:Nat):Ent:=E[k]?.getD entZ
structure EnOk (aa oa:Option Addr) (w:World) (t:Ent):Prop where
  s:Wi.Sl w t.x.a t.x.l t.x.k t.A
  m:MgIn w t.m t.p.bs t.p.es t.p.ls t.p.cs
  far:∀ k,At t.x.a k∨At t.b.a k∨At t.e.a k∨At t.l.a k∨At t.c.a k→k < w.heap.size∧¬ At aa k∧¬ At oa k
  d:dcd t.A=t.p
theorem EnOk.kept {S:Nat→Prop} {aa oa:Option Addr} {w w':World} {t:Ent} (h:EnOk aa oa w t) (hk:Kept S w w') (hS:∀ k,k < w.heap.size→S k→At aa k∨At oa k) (aa' oa':Option Addr) (ha:∀ k,At aa' k→At aa k∨w.heap.size≤k) (ho:∀ k,At oa' k→At oa k∨w.heap.size≤k):EnOk aa' oa' w' t:=by
  have hn:∀ k,At t.x.a k∨At t.b.a k∨At t.e.a k∨At t.l.a k∨At t.c.a k→¬ S k:=fun k hk2 e=>(hS k (h.far k hk2).1 e).elim (h.far k hk2).2.1 (h.far k hk2).2.2
  refine ⟨h.s.kept2 (wkS hk) (fun _ k e=>hn k (.inl e)),⟨h.m.b.keptL hk (fun _ k e=>hn k (.inr (.inl e))),h.m.e.keptL hk (fun _ k e=>hn k (.inr (.inr (.inl e)))),h.m.l.keptL hk (fun _ k e=>hn k (.inr (.inr (.inr (.inl e))))),h.m.c.keptL hk (fun _ k e=>hn k (.inr (.inr (.inr (.inr e))))),h.m.nb,h.m.ne,h.m.nl,h.m.nc,h.m.u⟩,fun k e=>?_,h.d⟩
  obtain ⟨h1,h2,h3⟩:=h.far k e
  exact ⟨Nat.lt_of_lt_of_le h1 hk.size,fun e2=>(ha k e2).elim h2 (fun h=>by omega),fun e2=>(ho k e2).elim h3 (fun h=>by omega)⟩
structure BkL (w0 w:World) (aa:Option Addr) (ca:Nat) (oa:Option Addr) (co:Nat) (E:List Ent):Prop where
  ra:Own 30 1 w w0.heap.size aa ca E.length (E.map (fun t=>t.x.v))
  ro:Own 71 30 w w0.heap.size oa co E.length ((E.map (fun t=>Mg.cs t.m)).flatten)
  ok:∀ t∈E,EnOk aa oa w t
theorem BkL.nil (w:World):BkL w w none 0 none 0 []:=⟨Own.nil _ _ _ _,Own.nil _ _ _ _,fun t h=>by simp at h⟩
theorem BkL.no {w0 w w':World} {aa:Option Addr} {ca:Nat} {oa:Option Addr} {co:Nat} {E:List Ent} (h:BkL w0 w aa ca oa co E) (hk:Kept No w w'):BkL w0 w' aa ca oa co E:=
  ⟨h.ra.no hk,h.ro.no hk,fun t ht=>(h.ok t ht).kept hk (fun k _ e=>e.elim) aa oa (fun k e=>.inl e) (fun k e=>.inl e)⟩
theorem BkL.dj {w0 w:World} {aa:Option Addr} {ca:Nat} {oa:Option Addr} {co:Nat} {E:List Ent} (h:BkL w0 w aa ca oa co E) {k:Nat} (h1:At aa k) (h2:At oa k):False:=by
  obtain ⟨x,hx⟩:=own_typ h.ra h1
  obtain ⟨y,hy⟩:=own_typ h.ro h2
  have:=cells_ty hx hy
  cases this
theorem BkL.rows {w0 w:World} {aa:Option Addr} {ca:Nat} {oa:Option Addr} {co:Nat} {E:List Ent} (h:BkL w0 w aa ca oa co E):RdS w ⟨aa,E.length,ca⟩ (E.map (·.x))∧RdM w ⟨oa,E.length,co⟩ (E.map (·.m)):=by
  have e1:∀ E:List Ent,E.map (fun t=>t.x.v)=(E.map (fun t=>[t.x.v])).flatten:=fun E=>by
    induction E with
    | nil=>rfl
    | cons t E ih=>simp [ih]
  have h1:=h.ra
  rw [e1] at h1
  refine ⟨⟨?_,by simp⟩,⟨?_,by simp⟩⟩
  · rw [List.map_map]
    exact Own.rows h1 (fun x hx=>by obtain ⟨t,_,rfl⟩:=List.mem_map.1 hx;rfl) (by omega)
  · rw [List.map_map]
    exact Own.rows h.ro (fun x hx=>by obtain ⟨t,_,rfl⟩:=List.mem_map.1 hx;rfl) (by omega)
theorem BkL.at' {w0 w:World} {aa:Option Addr} {ca:Nat} {oa:Option Addr} {co:Nat} {E:List Ent} (h:BkL w0 w aa ca oa co E) {k:Nat} (hk:k < E.length):EnOk aa oa w (tAt E k):=by
  have e:tAt E k=E[k]:=by unfold tAt;rw [List.getElem?_eq_getElem hk];rfl
  rw [e];exact h.ok _ (List.getElem_mem hk)
theorem BkL.push {w0 W:World} {aa:Option Addr} {ca:Nat} {oa:Option Addr} {co:Nat} {E:List Ent} (h:BkL w0 W aa ca oa co E) (h0:w0.heap.size≤W.heap.size) (t:Ent) (ht:EnOk aa oa W t) (hn:(E.length+1) * 312≤140737488355328) (t1 t2:TypeId) :
    ∃ a' c' w2,(Builtin.append_ #[28,28] t1 #[.slice aa E.length ca,.slice (some ⟨W.heap.size,0,none⟩) 1 1]).run Tryz.prog (W.alloc (.cells #[t.x.v] 30))=.ok (.slice a' (E.length+1) c') w2∧Kept (At aa) W w2 ∧
    ∃ o' d' w3,(Builtin.append_ #[62,62] t2 #[.slice oa E.length co,.slice (some ⟨w2.heap.size,0,none⟩) 1 1]).run Tryz.prog (w2.alloc (.cells (Mg.cells t.m) 71))=.ok (.slice o' (E.length+1) d') w3∧Kept (fun k=>At aa k∨At oa k) W w3∧BkL w0 w3 a' c' o' d' (E++[t]):=by
  have hk0:Kept No W (W.alloc (.cells #[t.x.v] 30)):=(Kept.refl No W).alloc _
  have hb0:Box (W.alloc (.cells #[t.x.v] 30)) W.heap.size 30 #[t.x.v]:=Box.new _ _ _
  have hv:∀ u∈[t.x.v],u.oneCell'=true:=by simp [Sl.v,Value.oneCell']
  obtain ⟨a',c',w2,hr,hO,hk,hat⟩:=run_appN (w:=W.alloc (.cells #[t.x.v] 30)) 28 t1 30 1 24 _ J28 I30 rfl (by omega) w0.heap.size E.length ca aa _ (h.ra.no hk0) (some ⟨W.heap.size,0,none⟩) 1 1 [t.x.v] rfl (fun e=>by cases e) (fun j u hj=>⟨_,rfl,by rw [addr_add,Nat.zero_add,hb0.cell,List.getElem?_toArray];exact hj⟩) hv (by omega) (by omega) (Nat.le_trans h0 hk0.size)
  have k1:Kept (At aa) W w2:=hk0.of_no.then hk
  have hro:Own 71 30 w2 w0.heap.size oa co E.length ((E.map (fun t=>Mg.cs t.m)).flatten):=h.ro.kept k1 (fun k e e2=>h.dj e2 e)
  have hk3:Kept No w2 (w2.alloc (.cells (Mg.cells t.m) 71)):=(Kept.refl No w2).alloc _
  have hb3:Box (w2.alloc (.cells (Mg.cells t.m) 71)) w2.heap.size 71 (Mg.cells t.m):=Box.new _ _ _
  obtain ⟨o',d',w3,hr2,hO2,hk4,hat2⟩:=run_appN (w:=w2.alloc (.cells (Mg.cells t.m) 71)) 62 t2 71 30 312 _ J62 I71 rfl (by omega) w0.heap.size E.length co oa _ (hro.no hk3) (some ⟨w2.heap.size,0,none⟩) 1 1 (Mg.cs t.m) rfl (fun e=>by cases e) (fun j u hj=>⟨_,rfl,by rw [addr_add,Nat.zero_add,hb3.cell];exact (List.getElem?_toArray ..).trans hj⟩) (Mg.oneL _) (by omega) (by omega) (Nat.le_trans (Nat.le_trans h0 k1.size) hk3.size)
  have k2:Kept (At oa) w2 w3:=hk3.of_no.then hk4
  have k3:Kept (fun k=>At aa k∨At oa k) W w3:=k1.trans k2 (fun _ e=>.inl e) (fun _ _ e=>.inr e)
  have s1:W.heap.size+1=(W.alloc (.cells #[t.x.v] 30)).heap.size:=by simp
  have s2:w2.heap.size+1=(w2.alloc (.cells (Mg.cells t.m) 71)).heap.size:=by simp
  have ha:∀ k,At a' k→At aa k∨W.heap.size≤k:=fun k e=>(hat k e).elim .inl (fun e=>.inr (by omega))
  have ho:∀ k,At o' k→At oa k∨W.heap.size≤k:=fun k e=>(hat2 k e).elim .inl (fun e=>.inr (by have:=k1.size;omega))
  refine ⟨a',c',w2,hr,k1,o',d',w3,hr2,k3,?_,?_,?_⟩
  · have hO':=hO.kept k2 (fun k e e2=>by
      have hx:=own_lt hO e
      rcases hat k e with e3 | e3
      · exact h.dj e3 e2
      · obtain ⟨z,hz⟩:=own_typ h.ro e2
        have:=own_lt h.ro e2
        omega)
    rw [List.map_append,List.length_append]
    exact hO'
  · rw [List.map_append,List.length_append,List.flatten_append]
    exact hO2
  · intro t' ht'
    rcases List.mem_append.1 ht' with h1 | h1
    · exact (h.ok t' h1).kept k3 (fun k _ e=>e) a' o' ha ho
    · rw [List.mem_singleton.1 h1]
      exact ht.kept k3 (fun k _ e=>e) a' o' ha ho
end Go.Proofs.YtgdnofacgfjaeabGreat.Md
