import Derived.Test.YtgdnofacgfjaeabGreatNf
import Derived.Test.YtgdnofacgfjaeabGreatWiZx
import Derived.Test.YtgdnofacgfjaeabGreatIb
import Derived.Test.YtgdnofacgfjaeabGreatHb
import Derived.Laws.Small
namespace Go.Proofs.YtgdnofacgfjaeabGreat.Md
open Go.RowKit
set_option linter.unusedVariables false
set_option linter.unusedSimpArgs false
section
variable {ops:Array Oper} {rest:List Oper} {o:Oper} {a:Act} {w:World} {Q:Exit→Act→World→Prop} {K:Src} {w0:World} {s s':Wi.RS × Bool} {l:List (Nat × TypeId × Array Value)}
end
theorem sl_rd {w:World} {x:Sl} {bs:List Int} (h:Wi.Sl w x.a x.l x.k bs):RdB w x bs:=⟨h.bytes,h.len,h.nil⟩
def outI (b:Bool) (ys:List Int) (good:Bool):In × Int:=
  bif b then (bif (Wi.openOf ys).2==0 then (bif good then (inV (.ok (Wi.openOf ys).1 0),0) else (inZ',11)) else (inZ',(Wi.openOf ys).2)) else (inZ',20)
def outB (b:Bool) (ys:List Int) (good:Bool):Sp × List Int × Int:=
  bif b then (bif (Wi.openOf ys).2==0 then (bif good then (stV (.ok (Wi.openOf ys).1 0),tV (Wi.aS (.ok (Wi.openOf ys).1 0)),0) else (spZ,[],11)) else (spZ,[],(Wi.openOf ys).2)) else (spZ,[],20)
def InsO (w:World) (r:In × Int) (e:Ending) (w':World):Prop:=e=.returned (.tuple #[.agg (In.cells r.1),.int .i64 r.2])∧Kept No w w'
def BlkO (w:World) (r:Sp × List Int × Int) (e:Ending) (w':World):Prop:=∃ s:Sl,e=.returned (.tuple #[.agg (Bl.cells ⟨r.1,s⟩),.int .i64 r.2.2])∧RdB w' s r.2.1∧s.l≤281474976710656∧Kept No w w'
theorem and_l {a b:Bool} (h:(a&&b)=true):a=true:=by cases a <;> simp_all
theorem and_r {a b:Bool} (h:(a&&b)=true):b=true:=by cases a <;> simp_all
theorem all_one {l:List Value} (h:∀ v∈l,v.oneCell'=true):l.toArray.all (·.oneCell')=true:=by
  rw [List.all_toArray];exact List.all_eq_true.2 h
theorem in_one (x:In):(In.cells x).all (·.oneCell')=true:=all_one (In.oneL x)
theorem p_ReadI0 (x:Sl) (ys:List Int) (c:Cg) (zs:List Int) (w:World) (hc:CgIn w c zs) (hx:Wi.Sl w x.a x.l x.k ys):Calls Tryz.prog 12 #[x.v,.agg (Cg.cells c)] w
    (InsO w (outI (cfgP c zs) ys (Wi.wholeB (Wi.fO false (cmS (Wi.aS (Wi.aS (.ok (Wi.openOf ys).1 0))))) (inS (.ok (Wi.openOf ys).1 0))&&insP c.bl (inV (.ok (Wi.openOf ys).1 0))))):=by
  cases hq:cfgP c zs with
  | false=>
    refine (Wi.eNoReadInst x.a x.l x.k c.sv.a c.sv.l c.sv.k zs c.f c.po c.bu c.bl c.rm w hc.wi hq).mono ?_
    rintro e w' ⟨rfl,hk⟩
    exact ⟨rfl,kw hk⟩
  | true=>
    cases ho:((Wi.openOf ys).2==0) with
    | false=>
      refine (Wi.eReadInst x.a x.l x.k c.sv.a c.sv.l c.sv.k zs c.f c.po c.bu c.bl c.rm w (fun W cs e w'=>cs=Wi.zI∧e=(Wi.openOf ys).2) (fun W hW=>?_)).mono ?_
      · exact (Wi.unpackInst_shut x.a x.l x.k ys _ _ _ c.sv.a c.sv.l c.sv.k zs c.f c.po c.bu c.bl c.rm W (hc.wi.no hW) hq (hx.no hW) (by simpa using ho)).mono (fun e w' ⟨a,b⟩=>⟨_,_,a,rfl,Wi.zI_one,b,rfl,rfl⟩)
      · rintro e w' ⟨cs,x,W,w1,rfl,hW,⟨rfl,rfl⟩,hk,hk'⟩
        refine ⟨?_,kw hk'⟩
        simp only[outI,cond_true,cond_false,ho]
        rfl
    | true=>
      have h0:(Wi.openOf ys).2=0:=eq_of_beq ho
      obtain ⟨good,hg⟩:∃ b,(Wi.wholeB (Wi.fO false (cmS (Wi.aS (Wi.aS (.ok (Wi.openOf ys).1 0))))) (inS (.ok (Wi.openOf ys).1 0))&&insP c.bl (inV (.ok (Wi.openOf ys).1 0)))=b:=⟨_,rfl⟩
      rw [hg]
      refine (Wi.eReadInst x.a x.l x.k c.sv.a c.sv.l c.sv.k zs c.f c.po c.bu c.bl c.rm w (fun W cs e w'=>cs=In.cells (bif good then inV (.ok (Wi.openOf ys).1 0) else inZ')∧e=bif good then 0 else 11) (fun W hW=>?_)).mono ?_
      · refine (Wi.unpackInst_all x.a x.l x.k ys 11 c.sv.a c.sv.l c.sv.k zs c.f c.po c.bu c.bl c.rm W (hc.wi.no hW) hq (hx.no hW) h0 (open_u8 hx.u8) (by have:=(open_form hx.u8 h0).2;omega)
          (Wi.fO false (cmS (Wi.aS (Wi.aS (.ok (Wi.openOf ys).1 0))))) (inS (.ok (Wi.openOf ys).1 0)) (insP c.bl (inV (.ok (Wi.openOf ys).1 0))) (fun _ _ cs=>cs=In.cells (inV (.ok (Wi.openOf ys).1 0)))
          (fun _ _ cs h=>by subst h;exact ⟨rfl,in_one _⟩) (fun _ _ _ cs h _=>h) (fun W2 r g lb hk hR=>?_) (fun _ W2 cs hk h=>?_)).mono ?_
        · refine (p_rinst (r:=r) (g:=g) (lb:=lb) (st:=.ok (Wi.openOf ys).1 0) (odd:=false) (w:=W2) hR).mono ?_
          rintro e w' ⟨rfl,h1,h2⟩
          exact ⟨_,rfl,Wi.RdM.since h1 (wkS h2),rfl⟩
        · subst h
          exact wcall (p_rightInstance _ c W2 (cfg_bl hq))
        · rintro e w' ⟨cs,rfl,⟨W0,_,rfl⟩,hk⟩
          rw [hg]
          refine ⟨_,_,rfl,?_,?_,hk,?_,?_⟩
          · cases good <;> rfl
          · cases good
            · exact Wi.zI_one
            · exact in_one _
          · cases good <;> rfl
          · cases good <;> rfl
      · rintro e w' ⟨cs,x,W,w1,rfl,hW,⟨rfl,rfl⟩,hk,hk'⟩
        refine ⟨?_,kw hk'⟩
        simp only[outI,cond_true,cond_false,ho]
        cases good <;> rfl
theorem good_ins {c:Cg} {zs ys:List Int} (h8:Wi.U8 ys) (hq:cfgP c zs=true) (ho:((Wi.openOf ys).2==0)=true) :
    (Wi.wholeB (Wi.fO false (cmS (Wi.aS (Wi.aS (.ok (Wi.openOf ys).1 0))))) (inS (.ok (Wi.openOf ys).1 0))&&insP c.bl (inV (.ok (Wi.openOf ys).1 0))) =
    (((Wi.errS (inS (.ok (Wi.openOf ys).1 0))).2==0)&&(!Wi.moreS (inS (.ok (Wi.openOf ys).1 0))&&((jdg (cfgP c zs) (insP c.bl (inV (.ok (Wi.openOf ys).1 0))) 1==0)&&decide (encR (cfgP c zs&&insP c.bl (inV (.ok (Wi.openOf ys).1 0))) (insIts (inV (.ok (Wi.openOf ys).1 0)))=ys)))):=by
  rw [fin_ins (body:=(Wi.openOf ys).1) h8 (eq_of_beq ho) rfl (fun h=>ins_ok (cfg_bl hq) h),hq]
  cases insP c.bl (inV (.ok (Wi.openOf ys).1 0)) <;> rfl
end Go.Proofs.YtgdnofacgfjaeabGreat.Md
namespace Go.Proofs.YtgdnofacgfjaeabGreat.Wi
open Go.RowKit
set_option linter.unusedVariables false
def BytesOut (w0 W:World) (r g lb:Nat) (odd:Bool) (st:RS) (e:Ending) (w':World):Prop:=
  ∃ a' n' c',e=.returned (.slice a' n' c')∧n'=(bytesS st).2.length∧OwnS w' W.heap.size a' c' (bytesS st).2∧RdM w0 w' r g lb odd (bytesS st).1∧w'.cell? ⟨r,0,none⟩=some (.pointer (some ⟨g,0,none⟩))
theorem RdM.bytes {w0 W:World} {r g lb:Nat} {odd:Bool} {st:RS} (h:RdM w0 W r g lb odd st) :
    Calls Tryz.prog 83 #[.pointer (some ⟨g,0,none⟩)] W (BytesOut w0 W r g lb odd st):=by
  refine (Bytes_all g lb st W h.rs).mono ?_
  rintro e w' ⟨a',n',c',rfl,hn,hO,h1,h2⟩
  have H:RdM w0 w' r g lb odd (bytesS st).1:=⟨h.box.kept h2 (fun e=>h.rg e),h1,h.rg,h.rl,Nat.lt_of_lt_of_le h.ltl h2.size,h.kept.then (h2.mono (fun i _ e=>.inr e))⟩
  exact ⟨a',n',c',rfl,hn,hO,H,H.c0⟩
def BlockOut (w0 W:World) (r g lb:Nat) (odd:Bool) (st:RS) (e:Ending) (w':World):Prop:=
  ∃ a' n' c',e=.returned (.agg #[.int .i64 (nV st),.int .i64 (nV (nS st)),.slice a' n' c'])∧n'=(bytesS (aS st)).2.length∧OwnS w' (W.heap.size+1) a' c' (bytesS (aS st)).2∧RdM w0 w' r g lb odd (bytesS (aS st)).1
set_option maxRecDepth 100000 in
set_option maxHeartbeats 2000000 in
theorem RdM.block {w0 W:World} {r g lb:Nat} {odd:Bool} {st:RS} (h:RdM w0 W r g lb odd st) :
    Calls Tryz.prog 40 #[.pointer (some ⟨r,0,none⟩)] W (BlockOut w0 W r g lb odd st):=by
  have HR:Hid (RdM w0 W r g lb odd st):=h
  have q0:=h.c0
  clear h
  go_enter Tryz.func40,Tryz.ntmps40
  go_upto_region 1 with fail
  obtain ⟨w1,hw1⟩:∃ w1,w1=W.alloc (.cells #[.int .i64 0,.int .i64 0,.slice none 0 0] 37):=⟨_,rfl⟩
  rw [← hw1]
  have hk1:Kept No W w1:=by rw [hw1];exact (Kept.refl No W).alloc _
  have HB1:Hid (Box w1 W.heap.size 37 #[.int .i64 0,.int .i64 0,.slice none 0 0]):=by rw [hw1];exact Box.new _ _ _
  have HR1:Hid (RdM w0 w1 r g lb odd st):=HR.out.no hk1
  have q1:=HR1.out.c0
  have HN:Hid (W.heap.size≠r∧W.heap.size≠g∧W.heap.size≠lb∧w0.heap.size≤W.heap.size∧W.heap.size+1≤w1.heap.size):=⟨by have:=HR.out.ltr;omega,by have:=HR.out.ltg;omega,by have:=HR.out.ltl;omega,HR.out.kept.size,HB1.out.lt⟩
  have HA:Hid (RdM w1 w1 r g lb odd st):=HR1.out.anew
  have HKs:Hid (Kept (fun k=>k=r∨k=g) w0 w1):=HR1.out.kept
  have n1:W.heap.size≠r:=HN.out.1
  have n2:r≠W.heap.size:=fun e=>n1 e.symm
  clear hk1 hw1 q0 HR HR1
  go_region_held3 (fun w'=>w'.cell? ⟨r,0,none⟩=some (.pointer (some ⟨g,0,none⟩))) (go_keep) (first
    | (go_at_call 82;refine ((HA.out.no ((Kept.refl No _).drew)).stamp).mono ?_;rintro e w2 ⟨rfl,hr2,q2⟩;have HR2:Hid (RdM w1 w2 r g lb odd (aS st)):=hr2;clear hr2)
    | (go_at_call 83;refine (HR2.out.bytes).mono ?_;rintro e w3 ⟨a3,m3,c3,rfl,hn3,hO3,hr3,q3⟩;have HR3:Hid (RdM w1 w3 r g lb odd (bytesS (aS st)).1):=hr3;have HO3:Hid (m3=(bytesS (aS st)).2.length∧OwnS w3 w2.heap.size a3 c3 (bytesS (aS st)).2∧w1.heap.size≤w2.heap.size):=⟨hn3,hO3,HR2.out.kept.size⟩;have HB3:Hid (Box w3 W.heap.size 37 #[.int .i64 0,.int .i64 0,.slice none 0 0]):=hr3.other HB1.out HN.out.1 HN.out.2.1;have b0:=HB3.out.cell 0;have b1:=HB3.out.cell 1;have b2:=HB3.out.cell 2;have f0:=HB3.out.frozen 0;have f1:=HB3.out.frozen 1;have f2:=HB3.out.frozen 2;clear hr3 hn3 hO3))
  have hk:∀ (X:World) (i:Nat) (v:Value),Kept (Only W.heap.size) X (X.setCell ⟨W.heap.size,i,none⟩ v):=fun X i v=>(Kept.refl (Only W.heap.size) X).setCell (p:=⟨W.heap.size,i,none⟩) (fun _=>rfl) _
  obtain ⟨w4,hw4⟩:∃ w4,w4=((w3.setCell ⟨W.heap.size,0,none⟩ (.int .i64 (nV st))).setCell ⟨W.heap.size,1,none⟩ (.int .i64 (nV (nS st)))).setCell ⟨W.heap.size,2,none⟩ (.slice a3 m3 c3):=⟨_,rfl⟩
  have hk4:Kept (Only W.heap.size) w3 w4:=by rw [hw4];exact ((hk w3 0 _).then (hk _ 1 _)).then (hk _ 2 _)
  have HF:Hid (Box w4 W.heap.size 37 #[.int .i64 (nV st),.int .i64 (nV (nS st)),.slice a3 m3 c3]):=by rw [hw4];exact ((HB3.out.set 0 _).set 1 _).set 2 _
  have HRF:Hid (RdM w0 w4 r g lb odd (bytesS (aS st)).1):=(HR3.out.since HKs.out).apart hk4 (fun e=>n2 e) (fun e=>HN.out.2.1 e.symm) (fun e=>HN.out.2.2.1 e.symm) (fun i hi e=>by have h1:=HN.out.2.2.2.1;have h2:i=W.heap.size:=e;omega)
  have HOF:Hid (OwnS w4 (W.heap.size+1) a3 c3 (bytesS (aS st)).2):=(HO3.out.2.1.lower (by have:=HO3.out.2.2;have:=HN.out;omega)).kept hk4 (fun k hk e=>by have h1:=HO3.out.2.1.base hk;have h2:=HO3.out.2.2;have h3:=HN.out;have h4:k=W.heap.size:=e;omega)
  rw [← hw4]
  clear hw4 hk4 hk
  go_wp2
  refine bodyPost_ret (results_cell_row (by rfl) _ w4 W.heap.size 37 #[.int .i64 (nV st),.int .i64 (nV (nS st)),.slice a3 m3 c3] (0,0) _ (by rfl) HF.out Tryz.underlying37 rfl (by kernel_rfl)) rfl ?_
  exact ⟨a3,m3,c3,rfl,HO3.out.1,HOF.out,HRF.out⟩
end Go.Proofs.YtgdnofacgfjaeabGreat.Wi
namespace Go.Proofs.YtgdnofacgfjaeabGreat.Md
open Go.RowKit
set_option linter.unusedVariables false
set_option linter.unusedSimpArgs false
theorem tV_len {st:Wi.RS} {N:Nat} (h:match st with | .ok zs _=>zs.length≤N | .bad _ _=>True):(tV (Wi.aS st)).length≤N:=by
  have key:∀ s:Wi.RS,(match s with | .ok zs _=>zs.length≤N | .bad _ _=>True)→(match Wi.nS s with | .ok zs _=>zs.length≤N | .bad _ _=>True):=by
    intro s hs
    cases s with
    | bad p c=>trivial
    | ok zs a=>
      cases hq:Wi.nr zs with
      | error c=>
        have e1:Wi.nS (.ok zs a)=.bad a c:=by simp only[Wi.nS,Wi.numS,hq]
        rw [e1];trivial
      | ok q=>
        have e1:Wi.nS (.ok zs a)=.ok (zs.drop q.2) (a+q.2):=by simp only[Wi.nS,Wi.numS,hq]
        rw [e1]
        have hs:zs.length≤N:=hs
        show (zs.drop q.2).length≤N
        rw [List.length_drop];omega
  have h2:=key _ (key _ h)
  show (tV (Wi.nS (Wi.nS st))).length≤N
  cases hs:Wi.nS (Wi.nS st) with
  | bad p c=>exact Nat.zero_le _
  | ok zs a=>
    rw [hs] at h2
    have h2:zs.length≤N:=h2
    cases hq:Wi.cr zs with
    | error c=>
      have e2:tV (.ok zs a)=[]:=by simp only[tV,Wi.bytesS,hq]
      rw [e2];exact Nat.zero_le _
    | ok q=>
      have e2:tV (.ok zs a)=(zs.drop q.2).take q.1:=by simp only[tV,Wi.bytesS,hq]
      rw [e2,List.length_take,List.length_drop];omega
def blkP (B:Int) (st:Wi.RS):Bool:=blkB B ⟨stV st,⟨none,(tV (Wi.aS st)).length,0⟩⟩ (tV (Wi.aS st))
def blkI (st:Wi.RS):List It:=blkIts ⟨stV st,slZ⟩ (tV (Wi.aS st))
theorem blkP_is (B:Int) (st:Wi.RS) (x:Sl) (h:x.l=(tV (Wi.aS st)).length):blkB B ⟨stV st,x⟩ (tV (Wi.aS st))=blkP B st:=by
  unfold blkP blkB
  simp only[h]
theorem good_blk {c:Cg} {zs ys:List Int} (h8:Wi.U8 ys) (hq:cfgP c zs=true) (ho:((Wi.openOf ys).2==0)=true) :
    (Wi.wholeB false (blkS (.ok (Wi.openOf ys).1 0))&&blkP c.bl (.ok (Wi.openOf ys).1 0)) =
    (((Wi.errS (blkS (.ok (Wi.openOf ys).1 0))).2==0)&&(!Wi.moreS (blkS (.ok (Wi.openOf ys).1 0))&&((jdg (cfgP c zs) (blkP c.bl (.ok (Wi.openOf ys).1 0)) 1==0)&&decide (encR (cfgP c zs&&blkP c.bl (.ok (Wi.openOf ys).1 0)) (blkI (.ok (Wi.openOf ys).1 0))=ys)))):=by
  rw [fin_eq (body:=(Wi.openOf ys).1) h8 (eq_of_beq ho) rfl (took_blk (.ok (Wi.openOf ys).1 0) ⟨stV (.ok (Wi.openOf ys).1 0),slZ⟩ rfl),hq]
  show _=((Wi.errS (blkS (.ok (Wi.openOf ys).1 0))).2==0&&(!Wi.moreS (blkS (.ok (Wi.openOf ys).1 0))&&(jdg true (blkP c.bl (.ok (Wi.openOf ys).1 0)) 1==0&&decide (encR (true&&blkP c.bl (.ok (Wi.openOf ys).1 0)) (blkI (.ok (Wi.openOf ys).1 0))=ys))))
  cases blkP c.bl (.ok (Wi.openOf ys).1 0) <;> rfl
theorem bl_one (x:Bl):(Bl.cells x).all (·.oneCell')=true:=all_one (Bl.oneL x)
theorem p_ReadB (x:Sl) (ys:List Int) (c:Cg) (zs:List Int) (w:World) (hc:CgIn w c zs) (hx:Wi.Sl w x.a x.l x.k ys):Calls Tryz.prog 9 #[x.v,.agg (Cg.cells c)] w
    (BlkO w (outB (cfgP c zs) ys (Wi.wholeB false (blkS (.ok (Wi.openOf ys).1 0))&&blkP c.bl (.ok (Wi.openOf ys).1 0)))):=by
  cases hq:cfgP c zs with
  | false=>
    refine (Wi.eNoReadBlock x.a x.l x.k c.sv.a c.sv.l c.sv.k zs c.f c.po c.bu c.bl c.rm w hc.wi hq).mono ?_
    rintro e w' ⟨rfl,hk⟩
    exact ⟨slZ,rfl,RdB.nilS _,Nat.zero_le _,kw hk⟩
  | true=>
    cases ho:((Wi.openOf ys).2==0) with
    | false=>
      refine (Wi.eReadBlock x.a x.l x.k c.sv.a c.sv.l c.sv.k zs c.f c.po c.bu c.bl c.rm w (fun W cs e w'=>cs=Wi.zB∧e=(Wi.openOf ys).2) (fun W hW=>?_)).mono ?_
      · exact (Wi.unpackBlock_shut x.a x.l x.k ys _ _ _ c.sv.a c.sv.l c.sv.k zs c.f c.po c.bu c.bl c.rm W (hc.wi.no hW) hq (hx.no hW) (by simpa using ho)).mono (fun e w' ⟨a,b⟩=>⟨_,_,a,rfl,Wi.zB_one,b,rfl,rfl⟩)
      · rintro e w' ⟨cs,x,W,w1,rfl,hW,⟨rfl,rfl⟩,hk,hk'⟩
        have hv:outB true ys (Wi.wholeB false (blkS (.ok (Wi.openOf ys).1 0))&&blkP c.bl (.ok (Wi.openOf ys).1 0))=(spZ,[],(Wi.openOf ys).2):=by simp only[outB,cond_true,cond_false,ho]
        rw [hv]
        exact ⟨slZ,rfl,RdB.nilS _,Nat.zero_le _,kw hk'⟩
    | true=>
      have h0:(Wi.openOf ys).2=0:=eq_of_beq ho
      obtain ⟨st,hst⟩:∃ st,Wi.RS.ok (Wi.openOf ys).1 0=st:=⟨_,rfl⟩
      have h8:=open_u8 hx.u8
      have hu:uR st:=by rw [← hst];exact h8
      rw [hst]
      obtain ⟨good,hg⟩:∃ b,(Wi.wholeB false (blkS st)&&blkP c.bl st)=b:=⟨_,rfl⟩
      rw [hg]
      have hlb:(tV (Wi.aS st)).length≤140737488351232:=tV_len (by rw [← hst];have:=(open_form hx.u8 h0).2;show (Wi.openOf ys).1.length≤_;omega)
      refine (Wi.eReadBlock x.a x.l x.k c.sv.a c.sv.l c.sv.k zs c.f c.po c.bu c.bl c.rm w (fun W cs e w'=>∃ s:Sl,cs=(if good then Bl.cells ⟨stV st,s⟩ else Bl.cells ⟨spZ,slZ⟩)∧(e=if good then 0 else 11)∧s.l=(tV (Wi.aS st)).length∧Wi.OwnS w' W.heap.size s.a s.k (tV (Wi.aS st))) (fun W hW=>?_)).mono ?_
      · refine (Wi.unpackBlock_all x.a x.l x.k ys 11 c.sv.a c.sv.l c.sv.k zs c.f c.po c.bu c.bl c.rm W (hc.wi.no hW) hq (hx.no hW) h0 h8 (by have:=(open_form hx.u8 h0).2;omega)
          false (blkS st) (blkP c.bl st) (fun W0 W1 cs=>∃ s:Sl,cs=Bl.cells ⟨stV st,s⟩∧s.l=(tV (Wi.aS st)).length∧Wi.OwnS W1 (W0.heap.size+1) s.a s.k (tV (Wi.aS st)))
          (fun _ _ cs h=>by obtain ⟨s,rfl,_⟩:=h;exact ⟨rfl,bl_one _⟩) (fun W0 W1 W2 cs h hk=>?_) (fun W2 r g lb hk hR=>?_) (fun W0 W2 cs hk h=>?_)).mono ?_
        · obtain ⟨s,h1,h2,h3⟩:=h
          exact ⟨s,h1,h2,h3.kept hk (fun k hk2 e=>by have:=h3.base hk2;have:=h3.lt hk2;rcases e with e | e <;> omega)⟩
        · rw [hst] at hR
          refine (Wi.RdM.block hR).mono ?_
          rintro e w' ⟨a',n',c',rfl,hn,hO,hr⟩
          exact ⟨_,rfl,hr,⟨a',n',c'⟩,rfl,hn,hO⟩
        · obtain ⟨s,rfl,h2,h3⟩:=h
          rw [← blkP_is c.bl st s h2]
          exact wcall (p_rightBlock ⟨stV st,s⟩ c (tV (Wi.aS st)) W2 (own_rdB h3 h2.symm) (by show s.l≤_;omega))
        · rintro e w' ⟨cs,rfl,⟨W0,hW0,s,rfl,h2,h3⟩,hk⟩
          rw [hg]
          refine ⟨_,_,rfl,?_,?_,hk,s,rfl,rfl,h2,h3.lower (by omega)⟩
          · cases good <;> rfl
          · cases good
            · exact Wi.zB_one
            · exact bl_one _
      · rintro e w' ⟨cs,x,W,w1,rfl,hW,⟨s,rfl,rfl,h2,h3⟩,hk,hk'⟩
        have hO:=h3.kept hk (fun k hk2 e=>by have:=h3.base hk2;omega)
        cases good with
        | false=>
          have hv:outB true ys false=(spZ,[],11):=by simp only[outB,cond_true,cond_false,ho]
          rw [hv]
          exact ⟨slZ,rfl,RdB.nilS _,Nat.zero_le _,kw hk'⟩
        | true=>
          have hv:outB true ys true=(stV st,tV (Wi.aS st),0):=by simp only[outB,cond_true,cond_false,ho,hst]
          rw [hv]
          exact ⟨s,rfl,own_rdB hO h2.symm,by omega,kw hk'⟩
set_option maxRecDepth 100000
set_option maxHeartbeats 4000000
def enV (st:Wi.RS):En:=⟨Wi.strOf (tV st),Wi.nV (tS st),Wi.nV (Wi.nS (tS st)),Wi.nV (Wi.aS (tS st))⟩
def enS (st:Wi.RS):Wi.RS:=Wi.nS (Wi.aS (tS st))
def la4 (st:Wi.RS):Wi.RS:=Wi.nS (Wi.nS (Wi.nS (Wi.nS st)))
def laV (st:Wi.RS):La:=⟨Wi.nV st,Wi.nV (Wi.nS st),Wi.nV (Wi.nS (Wi.nS st)),Wi.nV (Wi.nS (Wi.nS (Wi.nS st))),Wi.nV (la4 st),Wi.nV (Wi.nS (la4 st)),Wi.nV (Wi.aS (la4 st))⟩
def laS (st:Wi.RS):Wi.RS:=Wi.nS (Wi.aS (la4 st))
theorem took_en (st:Wi.RS):Took st [It.b (Wi.numsOf (enV st).nm),It.n (enV st).f0,It.n (enV st).f1,It.n (enV st).sz] (enS st):=(took_x st).trans<|(took_2 _).trans (took_n _)
theorem took_la (st:Wi.RS):Took st [It.n (laV st).cl,It.n (laV st).op,It.n (laV st).ins,It.n (laV st).er,It.n (laV st).f0,It.n (laV st).f1,It.n (laV st).sz] (laS st):=
  (took_n st).trans<|(took_n _).trans<|(took_n _).trans<|(took_n _).trans<|(took_2 _).trans (took_n _)
def capSrc (r g lb b:Nat):Src where
  pb:=r
  pg:=g
  In:=fun k=>k=r∨k=g∨k=lb∨k=b
  Wr:=fun k=>k=r∨k=g
  sub:=fun k e=>e.elim .inl (fun e=>.inr (.inl e))
  St:=fun w s=>(rdSrc r g lb).St w s∧Box w b 136 #[.pointer (some ⟨r,0,none⟩)]∧b≠r∧b≠g
  lt:=fun h k e=>by
    rcases e with e | e | e | rfl
    · exact (rdSrc r g lb).lt h.1 k (.inl e)
    · exact (rdSrc r g lb).lt h.1 k (.inr (.inl e))
    · exact (rdSrc r g lb).lt h.1 k (.inr (.inr e))
    · exact h.2.1.lt
  far:=fun {w w' s S} h hk hS=>⟨(rdSrc r g lb).far h.1 hk (fun k e e2=>hS k e (by rcases e2 with e2 | e2 | e2;exact .inl e2;exact .inr (.inl e2);exact .inr (.inr (.inl e2)))),h.2.1.kept hk (fun e=>hS _ e (.inr (.inr (.inr rfl)))),h.2.2⟩
  pt:=fun h=>(rdSrc r g lb).pt h.1
section
variable {r g lb b:Nat} {s s':Wi.RS × Bool} {w:World}
theorem capGot {f:FuncId} {args:Array Value} {v:Value} (h:(capSrc r g lb b).St w s) (hc:(rdSrc r g lb).St w s→Calls Tryz.prog f args w ((rdSrc r g lb).Got w v s')):Calls Tryz.prog f args w ((capSrc r g lb b).Got w v s'):=
  (hc h.1).mono (by rintro e w' ⟨h1,h2,h3⟩;exact ⟨h1,⟨h2,h.2.1.kept h3 (fun e=>e.elim h.2.2.1 h.2.2.2),h.2.2⟩,h3⟩)
theorem capPt (h:(capSrc r g lb b).St w s):w.cell? ⟨b,0,none⟩=some (.pointer (some ⟨r,0,none⟩)):=h.2.1.cell 0
theorem zC {a:Act} {w0:World} {lA:List (Nat × TypeId × Array Value)} {o:Oper} {t:TypeId} {d:TypeDesc} (hu:Tryz.prog.underlying t=some d) (hl:ldA o a.eval=some (t,.pointer (some ⟨b,0,none⟩)):=by kernel_rfl) (hd:(match d with | .struct _ | .array _ _=>true | _=>false)=false:=by kernel_rfl) :
    ∀ w,Hid (Ex (capSrc r g lb b) w0 lA w)→(execOp a.eval o).run Tryz.prog w=.ok (.value (.pointer (some ⟨r,0,none⟩))) w:=fun w HE=>by
  obtain ⟨s,h⟩:=HE;exact exL (load_one (capPt h.st) hu hd) hl
end
section
variable {r g lb b:Nat} {st:Wi.RS} {odd:Bool} {w:World}
theorem p_entry (h:(capSrc r g lb b).St w (st,odd)):Calls Tryz.prog 99 #[.pointer (some ⟨b,0,none⟩)] w ((capSrc r g lb b).Got w (.agg (En.cells (enV st))) ((enS st,odd))):=by
  refine hidC fun C HC=>?_;have HF:Hid (Kr (capSrc r g lb b) w w (st,odd) []):=Kr.start h;clear h;go_enter Tryz.func99,Tryz.ntmps99;go_upto_region 0 with fail;refine Sg<|rA (En.cells enZ) Z106 HF fun g1 w2 HF=>?_;simp only[pS];refine Nl ?_;(try simp only[pS]);go_upto_region 1 with fail;refine wp_region_held_drew (S:=fun w'=>Hid (Ex (capSrc r g lb b) w [] w')) rfl (qN (lA:=[]) (lB:=[(g1,106,En.cells enZ)]) HF) (fun _=>?_);have HG:Hid (Kr (capSrc r g lb b) w w2.drew (st,odd) ([]++[(g1,106,En.cells enZ)])):=HF.out.no (Kept.refl No _).drew;clear HF;generalize w2.drew=w3 at HG ⊢;refine qT 0 2 HG (zC U136)<|qK 1 3 HG (.pointer (some ⟨r,0,none⟩))<|qK 2 4 HG (.pointer (some ⟨r,0,none⟩))<|qT 3 5 HG (zQ U137)<|qT 5 7 HG (zC U136)<|qT 7 9 HG (zC U136)<|qK 8 10 HG (.pointer (some ⟨r,0,none⟩))<|qK 9 11 HG (.pointer (some ⟨r,0,none⟩))<|?_;(try simp only[pS]);refine qT 10 12 HG (zQ U137)<|?_;(try simp only[pS]);refine qC 4 6 _ _ HG (fun h=>capGot h (fun h=>p_Text h)) fun w4 HG=>?_;(try simp only[pS]);refine qC 6 8 _ _ HG (fun h=>capGot h (fun h=>p_rfile h)) fun w5 HG=>?_;(try simp only[pS]);refine qC 11 13 _ _ HG (fun h=>capGot h (fun h=>p_Num h)) fun w6 HG=>?_;(try simp only[pS]);refine qT 12 14 HG (v:=.agg (En.cells ⟨(Wi.strOf (tV st)),((fiV (tS st)).c),((fiV (tS st)).o),(Wi.nV (Wi.aS (tS st)))⟩)) (zBd 106 (En.cells ⟨(Wi.strOf (tV st)),((fiV (tS st)).c),((fiV (tS st)).o),(Wi.nV (Wi.aS (tS st)))⟩))<|?_;(try simp only[pS]);refine qW 13 [] [(g1,106,En.cells enZ)] HG 0 0 (En.cs enZ) (En.cs ⟨(Wi.strOf (tV st)),((fiV (tS st)).c),((fiV (tS st)).o),(Wi.nV (Wi.aS (tS st)))⟩) (En.cs ⟨(Wi.strOf (tV st)),((fiV (tS st)).c),((fiV (tS st)).o),(Wi.nV (Wi.aS (tS st)))⟩) rfl (v:=.agg (En.cells ⟨(Wi.strOf (tV st)),((fiV (tS st)).c),((fiV (tS st)).o),(Wi.nV (Wi.aS (tS st)))⟩)) rfl S106 (En.oneL _) fun w7 HG=>?_;(try simp only[pS]);refine wpAnyH_done (by kernel_rfl) ?_ _;(try simp only[pS]);have HF:Hid (Kr (capSrc r g lb b) w w7 (Wi.nS (Wi.aS (tS st)),odd) [(g1,106,En.cells ⟨(Wi.strOf (tV st)),((fiV (tS st)).c),((fiV (tS st)).o),(Wi.nV (Wi.aS (tS st)))⟩)]):=HG;clear HG;go_wp2;rw [HC.out];refine bodyPost_ret (results_row1 (by rfl) _ _ g1 _ (by rfl) (run_load_part (HF.out.fq.box 0 _ _ _ rfl) (Part.all _) U106 rfl S106)) rfl ?_;exact HF.out.got _
theorem p_last (h:(capSrc r g lb b).St w (st,odd)):Calls Tryz.prog 103 #[.pointer (some ⟨b,0,none⟩)] w ((capSrc r g lb b).Got w (.agg (La.cells (laV st))) ((laS st,odd))):=by
  refine hidC fun C HC=>?_;have HF:Hid (Kr (capSrc r g lb b) w w (st,odd) []):=Kr.start h;clear h;go_enter Tryz.func103,Tryz.ntmps103;go_upto_region 0 with fail;refine Sg<|rA (La.cells laZ) Z108 HF fun g1 w2 HF=>?_;simp only[pS];refine Nl ?_;(try simp only[pS]);go_upto_region 1 with fail;refine wp_region_held_drew (S:=fun w'=>Hid (Ex (capSrc r g lb b) w [] w')) rfl (qN (lA:=[]) (lB:=[(g1,108,La.cells laZ)]) HF) (fun _=>?_);have HG:Hid (Kr (capSrc r g lb b) w w2.drew (st,odd) ([]++[(g1,108,La.cells laZ)])):=HF.out.no (Kept.refl No _).drew;clear HF;generalize w2.drew=w3 at HG ⊢;refine qT 0 2 HG (zC U136)<|qK 1 3 HG (.pointer (some ⟨r,0,none⟩))<|qK 2 4 HG (.pointer (some ⟨r,0,none⟩))<|qT 3 5 HG (zQ U137)<|qT 5 7 HG (zC U136)<|qK 6 8 HG (.pointer (some ⟨r,0,none⟩))<|qK 7 9 HG (.pointer (some ⟨r,0,none⟩))<|qT 8 10 HG (zQ U137)<|?_;(try simp only[pS]);refine qT 10 12 HG (zC U136)<|qK 11 13 HG (.pointer (some ⟨r,0,none⟩))<|qK 12 14 HG (.pointer (some ⟨r,0,none⟩))<|qT 13 15 HG (zQ U137)<|qT 15 17 HG (zC U136)<|qK 16 18 HG (.pointer (some ⟨r,0,none⟩))<|qK 17 19 HG (.pointer (some ⟨r,0,none⟩))<|qT 18 20 HG (zQ U137)<|?_;(try simp only[pS]);refine qT 20 22 HG (zC U136)<|qT 22 24 HG (zC U136)<|qK 23 25 HG (.pointer (some ⟨r,0,none⟩))<|qK 24 26 HG (.pointer (some ⟨r,0,none⟩))<|qT 25 27 HG (zQ U137)<|?_;(try simp only[pS]);refine qC 4 6 _ _ HG (fun h=>capGot h (fun h=>p_Num h)) fun w4 HG=>?_;(try simp only[pS]);refine qC 9 11 _ _ HG (fun h=>capGot h (fun h=>p_Num h)) fun w5 HG=>?_;(try simp only[pS]);refine qC 14 16 _ _ HG (fun h=>capGot h (fun h=>p_Num h)) fun w6 HG=>?_;(try simp only[pS]);refine qC 19 21 _ _ HG (fun h=>capGot h (fun h=>p_Num h)) fun w7 HG=>?_;(try simp only[pS]);refine qC 21 23 _ _ HG (fun h=>capGot h (fun h=>p_rfile h)) fun w8 HG=>?_;(try simp only[pS]);refine qC 26 28 _ _ HG (fun h=>capGot h (fun h=>p_Num h)) fun w9 HG=>?_;(try simp only[pS]);refine qT 27 29 HG (v:=.agg (La.cells ⟨(Wi.nV st),(Wi.nV (Wi.nS st)),(Wi.nV (Wi.nS (Wi.nS st))),(Wi.nV (Wi.nS (Wi.nS (Wi.nS st)))),((fiV (Wi.nS (Wi.nS (Wi.nS (Wi.nS st))))).c),((fiV (Wi.nS (Wi.nS (Wi.nS (Wi.nS st))))).o),(Wi.nV (Wi.aS (Wi.nS (Wi.nS (Wi.nS (Wi.nS st))))))⟩)) (zBd 108 (La.cells ⟨(Wi.nV st),(Wi.nV (Wi.nS st)),(Wi.nV (Wi.nS (Wi.nS st))),(Wi.nV (Wi.nS (Wi.nS (Wi.nS st)))),((fiV (Wi.nS (Wi.nS (Wi.nS (Wi.nS st))))).c),((fiV (Wi.nS (Wi.nS (Wi.nS (Wi.nS st))))).o),(Wi.nV (Wi.aS (Wi.nS (Wi.nS (Wi.nS (Wi.nS st))))))⟩))<|?_;(try simp only[pS]);refine qW 28 [] [(g1,108,La.cells laZ)] HG 0 0 (La.cs laZ) (La.cs ⟨(Wi.nV st),(Wi.nV (Wi.nS st)),(Wi.nV (Wi.nS (Wi.nS st))),(Wi.nV (Wi.nS (Wi.nS (Wi.nS st)))),((fiV (Wi.nS (Wi.nS (Wi.nS (Wi.nS st))))).c),((fiV (Wi.nS (Wi.nS (Wi.nS (Wi.nS st))))).o),(Wi.nV (Wi.aS (Wi.nS (Wi.nS (Wi.nS (Wi.nS st))))))⟩) (La.cs ⟨(Wi.nV st),(Wi.nV (Wi.nS st)),(Wi.nV (Wi.nS (Wi.nS st))),(Wi.nV (Wi.nS (Wi.nS (Wi.nS st)))),((fiV (Wi.nS (Wi.nS (Wi.nS (Wi.nS st))))).c),((fiV (Wi.nS (Wi.nS (Wi.nS (Wi.nS st))))).o),(Wi.nV (Wi.aS (Wi.nS (Wi.nS (Wi.nS (Wi.nS st))))))⟩) rfl (v:=.agg (La.cells ⟨(Wi.nV st),(Wi.nV (Wi.nS st)),(Wi.nV (Wi.nS (Wi.nS st))),(Wi.nV (Wi.nS (Wi.nS (Wi.nS st)))),((fiV (Wi.nS (Wi.nS (Wi.nS (Wi.nS st))))).c),((fiV (Wi.nS (Wi.nS (Wi.nS (Wi.nS st))))).o),(Wi.nV (Wi.aS (Wi.nS (Wi.nS (Wi.nS (Wi.nS st))))))⟩)) rfl S108 (La.oneL _) fun w10 HG=>?_;(try simp only[pS]);refine wpAnyH_done (by kernel_rfl) ?_ _;(try simp only[pS]);have HF:Hid (Kr (capSrc r g lb b) w w10 (Wi.nS (Wi.aS (Wi.nS (Wi.nS (Wi.nS (Wi.nS st))))),odd) [(g1,108,La.cells ⟨(Wi.nV st),(Wi.nV (Wi.nS st)),(Wi.nV (Wi.nS (Wi.nS st))),(Wi.nV (Wi.nS (Wi.nS (Wi.nS st)))),((fiV (Wi.nS (Wi.nS (Wi.nS (Wi.nS st))))).c),((fiV (Wi.nS (Wi.nS (Wi.nS (Wi.nS st))))).o),(Wi.nV (Wi.aS (Wi.nS (Wi.nS (Wi.nS (Wi.nS st))))))⟩)]):=HG;clear HG;go_wp2;rw [HC.out];refine bodyPost_ret (results_row1 (by rfl) _ _ g1 _ (by rfl) (run_load_part (HF.out.fq.box 0 _ _ _ rfl) (Part.all _) U108 rfl S108)) rfl ?_;exact HF.out.got _
end
def ensS:Nat→Wi.RS→Wi.RS
  | 0,st=>st
  | n+1,st=>enS (ensS n st)
def lasS:Nat→Wi.RS→Wi.RS
  | 0,st=>st
  | n+1,st=>laS (lasS n st)
def ensL (n:Nat) (st:Wi.RS):List En:=(List.range n).map (fun i=>enV (ensS i st))
def lasL (n:Nat) (st:Wi.RS):List La:=(List.range n).map (fun i=>laV (lasS i st))
theorem ensL_len (n:Nat) (st:Wi.RS):(ensL n st).length=n:=by simp [ensL]
theorem lasL_len (n:Nat) (st:Wi.RS):(lasL n st).length=n:=by simp [lasL]
theorem ensL_succ (n:Nat) (st:Wi.RS):ensL (n+1) st=ensL n st++[enV (ensS n st)]:=by simp [ensL,List.range_succ]
theorem lasL_succ (n:Nat) (st:Wi.RS):lasL (n+1) st=lasL n st++[laV (lasS n st)]:=by simp [lasL,List.range_succ]
theorem putEn (i n:Nat) (st:Wi.RS) (h:i < n):putL (enL (ensL i st++List.replicate (n - i) enZ)) (0+i*4) (En.cs (enV (ensS i st)))=enL (ensL (i+1) st++List.replicate (n - (i+1)) enZ):=by
  have e:n - i=(n - (i+1))+1:=by omega
  rw [e,List.replicate_succ,ensL_succ,show ensL i st++enZ :: List.replicate (n - (i+1)) enZ=ensL i st++([enZ]++List.replicate (n - (i+1)) enZ) by simp,enL_app,enL_app,Nat.zero_add];have h2:=put_mid (enL (ensL i st)) (enL [enZ]) (enL (List.replicate (n - (i+1)) enZ)) (En.cs (enV (ensS i st))) rfl;rw [enL_len,ensL_len] at h2;rw [h2,enL_app,enL_app,List.append_assoc]
  simp [enL]
theorem putLa (i n:Nat) (st:Wi.RS) (h:i < n):putL (laL (lasL i st++List.replicate (n - i) laZ)) (0+i*7) (La.cs (laV (lasS i st)))=laL (lasL (i+1) st++List.replicate (n - (i+1)) laZ):=by
  have e:n - i=(n - (i+1))+1:=by omega
  rw [e,List.replicate_succ,lasL_succ,show lasL i st++laZ :: List.replicate (n - (i+1)) laZ=lasL i st++([laZ]++List.replicate (n - (i+1)) laZ) by simp,laL_app,laL_app,Nat.zero_add];have h2:=put_mid (laL (lasL i st)) (laL [laZ]) (laL (List.replicate (n - (i+1)) laZ)) (La.cs (laV (lasS i st))) rfl;rw [laL_len,lasL_len] at h2;rw [h2,laL_app,laL_app,List.append_assoc]
  simp [laL]
theorem exec_min {o:Oper} {a:Act} {w:World} (x y:Operand) (T T':TypeId) (ho:o.op=.call { callee:=Callee.builtin Builtin.min,args:=#[x,y],argTypes:=#[T,T'] }) {u v:Int} (hx:a.eval x=.int .i64 u) (hy:a.eval y=.int .i64 v):(execOp a.eval o).run Tryz.prog w=.ok (.value (.int .i64 (if v < u then v else u))) w:=by
  simp [execOp,ho,resolve,invoke,builtin,hx,hy,run_min_int2,Result.andThen]
section
variable {ops:Array Oper} {rest:List Oper} {o:Oper} {a:Act} {w:World} {Q:Exit→Act→World→Prop} {K:Src} {w0:World} {s s':Wi.RS × Bool} {l:List (Nat × TypeId × Array Value)}
theorem rMn {u v:Int} {n:Nat} (hn:((n:Nat):Int)=if v < u then v else u) (h:WL ops Q rest (a.put o.dst (.int .i64 ((n:Nat):Int))) w) {x y:Operand} {T T':TypeId} (ho:o.op=.call { callee:=Callee.builtin Builtin.min,args:=#[x,y],argTypes:=#[T,T'] }:=by rfl)
    (hx:a.eval x=.int .i64 u:=by kernel_rfl) (hy:a.eval y=.int .i64 v:=by kernel_rfl) (hw:Region.wanted o (yielded ops a.tmps)=true:=by kernel_rfl):WL ops Q (o :: rest) a w:=
  tW _ (by rw [hn];exact exec_min x y T T' ho hx hy) h hw
theorem rM {t E:TypeId} (n:Nat) (cs:List Value) (HF:Hid (Kr K w0 w s l)) (hr:(Instr.makeSlice t (.int .i64 (n:Int)) (.int .i64 (n:Int))).run Tryz.prog w=.ok (.slice (some ⟨w.heap.size,0,none⟩) n n) (w.alloc (.cells cs.toArray E)))
    (h:∀ g w',Hid (Kr K w0 w' s (l++[(g,E,cs.toArray)]))→WL ops Q rest (a.put o.dst (.slice (some ⟨g,0,none⟩) n n)) w') {x y:Operand} (ho:o.op=.makeSlice t x y:=by rfl)
    (hx:a.eval x=.int .i64 (n:Int):=by kernel_rfl) (hy:a.eval y=.int .i64 (n:Int):=by kernel_rfl) (hw:Region.wanted o (yielded ops a.tmps)=true:=by kernel_rfl):WL ops Q (o :: rest) a w:=
  wp_runW _ _ (exec_make t x y ho _ _ hx hy hr) hw (h _ _ (HF.out.alloc _ _))
end
def ListO (K:Src) (w:World) (T:TypeId) (cs:List Value) (n:Nat) (s':Wi.RS × Bool) (e:Ending) (w':World):Prop:=∃ g,e=.returned (.slice (some ⟨g,0,none⟩) n n)∧Kr K w w' s' [(g,T,cs.toArray)]
def cntK (v:Int) (m:Nat):Nat:=if ((m:Nat):Int) < v then m else v.toNat
theorem cntK_is {v:Int} (h:0≤v) (m:Nat):((cntK v m:Nat):Int)=if ((m:Nat):Int) < v then ((m:Nat):Int) else v:=by
  unfold cntK;split <;> omega
theorem cntK_le (v:Int) (m:Nat):cntK v m≤m:=by unfold cntK;split <;> omega
section
variable {r g lb b:Nat} {st:Wi.RS} {odd:Bool} {w:World}
theorem p_listE (h:(capSrc r g lb b).St w (st,odd)):Calls Tryz.prog 104 #[.pointer (some ⟨r,0,none⟩),.int .i64 256,.func (.func 99) #[] #[.pointer (some ⟨b,0,none⟩)]] w (ListO (capSrc r g lb b) w 106 (enL (ensL (cntK (Wi.nV st) 257) (Wi.nS st))) (cntK (Wi.nV st) 257) (ensS (cntK (Wi.nV st) 257) (Wi.nS st),odd)):=by
  refine hidC fun C HC=>?_;obtain ⟨cnt,hcn2⟩:∃ n,cntK (Wi.nV st) 257=n:=⟨_,rfl⟩;have hcn:((cnt:Nat):Int)=if (257:Int) < Wi.nV st then 257 else Wi.nV st:=by rw [← hcn2];exact cntK_is (nV_pos st) 257
  have hcb:cnt≤257:=by rw [← hcn2];exact cntK_le _ _
  have HF:Hid (Kr (capSrc r g lb b) w w (st,odd) []):=Kr.start h;clear h;go_enter Tryz.func104,Tryz.ntmps104;go_upto_region 0 with fail;refine Sg<|tK (.slice none 0 0)<|Nl ?_;simp only[pS];go_upto_region 1 with fail;refine Sg<|tK (pg r 0)<|tK (pg r 0)<|tK (pg r 0)<|lR (load_one (Src.pt _ HF.out.st) U137 rfl)<|rC _ _ HF (fun h=>capGot h (fun h=>p_Num h)) fun w1 HF=>tK (.int .i64 256)<|tK (.int .i64 257)<|rMn hcn<|rM cnt (enL (List.replicate cnt enZ)) HF (make_en _ _ (by omega)) fun g2 w3 HF=>?_;simp only[pS];refine tK (.slice (some ⟨g2,0,none⟩) cnt cnt)<|Nl ?_;simp only[pS];go_upto_region 2 with fail;refine Sg<|tK (.slice (some ⟨g2,0,none⟩) cnt cnt)<|tK (.int .i64 ((cnt:Nat):Int))<|tK (.int .i64 0)<|Nl ?_;simp only[pS];go_wp2
  go_loopw [20] (fun v20 wr=>∃ i:Nat,v20=.int .i64 ((i:Nat):Int)∧i≤cnt∧Hid (Kr (capSrc r g lb b) w wr (ensS i (Wi.nS st),odd) [(g2,106,(enL (ensL i (Wi.nS st)++List.replicate (cnt - i) enZ)).toArray)])) (fun v20 _=>cnt - (intOf v20).toNat)
  case atStart=>exact ⟨0,by go_num,by omega,HF⟩
  case round=>
    clear HF;obtain ⟨i,rfl,hi,HF⟩:=hrel
    by_cases hlt:i < cnt
    ·go_upto_region 3 with fail;refine Sg<|bN (lI (a:=((i:Nat):Int)) (b:=((cnt:Nat):Int)) (decide_eq_true (by omega)))<|Nl ?_;simp only[pS];go_upto_region 4 with fail;refine Sg<|tK (.int .i64 ((i:Nat):Int))<|tK (.int .i64 ((i:Nat):Int))<|Nl ?_;simp only[pS];go_upto_region 5 with fail;refine Sg<|tK (.slice (some ⟨g2,0,none⟩) cnt cnt)<|tK (.int .i64 ((i:Nat):Int))<|tK (.func (.func 99) #[] #[.pointer (some ⟨b,0,none⟩)])<|rC _ _ HF (fun h=>p_entry h) fun w4 HF=>?_;simp only[pS];refine iS (s:=⟨some ⟨g2,0,none⟩,cnt,cnt⟩) (i:=i) rfl E51 F51 (by show _ < cnt;omega)<|rW (enL (ensL (i+1) (Wi.nS st)++List.replicate (cnt - (i+1)) enZ)) (En.cs (enV (ensS i (Wi.nS st)))) HF 0 (0+i*4) (v:=.agg (En.cells (enV (ensS i (Wi.nS st))))) rfl S106 (En.oneL _) (enL (ensL i (Wi.nS st)++List.replicate (cnt - i) enZ)) rfl (hl:=by rw [enL_len];simp only[List.length_append,ensL_len,List.length_replicate];show 0+i*4+4≤_;omega) (hn:=putEn i cnt (Wi.nS st) hlt) fun w5 HF=>?_;simp only[pS];refine Nl ?_;(try simp only[pS]);go_upto_region 6 with fail;refine Sg<|bN (v:=.int .i64 (((i+1):Nat):Int)) (b_addw ((i:Nat):Int) 1 (((i+1):Nat):Int) (by rw [IntKind.wrap_i64];omega))<|tK (.int .i64 (((i+1):Nat):Int))<|Nl ?_;simp only[pS];go_wp2;go_roundw
     case rel=>exact ⟨i+1,by go_num,by omega,HF⟩
     case measure=>simp [intOf];omega
    ·obtain rfl:i=cnt:=by omega
     rw [Nat.sub_self,List.replicate_zero,List.append_nil] at HF;go_upto_region 3 with fail;refine Sg<|bN (lI (a:=((i:Nat):Int)) (b:=((i:Nat):Int)) (decide_eq_false (by omega)))<|Nl ?_;simp only[pS];go_upto_region 7 with fail;refine Sg<|tK (.slice (some ⟨g2,0,none⟩) i i)<|tK (.slice (some ⟨g2,0,none⟩) i i)<|Nl ?_;simp only[pS];go_wp2;rw [HC.out,hcn2];exact ⟨g2,rfl,HF.out⟩
theorem p_listL (h:(capSrc r g lb b).St w (st,odd)):Calls Tryz.prog 105 #[.pointer (some ⟨r,0,none⟩),.int .i64 255,.func (.func 103) #[] #[.pointer (some ⟨b,0,none⟩)]] w (ListO (capSrc r g lb b) w 108 (laL (lasL (cntK (Wi.nV st) 256) (Wi.nS st))) (cntK (Wi.nV st) 256) (lasS (cntK (Wi.nV st) 256) (Wi.nS st),odd)):=by
  refine hidC fun C HC=>?_;obtain ⟨cnt,hcn2⟩:∃ n,cntK (Wi.nV st) 256=n:=⟨_,rfl⟩;have hcn:((cnt:Nat):Int)=if (256:Int) < Wi.nV st then 256 else Wi.nV st:=by rw [← hcn2];exact cntK_is (nV_pos st) 256
  have hcb:cnt≤256:=by rw [← hcn2];exact cntK_le _ _
  have HF:Hid (Kr (capSrc r g lb b) w w (st,odd) []):=Kr.start h;clear h;go_enter Tryz.func105,Tryz.ntmps105;go_upto_region 0 with fail;refine Sg<|tK (.slice none 0 0)<|Nl ?_;simp only[pS];go_upto_region 1 with fail;refine Sg<|tK (pg r 0)<|tK (pg r 0)<|tK (pg r 0)<|lR (load_one (Src.pt _ HF.out.st) U137 rfl)<|rC _ _ HF (fun h=>capGot h (fun h=>p_Num h)) fun w1 HF=>tK (.int .i64 255)<|tK (.int .i64 256)<|rMn hcn<|rM cnt (laL (List.replicate cnt laZ)) HF (make_la _ _ (by omega)) fun g2 w3 HF=>?_;simp only[pS];refine tK (.slice (some ⟨g2,0,none⟩) cnt cnt)<|Nl ?_;simp only[pS];go_upto_region 2 with fail;refine Sg<|tK (.slice (some ⟨g2,0,none⟩) cnt cnt)<|tK (.int .i64 ((cnt:Nat):Int))<|tK (.int .i64 0)<|Nl ?_;simp only[pS];go_wp2
  go_loopw [20] (fun v20 wr=>∃ i:Nat,v20=.int .i64 ((i:Nat):Int)∧i≤cnt∧Hid (Kr (capSrc r g lb b) w wr (lasS i (Wi.nS st),odd) [(g2,108,(laL (lasL i (Wi.nS st)++List.replicate (cnt - i) laZ)).toArray)])) (fun v20 _=>cnt - (intOf v20).toNat)
  case atStart=>exact ⟨0,by go_num,by omega,HF⟩
  case round=>
    clear HF;obtain ⟨i,rfl,hi,HF⟩:=hrel
    by_cases hlt:i < cnt
    ·go_upto_region 3 with fail;refine Sg<|bN (lI (a:=((i:Nat):Int)) (b:=((cnt:Nat):Int)) (decide_eq_true (by omega)))<|Nl ?_;simp only[pS];go_upto_region 4 with fail;refine Sg<|tK (.int .i64 ((i:Nat):Int))<|tK (.int .i64 ((i:Nat):Int))<|Nl ?_;simp only[pS];go_upto_region 5 with fail;refine Sg<|tK (.slice (some ⟨g2,0,none⟩) cnt cnt)<|tK (.int .i64 ((i:Nat):Int))<|tK (.func (.func 103) #[] #[.pointer (some ⟨b,0,none⟩)])<|rC _ _ HF (fun h=>p_last h) fun w4 HF=>?_;simp only[pS];refine iS (s:=⟨some ⟨g2,0,none⟩,cnt,cnt⟩) (i:=i) rfl E52 F52 (by show _ < cnt;omega)<|rW (laL (lasL (i+1) (Wi.nS st)++List.replicate (cnt - (i+1)) laZ)) (La.cs (laV (lasS i (Wi.nS st)))) HF 0 (0+i*7) (v:=.agg (La.cells (laV (lasS i (Wi.nS st))))) rfl S108 (La.oneL _) (laL (lasL i (Wi.nS st)++List.replicate (cnt - i) laZ)) rfl (hl:=by rw [laL_len];simp only[List.length_append,lasL_len,List.length_replicate];show 0+i*7+7≤_;omega) (hn:=putLa i cnt (Wi.nS st) hlt) fun w5 HF=>?_;simp only[pS];refine Nl ?_;(try simp only[pS]);go_upto_region 6 with fail;refine Sg<|bN (v:=.int .i64 (((i+1):Nat):Int)) (b_addw ((i:Nat):Int) 1 (((i+1):Nat):Int) (by rw [IntKind.wrap_i64];omega))<|tK (.int .i64 (((i+1):Nat):Int))<|Nl ?_;simp only[pS];go_wp2;go_roundw
     case rel=>exact ⟨i+1,by go_num,by omega,HF⟩
     case measure=>simp [intOf];omega
    ·obtain rfl:i=cnt:=by omega
     rw [Nat.sub_self,List.replicate_zero,List.append_nil] at HF;go_upto_region 3 with fail;refine Sg<|bN (lI (a:=((i:Nat):Int)) (b:=((i:Nat):Int)) (decide_eq_false (by omega)))<|Nl ?_;simp only[pS];go_upto_region 7 with fail;refine Sg<|tK (.slice (some ⟨g2,0,none⟩) i i)<|tK (.slice (some ⟨g2,0,none⟩) i i)<|Nl ?_;simp only[pS];go_wp2;rw [HC.out,hcn2];exact ⟨g2,rfl,HF.out⟩
end
theorem exec_box1 {o:Oper} {a:Act} {w:World} (t:TypeId) (x:Operand) (ho:o.op=.box t x) (ad:Addr) (hx:a.eval x=.pointer (some ad)):(execOp a.eval o).run Tryz.prog w=.ok (.value (.pointer (some ⟨w.heap.size,0,none⟩))) (w.alloc (.cells #[.pointer (some ad)] t)):=by
  simp only[execOp,ho,hx,Instr.box,Sem.run_bind,Result.andThen_ok,newVar,newRow,run_newObj_alloc,Sem.run_pure];rfl
theorem Kr.join {K:Src} {w0 w w':World} {s s':Wi.RS × Bool} {l m:List (Nat × TypeId × Array Value)} (h:Kr K w0 w s l) (k:Kr K w w' s' m):Kr K w0 w' s' (l++m):=by
  have key:∀ (i:Nat) g T cs,(l++m)[i]?=some (g,T,cs)→l[i]?=some (g,T,cs)∨(l.length≤i∧m[i - l.length]?=some (g,T,cs)):=by
    intro i g T cs hi;rw [List.getElem?_append] at hi
    split at hi
    · exact .inl hi
    · exact .inr ⟨by omega,hi⟩
  have hm:∀ (i:Nat) g T cs,m[i]?=some (g,T,cs)→w.heap.size≤g:=fun i g T cs hi=>(k.fq.low i g T cs hi).elim id (fun e=>absurd (K.sub _ e) (k.out i g T cs hi));refine ⟨⟨h.fq.kept.then k.fq.kept,fun i g T cs hi=>?_,fun i g T cs hi=>?_,fun i j g T cs T' cs' hi hj=>?_⟩,k.st,fun i g T cs hi=>?_⟩
  · rcases key i g T cs hi with h1 | ⟨_,h1⟩
    · exact (h.fq.box i g T cs h1).kept k.fq.kept (fun e=>h.out i g T cs h1 (K.sub _ e))
    · exact k.fq.box _ g T cs h1
  · rcases key i g T cs hi with h1 | ⟨_,h1⟩
    · exact h.fq.low i g T cs h1
    · exact .inl (Nat.le_trans h.fq.kept.size (hm _ g T cs h1))
  · rcases key i g T cs hi with h1 | ⟨e1,h1⟩ <;> rcases key j g T' cs' hj with h2 | ⟨e2,h2⟩
    · exact h.fq.inj i j g T cs T' cs' h1 h2
    · have:=(h.fq.box i g T cs h1).lt;have:=hm _ g T' cs' h2;omega
    · have:=(h.fq.box j g T' cs' h2).lt;have:=hm _ g T cs h1;omega
    · have:=k.fq.inj _ _ g T cs T' cs' h1 h2;omega
  · rcases key i g T cs hi with h1 | ⟨_,h1⟩
    · exact h.out i g T cs h1
    · exact k.out _ g T cs h1
theorem Kr.cap {r g lb b:Nat} {w0 w:World} {s:Wi.RS × Bool} {l:List (Nat × TypeId × Array Value)} (h:Kr (rdSrc r g lb) w0 w s ((b,136,#[.pointer (some ⟨r,0,none⟩)]) :: l)):Kr (capSrc r g lb b) w0 w s l:=by
  have ho:=h.out 0 b _ _ rfl;refine ⟨⟨h.fq.kept,fun i g T cs hi=>h.fq.box (i+1) g T cs (by simpa using hi),fun i g T cs hi=>h.fq.low (i+1) g T cs (by simpa using hi),fun i j g T cs T' cs' hi hj=>Nat.succ.inj (h.fq.inj (i+1) (j+1) g T cs T' cs' (by simpa using hi) (by simpa using hj))⟩,
    ⟨h.st,h.fq.box 0 b _ _ rfl,fun e=>ho (.inl e),fun e=>ho (.inr (.inl e))⟩,fun i g' T cs hi e=>?_⟩
  have h1:=h.out (i+1) g' T cs (by simpa using hi)
  rcases e with e | e | e | e
  · exact h1 (.inl e)
  · exact h1 (.inr (.inl e))
  · exact h1 (.inr (.inr e))
  · subst e
    have:=h.fq.inj 0 (i+1) _ _ _ _ _ rfl (by simpa using hi);omega
theorem Kr.uncap {r g lb b:Nat} {w0 w:World} {s:Wi.RS × Bool} {x:Nat × TypeId × Array Value} {l:List (Nat × TypeId × Array Value)} (h:Kr (capSrc r g lb b) w0 w s (x :: l)):Kr (rdSrc r g lb) w0 w s l:=by
  refine ⟨⟨h.fq.kept,fun i g T cs hi=>h.fq.box (i+1) g T cs (by simpa using hi),fun i g T cs hi=>h.fq.low (i+1) g T cs (by simpa using hi),fun i j g T cs T' cs' hi hj=>Nat.succ.inj (h.fq.inj (i+1) (j+1) g T cs T' cs' (by simpa using hi) (by simpa using hj))⟩,h.st.1,fun i g' T cs hi e=>?_⟩;have h1:=h.out (i+1) g' T cs (by simpa using hi)
  rcases e with e | e | e
  · exact h1 (.inl e)
  · exact h1 (.inr (.inl e))
  · exact h1 (.inr (.inr (.inl e)))
def BktO (K:Src) (w:World) (up:Int) (es:List En) (ls:List La) (s':Wi.RS × Bool) (e:Ending) (w':World):Prop:=∃ ge gl,e=.returned (.agg (Bv.cells ⟨up,⟨some ⟨ge,0,none⟩,es.length,es.length⟩,⟨some ⟨gl,0,none⟩,ls.length,ls.length⟩⟩))∧Kr K w w' s' [(ge,106,(enL es).toArray),(gl,108,(laL ls).toArray)]
section
variable {ops:Array Oper} {rest:List Oper} {o:Oper} {a:Act} {w:World} {Q:Exit→Act→World→Prop} {K:Src} {w0:World} {s s':Wi.RS × Bool} {l:List (Nat × TypeId × Array Value)}
theorem rB1 {t:TypeId} (ad:Addr) (HF:Hid (Kr K w0 w s l)) (h:∀ g w',Hid (Kr K w0 w' s (l++[(g,t,#[.pointer (some ad)])]))→WL ops Q rest (a.put o.dst (.pointer (some ⟨g,0,none⟩))) w') {x:Operand}
    (ho:o.op=.box t x:=by rfl) (hx:a.eval x=.pointer (some ad):=by kernel_rfl) (hw:Region.wanted o (yielded ops a.tmps)=true:=by kernel_rfl):WL ops Q (o :: rest) a w:=
  wp_runW _ _ (exec_box1 t x ho ad hx) hw (h _ _ (HF.out.alloc t _))
end
section
variable {ops:Array Oper} {a:Act} {w:World} {Q:Exit→Act→World→Prop} {md:Region.Mode} {K:Src} {w0:World} {s s':Wi.RS × Bool} {lA lB:List (Nat × TypeId × Array Value)} {fuel:Nat} {listed:Array Bool}
theorem qL (i d:Nat) {T:TypeId} {cs:List Value} {n:Nat} {f:FuncId} {args:Array Value} (HG:Hid (Kr K w0 w s (lA++lB))) (hc:K.St w s→Calls Tryz.prog f args w (ListO K w T cs n s'))
    (h:∀ g w',Hid (Kr K w0 w' s' (lA++(lB++[(g,T,cs.toArray)])))→wpAnyH Tryz.prog md ops Q (fun w'=>Hid (Ex K w0 lA w')) fuel (listed.setIfInBounds i true) (a.put (some d) (.slice (some ⟨g,0,none⟩) n n)) w')
    (hi:ops[i]?=some (opA ops i):=by kernel_rfl) (hd:(opA ops i).dst=some d:=by kernel_rfl) (hr:Region.ready md ops listed=[i]:=by kernel_rfl) (hrun:(execOp a.eval (opA ops i)).run Tryz.prog w=.ok (.enter f args) w:=by kernel_rfl) (hw:Region.wanted (opA ops i) (yielded ops a.tmps)=true:=by kernel_rfl):wpAnyH Tryz.prog md ops Q (fun w'=>Hid (Ex K w0 lA w')) (fuel+1) listed a w:=
  any_call hi hr hw f args hrun _ (hc HG.out.st) (by
    rintro e w' ⟨g,rfl,hk⟩;have HJ:=HG.out.join hk;rw [List.append_assoc] at HJ;exact ⟨_,rfl,⟨s',HJ.front⟩,fun _=>by rw [hd];exact h g w' HJ⟩)
end
def bkE (st:Wi.RS):Nat:=cntK (Wi.nV (Wi.nS st)) 257
def bk2 (st:Wi.RS):Wi.RS:=ensS (bkE st) (Wi.nS (Wi.nS st))
def bkL (st:Wi.RS):Nat:=cntK (Wi.nV (bk2 st)) 256
def bkS (st:Wi.RS):Wi.RS:=lasS (bkL st) (Wi.nS (bk2 st))
section
variable {r g lb b:Nat} {st:Wi.RS} {odd:Bool} {w:World}
theorem p_listE2 (h:(capSrc r g lb b).St w (Wi.nS st,odd)):Calls Tryz.prog 104 #[.pointer (some ⟨r,0,none⟩),.int .i64 256,.func (.func 99) #[] #[.pointer (some ⟨b,0,none⟩)]] w (ListO (capSrc r g lb b) w 106 (enL (ensL (bkE st) (Wi.nS (Wi.nS st)))) (bkE st) (bk2 st,odd)):=p_listE h
theorem p_listL2 (h:(capSrc r g lb b).St w (bk2 st,odd)):Calls Tryz.prog 105 #[.pointer (some ⟨r,0,none⟩),.int .i64 255,.func (.func 103) #[] #[.pointer (some ⟨b,0,none⟩)]] w (ListO (capSrc r g lb b) w 108 (laL (lasL (bkL st) (Wi.nS (bk2 st)))) (bkL st) (bkS st,odd)):=p_listL h
end
section
variable {r g lb:Nat} {st:Wi.RS} {odd:Bool} {w:World}
set_option maxRecDepth 100000 in
set_option maxHeartbeats 4000000 in
theorem p_rbkt (h:(rdSrc r g lb).St w (st,odd)):Calls Tryz.prog 51 #[.pointer (some ⟨r,0,none⟩)] w (BktO (rdSrc r g lb) w (Wi.nV st) (ensL (bkE st) (Wi.nS (Wi.nS st))) (lasL (bkL st) (Wi.nS (bk2 st))) (bkS st,odd)):=by
  refine hidC fun C HC=>?_;have HF:Hid (Kr (rdSrc r g lb) w w (st,odd) []):=Kr.start h;clear h;go_enter Tryz.func51,Tryz.ntmps51;go_upto_region 0 with fail;refine Sg<|rB1 ⟨r,0,none⟩ HF fun b w1 HF=>?_;(try simp only[pS]);refine rA (Bv.cells bvZ) Z54 HF fun g2 w3 HF=>?_;simp only[pS];have HF:Hid (Kr (capSrc r g lb b) w w3 (st,odd) [(g2,54,Bv.cells bvZ)]):=Kr.cap HF.out;refine Nl ?_;(try simp only[pS]);go_upto_region 1 with fail;refine Sg<|tK (.func (.func 99) #[] #[.pointer (some ⟨b,0,none⟩)])<|tK (.func (.func 99) #[] #[.pointer (some ⟨b,0,none⟩)])<|Nl ?_;simp only[pS];go_upto_region 2 with fail;refine Sg<|tK (.func (.func 103) #[] #[.pointer (some ⟨b,0,none⟩)])<|tK (.func (.func 103) #[] #[.pointer (some ⟨b,0,none⟩)])<|Nl ?_;simp only[pS];go_upto_region 3 with fail;refine wp_region_held_drew (S:=fun w'=>Hid (Ex (capSrc r g lb b) w [] w')) rfl (qN (lA:=[]) (lB:=[(g2,54,Bv.cells bvZ)]) HF) (fun _=>?_);have HG:Hid (Kr (capSrc r g lb b) w w3.drew (st,odd) ([]++[(g2,54,Bv.cells bvZ)])):=HF.out.no (Kept.refl No _).drew;clear HF;generalize w3.drew=w4 at HG ⊢;refine qT 0 7 HG (zC U136)<|qK 1 8 HG (.pointer (some ⟨r,0,none⟩))<|qK 2 9 HG (.pointer (some ⟨r,0,none⟩))<|qT 3 10 HG (zQ U137)<|qT 5 12 HG (zC U136)<|qK 6 13 HG (.func (.func 99) #[] #[.pointer (some ⟨b,0,none⟩)])<|qT 8 15 HG (zC U136)<|qK 9 16 HG (.func (.func 103) #[] #[.pointer (some ⟨b,0,none⟩)])<|?_;(try simp only[pS]);refine qC 4 11 _ _ HG (fun h=>capGot h (fun h=>p_Num h)) fun w5 HG=>?_;(try simp only[pS]);refine qL 7 14 HG (fun h=>p_listE2 (st:=st) h) fun g6 w7 HG=>?_;(try simp only[pS]);refine qL 10 17 HG (fun h=>p_listL2 (st:=st) h) fun g8 w9 HG=>?_;(try simp only[pS]);refine qT 11 18 HG (v:=.agg (Bv.cells (⟨(Wi.nV st),⟨(some ⟨g6,0,none⟩),(bkE st),(bkE st)⟩,⟨(some ⟨g8,0,none⟩),(bkL st),(bkL st)⟩⟩))) (zBd 54 (Bv.cells (⟨(Wi.nV st),⟨(some ⟨g6,0,none⟩),(bkE st),(bkE st)⟩,⟨(some ⟨g8,0,none⟩),(bkL st),(bkL st)⟩⟩)))<|?_;(try simp only[pS]);refine qW 12 [] [(g2,54,Bv.cells bvZ),(g6,106,(enL (ensL (bkE st) (Wi.nS (Wi.nS st)))).toArray),(g8,108,(laL (lasL (bkL st) (Wi.nS (bk2 st)))).toArray)] HG 0 0 (Bv.cs bvZ) (Bv.cs (⟨(Wi.nV st),⟨(some ⟨g6,0,none⟩),(bkE st),(bkE st)⟩,⟨(some ⟨g8,0,none⟩),(bkL st),(bkL st)⟩⟩)) (Bv.cs (⟨(Wi.nV st),⟨(some ⟨g6,0,none⟩),(bkE st),(bkE st)⟩,⟨(some ⟨g8,0,none⟩),(bkL st),(bkL st)⟩⟩)) rfl (v:=.agg (Bv.cells (⟨(Wi.nV st),⟨(some ⟨g6,0,none⟩),(bkE st),(bkE st)⟩,⟨(some ⟨g8,0,none⟩),(bkL st),(bkL st)⟩⟩))) rfl S54 (Bv.oneL _) fun w10 HG=>?_;(try simp only[pS]);refine wpAnyH_done (by kernel_rfl) ?_ _;(try simp only[pS]);have HF:Hid (Kr (capSrc r g lb b) w w10 (bkS st,odd) [(g2,54,Bv.cells (⟨(Wi.nV st),⟨(some ⟨g6,0,none⟩),(bkE st),(bkE st)⟩,⟨(some ⟨g8,0,none⟩),(bkL st),(bkL st)⟩⟩)),(g6,106,(enL (ensL (bkE st) (Wi.nS (Wi.nS st)))).toArray),(g8,108,(laL (lasL (bkL st) (Wi.nS (bk2 st)))).toArray)]):=HG;clear HG;go_wp2;rw [HC.out];refine bodyPost_ret (results_row1 (by rfl) _ _ g2 (Bv.cells (⟨(Wi.nV st),⟨(some ⟨g6,0,none⟩),(bkE st),(bkE st)⟩,⟨(some ⟨g8,0,none⟩),(bkL st),(bkL st)⟩⟩)) (by rfl) (run_load_part (cs:=Bv.cs (⟨(Wi.nV st),⟨(some ⟨g6,0,none⟩),(bkE st),(bkE st)⟩,⟨(some ⟨g8,0,none⟩),(bkL st),(bkL st)⟩⟩)) (sub:=Bv.cs (⟨(Wi.nV st),⟨(some ⟨g6,0,none⟩),(bkE st),(bkE st)⟩,⟨(some ⟨g8,0,none⟩),(bkL st),(bkL st)⟩⟩)) (HF.out.fq.box 0 _ _ _ rfl) (Part.all _) U54 rfl S54)) rfl ?_;refine ⟨g6,g8,?_,HF.out.uncap⟩;rw [ensL_len,lasL_len]
end
theorem own_lt {t:TypeId} {c:Nat} {w:World} {base:Nat} {a:Option Addr} {cap n:Nat} {vs:List Value} (h:Own t c w base a cap n vs) {k:Nat} (hk:At a k):k < w.heap.size:=by
  obtain ⟨cur,e⟩:=own_typ h hk
  exact (Array.getElem?_eq_some_iff.1 e).1
def lsSrc (K:Src) (E:TypeId) (c base:Nat) (a:Option Addr) (n cap:Nat) (vs:List Value):Src where
  pb:=K.pb
  pg:=K.pg
  In:=fun k=>K.In k∨At a k
  Wr:=K.Wr
  sub:=fun k e=>.inl (K.sub k e)
  St:=fun w s=>K.St w s∧Own E c w base a cap n vs∧(∀ k,At a k→¬ K.In k)
  lt:=fun h k e=>e.elim (K.lt h.1 k) (fun e=>own_lt h.2.1 e)
  far:=fun {w w' s S} h hk hS=>⟨K.far h.1 hk (fun k e e2=>hS k e (.inl e2)),h.2.1.kept hk (fun k e2 e=>hS k e (.inr e2)),h.2.2⟩
  pt:=fun h=>K.pt h.1
section
variable {K:Src} {E:TypeId} {c base:Nat} {a:Option Addr} {n cap:Nat} {vs:List Value} {s s':Wi.RS × Bool} {w:World}
theorem Kr.ls {w0:World} {l:List (Nat × TypeId × Array Value)} (E:TypeId) (c base:Nat) (h:Kr K w0 w s l):Kr (lsSrc K E c base none 0 0 []) w0 w s l:=
  ⟨h.fq,⟨h.st,Own.nil _ _ _ _,fun k e=>absurd e At.none⟩,fun i g T cs hi e=>e.elim (h.out i g T cs hi) At.none⟩
end
section
variable {ops:Array Oper} {rest:List Oper} {o o2:Oper} {a:Act} {w:World} {Q:Exit→Act→World→Prop} {K:Src} {w0:World} {s:Wi.RS × Bool} {l:List (Nat × TypeId × Array Value)}
end
def room (st:Wi.RS) (n:Nat):Prop:=∀ zs a,st=.ok zs a→zs.length≤n
theorem ens_u {st:Wi.RS} (hu:uR st):∀ i,uR (ensS i st)
  | 0=>hu
  | i+1=>((took_en (ensS i st)) (ens_u hu i)).1
theorem las_u {st:Wi.RS} (hu:uR st):∀ i,uR (lasS i st)
  | 0=>hu
  | i+1=>((took_la (lasS i st)) (las_u hu i)).1
theorem err_ok {st:Wi.RS} (hu:uR st) (h:((Wi.errS st).2==0)=true):∃ zs a,st=.ok zs a:=by
  cases st with
  | ok zs a=>exact ⟨zs,a,rfl⟩
  | bad p c=>have hu:c≠0:=hu;exact absurd (eq_of_beq h) hu
def bkX (up:Int) (i j:Nat):Bv:=⟨up,⟨none,i,0⟩,⟨none,j,0⟩⟩
theorem bktP_is (B rm:Int) (x:Bv) (es:List En) (ls:List La):bktP B rm x es ls=bktP B rm (bkX x.up x.e.l x.l.l) es ls:=rfl
theorem bktI_is (x:Bv) (es:List En) (ls:List La):bktIts x es ls=bktIts (bkX x.up x.e.l x.l.l) es ls:=rfl
def rkS (st:Wi.RS) (i j:Nat):Wi.RS:=lasS j (Wi.nS (ensS i (Wi.nS (Wi.nS st))))
def rkE (st:Wi.RS) (i:Nat):List En:=ensL i (Wi.nS (Wi.nS st))
def rkL (st:Wi.RS) (i j:Nat):List La:=lasL j (Wi.nS (ensS i (Wi.nS (Wi.nS st))))
def rkP (B rm:Int) (st:Wi.RS) (i j:Nat):Bool:=bktP B rm (bkX (Wi.nV st) i j) (rkE st i) (rkL st i j)
def rkI (st:Wi.RS) (i j:Nat):List It:=bktIts (bkX (Wi.nV st) i j) (rkE st i) (rkL st i j)
def goodK (B rm:Int) (st:Wi.RS):Bool:=Wi.wholeB false (bkS st)&&rkP B rm st (bkE st) (bkL st)
theorem fl_congr {f g:Nat→List It}:∀ {n:Nat},(∀ k,k < n→f k=g k)→fl f n=fl g n
  | 0,_=>by rw [fl0,fl0]
  | n+1,h=>by rw [fl_succ,fl_succ,fl_congr (fun k hk=>h k (by omega)),h n (by omega)]
theorem took_ens (st:Wi.RS):∀ n,Took st (fl (fun k=>entIts (enV (ensS k st))) n) (ensS n st)
  | 0=>by rw [fl0];exact Took.nil st
  | n+1=>by rw [fl_succ];exact (took_ens st n).trans (took_en _)
theorem took_las (st:Wi.RS):∀ n,Took st (fl (fun k=>lasIts (laV (lasS k st))) n) (lasS n st)
  | 0=>by rw [fl0];exact Took.nil st
  | n+1=>by rw [fl_succ];exact (took_las st n).trans (took_la _)
theorem ensL_at {n k:Nat} (st:Wi.RS) (h:k < n):eAt (ensL n st) k=enV (ensS k st):=by
  unfold eAt ensL;rw [List.getElem?_map,List.getElem?_range h];rfl
theorem lasL_at {n k:Nat} (st:Wi.RS) (h:k < n):lAt (lasL n st) k=laV (lasS k st):=by
  unfold lAt lasL;rw [List.getElem?_map,List.getElem?_range h];rfl
theorem took_bk {st:Wi.RS} {i j:Nat} (hN:Wi.nV (Wi.nS st)=((i:Nat):Int)) (hM:Wi.nV (ensS i (Wi.nS (Wi.nS st)))=((j:Nat):Int)):Took st (rkI st i j) (rkS st i j):=by
  unfold rkI rkS bktIts rkE rkL bkX
  rw [fl_congr (f:=fun k=>entIts (eAt (ensL i (Wi.nS (Wi.nS st))) k)) (fun k hk=>by rw [ensL_at _ hk]),fl_congr (f:=fun k=>lasIts (lAt (lasL j (Wi.nS (ensS i (Wi.nS (Wi.nS st))))) k)) (fun k hk=>by rw [lasL_at _ hk])]
  have h1:=took_2 st
  rw [hN] at h1
  have h2:=took_n (ensS i (Wi.nS (Wi.nS st)))
  rw [hM] at h2
  exact ((h1.trans (took_ens _ i)).trans h2).trans (took_las _ j)
def okB (st:Wi.RS):Prop:=∃ zs a,st=.ok zs a
theorem took_back {st st':Wi.RS} {L:List It} (h:Took st L st') (hu:uR st) (ho:okB st'):okB st:=by
  obtain ⟨zs,a,e⟩:=ho
  obtain ⟨z0,a0,e0,_⟩:=(h hu).2 zs a e
  exact ⟨z0,a0,e0⟩
theorem ens_back {st:Wi.RS} (hu:uR st) {i:Nat}:∀ {n:Nat},i≤n→okB (ensS n st)→okB (ensS i st)
  | 0,h,ho=>by rw [show i=0 by omega];exact ho
  | n+1,h,ho=>by
    by_cases e:i=n+1
    · rw [e];exact ho
    · exact ens_back hu (n:=n) (by omega) (took_back (took_en _) (ens_u hu n) ho)
theorem las_back {st:Wi.RS} (hu:uR st) {i:Nat}:∀ {n:Nat},i≤n→okB (lasS n st)→okB (lasS i st)
  | 0,h,ho=>by rw [show i=0 by omega];exact ho
  | n+1,h,ho=>by
    by_cases e:i=n+1
    · rw [e];exact ho
    · exact las_back hu (n:=n) (by omega) (took_back (took_la _) (las_u hu n) ho)
theorem ok_err {st:Wi.RS} (h:okB st):((Wi.errS st).2==0)=true:=by
  obtain ⟨zs,a,rfl⟩:=h;rfl
theorem bkt_bd {B rm:Int} {x:Bv} {es:List En} {ls:List La} (hr:rm≤256) (he:es.length=x.e.l) (hl:ls.length=x.l.l) (h:bktP B rm x es ls=true):x.e.l≤256∧x.l.l≤255:=by
  unfold bktP at h
  cases e1:(x.up==0)
  · rw [e1] at h
    simp only[bsq] at h
    rw [Bool.and_eq_true,Bool.and_eq_true] at h
    have h2:=h.2.1
    unfold entsP at h2
    rw [Bool.and_eq_true] at h2
    have h3:¬ rm < ((es.length:Nat):Int):=by simpa using h2.1
    have h4:=rng_all h.2.2
    have h5:=las_cnt h4
    omega
  · rw [e1] at h
    simp only[bsq] at h
    unfold empK at h
    rw [Bool.and_eq_true,Bool.and_eq_true] at h
    have h2:=eq_of_beq h.2.1
    have h3:=eq_of_beq h.2.2
    omega
theorem rk_bd {B rm:Int} (hr:rm≤256) {st:Wi.RS} {i j:Nat} (h:rkP B rm st i j=true):i≤256∧j≤255:=bkt_bd hr (ensL_len _ _) (lasL_len _ _) h
theorem whole_ok {st:Wi.RS} (hu:uR st) (h:Wi.wholeB false st=true):okB st:=by
  cases st with
  | ok zs a=>exact ⟨zs,a,rfl⟩
  | bad p c=>
    have hu:c≠0:=hu
    simp only[Wi.wholeB,Wi.endS,Wi.errS,Bool.not_false,Bool.and_true,decide_eq_true_eq] at h
    exact absurd (of_decide_eq_true h) hu
theorem rk_good {B rm:Int} (hr:rm≤256) {ys body:List Int} (h8:Wi.U8 ys) (ho:(Wi.openOf ys).2=0) (hb:(Wi.openOf ys).1=body) {N M i j:Nat}
    (hN:Wi.nV (Wi.nS (.ok body 0))=((N:Nat):Int)) (hM:Wi.nV (ensS i (Wi.nS (Wi.nS (.ok body 0))))=((M:Nat):Int)) (hi:i≤N) (hj:j≤M)
    (hei:i < N→((Wi.errS (ensS i (Wi.nS (Wi.nS (.ok body 0))))).2==0)=false) (hej:j < M→((Wi.errS (rkS (.ok body 0) i j)).2==0)=false) :
    goodK B rm (.ok body 0)=((Wi.errS (rkS (.ok body 0) i j)).2==0&&(!Wi.moreS (rkS (.ok body 0) i j)&&(rkP B rm (.ok body 0) i j&&decide (Wi.sealOf (encB (rkI (.ok body 0) i j))=ys)))) ∧
    (goodK B rm (.ok body 0)=true→i=bkE (.ok body 0)∧j=bkL (.ok body 0)):=by
  have hu:uR (.ok body 0):=by show Wi.U8 body;rw [← hb];exact open_u8 h8
  have hu1:=(took_n _ hu).1
  have hu2:=(took_n _ hu1).1
  have hu3:∀ k,uR (Wi.nS (ensS k (Wi.nS (Wi.nS (.ok body 0))))):=fun k=>(took_n _ (ens_u hu2 k)).1
  have c1:((Wi.errS (rkS (.ok body 0) i j)).2==0&&(!Wi.moreS (rkS (.ok body 0) i j)&&(rkP B rm (.ok body 0) i j&&decide (Wi.sealOf (encB (rkI (.ok body 0) i j))=ys))))=true→i=N∧j=M∧i≤256∧j≤255:=by
    intro h
    rw [Bool.and_eq_true,Bool.and_eq_true,Bool.and_eq_true] at h
    obtain ⟨q1,_,q3,_⟩:=h
    obtain ⟨b1,b2⟩:=rk_bd hr q3
    have o1:okB (rkS (.ok body 0) i j):=err_ok (las_u (hu3 i) j) q1
    have e2:j=M:=by
      by_cases e:j < M
      · rw [hej e] at q1;cases q1
      · omega
    have o2:=took_back (took_n _) (ens_u hu2 i) (las_back (hu3 i) (Nat.zero_le j) o1)
    have e1:i=N:=by
      by_cases e:i < N
      · have:=ok_err o2;rw [hei e] at this;cases this
      · omega
    exact ⟨e1,e2,b1,b2⟩
  have c2:goodK B rm (.ok body 0)=true→i=N∧j=M∧i≤256∧j≤255:=by
    intro h
    unfold goodK at h
    rw [Bool.and_eq_true] at h
    obtain ⟨q1,q3⟩:=h
    obtain ⟨b1,b2⟩:=rk_bd hr q3
    have eE:bkE (.ok body 0)=N:=by
      unfold bkE cntK at b1 ⊢
      rw [hN] at b1 ⊢
      split at b1 <;> split <;> omega
    have o1:okB (bkS (.ok body 0)):=whole_ok (las_u (took_n _ (ens_u hu2 _)).1 _) q1
    have o2:okB (bk2 (.ok body 0)):=took_back (took_n _) (ens_u hu2 _) (las_back (took_n _ (ens_u hu2 _)).1 (Nat.zero_le _) o1)
    have e1:i=N:=by
      by_cases e:i < N
      · have o3:okB (ensS i (Wi.nS (Wi.nS (.ok body 0)))):=ens_back hu2 (n:=bkE (.ok body 0)) (by omega) o2
        have:=ok_err o3;rw [hei e] at this;cases this
      · omega
    have e3:bk2 (.ok body 0)=ensS i (Wi.nS (Wi.nS (.ok body 0))):=by unfold bk2;rw [eE,e1]
    have eL:bkL (.ok body 0)=M:=by
      unfold bkL cntK at b2 ⊢
      rw [e3,hM] at b2 ⊢
      split at b2 <;> split <;> omega
    have e2:j=M:=by
      by_cases e:j < M
      · have o3:okB (rkS (.ok body 0) i j):=by
          unfold bkS at o1
          rw [e3,eL] at o1
          exact las_back (hu3 i) (n:=M) (by omega) o1
        have:=ok_err o3;rw [hej e] at this;cases this
      · omega
    exact ⟨e1,e2,by omega,by omega⟩
  by_cases h:i=N∧j=M∧i≤256∧j≤255
  · obtain ⟨e1,e2,b1,b2⟩:=h
    have eE:bkE (.ok body 0)=i:=by unfold bkE cntK;rw [hN];split <;> omega
    have e3:bk2 (.ok body 0)=ensS i (Wi.nS (Wi.nS (.ok body 0))):=by unfold bk2;rw [eE]
    have eL:bkL (.ok body 0)=j:=by unfold bkL cntK;rw [e3,hM];split <;> omega
    have eS:bkS (.ok body 0)=rkS (.ok body 0) i j:=by unfold bkS rkS;rw [eL,e3]
    refine ⟨?_,fun _=>⟨eE.symm,eL.symm⟩⟩
    unfold goodK
    rw [eE,eL,eS]
    exact fin_eq h8 ho hb (took_bk (by rw [hN,e1]) (by rw [hM,e2]))
  · have f1:goodK B rm (.ok body 0)=false:=by
      cases hg:goodK B rm (.ok body 0) with
      | false=>rfl
      | true=>exact absurd (c2 hg) h
    refine ⟨?_,fun hg=>absurd (c2 hg) h⟩
    rw [f1]
    symm
    cases hg:((Wi.errS (rkS (.ok body 0) i j)).2==0&&(!Wi.moreS (rkS (.ok body 0) i j)&&(rkP B rm (.ok body 0) i j&&decide (Wi.sealOf (encB (rkI (.ok body 0) i j))=ys)))) with
    | false=>rfl
    | true=>exact absurd (c1 hg) h
end Go.Proofs.YtgdnofacgfjaeabGreat.Md
