import Derived.Test.YtgdnofacgfjaeaaGreatQd
import Derived.Test.YtgdnofacgfjaeaaGreatWiZx
import Derived.Test.YtgdnofacgfjaeaaGreatJa
import Derived.Test.YtgdnofacgfjaeaaGreatMa
import Derived.Test.YtgdnofacgfjaeaaGreatQb
namespace Go.Proofs.YtgdnofacgfjaeaaGreat.Md
set_option maxRecDepth 100000
set_option maxHeartbeats 4000000
open Go.RowKit
set_option linter.unusedVariables false
set_option linter.unusedSimpArgs false
section
variable {N r g lb b b1 gm:Nat} {st:Wi.RS} {odd:Bool} {w:World} {p:Pm}
theorem c_stamp (h:Mf N r g lb b b1 gm w w (st,odd) p):Calls Tryz.prog 205 #[.pointer (some ⟨b,0,none⟩),.pointer (some ⟨b1,0,none⟩)] w (MfO N r g lb b b1 gm w (fdS bkE bkL cqF 0 st,fdO 0 odd st) (fdP bkE bkL cqF 0 p st)):=by
  have eP:fdP bkE bkL cqF 0 p st=⟨p.k,p.fr,p.too,p.op,p.rd,p.ky,stV st,p.hd,p.bs,p.c,p.up,p.es,p.ls,p.cs,p.mo⟩:=rfl;have eS:fdS bkE bkL cqF 0 st=Wi.aS st:=rfl;have eO:fdO 0 odd st=odd:=rfl;rw [eP,eS,eO];clear eP eS eO;refine hidC fun C HC=>?_;have HF:Hid (Mf N r g lb b b1 gm w w (st,odd) p):=h;clear h;go_enter Tryz.func205,Tryz.ntmps205;go_upto_region 0 with fail;refine wp_region_held_drew (S:=fun w'=>Hid (Mx N r g lb b b1 gm w w')) rfl (mN HF) (fun _=>?_);have HG:Hid (Mf N r g lb b b1 gm w w.drew (st,odd) p):=HF.out.no (Kept.refl No _).drew;clear HF;generalize w.drew=w2 at HG ⊢;refine mT 0 2 HG (zM1 U210) ?_;(try simp only[pS]);refine mT 1 3 HG (zMb U202) ?_;(try simp only[pS]);refine mC 2 4 HG (s':=(Wi.aS st,odd)) (p_rstamp HG.out.src) ?_;rintro e w3 ⟨rfl,h1,h2⟩;refine ⟨_,rfl,h1,h2,fun HG2=>?_⟩;(try simp only[pS]);refine mK 3 5 HG2 (.pointer (some ⟨gm,0,none⟩)) ?_;(try simp only[pS]);refine mK 4 6 HG2 (.pointer (some ⟨gm,11,none⟩)) ?_;(try simp only[pS]);refine mW 5 11 HG2 ⟨p.k,p.fr,p.too,p.op,p.rd,p.ky,stV st,p.hd,p.bs,p.c,p.up,p.es,p.ls,p.cs,p.mo⟩ (Sp.cs (stV st)) (t:=34) (v:=.agg (Sp.cells (stV st))) rfl S34 (Sp.oneL _) (Nat.le_of_ble_eq_true (by kernel_rfl)) (fun x e l c h=>⟨x,e,l,c,rfl,h.rb,h.re,h.rl,h.rc,h.fb,h.fe,h.fl,h.fc⟩) fun w4 HG3=>?_;(try simp only[pS]);refine wpAnyH_done (by kernel_rfl) ?_ _;(try simp only[pS]);go_wp2;rw [HC.out];go_end0;exact ⟨rfl,HG3.out⟩
theorem c_held (h:Mf N r g lb b b1 gm w w (st,odd) p):Calls Tryz.prog 206 #[.pointer (some ⟨b,0,none⟩),.pointer (some ⟨b1,0,none⟩)] w (MfO N r g lb b b1 gm w (fdS bkE bkL cqF 1 st,fdO 1 odd st) (fdP bkE bkL cqF 1 p st)):=by
  have eP:fdP bkE bkL cqF 1 p st=⟨p.k,p.fr,p.too,p.op,p.rd,p.ky,p.st,stV st,p.bs,p.c,p.up,p.es,p.ls,p.cs,p.mo⟩:=rfl;have eS:fdS bkE bkL cqF 1 st=Wi.aS st:=rfl;have eO:fdO 1 odd st=odd:=rfl;rw [eP,eS,eO];clear eP eS eO;refine hidC fun C HC=>?_;have HF:Hid (Mf N r g lb b b1 gm w w (st,odd) p):=h;clear h;go_enter Tryz.func206,Tryz.ntmps206;go_upto_region 0 with fail;refine wp_region_held_drew (S:=fun w'=>Hid (Mx N r g lb b b1 gm w w')) rfl (mN HF) (fun _=>?_);have HG:Hid (Mf N r g lb b b1 gm w w.drew (st,odd) p):=HF.out.no (Kept.refl No _).drew;clear HF;generalize w.drew=w2 at HG ⊢;refine mT 0 2 HG (zM1 U210) ?_;(try simp only[pS]);refine mT 1 3 HG (zMb U202) ?_;(try simp only[pS]);refine mC 2 4 HG (s':=(Wi.aS st,odd)) (p_rstamp HG.out.src) ?_;rintro e w3 ⟨rfl,h1,h2⟩;refine ⟨_,rfl,h1,h2,fun HG2=>?_⟩;(try simp only[pS]);refine mK 3 5 HG2 (.pointer (some ⟨gm,0,none⟩)) ?_;(try simp only[pS]);refine mK 4 6 HG2 (.pointer (some ⟨gm,13,none⟩)) ?_;(try simp only[pS]);refine mW 5 13 HG2 ⟨p.k,p.fr,p.too,p.op,p.rd,p.ky,p.st,stV st,p.bs,p.c,p.up,p.es,p.ls,p.cs,p.mo⟩ (Sp.cs (stV st)) (t:=34) (v:=.agg (Sp.cells (stV st))) rfl S34 (Sp.oneL _) (Nat.le_of_ble_eq_true (by kernel_rfl)) (fun x e l c h=>⟨x,e,l,c,rfl,h.rb,h.re,h.rl,h.rc,h.fb,h.fe,h.fl,h.fc⟩) fun w4 HG3=>?_;(try simp only[pS]);refine wpAnyH_done (by kernel_rfl) ?_ _;(try simp only[pS]);go_wp2;rw [HC.out];go_end0;exact ⟨rfl,HG3.out⟩
theorem c_bytes (h:Mf N r g lb b b1 gm w w (st,odd) p):Calls Tryz.prog 207 #[.pointer (some ⟨b,0,none⟩),.pointer (some ⟨b1,0,none⟩)] w (MfO N r g lb b b1 gm w (fdS bkE bkL cqF 2 st,fdO 2 odd st) (fdP bkE bkL cqF 2 p st)):=by
  have eP:fdP bkE bkL cqF 2 p st=⟨p.k,p.fr,p.too,p.op,p.rd,p.ky,p.st,p.hd,tV st,p.c,p.up,p.es,p.ls,p.cs,p.mo⟩:=rfl;have eS:fdS bkE bkL cqF 2 st=tS st:=rfl;have eO:fdO 2 odd st=odd:=rfl;rw [eP,eS,eO];clear eP eS eO;refine hidC fun C HC=>?_;have HF:Hid (Mf N r g lb b b1 gm w w (st,odd) p):=h;clear h;go_enter Tryz.func207,Tryz.ntmps207;go_upto_region 0 with fail;refine wp_region_held_drew (S:=fun w'=>Hid (Mx N r g lb b b1 gm w w')) rfl (mN HF) (fun _=>?_);have HG:Hid (Mf N r g lb b b1 gm w w.drew (st,odd) p):=HF.out.no (Kept.refl No _).drew;clear HF;generalize w.drew=w2 at HG ⊢;refine mT 0 2 HG (zM1 U210) ?_;(try simp only[pS]);refine mT 1 3 HG (zMb U202) ?_;(try simp only[pS]);refine mK 2 4 HG (.pointer (some ⟨r,0,none⟩)) ?_;(try simp only[pS]);refine mK 3 5 HG (.pointer (some ⟨r,0,none⟩)) ?_;(try simp only[pS]);refine mT 4 6 HG (zMr U203) ?_;(try simp only[pS]);refine mC 5 7 HG (s':=(tS st,odd)) (Wi.RdM.bytes HG.out.src) ?_;rintro e w3 ⟨a',n',c',rfl,hn,hO,hr,_⟩;refine ⟨_,rfl,hr.anew,kwS hr.kept,fun HG2=>?_⟩;have HX:Hid (Wi.OwnS w3 w2.heap.size a' c' (tV st)∧n'=(tV st).length∧N≤w2.heap.size):=⟨hO,hn,HG.out.lt.2.2.2⟩;(try simp only[pS]);refine mK 6 8 HG2 (.pointer (some ⟨gm,0,none⟩)) ?_;(try simp only[pS]);refine mK 7 9 HG2 (.pointer (some ⟨gm,15,none⟩)) ?_;(try simp only[pS]);refine mW 8 15 HG2 ⟨p.k,p.fr,p.too,p.op,p.rd,p.ky,p.st,p.hd,tV st,p.c,p.up,p.es,p.ls,p.cs,p.mo⟩ [.slice a' n' c'] (t:=35) (v:=Value.slice a' n' c') rfl S35 (by simp [Value.oneCell']) (Nat.le_of_ble_eq_true (by kernel_rfl)) (fun x e l c h=>⟨⟨a',n',c'⟩,e,l,c,rfl,own_rdB HX.out.1 HX.out.2.1.symm,h.re,h.rl,h.rc,fun k hk=>⟨Nat.le_trans HX.out.2.2 (HX.out.1.base hk),HX.out.1.lt hk⟩,h.fe,h.fl,h.fc⟩) fun w4 HG3=>?_;(try simp only[pS]);refine wpAnyH_done (by kernel_rfl) ?_ _;(try simp only[pS]);go_wp2;rw [HC.out];go_end0;exact ⟨rfl,HG3.out⟩
theorem c_cmd (h:Mf N r g lb b b1 gm w w (st,odd) p):Calls Tryz.prog 208 #[.pointer (some ⟨b,0,none⟩),.pointer (some ⟨b1,0,none⟩)] w (MfO N r g lb b b1 gm w (fdS bkE bkL cqF 3 st,fdO 3 odd st) (fdP bkE bkL cqF 3 p st)):=by
  have eP:fdP bkE bkL cqF 3 p st=⟨p.k,p.fr,p.too,p.op,p.rd,p.ky,p.st,p.hd,p.bs,cmV st,p.up,p.es,p.ls,p.cs,p.mo⟩:=rfl;have eS:fdS bkE bkL cqF 3 st=cmS st:=rfl;have eO:fdO 3 odd st=odd:=rfl;rw [eP,eS,eO];clear eP eS eO;refine hidC fun C HC=>?_;have HF:Hid (Mf N r g lb b b1 gm w w (st,odd) p):=h;clear h;go_enter Tryz.func208,Tryz.ntmps208;go_upto_region 0 with fail;refine wp_region_held_drew (S:=fun w'=>Hid (Mx N r g lb b b1 gm w w')) rfl (mN HF) (fun _=>?_);have HG:Hid (Mf N r g lb b b1 gm w w.drew (st,odd) p):=HF.out.no (Kept.refl No _).drew;clear HF;generalize w.drew=w2 at HG ⊢;refine mT 0 2 HG (zM1 U210) ?_;(try simp only[pS]);refine mT 1 3 HG (zMb U202) ?_;(try simp only[pS]);refine mC 2 4 HG (s':=(cmS st,odd)) (p_rcommand HG.out.src) ?_;rintro e w3 ⟨rfl,h1,h2⟩;refine ⟨_,rfl,h1,h2,fun HG2=>?_⟩;(try simp only[pS]);refine mK 3 5 HG2 (.pointer (some ⟨gm,0,none⟩)) ?_;(try simp only[pS]);refine mK 4 6 HG2 (.pointer (some ⟨gm,16,none⟩)) ?_;(try simp only[pS]);refine mW 5 16 HG2 ⟨p.k,p.fr,p.too,p.op,p.rd,p.ky,p.st,p.hd,p.bs,cmV st,p.up,p.es,p.ls,p.cs,p.mo⟩ (Cm.cs (cmV st)) (t:=39) (v:=.agg (Cm.cells (cmV st))) rfl S39 (Cm.oneL _) (Nat.le_of_ble_eq_true (by kernel_rfl)) (fun x e l c h=>⟨x,e,l,c,rfl,h.rb,h.re,h.rl,h.rc,h.fb,h.fe,h.fl,h.fc⟩) fun w4 HG3=>?_;(try simp only[pS]);refine wpAnyH_done (by kernel_rfl) ?_ _;(try simp only[pS]);go_wp2;rw [HC.out];go_end0;exact ⟨rfl,HG3.out⟩
theorem c_more (h:Mf N r g lb b b1 gm w w (st,odd) p):Calls Tryz.prog 212 #[.pointer (some ⟨b,0,none⟩),.pointer (some ⟨b1,0,none⟩)] w (MfO N r g lb b b1 gm w (fdS bkE bkL cqF 6 st,fdO 6 odd st) (fdP bkE bkL cqF 6 p st)):=by
  have eP:fdP bkE bkL cqF 6 p st=⟨p.k,p.fr,p.too,p.op,p.rd,p.ky,p.st,p.hd,p.bs,p.c,p.up,p.es,p.ls,p.cs,Wi.fV st⟩:=rfl;have eS:fdS bkE bkL cqF 6 st=Wi.nS st:=rfl;have eO:fdO 6 odd st=Wi.fO odd st:=rfl;rw [eP,eS,eO];clear eP eS eO;refine hidC fun C HC=>?_;have HF:Hid (Mf N r g lb b b1 gm w w (st,odd) p):=h;clear h;go_enter Tryz.func212,Tryz.ntmps212;go_upto_region 0 with fail;refine wp_region_held_drew (S:=fun w'=>Hid (Mx N r g lb b b1 gm w w')) rfl (mN HF) (fun _=>?_);have HG:Hid (Mf N r g lb b b1 gm w w.drew (st,odd) p):=HF.out.no (Kept.refl No _).drew;clear HF;generalize w.drew=w2 at HG ⊢;refine mT 0 2 HG (zM1 U210) ?_;(try simp only[pS]);refine mT 1 3 HG (zMb U202) ?_;(try simp only[pS]);refine mC 2 4 HG (s':=(Wi.nS st,Wi.fO odd st)) (p_rflag HG.out.src) ?_;rintro e w3 ⟨rfl,h1,h2⟩;refine ⟨_,rfl,h1,h2,fun HG2=>?_⟩;(try simp only[pS]);refine mK 3 5 HG2 (.pointer (some ⟨gm,0,none⟩)) ?_;(try simp only[pS]);refine mK 4 6 HG2 (.pointer (some ⟨gm,29,none⟩)) ?_;(try simp only[pS]);refine mW 5 29 HG2 ⟨p.k,p.fr,p.too,p.op,p.rd,p.ky,p.st,p.hd,p.bs,p.c,p.up,p.es,p.ls,p.cs,Wi.fV st⟩ [.bool (Wi.fV st)] (t:=4) (v:=Value.bool (Wi.fV st)) rfl S4 (by simp [Value.oneCell']) (Nat.le_of_ble_eq_true (by kernel_rfl)) (fun x e l c h=>⟨x,e,l,c,rfl,h.rb,h.re,h.rl,h.rc,h.fb,h.fe,h.fl,h.fc⟩) fun w4 HG3=>?_;(try simp only[pS]);refine wpAnyH_done (by kernel_rfl) ?_ _;(try simp only[pS]);go_wp2;rw [HC.out];go_end0;exact ⟨rfl,HG3.out⟩
end
section
variable {N r g lb b b1 gm:Nat} {st:Wi.RS} {odd:Bool} {w:World} {p:Pm}
theorem c_bkt (h:Mf N r g lb b b1 gm w w (st,odd) p):Calls Tryz.prog 209 #[.pointer (some ⟨b,0,none⟩),.pointer (some ⟨b1,0,none⟩)] w (MfO N r g lb b b1 gm w (fdS bkE bkL cqF 4 st,fdO 4 odd st) (fdP bkE bkL cqF 4 p st)):=by
  have eP:fdP bkE bkL cqF 4 p st=⟨p.k,p.fr,p.too,p.op,p.rd,p.ky,p.st,p.hd,p.bs,p.c,Wi.nV st,rkE st (bkE st),rkL st (bkE st) (bkL st),p.cs,p.mo⟩:=rfl;have eS:fdS bkE bkL cqF 4 st=rkS st (bkE st) (bkL st):=rfl;have eO:fdO 4 odd st=odd:=rfl;rw [eP,eS,eO];clear eP eS eO;refine hidC fun C HC=>?_;have HF:Hid (Mf N r g lb b b1 gm w w (st,odd) p):=h;clear h;go_enter Tryz.func209,Tryz.ntmps209;go_upto_region 0 with fail;refine wp_region_held_drew (S:=fun w'=>Hid (Mx N r g lb b b1 gm w w')) rfl (mN HF) (fun _=>?_);have HG:Hid (Mf N r g lb b b1 gm w w.drew (st,odd) p):=HF.out.no (Kept.refl No _).drew;clear HF;generalize w.drew=w2 at HG ⊢;refine mT 0 2 HG (zM1 U210) ?_;(try simp only[pS]);refine mT 1 3 HG (zMb U202) ?_;(try simp only[pS]);refine mC 2 4 HG (s':=(rkS st (bkE st) (bkL st),odd)) (p_rbkt HG.out.src) ?_;rintro e w3 ⟨ge,gl,rfl,hk⟩;refine ⟨_,rfl,hk.st,hk.fq.kept,fun HG2=>?_⟩;have HX:Hid (Box w3 ge 92 (enL (rkE st (bkE st))).toArray∧Box w3 gl 94 (laL (rkL st (bkE st) (bkL st))).toArray∧N≤ge∧N≤gl):=⟨hk.fq.box 0 _ _ _ rfl,hk.fq.box 1 _ _ _ rfl,Nat.le_trans HG.out.lt.2.2.2 (kr_fresh hk (i:=0) rfl),Nat.le_trans HG.out.lt.2.2.2 (kr_fresh hk (i:=1) rfl)⟩;(try simp only[pS]);refine mK 3 5 HG2 (.pointer (some ⟨gm,0,none⟩)) ?_;(try simp only[pS]);refine mK 4 6 HG2 (.pointer (some ⟨gm,25,none⟩)) ?_;(try simp only[pS]);refine mW 5 25 HG2 ⟨p.k,p.fr,p.too,p.op,p.rd,p.ky,p.st,p.hd,p.bs,p.c,Wi.nV st,rkE st (bkE st),rkL st (bkE st) (bkL st),p.cs,p.mo⟩ (Bv.cs ⟨Wi.nV st,⟨some ⟨ge,0,none⟩,(rkE st (bkE st)).length,(rkE st (bkE st)).length⟩,⟨some ⟨gl,0,none⟩,(rkL st (bkE st) (bkL st)).length,(rkL st (bkE st) (bkL st)).length⟩⟩) (t:=43) (v:=.agg (Bv.cells ⟨Wi.nV st,⟨some ⟨ge,0,none⟩,(rkE st (bkE st)).length,(rkE st (bkE st)).length⟩,⟨some ⟨gl,0,none⟩,(rkL st (bkE st) (bkL st)).length,(rkL st (bkE st) (bkL st)).length⟩⟩)) rfl S43 (Bv.oneL _) (Nat.le_of_ble_eq_true (by kernel_rfl)) (fun x e l c h=>⟨x,⟨some ⟨ge,0,none⟩,(rkE st (bkE st)).length,(rkE st (bkE st)).length⟩,⟨some ⟨gl,0,none⟩,(rkL st (bkE st) (bkL st)).length,(rkL st (bkE st) (bkL st)).length⟩,c,rfl,h.rb,RdE.ofBox HX.out.1 rfl,RdL.ofBox HX.out.2.1 rfl,h.rc,h.fb,fun k hk=>by rw [at_box hk];exact ⟨HX.out.2.2.1,HX.out.1.lt⟩,fun k hk=>by rw [at_box hk];exact ⟨HX.out.2.2.2,HX.out.2.1.lt⟩,h.fc⟩) fun w4 HG3=>?_;(try simp only[pS]);refine wpAnyH_done (by kernel_rfl) ?_ _;(try simp only[pS]);go_wp2;rw [HC.out];go_end0;exact ⟨rfl,HG3.out⟩
theorem c_cmds (h:Mf N r g lb b b1 gm w w (st,odd) p):Calls Tryz.prog 210 #[.pointer (some ⟨b,0,none⟩),.pointer (some ⟨b1,0,none⟩)] w (MfO N r g lb b b1 gm w (fdS bkE bkL cqF 5 st,fdO 5 odd st) (fdP bkE bkL cqF 5 p st)):=by
  have eP:fdP bkE bkL cqF 5 p st=⟨p.k,p.fr,p.too,p.op,p.rd,p.ky,p.st,p.hd,p.bs,p.c,p.up,p.es,p.ls,cmsL (cqF st) (Wi.nS st),p.mo⟩:=rfl;have eS:fdS bkE bkL cqF 5 st=cmsS (cqF st) (Wi.nS st):=rfl;have eO:fdO 5 odd st=odd:=rfl;rw [eP,eS,eO];clear eP eS eO;refine hidC fun C HC=>?_;have HF:Hid (Mf N r g lb b b1 gm w w (st,odd) p):=h;clear h;go_enter Tryz.func210,Tryz.ntmps210;go_upto_region 0 with fail;refine wp_region_held_drew (S:=fun w'=>Hid (Mx N r g lb b b1 gm w w')) rfl (mN HF) (fun _=>?_);have HG:Hid (Mf N r g lb b b1 gm w w.drew (st,odd) p):=HF.out.no (Kept.refl No _).drew;clear HF;generalize w.drew=w2 at HG ⊢;refine mT 0 2 HG (zM1 U210) ?_;(try simp only[pS]);refine mT 1 3 HG (zMb U202) ?_;(try simp only[pS]);refine mT 2 4 HG (zMb U202) ?_;(try simp only[pS]);refine mK 3 5 HG (.func (.func 190) #[.pointer (some ⟨r,0,none⟩)] #[]) ?_;(try simp only[pS]);refine mC 4 6 HG (s':=(cmsS (cqF st) (Wi.nS st),odd)) (p_listC HG.out.src) ?_;rintro e w3 ⟨gc,rfl,hk⟩;refine ⟨_,rfl,hk.st,hk.fq.kept,fun HG2=>?_⟩;have HX:Hid (Box w3 gc 39 (cmL (cmsL (cqF st) (Wi.nS st))).toArray∧N≤gc):=⟨hk.fq.box 0 _ _ _ rfl,Nat.le_trans HG.out.lt.2.2.2 (kr_fresh hk (i:=0) rfl)⟩;(try simp only[pS]);refine mK 5 7 HG2 (.pointer (some ⟨gm,0,none⟩)) ?_;(try simp only[pS]);refine mK 6 8 HG2 (.pointer (some ⟨gm,28,none⟩)) ?_;(try simp only[pS]);refine mW 7 28 HG2 ⟨p.k,p.fr,p.too,p.op,p.rd,p.ky,p.st,p.hd,p.bs,p.c,p.up,p.es,p.ls,cmsL (cqF st) (Wi.nS st),p.mo⟩ [.slice (some ⟨gc,0,none⟩) (cqF st) (cqF st)] (t:=26) (v:=Value.slice (some ⟨gc,0,none⟩) (cqF st) (cqF st)) rfl S26 (by simp [Value.oneCell']) (Nat.le_of_ble_eq_true (by kernel_rfl)) (fun x e l c h=>⟨x,e,l,⟨some ⟨gc,0,none⟩,cqF st,cqF st⟩,rfl,h.rb,h.re,h.rl,RdC.ofBox HX.out.1 (cmsL_len _ _),h.fb,h.fe,h.fl,fun k hk=>by rw [at_box hk];exact ⟨HX.out.2,HX.out.1.lt⟩⟩) fun w4 HG3=>?_;(try simp only[pS]);refine wpAnyH_done (by kernel_rfl) ?_ _;(try simp only[pS]);go_wp2;rw [HC.out];go_end0;exact ⟨rfl,HG3.out⟩
end
theorem MsF.lower {N M:Nat} {w:World} {x e l c:Sl} {p:Pm} (h:MsF N w x e l c p) (hM:M≤N):MsF M w x e l c p:=
  ⟨h.rb,h.re,h.rl,h.rc,fun k e=>⟨Nat.le_trans hM (h.fb k e).1,(h.fb k e).2⟩,fun k e=>⟨Nat.le_trans hM (h.fe k e).1,(h.fe k e).2⟩,fun k e=>⟨Nat.le_trans hM (h.fl k e).1,(h.fl k e).2⟩,fun k e=>⟨Nat.le_trans hM (h.fc k e).1,(h.fc k e).2⟩⟩
theorem take_snoc {F:List Int} {i:Nat} (h:i < F.length):F.take (i+1)=F.take i++[F[i]?.getD 0]:=by rw [List.take_add_one,List.getElem?_eq_getElem h];rfl
theorem fk_bd {k:Int} {i:Nat} (h:i < (fieldsK k).length):(fieldsK k)[i]?.getD 0=0∨(fieldsK k)[i]?.getD 0=1∨(fieldsK k)[i]?.getD 0=2∨(fieldsK k)[i]?.getD 0=3∨(fieldsK k)[i]?.getD 0=4∨(fieldsK k)[i]?.getD 0=5∨(fieldsK k)[i]?.getD 0=6:=by
  have key:∀ F:List Int,F.all (fun f=>f==0||(f==1||(f==2||(f==3||(f==4||(f==5||f==6))))))=true→∀ i,i < F.length→F[i]?.getD 0=0∨F[i]?.getD 0=1∨F[i]?.getD 0=2∨F[i]?.getD 0=3∨F[i]?.getD 0=4∨F[i]?.getD 0=5∨F[i]?.getD 0=6:=by
    intro F hF i hi;have h1:=List.all_eq_true.1 hF F[i] (List.getElem_mem hi);have h2:F[i]?.getD 0=F[i]:=by rw [List.getElem?_eq_getElem hi];rfl
    rw [h2]
    simpa using h1
  rcases fk_cases k with h1 | h1 | h1 | h1 | h1 | ⟨_,h1⟩ | ⟨_,h1⟩ | h1 <;> rw [h1] at h ⊢ <;> exact key _ (by decide) i h
theorem fk_len (k:Int):(fieldsK k).length≤5:=by
  rcases fk_cases k with h1 | h1 | h1 | h1 | h1 | ⟨_,h1⟩ | ⟨_,h1⟩ | h1 <;> rw [h1] <;> decide
structure LpS (N r g lb b b1 gm M ga gf:Nat) (F:List Int) (st:Wi.RS) (odd:Bool) (w0:World) (i:Nat) (w:World):Prop where
  mf:Mf N r g lb b b1 gm w0 w (fdsS bkE bkL cqF (F.take i) (Wi.t9 st),fdsO bkE bkL cqF (F.take i) (Wi.o2 odd st) (Wi.t9 st)) (fdsP bkE bkL cqF (F.take i) (hdP st) (Wi.t9 st))
  ans:Box w M 45 (Mg.cells mgZ)
  arr:Box w ga 208 (Wi.fldV b b1)
  fl:Box w gf 164 (i64L F).toArray
  ne:(M≠r∧M≠g∧M≠gm)∧(ga≠r∧ga≠g∧ga≠gm)∧gf≠r∧gf≠g∧gf≠gm
theorem LpS.step {N r g lb b b1 gm M ga gf:Nat} {F:List Int} {st:Wi.RS} {odd:Bool} {w0 w w':World} {i:Nat} {f:Int} (h:LpS N r g lb b b1 gm M ga gf F st odd w0 i w) (hlt:i < F.length) (hf:F[i]?.getD 0=f)
    (hm:Mf N r g lb b b1 gm w w' (fdS bkE bkL cqF f (fdsS bkE bkL cqF (F.take i) (Wi.t9 st)),fdO f (fdsO bkE bkL cqF (F.take i) (Wi.o2 odd st) (Wi.t9 st)) (fdsS bkE bkL cqF (F.take i) (Wi.t9 st))) (fdP bkE bkL cqF f (fdsP bkE bkL cqF (F.take i) (hdP st) (Wi.t9 st)) (fdsS bkE bkL cqF (F.take i) (Wi.t9 st)))) :
    LpS N r g lb b b1 gm M ga gf F st odd w0 (i+1) w':=by
  have hx:∀ k,k≠r∧k≠g∧k≠gm→¬ (k=r∨k=g∨k=gm):=fun k hk e=>by rcases e with e | e | e <;> omega
  refine ⟨?_,h.ans.kept hm.kept (hx _ h.ne.1),h.arr.kept hm.kept (hx _ h.ne.2.1),h.fl.kept hm.kept (hx _ h.ne.2.2),h.ne⟩;rw [take_snoc hlt,hf,fdsS_snoc,fdsO_snoc,fdsP_snoc];exact ⟨hm.src,hm.hb,hm.hb1,hm.msg,hm.lt,hm.ne,h.mf.kept.then hm.kept⟩
theorem U1:Tryz.prog.underlying 1=some (.func #[] #[] false):=by kernel_rfl
def RmO (w0 W:World) (r g lb:Nat) (odd:Bool) (st:Wi.RS) (e:Ending) (w':World):Prop:=
  ∃ x es l c,e=.returned (.agg (Mg.cells (pmG (fdsP bkE bkL cqF (fieldsK (Wi.nV st)) (hdP st) (Wi.t9 st)) x es l c)))∧Wi.RdM w0 w' r g lb (fdsO bkE bkL cqF (fieldsK (Wi.nV st)) (Wi.o2 odd st) (Wi.t9 st)) (fdsS bkE bkL cqF (fieldsK (Wi.nV st)) (Wi.t9 st))∧MsF W.heap.size w' x es l c (fdsP bkE bkL cqF (fieldsK (Wi.nV st)) (hdP st) (Wi.t9 st))
theorem RmO.nil {w0 W:World} {r g lb:Nat} {odd:Bool} {st:Wi.RS} (h:Wi.RdM w0 W r g lb odd st) (hf:fieldsK (Wi.nV st)=[]):Calls Tryz.prog 81 #[.pointer (some ⟨r,0,none⟩)] W (RmO w0 W r g lb odd st):=by
  refine (Wi.readMsg_nil h hf).mono ?_;rintro e w' ⟨rfl,hr⟩;refine ⟨slZ,slZ,slZ,slZ,?_,?_,?_⟩
  · rw [hf];rfl
  · rw [hf];exact hr
  · rw [hf]
    exact ⟨RdB.nilS _,RdE.nilS _,RdL.nilS _,RdC.nilS _,fun k e=>absurd e At.none,fun k e=>absurd e At.none,fun k e=>absurd e At.none,fun k e=>absurd e At.none⟩
section
attribute [local go_sem ↓] Wi.run_zero71 Wi.run_store71
attribute [local go_sem] Wi.box_new Wi.build71 Wi.run_cells71 Wi.mZ_size Wi.mZ_ne
set_option maxRecDepth 100000 in
set_option maxHeartbeats 8000000 in
theorem readMsg_some {w0 W:World} {r g lb:Nat} {odd:Bool} {st:Wi.RS} (h:Wi.RdM w0 W r g lb odd st) (hf:fieldsK (Wi.nV st)≠[]):Calls Tryz.prog 81 #[.pointer (some ⟨r,0,none⟩)] W (RmO w0 W r g lb odd st):=by
  refine hidC fun C HC=>?_;have HR0:Hid (Wi.RdM w0 W r g lb odd st):=h;have HF0:Hid (fieldsK (Wi.nV st)≠[]):=hf;have q0:=h.c0;have TB:Hid (1=1):=rfl;clear h hf;go_enter Tryz.func81,Tryz.ntmps81;go_upto_region 1 with (have hguard:=TB;clear hguard;refine Wi.wp_allocT rfl 45 rfl Wi.mZ.cells Wi.Tryz.info45z W.heap.size rfl ?_;clear TB);obtain ⟨w1,hw1⟩:∃ w1,w1=W.alloc (.cells Wi.mZ.cells 45):=⟨_,rfl⟩;rw [← hw1];have hk1:Wi.Kept Wi.No W w1:=by rw [hw1];exact (Wi.Kept.refl Wi.No W).alloc _
  have HB1:Hid (Wi.Box w1 W.heap.size 45 Wi.mZ.cells):=by rw [hw1];exact Wi.Box.new _ _ _
  have HR1:Hid (Wi.RdM w0 w1 r g lb odd st):=HR0.out.no hk1;have q1:=HR1.out.c0;have HR:Hid (Wi.RdA w1 w1 r g lb odd st none):=⟨HR1.out.anew,fun _ e=>nomatch e⟩;have HN:Hid (w0.heap.size≤W.heap.size∧W.heap.size≠r∧W.heap.size≠g∧W.heap.size≠lb):=⟨HR0.out.kept.size,by have:=HR0.out.ltr;omega,by have:=HR0.out.ltg;omega,by have:=HR0.out.ltl;omega⟩;have HL:Hid (r < w1.heap.size∧g < w1.heap.size):=⟨HR1.out.ltr,HR1.out.ltg⟩;have n1:w1.heap.size≠r:=by have:=HR1.out.ltr;omega
  have HW1:Hid (W.heap.size≤w1.heap.size):=hk1.size;clear hk1 hw1 q0 HR0;simp only[Act.put,List.setIfInBounds_toArray,List.set_cons_zero,List.set_cons_succ]
  go_cut [3] from 7 (fun v wz=>∃ N:Nat,v=.pointer (some ⟨N,0,none⟩)∧Hid (Wi.RdZ w0 w1 wz r g lb N W.heap.size odd st))
  case first=>
    go_region_held3 (fun w'=>w'.cell? ⟨r,0,none⟩=some (.pointer (some ⟨g,0,none⟩))) (first | go_keep | (rw [Wi.cell_setRow _ _ _ _ _ (by first | assumption | (apply Ne.symm;assumption))];go_keep)) (first
      | (go_at_call 160;(first
          | refine (Wi.NumA HL.out.1 HL.out.2 HR.out).mono ?_
          | refine (Wi.NumA HL.out.1 HL.out.2 HR.out.drew).mono ?_
          | refine (Wi.NumA HL.out.1 HL.out.2 (HR.out.allocd _ rfl)).mono ?_
          | refine (Wi.NumA HL.out.1 HL.out.2 (HR.out.drew.allocd w1.heap.size rfl)).mono ?_);rintro e wc ⟨rfl,hr,q,n⟩;clear HR;have HR:Hid (Wi.RdA w1 wc r g lb _ _ _):=hr;(first | have hb:=hr.box | skip);clear hr)
      | (go_at_call 161;(first
          | refine (Wi.AddrA HL.out.1 HL.out.2 HR.out).mono ?_
          | refine (Wi.AddrA HL.out.1 HL.out.2 (HR.out.allocd _ rfl)).mono ?_);rintro e wc ⟨rfl,hr,q,n⟩;clear HR;have HR:Hid (Wi.RdA w1 wc r g lb _ _ _):=hr;(first | have hb:=hr.box | skip);clear hr))
    all_goals go_wp2_with fail
    all_goals go_meet
    all_goals first
      | exact ⟨_,rfl,HR.out.fin HR1.out HB1.out HN.out.1 HN.out.2⟩
      | exact ⟨_,rfl,(HR.out.allocd _ rfl).fin HR1.out HB1.out HN.out.1 HN.out.2⟩
  case rest=>
    obtain ⟨G,rfl,HZ⟩:=hcut;have HFR:Hid (Calls Tryz.prog 162 #[.pointer (some ⟨r,0,none⟩),.pointer (some ⟨G,0,none⟩)] wc fun e w'=>e=.returned (.agg (Wi.fldV wc.heap.size (wc.heap.size+1)))∧Wi.Box w' wc.heap.size 202 #[.pointer (some ⟨r,0,none⟩)]∧Wi.Box w' (wc.heap.size+1) 210 #[.pointer (some ⟨G,0,none⟩)]∧Wi.Kept Wi.No wc w'):=Wi.fieldReaders_any r G wc;have HS:Hid (r < wc.heap.size∧g < wc.heap.size∧G < wc.heap.size∧W.heap.size < wc.heap.size∧w0.heap.size≤W.heap.size):=⟨HZ.out.rd.ltr,HZ.out.rd.ltg,HZ.out.msg.lt,HZ.out.ans.lt,HN.out.1⟩;clear HR1 HB1 HR HN HL n1 q1
    go_wp2_with fail
    refine HFR.out.mono ?_;rintro e w3 ⟨rfl,hA,hB,hk3⟩;have HZ3:Hid (Wi.RdZ w0 w1 w3 r g lb G W.heap.size odd st):=HZ.out.no hk3;have HA3:Hid (Wi.Box w3 wc.heap.size 202 #[.pointer (some ⟨r,0,none⟩)]∧Wi.Box w3 (wc.heap.size+1) 210 #[.pointer (some ⟨G,0,none⟩)]):=⟨hA,hB⟩;have HS3:Hid (wc.heap.size+1 < w3.heap.size):=hB.lt;clear hk3 hA hB HZ HFR;have TA:Hid (1=1):=rfl;have TS:Hid (1=1):=rfl;have HB3:Hid (Wi.Box (w3.alloc (.cells Wi.fld0 208)) w3.heap.size 208 Wi.fld0):=Wi.Box.new _ _ _;go_upto_region 3 with (first
      | (have hguard:=TA;clear hguard;refine Wi.wp_allocT rfl 208 rfl Wi.fld0 Wi.Tryz.info208z w3.heap.size rfl ?_;clear TA)
      | (have hguard:=TS;clear hguard;refine wpList_store_row rfl 208 _ _ rfl w3.heap.size (Wi.fldV wc.heap.size (wc.heap.size+1)) (by rfl) (by rfl) 208 Wi.fld0 HB3.out Wi.Tryz.size208 (by rfl) (Wi.fldV_one _ _) ?_;clear TS))
    obtain ⟨w5,hw5⟩:∃ w5,w5=(w3.alloc (.cells Wi.fld0 208)).setRow w3.heap.size (Wi.fldV wc.heap.size (wc.heap.size+1)):=⟨_,rfl⟩;rw [← hw5];have hk5:Wi.Kept Wi.No w3 w5:=by rw [hw5];exact ((Wi.Kept.refl Wi.No w3).alloc _).fresh (Wi.Kept.setRow _ _ _) (fun i e=>by unfold Wi.Only at e;omega)
    have HZ5:Hid (Wi.RdZ w0 w1 w5 r g lb G W.heap.size odd st):=HZ3.out.no hk5;have HA5:Hid (Wi.Box w5 wc.heap.size 202 #[.pointer (some ⟨r,0,none⟩)]∧Wi.Box w5 (wc.heap.size+1) 210 #[.pointer (some ⟨G,0,none⟩)]∧Wi.Box w5 w3.heap.size 208 (Wi.fldV wc.heap.size (wc.heap.size+1))):=⟨HA3.out.1.kept hk5 (fun e=>e),HA3.out.2.kept hk5 (fun e=>e),by rw [hw5];exact HB3.out.setRow _⟩;have q5:w5.cell? ⟨G,0,none⟩=some (.int .i64 (Wi.nV st)):=HZ5.out.msg.cell 0;clear hw5 hk5 HZ3 HB3 HA3;try simp only[Act.put,List.setIfInBounds_toArray,List.set_cons_zero,List.set_cons_succ]
    go_wp2_with fail
    obtain ⟨F,hF⟩:∃ F,fieldsK (Wi.nV st)=F:=⟨_,rfl⟩;have HFk:Hid (fieldsK (Wi.nV st)=F):=hF;have hFO:=p_fieldsB (Wi.nV st) w5;rw [hF] at hFO;refine hFO.mono ?_;rintro e w6 ⟨hz | ⟨hz,gf,rfl,HL6⟩⟩
    · exact absurd (HFk.out.trans hz.1) HF0.out
    have hk6:Kept No w5 w6:=HL6.out.kept;have hgf:w5.heap.size≤gf:=(HL6.out.low 0 gf _ _ rfl).elim id False.elim;have HZ6:Hid (Wi.RdZ w0 w1 w6 r g lb G W.heap.size odd st):=HZ5.out.no (wk hk6);have HP:Hid (LpS w6.heap.size r g lb wc.heap.size (wc.heap.size+1) G W.heap.size w3.heap.size gf F st odd w6 0 w6):=by
      have hs:=HS.out;have hs3:=HS3.out;have h53:=HA5.out.2.2.lt;have hsz:=hk6.size;have hn:=HZ5.out.ne;exact ⟨⟨HZ6.out.rd.anew,HA5.out.1.kept (wk hk6) (fun e=>e),HA5.out.2.1.kept (wk hk6) (fun e=>e),⟨slZ,slZ,slZ,slZ,HZ6.out.msg,RdB.nilS _,RdE.nilS _,RdL.nilS _,RdC.nilS _,fun k e=>absurd e At.none,fun k e=>absurd e At.none,fun k e=>absurd e At.none,fun k e=>absurd e At.none⟩,
        ⟨by omega,by omega,by omega,Nat.le_refl _⟩,⟨⟨by omega,by omega,by omega⟩,⟨by omega,by omega,by omega⟩,by omega,by omega,by omega⟩,Kept.refl _ _⟩,HZ6.out.ans,HA5.out.2.2.kept (wk hk6) (fun e=>e),HL6.out.box 0 _ _ _ rfl,⟨⟨by omega,by omega,by omega⟩,⟨by omega,by omega,by omega⟩,by omega,by omega,by omega⟩⟩
    have HK:Hid (Wi.RdM w0 w6 r g lb (Wi.o2 odd st) (Wi.t9 st)∧W.heap.size < w6.heap.size∧w0.heap.size≤G∧w0.heap.size≤W.heap.size∧(G≠r∧G≠g∧G≠lb)∧(W.heap.size≠r∧W.heap.size≠g∧W.heap.size≠lb)∧G≠W.heap.size):=by
      have hs:=HS.out;have hs3:=HS3.out;have h53:=HA5.out.2.2.lt;have hsz:=hk6.size;have hn:=HZ5.out.ne;exact ⟨HZ6.out.rd,by omega,hn.2.1,hn.2.2.1,by omega,by omega,hn.1⟩
    clear hk6 q5 HZ5 HZ6 HA5 HL6 HS HS3 hgf hFO hF;generalize wc.heap.size+1=b1 at HP ⊢;generalize wc.heap.size=b at HP ⊢;generalize w3.heap.size=ga at HP ⊢;go_wp2
    go_loopw [54] (fun v wr=>∃ i:Nat,v=.int .i64 ((i:Nat):Int)∧i≤F.length∧Hid (LpS w6.heap.size r g lb b b1 G W.heap.size ga gf F st odd w6 i wr)) (fun v _=>F.length - (intOf v).toNat)
    case atStart=>exact ⟨0,by go_num,by omega,HP⟩
    case round=>
      clear HP;obtain ⟨i,rfl,hi,HP⟩:=hrel
      by_cases hlt:i < F.length
      ·go_upto_region 4 with fail;refine Sg<|bN (lI (a:=((i:Nat):Int)) (b:=((F.length:Nat):Int)) (decide_eq_true (by omega)))<|Nl ?_;simp only[pS];go_upto_region 5 with fail;refine Sg<|iS (s:=⟨some ⟨gf,0,none⟩,F.length,F.length⟩) (i:=i) rfl E141 F141 (by show _ < F.length;omega)<|lR (load_one (i64_at HP.out.fl i hlt) U164 rfl)<|tK (.int .i64 (F[i]?.getD 0))<|Nl ?_;simp only[pS];have hb7:=fk_bd (k:=Wi.nV st) (i:=i) (by rw [HFk.out];exact hlt);rw [HFk.out] at hb7;have hlen:F.length≤5:=by have:=fk_len (Wi.nV st);rw [HFk.out] at this;exact this
       rcases hb7 with hf | hf | hf | hf | hf | hf | hf
       · rw [hf]
         go_upto_region 6 with fail;refine Sg<|tK (.int .i64 0)<|tK (pg ga 0)<|lR (load_one (HP.out.arr.cell 0) U1 rfl) ?_;(try simp only[pS]);refine wp_callW 205 #[.pointer (some ⟨b,0,none⟩),.pointer (some ⟨b1,0,none⟩)] (by kernel_rfl) _ (c_stamp HP.out.mf.start) (by kernel_rfl) ?_;rintro e w' ⟨rfl,hm⟩;refine ⟨_,rfl,?_⟩;(try simp only[pS]);have HP2:Hid (LpS w6.heap.size r g lb b b1 G W.heap.size ga gf F st odd w6 (i+1) w'):=HP.out.step hlt hf hm;clear hm;refine Nl ?_;(try simp only[pS]);go_upto_region 7 with fail;refine Sg<|bN (v:=.int .i64 (((i+1):Nat):Int)) (b_addw ((i:Nat):Int) 1 (((i+1):Nat):Int) (by rw [IntKind.wrap_i64];omega))<|tK (.int .i64 (((i+1):Nat):Int))<|Nl ?_;simp only[pS];go_wp2;go_roundw
         case rel=>exact ⟨i+1,by go_num,by omega,HP2⟩
         case measure=>simp [intOf];omega
       · rw [hf]
         go_upto_region 6 with fail;refine Sg<|tK (.int .i64 1)<|tK (pg ga 1)<|lR (load_one (HP.out.arr.cell 1) U1 rfl) ?_;(try simp only[pS]);refine wp_callW 206 #[.pointer (some ⟨b,0,none⟩),.pointer (some ⟨b1,0,none⟩)] (by kernel_rfl) _ (c_held HP.out.mf.start) (by kernel_rfl) ?_;rintro e w' ⟨rfl,hm⟩;refine ⟨_,rfl,?_⟩;(try simp only[pS]);have HP2:Hid (LpS w6.heap.size r g lb b b1 G W.heap.size ga gf F st odd w6 (i+1) w'):=HP.out.step hlt hf hm;clear hm;refine Nl ?_;(try simp only[pS]);go_upto_region 7 with fail;refine Sg<|bN (v:=.int .i64 (((i+1):Nat):Int)) (b_addw ((i:Nat):Int) 1 (((i+1):Nat):Int) (by rw [IntKind.wrap_i64];omega))<|tK (.int .i64 (((i+1):Nat):Int))<|Nl ?_;simp only[pS];go_wp2;go_roundw
         case rel=>exact ⟨i+1,by go_num,by omega,HP2⟩
         case measure=>simp [intOf];omega
       · rw [hf]
         go_upto_region 6 with fail;refine Sg<|tK (.int .i64 2)<|tK (pg ga 2)<|lR (load_one (HP.out.arr.cell 2) U1 rfl) ?_;(try simp only[pS]);refine wp_callW 207 #[.pointer (some ⟨b,0,none⟩),.pointer (some ⟨b1,0,none⟩)] (by kernel_rfl) _ (c_bytes HP.out.mf.start) (by kernel_rfl) ?_;rintro e w' ⟨rfl,hm⟩;refine ⟨_,rfl,?_⟩;(try simp only[pS]);have HP2:Hid (LpS w6.heap.size r g lb b b1 G W.heap.size ga gf F st odd w6 (i+1) w'):=HP.out.step hlt hf hm;clear hm;refine Nl ?_;(try simp only[pS]);go_upto_region 7 with fail;refine Sg<|bN (v:=.int .i64 (((i+1):Nat):Int)) (b_addw ((i:Nat):Int) 1 (((i+1):Nat):Int) (by rw [IntKind.wrap_i64];omega))<|tK (.int .i64 (((i+1):Nat):Int))<|Nl ?_;simp only[pS];go_wp2;go_roundw
         case rel=>exact ⟨i+1,by go_num,by omega,HP2⟩
         case measure=>simp [intOf];omega
       · rw [hf]
         go_upto_region 6 with fail;refine Sg<|tK (.int .i64 3)<|tK (pg ga 3)<|lR (load_one (HP.out.arr.cell 3) U1 rfl) ?_;(try simp only[pS]);refine wp_callW 208 #[.pointer (some ⟨b,0,none⟩),.pointer (some ⟨b1,0,none⟩)] (by kernel_rfl) _ (c_cmd HP.out.mf.start) (by kernel_rfl) ?_;rintro e w' ⟨rfl,hm⟩;refine ⟨_,rfl,?_⟩;(try simp only[pS]);have HP2:Hid (LpS w6.heap.size r g lb b b1 G W.heap.size ga gf F st odd w6 (i+1) w'):=HP.out.step hlt hf hm;clear hm;refine Nl ?_;(try simp only[pS]);go_upto_region 7 with fail;refine Sg<|bN (v:=.int .i64 (((i+1):Nat):Int)) (b_addw ((i:Nat):Int) 1 (((i+1):Nat):Int) (by rw [IntKind.wrap_i64];omega))<|tK (.int .i64 (((i+1):Nat):Int))<|Nl ?_;simp only[pS];go_wp2;go_roundw
         case rel=>exact ⟨i+1,by go_num,by omega,HP2⟩
         case measure=>simp [intOf];omega
       · rw [hf]
         go_upto_region 6 with fail;refine Sg<|tK (.int .i64 4)<|tK (pg ga 4)<|lR (load_one (HP.out.arr.cell 4) U1 rfl) ?_;(try simp only[pS]);refine wp_callW 209 #[.pointer (some ⟨b,0,none⟩),.pointer (some ⟨b1,0,none⟩)] (by kernel_rfl) _ (c_bkt HP.out.mf.start) (by kernel_rfl) ?_;rintro e w' ⟨rfl,hm⟩;refine ⟨_,rfl,?_⟩;(try simp only[pS]);have HP2:Hid (LpS w6.heap.size r g lb b b1 G W.heap.size ga gf F st odd w6 (i+1) w'):=HP.out.step hlt hf hm;clear hm;refine Nl ?_;(try simp only[pS]);go_upto_region 7 with fail;refine Sg<|bN (v:=.int .i64 (((i+1):Nat):Int)) (b_addw ((i:Nat):Int) 1 (((i+1):Nat):Int) (by rw [IntKind.wrap_i64];omega))<|tK (.int .i64 (((i+1):Nat):Int))<|Nl ?_;simp only[pS];go_wp2;go_roundw
         case rel=>exact ⟨i+1,by go_num,by omega,HP2⟩
         case measure=>simp [intOf];omega
       · rw [hf]
         go_upto_region 6 with fail;refine Sg<|tK (.int .i64 5)<|tK (pg ga 5)<|lR (load_one (HP.out.arr.cell 5) U1 rfl) ?_;(try simp only[pS]);refine wp_callW 210 #[.pointer (some ⟨b,0,none⟩),.pointer (some ⟨b1,0,none⟩)] (by kernel_rfl) _ (c_cmds HP.out.mf.start) (by kernel_rfl) ?_;rintro e w' ⟨rfl,hm⟩;refine ⟨_,rfl,?_⟩;(try simp only[pS]);have HP2:Hid (LpS w6.heap.size r g lb b b1 G W.heap.size ga gf F st odd w6 (i+1) w'):=HP.out.step hlt hf hm;clear hm;refine Nl ?_;(try simp only[pS]);go_upto_region 7 with fail;refine Sg<|bN (v:=.int .i64 (((i+1):Nat):Int)) (b_addw ((i:Nat):Int) 1 (((i+1):Nat):Int) (by rw [IntKind.wrap_i64];omega))<|tK (.int .i64 (((i+1):Nat):Int))<|Nl ?_;simp only[pS];go_wp2;go_roundw
         case rel=>exact ⟨i+1,by go_num,by omega,HP2⟩
         case measure=>simp [intOf];omega
       · rw [hf]
         go_upto_region 6 with fail;refine Sg<|tK (.int .i64 6)<|tK (pg ga 6)<|lR (load_one (HP.out.arr.cell 6) U1 rfl) ?_;(try simp only[pS]);refine wp_callW 212 #[.pointer (some ⟨b,0,none⟩),.pointer (some ⟨b1,0,none⟩)] (by kernel_rfl) _ (c_more HP.out.mf.start) (by kernel_rfl) ?_;rintro e w' ⟨rfl,hm⟩;refine ⟨_,rfl,?_⟩;(try simp only[pS]);have HP2:Hid (LpS w6.heap.size r g lb b b1 G W.heap.size ga gf F st odd w6 (i+1) w'):=HP.out.step hlt hf hm;clear hm;refine Nl ?_;(try simp only[pS]);go_upto_region 7 with fail;refine Sg<|bN (v:=.int .i64 (((i+1):Nat):Int)) (b_addw ((i:Nat):Int) 1 (((i+1):Nat):Int) (by rw [IntKind.wrap_i64];omega))<|tK (.int .i64 (((i+1):Nat):Int))<|Nl ?_;simp only[pS];go_wp2;go_roundw
         case rel=>exact ⟨i+1,by go_num,by omega,HP2⟩
         case measure=>simp [intOf];omega
      ·obtain rfl:i=F.length:=by omega
       go_upto_region 4 with fail;refine Sg<|bN (lI (a:=((F.length:Nat):Int)) (b:=((F.length:Nat):Int)) (decide_eq_false (by omega)))<|Nl ?_;simp only[pS];obtain ⟨x,es,l,c,hb,hm⟩:=HP.out.mf.msg;rw [List.take_length] at hb hm;obtain ⟨P,hPd⟩:∃ P,fdsP bkE bkL cqF F (hdP st) (Wi.t9 st)=P:=⟨_,rfl⟩;rw [hPd] at hb hm;have HB:Hid (Box wr G 45 (Mg.cells (pmG P x es l c))∧MsF w6.heap.size wr x es l c P):=⟨hb,hm⟩;clear hb hm;go_upto_region 8 with fail;refine Sg<|lR (run_load_part (cs:=Mg.cs (pmG P x es l c)) (sub:=Mg.cs (pmG P x es l c)) HB.out.1 (Part.all _) U45 rfl S45)<|wp_storeW 45 (.tmp 2) (.tmp 63) rfl ⟨W.heap.size,0,none⟩ (.agg (Mg.cells (pmG P x es l c))) (by kernel_rfl) (by kernel_rfl) _ (run_store_to (vs:=Mg.cs (pmG P x es l c)) (cur:=Mg.cs mgZ) (new:=Mg.cs (pmG P x es l c)) HP.out.ans rfl S45 (Nat.le_of_ble_eq_true (by kernel_rfl)) (Mg.oneL _) (by kernel_rfl)) (by kernel_rfl)<|Nl ?_;(try simp only[pS]);have hkM:Kept (Only W.heap.size) wr (wr.setRow W.heap.size (Mg.cs (pmG P x es l c)).toArray):=kept_row (Kept.refl (Only W.heap.size) wr) (.inr rfl) _;have HM:Hid (Box (wr.setRow W.heap.size (Mg.cs (pmG P x es l c)).toArray) W.heap.size 45 (Mg.cells (pmG P x es l c))):=HP.out.ans.setRow _;go_wp2;rw [HC.out];refine bodyPost_ret (results_row1 (by rfl) _ _ W.heap.size (Mg.cells (pmG P x es l c)) (by rfl) (run_load_part (cs:=Mg.cs (pmG P x es l c)) (sub:=Mg.cs (pmG P x es l c)) HM.out (Part.all _) U45 rfl S45)) rfl ?_;have hK:=HK.out;have hl:=HP.out.mf.lt;refine ⟨x,es,l,c,?_,?_,?_⟩
       · rw [HFk.out,hPd]
       · rw [HFk.out]
         have hs:=HP.out.mf.src;rw [List.take_length] at hs;have hr2:=(rdSrc r g lb).far hs hkM (fun k e e2=>by have e:k=W.heap.size:=e;rcases e2 with e2 | e2 | e2 <;> omega);have k2:Kept (fun k=>k=r∨k=g) w0 wr:=(kwS hK.1.kept).trans HP.out.mf.kept (fun _ e=>e) (fun k hk e=>by
           rcases e with e | e | e
           · exact .inl e
           · exact .inr e
           · omega)
         have k3:=k2.trans hkM (fun _ e=>e) (fun k hk e=>by have e:k=W.heap.size:=e;omega);exact Wi.RdM.since hr2 (wkS k3)
       · rw [HFk.out,hPd]
         exact (HB.out.2.kept hkM (fun k e e2=>by have e2:k=W.heap.size:=e2;have:=hK.2.1;omega)).lower (Nat.le_of_lt hK.2.1)
end
section
variable {K:Src} {x:Sl} {xs:List Int} {s s':Wi.RS × Bool} {w w':World}
theorem mg_nou (m:Mg):∀ (i:Nat) z,(Mg.cells m)[i]?≠some (.int .u8 z):=by
  intro i z
  have h:∀ v∈Mg.cs m,v≠.int .u8 z:=by
    intro v hv e
    subst e
    simp [Mg.cs,Ad.cs,Ky.cs,Sp.cs,Cm.cs,Bv.cs,Sl.v] at hv
  intro e
  have e2:(Mg.cs m)[i]?=some (.int .u8 z):=by rw [← e];exact (List.getElem?_toArray ..).symm
  exact h _ (List.mem_of_getElem? e2) rfl
end
theorem took_room {st st':Wi.RS} {L:List It} (hu:uR st) (h:Took st L st') {n:Nat} (hr:room st n):room st' n:=fun zs a e=>by
  have:=(took_len hu h hr).1 zs a e
  omega
section
variable {ops:Array Oper} {o:Oper} {a:Act} {w:World} {Q:Exit→Act→World→Prop} {md:Region.Mode} {K:Src} {w0:World} {s s':Wi.RS × Bool} {l:List (Nat × TypeId × Array Value)} {fuel:Nat} {listed:Array Bool}
end
structure MsR (w0 w:World) (x e l c:Sl) (p:Pm):Prop where
  m:MgIn w (pmG p x e l c) p.bs p.es p.ls p.cs
  fe:∀ k,At e.a k→w0.heap.size≤k
  fl:∀ k,At l.a k→w0.heap.size≤k
  fc:∀ k,At c.a k→w0.heap.size≤k
def pmZ:Pm:=⟨0,adZ,adZ,0,0,kyZ,spZ,spZ,[],cZ,0,[],[],[],false⟩
theorem tV_room {st:Wi.RS} {n:Nat} (hr:room st n):(tV st).length≤n:=by
  cases st with
  | bad p c=>exact Nat.zero_le _
  | ok zs a=>
    have h2:=hr zs a rfl
    cases hq:Wi.cr zs with
    | error c=>
      have e2:tV (.ok zs a)=[]:=by simp only[tV,Wi.bytesS,hq]
      rw [e2];exact Nat.zero_le _
    | ok q=>
      have e2:tV (.ok zs a)=(zs.drop q.2).take q.1:=by simp only[tV,Wi.bytesS,hq]
      rw [e2,List.length_take,List.length_drop];omega
structure PmB (p:Pm):Prop where
  u:Wi.U8 p.bs
  b:p.bs.length≤131072
  e:p.es.length≤257
  l:p.ls.length≤256
  c:p.cs.length≤65
theorem mPm_bd {st:Wi.RS} (hu:uR st) (hr:room st 131072):PmB (mPm bkE bkL cqF st):=by
  have hu9:uR (Wi.t9 st):=(took_hd st hu).1
  have hua:uR (Wi.aS (Wi.t9 st)):=(took_2 _ hu9).1
  have hra:room (Wi.aS (Wi.t9 st)) 131072:=took_room hu ((took_hd st).trans (took_2 _)) hr
  have key:∀ p:Pm,mPm bkE bkL cqF st=p→PmB p→PmB (mPm bkE bkL cqF st):=fun p e h=>by rw [e];exact h
  have ke:∀ s,(rkE s (bkE s)).length≤257:=fun s=>by unfold rkE;rw [ensL_len];exact cntK_le _ _
  have kl:∀ s,(rkL s (bkE s) (bkL s)).length≤256:=fun s=>by unfold rkL;rw [lasL_len];exact cntK_le _ _
  have kc:∀ s,(cmsL (cqF s) (Wi.nS s)).length≤65:=fun s=>by rw [cmsL_len];exact cntK_le _ _
  rcases fk_cases (Wi.nV st) with h | h | h | h | h | ⟨_,h⟩ | ⟨_,h⟩ | h <;> unfold mPm <;> rw [h]
  · exact ⟨tV_u8 hua,tV_room hra,Nat.zero_le _,Nat.zero_le _,Nat.zero_le _⟩
  · exact ⟨Wi.U8.nil,Nat.zero_le _,Nat.zero_le _,Nat.zero_le _,Nat.zero_le _⟩
  · exact ⟨Wi.U8.nil,Nat.zero_le _,Nat.zero_le _,Nat.zero_le _,Nat.zero_le _⟩
  · exact ⟨Wi.U8.nil,Nat.zero_le _,Nat.zero_le _,Nat.zero_le _,Nat.zero_le _⟩
  · exact ⟨Wi.U8.nil,Nat.zero_le _,Nat.zero_le _,Nat.zero_le _,Nat.zero_le _⟩
  · exact ⟨Wi.U8.nil,Nat.zero_le _,ke _,kl _,Nat.zero_le _⟩
  · exact ⟨tV_u8 hua,tV_room hra,ke _,kl _,kc _⟩
  · exact ⟨Wi.U8.nil,Nat.zero_le _,Nat.zero_le _,Nat.zero_le _,Nat.zero_le _⟩
def outD (b:Bool) (ys:List Int) (good:Bool) (p:Pm):Pm × Int:=
  bif b then (bif (Wi.openOf ys).2==0 then (bif good then (p,0) else (pmZ,50)) else (pmZ,(Wi.openOf ys).2)) else (pmZ,20)
theorem mgIn_nil (w:World):MgIn w (pmG pmZ slZ slZ slZ slZ) [] [] [] []:=⟨RdB.nilS _,RdE.nilS _,RdL.nilS _,RdC.nilS _,Nat.zero_le _,Nat.zero_le _,Nat.zero_le _,Nat.zero_le _,Wi.U8.nil⟩
theorem MsF.mg {N:Nat} {w:World} {x e l c:Sl} {p:Pm} (h:MsF N w x e l c p) (hb:PmB p):MgIn w (pmG p x e l c) p.bs p.es p.ls p.cs:=
  ⟨h.rb,h.re,h.rl,h.rc,(by have:=h.rb.len;have:=hb.b;show x.l≤_;omega),(by have:=h.re.len;have:=hb.e;show e.l≤_;omega),(by have:=h.rl.len;have:=hb.l;show l.l≤_;omega),(by have:=h.rc.len;have:=hb.c;show c.l≤_;omega),hb.u⟩
theorem MsF.kept2 {N:Nat} {S:Nat→Prop} {w w':World} {x e l c:Sl} {p:Pm} (h:MsF N w x e l c p) (hk:Kept S w w') (hS:∀ k,N≤k→k < w.heap.size→¬ S k):MsF N w' x e l c p:=
  ⟨h.rb.keptL hk (fun _ k e=>hS k (h.fb k e).1 (h.fb k e).2),h.re.keptL hk (fun _ k e=>hS k (h.fe k e).1 (h.fe k e).2),h.rl.keptL hk (fun _ k e=>hS k (h.fl k e).1 (h.fl k e).2),h.rc.keptL hk (fun _ k e=>hS k (h.fc k e).1 (h.fc k e).2),
    fun k e=>⟨(h.fb k e).1,Nat.lt_of_lt_of_le (h.fb k e).2 hk.size⟩,fun k e=>⟨(h.fe k e).1,Nat.lt_of_lt_of_le (h.fe k e).2 hk.size⟩,fun k e=>⟨(h.fl k e).1,Nat.lt_of_lt_of_le (h.fl k e).2 hk.size⟩,fun k e=>⟨(h.fc k e).1,Nat.lt_of_lt_of_le (h.fc k e).2 hk.size⟩⟩
theorem mg_one (m:Mg):(Mg.cells m).all (·.oneCell')=true:=all_one (Mg.oneL m)
theorem p_readMsg {w0 W:World} {r g lb:Nat} {odd:Bool} {st:Wi.RS} (h:Wi.RdM w0 W r g lb odd st):Calls Tryz.prog 81 #[.pointer (some ⟨r,0,none⟩)] W (RmO w0 W r g lb odd st):=by
  by_cases hf:fieldsK (Wi.nV st)=[]
  · exact RmO.nil h hf
  · exact readMsg_some h hf
def EncS (w:World) (err:Int) (bytes:List Int) (e:Ending) (w':World):Prop:=∃ s:Sl,e=.returned (.tuple #[s.v,.int .i64 err])∧Wi.OwnS w' w.heap.size s.a s.k bytes∧s.l=bytes.length∧s.l≤131084∧Kept No w w'
section
variable {ops:Array Oper} {rest:List Oper} {o:Oper} {a:Act} {w:World} {Q:Exit→Act→World→Prop} {S:Nat→Prop} {w0:World} {l:List (Nat × TypeId × Array Value)}
theorem cEnS {f:FuncId} {args:Array Value} {err:Int} {bytes:List Int} (hc:Calls Tryz.prog f args w (EncS w err bytes)) (HF:Hid (Fq S w0 w l))
    (h:∀ (s:Sl) w',Hid (Fq S w0 w' l)→Hid (Wi.OwnS w' w0.heap.size s.a s.k bytes∧s.l=bytes.length)→s.l≤131084→WL ops Q rest (a.put o.dst (.tuple #[s.v,.int .i64 err])) w') (hrun:(execOp a.eval o).run Tryz.prog w=.ok (.enter f args) w:=by kernel_rfl) (hw:Region.wanted o (yielded ops a.tmps)=true:=by kernel_rfl):WL ops Q (o :: rest) a w:=
  wp_callW f args hrun _ hc hw (by rintro e w' ⟨s,rfl,h1,h2,h3,hk⟩;exact ⟨_,rfl,h s w' (HF.out.no hk) ⟨h1.lower HF.out.kept.size,h2⟩ h3⟩)
end
theorem p_packS (m:Mg) (c:Cg) (zs:List Int) (bs:List Int) (es:List En) (ls:List La) (cs:List Cm) (w:World) (hc:CgIn w c zs) (hm:MgIn w m bs es ls cs) :
    Calls Tryz.prog 52 #[.agg (Mg.cells m),.agg (Cg.cells c),.func (.func 40) #[] #[],.func (.func 53) #[] #[],.int .i64 50] w (EncS w (jdg (cfgP c zs) (msgP c.bl c.rm c.bu zs m bs es ls cs) 50) (encR (cfgP c zs&&msgP c.bl c.rm c.bu zs m bs es ls cs) (msgIts m bs es ls cs))):=by
  cases hq:(cfgP c zs&&msgP c.bl c.rm c.bu zs m bs es ls cs) with
  | false=>
    refine (Wi.packMsg_no (Mg.cells m) rfl _ 50 _ (jdg_ne hq (by decide)) c.sv.a c.sv.l c.sv.k zs c.f c.po c.bu c.bl c.rm w (fun W hk=>wcall (judgeM m c zs bs es ls cs 50 W (hc.no (kw hk)) (hm.no (kw hk))))).mono ?_;rintro e w' ⟨rfl,hk⟩;exact ⟨slZ,rfl,Wi.OwnS.nil _ _,rfl,by show 0≤_;omega,kw hk⟩
  | true=>
    rw [Bool.and_eq_true] at hq;obtain ⟨h1,h2⟩:=hq;have hB:=cfgP_bd h1;obtain ⟨hok,hlen⟩:=msg_ok' (cfg_bl h1) (by have:=hB.2;omega) (by have:=hB.1.2;omega) (cfg_ids h1) hm.u hm.b.len hm.e.len hm.l.len hm.c.len h2;have hbl:=encB_len hok;refine (Wi.packMsg_all (Mg.cells m) rfl 50 c.sv.a c.sv.l c.sv.k zs c.f c.po c.bu c.bl c.rm (encB (msgIts m bs es ls cs)) w (by omega) (encB_u8 hok) (fun W hk=>?_) (fun W g hk hW=>?_)).mono ?_
    · have:=judgeM m c zs bs es ls cs 50 W (hc.no (kw hk)) (hm.no (kw hk))
      rw [h1,h2] at this;exact wcall this
    · have hm2:=hm.no (kw hk)
      exact pPut' (putTs_some hok) (p_msg (ok:=hok) (len:=hlen) m bs es ls cs W none [] ⟨0,hW⟩ ⟨[],by simp⟩ hm2.b hm2.e hm2.l hm2.c (low_B hm.b) (low_E hm.e) (low_L hm.l) (low_C hm.c) (by have:=hm.ne;omega) (by have:=hm.nl;omega) (by have:=hm.nc;omega))
    · rintro e w' ⟨a',c',rfl,hO,hk⟩
      refine ⟨⟨a',(encB (msgIts m bs es ls cs)).length+12,c'⟩,?_,hO,?_,by show _+12≤_;omega,kw hk⟩
      · rw [h1,h2];rfl
      · show _=(Wi.sealOf (encB (msgIts m bs es ls cs))).length
        rw [Wi.sealOf_len]
set_option maxRecDepth 100000 in
set_option maxHeartbeats 4000000 in
theorem p_EncodeS (m:Mg) (c:Cg) (zs:List Int) (bs:List Int) (es:List En) (ls:List La) (cs:List Cm) (w:World) (hc:CgIn w c zs) (hm:MgIn w m bs es ls cs):Calls Tryz.prog 22 #[.agg (Mg.cells m),.agg (Cg.cells c)] w (EncS w (jdg (cfgP c zs) (msgP c.bl c.rm c.bu zs m bs es ls cs) 50) (encR (cfgP c zs&&msgP c.bl c.rm c.bu zs m bs es ls cs) (msgIts m bs es ls cs))):=by
  refine hidC fun C HC=>?_;have HCg:Hid (CgIn w c zs):=hc;have HI:Hid (MgIn w m bs es ls cs):=hm;clear hc hm;have HF:Hid (Fq No w w []):=Fq.start _ _;go_enter Tryz.func22,Tryz.ntmps22;go_upto_region 0 with fail;refine Sg<|xB (Mg.cells m) HF fun g1 w2 HF=>xB (Cg.cells c) HF fun g3 w4 HF=>tK (.slice none 0 0)<|tK (.int .i64 0)<|Nl ?_;simp only[pS];go_upto_region 1 with fail;refine Sg<|lP (Mg.cs m) HF 0 0 U45 S45 (Mg.cs m) rfl<|lP (Cg.cs c) HF 1 0 U24 S24 (Cg.cs c) rfl<|cEnS (p_packS m c zs bs es ls cs _ (HCg.out.no HF.out.kept) (HI.out.no HF.out.kept)) HF fun s5 w6 HF HR hs=>tK (s5.v)<|tK (.int .i64 (jdg (cfgP c zs) (msgP c.bl c.rm c.bu zs m bs es ls cs) 50))<|tK (s5.v)<|tK (.int .i64 (jdg (cfgP c zs) (msgP c.bl c.rm c.bu zs m bs es ls cs) 50))<|Nl ?_;simp only[pS];go_wp2;rw [HC.out];exact ⟨s5,rfl,HR.out.1,HR.out.2,hs,HF.out.kept⟩
def MsgS (w:World) (r:Pm × Int) (e:Ending) (w':World):Prop:=
  ∃ x es l c:Sl,e=.returned (.tuple #[.agg (Mg.cells (pmG r.1 x es l c)),.int .i64 r.2])∧MgIn w' (pmG r.1 x es l c) r.1.bs r.1.es r.1.ls r.1.cs∧MsF w.heap.size w' x es l c r.1∧Kept No w w'
theorem msF_nil (N:Nat) (w:World):MsF N w slZ slZ slZ slZ pmZ:=⟨RdB.nilS _,RdE.nilS _,RdL.nilS _,RdC.nilS _,fun k e=>absurd e At.none,fun k e=>absurd e At.none,fun k e=>absurd e At.none,fun k e=>absurd e At.none⟩
theorem p_DecodeS (x:Sl) (ys:List Int) (c:Cg) (zs:List Int) (w:World) (hc:CgIn w c zs) (hx:Wi.Sl w x.a x.l x.k ys):Calls Tryz.prog 36 #[x.v,.agg (Cg.cells c)] w
    (MsgS w (outD (cfgP c zs) ys (goodD c.bl c.rm c.bu zs (.ok (Wi.openOf ys).1 0)) (mPm bkE bkL cqF (.ok (Wi.openOf ys).1 0)))):=by
  cases hq:cfgP c zs with
  | false=>
    refine (Wi.eNoReadMsg x.a x.l x.k c.sv.a c.sv.l c.sv.k zs c.f c.po c.bu c.bl c.rm w hc.wi hq).mono ?_;rintro e w' ⟨rfl,hk⟩;exact ⟨slZ,slZ,slZ,slZ,rfl,mgIn_nil _,msF_nil _ _,kw hk⟩
  | true=>
    cases ho:((Wi.openOf ys).2==0) with
    | false=>
      refine (Wi.eReadMsg x.a x.l x.k c.sv.a c.sv.l c.sv.k zs c.f c.po c.bu c.bl c.rm w (fun W cs e w'=>cs=Wi.mZ.cells∧e=(Wi.openOf ys).2) (fun W hW=>?_)).mono ?_
      · exact (Wi.unpackMsg_shut x.a x.l x.k ys _ _ _ c.sv.a c.sv.l c.sv.k zs c.f c.po c.bu c.bl c.rm W (hc.wi.no hW) hq (hx.no hW) (by simpa using ho)).mono (fun e w' ⟨a,b⟩=>⟨_,_,a,rfl,Wi.MsgD.one _,b,rfl,rfl⟩)
      · rintro e w' ⟨cs,x,W,w1,rfl,hW,⟨rfl,rfl⟩,hk,hk'⟩
        have hv:outD true ys (goodD c.bl c.rm c.bu zs (.ok (Wi.openOf ys).1 0)) (mPm bkE bkL cqF (.ok (Wi.openOf ys).1 0))=(pmZ,(Wi.openOf ys).2):=by simp only[outD,cond_true,cond_false,ho]
        rw [hv];exact ⟨slZ,slZ,slZ,slZ,rfl,mgIn_nil _,msF_nil _ _,kw hk'⟩
    | true=>
      have h0:(Wi.openOf ys).2=0:=eq_of_beq ho;have h8:=open_u8 hx.u8;have hroom:room (.ok (Wi.openOf ys).1 0) 131072:=room_of hx.u8 ho;obtain ⟨st,hst⟩:∃ st,Wi.RS.ok (Wi.openOf ys).1 0=st:=⟨_,rfl⟩;have hu:uR st:=by rw [← hst];exact h8
      rw [hst] at hroom ⊢;have hbd:=mPm_bd hu hroom;obtain ⟨P,hP⟩:∃ P,mPm bkE bkL cqF st=P:=⟨_,rfl⟩;obtain ⟨good,hg⟩:∃ b,goodD c.bl c.rm c.bu zs st=b:=⟨_,rfl⟩;unfold goodD at hg;rw [hP] at hg hbd;have hv0:outD true ys (goodD c.bl c.rm c.bu zs st) (mPm bkE bkL cqF st)=(bif good then (P,0) else (pmZ,50)):=by
        unfold goodD;rw [hP,hg];simp only[outD,cond_true,ho]
      rw [hv0];refine (Wi.eReadMsg x.a x.l x.k c.sv.a c.sv.l c.sv.k zs c.f c.po c.bu c.bl c.rm w (fun W cs e w'=>∃ xb es l cc,cs=(if good then Mg.cells (pmG P xb es l cc) else Wi.mZ.cells)∧(e=if good then 0 else 50)∧MsF W.heap.size w' xb es l cc P) (fun W hW=>?_)).mono ?_
      · refine (Wi.unpackMsg_all x.a x.l x.k ys 50 c.sv.a c.sv.l c.sv.k zs c.f c.po c.bu c.bl c.rm W (hc.wi.no hW) hq (hx.no hW) h0 h8 (by have:=(open_form hx.u8 h0).2;omega)
          (mOd bkE bkL cqF st) (mSt bkE bkL cqF st) (pmP c.bl c.rm c.bu zs P) (fun W0 W1 cs=>∃ xb es l cc,cs=Mg.cells (pmG P xb es l cc)∧MsF W0.heap.size W1 xb es l cc P)
          (fun _ _ cs h=>by obtain ⟨xb,es,l,cc,rfl,_⟩:=h;exact ⟨rfl,mg_one _⟩) (fun W0 W1 W2 cs h hk=>?_) (fun W2 r g lb hk hR=>?_) (fun W0 W2 cs hk h=>?_)).mono ?_
        · obtain ⟨xb,es,l,cc,h1,h2⟩:=h
          exact ⟨xb,es,l,cc,h1,h2.kept2 (kwS hk) (fun k e1 e2 e=>by rcases e with e | e <;> omega)⟩
        · rw [hst] at hR
          refine (p_readMsg hR).mono ?_;rintro e w' ⟨xb,es,l,cc,rfl,hr,hm⟩;refine ⟨_,rfl,hr,xb,es,l,cc,?_,?_⟩
          · rw [← hP];rfl
          · rw [← hP];exact hm
        · obtain ⟨xb,es,l,cc,rfl,hm⟩:=h
          have hi:=hm.mg hbd;have hcc:=hc.no ((kw hW).then (kw hk));have:=p_rightMsg (pmG P xb es l cc) c zs P.bs P.es P.ls P.cs W2 (cfg_bl hq) (cfg_bu hq) hcc.r hi.b hi.e hi.l hi.c (by have:=hcc.n;omega) (by have:=hi.nb;omega) (by have:=hi.ne;omega) (by have:=hi.nl;omega) (by have:=hi.nc;omega);rw [pmP_is _ _ _ _ _ _ _ _ _ hm.rb.len.symm hm.re.len.symm hm.rl.len.symm hm.rc.len.symm] at this;exact wcall this
        · rintro e w' ⟨cs,rfl,⟨W0,hW0,xb,es,l,cc,rfl,hm⟩,hk⟩
          rw [hg];refine ⟨_,_,rfl,?_,?_,hk,xb,es,l,cc,rfl,rfl,hm.lower hW0⟩
          · cases good <;> rfl
          · cases good
            · exact Wi.MsgD.one _
            · exact mg_one _
      · rintro e w' ⟨cs,x,W,w1,rfl,hW,⟨xb,es,l,cc,rfl,rfl,hm⟩,hk,hk'⟩
        cases good with
        | false=>exact ⟨slZ,slZ,slZ,slZ,rfl,mgIn_nil _,msF_nil _ _,kw hk'⟩
        | true=>exact ⟨xb,es,l,cc,rfl,(hm.kept (kwS hk) (fun k e1 e2=>by omega)).mg hbd,(hm.kept (kwS hk) (fun k e1 e2=>by omega)).lower hW.size,kw hk'⟩
def dcd (ys:List Int):Pm:=mPm bkE bkL cqF (.ok (Wi.openOf ys).1 0)
theorem enc_dec {c:Cg} {zs:List Int} {m:Mg} {bs:List Int} {es:List En} {ls:List La} {cs:List Cm} {w:World} (hm:MgIn w m bs es ls cs) (hq:cfgP c zs=true) (h:msgP c.bl c.rm c.bu zs m bs es ls cs=true) :
    outD (cfgP c zs) (Wi.sealOf (encB (msgIts m bs es ls cs))) (goodD c.bl c.rm c.bu zs (.ok (Wi.openOf (Wi.sealOf (encB (msgIts m bs es ls cs)))).1 0)) (mPm bkE bkL cqF (.ok (Wi.openOf (Wi.sealOf (encB (msgIts m bs es ls cs)))).1 0))=(pOf m bs es ls cs,0) ∧
    dcd (Wi.sealOf (encB (msgIts m bs es ls cs)))=pOf m bs es ls cs∧Wi.U8 (Wi.sealOf (encB (msgIts m bs es ls cs))):=by
  have hB:=cfgP_bd hq;obtain ⟨hok,hlen⟩:=msg_ok' (cfg_bl hq) (by have:=hB.2;omega) (by have:=hB.1.2;omega) (cfg_ids hq) hm.u hm.b.len hm.e.len hm.l.len hm.c.len h;have hbl:=encB_len hok;have ho:=Wi.open_seal (encB (msgIts m bs es ls cs)) (by omega);obtain ⟨h1,h2,a,h3⟩:=back_msg (st:=.ok (encB (msgIts m bs es ls cs)) 0) (by have:=hB.2;omega) hm.b.len hm.e.len hm.l.len hm.c.len h ⟨⟨0,rfl⟩,hok⟩;have hg:goodD c.bl c.rm c.bu zs (.ok (encB (msgIts m bs es ls cs)) 0)=true:=by
    unfold goodD;rw [h1,h2,h3,← pmP_is c.bl c.rm c.bu zs (pOf m bs es ls cs) m.bl m.bk.e m.bk.l m.cm hm.b.len.symm hm.e.len.symm hm.l.len.symm hm.c.len.symm]
    show (Wi.wholeB false (.ok [] a)&&msgP c.bl c.rm c.bu zs m bs es ls cs)=true
    rw [h]
    simp [Wi.wholeB,Wi.endS,Wi.errS]
  unfold dcd;rw [ho];simp only;rw [hg,h1,hq];refine ⟨?_,rfl,Wi.sealOf_u8 (encB_u8 hok)⟩;unfold outD;rw [ho];rfl
theorem dec_zero {b:Bool} {ys:List Int} {good:Bool} {p:Pm} (h:((outD b ys good p).2==0)=true):b=true∧((Wi.openOf ys).2==0)=true∧good=true∧(outD b ys good p).1=p:=by
  unfold outD at h ⊢;cases b
  · cases h
  · cases ho:((Wi.openOf ys).2==0)
    · rw [ho] at h
      have h:((Wi.openOf ys).2==0)=true:=h;rw [ho] at h;cases h
    · rw [ho] at h
      cases good
      · cases h
      · exact ⟨rfl,rfl,rfl,rfl⟩
theorem dec_enc {c:Cg} {zs ys:List Int} (hq:cfgP c zs=true) (h8:Wi.U8 ys) (ho:((Wi.openOf ys).2==0)=true) (hg:goodD c.bl c.rm c.bu zs (.ok (Wi.openOf ys).1 0)=true):pmP c.bl c.rm c.bu zs (dcd ys)=true∧Wi.sealOf (encB (pmI (dcd ys)))=ys:=by
  have hB:=cfgP_bd hq;have h1:=dec_back (by have:=hB.2;omega) (show uR (.ok (Wi.openOf ys).1 0) from open_u8 h8) hg;unfold goodD at hg;rw [Bool.and_eq_true] at hg;refine ⟨hg.2,?_⟩;unfold dcd;rw [h1];exact (open_form h8 (eq_of_beq ho)).1
theorem same24 (x y:Sl) (A B:List Int) (w:World) (h1:RdB w x A) (h2:RdB w y B) (n1:x.l≤281474976710656) (n2:y.l≤281474976710656):Calls Tryz.prog 24 #[x.v,y.v] w (fun e w'=>e=.returned (.bool (Wi.eqB A B))∧Kept No w w'):=by
  refine (Wi.sameN_any x.a y.a x.l y.l x.k y.k A B w h1.len h2.len n1 n2 h1.row h2.row).mono ?_;rintro e w' ⟨rfl,n,rfl⟩;exact ⟨rfl,(Kept.refl No w).drewN n⟩
theorem I35:(Tryz.prog.info? 35).map (fun i=>(i.zero,i.size,i.bytes))=some (some (.slice none 0 0),1,24):=by kernel_rfl
theorem I45:(Tryz.prog.info? 45).map (fun i=>(i.zero,i.size,i.bytes))=some (some (.agg (Mg.cells mgZ)),30,312):=by kernel_rfl
theorem J66:Tryz.prog.underlying 66=some (.slice 35):=by kernel_rfl
theorem J25:Tryz.prog.underlying 25=some (.slice 45):=by kernel_rfl
structure Ent where
  x:Sl
  A:List Int
  b:Sl
  e:Sl
  l:Sl
  c:Sl
  p:Pm
def Ent.m (t:Ent):Mg:=pmG t.p t.b t.e t.l t.c
def entZ:Ent:=⟨slZ,[],slZ,slZ,slZ,slZ,pmZ⟩
def tAt (E:List Ent) (k:Nat):Ent:=E[k]?.getD entZ
structure EnOk (aa oa:Option Addr) (w:World) (t:Ent):Prop where
  s:Wi.Sl w t.x.a t.x.l t.x.k t.A
  m:MgIn w t.m t.p.bs t.p.es t.p.ls t.p.cs
  far:∀ k,At t.x.a k∨At t.b.a k∨At t.e.a k∨At t.l.a k∨At t.c.a k→k < w.heap.size∧¬ At aa k∧¬ At oa k
  d:dcd t.A=t.p
theorem EnOk.kept {S:Nat→Prop} {aa oa:Option Addr} {w w':World} {t:Ent} (h:EnOk aa oa w t) (hk:Kept S w w') (hS:∀ k,k < w.heap.size→S k→At aa k∨At oa k) (aa' oa':Option Addr) (ha:∀ k,At aa' k→At aa k∨w.heap.size≤k) (ho:∀ k,At oa' k→At oa k∨w.heap.size≤k):EnOk aa' oa' w' t:=by
  have hn:∀ k,At t.x.a k∨At t.b.a k∨At t.e.a k∨At t.l.a k∨At t.c.a k→¬ S k:=fun k hk2 e=>(hS k (h.far k hk2).1 e).elim (h.far k hk2).2.1 (h.far k hk2).2.2;refine ⟨h.s.kept2 (wkS hk) (fun _ k e=>hn k (.inl e)),⟨h.m.b.keptL hk (fun _ k e=>hn k (.inr (.inl e))),h.m.e.keptL hk (fun _ k e=>hn k (.inr (.inr (.inl e)))),h.m.l.keptL hk (fun _ k e=>hn k (.inr (.inr (.inr (.inl e))))),h.m.c.keptL hk (fun _ k e=>hn k (.inr (.inr (.inr (.inr e))))),h.m.nb,h.m.ne,h.m.nl,h.m.nc,h.m.u⟩,fun k e=>?_,h.d⟩;obtain ⟨h1,h2,h3⟩:=h.far k e;exact ⟨Nat.lt_of_lt_of_le h1 hk.size,fun e2=>(ha k e2).elim h2 (fun h=>by omega),fun e2=>(ho k e2).elim h3 (fun h=>by omega)⟩
structure BkL (w0 w:World) (aa:Option Addr) (ca:Nat) (oa:Option Addr) (co:Nat) (E:List Ent):Prop where
  ra:Own 35 1 w w0.heap.size aa ca E.length (E.map (fun t=>t.x.v))
  ro:Own 45 30 w w0.heap.size oa co E.length ((E.map (fun t=>Mg.cs t.m)).flatten)
  ok:∀ t∈E,EnOk aa oa w t
theorem BkL.nil (w:World):BkL w w none 0 none 0 []:=⟨Own.nil _ _ _ _,Own.nil _ _ _ _,fun t h=>by simp at h⟩
theorem BkL.no {w0 w w':World} {aa:Option Addr} {ca:Nat} {oa:Option Addr} {co:Nat} {E:List Ent} (h:BkL w0 w aa ca oa co E) (hk:Kept No w w'):BkL w0 w' aa ca oa co E:=
  ⟨h.ra.no hk,h.ro.no hk,fun t ht=>(h.ok t ht).kept hk (fun k _ e=>e.elim) aa oa (fun k e=>.inl e) (fun k e=>.inl e)⟩
theorem BkL.dj {w0 w:World} {aa:Option Addr} {ca:Nat} {oa:Option Addr} {co:Nat} {E:List Ent} (h:BkL w0 w aa ca oa co E) {k:Nat} (h1:At aa k) (h2:At oa k):False:=by
  obtain ⟨x,hx⟩:=own_typ h.ra h1;obtain ⟨y,hy⟩:=own_typ h.ro h2;have:=cells_ty hx hy;cases this
theorem BkL.rows {w0 w:World} {aa:Option Addr} {ca:Nat} {oa:Option Addr} {co:Nat} {E:List Ent} (h:BkL w0 w aa ca oa co E):RdS w ⟨aa,E.length,ca⟩ (E.map (·.x))∧RdM w ⟨oa,E.length,co⟩ (E.map (·.m)):=by
  have e1:∀ E:List Ent,E.map (fun t=>t.x.v)=(E.map (fun t=>[t.x.v])).flatten:=fun E=>by
    induction E with
    | nil=>rfl
    | cons t E ih=>simp [ih]
  have h1:=h.ra;rw [e1] at h1;refine ⟨⟨?_,by simp⟩,⟨?_,by simp⟩⟩
  · rw [List.map_map]
    exact Own.rows h1 (fun x hx=>by obtain ⟨t,_,rfl⟩:=List.mem_map.1 hx;rfl) (by omega)
  · rw [List.map_map]
    exact Own.rows h.ro (fun x hx=>by obtain ⟨t,_,rfl⟩:=List.mem_map.1 hx;rfl) (by omega)
theorem BkL.at' {w0 w:World} {aa:Option Addr} {ca:Nat} {oa:Option Addr} {co:Nat} {E:List Ent} (h:BkL w0 w aa ca oa co E) {k:Nat} (hk:k < E.length):EnOk aa oa w (tAt E k):=by
  have e:tAt E k=E[k]:=by unfold tAt;rw [List.getElem?_eq_getElem hk];rfl
  rw [e];exact h.ok _ (List.getElem_mem hk)
theorem sAt_x {E:List Ent} (k:Nat):sAt (E.map (·.x)) k=(tAt E k).x:=by
  unfold sAt tAt;rw [List.getElem?_map];cases E[k]? <;> rfl
theorem gAt_m {E:List Ent} (k:Nat) (hk:k < E.length):gAt (E.map (·.m)) k=(tAt E k).m:=by
  unfold gAt tAt;rw [List.getElem?_map,List.getElem?_eq_getElem hk];rfl
theorem BkL.push {w0 W:World} {aa:Option Addr} {ca:Nat} {oa:Option Addr} {co:Nat} {E:List Ent} (h:BkL w0 W aa ca oa co E) (h0:w0.heap.size≤W.heap.size) (t:Ent) (ht:EnOk aa oa W t) (hn:(E.length+1) * 312≤140737488355328) (t1 t2:TypeId) :
    ∃ a' c' w2,(Builtin.append_ #[66,66] t1 #[.slice aa E.length ca,.slice (some ⟨W.heap.size,0,none⟩) 1 1]).run Tryz.prog (W.alloc (.cells #[t.x.v] 35))=.ok (.slice a' (E.length+1) c') w2∧Kept (At aa) W w2 ∧
    ∃ o' d' w3,(Builtin.append_ #[25,25] t2 #[.slice oa E.length co,.slice (some ⟨w2.heap.size,0,none⟩) 1 1]).run Tryz.prog (w2.alloc (.cells (Mg.cells t.m) 45))=.ok (.slice o' (E.length+1) d') w3∧Kept (fun k=>At aa k∨At oa k) W w3∧BkL w0 w3 a' c' o' d' (E++[t]):=by
  have hk0:Kept No W (W.alloc (.cells #[t.x.v] 35)):=(Kept.refl No W).alloc _;have hb0:Box (W.alloc (.cells #[t.x.v] 35)) W.heap.size 35 #[t.x.v]:=Box.new _ _ _;have hv:∀ u∈[t.x.v],u.oneCell'=true:=by simp [Sl.v,Value.oneCell']
  obtain ⟨a',c',w2,hr,hO,hk,hat⟩:=run_appN (w:=W.alloc (.cells #[t.x.v] 35)) 66 t1 35 1 24 _ J66 I35 rfl (by omega) w0.heap.size E.length ca aa _ (h.ra.no hk0) (some ⟨W.heap.size,0,none⟩) 1 1 [t.x.v] rfl (fun e=>by cases e) (fun j u hj=>⟨_,rfl,by rw [addr_add,Nat.zero_add,hb0.cell,List.getElem?_toArray];exact hj⟩) hv (by omega) (by omega) (Nat.le_trans h0 hk0.size);have k1:Kept (At aa) W w2:=hk0.of_no.then hk;have hro:Own 45 30 w2 w0.heap.size oa co E.length ((E.map (fun t=>Mg.cs t.m)).flatten):=h.ro.kept k1 (fun k e e2=>h.dj e2 e);have hk3:Kept No w2 (w2.alloc (.cells (Mg.cells t.m) 45)):=(Kept.refl No w2).alloc _;have hb3:Box (w2.alloc (.cells (Mg.cells t.m) 45)) w2.heap.size 45 (Mg.cells t.m):=Box.new _ _ _;obtain ⟨o',d',w3,hr2,hO2,hk4,hat2⟩:=run_appN (w:=w2.alloc (.cells (Mg.cells t.m) 45)) 25 t2 45 30 312 _ J25 I45 rfl (by omega) w0.heap.size E.length co oa _ (hro.no hk3) (some ⟨w2.heap.size,0,none⟩) 1 1 (Mg.cs t.m) rfl (fun e=>by cases e) (fun j u hj=>⟨_,rfl,by rw [addr_add,Nat.zero_add,hb3.cell];exact (List.getElem?_toArray ..).trans hj⟩) (Mg.oneL _) (by omega) (by omega) (Nat.le_trans (Nat.le_trans h0 k1.size) hk3.size);have k2:Kept (At oa) w2 w3:=hk3.of_no.then hk4;have k3:Kept (fun k=>At aa k∨At oa k) W w3:=k1.trans k2 (fun _ e=>.inl e) (fun _ _ e=>.inr e);have s1:W.heap.size+1=(W.alloc (.cells #[t.x.v] 35)).heap.size:=by simp
  have s2:w2.heap.size+1=(w2.alloc (.cells (Mg.cells t.m) 45)).heap.size:=by simp
  have ha:∀ k,At a' k→At aa k∨W.heap.size≤k:=fun k e=>(hat k e).elim .inl (fun e=>.inr (by omega));have ho:∀ k,At o' k→At oa k∨W.heap.size≤k:=fun k e=>(hat2 k e).elim .inl (fun e=>.inr (by have:=k1.size;omega));refine ⟨a',c',w2,hr,k1,o',d',w3,hr2,k3,?_,?_,?_⟩
  · have hO':=hO.kept k2 (fun k e e2=>by
      have hx:=own_lt hO e
      rcases hat k e with e3 | e3
      · exact h.dj e3 e2
      · obtain ⟨z,hz⟩:=own_typ h.ro e2
        have:=own_lt h.ro e2;omega)
    rw [List.map_append,List.length_append];exact hO'
  · rw [List.map_append,List.length_append,List.flatten_append]
    exact hO2
  · intro t' ht'
    rcases List.mem_append.1 ht' with h1 | h1
    · exact (h.ok t' h1).kept k3 (fun k _ e=>e) a' o' ha ho
    · rw [List.mem_singleton.1 h1]
      exact ht.kept k3 (fun k _ e=>e) a' o' ha ho
end Go.Proofs.YtgdnofacgfjaeaaGreat.Md
