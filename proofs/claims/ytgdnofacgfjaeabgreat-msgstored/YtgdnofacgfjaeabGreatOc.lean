import Derived.Test.YtgdnofacgfjaeabGreatRd
import Derived.Test.YtgdnofacgfjaeabGreatNf
import Derived.Test.YtgdnofacgfjaeabGreatRc
import Derived.Test.YtgdnofacgfjaeabGreatWiZx
import Derived.Test.YtgdnofacgfjaeabGreatHf
import Derived.ProofKit
import Derived.OpenShut
import Derived.ShutString
import Derived.ChangeOld
import Derived.SizedLaws
import Derived.Deep.Slices
namespace Go.Proofs.YtgdnofacgfjaeabGreat.Md
open Go.RowKit
set_option linter.unusedVariables false
set_option linter.unusedSimpArgs false
set_option maxRecDepth 100000 in
set_option maxHeartbeats 4000000 in
theorem storedWalk (c:Cg) (xo xn xk xs1:Sl) (zs:List Int) (xs:List Bl) (ns:List In) (ks:List Bv) (rb:List Sl) (w:World) (hc:CgIn w c zs) (h1:RdO w xo xs) (h2:∀ i,i < xo.l→∃ bs,BlIn w (oAt xs i) bs) (h3:RdN w xn ns) (h4:RdK w xk ks) (h5:∀ i,i < xk.l→∃ es ls,BkIn w (kAt ks i) es ls) (h6:RdS w xs1 rb) (h7:∀ i,i < xs1.l→∃ ys,Wi.Sl w (sAt rb i).a (sAt rb i).l (sAt rb i).k ys) (n1:xo.l≤281474976710656) (n2:xn.l≤281474976710656) (n3:xk.l≤281474976710656) (n4:xs1.l≤281474976710656):Calls Tryz.prog 3 #[.agg (Cg.cells c),xo.v,xn.v,xk.v,xs1.v] w (fun e w'=>e=.returned (.bool true)∧Kept No w w'):=by
  refine hidC fun C HC=>?_;have HCg:Hid (CgIn w c zs):=hc;have HO:Hid (RdO w xo xs):=h1;have HOI:Hid (∀ i,i < xo.l→∃ bs,BlIn w (oAt xs i) bs):=h2;have HN:Hid (RdN w xn ns):=h3;have HK:Hid (RdK w xk ks):=h4;have HKI:Hid (∀ i,i < xk.l→∃ es ls,BkIn w (kAt ks i) es ls):=h5;have HS:Hid (RdS w xs1 rb):=h6;have HSI:Hid (∀ i,i < xs1.l→∃ ys,Wi.Sl w (sAt rb i).a (sAt rb i).l (sAt rb i).k ys):=h7;clear hc h1 h2 h3 h4 h5 h6 h7;have HKN:Hid (Kept No w w):=Kept.refl _ _;have HF:Hid (Fq No w w []):=Fq.start _ _;go_enter Tryz.func3,Tryz.ntmps3;go_upto_region 0 with fail;refine Sg<|xB (Cg.cells c) HF fun g1 w2 HF=>tF<|Nl ?_;simp only[pS];go_upto_region 1 with fail;refine Sg<|cB (callw (Wi.known_any _)) rfl HF fun w3 HF=>tF<|Nl ?_;simp only[pS];go_upto_region 3 with fail;refine Sg<|tK (.int .i64 0)<|Nl ?_;simp only[pS];have HBg1:Hid (Box w3 g1 24 (Cg.cells c)):=HF.out.box 0 _ _ _ rfl;have HKN:Hid (Kept No w w3):=HKN.out.thenNo HF.out.kept;have HF:Hid (Fq No w3 w3 []):=Fq.start _ _;go_wp2
  go_loopw [11] (fun v11 wr=>∃ i:Nat,v11=.int .i64 ((i:Nat):Int)∧i≤xo.l∧Hid (Fq No w3 wr [])) (fun v11 _=>xo.l - (intOf v11).toNat)
  case atStart=>exact ⟨0,by go_num,by omega,HF⟩
  case round=>
    clear HF;obtain ⟨i,rfl,hi,HF⟩:=hrel
    by_cases hlt:i < xo.l
    ·have HKS:Hid (Kept No w3 w3):=Kept.refl _ _;obtain ⟨b,off,hsl,hc⟩:=RdO.at' HO.out (i:=i) hlt;obtain ⟨bs,hmi⟩:=HOI.out i hlt;have HI:Hid (BlIn w (oAt xs i) bs):=hmi;clear hmi;go_upto_region 4 with fail;refine Sg<|tK (.int .i64 ((i:Nat):Int))<|tK (xo.v)<|tK (.int .i64 ((xo.l:Nat):Int))<|bN (lI (a:=((i:Nat):Int)) (b:=((xo.l:Nat):Int)) (decide_eq_true (by omega)))<|Nl ?_;simp only[pS];go_upto_region 6 with fail;cases hq:(cfgP c zs&&blkB c.bl (oAt xs i) bs)
     ·obtain ⟨er,her,HpE⟩:=putB_no hq;refine wp_region_held_drew (S:=fun w'=>Hid (Fq No w3 w' [])) rfl (show Hid _ from HF.out.drew) (fun hH=>?_);replace HF:Hid (Fq No w3 wr.drew []):=hH;clear hH;generalize wr.drew=w4 at HF ⊢;refine yK 0 36 HF (xo.v)<|yK 1 37 HF (.int .i64 ((i:Nat):Int))<|yT 2 38 HF (zI (s:=xo) (i:=i) hsl E25 F25 (by omega))<|yT 3 39 HF (zL fun w HF=>(load_O (fun j v h=>(HKN.out.thenNo HF.out.kept).cell (hc j v h) (fun e=>e))))<|yT 4 40 HF (zL fun w HF=>(run_load_part (off:=0) (cs:=Cg.cs c) (sub:=Cg.cs c) (HBg1.out.kept HF.out.kept (fun e=>e)) (part_of (by kernel_rfl)) U24 rfl S24))<|?_;(try simp only[pS]);refine yES 5 41 (HpE _ (HCg.out.no (HKN.out.thenNo HF.out.kept)) (HI.out.no (HKN.out.thenNo HF.out.kept))) HF fun s5 w6 HF HO hsl2 hs2=>?_;(try simp only[pS]);refine yK 6 35 HF (.tuple #[s5.v,.int .i64 er])<|yK 7 42 HF (s5.v)<|yK 8 43 HF (.int .i64 er)<|yK 9 12 HF (s5.v)<|yK 10 13 HF (.int .i64 er)<|?_;(try simp only[pS]);refine wpAnyH_done (by kernel_rfl) ?_ _;(try simp only[pS]);replace HKS:Hid _:=HKS.out.thenNo HF.out.kept;replace HBg1:Hid (Box w6 g1 24 (Cg.cells c)):=HBg1.out.kept HF.out.kept (fun e=>e);have HKN:Hid (Kept No w w6):=HKN.out.thenNo HF.out.kept;have HF:Hid (Fq No w6 w6 []):=Fq.start _ _;go_upto_region 7 with fail;refine Sg<|tK (.int .i64 er)<|bN (nI0 her)<|Nl ?_;simp only[pS];go_upto_region 5 with fail;refine Sg<|tK (.int .i64 ((i:Nat):Int))<|bN (v:=.int .i64 (((i+1):Nat):Int)) (b_addw ((i:Nat):Int) 1 (((i+1):Nat):Int) (by rw [IntKind.wrap_i64];omega))<|tK (.int .i64 (((i+1):Nat):Int))<|Nl ?_;simp only[pS];have HF:Hid (Fq No w3 w6 []):=Fq.start0 (HKS.out.thenNo HF.out.kept);go_wp2;go_roundw
      case rel=>exact ⟨i+1,by go_num,by omega,HF⟩
      case measure=>simp [intOf];omega
     ·obtain ⟨ys,h8,hle,hbd,HpE,HpR⟩:=putB_yes HI.out hq;refine wp_region_held_drew (S:=fun w'=>Hid (Fq No w3 w' [])) rfl (show Hid _ from HF.out.drew) (fun hH=>?_);replace HF:Hid (Fq No w3 wr.drew []):=hH;clear hH;generalize wr.drew=w7 at HF ⊢;refine yK 0 36 HF (xo.v)<|yK 1 37 HF (.int .i64 ((i:Nat):Int))<|yT 2 38 HF (zI (s:=xo) (i:=i) hsl E25 F25 (by omega))<|yT 3 39 HF (zL fun w HF=>(load_O (fun j v h=>(HKN.out.thenNo HF.out.kept).cell (hc j v h) (fun e=>e))))<|yT 4 40 HF (zL fun w HF=>(run_load_part (off:=0) (cs:=Cg.cs c) (sub:=Cg.cs c) (HBg1.out.kept HF.out.kept (fun e=>e)) (part_of (by kernel_rfl)) U24 rfl S24))<|?_;(try simp only[pS]);refine yES 5 41 (HpE _ (HCg.out.no (HKN.out.thenNo HF.out.kept)) (HI.out.no (HKN.out.thenNo HF.out.kept))) HF fun s8 w9 HF HO hsl2 hs2=>?_;(try simp only[pS]);have hs0:(decide ((c.bl+22) < ((s8.l:Nat):Int)))=false:=decide_eq_false (by omega);refine yK 6 35 HF (.tuple #[s8.v,.int .i64 0])<|yK 7 42 HF (s8.v)<|yK 8 43 HF (.int .i64 0)<|yK 9 12 HF (s8.v)<|yK 10 13 HF (.int .i64 0)<|?_;(try simp only[pS]);refine wpAnyH_done (by kernel_rfl) ?_ _;(try simp only[pS]);replace HKS:Hid _:=HKS.out.thenNo HF.out.kept;replace HBg1:Hid (Box w9 g1 24 (Cg.cells c)):=HBg1.out.kept HF.out.kept (fun e=>e);have HKN:Hid (Kept No w w9):=HKN.out.thenNo HF.out.kept;have HF:Hid (Fq No w9 w9 []):=Fq.start _ _;go_upto_region 7 with fail;refine Sg<|tK (.int .i64 0)<|bN (nI1 (beq_self_eq_true (0)))<|Nl ?_;simp only[pS];go_upto_region 8 with fail;refine Sg<|tK (s8.v)<|lR (run_load_part (off:=0) (cs:=Cg.cs c) (sub:=Cg.cs c) (HBg1.out.kept HF.out.kept (fun e=>e)) (part_of (by kernel_rfl)) U24 rfl S24)<|cBlk (HpR s8 _ (HCg.out.no (HKN.out.thenNo HF.out.kept)) ((HO.out.no (wk HF.out.kept)).sl hsl2.symm h8 (by omega))) HF fun s10 w12 HF HR11 hHR11=>?_;simp only[pS];replace HO:Hid (Wi.OwnS w12 w3.heap.size s8.a s8.k ys):=HO.out.no (wk HF.out.kept);replace HKS:Hid _:=HKS.out.thenNo HF.out.kept;replace HBg1:Hid (Box w12 g1 24 (Cg.cells c)):=HBg1.out.kept HF.out.kept (fun e=>e);have HKN:Hid (Kept No w w12):=HKN.out.thenNo HF.out.kept;have HF:Hid (Fq No w12 w12 []):=Fq.start _ _;refine tK (.tuple #[.agg (Bl.cells ⟨(oAt xs i).s,s10⟩),.int .i64 0])<|tK (.agg (Bl.cells ⟨(oAt xs i).s,s10⟩))<|tK (.int .i64 0)<|xA (Bl.cells blZ) Z37 HF fun g13 w14 HF=>sB (Bl.cs ⟨(oAt xs i).s,s10⟩) (Bl.cs ⟨(oAt xs i).s,s10⟩) HF 0 0 (v:=.agg (Bl.cells ⟨(oAt xs i).s,s10⟩)) rfl S37 (Bl.oneL _) (Bl.cs blZ) rfl fun w15 HF=>tK (.int .i64 0)<|Nl ?_;simp only[pS];go_upto_region 9 with fail;refine wp_region_held_drew (S:=fun w'=>Hid (Fq No w12 w' [(g13,37,Bl.cells ⟨(oAt xs i).s,s10⟩)])) rfl (show Hid _ from HF.out.drew) (fun hH=>?_);replace HF:Hid (Fq No w12 w15.drew [(g13,37,Bl.cells ⟨(oAt xs i).s,s10⟩)]):=hH;clear hH;generalize w15.drew=w16 at HF ⊢;refine yK 0 52 HF (.int .i64 0)<|yT 1 53 HF (zN (nI1 (beq_self_eq_true (0))))<|yK 2 54 HF (.bool false)<|yK 3 55 HF (pg g13 0)<|yT 4 56 HF (zP (Sp.cs ((oAt xs i).s)) 0 0 U35 S35 (Bl.cs ⟨(oAt xs i).s,s10⟩) rfl)<|yK 5 57 HF (xo.v)<|yK 6 58 HF (.int .i64 ((i:Nat):Int))<|yT 7 59 HF (zI (s:=xo) (i:=i) hsl E25 F25 (by omega))<|?_;(try simp only[pS]);refine yK 8 60 HF (.pointer (some ⟨b,off+i*3,none⟩))<|yT 9 61 HF (zL fun w HF=>(load_sub (b:=b) (off:=off+i*3) (sub:=Sp.cs ((oAt xs i).s)) (fun j v h=>(HKN.out.thenNo HF.out.kept).cell (hc j v (bl_sp h)) (fun e=>e)) U35 rfl S35))<|yT 10 62 HF (zN (qn1S (eqS_refl ((oAt xs i).s))))<|yK 11 63 HF (.bool false)<|yK 12 64 HF (.bool false)<|yK 13 65 HF (pg g13 2)<|yT 14 66 HF (v:=s10.v) (zD 0 2 U30 rfl)<|yK 15 67 HF (xo.v)<|?_;(try simp only[pS]);refine yK 16 68 HF (.int .i64 ((i:Nat):Int))<|yT 17 69 HF (zI (s:=xo) (i:=i) hsl E25 F25 (by omega))<|yK 18 70 HF (.pointer (some ⟨b,off+i*3+2,none⟩))<|yT 19 71 HF (zL fun w HF=>(load_one ((HKN.out.thenNo HF.out.kept).cell (hc 2 _ rfl) (fun e=>e)) U30 rfl))<|yC 20 72 (sameB s10 (oAt xs i).d bs _ (HR11.out.no HF.out.kept) (HI.out.b.no (HKN.out.thenNo HF.out.kept)) (by omega)) rfl HF fun w17 HF=>yK 21 73 HF (.bool false)<|yK 22 74 HF (.bool false)<|yK 23 75 HF (.bool false)<|?_;(try simp only[pS]);refine yK 24 76 HF (s8.v)<|yK 25 77 HF (.int .i64 ((s8.l:Nat):Int))<|yK 26 78 HF (pg g1 4)<|yT 27 79 HF (zL fun w HF=>(load_one (((HBg1.out.kept HF.out.kept (fun e=>e)).cell 4).trans (show (Cg.cells c)[4]?=some (.int .i64 c.bl:Value) by kernel_rfl)) U3 rfl))<|yT 28 80 HF (v:=.int .i64 (c.bl+22)) (zN (b_addw c.bl 22 (c.bl+22) (by rw [IntKind.wrap_i64];omega)))<|yT 29 81 HF (zN (gI hs0))<|yK 30 82 HF (.bool false)<|?_;(try simp only[pS]);refine wpAnyH_done (by kernel_rfl) ?_ _;(try simp only[pS]);go_upto_region 5 with fail;refine Sg<|tK (.int .i64 ((i:Nat):Int))<|bN (v:=.int .i64 (((i+1):Nat):Int)) (b_addw ((i:Nat):Int) 1 (((i+1):Nat):Int) (by rw [IntKind.wrap_i64];omega))<|tK (.int .i64 (((i+1):Nat):Int))<|Nl ?_;simp only[pS];have HF:Hid (Fq No w3 w17 []):=Fq.start0 (HKS.out.thenNo HF.out.kept);go_wp2;go_roundw
      case rel=>exact ⟨i+1,by go_num,by omega,HF⟩
      case measure=>simp [intOf];omega
    ·go_upto_region 4 with fail;refine Sg<|tK (.int .i64 ((i:Nat):Int))<|tK (xo.v)<|tK (.int .i64 ((xo.l:Nat):Int))<|bN (lI (a:=((i:Nat):Int)) (b:=((xo.l:Nat):Int)) (decide_eq_false (by omega)))<|Nl ?_;simp only[pS];go_upto_region 11 with fail;refine Sg<|tK (.int .i64 0)<|Nl ?_;simp only[pS];go_wp2
     go_loopw [16] (fun v16 wr=>∃ i:Nat,v16=.int .i64 ((i:Nat):Int)∧i≤xn.l∧Hid (Fq No w3 wr [])) (fun v16 _=>xn.l - (intOf v16).toNat)
     case atStart=>exact ⟨0,by go_num,by omega,HF⟩
     case round=>
       clear HF;obtain ⟨i,rfl,hi,HF⟩:=hrel
       by_cases hlt:i < xn.l
       ·have HKS:Hid (Kept No w3 w3):=Kept.refl _ _;obtain ⟨b,off,hsl,hc⟩:=RdN.at' HN.out (i:=i) hlt;go_upto_region 12 with fail;refine Sg<|tK (.int .i64 ((i:Nat):Int))<|tK (xn.v)<|tK (.int .i64 ((xn.l:Nat):Int))<|bN (lI (a:=((i:Nat):Int)) (b:=((xn.l:Nat):Int)) (decide_eq_true (by omega)))<|Nl ?_;simp only[pS];go_upto_region 14 with fail;cases hq:(cfgP c zs&&insP c.bl (nAt ns i))
        ·obtain ⟨er,her,HpE⟩:=putI_no hq;refine wp_region_held_drew (S:=fun w'=>Hid (Fq No w3 w' [])) rfl (show Hid _ from HF.out.drew) (fun hH=>?_);replace HF:Hid (Fq No w3 wr.drew []):=hH;clear hH;generalize wr.drew=w18 at HF ⊢;refine yK 0 90 HF (xn.v)<|yK 1 91 HF (.int .i64 ((i:Nat):Int))<|yT 2 92 HF (zI (s:=xn) (i:=i) hsl E26 F26 (by omega))<|yT 3 93 HF (zL fun w HF=>(load_N (fun j v h=>(HKN.out.thenNo HF.out.kept).cell (hc j v h) (fun e=>e))))<|yT 4 94 HF (zL fun w HF=>(run_load_part (off:=0) (cs:=Cg.cs c) (sub:=Cg.cs c) (HBg1.out.kept HF.out.kept (fun e=>e)) (part_of (by kernel_rfl)) U24 rfl S24))<|?_;(try simp only[pS]);refine yES 5 95 (HpE _ (HCg.out.no (HKN.out.thenNo HF.out.kept))) HF fun s19 w20 HF HO hsl2 hs2=>?_;(try simp only[pS]);refine yK 6 89 HF (.tuple #[s19.v,.int .i64 er])<|yK 7 96 HF (s19.v)<|yK 8 97 HF (.int .i64 er)<|yK 9 17 HF (s19.v)<|yK 10 18 HF (.int .i64 er)<|?_;(try simp only[pS]);refine wpAnyH_done (by kernel_rfl) ?_ _;(try simp only[pS]);replace HKS:Hid _:=HKS.out.thenNo HF.out.kept;replace HBg1:Hid (Box w20 g1 24 (Cg.cells c)):=HBg1.out.kept HF.out.kept (fun e=>e);have HKN:Hid (Kept No w w20):=HKN.out.thenNo HF.out.kept;have HF:Hid (Fq No w20 w20 []):=Fq.start _ _;go_upto_region 15 with fail;refine Sg<|tK (.int .i64 er)<|bN (nI0 her)<|Nl ?_;simp only[pS];go_upto_region 13 with fail;refine Sg<|tK (.int .i64 ((i:Nat):Int))<|bN (v:=.int .i64 (((i+1):Nat):Int)) (b_addw ((i:Nat):Int) 1 (((i+1):Nat):Int) (by rw [IntKind.wrap_i64];omega))<|tK (.int .i64 (((i+1):Nat):Int))<|Nl ?_;simp only[pS];have HF:Hid (Fq No w3 w20 []):=Fq.start0 (HKS.out.thenNo HF.out.kept);go_wp2;go_roundw
         case rel=>exact ⟨i+1,by go_num,by omega,HF⟩
         case measure=>simp [intOf];omega
        ·obtain ⟨ys,h8,hle,HpE,HpR⟩:=putI_yes hq;refine wp_region_held_drew (S:=fun w'=>Hid (Fq No w3 w' [])) rfl (show Hid _ from HF.out.drew) (fun hH=>?_);replace HF:Hid (Fq No w3 wr.drew []):=hH;clear hH;generalize wr.drew=w21 at HF ⊢;refine yK 0 90 HF (xn.v)<|yK 1 91 HF (.int .i64 ((i:Nat):Int))<|yT 2 92 HF (zI (s:=xn) (i:=i) hsl E26 F26 (by omega))<|yT 3 93 HF (zL fun w HF=>(load_N (fun j v h=>(HKN.out.thenNo HF.out.kept).cell (hc j v h) (fun e=>e))))<|yT 4 94 HF (zL fun w HF=>(run_load_part (off:=0) (cs:=Cg.cs c) (sub:=Cg.cs c) (HBg1.out.kept HF.out.kept (fun e=>e)) (part_of (by kernel_rfl)) U24 rfl S24))<|?_;(try simp only[pS]);refine yES 5 95 (HpE _ (HCg.out.no (HKN.out.thenNo HF.out.kept))) HF fun s22 w23 HF HO hsl2 hs2=>?_;(try simp only[pS]);have hs0:(decide (316 < ((s22.l:Nat):Int)))=false:=decide_eq_false (by omega);refine yK 6 89 HF (.tuple #[s22.v,.int .i64 0])<|yK 7 96 HF (s22.v)<|yK 8 97 HF (.int .i64 0)<|yK 9 17 HF (s22.v)<|yK 10 18 HF (.int .i64 0)<|?_;(try simp only[pS]);refine wpAnyH_done (by kernel_rfl) ?_ _;(try simp only[pS]);replace HKS:Hid _:=HKS.out.thenNo HF.out.kept;replace HBg1:Hid (Box w23 g1 24 (Cg.cells c)):=HBg1.out.kept HF.out.kept (fun e=>e);have HKN:Hid (Kept No w w23):=HKN.out.thenNo HF.out.kept;have HF:Hid (Fq No w23 w23 []):=Fq.start _ _;go_upto_region 15 with fail;refine Sg<|tK (.int .i64 0)<|bN (nI1 (beq_self_eq_true (0)))<|Nl ?_;simp only[pS];go_upto_region 16 with fail;refine Sg<|tK (s22.v)<|lR (run_load_part (off:=0) (cs:=Cg.cs c) (sub:=Cg.cs c) (HBg1.out.kept HF.out.kept (fun e=>e)) (part_of (by kernel_rfl)) U24 rfl S24)<|cIns (HpR s22 _ (HCg.out.no (HKN.out.thenNo HF.out.kept)) ((HO.out.no (wk HF.out.kept)).sl hsl2.symm h8 (by omega))) HF fun w24 HF=>?_;simp only[pS];replace HO:Hid (Wi.OwnS w24 w3.heap.size s22.a s22.k ys):=HO.out.no (wk HF.out.kept);replace HKS:Hid _:=HKS.out.thenNo HF.out.kept;replace HBg1:Hid (Box w24 g1 24 (Cg.cells c)):=HBg1.out.kept HF.out.kept (fun e=>e);have HKN:Hid (Kept No w w24):=HKN.out.thenNo HF.out.kept;have HF:Hid (Fq No w24 w24 []):=Fq.start _ _;refine tK (.tuple #[.agg (In.cells (nAt ns i)),.int .i64 0])<|tK (.agg (In.cells (nAt ns i)))<|tK (.int .i64 0)<|xA (In.cells inZ') Z47 HF fun g25 w26 HF=>sB (In.cs (nAt ns i)) (In.cs (nAt ns i)) HF 0 0 (v:=.agg (In.cells (nAt ns i))) rfl S47 (In.oneL _) (In.cs inZ') rfl fun w27 HF=>tK (.int .i64 0)<|Nl ?_;simp only[pS];go_upto_region 17 with fail;refine wp_region_held_drew (S:=fun w'=>Hid (Fq No w24 w' [(g25,47,In.cells (nAt ns i))])) rfl (show Hid _ from HF.out.drew) (fun hH=>?_);replace HF:Hid (Fq No w24 w27.drew [(g25,47,In.cells (nAt ns i))]):=hH;clear hH;generalize w27.drew=w28 at HF ⊢;refine yK 0 106 HF (.int .i64 0)<|yT 1 107 HF (zN (nI1 (beq_self_eq_true (0))))<|yK 2 108 HF (.bool false)<|yT 3 109 HF (zP (In.cs (nAt ns i)) 0 0 U47 S47 (In.cs (nAt ns i)) rfl)<|yK 4 110 HF (xn.v)<|yK 5 111 HF (.int .i64 ((i:Nat):Int))<|yT 6 112 HF (zI (s:=xn) (i:=i) hsl E26 F26 (by omega))<|yT 7 113 HF (zL fun w HF=>(load_N (fun j v h=>(HKN.out.thenNo HF.out.kept).cell (hc j v h) (fun e=>e))))<|?_;(try simp only[pS]);refine yT 8 114 HF (zN (neqIn0 (nAt ns i)))<|yK 9 115 HF (.bool false)<|yK 10 116 HF (.bool false)<|yK 11 117 HF (s22.v)<|yK 12 118 HF (.int .i64 ((s22.l:Nat):Int))<|yT 13 119 HF (zN (gI hs0))<|yK 14 120 HF (.bool false)<|?_;(try simp only[pS]);refine wpAnyH_done (by kernel_rfl) ?_ _;(try simp only[pS]);go_upto_region 13 with fail;refine Sg<|tK (.int .i64 ((i:Nat):Int))<|bN (v:=.int .i64 (((i+1):Nat):Int)) (b_addw ((i:Nat):Int) 1 (((i+1):Nat):Int) (by rw [IntKind.wrap_i64];omega))<|tK (.int .i64 (((i+1):Nat):Int))<|Nl ?_;simp only[pS];have HF:Hid (Fq No w3 w28 []):=Fq.start0 (HKS.out.thenNo HF.out.kept);go_wp2;go_roundw
         case rel=>exact ⟨i+1,by go_num,by omega,HF⟩
         case measure=>simp [intOf];omega
       ·go_upto_region 12 with fail;refine Sg<|tK (.int .i64 ((i:Nat):Int))<|tK (xn.v)<|tK (.int .i64 ((xn.l:Nat):Int))<|bN (lI (a:=((i:Nat):Int)) (b:=((xn.l:Nat):Int)) (decide_eq_false (by omega)))<|Nl ?_;simp only[pS];go_upto_region 19 with fail;refine Sg<|tK (.int .i64 0)<|Nl ?_;simp only[pS];go_wp2
        go_loopw [21] (fun v21 wr=>∃ i:Nat,v21=.int .i64 ((i:Nat):Int)∧i≤xk.l∧Hid (Fq No w3 wr [])) (fun v21 _=>xk.l - (intOf v21).toNat)
        case atStart=>exact ⟨0,by go_num,by omega,HF⟩
        case round=>
          clear HF;obtain ⟨i,rfl,hi,HF⟩:=hrel
          by_cases hlt:i < xk.l
          ·have HKS:Hid (Kept No w3 w3):=Kept.refl _ _;obtain ⟨b,off,hsl,hc⟩:=RdK.at' HK.out (i:=i) hlt;obtain ⟨es,ls,hmi⟩:=HKI.out i hlt;have HI:Hid (BkIn w (kAt ks i) es ls):=hmi;clear hmi;go_upto_region 20 with fail;refine Sg<|tK (.int .i64 ((i:Nat):Int))<|tK (xk.v)<|tK (.int .i64 ((xk.l:Nat):Int))<|bN (lI (a:=((i:Nat):Int)) (b:=((xk.l:Nat):Int)) (decide_eq_true (by omega)))<|Nl ?_;simp only[pS];go_upto_region 22 with fail;cases hq:(cfgP c zs&&bktP c.bl c.rm (kAt ks i) es ls)
           ·obtain ⟨er,her,HpE,HpV⟩:=putK_no hq;refine wp_region_held_drew (S:=fun w'=>Hid (Fq No w3 w' [])) rfl (show Hid _ from HF.out.drew) (fun hH=>?_);replace HF:Hid (Fq No w3 wr.drew []):=hH;clear hH;generalize wr.drew=w29 at HF ⊢;refine yK 0 128 HF (xk.v)<|yK 1 129 HF (.int .i64 ((i:Nat):Int))<|yT 2 130 HF (zI (s:=xk) (i:=i) hsl E27 F27 (by omega))<|yT 3 131 HF (zL fun w HF=>(load_K (fun j v h=>(HKN.out.thenNo HF.out.kept).cell (hc j v h) (fun e=>e))))<|yT 4 132 HF (zL fun w HF=>(run_load_part (off:=0) (cs:=Cg.cs c) (sub:=Cg.cs c) (HBg1.out.kept HF.out.kept (fun e=>e)) (part_of (by kernel_rfl)) U24 rfl S24))<|?_;(try simp only[pS]);refine yES 5 133 (HpE _ (HCg.out.no (HKN.out.thenNo HF.out.kept)) (HI.out.no (HKN.out.thenNo HF.out.kept))) HF fun s30 w31 HF HO hsl2 hs2=>?_;(try simp only[pS]);refine yK 6 127 HF (.tuple #[s30.v,.int .i64 er])<|yK 7 134 HF (s30.v)<|yK 8 135 HF (.int .i64 er)<|yK 9 22 HF (s30.v)<|yK 10 23 HF (.int .i64 er)<|?_;(try simp only[pS]);refine wpAnyH_done (by kernel_rfl) ?_ _;(try simp only[pS]);replace HKS:Hid _:=HKS.out.thenNo HF.out.kept;replace HBg1:Hid (Box w31 g1 24 (Cg.cells c)):=HBg1.out.kept HF.out.kept (fun e=>e);have HKN:Hid (Kept No w w31):=HKN.out.thenNo HF.out.kept;have HF:Hid (Fq No w31 w31 []):=Fq.start _ _;go_upto_region 23 with fail;refine wp_region_held_drew (S:=fun w'=>Hid (Fq No w31 w' [])) rfl (show Hid _ from HF.out.drew) (fun hH=>?_);replace HF:Hid (Fq No w31 w31.drew []):=hH;clear hH;generalize w31.drew=w32 at HF ⊢;refine yK 0 136 HF (.int .i64 er)<|yT 1 137 HF (zN (eI her))<|yK 2 138 HF (xk.v)<|yK 3 139 HF (.int .i64 ((i:Nat):Int))<|yT 4 140 HF (zI (s:=xk) (i:=i) hsl E27 F27 (by omega))<|yT 5 141 HF (zL fun w HF=>(load_K (fun j v h=>(HKN.out.thenNo HF.out.kept).cell (hc j v h) (fun e=>e))))<|yT 6 142 HF (zL fun w HF=>(run_load_part (off:=0) (cs:=Cg.cs c) (sub:=Cg.cs c) (HBg1.out.kept HF.out.kept (fun e=>e)) (part_of (by kernel_rfl)) U24 rfl S24))<|yV 7 143 (HpV _ (HCg.out.no (HKN.out.thenNo HF.out.kept)) (HI.out.no (HKN.out.thenNo HF.out.kept))) HF fun w33 HF=>?_;(try simp only[pS]);refine yT 8 144 HF (zN (eI her))<|yT 9 145 HF (zN (qn1B (beq_self_eq_true (false))))<|?_;(try simp only[pS]);refine wpAnyH_done (by kernel_rfl) ?_ _;(try simp only[pS]);go_upto_region 25 with fail;refine Sg<|tK (.int .i64 er)<|bN (nI0 her)<|Nl ?_;simp only[pS];go_upto_region 21 with fail;refine Sg<|tK (.int .i64 ((i:Nat):Int))<|bN (v:=.int .i64 (((i+1):Nat):Int)) (b_addw ((i:Nat):Int) 1 (((i+1):Nat):Int) (by rw [IntKind.wrap_i64];omega))<|tK (.int .i64 (((i+1):Nat):Int))<|Nl ?_;simp only[pS];have HF:Hid (Fq No w3 w33 []):=Fq.start0 (HKS.out.thenNo HF.out.kept);go_wp2;go_roundw
            case rel=>exact ⟨i+1,by go_num,by omega,HF⟩
            case measure=>simp [intOf];omega
           ·obtain ⟨ys,h8,hle,hbd,HpE,HpV,HpR⟩:=putK_yes HI.out hq;refine wp_region_held_drew (S:=fun w'=>Hid (Fq No w3 w' [])) rfl (show Hid _ from HF.out.drew) (fun hH=>?_);replace HF:Hid (Fq No w3 wr.drew []):=hH;clear hH;generalize wr.drew=w34 at HF ⊢;refine yK 0 128 HF (xk.v)<|yK 1 129 HF (.int .i64 ((i:Nat):Int))<|yT 2 130 HF (zI (s:=xk) (i:=i) hsl E27 F27 (by omega))<|yT 3 131 HF (zL fun w HF=>(load_K (fun j v h=>(HKN.out.thenNo HF.out.kept).cell (hc j v h) (fun e=>e))))<|yT 4 132 HF (zL fun w HF=>(run_load_part (off:=0) (cs:=Cg.cs c) (sub:=Cg.cs c) (HBg1.out.kept HF.out.kept (fun e=>e)) (part_of (by kernel_rfl)) U24 rfl S24))<|?_;(try simp only[pS]);refine yES 5 133 (HpE _ (HCg.out.no (HKN.out.thenNo HF.out.kept)) (HI.out.no (HKN.out.thenNo HF.out.kept))) HF fun s35 w36 HF HO hsl2 hs2=>?_;(try simp only[pS]);have hs0:(decide (((270*c.rm)+6394) < ((s35.l:Nat):Int)))=false:=decide_eq_false (by omega);refine yK 6 127 HF (.tuple #[s35.v,.int .i64 0])<|yK 7 134 HF (s35.v)<|yK 8 135 HF (.int .i64 0)<|yK 9 22 HF (s35.v)<|yK 10 23 HF (.int .i64 0)<|?_;(try simp only[pS]);refine wpAnyH_done (by kernel_rfl) ?_ _;(try simp only[pS]);replace HKS:Hid _:=HKS.out.thenNo HF.out.kept;replace HBg1:Hid (Box w36 g1 24 (Cg.cells c)):=HBg1.out.kept HF.out.kept (fun e=>e);have HKN:Hid (Kept No w w36):=HKN.out.thenNo HF.out.kept;have HF:Hid (Fq No w36 w36 []):=Fq.start _ _;go_upto_region 23 with fail;refine wp_region_held_drew (S:=fun w'=>Hid (Fq No w36 w' [])) rfl (show Hid _ from HF.out.drew) (fun hH=>?_);replace HF:Hid (Fq No w36 w36.drew []):=hH;clear hH;generalize w36.drew=w37 at HF ⊢;refine yK 0 136 HF (.int .i64 0)<|yT 1 137 HF (zN (eI (beq_self_eq_true (0))))<|yK 2 138 HF (xk.v)<|yK 3 139 HF (.int .i64 ((i:Nat):Int))<|yT 4 140 HF (zI (s:=xk) (i:=i) hsl E27 F27 (by omega))<|yT 5 141 HF (zL fun w HF=>(load_K (fun j v h=>(HKN.out.thenNo HF.out.kept).cell (hc j v h) (fun e=>e))))<|yT 6 142 HF (zL fun w HF=>(run_load_part (off:=0) (cs:=Cg.cs c) (sub:=Cg.cs c) (HBg1.out.kept HF.out.kept (fun e=>e)) (part_of (by kernel_rfl)) U24 rfl S24))<|yV 7 143 (HpV _ (HCg.out.no (HKN.out.thenNo HF.out.kept)) (HI.out.no (HKN.out.thenNo HF.out.kept))) HF fun w38 HF=>?_;(try simp only[pS]);refine yT 8 144 HF (zN (eI (beq_self_eq_true (0))))<|yT 9 145 HF (zN (qn1B (beq_self_eq_true (true))))<|?_;(try simp only[pS]);refine wpAnyH_done (by kernel_rfl) ?_ _;(try simp only[pS]);go_upto_region 25 with fail;refine Sg<|tK (.int .i64 0)<|bN (nI1 (beq_self_eq_true (0)))<|Nl ?_;simp only[pS];go_upto_region 26 with fail;refine Sg<|tK (s35.v)<|lR (run_load_part (off:=0) (cs:=Cg.cs c) (sub:=Cg.cs c) (HBg1.out.kept HF.out.kept (fun e=>e)) (part_of (by kernel_rfl)) U24 rfl S24)<|cBck (HpR s35 _ (HCg.out.no (HKN.out.thenNo HF.out.kept)) ((HO.out.no (wk HF.out.kept)).sl hsl2.symm h8 (by omega))) HF fun s39 t40 w42 HF HR41 haHR41 hbHR41=>?_;simp only[pS];replace HO:Hid (Wi.OwnS w42 w3.heap.size s35.a s35.k ys):=HO.out.no (wk HF.out.kept);replace HKS:Hid _:=HKS.out.thenNo HF.out.kept;replace HBg1:Hid (Box w42 g1 24 (Cg.cells c)):=HBg1.out.kept HF.out.kept (fun e=>e);have HKN:Hid (Kept No w w42):=HKN.out.thenNo HF.out.kept;have HF:Hid (Fq No w42 w42 []):=Fq.start _ _;refine tK (.tuple #[.agg (Bv.cells ⟨(kAt ks i).up,s39,t40⟩),.int .i64 0])<|tK (.agg (Bv.cells ⟨(kAt ks i).up,s39,t40⟩))<|tK (.int .i64 0)<|xA (Bv.cells bvZ) Z54 HF fun g43 w44 HF=>sB (Bv.cs ⟨(kAt ks i).up,s39,t40⟩) (Bv.cs ⟨(kAt ks i).up,s39,t40⟩) HF 0 0 (v:=.agg (Bv.cells ⟨(kAt ks i).up,s39,t40⟩)) rfl S54 (Bv.oneL _) (Bv.cs bvZ) rfl fun w45 HF=>tK (.int .i64 0)<|Nl ?_;simp only[pS];go_upto_region 27 with fail;refine wp_region_held_drew (S:=fun w'=>Hid (Fq No w42 w' [(g43,54,Bv.cells ⟨(kAt ks i).up,s39,t40⟩)])) rfl (show Hid _ from HF.out.drew) (fun hH=>?_);replace HF:Hid (Fq No w42 w45.drew [(g43,54,Bv.cells ⟨(kAt ks i).up,s39,t40⟩)]):=hH;clear hH;generalize w45.drew=w46 at HF ⊢;refine yK 0 154 HF (.int .i64 0)<|yT 1 155 HF (zN (nI1 (beq_self_eq_true (0))))<|yK 2 156 HF (.bool false)<|yT 3 157 HF (zP (Bv.cs ⟨(kAt ks i).up,s39,t40⟩) 0 0 U54 S54 (Bv.cs ⟨(kAt ks i).up,s39,t40⟩) rfl)<|yK 4 158 HF (xk.v)<|yK 5 159 HF (.int .i64 ((i:Nat):Int))<|yT 6 160 HF (zI (s:=xk) (i:=i) hsl E27 F27 (by omega))<|yT 7 161 HF (zL fun w HF=>(load_K (fun j v h=>(HKN.out.thenNo HF.out.kept).cell (hc j v h) (fun e=>e))))<|?_;(try simp only[pS]);refine yC 8 162 (sameK (kAt ks i).up s39 (kAt ks i).e t40 (kAt ks i).l es ls _ (HR41.out.1.no HF.out.kept) (HI.out.e.no (HKN.out.thenNo HF.out.kept)) (HR41.out.2.no HF.out.kept) (HI.out.l.no (HKN.out.thenNo HF.out.kept)) (by omega) (by omega)) rfl HF fun w47 HF=>yK 9 163 HF (.bool false)<|yK 10 164 HF (.bool false)<|yK 11 165 HF (.bool false)<|yK 12 166 HF (s35.v)<|yK 13 167 HF (.int .i64 ((s35.l:Nat):Int))<|yK 14 168 HF (pg g1 5)<|yT 15 169 HF (zL fun w HF=>(load_one (((HBg1.out.kept HF.out.kept (fun e=>e)).cell 5).trans (show (Cg.cells c)[5]?=some (.int .i64 c.rm:Value) by kernel_rfl)) U3 rfl))<|?_;(try simp only[pS]);refine yT 16 170 HF (v:=.int .i64 (270*c.rm)) (zN (b_mulw 270 c.rm (270*c.rm) (by rw [IntKind.wrap_i64];omega)))<|yT 17 171 HF (v:=.int .i64 ((270*c.rm)+6394)) (zN (b_addw (270*c.rm) 6394 ((270*c.rm)+6394) (by rw [IntKind.wrap_i64];omega)))<|yT 18 172 HF (zN (gI hs0))<|yK 19 173 HF (.bool false)<|?_;(try simp only[pS]);refine wpAnyH_done (by kernel_rfl) ?_ _;(try simp only[pS]);go_upto_region 21 with fail;refine Sg<|tK (.int .i64 ((i:Nat):Int))<|bN (v:=.int .i64 (((i+1):Nat):Int)) (b_addw ((i:Nat):Int) 1 (((i+1):Nat):Int) (by rw [IntKind.wrap_i64];omega))<|tK (.int .i64 (((i+1):Nat):Int))<|Nl ?_;simp only[pS];have HF:Hid (Fq No w3 w47 []):=Fq.start0 (HKS.out.thenNo HF.out.kept);go_wp2;go_roundw
            case rel=>exact ⟨i+1,by go_num,by omega,HF⟩
            case measure=>simp [intOf];omega
          ·go_upto_region 20 with fail;refine Sg<|tK (.int .i64 ((i:Nat):Int))<|tK (xk.v)<|tK (.int .i64 ((xk.l:Nat):Int))<|bN (lI (a:=((i:Nat):Int)) (b:=((xk.l:Nat):Int)) (decide_eq_false (by omega)))<|Nl ?_;simp only[pS];go_upto_region 29 with fail;refine Sg<|tK (.int .i64 0)<|Nl ?_;simp only[pS];go_wp2
           go_loopw [26] (fun v26 wr=>∃ i:Nat,v26=.int .i64 ((i:Nat):Int)∧i≤xs1.l∧Hid (Fq No w3 wr [])) (fun v26 _=>xs1.l - (intOf v26).toNat)
           case atStart=>exact ⟨0,by go_num,by omega,HF⟩
           case round=>
             clear HF;obtain ⟨i,rfl,hi,HF⟩:=hrel
             by_cases hlt:i < xs1.l
             ·have HKS:Hid (Kept No w3 w3):=Kept.refl _ _;obtain ⟨b,off,hsl,hc⟩:=RdS.at' HS.out (i:=i) hlt;obtain ⟨ys,hmi⟩:=HSI.out i hlt;have HI:Hid (Wi.Sl w (sAt rb i).a (sAt rb i).l (sAt rb i).k ys):=hmi;clear hmi;go_upto_region 30 with fail;refine Sg<|tK (.int .i64 ((i:Nat):Int))<|tK (xs1.v)<|tK (.int .i64 ((xs1.l:Nat):Int))<|bN (lI (a:=((i:Nat):Int)) (b:=((xs1.l:Nat):Int)) (decide_eq_true (by omega)))<|Nl ?_;simp only[pS];go_upto_region 32 with fail;refine wp_region_held_drew (S:=fun w'=>Hid (Fq No w3 w' [])) rfl (show Hid _ from HF.out.drew) (fun hH=>?_);replace HF:Hid (Fq No w3 wr.drew []):=hH;clear hH;generalize wr.drew=w48 at HF ⊢;refine yK 0 180 HF (xs1.v)<|yK 1 181 HF (.int .i64 ((i:Nat):Int))<|yT 2 182 HF (zI (s:=xs1) (i:=i) hsl E28 F28 (by omega))<|yT 3 183 HF (zL fun w HF=>(load_one ((HKN.out.thenNo HF.out.kept).cell (hc 0 _ rfl) (fun e=>e)) U30 rfl))<|yT 5 185 HF (zL fun w HF=>(run_load_part (off:=0) (cs:=Cg.cs c) (sub:=Cg.cs c) (HBg1.out.kept HF.out.kept (fun e=>e)) (part_of (by kernel_rfl)) U24 rfl S24))<|?_;(try simp only[pS]);refine ySl 4 184 (pSealC (sAt rb i) ys _ (HI.out.no (wk (HKN.out.thenNo HF.out.kept)))) HF fun s49 zs2 w50 HF HX2=>?_;(try simp only[pS]);refine yC 6 186 (againWalk s49 zs2 c zs _ (HCg.out.no (HKN.out.thenNo HF.out.kept)) HX2.out) rfl HF fun w51 HF=>yK 7 187 HF (.bool false)<|?_;(try simp only[pS]);refine wpAnyH_done (by kernel_rfl) ?_ _;(try simp only[pS]);go_upto_region 31 with fail;refine Sg<|tK (.int .i64 ((i:Nat):Int))<|bN (v:=.int .i64 (((i+1):Nat):Int)) (b_addw ((i:Nat):Int) 1 (((i+1):Nat):Int) (by rw [IntKind.wrap_i64];omega))<|tK (.int .i64 (((i+1):Nat):Int))<|Nl ?_;simp only[pS];go_wp2;go_roundw
              case rel=>exact ⟨i+1,by go_num,by omega,HF⟩
              case measure=>simp [intOf];omega
             ·go_upto_region 30 with fail;refine Sg<|tK (.int .i64 ((i:Nat):Int))<|tK (xs1.v)<|tK (.int .i64 ((xs1.l:Nat):Int))<|bN (lI (a:=((i:Nat):Int)) (b:=((xs1.l:Nat):Int)) (decide_eq_false (by omega)))<|Nl ?_;simp only[pS];go_upto_region 34 with fail;refine Sg<|tU<|Nl ?_;simp only[pS];go_wp2;rw [HC.out];exact ⟨rfl,HKN.out.thenNo HF.out.kept⟩
open Go.ChangeShapes Go.WideShapes Go.ChangeAt Go.RowKit
open Go.ChangeMaps (open_string shut_string)
theorem Tryz.und5:Tryz.prog.underlying 5=some (.int .u8):=by kernel_rfl
theorem Tryz.und68:Tryz.prog.underlying 54=some (.struct (Tryz.prog.fieldsOf 54)):=by kernel_rfl
theorem own:ownKnob Tryz.prog.godebug=none:=by kernel_rfl
theorem laidOut:laidOutB Tryz.prog=true:=by kernel_rfl
theorem wf_lo {n:Int} (h:(Lit.int .i64 n).wf=true):-9223372036854775808≤n:=by
  simp only[Lit.wf,Bool.and_eq_true,decide_eq_true_eq] at h
  have h1:IntKind.min .i64=-9223372036854775808:=by decide
  rw [h1] at h;exact h.1
theorem cutL {α:Type} {l:List α} (a n:Nat):l.drop a=(l.drop a).take n++l.drop (a+n):=by
  rw [← List.drop_drop];exact (List.take_append_drop _ _).symm
theorem Tryz.cells3:Tryz.prog.cellsOf 3=1:=by kernel_rfl
theorem Tryz.cells5:Tryz.prog.cellsOf 5=1:=by kernel_rfl
theorem Tryz.cells9:Tryz.prog.cellsOf 9=1:=by kernel_rfl
theorem Tryz.cells62:Tryz.prog.cellsOf 35=2:=by kernel_rfl
theorem Tryz.cells65:Tryz.prog.cellsOf 51=1:=by kernel_rfl
theorem Tryz.cells66:Tryz.prog.cellsOf 52=1:=by kernel_rfl
theorem Tryz.cells68:Tryz.prog.cellsOf 54=3:=by kernel_rfl
theorem Tryz.cells71:Tryz.prog.cellsOf 43=2:=by kernel_rfl
theorem Tryz.cells31:Tryz.prog.cellsOf 45=9:=by kernel_rfl
theorem Tryz.cells110:Tryz.prog.cellsOf 106=4:=by kernel_rfl
theorem Tryz.cells89:Tryz.prog.cellsOf 31=1:=by kernel_rfl
theorem Tryz.cells91:Tryz.prog.cellsOf 108=7:=by kernel_rfl
theorem Tryz.bytes5:Tryz.prog.bytesOf 5=1:=by kernel_rfl
theorem Tryz.bytes110:Tryz.prog.bytesOf 106=40:=by kernel_rfl
theorem Tryz.bytes91:Tryz.prog.bytesOf 108=56:=by kernel_rfl
set_option maxRecDepth 100000 in
theorem file_ok {H:Type} {enc:TypeId × Value→H} {W:World} {fuel:Nat} {l:List Value} {x:DataW H × List MemPlace}
    (hf:DataW.trod enc Tryz.prog W 0 (fun _=>true) true fuel 43 l=some x):∃ a b:Int,l=[.int .i64 a,.int .i64 b]:=by
  obtain ⟨xs,n,_,_,hl,hlen,hfs⟩:=DataW.trod_struct Tryz.und71 hf
  rw [Tryz.cells71] at hl
  have hlen:xs.length=2:=hlen
  have h0:DataW.trod enc Tryz.prog W 0 (fun _=>true) true n 3 ((l.drop 0).take (Tryz.prog.cellsOf 3))=xs[0]?:=hfs 0 _ rfl
  obtain ⟨y0,hy0⟩:∃ y,xs[0]?=some y:=⟨_,List.getElem?_eq_getElem (show 0 < xs.length by omega)⟩
  rw [Tryz.cells3,hy0] at h0
  obtain ⟨n0,e0,_,_⟩:=DataW.trod_int Tryz.und3 h0
  have h1:DataW.trod enc Tryz.prog W 0 (fun _=>true) true n 3 ((l.drop 1).take (Tryz.prog.cellsOf 3))=xs[1]?:=hfs 1 _ rfl
  obtain ⟨y1,hy1⟩:∃ y,xs[1]?=some y:=⟨_,List.getElem?_eq_getElem (show 1 < xs.length by omega)⟩
  rw [Tryz.cells3,hy1] at h1
  obtain ⟨n1,e1,_,_⟩:=DataW.trod_int Tryz.und3 h1
  have s:l=l.drop 0:=rfl
  have s0:l.drop 0=(l.drop 0).take 1++l.drop 1:=cutL 0 1
  rw [e0] at s0
  have s1:l.drop 1=(l.drop 1).take 1++l.drop 2:=cutL 1 1
  rw [e1] at s1
  have sz:l.drop 2=[]:=List.drop_of_length_le (by omega)
  refine ⟨n0,n1,?_⟩
  rw [s,s0,s1,sz]
  rfl
set_option maxRecDepth 100000 in
theorem stamp_ok {H:Type} {enc:TypeId × Value→H} {W:World} {fuel:Nat} {l:List Value} {x:DataW H × List MemPlace}
    (hf:DataW.trod enc Tryz.prog W 0 (fun _=>true) true fuel 35 l=some x):∃ c:Sp,l=c.cs∧-9223372036854775808≤c.n:=by
  obtain ⟨xs,n,_,_,hl,hlen,hfs⟩:=DataW.trod_struct Tryz.und62 hf
  rw [Tryz.cells62] at hl
  have hlen:xs.length=2:=hlen
  have h0:DataW.trod enc Tryz.prog W 0 (fun _=>true) true n 3 ((l.drop 0).take (Tryz.prog.cellsOf 3))=xs[0]?:=hfs 0 _ rfl
  obtain ⟨y0,hy0⟩:∃ y,xs[0]?=some y:=⟨_,List.getElem?_eq_getElem (show 0 < xs.length by omega)⟩
  rw [Tryz.cells3,hy0] at h0
  obtain ⟨n0,e0,_,w0⟩:=DataW.trod_int Tryz.und3 h0
  have h1:DataW.trod enc Tryz.prog W 0 (fun _=>true) true n 3 ((l.drop 1).take (Tryz.prog.cellsOf 3))=xs[1]?:=hfs 1 _ rfl
  obtain ⟨y1,hy1⟩:∃ y,xs[1]?=some y:=⟨_,List.getElem?_eq_getElem (show 1 < xs.length by omega)⟩
  rw [Tryz.cells3,hy1] at h1
  obtain ⟨n1,e1,_,_⟩:=DataW.trod_int Tryz.und3 h1
  have s:l=l.drop 0:=rfl
  have s0:l.drop 0=(l.drop 0).take 1++l.drop 1:=cutL 0 1
  rw [e0] at s0
  have s1:l.drop 1=(l.drop 1).take 1++l.drop 2:=cutL 1 1
  rw [e1] at s1
  have sz:l.drop 2=[]:=List.drop_of_length_le (by omega)
  refine ⟨⟨n0,n1⟩,?_,wf_lo w0⟩
  rw [s,s0,s1,sz]
  rfl
set_option maxRecDepth 100000 in
theorem cmd_ok {H:Type} {enc:TypeId × Value→H} {W:World} {fuel:Nat} {l:List Value} {x:DataW H × List MemPlace}
    (hf:DataW.trod enc Tryz.prog W 0 (fun _=>true) true fuel 45 l=some x):∃ c:Cm,l=c.cs:=by
  obtain ⟨xs,n,_,_,hl,hlen,hfs⟩:=DataW.trod_struct Tryz.und31 hf
  rw [Tryz.cells31] at hl
  have hlen:xs.length=7:=hlen
  have h0:DataW.trod enc Tryz.prog W 0 (fun _=>true) true n 3 ((l.drop 0).take (Tryz.prog.cellsOf 3))=xs[0]?:=hfs 0 _ rfl
  obtain ⟨y0,hy0⟩:∃ y,xs[0]?=some y:=⟨_,List.getElem?_eq_getElem (show 0 < xs.length by omega)⟩
  rw [Tryz.cells3,hy0] at h0
  obtain ⟨n0,e0,_,_⟩:=DataW.trod_int Tryz.und3 h0
  have h1:DataW.trod enc Tryz.prog W 0 (fun _=>true) true n 3 ((l.drop 1).take (Tryz.prog.cellsOf 3))=xs[1]?:=hfs 1 _ rfl
  obtain ⟨y1,hy1⟩:∃ y,xs[1]?=some y:=⟨_,List.getElem?_eq_getElem (show 1 < xs.length by omega)⟩
  rw [Tryz.cells3,hy1] at h1
  obtain ⟨n1,e1,_,_⟩:=DataW.trod_int Tryz.und3 h1
  have h2:DataW.trod enc Tryz.prog W 0 (fun _=>true) true n 3 ((l.drop 2).take (Tryz.prog.cellsOf 3))=xs[2]?:=hfs 2 _ rfl
  obtain ⟨y2,hy2⟩:∃ y,xs[2]?=some y:=⟨_,List.getElem?_eq_getElem (show 2 < xs.length by omega)⟩
  rw [Tryz.cells3,hy2] at h2
  obtain ⟨n2,e2,_,_⟩:=DataW.trod_int Tryz.und3 h2
  have h3:DataW.trod enc Tryz.prog W 0 (fun _=>true) true n 9 ((l.drop 3).take (Tryz.prog.cellsOf 9))=xs[3]?:=hfs 3 _ rfl
  obtain ⟨y3,hy3⟩:∃ y,xs[3]?=some y:=⟨_,List.getElem?_eq_getElem (show 3 < xs.length by omega)⟩
  rw [Tryz.cells9,hy3] at h3
  obtain ⟨n3,e3,_,_⟩:=DataW.trod_string Tryz.und9 h3
  have h4:DataW.trod enc Tryz.prog W 0 (fun _=>true) true n 43 ((l.drop 4).take (Tryz.prog.cellsOf 43))=xs[4]?:=hfs 4 _ rfl
  obtain ⟨y4,hy4⟩:∃ y,xs[4]?=some y:=⟨_,List.getElem?_eq_getElem (show 4 < xs.length by omega)⟩
  rw [Tryz.cells71,hy4] at h4
  obtain ⟨m4,n4,e4⟩:=file_ok h4
  have h5:DataW.trod enc Tryz.prog W 0 (fun _=>true) true n 43 ((l.drop 6).take (Tryz.prog.cellsOf 43))=xs[5]?:=hfs 5 _ rfl
  obtain ⟨y5,hy5⟩:∃ y,xs[5]?=some y:=⟨_,List.getElem?_eq_getElem (show 5 < xs.length by omega)⟩
  rw [Tryz.cells71,hy5] at h5
  obtain ⟨m5,n5,e5⟩:=file_ok h5
  have h6:DataW.trod enc Tryz.prog W 0 (fun _=>true) true n 3 ((l.drop 8).take (Tryz.prog.cellsOf 3))=xs[6]?:=hfs 6 _ rfl
  obtain ⟨y6,hy6⟩:∃ y,xs[6]?=some y:=⟨_,List.getElem?_eq_getElem (show 6 < xs.length by omega)⟩
  rw [Tryz.cells3,hy6] at h6
  obtain ⟨n6,e6,_,_⟩:=DataW.trod_int Tryz.und3 h6
  have s:l=l.drop 0:=rfl
  have s0:l.drop 0=(l.drop 0).take 1++l.drop 1:=cutL 0 1
  rw [e0] at s0
  have s1:l.drop 1=(l.drop 1).take 1++l.drop 2:=cutL 1 1
  rw [e1] at s1
  have s2:l.drop 2=(l.drop 2).take 1++l.drop 3:=cutL 2 1
  rw [e2] at s2
  have s3:l.drop 3=(l.drop 3).take 1++l.drop 4:=cutL 3 1
  rw [e3] at s3
  have s4:l.drop 4=(l.drop 4).take 2++l.drop 6:=cutL 4 2
  rw [e4] at s4
  have s5:l.drop 6=(l.drop 6).take 2++l.drop 8:=cutL 6 2
  rw [e5] at s5
  have s6:l.drop 8=(l.drop 8).take 1++l.drop 9:=cutL 8 1
  rw [e6] at s6
  have sz:l.drop 9=[]:=List.drop_of_length_le (by omega)
  refine ⟨⟨n0,n1,n2,n3,m4,n4,m5,n5,n6⟩,?_⟩
  rw [s,s0,s1,s2,s3,s4,s5,s6,sz]
  rfl
set_option maxRecDepth 100000 in
theorem ent_ok {H:Type} {enc:TypeId × Value→H} {W:World} {fuel:Nat} {l:List Value} {x:DataW H × List MemPlace}
    (hf:DataW.trod enc Tryz.prog W 0 (fun _=>true) true fuel 106 l=some x):∃ c:En,l=c.cs:=by
  obtain ⟨xs,n,_,_,hl,hlen,hfs⟩:=DataW.trod_struct Tryz.und110 hf
  rw [Tryz.cells110] at hl
  have hlen:xs.length=3:=hlen
  have h0:DataW.trod enc Tryz.prog W 0 (fun _=>true) true n 9 ((l.drop 0).take (Tryz.prog.cellsOf 9))=xs[0]?:=hfs 0 _ rfl
  obtain ⟨y0,hy0⟩:∃ y,xs[0]?=some y:=⟨_,List.getElem?_eq_getElem (show 0 < xs.length by omega)⟩
  rw [Tryz.cells9,hy0] at h0
  obtain ⟨n0,e0,_,_⟩:=DataW.trod_string Tryz.und9 h0
  have h1:DataW.trod enc Tryz.prog W 0 (fun _=>true) true n 43 ((l.drop 1).take (Tryz.prog.cellsOf 43))=xs[1]?:=hfs 1 _ rfl
  obtain ⟨y1,hy1⟩:∃ y,xs[1]?=some y:=⟨_,List.getElem?_eq_getElem (show 1 < xs.length by omega)⟩
  rw [Tryz.cells71,hy1] at h1
  obtain ⟨m1,n1,e1⟩:=file_ok h1
  have h2:DataW.trod enc Tryz.prog W 0 (fun _=>true) true n 3 ((l.drop 3).take (Tryz.prog.cellsOf 3))=xs[2]?:=hfs 2 _ rfl
  obtain ⟨y2,hy2⟩:∃ y,xs[2]?=some y:=⟨_,List.getElem?_eq_getElem (show 2 < xs.length by omega)⟩
  rw [Tryz.cells3,hy2] at h2
  obtain ⟨n2,e2,_,_⟩:=DataW.trod_int Tryz.und3 h2
  have s:l=l.drop 0:=rfl
  have s0:l.drop 0=(l.drop 0).take 1++l.drop 1:=cutL 0 1
  rw [e0] at s0
  have s1:l.drop 1=(l.drop 1).take 2++l.drop 3:=cutL 1 2
  rw [e1] at s1
  have s2:l.drop 3=(l.drop 3).take 1++l.drop 4:=cutL 3 1
  rw [e2] at s2
  have sz:l.drop 4=[]:=List.drop_of_length_le (by omega)
  refine ⟨⟨n0,m1,n1,n2⟩,?_⟩
  rw [s,s0,s1,s2,sz]
  rfl
set_option maxRecDepth 100000 in
theorem last_ok {H:Type} {enc:TypeId × Value→H} {W:World} {fuel:Nat} {l:List Value} {x:DataW H × List MemPlace}
    (hf:DataW.trod enc Tryz.prog W 0 (fun _=>true) true fuel 108 l=some x):∃ c:La,l=c.cs:=by
  obtain ⟨xs,n,_,_,hl,hlen,hfs⟩:=DataW.trod_struct Tryz.und91 hf
  rw [Tryz.cells91] at hl
  have hlen:xs.length=6:=hlen
  have h0:DataW.trod enc Tryz.prog W 0 (fun _=>true) true n 3 ((l.drop 0).take (Tryz.prog.cellsOf 3))=xs[0]?:=hfs 0 _ rfl
  obtain ⟨y0,hy0⟩:∃ y,xs[0]?=some y:=⟨_,List.getElem?_eq_getElem (show 0 < xs.length by omega)⟩
  rw [Tryz.cells3,hy0] at h0
  obtain ⟨n0,e0,_,_⟩:=DataW.trod_int Tryz.und3 h0
  have h1:DataW.trod enc Tryz.prog W 0 (fun _=>true) true n 3 ((l.drop 1).take (Tryz.prog.cellsOf 3))=xs[1]?:=hfs 1 _ rfl
  obtain ⟨y1,hy1⟩:∃ y,xs[1]?=some y:=⟨_,List.getElem?_eq_getElem (show 1 < xs.length by omega)⟩
  rw [Tryz.cells3,hy1] at h1
  obtain ⟨n1,e1,_,_⟩:=DataW.trod_int Tryz.und3 h1
  have h2:DataW.trod enc Tryz.prog W 0 (fun _=>true) true n 3 ((l.drop 2).take (Tryz.prog.cellsOf 3))=xs[2]?:=hfs 2 _ rfl
  obtain ⟨y2,hy2⟩:∃ y,xs[2]?=some y:=⟨_,List.getElem?_eq_getElem (show 2 < xs.length by omega)⟩
  rw [Tryz.cells3,hy2] at h2
  obtain ⟨n2,e2,_,_⟩:=DataW.trod_int Tryz.und3 h2
  have h3:DataW.trod enc Tryz.prog W 0 (fun _=>true) true n 31 ((l.drop 3).take (Tryz.prog.cellsOf 31))=xs[3]?:=hfs 3 _ rfl
  obtain ⟨y3,hy3⟩:∃ y,xs[3]?=some y:=⟨_,List.getElem?_eq_getElem (show 3 < xs.length by omega)⟩
  rw [Tryz.cells89,hy3] at h3
  obtain ⟨n3,e3,_,_⟩:=DataW.trod_int Tryz.und89 h3
  have h4:DataW.trod enc Tryz.prog W 0 (fun _=>true) true n 43 ((l.drop 4).take (Tryz.prog.cellsOf 43))=xs[4]?:=hfs 4 _ rfl
  obtain ⟨y4,hy4⟩:∃ y,xs[4]?=some y:=⟨_,List.getElem?_eq_getElem (show 4 < xs.length by omega)⟩
  rw [Tryz.cells71,hy4] at h4
  obtain ⟨m4,n4,e4⟩:=file_ok h4
  have h5:DataW.trod enc Tryz.prog W 0 (fun _=>true) true n 3 ((l.drop 6).take (Tryz.prog.cellsOf 3))=xs[5]?:=hfs 5 _ rfl
  obtain ⟨y5,hy5⟩:∃ y,xs[5]?=some y:=⟨_,List.getElem?_eq_getElem (show 5 < xs.length by omega)⟩
  rw [Tryz.cells3,hy5] at h5
  obtain ⟨n5,e5,_,_⟩:=DataW.trod_int Tryz.und3 h5
  have s:l=l.drop 0:=rfl
  have s0:l.drop 0=(l.drop 0).take 1++l.drop 1:=cutL 0 1
  rw [e0] at s0
  have s1:l.drop 1=(l.drop 1).take 1++l.drop 2:=cutL 1 1
  rw [e1] at s1
  have s2:l.drop 2=(l.drop 2).take 1++l.drop 3:=cutL 2 1
  rw [e2] at s2
  have s3:l.drop 3=(l.drop 3).take 1++l.drop 4:=cutL 3 1
  rw [e3] at s3
  have s4:l.drop 4=(l.drop 4).take 2++l.drop 6:=cutL 4 2
  rw [e4] at s4
  have s5:l.drop 6=(l.drop 6).take 1++l.drop 7:=cutL 6 1
  rw [e5] at s5
  have sz:l.drop 7=[]:=List.drop_of_length_le (by omega)
  refine ⟨⟨n0,n1,n2,n3,m4,n4,n5⟩,?_⟩
  rw [s,s0,s1,s2,s3,s4,s5,sz]
  rfl
theorem ents_ok {H:Type} {enc:TypeId × Value→H} {W:World} {fuel:Nat} {v:Value} {x:DataW H × List MemPlace}
    (hf:DataW.trod enc Tryz.prog W 0 (fun _=>true) true fuel 51 [v]=some x) (hs:∀ n∈x.1.weights Tryz.prog 51,n≤reachBytes) :
    ∃ (s:Sl) (xs:List En),v=s.v∧RdE W s xs∧s.l*40≤140737488351232∧s.l≤s.k:=by
  rcases Go.Deep.open_slice Tryz.und65 hf with ⟨hcs,_⟩ | ⟨ad,l,cp,m,n,D,PP,hcs,hq,hl,hm,hmm,hx,hel⟩
  · simp at hcs
    exact ⟨slZ,[],hcs,⟨RowsAt.nil _ _ _,rfl,fun _=>rfl⟩,by show 0*40≤_;omega,Nat.le_refl _⟩
  · simp at hcs
    simp only[if_true] at hmm
    subst hmm
    have hb:l*40≤140737488351232:=by
      have h1:=hs _ (by rw [hx];simp only[DataW.weights,Tryz.und65];exact List.mem_cons_self ..)
      rw [Tryz.bytes110] at h1
      simp [reachBytes] at h1
      omega
    rw [Tryz.cells110] at hel
    have key:∀ i,i < l→∃ it:En,W.cells? 0 (ad.add (i*4)) 4=some it.cs:=by
      intro i hi
      obtain ⟨cs',hc,htr⟩:=hel i (by omega)
      obtain ⟨it,rfl⟩:=ent_ok htr
      exact ⟨it,hc⟩
    obtain ⟨f,hfm⟩:=Go.Deep.choose_lt key
    refine ⟨⟨some ad,l,m⟩,(List.range l).map f,hcs,⟨?_,by simp,fun e=>by cases e⟩,hb,(by show l≤m;omega)⟩
    intro i it hit
    have hi:i < l:=by have:=(List.getElem?_eq_some_iff.1 hit).1;simpa using this
    have e:(f i).cs=it:=by simpa [hi] using hit
    have hc:=hfm i hi
    have hcs:=(World.cells?_some hc).2.2
    obtain ⟨b,off,spot⟩:=ad
    have hspot:spot=none:=by
      have h00:=(World.cells?_some (hfm 0 (by omega))).2.2 0 (by omega)
      have h00':(f 0).cs[0]?=some (.string (f 0).nm):=rfl
      rw [h00'] at h00
      have:=World.cell?_spot h00
      simpa [Addr.add] using this
    subst hspot
    refine ⟨b,off,rfl,fun k v hv=>?_⟩
    rw [← e] at hv
    have hk:k < 4:=by have:=(List.getElem?_eq_some_iff.1 hv).1;exact this
    have h1:=hcs k hk
    rw [hv,Go.Deep.add_add,addr_add] at h1
    rw [show off+i*4+k=off+(i*4+k) by omega]
    exact h1
theorem lasts_ok {H:Type} {enc:TypeId × Value→H} {W:World} {fuel:Nat} {v:Value} {x:DataW H × List MemPlace}
    (hf:DataW.trod enc Tryz.prog W 0 (fun _=>true) true fuel 52 [v]=some x) (hs:∀ n∈x.1.weights Tryz.prog 52,n≤reachBytes) :
    ∃ (s:Sl) (xs:List La),v=s.v∧RdL W s xs∧s.l*56≤140737488351232∧s.l≤s.k:=by
  rcases Go.Deep.open_slice Tryz.und66 hf with ⟨hcs,_⟩ | ⟨ad,l,cp,m,n,D,PP,hcs,hq,hl,hm,hmm,hx,hel⟩
  · simp at hcs
    exact ⟨slZ,[],hcs,⟨RowsAt.nil _ _ _,rfl,fun _=>rfl⟩,by show 0*56≤_;omega,Nat.le_refl _⟩
  · simp at hcs
    simp only[if_true] at hmm
    subst hmm
    have hb:l*56≤140737488351232:=by
      have h1:=hs _ (by rw [hx];simp only[DataW.weights,Tryz.und66];exact List.mem_cons_self ..)
      rw [Tryz.bytes91] at h1
      simp [reachBytes] at h1
      omega
    rw [Tryz.cells91] at hel
    have key:∀ i,i < l→∃ it:La,W.cells? 0 (ad.add (i*7)) 7=some it.cs:=by
      intro i hi
      obtain ⟨cs',hc,htr⟩:=hel i (by omega)
      obtain ⟨it,rfl⟩:=last_ok htr
      exact ⟨it,hc⟩
    obtain ⟨f,hfm⟩:=Go.Deep.choose_lt key
    refine ⟨⟨some ad,l,m⟩,(List.range l).map f,hcs,⟨?_,by simp,fun e=>by cases e⟩,hb,(by show l≤m;omega)⟩
    intro i it hit
    have hi:i < l:=by have:=(List.getElem?_eq_some_iff.1 hit).1;simpa using this
    have e:(f i).cs=it:=by simpa [hi] using hit
    have hc:=hfm i hi
    have hcs:=(World.cells?_some hc).2.2
    obtain ⟨b,off,spot⟩:=ad
    have hspot:spot=none:=by
      have h00:=(World.cells?_some (hfm 0 (by omega))).2.2 0 (by omega)
      have h00':(f 0).cs[0]?=some (.int .i64 (f 0).cl):=rfl
      rw [h00'] at h00
      have:=World.cell?_spot h00
      simpa [Addr.add] using this
    subst hspot
    refine ⟨b,off,rfl,fun k v hv=>?_⟩
    rw [← e] at hv
    have hk:k < 7:=by have:=(List.getElem?_eq_some_iff.1 hv).1;exact this
    have h1:=hcs k hk
    rw [hv,Go.Deep.add_add,addr_add] at h1
    rw [show off+i*7+k=off+(i*7+k) by omega]
    exact h1
theorem wu_lo {n:Int} (h:(Lit.int .u8 n).wf=true):0≤n:=by
  simp only[Lit.wf,Bool.and_eq_true,decide_eq_true_eq] at h
  have h1:IntKind.min .u8=0:=by decide
  rw [h1] at h;exact h.1
theorem wu_hi {n:Int} (h:(Lit.int .u8 n).wf=true):n≤255:=by
  simp only[Lit.wf,Bool.and_eq_true,decide_eq_true_eq] at h
  have h1:IntKind.max .u8=255:=by decide
  rw [h1] at h;exact h.2
theorem u8_map {f:Nat→Int} {l:Nat} {P:Nat→Prop} (h:∀ i,i < l→P i∧0≤f i∧f i≤255):Wi.U8 ((List.range l).map f):=by
  intro i
  by_cases hi:i < l
  · rw [List.getElem?_map,List.getElem?_range hi];exact (h i hi).2
  · rw [List.getElem?_eq_none (by simp;omega)];simp
theorem bytes_ok {H:Type} {enc:TypeId × Value→H} {W:World} {fuel:Nat} {v:Value} {x:DataW H × List MemPlace}
    (hf:DataW.trod enc Tryz.prog W 0 (fun _=>true) true fuel 30 [v]=some x) (hs:∀ n∈x.1.weights Tryz.prog 30,n≤reachBytes) :
    ∃ (s:Sl) (xs:List Int),v=s.v∧RdB W s xs∧s.l≤140737488351232∧s.l≤s.k∧Wi.U8 xs:=by
  rcases Go.Deep.open_slice Tryz.und69 hf with ⟨hcs,_⟩ | ⟨ad,l,cp,m,n,D,PP,hcs,hq,hl,hm,hmm,hx,hel⟩
  · simp at hcs
    exact ⟨slZ,[],hcs,⟨Nums.nil _ _ _,rfl,fun _=>rfl⟩,by show 0≤_;omega,Nat.le_refl _,Wi.U8.nil⟩
  · simp at hcs
    simp only[if_true] at hmm
    subst hmm
    have hb:l≤140737488351232:=by
      have h1:=hs _ (by rw [hx];simp only[DataW.weights,Tryz.und69];exact List.mem_cons_self ..)
      rw [Tryz.bytes5] at h1
      simp [reachBytes] at h1
      omega
    rw [Tryz.cells5] at hel
    have key:∀ i,i < l→∃ z:Int,W.cells? 0 (ad.add (i*1)) 1=some [.int .u8 z]∧0≤z∧z≤255:=by
      intro i hi
      obtain ⟨cs',hc,htr⟩:=hel i (by omega)
      obtain ⟨z,e,_,wz⟩:=DataW.trod_int Tryz.und5 htr
      subst e
      exact ⟨z,hc,wu_lo wz,wu_hi wz⟩
    obtain ⟨f,hfm⟩:=Go.Deep.choose_lt key
    refine ⟨⟨some ad,l,m⟩,(List.range l).map f,hcs,⟨?_,by simp,fun e=>by cases e⟩,hb,(by show l≤m;omega),u8_map hfm⟩
    intro i hi0
    have hi:i < l:=by simpa using hi0
    have hc:=(hfm i hi).1
    have hcs:=(World.cells?_some hc).2.2 0 (by omega)
    obtain ⟨b,off,spot⟩:=ad
    have h00':[Value.int .u8 (f i)][0]?=some (.int .u8 (f i)):=rfl
    rw [h00'] at hcs
    have hspot:spot=none:=by
      have h0:=(World.cells?_some (hfm 0 (by omega)).1).2.2 0 (by omega)
      have h00:[Value.int .u8 (f 0)][0]?=some (.int .u8 (f 0)):=rfl
      rw [h00] at h0
      have:=World.cell?_spot h0
      simpa [Addr.add] using this
    subst hspot
    refine ⟨b,off,rfl,?_⟩
    rw [Go.Deep.add_add,addr_add] at hcs
    rw [show off+i=off+(i*1+0) by omega]
    simpa [hi] using hcs
set_option maxRecDepth 100000 in
theorem bkt_ok {H:Type} {enc:TypeId × Value→H} {W:World} {fuel:Nat} {l:List Value} {x:DataW H × List MemPlace}
    (hf:DataW.trod enc Tryz.prog W 0 (fun _=>true) true fuel 54 l=some x) (hs:∀ n∈x.1.weights Tryz.prog 54,n≤reachBytes) :
    ∃ (b:Bv) (es:List En) (ls:List La),l=b.cs∧RdE W b.e es∧RdL W b.l ls∧b.e.l*40≤140737488351232∧b.l.l*56≤140737488351232:=by
  obtain ⟨xs,n,_,rfl,hl,hlen,hfs⟩:=DataW.trod_struct Tryz.und68 hf
  rw [Tryz.cells68] at hl
  have hlen:xs.length=3:=hlen
  match xs,hlen,hfs,hs with
  | [y0,y1,y2],_,hfs,hs=>
    have h0:DataW.trod enc Tryz.prog W 0 (fun _=>true) true n 3 ((l.drop 0).take (Tryz.prog.cellsOf 3))=some y0:=hfs 0 _ rfl
    rw [Tryz.cells3] at h0
    obtain ⟨n0,e0,_,_⟩:=DataW.trod_int Tryz.und3 h0
    have h1:DataW.trod enc Tryz.prog W 0 (fun _=>true) true n 51 ((l.drop 1).take (Tryz.prog.cellsOf 51))=some y1:=hfs 1 _ rfl
    rw [Tryz.cells65] at h1
    have g1:l.drop 1=(l.drop 1).take 1++l.drop 2:=cutL 1 1
    obtain ⟨c1,hc1⟩:∃ c,(l.drop 1).take 1=[c]:=List.length_eq_one_iff.1 (by rw [List.length_take,List.length_drop];omega)
    rw [hc1] at h1
    obtain ⟨n1,z1,u1,a1,b1,d1⟩:=ents_ok h1 (fun w hw=>hs w (by
      simp only[DataW.weights,Tryz.und68]
      exact DataW.weights_mem_each (j:=1) (t:=51) (d:=y1.1) (by kernel_rfl) rfl w hw))
    have e1:(l.drop 1).take 1=[n1.v]:=by rw [hc1,u1]
    have h2:DataW.trod enc Tryz.prog W 0 (fun _=>true) true n 52 ((l.drop 2).take (Tryz.prog.cellsOf 52))=some y2:=hfs 2 _ rfl
    rw [Tryz.cells66] at h2
    have g2:l.drop 2=(l.drop 2).take 1++l.drop 3:=cutL 2 1
    obtain ⟨c2,hc2⟩:∃ c,(l.drop 2).take 1=[c]:=List.length_eq_one_iff.1 (by rw [List.length_take,List.length_drop];omega)
    rw [hc2] at h2
    obtain ⟨n2,z2,u2,a2,b2,d2⟩:=lasts_ok h2 (fun w hw=>hs w (by
      simp only[DataW.weights,Tryz.und68]
      exact DataW.weights_mem_each (j:=2) (t:=52) (d:=y2.1) (by kernel_rfl) rfl w hw))
    have e2:(l.drop 2).take 1=[n2.v]:=by rw [hc2,u2]
    have s:l=l.drop 0:=rfl
    have s0:l.drop 0=(l.drop 0).take 1++l.drop 1:=cutL 0 1
    rw [e0] at s0
    have s1:l.drop 1=(l.drop 1).take 1++l.drop 2:=cutL 1 1
    rw [e1] at s1
    have s2:l.drop 2=(l.drop 2).take 1++l.drop 3:=cutL 2 1
    rw [e2] at s2
    have sz:l.drop 3=[]:=List.drop_of_length_le (by omega)
    refine ⟨⟨n0,n1,n2⟩,z1,z2,?_,a1,a2,b1,b2⟩
    rw [s,s0,s1,s2,sz]
    rfl
theorem ints_ok {H:Type} {enc:TypeId × Value→H} {W:World} {fuel:Nat} {v:Value} {x:DataW H × List MemPlace}
    (hf:DataW.trod enc Tryz.prog W 0 (fun _=>true) true fuel 22 [v]=some x) (hs:∀ n∈x.1.weights Tryz.prog 22,n≤reachBytes):∃ (s:Sl) (zs:List Int),v=s.v∧RdI W s zs∧s.l≤17592186043904:=by
  rcases open_ints U22 U3 (by kernel_rfl) hf with ⟨hcs,_⟩ | ⟨ad,l,c,zs,hcs,hq,hl,hm,hz,hx,hcell,hwz⟩
  · simp at hcs
    exact ⟨slZ,[],hcs,⟨Nums.nil _ _ _,rfl⟩,by show 0≤_;omega⟩
  · simp at hcs
    have hz':zs.length=c:=by simpa using hz
    have hb:l≤17592186043904:=by
      have:=hs ((l+(zs.length - l)) * Tryz.prog.bytesOf 3) (by
        rw [hx];simp only[DataW.weights,U22]
        refine List.mem_cons.2 (.inl ?_)
        simp only[lits,List.length_map,List.length_take,List.length_drop]
        rw [Nat.min_eq_left (by omega)])
      rw [show Tryz.prog.bytesOf 3=8 by kernel_rfl] at this
      simp only[reachBytes] at this
      omega
    refine ⟨⟨some ad,l,c⟩,zs.take l,hcs,⟨?_,by simp;omega⟩,hb⟩
    intro i hi
    simp only[List.length_take] at hi
    obtain ⟨b,off,rfl,hc⟩:=ints_at hcell (by omega)
    refine ⟨b,off,rfl,?_⟩
    rw [List.getElem?_take,if_pos (by omega),hc i (by omega)]
    simp
theorem Tryz.cells22:Tryz.prog.cellsOf 22=1:=by kernel_rfl
theorem Tryz.cells24:Tryz.prog.cellsOf 24=6:=by kernel_rfl
set_option maxRecDepth 100000 in
theorem cfg_ok {H:Type} {enc:TypeId × Value→H} {W:World} {fuel:Nat} {l:List Value} {x:DataW H × List MemPlace}
    (hf:DataW.trod enc Tryz.prog W 0 (fun _=>true) true fuel 24 l=some x) (hs:∀ n∈x.1.weights Tryz.prog 24,n≤reachBytes):∃ (c:Cg) (zs:List Int),l=c.cs∧CgIn W c zs:=by
  obtain ⟨xs,n,_,rfl,hl,hlen,hfs⟩:=DataW.trod_struct U24 hf
  rw [Tryz.cells24] at hl
  have hlen:xs.length=6:=hlen
  match xs,hlen,hfs,hs with
  | [y0,y1,y2,y3,y4,y5],_,hfs,hs=>
    have h0:DataW.trod enc Tryz.prog W 0 (fun _=>true) true n 22 ((l.drop 0).take (Tryz.prog.cellsOf 22))=some y0:=hfs 0 _ rfl
    rw [Tryz.cells22] at h0
    obtain ⟨c0,hc0⟩:∃ c,(l.drop 0).take 1=[c]:=List.length_eq_one_iff.1 (by rw [List.length_take,List.length_drop];omega)
    rw [hc0] at h0
    obtain ⟨n0,z0,u0,a0,b0⟩:=ints_ok h0 (fun w hw=>hs w (by
      simp only[DataW.weights,U24]
      exact DataW.weights_mem_each (j:=0) (t:=22) (d:=y0.1) (by kernel_rfl) rfl w hw))
    have e0:(l.drop 0).take 1=[n0.v]:=by rw [hc0,u0]
    have h1:DataW.trod enc Tryz.prog W 0 (fun _=>true) true n 3 ((l.drop 1).take (Tryz.prog.cellsOf 3))=some y1:=hfs 1 _ rfl
    have h2:DataW.trod enc Tryz.prog W 0 (fun _=>true) true n 3 ((l.drop 2).take (Tryz.prog.cellsOf 3))=some y2:=hfs 2 _ rfl
    have h3:DataW.trod enc Tryz.prog W 0 (fun _=>true) true n 3 ((l.drop 3).take (Tryz.prog.cellsOf 3))=some y3:=hfs 3 _ rfl
    have h4:DataW.trod enc Tryz.prog W 0 (fun _=>true) true n 3 ((l.drop 4).take (Tryz.prog.cellsOf 3))=some y4:=hfs 4 _ rfl
    have h5:DataW.trod enc Tryz.prog W 0 (fun _=>true) true n 3 ((l.drop 5).take (Tryz.prog.cellsOf 3))=some y5:=hfs 5 _ rfl
    rw [Tryz.cells3] at h1 h2 h3 h4 h5
    obtain ⟨n1,e1,_,_⟩:=DataW.trod_int Tryz.und3 h1
    obtain ⟨n2,e2,_,_⟩:=DataW.trod_int Tryz.und3 h2
    obtain ⟨n3,e3,_,_⟩:=DataW.trod_int Tryz.und3 h3
    obtain ⟨n4,e4,_,_⟩:=DataW.trod_int Tryz.und3 h4
    obtain ⟨n5,e5,_,_⟩:=DataW.trod_int Tryz.und3 h5
    have s:l=l.drop 0:=rfl
    have s0:l.drop 0=(l.drop 0).take 1++l.drop 1:=cutL 0 1
    rw [e0] at s0
    have s1:l.drop 1=(l.drop 1).take 1++l.drop 2:=cutL 1 1
    rw [e1] at s1
    have s2:l.drop 2=(l.drop 2).take 1++l.drop 3:=cutL 2 1
    rw [e2] at s2
    have s3:l.drop 3=(l.drop 3).take 1++l.drop 4:=cutL 3 1
    rw [e3] at s3
    have s4:l.drop 4=(l.drop 4).take 1++l.drop 5:=cutL 4 1
    rw [e4] at s4
    have s5:l.drop 5=(l.drop 5).take 1++l.drop 6:=cutL 5 1
    rw [e5] at s5
    have sz:l.drop 6=[]:=List.drop_of_length_le (by omega)
    refine ⟨⟨n0,n1,n2,n3,n4,n5⟩,z0,?_,a0,b0⟩
    rw [s,s0,s1,s2,s3,s4,s5,sz]
    rfl
theorem weights_all {H:Type} {P:Program} {e:TypeId}:∀ {ds:List (DataW H)} {d:DataW H},d∈ds→∀ n∈d.weights P e,n∈DataW.weightsAll P e ds
  | d0 :: r,d,hd,n,hn=>by
    rw [DataW.weightsAll,List.mem_append]
    rcases List.mem_cons.1 hd with rfl | h
    · exact .inl hn
    · exact .inr (weights_all h n hn)
theorem rows_ok {H:Type} {enc:TypeId × Value→H} {W:World} {α:Type} [Inhabited α] (cs:α→List Value) (c by':Nat) (T E:TypeId) (hU:Tryz.prog.underlying T=some (.slice E)) (hc:Tryz.prog.cellsOf E=c) (hby:Tryz.prog.bytesOf E=by') (h0:0 < c) (hlen:∀ a,(cs a).length=c) (P:α→Prop)
    (hel:∀ (fuel:Nat) (l:List Value) (x:DataW H × List MemPlace),DataW.trod enc Tryz.prog W 0 (fun _=>true) true fuel E l=some x→(∀ n∈x.1.weights Tryz.prog E,n≤reachBytes)→∃ a,l=cs a∧P a)
    {fuel:Nat} {v:Value} {x:DataW H × List MemPlace} (hf:DataW.trod enc Tryz.prog W 0 (fun _=>true) true fuel T [v]=some x) (hs:∀ n∈x.1.weights Tryz.prog T,n≤reachBytes) :
    ∃ (s:Sl) (xs:List α),v=s.v∧RowsAt c W s.a (xs.map cs)∧xs.length=s.l∧(∀ i,i < s.l→P (xs[i]?.getD default))∧s.l*by'≤140737488351232:=by
  rcases Go.Deep.open_slice hU hf with ⟨hcs,_⟩ | ⟨ad,l,cp,m,n,D,PP,hcs,hq,hl,hm,hmm,hx,hel2⟩
  · simp at hcs
    exact ⟨slZ,[],hcs,RowsAt.nil _ _ _,rfl,fun i hi=>absurd hi (Nat.not_lt_zero _),by show 0*by'≤_;omega⟩
  · simp at hcs
    simp only[if_true] at hmm
    subst hmm
    have hb:l*by'≤140737488351232:=by
      have h1:=hs _ (by rw [hx];simp only[DataW.weights,hU];exact List.mem_cons_self ..)
      rw [hby] at h1
      simp [reachBytes] at h1
      rw [show l+(m - l)=m by omega] at h1
      exact Nat.le_trans (Nat.mul_le_mul_right _ hl) h1
    rw [hc] at hel2
    have key:∀ i,i < l→∃ it:α,W.cells? 0 (ad.add (i*c)) c=some (cs it)∧P it:=by
      intro i hi
      obtain ⟨cs',hc',htr⟩:=hel2 i (by omega)
      obtain ⟨it,rfl,hp⟩:=hel _ _ _ htr (fun n hn=>hs n (by
        rw [hx];simp only[DataW.weights,hU]
        refine List.mem_cons_of_mem _ (List.mem_append.2 (.inl (weights_all (d:=D i) ?_ n hn)))
        exact List.mem_map.2 ⟨i,List.mem_range.2 hi,rfl⟩))
      exact ⟨it,hc',hp⟩
    obtain ⟨f,hfm⟩:=Go.Deep.choose_lt key
    refine ⟨⟨some ad,l,m⟩,(List.range l).map f,hcs,?_,by simp,?_,hb⟩
    · intro i it hit
      have hi:i < l:=by have:=(List.getElem?_eq_some_iff.1 hit).1;simpa using this
      have e:cs (f i)=it:=by simpa [hi] using hit
      obtain ⟨hc',_⟩:=hfm i hi
      have hcs:=(World.cells?_some hc').2.2
      obtain ⟨b,off,spot⟩:=ad
      have hspot:spot=none:=by
        have h00:=(World.cells?_some (hfm 0 (by omega)).1).2.2 0 h0
        rw [List.getElem?_eq_getElem (show 0 < (cs (f 0)).length by rw [hlen];exact h0)] at h00
        have:=World.cell?_spot h00
        simpa [Addr.add] using this
      subst hspot
      refine ⟨b,off,rfl,fun j u hu=>?_⟩
      rw [← e] at hu
      have hj:j < c:=by have:=(List.getElem?_eq_some_iff.1 hu).1;rw [hlen] at this;exact this
      have h:=hcs j hj
      rw [hu,Go.Deep.add_add,addr_add] at h
      rw [show off+i*c+j=off+(i*c+j) by omega]
      exact h
    · intro i hi
      have hi:i < l:=hi
      rw [List.getElem?_map,List.getElem?_range hi]
      exact (hfm i hi).2
end Go.Proofs.YtgdnofacgfjaeabGreat.Md
