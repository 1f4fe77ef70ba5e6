import Derived.Test.YtgdnofacgfjaeaaGreatJb
import Derived.Test.YtgdnofacgfjaeaaGreatLa
import Derived.Test.YtgdnofacgfjaeaaGreatOd
namespace Go.Proofs.YtgdnofacgfjaeaaGreat.Md
open Go.RowKit
set_option linter.unusedVariables false
set_option linter.unusedSimpArgs false
theorem its2 {m:Mg} (bs:List Int) (es:List En) (ls:List La) (cs:List Cm) (hk:m.k=2):((((((([It.n m.k]++[It.n (bif m.fr.cl then 1 else 0),It.n m.fr.id])++[It.n (bif m.too.cl then 1 else 0),It.n m.too.id])++[It.n m.op])++[It.n m.rd])++[It.n m.ky.k,It.n m.ky.a,It.n m.ky.b,It.n m.ky.c])++[It.n m.st.n,It.n m.st.c])++[It.b bs])=msgIts m bs es ls cs:=by
  have hf:fieldsK 2=[0,2]:=by decide
  unfold msgIts hdIts;rw [hk,hf]
  simp [fl,List.range_succ,fldIts]
theorem its11 {m:Mg} (bs:List Int) (es:List En) (ls:List La) (cs:List Cm) (hk:m.k=11):((((((([It.n m.k]++[It.n (bif m.fr.cl then 1 else 0),It.n m.fr.id])++[It.n (bif m.too.cl then 1 else 0),It.n m.too.id])++[It.n m.op])++[It.n m.rd])++[It.n m.ky.k,It.n m.ky.a,It.n m.ky.b,It.n m.ky.c])++[It.n m.st.n,It.n m.st.c])++[It.b bs])=msgIts m bs es ls cs:=by
  have hf:fieldsK 11=[0,2]:=by decide
  unfold msgIts hdIts;rw [hk,hf]
  simp [fl,List.range_succ,fldIts]
theorem its22 {m:Mg} (bs:List Int) (es:List En) (ls:List La) (cs:List Cm) (hk:m.k=22):((((((((((([It.n m.k]++[It.n (bif m.fr.cl then 1 else 0),It.n m.fr.id])++[It.n (bif m.too.cl then 1 else 0),It.n m.too.id])++[It.n m.op])++[It.n m.rd])++[It.n m.ky.k,It.n m.ky.a,It.n m.ky.b,It.n m.ky.c])++[It.n m.st.n,It.n m.st.c])++[It.b bs])++bktIts m.bk es ls)++[It.n ((m.cm.l:Nat):Int)])++fl (fun j=>cmdIts (cAt cs j)) m.cm.l)++[It.n (bif m.mo then 1 else 0)])=msgIts m bs es ls cs:=by
  have hf:fieldsK 22=[0,2,4,5,6]:=by decide
  unfold msgIts hdIts;rw [hk,hf]
  simp [fl,List.range_succ,fldIts]
theorem its3 {m:Mg} (bs:List Int) (es:List En) (ls:List La) (cs:List Cm) (hk:m.k=3):(((((([It.n m.k]++[It.n (bif m.fr.cl then 1 else 0),It.n m.fr.id])++[It.n (bif m.too.cl then 1 else 0),It.n m.too.id])++[It.n m.op])++[It.n m.rd])++[It.n m.ky.k,It.n m.ky.a,It.n m.ky.b,It.n m.ky.c])++[It.n m.st.n,It.n m.st.c])=msgIts m bs es ls cs:=by
  have hf:fieldsK 3=[0]:=by decide
  unfold msgIts hdIts;rw [hk,hf]
  simp [fl,List.range_succ,fldIts]
theorem its4 {m:Mg} (bs:List Int) (es:List En) (ls:List La) (cs:List Cm) (hk:m.k=4):((((((([It.n m.k]++[It.n (bif m.fr.cl then 1 else 0),It.n m.fr.id])++[It.n (bif m.too.cl then 1 else 0),It.n m.too.id])++[It.n m.op])++[It.n m.rd])++[It.n m.ky.k,It.n m.ky.a,It.n m.ky.b,It.n m.ky.c])++[It.n m.st.n,It.n m.st.c])++cmdIts m.c)=msgIts m bs es ls cs:=by
  have hf:fieldsK 4=[0,3]:=by decide
  unfold msgIts hdIts;rw [hk,hf]
  simp [fl,List.range_succ,fldIts]
theorem its13 {m:Mg} (bs:List Int) (es:List En) (ls:List La) (cs:List Cm) (hk:m.k=13):(((((((([It.n m.k]++[It.n (bif m.fr.cl then 1 else 0),It.n m.fr.id])++[It.n (bif m.too.cl then 1 else 0),It.n m.too.id])++[It.n m.op])++[It.n m.rd])++[It.n m.ky.k,It.n m.ky.a,It.n m.ky.b,It.n m.ky.c])++[It.n m.st.n,It.n m.st.c])++[It.n m.hd.n,It.n m.hd.c])++cmdIts m.c)=msgIts m bs es ls cs:=by
  have hf:fieldsK 13=[0,1,3]:=by decide
  unfold msgIts hdIts;rw [hk,hf]
  simp [fl,List.range_succ,fldIts]
theorem its14 {m:Mg} (bs:List Int) (es:List En) (ls:List La) (cs:List Cm) (hk:m.k=14):(((((([It.n m.k]++[It.n (bif m.fr.cl then 1 else 0),It.n m.fr.id])++[It.n (bif m.too.cl then 1 else 0),It.n m.too.id])++[It.n m.op])++[It.n m.rd])++[It.n m.ky.k,It.n m.ky.a,It.n m.ky.b,It.n m.ky.c])++[It.n m.st.n,It.n m.st.c])=msgIts m bs es ls cs:=by
  have hf:fieldsK 14=[0]:=by decide
  unfold msgIts hdIts;rw [hk,hf]
  simp [fl,List.range_succ,fldIts]
theorem its15 {m:Mg} (bs:List Int) (es:List En) (ls:List La) (cs:List Cm) (hk:m.k=15):(((((([It.n m.k]++[It.n (bif m.fr.cl then 1 else 0),It.n m.fr.id])++[It.n (bif m.too.cl then 1 else 0),It.n m.too.id])++[It.n m.op])++[It.n m.rd])++[It.n m.ky.k,It.n m.ky.a,It.n m.ky.b,It.n m.ky.c])++[It.n m.st.n,It.n m.st.c])=msgIts m bs es ls cs:=by
  have hf:fieldsK 15=[0]:=by decide
  unfold msgIts hdIts;rw [hk,hf]
  simp [fl,List.range_succ,fldIts]
theorem its21 {m:Mg} (bs:List Int) (es:List En) (ls:List La) (cs:List Cm) (hk:m.k=21):(((((([It.n m.k]++[It.n (bif m.fr.cl then 1 else 0),It.n m.fr.id])++[It.n (bif m.too.cl then 1 else 0),It.n m.too.id])++[It.n m.op])++[It.n m.rd])++[It.n m.ky.k,It.n m.ky.a,It.n m.ky.b,It.n m.ky.c])++[It.n m.st.n,It.n m.st.c])=msgIts m bs es ls cs:=by
  have hf:fieldsK 21=[0]:=by decide
  unfold msgIts hdIts;rw [hk,hf]
  simp [fl,List.range_succ,fldIts]
theorem its5 {m:Mg} (bs:List Int) (es:List En) (ls:List La) (cs:List Cm) (hk:m.k=5):(((((([It.n m.k]++[It.n (bif m.fr.cl then 1 else 0),It.n m.fr.id])++[It.n (bif m.too.cl then 1 else 0),It.n m.too.id])++[It.n m.op])++[It.n m.rd])++[It.n m.ky.k,It.n m.ky.a,It.n m.ky.b,It.n m.ky.c])++cmdIts m.c)=msgIts m bs es ls cs:=by
  have hf:fieldsK 5=[3]:=by decide
  unfold msgIts hdIts;rw [hk,hf]
  simp [fl,List.range_succ,fldIts]
theorem its16 {m:Mg} (bs:List Int) (es:List En) (ls:List La) (cs:List Cm) (hk:m.k=16):(((((([It.n m.k]++[It.n (bif m.fr.cl then 1 else 0),It.n m.fr.id])++[It.n (bif m.too.cl then 1 else 0),It.n m.too.id])++[It.n m.op])++[It.n m.rd])++[It.n m.ky.k,It.n m.ky.a,It.n m.ky.b,It.n m.ky.c])++cmdIts m.c)=msgIts m bs es ls cs:=by
  have hf:fieldsK 16=[3]:=by decide
  unfold msgIts hdIts;rw [hk,hf]
  simp [fl,List.range_succ,fldIts]
theorem its17 {m:Mg} (bs:List Int) (es:List En) (ls:List La) (cs:List Cm) (hk:m.k=17):(((((([It.n m.k]++[It.n (bif m.fr.cl then 1 else 0),It.n m.fr.id])++[It.n (bif m.too.cl then 1 else 0),It.n m.too.id])++[It.n m.op])++[It.n m.rd])++[It.n m.ky.k,It.n m.ky.a,It.n m.ky.b,It.n m.ky.c])++bktIts m.bk es ls)=msgIts m bs es ls cs:=by
  have hf:fieldsK 17=[4]:=by decide
  unfold msgIts hdIts;rw [hk,hf]
  simp [fl,List.range_succ,fldIts]
theorem itsN {m:Mg} (bs:List Int) (es:List En) (ls:List La) (cs:List Cm) (k2:(m.k==2)=false) (k11:(m.k==11)=false) (k22:(m.k==22)=false) (k3:(m.k==3)=false) (k4:(m.k==4)=false) (k13:(m.k==13)=false) (k14:(m.k==14)=false) (k15:(m.k==15)=false) (k21:(m.k==21)=false) (k5:(m.k==5)=false) (k16:(m.k==16)=false) (k17:(m.k==17)=false):((((([It.n m.k]++[It.n (bif m.fr.cl then 1 else 0),It.n m.fr.id])++[It.n (bif m.too.cl then 1 else 0),It.n m.too.id])++[It.n m.op])++[It.n m.rd])++[It.n m.ky.k,It.n m.ky.a,It.n m.ky.b,It.n m.ky.c])=msgIts m bs es ls cs:=by
  have hf:fieldsK m.k=[]:=by
    unfold fieldsK;simp only[beq_eq_false_iff_ne] at k2 k11 k22 k3 k4 k13 k14 k15 k21 k5 k16 k17
    simp [*]
  unfold msgIts hdIts;rw [hf]
  simp [fl]
section
variable {base g:Nat} {T:List It} {ok:∀ x∈T,itOk x} {len:itsLen T≤131072}
set_option maxRecDepth 100000 in
set_option maxHeartbeats 4000000 in
theorem r_put (m:Mg) (bs:List Int) (es:List En) (ls:List La) (cs:List Cm) (w:World) (a:Option Addr) (L:List It) (h:(rSink base g T ok len).St w a L) (hp:L++msgIts m bs es ls cs <+: T) (h1:RdB w m.bl bs) (h2:RdE w m.bk.e es) (h3:RdL w m.bk.l ls) (h4:RdC w m.cm cs) (l1:Low base m.bl) (l2:Low base m.bk.e) (l3:Low base m.bk.l) (l4:Low base m.cm) (hne:m.bk.e.l≤281474976710656) (hnl:m.bk.l.l≤281474976710656) (hnc:m.cm.l≤281474976710656):Calls Tryz.prog 54 #[.pointer (some ⟨g,0,none⟩),.agg (Mg.cells m)] w ((rSink base g T ok len).Put w a (L++msgIts m bs es ls cs)):=by
  refine hidC fun C HC=>?_;have HP:Hid (L++msgIts m bs es ls cs <+: T):=hp;have HF:Hid (Kf (rSink base g T ok len) w w a (L++[]) []):=Kf.start h;have HBS:Hid (∀ k,(rSink base g T ok len).Wr a k→base≤k):=fun k hk=>r_base h hk;clear hp h;have HRB:Hid (RdB w m.bl bs):=h1;have HRE:Hid (RdE w m.bk.e es):=h2;have HRL:Hid (RdL w m.bk.l ls):=h3;have HRC:Hid (RdC w m.cm cs):=h4;have HLB:Hid (Low base m.bl):=l1;have HLE:Hid (Low base m.bk.e):=l2;have HLL:Hid (Low base m.bk.l):=l3;have HLC:Hid (Low base m.cm):=l4;clear h1 h2 h3 h4 l1 l2 l3 l4;go_enter Tryz.func54,Tryz.ntmps54;go_upto_region 0 with fail;refine Sg<|kB (Mg.cells m) HF (rT (t:=45)) fun g1 w2 HF=>?_;(try simp only[pS]);have HF:Hid (Kf (rSink base g T ok len) w w2 a (L++[]) [(g1,45,Mg.cells m)]):=HF;refine Nl ?_;(try simp only[pS]);go_upto_region 1 with fail;refine Sg<|tK (pg g 0)<|tK (pg g1 0)<|kD (.int .i64 m.k) HF 0 0 U3 rfl<|kC ([It.n m.k]) HF (fun a0 h0=>r_num m.k _ a0 _ h0 (pfx0 HP (pl (B:=hdIts m) ⟨_,rfl⟩))) fun w3 HF=>?_;simp only[pS];have HF:Hid (Kf (rSink base g T ok len) w w3 a (L++[It.n m.k]) [(g1,45,Mg.cells m)]):=HF;refine Nl ?_;(try simp only[pS]);go_upto_region 2 with fail;refine Sg<|tK (pg g 0)<|tK (pg g1 1)<|kP (Ad.cs m.fr) HF 0 1 U30 S30 (Mg.cs m) rfl<|kC ([It.n (bif m.fr.cl then 1 else 0),It.n m.fr.id]) HF (fun a0 h0=>r_addr m.fr _ a0 _ h0 (pfx HP (pl (B:=hdIts m) ⟨_,rfl⟩))) fun w4 HF=>Nl ?_;simp only[pS];go_upto_region 3 with fail;refine Sg<|tK (pg g 0)<|tK (pg g1 3)<|kP (Ad.cs m.too) HF 0 3 U30 S30 (Mg.cs m) rfl<|kC ([It.n (bif m.too.cl then 1 else 0),It.n m.too.id]) HF (fun a0 h0=>r_addr m.too _ a0 _ h0 (pfx HP (pl (B:=hdIts m) ⟨_,rfl⟩))) fun w5 HF=>Nl ?_;simp only[pS];go_upto_region 4 with fail;refine Sg<|tK (pg g 0)<|tK (pg g1 5)<|kD (.int .i64 m.op) HF 0 5 U3 rfl<|kC ([It.n m.op]) HF (fun a0 h0=>r_num m.op _ a0 _ h0 (pfx HP (pl (B:=hdIts m) ⟨_,rfl⟩))) fun w6 HF=>Nl ?_;simp only[pS];go_upto_region 5 with fail;refine Sg<|tK (pg g 0)<|tK (pg g1 6)<|kD (.int .i64 m.rd) HF 0 6 U3 rfl<|kC ([It.n m.rd]) HF (fun a0 h0=>r_num m.rd _ a0 _ h0 (pfx HP (pl (B:=hdIts m) ⟨_,rfl⟩))) fun w7 HF=>Nl ?_;simp only[pS];go_upto_region 6 with fail;refine Sg<|tK (pg g 0)<|tK (pg g1 7)<|kP (Ky.cs m.ky) HF 0 7 U32 S32 (Mg.cs m) rfl<|kC ([It.n m.ky.k,It.n m.ky.a,It.n m.ky.b,It.n m.ky.c]) HF (fun a0 h0=>r_key m.ky _ a0 _ h0 (pfx HP (pl (B:=hdIts m) ⟨_,rfl⟩))) fun w8 HF=>Nl ?_;simp only[pS];go_upto_region 7 with fail;refine Sg<|tK (pg g1 0)<|kD (.int .i64 m.k) HF 0 0 U3 rfl<|Nl ?_;simp only[pS];go_upto_region 8 with fail;refine Sg<|?_;cases q1:(m.k==2);rotate_left
  ·refine bN (eI q1)<|tU<|Nl ?_;simp only[pS];go_upto_region 11 with fail;refine Sg<|tK (pg g 0)<|tK (pg g1 11)<|kP (Sp.cs m.st) HF 0 11 U34 S34 (Mg.cs m) rfl<|?_;simp only[pS];rw [← its2 bs es ls cs (eq_of_beq q1)] at HP HC;refine kC ([It.n m.st.n,It.n m.st.c]) HF (fun a0 h0=>r_stamp m.st _ a0 _ h0 (pfx HP (by repeat (first | with_reducible exact List.prefix_rfl | apply pl)))) fun w29 HF=>Nl ?_;(try simp only[pS]);go_upto_region 12 with fail;refine Sg<|tK (pg g 0)<|tK (pg g1 15)<|kD (m.bl.v) HF 0 15 U35 rfl<|kC ([It.b bs]) HF (fun a0 h0=>r_bytes m.bl bs _ a0 _ h0 (pfx HP (by repeat (first | with_reducible exact List.prefix_rfl | apply pl))) (RdB.keptL HRB.out HF.out.kept (fun h0 k hk e=>by have:=HBS.out k e;have:=HLB.out h0 k hk;omega)) (fun h0 k hk=>.inl (HLB.out h0 k hk))) fun w30 HF=>Nl ?_;simp only[pS];go_upto_region 20 with fail;refine Sg<|tK (pg g1 0)<|kD (.int .i64 m.k) HF 0 0 U3 rfl<|Nl ?_;simp only[pS];go_upto_region 21 with fail;refine Sg<|?_;have q39:(m.k==13)=false:=by rw [eq_of_beq q1];rfl
   refine bN (eI q39)<|tF<|Nl ?_;simp only[pS];go_upto_region 24 with fail;refine Sg<|?_;have q40:(m.k==4)=false:=by rw [eq_of_beq q1];rfl
   refine bN (eI q40)<|tF<|Nl ?_;simp only[pS];go_upto_region 25 with fail;refine Sg<|?_;have q41:(m.k==5)=false:=by rw [eq_of_beq q1];rfl
   refine bN (eI q41)<|tF<|Nl ?_;simp only[pS];go_upto_region 26 with fail;refine Sg<|?_;have q42:(m.k==16)=false:=by rw [eq_of_beq q1];rfl
   refine bN (eI q42)<|tF<|Nl ?_;simp only[pS];go_upto_region 28 with fail;refine Sg<|?_;have q43:(m.k==17)=false:=by rw [eq_of_beq q1];rfl
   refine bN (eI q43)<|tF<|Nl ?_;simp only[pS];go_upto_region 30 with fail;refine Sg<|?_;have q44:(m.k==22)=false:=by rw [eq_of_beq q1];rfl
   refine bN (eI q44)<|tF<|Nl ?_;simp only[pS];go_wp2;rw [HC.out];go_end0;exact HF.out.put
  refine bN (eI q1)<|tF<|Nl ?_;simp only[pS];go_upto_region 9 with fail;refine Sg<|?_;cases q2:(m.k==11);rotate_left
  ·refine bN (eI q2)<|tU<|Nl ?_;simp only[pS];go_upto_region 11 with fail;refine Sg<|tK (pg g 0)<|tK (pg g1 11)<|kP (Sp.cs m.st) HF 0 11 U34 S34 (Mg.cs m) rfl<|?_;simp only[pS];rw [← its11 bs es ls cs (eq_of_beq q2)] at HP HC;refine kC ([It.n m.st.n,It.n m.st.c]) HF (fun a0 h0=>r_stamp m.st _ a0 _ h0 (pfx HP (by repeat (first | with_reducible exact List.prefix_rfl | apply pl)))) fun w27 HF=>Nl ?_;(try simp only[pS]);go_upto_region 12 with fail;refine Sg<|tK (pg g 0)<|tK (pg g1 15)<|kD (m.bl.v) HF 0 15 U35 rfl<|kC ([It.b bs]) HF (fun a0 h0=>r_bytes m.bl bs _ a0 _ h0 (pfx HP (by repeat (first | with_reducible exact List.prefix_rfl | apply pl))) (RdB.keptL HRB.out HF.out.kept (fun h0 k hk e=>by have:=HBS.out k e;have:=HLB.out h0 k hk;omega)) (fun h0 k hk=>.inl (HLB.out h0 k hk))) fun w28 HF=>Nl ?_;simp only[pS];go_upto_region 20 with fail;refine Sg<|tK (pg g1 0)<|kD (.int .i64 m.k) HF 0 0 U3 rfl<|Nl ?_;simp only[pS];go_upto_region 21 with fail;refine Sg<|?_;have q33:(m.k==13)=false:=by rw [eq_of_beq q2];rfl
   refine bN (eI q33)<|tF<|Nl ?_;simp only[pS];go_upto_region 24 with fail;refine Sg<|?_;have q34:(m.k==4)=false:=by rw [eq_of_beq q2];rfl
   refine bN (eI q34)<|tF<|Nl ?_;simp only[pS];go_upto_region 25 with fail;refine Sg<|?_;have q35:(m.k==5)=false:=by rw [eq_of_beq q2];rfl
   refine bN (eI q35)<|tF<|Nl ?_;simp only[pS];go_upto_region 26 with fail;refine Sg<|?_;have q36:(m.k==16)=false:=by rw [eq_of_beq q2];rfl
   refine bN (eI q36)<|tF<|Nl ?_;simp only[pS];go_upto_region 28 with fail;refine Sg<|?_;have q37:(m.k==17)=false:=by rw [eq_of_beq q2];rfl
   refine bN (eI q37)<|tF<|Nl ?_;simp only[pS];go_upto_region 30 with fail;refine Sg<|?_;have q38:(m.k==22)=false:=by rw [eq_of_beq q2];rfl
   refine bN (eI q38)<|tF<|Nl ?_;simp only[pS];go_wp2;rw [HC.out];go_end0;exact HF.out.put
  refine bN (eI q2)<|tF<|Nl ?_;simp only[pS];go_upto_region 10 with fail;refine Sg<|?_;cases q3:(m.k==22);rotate_left
  ·refine bN (eI q3)<|tU<|Nl ?_;simp only[pS];go_upto_region 11 with fail;refine Sg<|tK (pg g 0)<|tK (pg g1 11)<|kP (Sp.cs m.st) HF 0 11 U34 S34 (Mg.cs m) rfl<|?_;simp only[pS];rw [← its22 bs es ls cs (eq_of_beq q3)] at HP HC;refine kC ([It.n m.st.n,It.n m.st.c]) HF (fun a0 h0=>r_stamp m.st _ a0 _ h0 (pfx HP (by repeat (first | with_reducible exact List.prefix_rfl | apply pl)))) fun w21 HF=>Nl ?_;(try simp only[pS]);go_upto_region 12 with fail;refine Sg<|tK (pg g 0)<|tK (pg g1 15)<|kD (m.bl.v) HF 0 15 U35 rfl<|kC ([It.b bs]) HF (fun a0 h0=>r_bytes m.bl bs _ a0 _ h0 (pfx HP (by repeat (first | with_reducible exact List.prefix_rfl | apply pl))) (RdB.keptL HRB.out HF.out.kept (fun h0 k hk e=>by have:=HBS.out k e;have:=HLB.out h0 k hk;omega)) (fun h0 k hk=>.inl (HLB.out h0 k hk))) fun w22 HF=>Nl ?_;simp only[pS];go_upto_region 20 with fail;refine Sg<|tK (pg g1 0)<|kD (.int .i64 m.k) HF 0 0 U3 rfl<|Nl ?_;simp only[pS];go_upto_region 21 with fail;refine Sg<|?_;have q28:(m.k==13)=false:=by rw [eq_of_beq q3];rfl
   refine bN (eI q28)<|tF<|Nl ?_;simp only[pS];go_upto_region 24 with fail;refine Sg<|?_;have q29:(m.k==4)=false:=by rw [eq_of_beq q3];rfl
   refine bN (eI q29)<|tF<|Nl ?_;simp only[pS];go_upto_region 25 with fail;refine Sg<|?_;have q30:(m.k==5)=false:=by rw [eq_of_beq q3];rfl
   refine bN (eI q30)<|tF<|Nl ?_;simp only[pS];go_upto_region 26 with fail;refine Sg<|?_;have q31:(m.k==16)=false:=by rw [eq_of_beq q3];rfl
   refine bN (eI q31)<|tF<|Nl ?_;simp only[pS];go_upto_region 28 with fail;refine Sg<|?_;have q32:(m.k==17)=false:=by rw [eq_of_beq q3];rfl
   refine bN (eI q32)<|tF<|Nl ?_;simp only[pS];go_upto_region 30 with fail;refine Sg<|bN (eI q3)<|tU<|Nl ?_;simp only[pS];go_upto_region 31 with fail;refine Sg<|tK (pg g 0)<|tK (pg g1 25)<|kP (Bv.cs m.bk) HF 0 25 U43 S43 (Mg.cs m) rfl<|kC (bktIts m.bk es ls) HF (fun a0 h0=>r_bucket m.bk es ls _ a0 _ h0 (pfx HP (by repeat (first | with_reducible exact List.prefix_rfl | apply pl))) (RdE.keptL HRE.out HF.out.kept (fun h0 k hk e=>by have:=HBS.out k e;have:=HLE.out h0 k hk;omega)) (RdL.keptL HRL.out HF.out.kept (fun h0 k hk e=>by have:=HBS.out k e;have:=HLL.out h0 k hk;omega)) HLE.out HLL.out hne hnl) fun w23 HF=>Nl ?_;simp only[pS];go_upto_region 32 with fail;refine Sg<|tK (pg g 0)<|tK (pg g1 28)<|kD (m.cm.v) HF 0 28 U26 rfl<|tK (.int .i64 ((m.cm.l:Nat):Int))<|kC ([It.n ((m.cm.l:Nat):Int)]) HF (fun a0 h0=>r_num ((m.cm.l:Nat):Int) _ a0 _ h0 (pfx HP (by repeat (first | with_reducible exact List.prefix_rfl | apply pl)))) fun w24 HF=>Nl ?_;simp only[pS];go_upto_region 33 with fail;refine Sg<|tK (.int .i64 0)<|Nl ?_;simp only[pS];go_wp2
   go_loopw [4] (fun v4 wr=>∃ i:Nat,v4=.int .i64 ((i:Nat):Int)∧i≤m.cm.l∧Hid (Kf (rSink base g T ok len) w wr a (L++(((((((((([It.n m.k]++[It.n (bif m.fr.cl then 1 else 0),It.n m.fr.id])++[It.n (bif m.too.cl then 1 else 0),It.n m.too.id])++[It.n m.op])++[It.n m.rd])++[It.n m.ky.k,It.n m.ky.a,It.n m.ky.b,It.n m.ky.c])++[It.n m.st.n,It.n m.st.c])++[It.b bs])++bktIts m.bk es ls)++[It.n ((m.cm.l:Nat):Int)])++fl (fun j=>cmdIts (cAt cs j)) i)) [(g1,45,Mg.cells m)])) (fun v4 _=>m.cm.l - (intOf v4).toNat)
   case atStart=>exact ⟨0,by go_num,by omega,(by rw [fl0];rw [List.append_nil];exact HF)⟩
   case round=>
     clear HF;obtain ⟨i,rfl,hi,HF⟩:=hrel
     by_cases hlt:i < m.cm.l
     ·have HP:Hid ((L++(((((((((([It.n m.k]++[It.n (bif m.fr.cl then 1 else 0),It.n m.fr.id])++[It.n (bif m.too.cl then 1 else 0),It.n m.too.id])++[It.n m.op])++[It.n m.rd])++[It.n m.ky.k,It.n m.ky.a,It.n m.ky.b,It.n m.ky.c])++[It.n m.st.n,It.n m.st.c])++[It.b bs])++bktIts m.bk es ls)++[It.n ((m.cm.l:Nat):Int)])++fl (fun j=>cmdIts (cAt cs j)) i))++cmdIts (cAt cs i) <+: T):=pin HP (fl_pre (fun j=>cmdIts (cAt cs j)) hlt) (by repeat (first | with_reducible exact List.prefix_rfl | apply pl));have HF:Hid (Kf (rSink base g T ok len) w wr a ((L++(((((((((([It.n m.k]++[It.n (bif m.fr.cl then 1 else 0),It.n m.fr.id])++[It.n (bif m.too.cl then 1 else 0),It.n m.too.id])++[It.n m.op])++[It.n m.rd])++[It.n m.ky.k,It.n m.ky.a,It.n m.ky.b,It.n m.ky.c])++[It.n m.st.n,It.n m.st.c])++[It.b bs])++bktIts m.bk es ls)++[It.n ((m.cm.l:Nat):Int)])++fl (fun j=>cmdIts (cAt cs j)) i))++[]) [(g1,45,Mg.cells m)]):=by rw [List.append_nil];exact HF
      obtain ⟨b,off,hsl,hc⟩:=RdC.at' HRC.out (i:=i) (by omega);have hnb:¬ (rSink base g T ok len).Wr a b:=fun e=>by have:=HBS.out b e;have:=HLC.out (by omega) b (at_v hsl);omega
      go_upto_region 34 with fail;refine Sg<|tK (.int .i64 ((i:Nat):Int))<|tK (pg g1 28)<|kD (m.cm.v) HF 0 28 U26 rfl<|tK (.int .i64 ((m.cm.l:Nat):Int))<|bN (lI (a:=((i:Nat):Int)) (b:=((m.cm.l:Nat):Int)) (decide_eq_true (by omega)))<|Nl ?_;simp only[pS];go_upto_region 36 with fail;refine Sg<|tK (pg g 0)<|tK (pg g1 28)<|kD (m.cm.v) HF 0 28 U26 rfl<|tK (.int .i64 ((i:Nat):Int))<|iS (s:=m.cm) (i:=i) hsl E26 F26 (by omega)<|lR (load_Ca (fun j v h=>HF.out.kept.cell (hc j v h) hnb))<|kC (cmdIts (cAt cs i)) HF (fun a0 h0=>r_command (cAt cs i) _ a0 _ h0 (pfx0 HP (by repeat (first | with_reducible exact List.prefix_rfl | apply pl)))) fun w25 HF=>?_;simp only[pS];have HF:Hid (Kf (rSink base g T ok len) w w25 a ((L++(((((((((([It.n m.k]++[It.n (bif m.fr.cl then 1 else 0),It.n m.fr.id])++[It.n (bif m.too.cl then 1 else 0),It.n m.too.id])++[It.n m.op])++[It.n m.rd])++[It.n m.ky.k,It.n m.ky.a,It.n m.ky.b,It.n m.ky.c])++[It.n m.st.n,It.n m.st.c])++[It.b bs])++bktIts m.bk es ls)++[It.n ((m.cm.l:Nat):Int)])++fl (fun j=>cmdIts (cAt cs j)) i))++cmdIts (cAt cs i)) [(g1,45,Mg.cells m)]):=HF;refine Nl ?_;(try simp only[pS]);go_upto_region 35 with fail;refine Sg<|tK (.int .i64 ((i:Nat):Int))<|bN (v:=.int .i64 (((i+1):Nat):Int)) (b_addw ((i:Nat):Int) 1 (((i+1):Nat):Int) (by rw [IntKind.wrap_i64];omega))<|tK (.int .i64 (((i+1):Nat):Int))<|Nl ?_;simp only[pS];have HF:Hid (Kf (rSink base g T ok len) w w25 a ((L++(((((((((([It.n m.k]++[It.n (bif m.fr.cl then 1 else 0),It.n m.fr.id])++[It.n (bif m.too.cl then 1 else 0),It.n m.too.id])++[It.n m.op])++[It.n m.rd])++[It.n m.ky.k,It.n m.ky.a,It.n m.ky.b,It.n m.ky.c])++[It.n m.st.n,It.n m.st.c])++[It.b bs])++bktIts m.bk es ls)++[It.n ((m.cm.l:Nat):Int)])++fl (fun j=>cmdIts (cAt cs j)) i))++cmdIts (cAt cs i)) [(g1,45,Mg.cells m)]):=HF;go_wp2;go_roundw
      case rel=>exact ⟨i+1,by go_num,by omega,(by rw [fl_succ];have h:=HF;simp only[List.append_assoc] at h ⊢;exact h)⟩
      case measure=>simp [intOf];omega
     ·have hi2:i=m.cm.l:=by omega
      clear hlt hi;subst hi2;go_upto_region 34 with fail;refine Sg<|tK (.int .i64 ((m.cm.l:Nat):Int))<|tK (pg g1 28)<|kD (m.cm.v) HF 0 28 U26 rfl<|tK (.int .i64 ((m.cm.l:Nat):Int))<|bN (lI (a:=((m.cm.l:Nat):Int)) (b:=((m.cm.l:Nat):Int)) (decide_eq_false (by omega)))<|Nl ?_;simp only[pS];go_upto_region 37 with fail;refine Sg<|tK (pg g 0)<|tK (pg g1 29)<|kD (.bool m.mo) HF 0 29 U4 rfl<|kC ([It.n (bif m.mo then 1 else 0)]) HF (fun a0 h0=>r_flag m.mo _ a0 _ h0 (pfx HP (by repeat (first | with_reducible exact List.prefix_rfl | apply pl)))) fun w26 HF=>Nl ?_;simp only[pS];go_wp2;rw [HC.out];go_end0;exact HF.out.put
  refine bN (eI q3)<|tF<|Nl ?_;simp only[pS];go_upto_region 13 with fail;refine Sg<|?_;cases q4:(m.k==3);rotate_left
  ·refine bN (eI q4)<|tU<|Nl ?_;simp only[pS];go_upto_region 19 with fail;refine Sg<|tK (pg g 0)<|tK (pg g1 11)<|kP (Sp.cs m.st) HF 0 11 U34 S34 (Mg.cs m) rfl<|?_;simp only[pS];rw [← its3 bs es ls cs (eq_of_beq q4)] at HP HC;refine kC ([It.n m.st.n,It.n m.st.c]) HF (fun a0 h0=>r_stamp m.st _ a0 _ h0 (pfx HP (by repeat (first | with_reducible exact List.prefix_rfl | apply pl)))) fun w20 HF=>Nl ?_;(try simp only[pS]);go_upto_region 20 with fail;refine Sg<|tK (pg g1 0)<|kD (.int .i64 m.k) HF 0 0 U3 rfl<|Nl ?_;simp only[pS];go_upto_region 21 with fail;refine Sg<|?_;have q23:(m.k==13)=false:=by rw [eq_of_beq q4];rfl
   refine bN (eI q23)<|tF<|Nl ?_;simp only[pS];go_upto_region 24 with fail;refine Sg<|?_;have q24:(m.k==4)=false:=by rw [eq_of_beq q4];rfl
   refine bN (eI q24)<|tF<|Nl ?_;simp only[pS];go_upto_region 25 with fail;refine Sg<|?_;have q25:(m.k==5)=false:=by rw [eq_of_beq q4];rfl
   refine bN (eI q25)<|tF<|Nl ?_;simp only[pS];go_upto_region 26 with fail;refine Sg<|?_;have q26:(m.k==16)=false:=by rw [eq_of_beq q4];rfl
   refine bN (eI q26)<|tF<|Nl ?_;simp only[pS];go_upto_region 28 with fail;refine Sg<|?_;have q27:(m.k==17)=false:=by rw [eq_of_beq q4];rfl
   refine bN (eI q27)<|tF<|Nl ?_;simp only[pS];go_upto_region 30 with fail;refine Sg<|bN (eI q3)<|tF<|Nl ?_;simp only[pS];go_wp2;rw [HC.out];go_end0;exact HF.out.put
  refine bN (eI q4)<|tF<|Nl ?_;simp only[pS];go_upto_region 14 with fail;refine Sg<|?_;cases q5:(m.k==4);rotate_left
  ·refine bN (eI q5)<|tU<|Nl ?_;simp only[pS];go_upto_region 19 with fail;refine Sg<|tK (pg g 0)<|tK (pg g1 11)<|kP (Sp.cs m.st) HF 0 11 U34 S34 (Mg.cs m) rfl<|?_;simp only[pS];rw [← its4 bs es ls cs (eq_of_beq q5)] at HP HC;refine kC ([It.n m.st.n,It.n m.st.c]) HF (fun a0 h0=>r_stamp m.st _ a0 _ h0 (pfx HP (by repeat (first | with_reducible exact List.prefix_rfl | apply pl)))) fun w18 HF=>Nl ?_;(try simp only[pS]);go_upto_region 20 with fail;refine Sg<|tK (pg g1 0)<|kD (.int .i64 m.k) HF 0 0 U3 rfl<|Nl ?_;simp only[pS];go_upto_region 21 with fail;refine Sg<|?_;have q22:(m.k==13)=false:=by rw [eq_of_beq q5];rfl
   refine bN (eI q22)<|tF<|Nl ?_;simp only[pS];go_upto_region 24 with fail;refine Sg<|bN (eI q5)<|tU<|Nl ?_;simp only[pS];go_upto_region 27 with fail;refine Sg<|tK (pg g 0)<|tK (pg g1 16)<|kP (Cm.cs m.c) HF 0 16 U39 S39 (Mg.cs m) rfl<|kC (cmdIts m.c) HF (fun a0 h0=>r_command m.c _ a0 _ h0 (pfx HP (by repeat (first | with_reducible exact List.prefix_rfl | apply pl)))) fun w19 HF=>Nl ?_;simp only[pS];go_wp2;rw [HC.out];go_end0;exact HF.out.put
  refine bN (eI q5)<|tF<|Nl ?_;simp only[pS];go_upto_region 15 with fail;refine Sg<|?_;cases q6:(m.k==13);rotate_left
  ·refine bN (eI q6)<|tU<|Nl ?_;simp only[pS];go_upto_region 19 with fail;refine Sg<|tK (pg g 0)<|tK (pg g1 11)<|kP (Sp.cs m.st) HF 0 11 U34 S34 (Mg.cs m) rfl<|?_;simp only[pS];rw [← its13 bs es ls cs (eq_of_beq q6)] at HP HC;refine kC ([It.n m.st.n,It.n m.st.c]) HF (fun a0 h0=>r_stamp m.st _ a0 _ h0 (pfx HP (by repeat (first | with_reducible exact List.prefix_rfl | apply pl)))) fun w15 HF=>Nl ?_;(try simp only[pS]);go_upto_region 20 with fail;refine Sg<|tK (pg g1 0)<|kD (.int .i64 m.k) HF 0 0 U3 rfl<|Nl ?_;simp only[pS];go_upto_region 21 with fail;refine Sg<|bN (eI q6)<|tU<|Nl ?_;simp only[pS];go_upto_region 22 with fail;refine Sg<|tK (pg g 0)<|tK (pg g1 13)<|kP (Sp.cs m.hd) HF 0 13 U34 S34 (Mg.cs m) rfl<|kC ([It.n m.hd.n,It.n m.hd.c]) HF (fun a0 h0=>r_stamp m.hd _ a0 _ h0 (pfx HP (by repeat (first | with_reducible exact List.prefix_rfl | apply pl)))) fun w16 HF=>Nl ?_;simp only[pS];go_upto_region 23 with fail;refine Sg<|tK (pg g 0)<|tK (pg g1 16)<|kP (Cm.cs m.c) HF 0 16 U39 S39 (Mg.cs m) rfl<|kC (cmdIts m.c) HF (fun a0 h0=>r_command m.c _ a0 _ h0 (pfx HP (by repeat (first | with_reducible exact List.prefix_rfl | apply pl)))) fun w17 HF=>Nl ?_;simp only[pS];go_wp2;rw [HC.out];go_end0;exact HF.out.put
  refine bN (eI q6)<|tF<|Nl ?_;simp only[pS];go_upto_region 16 with fail;refine Sg<|?_;cases q7:(m.k==14);rotate_left
  ·refine bN (eI q7)<|tU<|Nl ?_;simp only[pS];go_upto_region 19 with fail;refine Sg<|tK (pg g 0)<|tK (pg g1 11)<|kP (Sp.cs m.st) HF 0 11 U34 S34 (Mg.cs m) rfl<|?_;simp only[pS];rw [← its14 bs es ls cs (eq_of_beq q7)] at HP HC;refine kC ([It.n m.st.n,It.n m.st.c]) HF (fun a0 h0=>r_stamp m.st _ a0 _ h0 (pfx HP (by repeat (first | with_reducible exact List.prefix_rfl | apply pl)))) fun w14 HF=>Nl ?_;(try simp only[pS]);go_upto_region 20 with fail;refine Sg<|tK (pg g1 0)<|kD (.int .i64 m.k) HF 0 0 U3 rfl<|Nl ?_;simp only[pS];go_upto_region 21 with fail;refine Sg<|bN (eI q6)<|tF<|Nl ?_;simp only[pS];go_upto_region 24 with fail;refine Sg<|bN (eI q5)<|tF<|Nl ?_;simp only[pS];go_upto_region 25 with fail;refine Sg<|?_;have q19:(m.k==5)=false:=by rw [eq_of_beq q7];rfl
   refine bN (eI q19)<|tF<|Nl ?_;simp only[pS];go_upto_region 26 with fail;refine Sg<|?_;have q20:(m.k==16)=false:=by rw [eq_of_beq q7];rfl
   refine bN (eI q20)<|tF<|Nl ?_;simp only[pS];go_upto_region 28 with fail;refine Sg<|?_;have q21:(m.k==17)=false:=by rw [eq_of_beq q7];rfl
   refine bN (eI q21)<|tF<|Nl ?_;simp only[pS];go_upto_region 30 with fail;refine Sg<|bN (eI q3)<|tF<|Nl ?_;simp only[pS];go_wp2;rw [HC.out];go_end0;exact HF.out.put
  refine bN (eI q7)<|tF<|Nl ?_;simp only[pS];go_upto_region 17 with fail;refine Sg<|?_;cases q8:(m.k==15);rotate_left
  ·refine bN (eI q8)<|tU<|Nl ?_;simp only[pS];go_upto_region 19 with fail;refine Sg<|tK (pg g 0)<|tK (pg g1 11)<|kP (Sp.cs m.st) HF 0 11 U34 S34 (Mg.cs m) rfl<|?_;simp only[pS];rw [← its15 bs es ls cs (eq_of_beq q8)] at HP HC;refine kC ([It.n m.st.n,It.n m.st.c]) HF (fun a0 h0=>r_stamp m.st _ a0 _ h0 (pfx HP (by repeat (first | with_reducible exact List.prefix_rfl | apply pl)))) fun w13 HF=>Nl ?_;(try simp only[pS]);go_upto_region 20 with fail;refine Sg<|tK (pg g1 0)<|kD (.int .i64 m.k) HF 0 0 U3 rfl<|Nl ?_;simp only[pS];go_upto_region 21 with fail;refine Sg<|bN (eI q6)<|tF<|Nl ?_;simp only[pS];go_upto_region 24 with fail;refine Sg<|bN (eI q5)<|tF<|Nl ?_;simp only[pS];go_upto_region 25 with fail;refine Sg<|?_;have q16:(m.k==5)=false:=by rw [eq_of_beq q8];rfl
   refine bN (eI q16)<|tF<|Nl ?_;simp only[pS];go_upto_region 26 with fail;refine Sg<|?_;have q17:(m.k==16)=false:=by rw [eq_of_beq q8];rfl
   refine bN (eI q17)<|tF<|Nl ?_;simp only[pS];go_upto_region 28 with fail;refine Sg<|?_;have q18:(m.k==17)=false:=by rw [eq_of_beq q8];rfl
   refine bN (eI q18)<|tF<|Nl ?_;simp only[pS];go_upto_region 30 with fail;refine Sg<|bN (eI q3)<|tF<|Nl ?_;simp only[pS];go_wp2;rw [HC.out];go_end0;exact HF.out.put
  refine bN (eI q8)<|tF<|Nl ?_;simp only[pS];go_upto_region 18 with fail;refine Sg<|?_;cases q9:(m.k==21);rotate_left
  ·refine bN (eI q9)<|tU<|Nl ?_;simp only[pS];go_upto_region 19 with fail;refine Sg<|tK (pg g 0)<|tK (pg g1 11)<|kP (Sp.cs m.st) HF 0 11 U34 S34 (Mg.cs m) rfl<|?_;simp only[pS];rw [← its21 bs es ls cs (eq_of_beq q9)] at HP HC;refine kC ([It.n m.st.n,It.n m.st.c]) HF (fun a0 h0=>r_stamp m.st _ a0 _ h0 (pfx HP (by repeat (first | with_reducible exact List.prefix_rfl | apply pl)))) fun w12 HF=>Nl ?_;(try simp only[pS]);go_upto_region 20 with fail;refine Sg<|tK (pg g1 0)<|kD (.int .i64 m.k) HF 0 0 U3 rfl<|Nl ?_;simp only[pS];go_upto_region 21 with fail;refine Sg<|bN (eI q6)<|tF<|Nl ?_;simp only[pS];go_upto_region 24 with fail;refine Sg<|bN (eI q5)<|tF<|Nl ?_;simp only[pS];go_upto_region 25 with fail;refine Sg<|?_;have q13:(m.k==5)=false:=by rw [eq_of_beq q9];rfl
   refine bN (eI q13)<|tF<|Nl ?_;simp only[pS];go_upto_region 26 with fail;refine Sg<|?_;have q14:(m.k==16)=false:=by rw [eq_of_beq q9];rfl
   refine bN (eI q14)<|tF<|Nl ?_;simp only[pS];go_upto_region 28 with fail;refine Sg<|?_;have q15:(m.k==17)=false:=by rw [eq_of_beq q9];rfl
   refine bN (eI q15)<|tF<|Nl ?_;simp only[pS];go_upto_region 30 with fail;refine Sg<|bN (eI q3)<|tF<|Nl ?_;simp only[pS];go_wp2;rw [HC.out];go_end0;exact HF.out.put
  refine bN (eI q9)<|tF<|Nl ?_;simp only[pS];go_upto_region 20 with fail;refine Sg<|tK (pg g1 0)<|kD (.int .i64 m.k) HF 0 0 U3 rfl<|Nl ?_;simp only[pS];go_upto_region 21 with fail;refine Sg<|bN (eI q6)<|tF<|Nl ?_;simp only[pS];go_upto_region 24 with fail;refine Sg<|bN (eI q5)<|tF<|Nl ?_;simp only[pS];go_upto_region 25 with fail;refine Sg<|?_;cases q10:(m.k==5);rotate_left
  ·refine bN (eI q10)<|tU<|Nl ?_;simp only[pS];go_upto_region 27 with fail;refine Sg<|tK (pg g 0)<|tK (pg g1 16)<|kP (Cm.cs m.c) HF 0 16 U39 S39 (Mg.cs m) rfl<|?_;simp only[pS];rw [← its5 bs es ls cs (eq_of_beq q10)] at HP HC;refine kC (cmdIts m.c) HF (fun a0 h0=>r_command m.c _ a0 _ h0 (pfx HP (by repeat (first | with_reducible exact List.prefix_rfl | apply pl)))) fun w11 HF=>Nl ?_;(try simp only[pS]);go_wp2;rw [HC.out];go_end0;exact HF.out.put
  refine bN (eI q10)<|tF<|Nl ?_;simp only[pS];go_upto_region 26 with fail;refine Sg<|?_;cases q11:(m.k==16);rotate_left
  ·refine bN (eI q11)<|tU<|Nl ?_;simp only[pS];go_upto_region 27 with fail;refine Sg<|tK (pg g 0)<|tK (pg g1 16)<|kP (Cm.cs m.c) HF 0 16 U39 S39 (Mg.cs m) rfl<|?_;simp only[pS];rw [← its16 bs es ls cs (eq_of_beq q11)] at HP HC;refine kC (cmdIts m.c) HF (fun a0 h0=>r_command m.c _ a0 _ h0 (pfx HP (by repeat (first | with_reducible exact List.prefix_rfl | apply pl)))) fun w10 HF=>Nl ?_;(try simp only[pS]);go_wp2;rw [HC.out];go_end0;exact HF.out.put
  refine bN (eI q11)<|tF<|Nl ?_;simp only[pS];go_upto_region 28 with fail;refine Sg<|?_;cases q12:(m.k==17)
  ·refine bN (eI q12)<|tF<|Nl ?_;simp only[pS];go_upto_region 30 with fail;refine Sg<|bN (eI q3)<|tF<|Nl ?_;simp only[pS];have e:(((((([It.n m.k]++[It.n (bif m.fr.cl then 1 else 0),It.n m.fr.id])++[It.n (bif m.too.cl then 1 else 0),It.n m.too.id])++[It.n m.op])++[It.n m.rd])++[It.n m.ky.k,It.n m.ky.a,It.n m.ky.b,It.n m.ky.c]):List It)=msgIts m bs es ls cs:=itsN bs es ls cs q1 q2 q3 q4 q5 q6 q7 q8 q9 q10 q11 q12;go_wp2;rw [HC.out,← e];go_end0;exact HF.out.put
  refine bN (eI q12)<|tU<|Nl ?_;simp only[pS];go_upto_region 29 with fail;refine Sg<|tK (pg g 0)<|tK (pg g1 25)<|kP (Bv.cs m.bk) HF 0 25 U43 S43 (Mg.cs m) rfl<|?_;simp only[pS];rw [← its17 bs es ls cs (eq_of_beq q12)] at HP HC;refine kC (bktIts m.bk es ls) HF (fun a0 h0=>r_bucket m.bk es ls _ a0 _ h0 (pfx HP (by repeat (first | with_reducible exact List.prefix_rfl | apply pl))) (RdE.keptL HRE.out HF.out.kept (fun h0 k hk e=>by have:=HBS.out k e;have:=HLE.out h0 k hk;omega)) (RdL.keptL HRL.out HF.out.kept (fun h0 k hk e=>by have:=HBS.out k e;have:=HLL.out h0 k hk;omega)) HLE.out HLL.out hne hnl) fun w9 HF=>Nl ?_;(try simp only[pS]);go_wp2;rw [HC.out];go_end0;exact HF.out.put
end
theorem addr_ok' {zs:List Int} {x:Ad} (hz:∀ i,i < zs.length→1≤zs[i]?.getD 0∧zs[i]?.getD 0≤255) (h:cliB x=true∨srvB zs x=true):0≤x.id∧x.id≤255:=by
  rcases h with h | h
  · unfold cliB at h
    rw [Bool.and_eq_true] at h
    have:=wn_t h.2;omega
  · unfold srvB hasB at h
    rw [Bool.and_eq_true,List.contains_iff_mem] at h
    obtain ⟨i,hi,e⟩:=List.getElem_of_mem h.2
    have:=hz i hi
    rw [List.getElem?_eq_getElem hi,e] at this
    simp only[Option.getD_some] at this
    omega
open Classical in
theorem cfg_ids {c:Cg} {zs:List Int} (h:cfgP c zs=true):∀ i,i < zs.length→1≤zs[i]?.getD 0∧zs[i]?.getD 0≤255:=by
  unfold cfgP Wi.cfgB at h
  rw [Bool.and_eq_true] at h
  have:=of_decide_eq_true h.1
  exact fun i hi=>(this.2 i hi).1
theorem flag_ok (b:Bool):itOk (.n (bif b then 1 else 0)):=by cases b <;> exact ⟨by decide,by decide⟩
theorem stamp1 {s:Sp} (h:oneS s=true∨eqS s spZ=true∨frmS s=true):okL [It.n s.n,It.n s.c]:=by
  have:(0≤s.n∧s.n≤1099511627776)∧0≤s.c∧s.c≤255:=by
    rcases h with h | h | h
    · have:=oneS_t h;omega
    · have:=eqS_t h;omega
    · have:=frmS_t h;omega
  exact okL_cons ⟨by omega,by omega⟩ (okL_cons ⟨by omega,by omega⟩ okL_nil)
theorem hd_ok {bu:Int} {zs:List Int} {m:Mg} (hbu:bu≤256) (hz:∀ i,i < zs.length→1≤zs[i]?.getD 0∧zs[i]?.getD 0≤255) (h1:endsP zs m=true) (h2:keyP bu m=true):okL (hdIts m):=by
  have hk:(1≤m.k∧m.k≤22)∧(cliB m.fr=true∨srvB zs m.fr=true)∧(cliB m.too=true∨srvB zs m.too=true)∧(0≤m.op∧m.op≤1099511627776)∧0≤m.rd∧m.rd≤1099511627776:=by
    unfold endsP at h1
    cases e1:(m.k==1||(m.k==2||(m.k==3||(m.k==4||m.k==5))))
    · rw [e1] at h1
      simp only[bsq] at h1
      cases e2:(m.k==11||(m.k==12||(m.k==13||(m.k==14||(m.k==15||(m.k==16||m.k==17))))))
      · rw [e2] at h1
        simp only[bsq] at h1
        cases e3:(m.k==21||m.k==22)
        · rw [e3] at h1;cases h1
        · rw [e3] at h1
          simp only[bsq] at h1
          simp only[Bool.and_eq_true,beq_iff_eq] at h1
          simp only[Bool.or_eq_true,beq_iff_eq] at e3
          exact ⟨by omega,.inr h1.1,.inr h1.2.1,by omega,by omega,by omega⟩
      · rw [e2] at h1
        simp only[bsq] at h1
        simp only[Bool.and_eq_true] at h1
        simp only[Bool.or_eq_true,beq_iff_eq] at e2
        have a1:=wn_t h1.2.2.1
        have a2:=wn_t h1.2.2.2
        exact ⟨by omega,.inr h1.1,.inl h1.2.1,by omega,by omega,by omega⟩
    · rw [e1] at h1
      simp only[bsq] at h1
      simp only[Bool.and_eq_true] at h1
      simp only[Bool.or_eq_true,beq_iff_eq] at e1
      have a1:=wn_t h1.2.2.1
      have a2:=wn_t h1.2.2.2
      exact ⟨by omega,.inl h1.1,.inr h1.2.1,by omega,by omega,by omega⟩
  have hy:(0≤m.ky.k∧m.ky.k≤3)∧(0≤m.ky.a∧m.ky.a≤255)∧(0≤m.ky.b∧m.ky.b≤1099511627776)∧0≤m.ky.c∧m.ky.c≤1048575:=by
    have hr:keyR bu m.ky=true:=by
      unfold keyP at h2
      cases e:keyR bu m.ky
      · rw [e] at h2;cases h2
      · rfl
    unfold keyR at hr
    cases e1:(m.ky.k==1)
    · rw [e1] at hr
      simp only[bsq] at hr
      cases e2:(m.ky.k==2)
      · rw [e2] at hr
        simp only[bsq] at hr
        cases e3:(m.ky.k==3)
        · rw [e3] at hr;cases hr
        · rw [e3] at hr
          simp only[bsq] at hr
          simp only[Bool.and_eq_true,beq_iff_eq] at hr e3
          have a1:=wn_t hr.1
          have a2:=wn_t hr.2.1
          omega
      · rw [e2] at hr
        simp only[bsq] at hr
        simp only[Bool.and_eq_true,beq_iff_eq] at hr e2
        have a1:=wn_t hr.1
        omega
    · rw [e1] at hr
      simp only[bsq] at hr
      simp only[Bool.and_eq_true] at hr
      simp only[beq_iff_eq] at e1
      have a1:=wn_t hr.1
      have a2:=wn_t hr.2.1
      have a3:=wn_t hr.2.2
      omega
  have f1:=addr_ok' hz hk.2.1
  have f2:=addr_ok' hz hk.2.2.1
  unfold hdIts
  exact okL_cons ⟨by omega,by omega⟩ (okL_cons (flag_ok _) (okL_cons ⟨by omega,by omega⟩ (okL_cons (flag_ok _) (okL_cons ⟨by omega,by omega⟩ (okL_cons ⟨by omega,by omega⟩ (okL_cons ⟨by omega,by omega⟩ (okL_cons ⟨by omega,by omega⟩ (okL_cons ⟨by omega,by omega⟩ (okL_cons ⟨by omega,by omega⟩ (okL_cons ⟨by omega,by omega⟩ okL_nil))))))))))
theorem held_t {B:Int} {p a:Sp} {x:Cm} (hB:0≤B∧B≤4096) (h:heldP B p a x=true):okL [It.n a.n,It.n a.c]∧OkC x:=by
  unfold heldP at h
  cases e:eqS a spZ
  · rw [e] at h
    simp only[bsq] at h
    simp only[Bool.and_eq_true] at h
    exact ⟨stamp1 (.inl h.1),cmdL_ok hB h.2.2⟩
  · rw [e] at h
    exact ⟨stamp1 (.inr (.inl e)),cmd_z h⟩
theorem bytes_ok' {bs:List Int} (hu:Wi.U8 bs) (hl:bs.length≤4096):okL [It.b bs]:=okL_cons ⟨hl,hu⟩ okL_nil
theorem msg_its {m:Mg} {bs:List Int} {es:List En} {ls:List La} {cs:List Cm} {F:List Int} (hf:fieldsK m.k=F) (hh:okL (hdIts m)) (h:okL (fl (fun j=>fldIts m bs es ls cs (F[j]?.getD 0)) F.length)∧itsLen (fl (fun j=>fldIts m bs es ls cs (F[j]?.getD 0)) F.length)≤130000):okL (msgIts m bs es ls cs)∧itsLen (msgIts m bs es ls cs)≤131072:=by
  unfold msgIts
  rw [hf]
  refine ⟨okL_app hh h.1,?_⟩
  rw [itsLen_app]
  have:itsLen (hdIts m)=110:=by unfold hdIts;simp only[len_cons,len_nil,len_n]
  have:=h.2
  omega
theorem msg_ok' {B rm bu:Int} {zs:List Int} {m:Mg} {bs:List Int} {es:List En} {ls:List La} {cs:List Cm} (hB:0≤B∧B≤4096) (hr:0≤rm∧rm≤256) (hbu:bu≤256) (hz:∀ i,i < zs.length→1≤zs[i]?.getD 0∧zs[i]?.getD 0≤255) (hu:Wi.U8 bs) (hb:bs.length=m.bl.l) (he:es.length=m.bk.e.l) (hl:ls.length=m.bk.l.l) (hc:cs.length=m.cm.l)
    (h:msgP B rm bu zs m bs es ls cs=true):okL (msgIts m bs es ls cs)∧itsLen (msgIts m bs es ls cs)≤131072:=by
  unfold msgP at h
  simp only[Bool.and_eq_true] at h
  obtain ⟨h1,h2,h3,h4⟩:=h
  have hh:=hd_ok hbu hz h1 h2
  have l2:itsLen [It.n m.st.n,It.n m.st.c]=20:=rfl
  have l3:itsLen [It.n m.hd.n,It.n m.hd.c]=20:=rfl
  have lb:itsLen [It.b bs]=10+bs.length:=by simp only[len_cons,len_nil,len_b];rfl
  have hk:m.k=1∨m.k=2∨m.k=3∨m.k=4∨m.k=5∨m.k=11∨m.k=12∨m.k=13∨m.k=14∨m.k=15∨m.k=16∨m.k=17∨m.k=21∨m.k=22:=by
    by_cases hq:m.k=1∨m.k=2∨m.k=3∨m.k=4∨m.k=5∨m.k=11∨m.k=12∨m.k=13∨m.k=14∨m.k=15∨m.k=16∨m.k=17∨m.k=21∨m.k=22
    · exact hq
    · exfalso
      have q:∀ n:Int,(n=1∨n=2∨n=3∨n=4∨n=5∨n=11∨n=12∨n=13∨n=14∨n=15∨n=16∨n=17∨n=21∨n=22)→(m.k==n)=false:=fun n hn=>by rw [beq_eq_false_iff_ne];intro e;apply hq;rw [e];exact hn
      simp only[endsP,q 1 (by decide),q 2 (by decide),q 3 (by decide),q 4 (by decide),q 5 (by decide),q 11 (by decide),q 12 (by decide),q 13 (by decide),q 14 (by decide),q 15 (by decide),q 16 (by decide),q 17 (by decide),q 21 (by decide),q 22 (by decide),bsq] at h1
      cases h1
  rcases hk with hk | hk | hk | hk | hk | hk | hk | hk | hk | hk | hk | hk | hk | hk
  · have hf:fieldsK m.k=[]:=by rw [hk];decide
    refine msg_its hf hh ?_
    simp only[fldsP,haveP,hk,Int.reduceBEq,bsq] at h4
    rw [show fl (fun j=>fldIts m bs es ls cs ([][j]?.getD 0)) ([]:List Int).length=([]:List It) from rfl]
    exact ⟨okL_nil,by rw [len_nil];omega⟩
  · have hf:fieldsK m.k=[0,2]:=by rw [hk];decide
    refine msg_its hf hh ?_
    simp only[fldsP,haveP,hk,Int.reduceBEq,bsq] at h4
    rw [show fl (fun j=>fldIts m bs es ls cs ([0,2][j]?.getD 0)) ([0,2]:List Int).length=(([It.n m.st.n,It.n m.st.c]++([It.b bs]++[])):List It) from rfl]
    rw [Bool.and_eq_true] at h4
    have:=eq_of_beq h4.2
    refine ⟨okL_app (stamp1 (.inl h4.1)) (okL_app (bytes_ok' hu (by omega)) okL_nil),?_⟩
    rw [itsLen_app,itsLen_app,l2,lb,len_nil];omega
  · have hf:fieldsK m.k=[0]:=by rw [hk];decide
    refine msg_its hf hh ?_
    simp only[fldsP,haveP,hk,Int.reduceBEq,bsq] at h4
    rw [show fl (fun j=>fldIts m bs es ls cs ([0][j]?.getD 0)) ([0]:List Int).length=(([It.n m.st.n,It.n m.st.c]++[]):List It) from rfl]
    exact ⟨okL_app (stamp1 (.inl h4)) okL_nil,by rw [itsLen_app,l2,len_nil];omega⟩
  · have hf:fieldsK m.k=[0,3]:=by rw [hk];decide
    refine msg_its hf hh ?_
    simp only[fldsP,haveP,hk,Int.reduceBEq,bsq] at h4
    rw [show fl (fun j=>fldIts m bs es ls cs ([0,3][j]?.getD 0)) ([0,3]:List Int).length=(([It.n m.st.n,It.n m.st.c]++(cmdIts m.c++[])):List It) from rfl]
    rw [Bool.and_eq_true] at h4
    have k1:=cmdIts_ok (cmdL_ok hB h4.2)
    refine ⟨okL_app (stamp1 (.inl h4.1)) (okL_app k1.1 okL_nil),?_⟩
    rw [itsLen_app,itsLen_app,l2,len_nil];omega
  · have hf:fieldsK m.k=[3]:=by rw [hk];decide
    refine msg_its hf hh ?_
    simp only[fldsP,haveP,hk,Int.reduceBEq,bsq] at h4
    rw [show fl (fun j=>fldIts m bs es ls cs ([3][j]?.getD 0)) ([3]:List Int).length=((cmdIts m.c++[]):List It) from rfl]
    have k1:=cmdIts_ok (cmdL_ok hB h4)
    exact ⟨okL_app k1.1 okL_nil,by rw [itsLen_app,len_nil];omega⟩
  · have hf:fieldsK m.k=[0,2]:=by rw [hk];decide
    refine msg_its hf hh ?_
    simp only[fldsP,haveP,hk,Int.reduceBEq,bsq] at h4
    rw [show fl (fun j=>fldIts m bs es ls cs ([0,2][j]?.getD 0)) ([0,2]:List Int).length=(([It.n m.st.n,It.n m.st.c]++([It.b bs]++[])):List It) from rfl]
    unfold blkB at h4
    rw [Bool.and_eq_true,Bool.or_eq_true,Bool.and_eq_true] at h4
    have:=eq_of_beq h4.1
    simp only at this
    refine ⟨okL_app (stamp1 (h4.2.elim .inl (fun e=>.inr (.inl e.1)))) (okL_app (bytes_ok' hu (by omega)) okL_nil),?_⟩
    rw [itsLen_app,itsLen_app,l2,lb,len_nil];omega
  · have hf:fieldsK m.k=[]:=by rw [hk];decide
    refine msg_its hf hh ?_
    simp only[fldsP,haveP,hk,Int.reduceBEq,bsq] at h4
    rw [show fl (fun j=>fldIts m bs es ls cs ([][j]?.getD 0)) ([]:List Int).length=([]:List It) from rfl]
    exact ⟨okL_nil,by rw [len_nil];omega⟩
  · have hf:fieldsK m.k=[0,1,3]:=by rw [hk];decide
    refine msg_its hf hh ?_
    simp only[fldsP,haveP,hk,Int.reduceBEq,bsq] at h4
    rw [show fl (fun j=>fldIts m bs es ls cs ([0,1,3][j]?.getD 0)) ([0,1,3]:List Int).length=(([It.n m.st.n,It.n m.st.c]++([It.n m.hd.n,It.n m.hd.c]++(cmdIts m.c++[]))):List It) from rfl]
    rw [Bool.and_eq_true] at h4
    have k2:=held_t hB h4.2
    have k1:=cmdIts_ok k2.2
    refine ⟨okL_app (stamp1 (.inl h4.1)) (okL_app k2.1 (okL_app k1.1 okL_nil)),?_⟩
    rw [itsLen_app,itsLen_app,itsLen_app,l2,l3,len_nil];omega
  · have hf:fieldsK m.k=[0]:=by rw [hk];decide
    refine msg_its hf hh ?_
    simp only[fldsP,haveP,hk,Int.reduceBEq,bsq] at h4
    rw [show fl (fun j=>fldIts m bs es ls cs ([0][j]?.getD 0)) ([0]:List Int).length=(([It.n m.st.n,It.n m.st.c]++[]):List It) from rfl]
    exact ⟨okL_app (stamp1 (.inl h4)) okL_nil,by rw [itsLen_app,l2,len_nil];omega⟩
  · have hf:fieldsK m.k=[0]:=by rw [hk];decide
    refine msg_its hf hh ?_
    simp only[fldsP,haveP,hk,Int.reduceBEq,bsq] at h4
    rw [show fl (fun j=>fldIts m bs es ls cs ([0][j]?.getD 0)) ([0]:List Int).length=(([It.n m.st.n,It.n m.st.c]++[]):List It) from rfl]
    exact ⟨okL_app (stamp1 (.inl h4)) okL_nil,by rw [itsLen_app,l2,len_nil];omega⟩
  · have hf:fieldsK m.k=[3]:=by rw [hk];decide
    refine msg_its hf hh ?_
    simp only[fldsP,haveP,hk,Int.reduceBEq,bsq] at h4
    rw [show fl (fun j=>fldIts m bs es ls cs ([3][j]?.getD 0)) ([3]:List Int).length=((cmdIts m.c++[]):List It) from rfl]
    have k1:=cmdIts_ok (cmdL_ok hB h4)
    exact ⟨okL_app k1.1 okL_nil,by rw [itsLen_app,len_nil];omega⟩
  · have hf:fieldsK m.k=[4]:=by rw [hk];decide
    refine msg_its hf hh ?_
    simp only[fldsP,haveP,hk,Int.reduceBEq,bsq] at h4
    rw [show fl (fun j=>fldIts m bs es ls cs ([4][j]?.getD 0)) ([4]:List Int).length=((bktIts m.bk es ls++[]):List It) from rfl]
    rw [Bool.and_eq_true] at h4
    have k1:=bktIts_ok hB hr.2 he hl h4.1
    exact ⟨okL_app k1.1 okL_nil,by rw [itsLen_app,len_nil];omega⟩
  · have hf:fieldsK m.k=[0]:=by rw [hk];decide
    refine msg_its hf hh ?_
    simp only[fldsP,haveP,hk,Int.reduceBEq,bsq] at h4
    rw [show fl (fun j=>fldIts m bs es ls cs ([0][j]?.getD 0)) ([0]:List Int).length=(([It.n m.st.n,It.n m.st.c]++[]):List It) from rfl]
    simp only[Bool.or_eq_true,Bool.and_eq_true] at h4
    exact ⟨okL_app (stamp1 (h4.elim (fun e=>.inr (.inl e.2)) (fun e=>.inr (.inr e.2)))) okL_nil,by rw [itsLen_app,l2,len_nil];omega⟩
  · have hf:fieldsK m.k=[0,2,4,5,6]:=by rw [hk];decide
    refine msg_its hf hh ?_
    simp only[fldsP,haveP,hk,Int.reduceBEq,bsq] at h4
    rw [show fl (fun j=>fldIts m bs es ls cs ([0,2,4,5,6][j]?.getD 0)) ([0,2,4,5,6]:List Int).length=(([It.n m.st.n,It.n m.st.c]++([It.b bs]++(bktIts m.bk es ls++(([It.n ((m.cm.l:Nat):Int)]++fl (fun j=>cmdIts (cAt cs j)) m.cm.l)++([It.n (bif m.mo then 1 else 0)]++[]))))):List It) from rfl]
    have key:(oneS m.st=true∨eqS m.st spZ=true∨frmS m.st=true)∧bs.length≤4096∧(okL (bktIts m.bk es ls)∧itsLen (bktIts m.bk es ls)≤93500)∧okL (fl (fun j=>cmdIts (cAt cs j)) m.cm.l)∧itsLen (fl (fun j=>cmdIts (cAt cs j)) m.cm.l)≤22080∧m.cm.l≤64:=by
      have eb:empK m.bk=true→okL (bktIts m.bk es ls)∧itsLen (bktIts m.bk es ls)≤93500:=fun e=>bktIts_ok (B:=B) (rm:=rm) hB hr.2 he hl (by
        have e2:(m.bk.up==0)=true:=by unfold empK at e;rw [Bool.and_eq_true] at e;exact e.1
        unfold bktP;rw [e2];exact e)
      have ec:((m.cm.l:Nat):Int)==0→okL (fl (fun j=>cmdIts (cAt cs j)) m.cm.l)∧itsLen (fl (fun j=>cmdIts (cAt cs j)) m.cm.l)≤22080∧m.cm.l≤64:=fun e=>by
        have e0:m.cm.l=0:=by have:=eq_of_beq e;omega
        rw [e0];exact ⟨okL_nil,by rw [fl0,len_nil];omega,by omega⟩
      cases e1:(m.ky.k==1)
      · simp only[e1,bsq] at h4
        cases e2:eqS m.st spZ
        · simp only[e2,bsq] at h4
          rw [Bool.and_eq_true,Bool.and_eq_true,onl] at h4
          simp only[show hasB [0,5,6] 1=false by decide,show hasB [0,5,6] 2=false by decide,show hasB [0,5,6] 3=false by decide,show hasB [0,5,6] 4=false by decide,Bool.and_eq_true,Bool.or_false] at h4
          obtain ⟨⟨_,_,q2,_,q4,_⟩,qf,qr⟩:=h4
          have:=eq_of_beq q2
          exact ⟨.inr (.inr qf),by omega,eb q4,rowP_ok hB hc qr⟩
        · simp only[e2,bsq] at h4
          rw [Bool.and_eq_true,Bool.and_eq_true,onl] at h4
          simp only[show hasB [4,6] 0=false by decide,show hasB [4,6] 1=false by decide,show hasB [4,6] 2=false by decide,show hasB [4,6] 3=false by decide,show hasB [4,6] 5=false by decide,Bool.and_eq_true,Bool.or_false] at h4
          obtain ⟨⟨_,_,q2,_,_,q5,_⟩,_,qb⟩:=h4
          have:=eq_of_beq q2
          exact ⟨.inr (.inl rfl),by omega,bktIts_ok hB hr.2 he hl qb,ec q5⟩
      · cases e2:eqS m.st spZ
        · simp only[e1,e2,bsq] at h4
          rw [Bool.and_eq_true,Bool.and_eq_true,onl] at h4
          simp only[show hasB [0,2] 1=false by decide,show hasB [0,2] 3=false by decide,show hasB [0,2] 4=false by decide,show hasB [0,2] 5=false by decide,show hasB [0,2] 6=false by decide,Bool.and_eq_true,Bool.or_false] at h4
          obtain ⟨⟨_,_,_,_,q4,q5,_⟩,qo,qb⟩:=h4
          have:=eq_of_beq qb
          exact ⟨.inl qo,by omega,eb q4,ec q5⟩
        · simp only[e1,e2,bsq] at h4
          rw [onl] at h4
          simp only[show ∀ n,hasB [] n=false from fun n=>rfl,Bool.and_eq_true,Bool.or_false] at h4
          obtain ⟨_,_,q2,_,q4,q5,_⟩:=h4
          have:=eq_of_beq q2
          exact ⟨.inr (.inl rfl),by omega,eb q4,ec q5⟩
    obtain ⟨k1,k2,k3,k4,k5,k6⟩:=key
    refine ⟨okL_app (stamp1 k1) (okL_app (bytes_ok' hu k2) (okL_app k3.1 (okL_app (okL_app (okL_cons (show itOk (.n _) from ⟨by omega,by omega⟩) okL_nil) k4) (okL_app (okL_cons (flag_ok _) okL_nil) okL_nil)))),?_⟩
    rw [itsLen_app,itsLen_app,itsLen_app,itsLen_app,itsLen_app,itsLen_app,l2,lb]
    simp only[len_cons,len_nil,len_n]
    have:=k3.2
    omega
def encIt:It→List Int
  | .n i=>Wi.vint i.toNat
  | .b zs=>Wi.vint zs.length++zs
def encB (L:List It):List Int:=(L.map encIt).flatten
theorem putT_some {x:It} (h:itOk x) (ys:List Int):putT (some ys) x=some (ys++encIt x):=by
  cases x with
  | n i=>show Wi.putNum (some ys) i=_;unfold Wi.putNum;rw [if_neg (by have:=h.1;omega)];rfl
  | b zs=>rfl
theorem putTs_some {L:List It} (h:okL L):putTs L=some (encB L):=by
  suffices H:∀ (L:List It) (ys:List Int),okL L→L.foldl putT (some ys)=some (ys++encB L) by
    have:=H L [] h;simpa [putTs] using this
  intro L
  induction L with
  | nil=>intro ys _;simp [encB]
  | cons x r ih=>
    intro ys h
    rw [List.foldl_cons,putT_some (h x (List.mem_cons_self ..)),ih _ (fun y hy=>h y (List.mem_cons_of_mem _ hy))]
    simp [encB]
theorem encB_u8 {L:List It} (h:okL L):Wi.U8 (encB L):=by
  induction L with
  | nil=>exact Wi.U8.nil
  | cons x r ih=>
    have h1:encB (x :: r)=encIt x++encB r:=by simp [encB]
    rw [h1]
    refine Wi.U8.append ?_ (ih (fun y hy=>h y (List.mem_cons_of_mem _ hy)))
    have h2:=h x (List.mem_cons_self ..)
    cases x with
    | n i=>exact Wi.vint_u8 _
    | b zs=>exact Wi.U8.append (Wi.vint_u8 _) h2.2
structure EncO (w:World) (err:Int) (bytes:List Int) (e:Ending) (w':World):Prop where
  out:∃ s:Sl,e=.returned (.tuple #[s.v,.int .i64 err])∧RdB w' s bytes∧s.l≤131084∧Kept No w w'
theorem RdB.nilS (w:World):RdB w slZ []:=⟨fun i hi=>absurd hi (Nat.not_lt_zero _),rfl,fun _=>rfl⟩
theorem own_rdB {w:World} {base:Nat} {a:Option Addr} {n c:Nat} {zs:List Int} (h:Wi.OwnS w base a c zs) (hn:zs.length=n):RdB w ⟨a,n,c⟩ zs:=by
  refine ⟨h.bytes,hn,fun e=>?_⟩
  rcases h.cases with ⟨_,h2⟩ | ⟨g,h1,_⟩
  · exact h2.1
  · have e:a=none:=e
    rw [e] at h1;cases h1
section
variable {ops:Array Oper} {rest:List Oper} {o:Oper} {a:Act} {w:World} {Q:Exit→Act→World→Prop} {S:Nat→Prop} {w0:World} {l:List (Nat × TypeId × Array Value)}
end
section
variable {base g:Nat} {T:List It} {ok:∀ x∈T,itOk x} {len:itsLen T≤131072}
end
theorem allOf_its {base:Nat} {w:World} (xs:List Wi.Item) (h:∀ x∈xs,OkX base w x):Wi.allOf xs=putTs (xs.map itOf):=by
  suffices H:∀ (xs:List Wi.Item) st,(∀ x∈xs,OkX base w x)→xs.foldl Wi.putIt st=(xs.map itOf).foldl putT st by exact H xs _ h
  intro xs
  induction xs with
  | nil=>intro st _;rfl
  | cons x r ih=>
    intro st h;rw [List.foldl_cons,List.map_cons,List.foldl_cons,ih _ (fun y hy=>h y (List.mem_cons_of_mem _ hy))]
    congr 1
    rcases (h x (List.mem_cons_self ..)).kd with e | e
    · unfold Wi.putIt itOf;rw [if_pos e,if_pos e];rfl
    · unfold Wi.putIt itOf;rw [if_neg (by omega),if_neg (by omega),if_neg (by omega)];rfl
theorem tot_its {base:Nat} {w:World} (xs:List Wi.Item) (h:∀ x∈xs,OkX base w x):Wi.tot xs≤itsLen (xs.map itOf):=by
  induction xs with
  | nil=>exact Nat.le_refl _
  | cons x r ih=>
    have h1:=ih (fun y hy=>h y (List.mem_cons_of_mem _ hy));have h2:=h x (List.mem_cons_self ..);rw [List.map_cons,len_cons];have:Wi.tot (x :: r)=(10+x.m)+Wi.tot r:=by simp [Wi.tot]
    rcases h2.kd with e | e
    · have h3:itOf x=.n x.n:=by unfold itOf;rw [if_pos e]
      have:=h2.m0 e;rw [h3,len_n];omega
    · have h3:itOf x=.b x.zs:=by unfold itOf;rw [if_neg (by omega)]
      have:=h2.ok.sl.len;rw [h3,len_b];omega
theorem its_rows {w:World} {base:Nat} {a:Option Addr} {n c:Nat} {xs:List Wi.Item} (h:Own 182 3 w base a c n (itsV xs)):Wi.Its w a xs:=by
  have hr:=Own.rows (xs:=xs.map itmV) h (by intro y hy;obtain ⟨x,_,rfl⟩:=List.mem_map.1 hy;rfl) (by omega);intro i x hx;obtain ⟨b,off,e,hc⟩:=hr i (itmV x) (by rw [List.getElem?_map,hx];rfl);exact ⟨b,off,e,hc 0 _ rfl,hc 1 _ rfl,hc 2 _ rfl⟩
section
variable {base g:Nat} {T:List It} {ok:∀ x∈T,itOk x} {len:itsLen T≤131072}
set_option maxRecDepth 100000 in
set_option maxHeartbeats 4000000 in
theorem r_body (w:World) (a:Option Addr) (h:(rSink base g T ok len).St w a T):Calls Tryz.prog 120 #[.pointer (some ⟨g,0,none⟩)] w (fun e w'=>∃ s:Sl,e=.returned s.v∧RdB w' s (encB T)∧Kept No w w'):=by
  refine hidC fun C HC=>?_;obtain ⟨xs,n,c,hO⟩:=h;have hn:n≤13108:=by
    have h2:=itsLen_ge T;have h3:T.length=n:=by rw [← hO.is,List.length_map,hO.len]
    omega
  have e1:Wi.allOf xs=some (encB T):=by rw [allOf_its xs hO.ok,hO.is,putTs_some ok]
  have HD:=Wi.rDone_q a n c xs w hO.len (by omega) (its_rows hO.own) (fun x hx=>(hO.ok x hx).ok) (by have:=tot_its xs hO.ok;rw [hO.is] at this;omega);rw [e1] at HD;have HD2:Hid _:=HD;have HB:Hid (Box w g 104 #[.slice a n c]):=hO.box;clear HD hO;go_enter Tryz.func120,Tryz.ntmps120;go_upto_region 0 with fail;refine Sg<|tK (.slice none 0 0)<|Nl ?_;simp only[pS];go_upto_region 1 with fail;refine Sg<|tK (pg g 0)<|tK (pg g 0)<|tK (pg g 0)<|lR (load_one (HB.out.cell 0) U102 rfl) ?_;(try simp only[pS]);refine wp_callW 180 #[.slice a n c] (by kernel_rfl) _ HD2.out (by kernel_rfl) ?_;rintro e w' ⟨a',n',c',rfl,rfl,hO,hk⟩;refine ⟨_,rfl,?_⟩;(try simp only[pS]);refine tK (.tuple #[.slice a' (encB T).length c',.int .i64 0])<|tK (.slice a' (encB T).length c')<|tK (.int .i64 0)<|tK (.slice a' (encB T).length c')<|tK (.int .i64 0)<|Nl ?_;simp only[pS];go_upto_region 2 with fail;refine Sg<|tK (.slice a' (encB T).length c')<|tK (.slice a' (encB T).length c')<|Nl ?_;simp only[pS];go_wp2;rw [HC.out];exact ⟨⟨a',_,c'⟩,rfl,own_rdB hO rfl,kw hk⟩
end
theorem Fq.sink {w0 w:World} {l:List (Nat × TypeId × Array Value)} {g:Nat} {T:List It} {ok:∀ x∈T,itOk x} {len:itsLen T≤131072} (h:Fq No w0 w (l++[(g,104,#[.slice none 0 0])])) (ht:∀ (i:Nat) g' t cs,l[i]?=some (g',t,cs)→¬ (t=104∨t=182∨t=5)) :
    Kf (rSink w0.heap.size g T ok len) w0 w none ([]++[]) l:=by
  have hl:(l++[(g,104,#[.slice none 0 0])])[l.length]?=some (g,104,#[.slice none 0 0]):=by rw [List.getElem?_append_right (Nat.le_refl _),Nat.sub_self];rfl
  have hg:w0.heap.size≤g:=(h.low _ _ _ _ hl).elim id False.elim;have hf:=h.front;exact ⟨hf.kept.of_no,Nat.le_refl _,⟨none,⟨[],0,0,⟨h.box _ _ _ _ hl,⟨rfl,.inl ⟨rfl,rfl⟩⟩,rfl,rfl,fun x hx=>by simp at hx,hg⟩⟩,fun k hk=>absurd hk At.none⟩,hf.box,fun i g' t cs hi=>(hf.low i g' t cs hi).elim id False.elim,hf.inj,fun i g' t cs hi=>ht i g' t cs hi⟩
theorem Kf.keptNo {w0 w:World} {g:Nat} {T L:List It} {ok:∀ x∈T,itOk x} {len:itsLen T≤131072} {l:List (Nat × TypeId × Array Value)} (h:Kf (rSink w0.heap.size g T ok len) w0 w none L l) (hg:w0.heap.size≤g):Kept No w0 w:=
  h.kept.mono (fun k hk e=>by
    rcases e with e | e
    · have e1:k=g:=e
      omega
    · exact absurd e At.none)
section
variable {ops:Array Oper} {rest:List Oper} {o:Oper} {a:Act} {w:World} {Q:Exit→Act→World→Prop} {w0:World} {l:List (Nat × TypeId × Array Value)}
end
theorem tys_ok {l:List (Nat × TypeId × Array Value)} (h:l.all (fun x=>!(x.2.1==104||(x.2.1==182||x.2.1==5)))=true):∀ (i:Nat) g' t cs,l[i]?=some (g',t,cs)→¬ (t=104∨t=182∨t=5):=by
  intro i g' t cs hi e
  have:=List.all_eq_true.1 h _ (List.mem_of_getElem? hi)
  rcases e with rfl | rfl | rfl <;> cases this
section
variable {ops:Array Oper} {a:Act} {w:World} {Q:Exit→Act→World→Prop} {md:Region.Mode} {S:Nat→Prop} {w0:World} {l:List (Nat × TypeId × Array Value)} {fuel:Nat} {listed:Array Bool}
end
structure BlIn (w:World) (x:Bl) (bs:List Int):Prop where
  b:RdB w x.d bs
  nb:x.d.l≤140737488351232
  u:Wi.U8 bs
theorem BlIn.no {w w':World} {x:Bl} {bs:List Int} (H:BlIn w x bs) (hk:Kept No w w'):BlIn w' x bs:=⟨H.b.no hk,H.nb,H.u⟩
structure InIn (w:World) (x:In):Prop where
  d:x=x
theorem InIn.no {w w':World} {x:In} (H:InIn w x) (hk:Kept No w w'):InIn w' x:=⟨rfl⟩
def lnBl (x:Bl) (g:Nat):Bl:=⟨x.s,⟨some ⟨g,0,none⟩,x.d.l,x.d.l+3⟩⟩
theorem BlIn.lent {w w0:World} {x:Bl} {bs:List Int} {g:Nat} (h:BlIn w0 x bs) (h1:Box w g 5 (u8L (bs++mk3 3)).toArray):BlIn w (lnBl x g) bs:=⟨RdB.lent h1 h.b.len,h.nb,h.u⟩
structure RdO (w:World) (s:Sl) (xs:List Bl):Prop where
  row:RowsAt 3 w s.a (xs.map Bl.cs)
  len:xs.length=s.l
structure RdN (w:World) (s:Sl) (xs:List In):Prop where
  row:RowsAt 14 w s.a (xs.map In.cs)
  len:xs.length=s.l
def blZ':Bl:=⟨spZ,slZ⟩
def inZ':In:=⟨spZ,spZ,cZ,false⟩
def oAt (xs:List Bl) (i:Nat):Bl:=xs[i]?.getD blZ'
def nAt (xs:List In) (i:Nat):In:=xs[i]?.getD inZ'
theorem RdO.at' {w:World} {s:Sl} {es:List Bl} (h:RdO w s es) {i:Nat} (hi:i < s.l):∃ b off,s.v=.slice (some ⟨b,off,none⟩) s.l s.k∧∀ (j:Nat) v,(oAt es i).cs[j]?=some v→w.cell? ⟨b,off+i*3+j,none⟩=some v:=by
  obtain ⟨b,off,ha,hc⟩:=h.row i (oAt es i).cs (by rw [List.getElem?_map,show es[i]?=some (oAt es i) by simp [oAt,List.getElem?_eq_getElem (show i < es.length by rw [h.len];exact hi)]];rfl)
  exact ⟨b,off,by unfold Sl.v;rw [ha],hc⟩
theorem RdN.at' {w:World} {s:Sl} {es:List In} (h:RdN w s es) {i:Nat} (hi:i < s.l):∃ b off,s.v=.slice (some ⟨b,off,none⟩) s.l s.k∧∀ (j:Nat) v,(nAt es i).cs[j]?=some v→w.cell? ⟨b,off+i*14+j,none⟩=some v:=by
  obtain ⟨b,off,ha,hc⟩:=h.row i (nAt es i).cs (by rw [List.getElem?_map,show es[i]?=some (nAt es i) by simp [nAt,List.getElem?_eq_getElem (show i < es.length by rw [h.len];exact hi)]];rfl)
  exact ⟨b,off,by unfold Sl.v;rw [ha],hc⟩
section
variable {ops:Array Oper} {a:Act} {w:World} {Q:Exit→Act→World→Prop} {md:Region.Mode} {SS:World→Prop} {S:Nat→Prop} {w0:World} {lA lB:List (Nat × TypeId × Array Value)} {fuel:Nat} {listed:Array Bool}
def EntH (ops:Array Oper) (Q:Exit→Act→World→Prop) (md:Region.Mode) (SS:World→Prop) (fuel:Nat) (listed:Array Bool) (a:Act) (w:World) (i:Nat):Prop:=
  wpOp Tryz.prog ops Q i (fun a' w'=>SS w'∧wpAnyH Tryz.prog md ops Q SS fuel (listed.setIfInBounds i true) a' w') a w
theorem y1 (i:Nat) (h1:EntH ops Q md SS fuel listed a w i) (hr:Region.ready md ops listed=[i]:=by kernel_rfl):wpAnyH Tryz.prog md ops Q SS (fuel+1) listed a w:=
  wpAnyH_ready hr (by simp) (fun k hk=>by
    rcases List.mem_cons.1 hk with rfl | hk
    · exact h1
    · cases hk)
theorem y2 (i j:Nat) (h1:EntH ops Q md SS fuel listed a w i) (h2:EntH ops Q md SS fuel listed a w j) (hr:Region.ready md ops listed=[i,j]:=by kernel_rfl):wpAnyH Tryz.prog md ops Q SS (fuel+1) listed a w:=
  wpAnyH_ready hr (by simp) (fun k hk=>by
    rcases List.mem_cons.1 hk with rfl | hk
    · exact h1
    · rcases List.mem_cons.1 hk with rfl | hk
      · exact h2
      · cases hk)
end
end Go.Proofs.YtgdnofacgfjaeaaGreat.Md
