import Derived.Test.YtgdnofacgfjaeaaGreatFc
import Derived.Test.YtgdnofacgfjaeaaGreatKe
namespace Go.Proofs.YtgdnofacgfjaeaaGreat.Md
set_option maxRecDepth 100000
set_option maxHeartbeats 4000000
open Go.RowKit
set_option linter.unusedVariables false
set_option linter.unusedSimpArgs false
theorem all_f {α:Type} {l:List α} {d:α} {p:α→Bool} {i:Nat} (hi:i < l.length) (h:p (l[i]?.getD d)=false):l.all p=false:=by
  rw [List.all_eq_false];exact ⟨l[i],List.getElem_mem hi,by rw [List.getElem?_eq_getElem hi] at h;simp at h;simp [h]⟩
theorem all_t {α:Type} {l:List α} {d:α} {p:α→Bool} (h:∀ i,i < l.length→p (l[i]?.getD d)=true):l.all p=true:=by
  rw [List.all_eq_true];intro x hx;obtain ⟨i,hi,rfl⟩:=List.getElem_of_mem hx;have:=h i hi;rw [List.getElem?_eq_getElem hi] at this;exact this
theorem up_j {P:Nat→Prop} {i:Nat} (h:∀ j,j < i→P j) (hi:P i):∀ j,j < i+1→P j:=fun j hj=>by
  rcases Nat.lt_succ_iff_lt_or_eq.1 hj with h1 | rfl
  · exact h j h1
  · exact hi
theorem nameR_f {nm:ByteArray} {i:Nat} (hi:i < nm.size) (h:badAt nm i=true):nameR nm=false:=by
  have:(List.range nm.size).all (fun i=>!badAt nm i)=false:=by
    rw [List.all_eq_false];exact ⟨i,List.mem_range.2 hi,by simp [h]⟩
  simp [nameR,this]
theorem nameR_t {nm:ByteArray} (h1:decide (((nm.size:Nat):Int) < 1)=false) (h2:decide (255 < ((nm.size:Nat):Int))=false) (h:∀ j,j < nm.size→badAt nm j=false):nameR nm=true:=by
  have:(List.range nm.size).all (fun i=>!badAt nm i)=true:=by
    rw [List.all_eq_true];intro i hi;simp [h i (List.mem_range.1 hi)]
  simp only[nameR,this,h1,h2];rfl
def ixI (zs:List Int) (n:Int):Int:=match zs.findIdx? (fun z=>n==z) with
  | some i=>((i:Nat):Int)
  | none=>-1
theorem ixI_at {zs:List Int} {n:Int} {i:Nat} (hi:i < zs.length) (h:(n==zs[i]?.getD 0)=true) (hj:∀ j,j < i→(n==zs[j]?.getD 0)=false):ixI zs n=((i:Nat):Int):=by
  have:zs.findIdx? (fun z=>n==z)=some i:=by
    rw [List.findIdx?_eq_some_iff_getElem];refine ⟨hi,by rw [List.getElem?_eq_getElem hi] at h;exact h,fun j hji=>?_⟩;have:=hj j hji;rw [List.getElem?_eq_getElem (by omega)] at this
    simp at this ⊢
    exact this
  simp [ixI,this]
theorem ixI_no {zs:List Int} {n:Int} (hj:∀ j,j < zs.length→(n==zs[j]?.getD 0)=false):ixI zs n=-1:=by
  have:zs.findIdx? (fun z=>n==z)=none:=by
    rw [List.findIdx?_eq_none_iff];intro x hx;obtain ⟨i,hi,rfl⟩:=List.getElem_of_mem hx;have:=hj i hi;rw [List.getElem?_eq_getElem hi] at this;exact this
  simp [ixI,this]
theorem has_at {zs:List Int} {n:Int} {i:Nat} (hi:i < zs.length) (h:(zs[i]?.getD 0==n)=true):hasB zs n=true:=by
  unfold hasB;rw [List.contains_iff_mem];rw [List.getElem?_eq_getElem hi] at h;have:=eq_of_beq h
  simp at this
  exact this ▸ List.getElem_mem hi
theorem has_no {zs:List Int} {n:Int} (hj:∀ j,j < zs.length→(zs[j]?.getD 0==n)=false):hasB zs n=false:=by
  unfold hasB;cases hc:zs.contains n
  · rfl
  · rw [List.contains_iff_mem] at hc
    obtain ⟨i,hi,rfl⟩:=List.getElem_of_mem hc;have:=hj i hi;rw [List.getElem?_eq_getElem hi] at this
    simp at this
theorem ix_has (zs:List Int) (n:Int):decide (0≤ixI zs n)=hasB zs n:=by
  by_cases h:∃ i,i < zs.length∧(n==zs[i]?.getD 0)=true
  · obtain ⟨i,hi,hh⟩:=h
    have h1:hasB zs n=true:=has_at hi (by rw [BEq.comm];exact hh);rw [h1];unfold ixI;cases hf:zs.findIdx? (fun z=>n==z) with
    | some k=>simp
    | none=>
      rw [List.findIdx?_eq_none_iff] at hf;have:=hf _ (List.getElem_mem hi);rw [List.getElem?_eq_getElem hi] at hh;simp only[Option.getD_some] at hh;rw [hh] at this;cases this
  · have h2:∀ j,j < zs.length→(n==zs[j]?.getD 0)=false:=fun j hj=>by
      cases hc:(n==zs[j]?.getD 0)
      · rfl
      · exact absurd ⟨j,hj,hc⟩ h
    rw [ixI_no h2,has_no (fun j hj=>by rw [BEq.comm];exact h2 j hj)];rfl
theorem p_zeros (x:Sl) (bs:List Int) (w:World) (hz:RdB w x bs) (hn:x.l≤281474976710656):Calls Tryz.prog 128 #[x.v] w (fun e w'=>e=.returned (.bool (allZ bs))∧Kept No w w'):=by
  refine hidC fun C HC=>?_;have HRB:Hid (RdB w x bs):=hz;clear hz;have HF:Hid (Fq No w w []):=Fq.start _ _;go_enter Tryz.func128,Tryz.ntmps128;go_upto_region 0 with fail;refine Sg<|tF<|Nl ?_;simp only[pS];go_upto_region 1 with fail;refine Sg<|tK (x.v)<|tK (.int .i64 ((x.l:Nat):Int))<|tK (.int .i64 0)<|Nl ?_;simp only[pS];go_wp2
  go_loopw [7] (fun v7 wr=>∃ i:Nat,v7=.int .i64 ((i:Nat):Int)∧i≤x.l∧Hid (∀ j,j < i→(bs[j]?.getD 0==0)=true)∧Hid (Fq No w wr [])) (fun v7 _=>x.l - (intOf v7).toNat)
  case atStart=>exact ⟨0,by go_num,by omega,fun j hj=>absurd hj (Nat.not_lt_zero _),HF⟩
  case round=>
    clear HF;obtain ⟨i,rfl,hi,HP,HF⟩:=hrel
    by_cases hlt:i < x.l
    ·obtain ⟨b,off,hsl,hc⟩:=RdB.at HRB.out (i:=i) (by omega);go_upto_region 2 with fail;refine Sg<|bN (lI (a:=((i:Nat):Int)) (b:=((x.l:Nat):Int)) (decide_eq_true (by omega)))<|Nl ?_;simp only[pS];go_upto_region 3 with fail;refine Sg<|iS (s:=x) (i:=i) hsl E35 F35 (by omega)<|lR (load_one (HF.out.kept.cell hc (fun e=>e)) U5 rfl)<|tK (.int .u8 (bs[i]?.getD 0))<|Nl ?_;simp only[pS];go_upto_region 4 with fail;refine Sg<|tK (.int .u8 (bs[i]?.getD 0))<|?_;simp only[pS];cases q1:(bs[i]?.getD 0==0)
     ·refine bN (qn0U q1)<|Nl ?_;simp only[pS];go_upto_region 5 with fail;refine Sg<|tF<|Nl ?_;simp only[pS];go_wp2;rw [HC.out];exact ⟨ret_bool (by rw [show allZ bs=false from all_f (d:=0) (by rw [HRB.out.len];exact hlt) (by rw [q1])]),HF.out.kept⟩
     refine bN (qn1U q1)<|Nl ?_;simp only[pS];go_upto_region 6 with fail;refine Sg<|bN (v:=.int .i64 (((i+1):Nat):Int)) (b_addw ((i:Nat):Int) 1 (((i+1):Nat):Int) (by rw [IntKind.wrap_i64];omega))<|tK (.int .i64 (((i+1):Nat):Int))<|Nl ?_;simp only[pS];go_wp2;go_roundw
     case rel=>exact ⟨i+1,by go_num,by omega,up_j HP.out q1,HF⟩
     case measure=>simp [intOf];omega
    ·go_upto_region 2 with fail;refine Sg<|bN (lI (a:=((i:Nat):Int)) (b:=((x.l:Nat):Int)) (decide_eq_false (by omega)))<|Nl ?_;simp only[pS];go_upto_region 7 with fail;refine Sg<|tU<|Nl ?_;simp only[pS];go_wp2;rw [HC.out];exact ⟨ret_bool (by rw [show allZ bs=true from all_t (d:=0) (fun j hj=>HP.out j (by rw [HRB.out.len] at hj;omega))]),HF.out.kept⟩
theorem r_zeros (x:Sl) (bs:List Int) (w:World) (hz:RdB w x bs) (hn:x.l≤281474976710656):Calls Tryz.prog 133 #[x.v] w (fun e w'=>e=.returned (.bool (allZ bs))∧Kept No w w'):=by
  refine hidC fun C HC=>?_;have HRB:Hid (RdB w x bs):=hz;clear hz;have HF:Hid (Fq No w w []):=Fq.start _ _;go_enter Tryz.func133,Tryz.ntmps133;go_upto_region 0 with fail;refine Sg<|tF<|Nl ?_;simp only[pS];go_upto_region 1 with fail;refine Sg<|tK (.int .i64 0)<|Nl ?_;simp only[pS];go_wp2
  go_loopw [3] (fun v3 wr=>∃ i:Nat,v3=.int .i64 ((i:Nat):Int)∧i≤x.l∧Hid (∀ j,j < i→(bs[j]?.getD 0==0)=true)∧Hid (Fq No w wr [])) (fun v3 _=>x.l - (intOf v3).toNat)
  case atStart=>exact ⟨0,by go_num,by omega,fun j hj=>absurd hj (Nat.not_lt_zero _),HF⟩
  case round=>
    clear HF;obtain ⟨i,rfl,hi,HP,HF⟩:=hrel
    by_cases hlt:i < x.l
    ·obtain ⟨b,off,hsl,hc⟩:=RdB.at HRB.out (i:=i) (by omega);go_upto_region 2 with fail;refine Sg<|tK (.int .i64 ((i:Nat):Int))<|tK (x.v)<|tK (.int .i64 ((x.l:Nat):Int))<|bN (lI (a:=((i:Nat):Int)) (b:=((x.l:Nat):Int)) (decide_eq_true (by omega)))<|Nl ?_;simp only[pS];go_upto_region 4 with fail;refine Sg<|tK (x.v)<|tK (.int .i64 ((i:Nat):Int))<|iS (s:=x) (i:=i) hsl E35 F35 (by omega)<|lR (load_one (HF.out.kept.cell hc (fun e=>e)) U5 rfl)<|?_;simp only[pS];cases q1:(bs[i]?.getD 0==0)
     ·refine bN (qn0U q1)<|Nl ?_;simp only[pS];go_upto_region 5 with fail;refine Sg<|tF<|Nl ?_;simp only[pS];go_wp2;rw [HC.out];exact ⟨ret_bool (by rw [show allZ bs=false from all_f (d:=0) (by rw [HRB.out.len];exact hlt) (by rw [q1])]),HF.out.kept⟩
     refine bN (qn1U q1)<|Nl ?_;simp only[pS];go_upto_region 3 with fail;refine Sg<|tK (.int .i64 ((i:Nat):Int))<|bN (v:=.int .i64 (((i+1):Nat):Int)) (b_addw ((i:Nat):Int) 1 (((i+1):Nat):Int) (by rw [IntKind.wrap_i64];omega))<|tK (.int .i64 (((i+1):Nat):Int))<|Nl ?_;simp only[pS];go_wp2;go_roundw
     case rel=>exact ⟨i+1,by go_num,by omega,up_j HP.out q1,HF⟩
     case measure=>simp [intOf];omega
    ·go_upto_region 2 with fail;refine Sg<|tK (.int .i64 ((i:Nat):Int))<|tK (x.v)<|tK (.int .i64 ((x.l:Nat):Int))<|bN (lI (a:=((i:Nat):Int)) (b:=((x.l:Nat):Int)) (decide_eq_false (by omega)))<|Nl ?_;simp only[pS];go_upto_region 6 with fail;refine Sg<|tU<|Nl ?_;simp only[pS];go_wp2;rw [HC.out];exact ⟨ret_bool (by rw [show allZ bs=true from all_t (d:=0) (fun j hj=>HP.out j (by rw [HRB.out.len] at hj;omega))]),HF.out.kept⟩
theorem p_IndexI (x:Sl) (zs:List Int) (n:Int) (w:World) (hz:RdI w x zs) (hn:x.l≤281474976710656):Calls Tryz.prog 228 #[x.v,.int .i64 n] w (fun e w'=>e=.returned (.int .i64 (ixI zs n))∧Kept No w w'):=by
  refine hidC fun C HC=>?_;have HZ:Hid (RdI w x zs):=hz;clear hz;have HF:Hid (Fq No w w []):=Fq.start _ _;go_enter Tryz.func228,Tryz.ntmps228;go_upto_region 0 with fail;refine Sg<|tK (.int .i64 0)<|Nl ?_;simp only[pS];go_upto_region 1 with fail;refine Sg<|tK (x.v)<|tK (.int .i64 ((x.l:Nat):Int))<|tK (.int .i64 0)<|Nl ?_;simp only[pS];go_wp2
  go_loopw [8] (fun v8 wr=>∃ i:Nat,v8=.int .i64 ((i:Nat):Int)∧i≤x.l∧Hid (∀ j,j < i→(n==zs[j]?.getD 0)=false)∧Hid (Fq No w wr [])) (fun v8 _=>x.l - (intOf v8).toNat)
  case atStart=>exact ⟨0,by go_num,by omega,fun j hj=>absurd hj (Nat.not_lt_zero _),HF⟩
  case round=>
    clear HF;obtain ⟨i,rfl,hi,HP,HF⟩:=hrel
    by_cases hlt:i < x.l
    ·obtain ⟨b,off,hsl,hc⟩:=RdI.at HZ.out (i:=i) (by omega);go_upto_region 2 with fail;refine Sg<|bN (lI (a:=((i:Nat):Int)) (b:=((x.l:Nat):Int)) (decide_eq_true (by omega)))<|Nl ?_;simp only[pS];go_upto_region 3 with fail;refine Sg<|tK (.int .i64 ((i:Nat):Int))<|tK (.int .i64 ((i:Nat):Int))<|Nl ?_;simp only[pS];go_upto_region 4 with fail;refine Sg<|tK (.int .i64 n)<|tK (x.v)<|tK (.int .i64 ((i:Nat):Int))<|iS (s:=x) (i:=i) hsl E22 F22 (by omega)<|lR (load_one (HF.out.kept.cell hc (fun e=>e)) U3 rfl)<|?_;simp only[pS];cases q1:(n==(zs[i]?.getD 0));rotate_left
     ·refine bN (eI q1)<|Nl ?_;simp only[pS];go_upto_region 5 with fail;refine Sg<|tK (.int .i64 ((i:Nat):Int))<|tK (.int .i64 ((i:Nat):Int))<|Nl ?_;simp only[pS];go_wp2;rw [HC.out];exact ⟨by rw [ixI_at (by rw [HZ.out.len];exact hlt) q1 HP.out];rfl,HF.out.kept⟩
     refine bN (eI q1)<|Nl ?_;simp only[pS];go_upto_region 6 with fail;refine Sg<|bN (v:=.int .i64 (((i+1):Nat):Int)) (b_addw ((i:Nat):Int) 1 (((i+1):Nat):Int) (by rw [IntKind.wrap_i64];omega))<|tK (.int .i64 (((i+1):Nat):Int))<|Nl ?_;simp only[pS];go_wp2;go_roundw
     case rel=>exact ⟨i+1,by go_num,by omega,up_j HP.out q1,HF⟩
     case measure=>simp [intOf];omega
    ·go_upto_region 2 with fail;refine Sg<|bN (lI (a:=((i:Nat):Int)) (b:=((x.l:Nat):Int)) (decide_eq_false (by omega)))<|Nl ?_;simp only[pS];go_upto_region 7 with fail;refine Sg<|tK (.int .i64 (-1))<|Nl ?_;simp only[pS];go_wp2;rw [HC.out];exact ⟨by rw [ixI_no (fun j hj=>HP.out j (by rw [HZ.out.len] at hj;omega))];rfl,HF.out.kept⟩
theorem p_ContainsI (x:Sl) (zs:List Int) (n:Int) (w:World) (hz:RdI w x zs) (hn:x.l≤281474976710656):Calls Tryz.prog 213 #[x.v,.int .i64 n] w (fun e w'=>e=.returned (.bool (hasB zs n))∧Kept No w w'):=by
  refine hidC fun C HC=>?_;have HZ:Hid (RdI w x zs):=hz;clear hz;have HF:Hid (Fq No w w []):=Fq.start _ _;go_enter Tryz.func213,Tryz.ntmps213;go_upto_region 0 with fail;refine Sg<|tF<|Nl ?_;simp only[pS];go_upto_region 1 with fail;refine Sg<|tK (x.v)<|tK (.int .i64 n)<|cV (p_IndexI x zs n _ (HZ.out.no HF.out.kept) hn) HF fun w1 HF=>?_;simp only[pS];cases q1:(decide (0≤(ixI zs n)))
  ·refine bN (geI q1)<|tF<|Nl ?_;simp only[pS];go_wp2;rw [HC.out];exact ⟨ret_bool (by rw [← ix_has,q1]),HF.out.kept⟩
  refine bN (geI q1)<|tU<|Nl ?_;simp only[pS];go_wp2;rw [HC.out];exact ⟨ret_bool (by rw [← ix_has,q1]),HF.out.kept⟩
theorem q_Has (x:Sl) (zs:List Int) (n:Int) (w:World) (hz:RdI w x zs) (hn:x.l≤281474976710656):Calls Tryz.prog 172 #[x.v,.int .i64 n] w (fun e w'=>e=.returned (.bool (hasB zs n))∧Kept No w w'):=by
  refine hidC fun C HC=>?_;have HZ:Hid (RdI w x zs):=hz;clear hz;have HF:Hid (Fq No w w []):=Fq.start _ _;go_enter Tryz.func172,Tryz.ntmps172;go_upto_region 0 with fail;refine Sg<|tF<|Nl ?_;simp only[pS];go_upto_region 1 with fail;refine Sg<|tK (.int .i64 0)<|Nl ?_;simp only[pS];go_wp2
  go_loopw [5] (fun v5 wr=>∃ i:Nat,v5=.int .i64 ((i:Nat):Int)∧i≤x.l∧Hid (∀ j,j < i→(zs[j]?.getD 0==n)=false)∧Hid (Fq No w wr [])) (fun v5 _=>x.l - (intOf v5).toNat)
  case atStart=>exact ⟨0,by go_num,by omega,fun j hj=>absurd hj (Nat.not_lt_zero _),HF⟩
  case round=>
    clear HF;obtain ⟨i,rfl,hi,HP,HF⟩:=hrel
    by_cases hlt:i < x.l
    ·obtain ⟨b,off,hsl,hc⟩:=RdI.at HZ.out (i:=i) (by omega);go_upto_region 2 with fail;refine Sg<|tK (.int .i64 ((i:Nat):Int))<|tK (x.v)<|tK (.int .i64 ((x.l:Nat):Int))<|bN (lI (a:=((i:Nat):Int)) (b:=((x.l:Nat):Int)) (decide_eq_true (by omega)))<|Nl ?_;simp only[pS];go_upto_region 4 with fail;refine Sg<|tK (x.v)<|tK (.int .i64 ((i:Nat):Int))<|iS (s:=x) (i:=i) hsl E22 F22 (by omega)<|lR (load_one (HF.out.kept.cell hc (fun e=>e)) U3 rfl)<|tK (.int .i64 n)<|?_;simp only[pS];cases q1:((zs[i]?.getD 0)==n);rotate_left
     ·refine bN (eI q1)<|Nl ?_;simp only[pS];go_upto_region 5 with fail;refine Sg<|tU<|Nl ?_;simp only[pS];go_wp2;rw [HC.out];exact ⟨ret_bool (by rw [has_at (by rw [HZ.out.len];exact hlt) q1]),HF.out.kept⟩
     refine bN (eI q1)<|Nl ?_;simp only[pS];go_upto_region 3 with fail;refine Sg<|tK (.int .i64 ((i:Nat):Int))<|bN (v:=.int .i64 (((i+1):Nat):Int)) (b_addw ((i:Nat):Int) 1 (((i+1):Nat):Int) (by rw [IntKind.wrap_i64];omega))<|tK (.int .i64 (((i+1):Nat):Int))<|Nl ?_;simp only[pS];go_wp2;go_roundw
     case rel=>exact ⟨i+1,by go_num,by omega,up_j HP.out q1,HF⟩
     case measure=>simp [intOf];omega
    ·go_upto_region 2 with fail;refine Sg<|tK (.int .i64 ((i:Nat):Int))<|tK (x.v)<|tK (.int .i64 ((x.l:Nat):Int))<|bN (lI (a:=((i:Nat):Int)) (b:=((x.l:Nat):Int)) (decide_eq_false (by omega)))<|Nl ?_;simp only[pS];go_upto_region 6 with fail;refine Sg<|tF<|Nl ?_;simp only[pS];go_wp2;rw [HC.out];exact ⟨ret_bool (by rw [has_no (fun j hj=>HP.out j (by rw [HZ.out.len] at hj;omega))]),HF.out.kept⟩
theorem r_IsName (x:ByteArray) (w:World):Calls Tryz.prog 105 #[.string x] w (fun e w'=>e=.returned (.bool (nameR x))∧Kept No w w'):=by
  refine hidC fun C HC=>?_;have HF:Hid (Fq No w w []):=Fq.start _ _;go_enter Tryz.func105,Tryz.ntmps105;go_upto_region 0 with fail;refine Sg<|tF<|Nl ?_;simp only[pS];go_upto_region 1 with fail;refine Sg<|tK (.string x)<|tK (.int .i64 ((x.size:Nat):Int))<|?_;simp only[pS];cases q1:(decide (((x.size:Nat):Int) < 1));rotate_left
  ·refine bN (lI q1)<|tU<|sK<|sK<|sK<|tU<|Nl ?_;simp only[pS];go_upto_region 2 with fail;refine Sg<|tF<|Nl ?_;simp only[pS];go_wp2;exact lf C HC HF (by simp only[*,nameR,bsq])
  refine bN (lI q1)<|tF<|tK (.string x)<|tK (.int .i64 ((x.size:Nat):Int))<|?_;simp only[pS];cases q2:(decide (255 < ((x.size:Nat):Int)));rotate_left
  ·refine bN (gI q2)<|tU<|Nl ?_;simp only[pS];go_upto_region 2 with fail;refine Sg<|tF<|Nl ?_;simp only[pS];go_wp2;exact lf C HC HF (by simp only[*,nameR,bsq])
  refine bN (gI q2)<|tF<|Nl ?_;simp only[pS];go_upto_region 3 with fail;refine Sg<|tK (.int .i64 0)<|Nl ?_;simp only[pS];have hn:x.size≤255:=by have:=of_decide_eq_false q2;omega
  go_wp2
  go_loopw [3] (fun v3 wr=>∃ i:Nat,v3=.int .i64 ((i:Nat):Int)∧i≤x.size∧Hid (∀ j,j < i→badAt x j=false)∧Hid (Fq No w wr [])) (fun v3 _=>x.size - (intOf v3).toNat)
  case atStart=>exact ⟨0,by go_num,by omega,fun j hj=>absurd hj (Nat.not_lt_zero _),HF⟩
  case round=>
    clear HF;obtain ⟨i,rfl,hi,HP,HF⟩:=hrel
    by_cases hlt:i < x.size
    ·go_upto_region 4 with fail;refine Sg<|tK (.int .i64 ((i:Nat):Int))<|tK (.string x)<|tK (.int .i64 ((x.size:Nat):Int))<|bN (lI (a:=((i:Nat):Int)) (b:=((x.size:Nat):Int)) (decide_eq_true (by omega)))<|Nl ?_;simp only[pS];go_upto_region 6 with fail;refine Sg<|tK (.string x)<|tK (.int .i64 ((i:Nat):Int))<|iX (by omega)<|?_;simp only[pS];cases q3:(((x[i]?.getD 1).toNat:Int)==0);rotate_left
     ·refine bN (v:=.bool true) (eU q3)<|tU<|sK<|sK<|sK<|sK<|tU<|Nl ?_;simp only[pS];go_upto_region 7 with fail;refine Sg<|tF<|Nl ?_;simp only[pS];go_wp2;rw [HC.out];exact ⟨ret_bool (by rw [nameR_f hlt (by simp only[badAt,bsq,q3])]),HF.out.kept⟩
     refine bN (v:=.bool false) (eU q3)<|tF<|tK (.string x)<|tK (.int .i64 ((i:Nat):Int))<|iX (by omega)<|?_;simp only[pS];cases q4:(((x[i]?.getD 1).toNat:Int)==47);rotate_left
     ·refine bN (v:=.bool true) (eU q4)<|tU<|Nl ?_;simp only[pS];go_upto_region 7 with fail;refine Sg<|tF<|Nl ?_;simp only[pS];go_wp2;rw [HC.out];exact ⟨ret_bool (by rw [nameR_f hlt (by simp only[badAt,bsq,q3,q4])]),HF.out.kept⟩
     refine bN (v:=.bool false) (eU q4)<|tF<|Nl ?_;simp only[pS];go_upto_region 5 with fail;refine Sg<|tK (.int .i64 ((i:Nat):Int))<|bN (v:=.int .i64 (((i+1):Nat):Int)) (b_addw ((i:Nat):Int) 1 (((i+1):Nat):Int) (by rw [IntKind.wrap_i64];omega))<|tK (.int .i64 (((i+1):Nat):Int))<|Nl ?_;simp only[pS];go_wp2;go_roundw
     case rel=>exact ⟨i+1,by go_num,by omega,up_j HP.out (by simp only[badAt,q3,q4,bsq]),HF⟩
     case measure=>simp [intOf];omega
    ·go_upto_region 4 with fail;refine Sg<|tK (.int .i64 ((i:Nat):Int))<|tK (.string x)<|tK (.int .i64 ((x.size:Nat):Int))<|bN (lI (a:=((i:Nat):Int)) (b:=((x.size:Nat):Int)) (decide_eq_false (by omega)))<|Nl ?_;simp only[pS];go_upto_region 8 with fail;refine Sg<|tU<|Nl ?_;simp only[pS];go_wp2;rw [HC.out];exact ⟨ret_bool (by rw [nameR_t q1 q2 (fun j hj=>HP.out j (by omega))]),HF.out.kept⟩
theorem p_isServer (x:Ad) (c:Cg) (zs:List Int) (w:World) (hz:RdI w c.sv zs) (hn:c.sv.l≤281474976710656):Calls Tryz.prog 166 #[.agg (Ad.cells x),.agg (Cg.cells c)] w (fun e w'=>e=.returned (.bool (srvB zs x))∧Kept No w w'):=by
  refine hidC fun C HC=>?_;have HZ:Hid (RdI w c.sv zs):=hz;clear hz;have HF:Hid (Fq No w w []):=Fq.start _ _;go_enter Tryz.func166,Tryz.ntmps166;go_upto_region 0 with fail;refine Sg<|xB (Ad.cells x) HF fun g1 w2 HF=>xB (Cg.cells c) HF fun g3 w4 HF=>tF<|Nl ?_;simp only[pS];go_upto_region 1 with fail;refine Sg<|tK (pg g1 0)<|lD (.bool x.cl) HF 0 0 U4 rfl<|?_;simp only[pS];cases q1:(x.cl);rotate_left
  ·refine tF<|tF<|sK<|sK<|sK<|sK<|sK<|tF<|tF<|Nl ?_;simp only[pS];go_wp2;exact lf C HC HF (by simp only[*,srvB,bsq])
  refine tU<|tU<|tK (pg g3 0)<|lD (c.sv.v) HF 1 0 U22 rfl<|tK (pg g1 1)<|lD (.int .i64 x.id) HF 0 1 U3 rfl<|?_;simp only[pS];cases q2:(hasB zs x.id)
  ·refine cB (p_ContainsI c.sv zs x.id _ (HZ.out.no HF.out.kept) hn) q2 HF fun w5 HF=>tF<|tF<|Nl ?_;simp only[pS];go_wp2;exact lf C HC HF (by simp only[*,srvB,bsq])
  refine cB (p_ContainsI c.sv zs x.id _ (HZ.out.no HF.out.kept) hn) q2 HF fun w6 HF=>tU<|tU<|Nl ?_;simp only[pS];go_wp2;exact lf C HC HF (by simp only[*,srvB,bsq])
theorem r_server (x:Ad) (c:Cg) (zs:List Int) (w:World) (hz:RdI w c.sv zs) (hn:c.sv.l≤281474976710656):Calls Tryz.prog 94 #[.agg (Ad.cells x),.agg (Cg.cells c)] w (fun e w'=>e=.returned (.bool (srvB zs x))∧Kept No w w'):=by
  refine hidC fun C HC=>?_;have HZ:Hid (RdI w c.sv zs):=hz;clear hz;have HF:Hid (Fq No w w []):=Fq.start _ _;go_enter Tryz.func94,Tryz.ntmps94;go_upto_region 0 with fail;refine Sg<|xB (Ad.cells x) HF fun g1 w2 HF=>xB (Cg.cells c) HF fun g3 w4 HF=>tF<|Nl ?_;simp only[pS];go_upto_region 1 with fail;refine Sg<|tK (pg g1 0)<|lD (.bool x.cl) HF 0 0 U4 rfl<|?_;simp only[pS];cases q1:(x.cl);rotate_left
  ·refine tF<|tF<|sK<|sK<|sK<|sK<|sK<|tF<|tF<|Nl ?_;simp only[pS];go_wp2;exact lf C HC HF (by simp only[*,srvB,bsq])
  refine tU<|tU<|tK (pg g3 0)<|lD (c.sv.v) HF 1 0 U22 rfl<|tK (pg g1 1)<|lD (.int .i64 x.id) HF 0 1 U3 rfl<|?_;simp only[pS];cases q2:(hasB zs x.id)
  ·refine cB (q_Has c.sv zs x.id _ (HZ.out.no HF.out.kept) hn) q2 HF fun w5 HF=>tF<|tF<|Nl ?_;simp only[pS];go_wp2;exact lf C HC HF (by simp only[*,srvB,bsq])
  refine cB (q_Has c.sv zs x.id _ (HZ.out.no HF.out.kept) hn) q2 HF fun w6 HF=>tU<|tU<|Nl ?_;simp only[pS];go_wp2;exact lf C HC HF (by simp only[*,srvB,bsq])
theorem p_rightBlock (x:Bl) (c:Cg) (bs:List Int) (w:World) (hz:RdB w x.d bs) (hn:x.d.l≤281474976710656):Calls Tryz.prog 60 #[.agg (Bl.cells x),.agg (Cg.cells c)] w (fun e w'=>e=.returned (.bool (blkB c.bl x bs))∧Kept No w w'):=by
  refine hidC fun C HC=>?_;have HRB:Hid (RdB w x.d bs):=hz;clear hz;have HF:Hid (Fq No w w []):=Fq.start _ _;go_enter Tryz.func60,Tryz.ntmps60;go_upto_region 0 with fail;refine Sg<|xB (Bl.cells x) HF fun g1 w2 HF=>xB (Cg.cells c) HF fun g3 w4 HF=>tF<|Nl ?_;simp only[pS];go_upto_region 1 with fail;refine Sg<|tK (pg g1 2)<|lD (x.d.v) HF 0 2 U35 rfl<|tK (.int .i64 ((x.d.l:Nat):Int))<|tK (pg g3 4)<|lD (.int .i64 c.bl) HF 1 4 U3 rfl<|?_;simp only[pS];cases q1:(((x.d.l:Nat):Int)==c.bl)
  ·refine bN (eI q1)<|tF<|sK<|sK<|sK<|sK<|sK<|sK<|sK<|sK<|sK<|sK<|sK<|sK<|sK<|tF<|tF<|Nl ?_;simp only[pS];go_wp2;exact lf C HC HF (by simp only[*,blkB,bsq])
  refine bN (eI q1)<|tU<|tK (pg g1 0)<|lP (Sp.cs x.s) HF 0 0 U34 S34 (Bl.cs x) rfl<|?_;simp only[pS];cases q2:(oneS x.s);rotate_left
  ·refine cB (p_isOne x.s _) q2 HF fun w10 HF=>tU<|sK<|sK<|sK<|sK<|sK<|sK<|sK<|sK<|tU<|tU<|tU<|Nl ?_;simp only[pS];go_wp2;exact lf C HC HF (by simp only[*,blkB,bsq])
  refine cB (p_isOne x.s _) q2 HF fun w5 HF=>tF<|tK (pg g1 0)<|lP (Sp.cs x.s) HF 0 0 U34 S34 (Bl.cs x) rfl<|?_;simp only[pS];cases q3:(eqS x.s spZ)
  ·refine cB (p_isNone x.s _) q3 HF fun w6 HF=>tF<|sK<|sK<|sK<|tF<|tF<|tF<|tF<|Nl ?_;simp only[pS];go_wp2;exact lf C HC HF (by simp only[*,blkB,bsq])
  refine cB (p_isNone x.s _) q3 HF fun w7 HF=>tU<|tK (pg g1 2)<|lD (x.d.v) HF 0 2 U35 rfl<|?_;simp only[pS];cases q4:(allZ bs)
  ·refine cB (p_zeros x.d bs _ (HRB.out.no HF.out.kept) hn) q4 HF fun w8 HF=>tF<|tF<|tF<|tF<|Nl ?_;simp only[pS];go_wp2;exact lf C HC HF (by simp only[*,blkB,bsq])
  refine cB (p_zeros x.d bs _ (HRB.out.no HF.out.kept) hn) q4 HF fun w9 HF=>tU<|tU<|tU<|tU<|Nl ?_;simp only[pS];go_wp2;exact lf C HC HF (by simp only[*,blkB,bsq])
theorem r_IsBlock (x:Bl) (c:Cg) (bs:List Int) (w:World) (hz:RdB w x.d bs) (hn:x.d.l≤281474976710656):Calls Tryz.prog 62 #[.agg (Bl.cells x),.agg (Cg.cells c)] w (fun e w'=>e=.returned (.bool (blkB c.bl x bs))∧Kept No w w'):=by
  refine hidC fun C HC=>?_;have HRB:Hid (RdB w x.d bs):=hz;clear hz;have HF:Hid (Fq No w w []):=Fq.start _ _;go_enter Tryz.func62,Tryz.ntmps62;go_upto_region 0 with fail;refine Sg<|xB (Bl.cells x) HF fun g1 w2 HF=>xB (Cg.cells c) HF fun g3 w4 HF=>tF<|Nl ?_;simp only[pS];go_upto_region 1 with fail;refine Sg<|tK (pg g1 2)<|lD (x.d.v) HF 0 2 U35 rfl<|tK (.int .i64 ((x.d.l:Nat):Int))<|tK (pg g3 4)<|lD (.int .i64 c.bl) HF 1 4 U3 rfl<|?_;simp only[pS];cases q1:(((x.d.l:Nat):Int)==c.bl)
  ·refine bN (eI q1)<|tF<|sK<|sK<|sK<|sK<|sK<|sK<|sK<|sK<|sK<|sK<|sK<|sK<|sK<|tF<|tF<|Nl ?_;simp only[pS];go_wp2;exact lf C HC HF (by simp only[*,blkB,bsq])
  refine bN (eI q1)<|tU<|tK (pg g1 0)<|lP (Sp.cs x.s) HF 0 0 U34 S34 (Bl.cs x) rfl<|?_;simp only[pS];cases q2:(oneS x.s);rotate_left
  ·refine cB (r_One x.s _) q2 HF fun w10 HF=>tU<|sK<|sK<|sK<|sK<|sK<|sK<|sK<|sK<|tU<|tU<|tU<|Nl ?_;simp only[pS];go_wp2;exact lf C HC HF (by simp only[*,blkB,bsq])
  refine cB (r_One x.s _) q2 HF fun w5 HF=>tF<|tK (pg g1 0)<|lP (Sp.cs x.s) HF 0 0 U34 S34 (Bl.cs x) rfl<|?_;simp only[pS];cases q3:(eqS x.s spZ)
  ·refine cB (r_None x.s _) q3 HF fun w6 HF=>tF<|sK<|sK<|sK<|tF<|tF<|tF<|tF<|Nl ?_;simp only[pS];go_wp2;exact lf C HC HF (by simp only[*,blkB,bsq])
  refine cB (r_None x.s _) q3 HF fun w7 HF=>tU<|tK (pg g1 2)<|lD (x.d.v) HF 0 2 U35 rfl<|?_;simp only[pS];cases q4:(allZ bs)
  ·refine cB (r_zeros x.d bs _ (HRB.out.no HF.out.kept) hn) q4 HF fun w8 HF=>tF<|tF<|tF<|tF<|Nl ?_;simp only[pS];go_wp2;exact lf C HC HF (by simp only[*,blkB,bsq])
  refine cB (r_zeros x.d bs _ (HRB.out.no HF.out.kept) hn) q4 HF fun w9 HF=>tU<|tU<|tU<|tU<|Nl ?_;simp only[pS];go_wp2;exact lf C HC HF (by simp only[*,blkB,bsq])
theorem r_IsCommand (x:Cm) (c:Cg) (w:World) (hb:0≤c.bl∧c.bl≤4096):Calls Tryz.prog 45 #[.agg (Cm.cells x),.agg (Cg.cells c)] w (fun e w'=>e=.returned (.bool (cmdR c.bl x))∧Kept No w w'):=by
  refine hidC fun C HC=>?_;have HB:Hid (0≤c.bl∧c.bl≤4096):=hb;clear hb;have HF:Hid (Fq No w w []):=Fq.start _ _;go_enter Tryz.func45,Tryz.ntmps45;go_upto_region 0 with fail;refine Sg<|xB (Cm.cells x) HF fun g1 w2 HF=>xB (Cg.cells c) HF fun g3 w4 HF=>tF<|Nl ?_;simp only[pS];go_upto_region 1 with fail;refine Sg<|tK (pg g1 0)<|lD (.int .i64 x.k) HF 0 0 U3 rfl<|?_;simp only[pS];cases q1:(wn x.k 1 7)
  ·refine cB (r_within x.k 1 7 _) q1 HF fun w5 HF=>tU<|tU<|sK<|sK<|sK<|sK<|tU<|tU<|sK<|sK<|sK<|sK<|tU<|Nl ?_;simp only[pS];go_upto_region 2 with fail;refine Sg<|tF<|Nl ?_;simp only[pS];go_wp2;exact lf C HC HF (by simp only[*,cmdR,bsq])
  refine cB (r_within x.k 1 7 _) q1 HF fun w6 HF=>tF<|tF<|tK (pg g1 1)<|lD (.int .i64 x.cl) HF 0 1 U3 rfl<|?_;simp only[pS];cases q2:(wn x.cl 1 255)
  ·refine cB (r_within x.cl 1 255 _) q2 HF fun w7 HF=>tU<|tU<|tU<|sK<|sK<|sK<|sK<|tU<|Nl ?_;simp only[pS];go_upto_region 2 with fail;refine Sg<|tF<|Nl ?_;simp only[pS];go_wp2;exact lf C HC HF (by simp only[*,cmdR,bsq])
  refine cB (r_within x.cl 1 255 _) q2 HF fun w8 HF=>tF<|tF<|tF<|tK (pg g1 2)<|lD (.int .i64 x.op) HF 0 2 U3 rfl<|?_;simp only[pS];cases q3:(wn x.op 1 1099511627776)
  ·refine cB (r_within x.op 1 1099511627776 _) q3 HF fun w9 HF=>tU<|tU<|Nl ?_;simp only[pS];go_upto_region 2 with fail;refine Sg<|tF<|Nl ?_;simp only[pS];go_wp2;exact lf C HC HF (by simp only[*,cmdR,bsq])
  refine cB (r_within x.op 1 1099511627776 _) q3 HF fun w10 HF=>tF<|tF<|Nl ?_;simp only[pS];go_upto_region 3 with fail;refine Sg<|tK (pg g1 0)<|lD (.int .i64 x.k) HF 0 0 U3 rfl<|?_;simp only[pS];cases q4:(x.k==4);rotate_left
  ·refine bN (eI q4)<|tU<|tK (pg g1 3)<|lD (.string x.nm) HF 0 3 U9 rfl<|?_;simp only[pS];cases q17:(eqN x.nm ⟨#[]⟩)
   ·refine bN (nN0 q17)<|tU<|tU<|sK<|sK<|sK<|sK<|sK<|sK<|sK<|sK<|sK<|tU<|Nl ?_;simp only[pS];go_upto_region 4 with fail;refine Sg<|tF<|Nl ?_;simp only[pS];go_wp2;exact lf C HC HF (by simp only[*,cmdR,bsq])
   refine bN (nN1 q17)<|tF<|tF<|tK (pg g1 0)<|lD (.int .i64 x.k) HF 0 0 U3 rfl<|bN (nI1 q4)<|tF<|sK<|sK<|sK<|sK<|tF<|tF<|Nl ?_;simp only[pS];go_upto_region 5 with fail;refine Sg<|tK (pg g1 0)<|lD (.int .i64 x.k) HF 0 0 U3 rfl<|?_;simp only[pS];have q18:(decide (x.k < 5))=true:=by rw [eq_of_beq q4];rfl
   refine bN (lI q18)<|Nl ?_;simp only[pS];go_upto_region 6 with fail;refine Sg<|tK (pg g1 4)<|lP (Fi.cs ⟨x.f0,x.f1⟩) HF 0 4 U37 S37 (Cm.cs x) rfl<|bD (Fi.cells fiZ)<|?_;simp only[pS];cases q19:(eqFi ⟨x.f0,x.f1⟩ fiZ)
   ·refine bN (qeFi q19)<|tF<|sK<|sK<|sK<|sK<|tF<|tF<|sK<|sK<|sK<|tF<|tF<|Nl ?_;simp only[pS];go_wp2;exact lf C HC HF (by simp only[*,cmdR,bsq])
   refine bN (qeFi q19)<|tU<|tK (pg g1 6)<|lP (Fi.cs ⟨x.g0,x.g1⟩) HF 0 6 U37 S37 (Cm.cs x) rfl<|bD (Fi.cells fiZ)<|?_;simp only[pS];cases q20:(eqFi ⟨x.g0,x.g1⟩ fiZ)
   ·refine bN (qeFi q20)<|tF<|tF<|sK<|sK<|sK<|tF<|tF<|Nl ?_;simp only[pS];go_wp2;exact lf C HC HF (by simp only[*,cmdR,bsq])
   refine bN (qeFi q20)<|tU<|tU<|tK (pg g1 8)<|lD (.int .i64 x.sz) HF 0 8 U3 rfl<|?_;simp only[pS];cases q21:(x.sz==0)
   ·refine bN (eI q21)<|tF<|tF<|Nl ?_;simp only[pS];go_wp2;exact lf C HC HF (by simp only[*,cmdR,bsq])
   refine bN (eI q21)<|tU<|tU<|Nl ?_;simp only[pS];go_wp2;exact lf C HC HF (by simp only[*,cmdR,bsq])
  refine bN (eI q4)<|tF<|sK<|sK<|sK<|tF<|tF<|tK (pg g1 0)<|lD (.int .i64 x.k) HF 0 0 U3 rfl<|bN (nI0 q4)<|tU<|tK (pg g1 3)<|lD (.string x.nm) HF 0 3 U9 rfl<|?_;simp only[pS];cases q5:(nameR x.nm)
  ·refine cB (r_IsName x.nm _) q5 HF fun w11 HF=>tU<|tU<|tU<|Nl ?_;simp only[pS];go_upto_region 4 with fail;refine Sg<|tF<|Nl ?_;simp only[pS];go_wp2;exact lf C HC HF (by simp only[*,cmdR,bsq])
  refine cB (r_IsName x.nm _) q5 HF fun w12 HF=>tF<|tF<|tF<|Nl ?_;simp only[pS];go_upto_region 5 with fail;refine Sg<|tK (pg g1 0)<|lD (.int .i64 x.k) HF 0 0 U3 rfl<|?_;simp only[pS];cases q6:(decide (x.k < 5));rotate_left
  ·refine bN (lI q6)<|Nl ?_;simp only[pS];go_upto_region 6 with fail;refine Sg<|tK (pg g1 4)<|lP (Fi.cs ⟨x.f0,x.f1⟩) HF 0 4 U37 S37 (Cm.cs x) rfl<|bD (Fi.cells fiZ)<|?_;simp only[pS];cases q14:(eqFi ⟨x.f0,x.f1⟩ fiZ)
   ·refine bN (qeFi q14)<|tF<|sK<|sK<|sK<|sK<|tF<|tF<|sK<|sK<|sK<|tF<|tF<|Nl ?_;simp only[pS];go_wp2;exact lf C HC HF (by simp only[*,cmdR,bsq])
   refine bN (qeFi q14)<|tU<|tK (pg g1 6)<|lP (Fi.cs ⟨x.g0,x.g1⟩) HF 0 6 U37 S37 (Cm.cs x) rfl<|bD (Fi.cells fiZ)<|?_;simp only[pS];cases q15:(eqFi ⟨x.g0,x.g1⟩ fiZ)
   ·refine bN (qeFi q15)<|tF<|tF<|sK<|sK<|sK<|tF<|tF<|Nl ?_;simp only[pS];go_wp2;exact lf C HC HF (by simp only[*,cmdR,bsq])
   refine bN (qeFi q15)<|tU<|tU<|tK (pg g1 8)<|lD (.int .i64 x.sz) HF 0 8 U3 rfl<|?_;simp only[pS];cases q16:(x.sz==0)
   ·refine bN (eI q16)<|tF<|tF<|Nl ?_;simp only[pS];go_wp2;exact lf C HC HF (by simp only[*,cmdR,bsq])
   refine bN (eI q16)<|tU<|tU<|Nl ?_;simp only[pS];go_wp2;exact lf C HC HF (by simp only[*,cmdR,bsq])
  refine bN (lI q6)<|Nl ?_;simp only[pS];go_upto_region 7 with fail;refine Sg<|tK (pg g1 0)<|lD (.int .i64 x.k) HF 0 0 U3 rfl<|?_;simp only[pS];cases q7:(x.k==7)
  ·refine bN (eI q7)<|tF<|sK<|sK<|sK<|sK<|tF<|tF<|tK (pg g1 0)<|lD (.int .i64 x.k) HF 0 0 U3 rfl<|bN (nI0 q7)<|tU<|tK (pg g1 6)<|lP (Fi.cs ⟨x.g0,x.g1⟩) HF 0 6 U37 S37 (Cm.cs x) rfl<|bD (Fi.cells fiZ)<|?_;simp only[pS];cases q8:(eqFi ⟨x.g0,x.g1⟩ fiZ)
   ·refine bN (qn0Fi q8)<|tU<|tU<|Nl ?_;simp only[pS];go_upto_region 8 with fail;refine Sg<|tF<|Nl ?_;simp only[pS];go_wp2;exact lf C HC HF (by simp only[*,cmdR,bsq])
   refine bN (qn1Fi q8)<|tF<|tF<|Nl ?_;simp only[pS];go_upto_region 9 with fail;refine Sg<|tK (pg g1 4)<|lP (Fi.cs ⟨x.f0,x.f1⟩) HF 0 4 U37 S37 (Cm.cs x) rfl<|?_;simp only[pS];cases q9:(filB ⟨x.f0,x.f1⟩)
   ·refine cB (r_IsFile ⟨x.f0,x.f1⟩ _) q9 HF fun w13 HF=>tF<|sK<|sK<|sK<|sK<|tF<|tF<|Nl ?_;simp only[pS];go_wp2;exact lf C HC HF (by simp only[*,cmdR,bsq])
   refine cB (r_IsFile ⟨x.f0,x.f1⟩ _) q9 HF fun w14 HF=>tU<|tK (pg g1 8)<|lD (.int .i64 x.sz) HF 0 8 U3 rfl<|lP (Cg.cs c) HF 1 0 U24 S24 (Cg.cs c) rfl<|?_;simp only[pS];cases q10:(szB c.bl x.sz)
   ·refine cB (r_IsSize x.sz c _ HB) q10 HF fun w15 HF=>tF<|tF<|Nl ?_;simp only[pS];go_wp2;exact lf C HC HF (by simp only[*,cmdR,bsq])
   refine cB (r_IsSize x.sz c _ HB) q10 HF fun w16 HF=>tU<|tU<|Nl ?_;simp only[pS];go_wp2;exact lf C HC HF (by simp only[*,cmdR,bsq])
  refine bN (eI q7)<|tU<|tK (pg g1 6)<|lP (Fi.cs ⟨x.g0,x.g1⟩) HF 0 6 U37 S37 (Cm.cs x) rfl<|?_;simp only[pS];cases q11:(filB ⟨x.g0,x.g1⟩)
  ·refine cB (r_IsFile ⟨x.g0,x.g1⟩ _) q11 HF fun w17 HF=>tU<|tU<|tU<|sK<|sK<|sK<|sK<|sK<|sK<|sK<|sK<|sK<|tU<|Nl ?_;simp only[pS];go_upto_region 8 with fail;refine Sg<|tF<|Nl ?_;simp only[pS];go_wp2;exact lf C HC HF (by simp only[*,cmdR,bsq])
  refine cB (r_IsFile ⟨x.g0,x.g1⟩ _) q11 HF fun w18 HF=>tF<|tF<|tF<|tK (pg g1 0)<|lD (.int .i64 x.k) HF 0 0 U3 rfl<|bN (nI1 q7)<|tF<|sK<|sK<|sK<|sK<|tF<|tF<|Nl ?_;simp only[pS];go_upto_region 9 with fail;refine Sg<|tK (pg g1 4)<|lP (Fi.cs ⟨x.f0,x.f1⟩) HF 0 4 U37 S37 (Cm.cs x) rfl<|?_;simp only[pS];cases q12:(filB ⟨x.f0,x.f1⟩)
  ·refine cB (r_IsFile ⟨x.f0,x.f1⟩ _) q12 HF fun w19 HF=>tF<|sK<|sK<|sK<|sK<|tF<|tF<|Nl ?_;simp only[pS];go_wp2;exact lf C HC HF (by simp only[*,cmdR,bsq])
  refine cB (r_IsFile ⟨x.f0,x.f1⟩ _) q12 HF fun w20 HF=>tU<|tK (pg g1 8)<|lD (.int .i64 x.sz) HF 0 8 U3 rfl<|lP (Cg.cs c) HF 1 0 U24 S24 (Cg.cs c) rfl<|?_;simp only[pS];cases q13:(szB c.bl x.sz)
  ·refine cB (r_IsSize x.sz c _ HB) q13 HF fun w21 HF=>tF<|tF<|Nl ?_;simp only[pS];go_wp2;exact lf C HC HF (by simp only[*,cmdR,bsq])
  refine cB (r_IsSize x.sz c _ HB) q13 HF fun w22 HF=>tU<|tU<|Nl ?_;simp only[pS];go_wp2;exact lf C HC HF (by simp only[*,cmdR,bsq])
theorem r_IsLast (l:La) (up:Int) (c:Cg) (w:World) (hb:0≤c.bl∧c.bl≤4096):Calls Tryz.prog 112 #[.agg (La.cells l),.int .i64 up,.agg (Cg.cells c)] w (fun e w'=>e=.returned (.bool (lastR up c.bl l))∧Kept No w w'):=by
  refine hidC fun C HC=>?_;have HB:Hid (0≤c.bl∧c.bl≤4096):=hb;clear hb;have HF:Hid (Fq No w w []):=Fq.start _ _;go_enter Tryz.func112,Tryz.ntmps112;go_upto_region 0 with fail;refine Sg<|xB (La.cells l) HF fun g1 w2 HF=>xB (Cg.cells c) HF fun g3 w4 HF=>tF<|Nl ?_;simp only[pS];go_upto_region 1 with fail;refine Sg<|tK (pg g1 0)<|lD (.int .i64 l.cl) HF 0 0 U3 rfl<|?_;simp only[pS];cases q1:(wn l.cl 1 255)
  ·refine cB (r_within l.cl 1 255 _) q1 HF fun w5 HF=>tU<|tU<|sK<|sK<|sK<|sK<|tU<|tU<|sK<|sK<|sK<|sK<|sK<|tU<|Nl ?_;simp only[pS];go_upto_region 2 with fail;refine Sg<|tF<|Nl ?_;simp only[pS];go_wp2;exact lf C HC HF (by simp only[*,lastR,bsq])
  refine cB (r_within l.cl 1 255 _) q1 HF fun w6 HF=>tF<|tF<|tK (pg g1 1)<|lD (.int .i64 l.op) HF 0 1 U3 rfl<|?_;simp only[pS];cases q2:(wn l.op 1 1099511627776)
  ·refine cB (r_within l.op 1 1099511627776 _) q2 HF fun w7 HF=>tU<|tU<|tU<|sK<|sK<|sK<|sK<|sK<|tU<|Nl ?_;simp only[pS];go_upto_region 2 with fail;refine Sg<|tF<|Nl ?_;simp only[pS];go_wp2;exact lf C HC HF (by simp only[*,lastR,bsq])
  refine cB (r_within l.op 1 1099511627776 _) q2 HF fun w8 HF=>tF<|tF<|tF<|tK (pg g1 2)<|lD (.int .i64 l.ins) HF 0 2 U3 rfl<|tK (.int .i64 up)<|?_;simp only[pS];cases q3:(wn l.ins 1 up)
  ·refine cB (r_within l.ins 1 up _) q3 HF fun w9 HF=>tU<|tU<|Nl ?_;simp only[pS];go_upto_region 2 with fail;refine Sg<|tF<|Nl ?_;simp only[pS];go_wp2;exact lf C HC HF (by simp only[*,lastR,bsq])
  refine cB (r_within l.ins 1 up _) q3 HF fun w10 HF=>tF<|tF<|Nl ?_;simp only[pS];go_upto_region 3 with fail;refine Sg<|tK (pg g1 3)<|lD (.int .i64 l.er) HF 0 3 U47 rfl<|Nl ?_;simp only[pS];go_upto_region 4 with fail;refine Sg<|?_;cases q4:(l.er==102);rotate_left
  ·refine bN (eI q4)<|tU<|Nl ?_;simp only[pS];go_upto_region 6 with fail;refine Sg<|tK (pg g1 4)<|lP (Fi.cs ⟨l.f0,l.f1⟩) HF 0 4 U37 S37 (La.cs l) rfl<|bD (Fi.cells fiZ)<|?_;simp only[pS];cases q17:(eqFi ⟨l.f0,l.f1⟩ fiZ)
   ·refine bN (qeFi q17)<|tF<|sK<|sK<|sK<|tF<|tF<|Nl ?_;simp only[pS];go_wp2;exact lf C HC HF (by simp only[*,lastR,bsq])
   refine bN (qeFi q17)<|tU<|tK (pg g1 6)<|lD (.int .i64 l.sz) HF 0 6 U3 rfl<|?_;simp only[pS];cases q18:(l.sz==0)
   ·refine bN (eI q18)<|tF<|tF<|Nl ?_;simp only[pS];go_wp2;exact lf C HC HF (by simp only[*,lastR,bsq])
   refine bN (eI q18)<|tU<|tU<|Nl ?_;simp only[pS];go_wp2;exact lf C HC HF (by simp only[*,lastR,bsq])
  refine bN (eI q4)<|tF<|Nl ?_;simp only[pS];go_upto_region 5 with fail;refine Sg<|?_;cases q5:(l.er==103);rotate_left
  ·refine bN (eI q5)<|tU<|Nl ?_;simp only[pS];go_upto_region 6 with fail;refine Sg<|tK (pg g1 4)<|lP (Fi.cs ⟨l.f0,l.f1⟩) HF 0 4 U37 S37 (La.cs l) rfl<|bD (Fi.cells fiZ)<|?_;simp only[pS];cases q15:(eqFi ⟨l.f0,l.f1⟩ fiZ)
   ·refine bN (qeFi q15)<|tF<|sK<|sK<|sK<|tF<|tF<|Nl ?_;simp only[pS];go_wp2;exact lf C HC HF (by simp only[*,lastR,bsq])
   refine bN (qeFi q15)<|tU<|tK (pg g1 6)<|lD (.int .i64 l.sz) HF 0 6 U3 rfl<|?_;simp only[pS];cases q16:(l.sz==0)
   ·refine bN (eI q16)<|tF<|tF<|Nl ?_;simp only[pS];go_wp2;exact lf C HC HF (by simp only[*,lastR,bsq])
   refine bN (eI q16)<|tU<|tU<|Nl ?_;simp only[pS];go_wp2;exact lf C HC HF (by simp only[*,lastR,bsq])
  refine bN (eI q5)<|tF<|Nl ?_;simp only[pS];go_upto_region 7 with fail;refine Sg<|?_;cases q6:(l.er==0);rotate_left
  ·refine bN (eI q6)<|tU<|Nl ?_;simp only[pS];go_upto_region 10 with fail;refine Sg<|tK (pg g1 4)<|lP (Fi.cs ⟨l.f0,l.f1⟩) HF 0 4 U37 S37 (La.cs l) rfl<|?_;simp only[pS];cases q13:(filB ⟨l.f0,l.f1⟩)
   ·refine cB (r_IsFile ⟨l.f0,l.f1⟩ _) q13 HF fun w19 HF=>tF<|sK<|sK<|sK<|sK<|tF<|tF<|Nl ?_;simp only[pS];go_wp2;exact lf C HC HF (by simp only[*,lastR,bsq])
   refine cB (r_IsFile ⟨l.f0,l.f1⟩ _) q13 HF fun w20 HF=>tU<|tK (pg g1 6)<|lD (.int .i64 l.sz) HF 0 6 U3 rfl<|lP (Cg.cs c) HF 1 0 U24 S24 (Cg.cs c) rfl<|?_;simp only[pS];cases q14:(szB c.bl l.sz)
   ·refine cB (r_IsSize l.sz c _ HB) q14 HF fun w21 HF=>tF<|tF<|Nl ?_;simp only[pS];go_wp2;exact lf C HC HF (by simp only[*,lastR,bsq])
   refine cB (r_IsSize l.sz c _ HB) q14 HF fun w22 HF=>tU<|tU<|Nl ?_;simp only[pS];go_wp2;exact lf C HC HF (by simp only[*,lastR,bsq])
  refine bN (eI q6)<|tF<|Nl ?_;simp only[pS];go_upto_region 8 with fail;refine Sg<|?_;cases q7:(l.er==101);rotate_left
  ·refine bN (eI q7)<|tU<|Nl ?_;simp only[pS];go_upto_region 10 with fail;refine Sg<|tK (pg g1 4)<|lP (Fi.cs ⟨l.f0,l.f1⟩) HF 0 4 U37 S37 (La.cs l) rfl<|?_;simp only[pS];cases q11:(filB ⟨l.f0,l.f1⟩)
   ·refine cB (r_IsFile ⟨l.f0,l.f1⟩ _) q11 HF fun w15 HF=>tF<|sK<|sK<|sK<|sK<|tF<|tF<|Nl ?_;simp only[pS];go_wp2;exact lf C HC HF (by simp only[*,lastR,bsq])
   refine cB (r_IsFile ⟨l.f0,l.f1⟩ _) q11 HF fun w16 HF=>tU<|tK (pg g1 6)<|lD (.int .i64 l.sz) HF 0 6 U3 rfl<|lP (Cg.cs c) HF 1 0 U24 S24 (Cg.cs c) rfl<|?_;simp only[pS];cases q12:(szB c.bl l.sz)
   ·refine cB (r_IsSize l.sz c _ HB) q12 HF fun w17 HF=>tF<|tF<|Nl ?_;simp only[pS];go_wp2;exact lf C HC HF (by simp only[*,lastR,bsq])
   refine cB (r_IsSize l.sz c _ HB) q12 HF fun w18 HF=>tU<|tU<|Nl ?_;simp only[pS];go_wp2;exact lf C HC HF (by simp only[*,lastR,bsq])
  refine bN (eI q7)<|tF<|Nl ?_;simp only[pS];go_upto_region 9 with fail;refine Sg<|?_;cases q8:(l.er==104)
  ·refine bN (eI q8)<|tF<|Nl ?_;simp only[pS];go_upto_region 11 with fail;refine Sg<|tF<|Nl ?_;simp only[pS];go_wp2;exact lf C HC HF (by simp only[*,lastR,bsq])
  refine bN (eI q8)<|tU<|Nl ?_;simp only[pS];go_upto_region 10 with fail;refine Sg<|tK (pg g1 4)<|lP (Fi.cs ⟨l.f0,l.f1⟩) HF 0 4 U37 S37 (La.cs l) rfl<|?_;simp only[pS];cases q9:(filB ⟨l.f0,l.f1⟩)
  ·refine cB (r_IsFile ⟨l.f0,l.f1⟩ _) q9 HF fun w11 HF=>tF<|sK<|sK<|sK<|sK<|tF<|tF<|Nl ?_;simp only[pS];go_wp2;exact lf C HC HF (by simp only[*,lastR,bsq])
  refine cB (r_IsFile ⟨l.f0,l.f1⟩ _) q9 HF fun w12 HF=>tU<|tK (pg g1 6)<|lD (.int .i64 l.sz) HF 0 6 U3 rfl<|lP (Cg.cs c) HF 1 0 U24 S24 (Cg.cs c) rfl<|?_;simp only[pS];cases q10:(szB c.bl l.sz)
  ·refine cB (r_IsSize l.sz c _ HB) q10 HF fun w13 HF=>tF<|tF<|Nl ?_;simp only[pS];go_wp2;exact lf C HC HF (by simp only[*,lastR,bsq])
  refine cB (r_IsSize l.sz c _ HB) q10 HF fun w14 HF=>tU<|tU<|Nl ?_;simp only[pS];go_wp2;exact lf C HC HF (by simp only[*,lastR,bsq])
section
variable {ops:Array Oper} {a:Act} {w:World} {Q:Exit→Act→World→Prop} {md:Region.Mode} {S:Nat→Prop} {w0:World} {l:List (Nat × TypeId × Array Value)} {fuel:Nat} {listed:Array Bool}
end
def opA (l : Array Oper) (i : Nat) : Oper := match l[i]? with | some o => o | none => ⟨none, .move (.tmp 0), 0, "", #[], none⟩
section
variable {ops:Array Oper} {a:Act} {w:World} {Q:Exit→Act→World→Prop} {md:Region.Mode} {S:Nat→Prop} {w0:World} {l:List (Nat × TypeId × Array Value)} {fuel:Nat} {listed:Array Bool}
theorem yT (i d:Nat) (HF:Hid (Fq S w0 w l)) {v:Value} (hy:∀ w,Hid (Fq S w0 w l)→(execOp a.eval (opA ops i)).run Tryz.prog w=.ok (.value v) w)
    (h:wpAnyH Tryz.prog md ops Q (fun w'=>Hid (Fq S w0 w' l)) fuel (listed.setIfInBounds i true) (a.put (some d) v) w)
    (hi:ops[i]?=some (opA ops i):=by kernel_rfl) (hd:(opA ops i).dst=some d:=by kernel_rfl) (hs:Region.noSelect ops=true:=by kernel_rfl) (hf:Region.free md ops listed i=true:=by kernel_rfl) (hr:(Region.ready md ops listed).contains i=true:=by kernel_rfl)
    (hQ:∀ c a w,Q (.panic c) (a.put (some d) v) w→Q (.panic c) a w:=by exact fun _ _ _ h=>h) (hw:Region.wanted (opA ops i) (yielded ops a.tmps)=true:=by kernel_rfl):wpAnyH Tryz.prog md ops Q (fun w'=>Hid (Fq S w0 w' l)) (fuel+1) listed a w:=
  any_take hi hs hf hr (by rw [hd];exact hQ) hw hy HF (by rw [hd];exact h)
theorem yK (i d:Nat) (HF:Hid (Fq S w0 w l)) (v:Value)
    (h:wpAnyH Tryz.prog md ops Q (fun w'=>Hid (Fq S w0 w' l)) fuel (listed.setIfInBounds i true) (a.put (some d) v) w) (hy:∀ w,(execOp a.eval (opA ops i)).run Tryz.prog w=.ok (.value v) w:=by intro _;kernel_rfl)
    (hi:ops[i]?=some (opA ops i):=by kernel_rfl) (hd:(opA ops i).dst=some d:=by kernel_rfl) (hs:Region.noSelect ops=true:=by kernel_rfl) (hf:Region.free md ops listed i=true:=by kernel_rfl) (hr:(Region.ready md ops listed).contains i=true:=by kernel_rfl)
    (hQ:∀ c a w,Q (.panic c) (a.put (some d) v) w→Q (.panic c) a w:=by exact fun _ _ _ h=>h) (hw:Region.wanted (opA ops i) (yielded ops a.tmps)=true:=by kernel_rfl):wpAnyH Tryz.prog md ops Q (fun w'=>Hid (Fq S w0 w' l)) (fuel+1) listed a w:=
  yT i d HF (fun w _=>hy w) h hi hd hs hf hr hQ hw
theorem yS (i d:Nat) (HF:Hid (Fq S w0 w l))
    (h:wpAnyH Tryz.prog md ops Q (fun w'=>Hid (Fq S w0 w' l)) fuel (listed.setIfInBounds i true) (a.put (some d) undef) w)
    (hi:ops[i]?=some (opA ops i):=by kernel_rfl) (hd:(opA ops i).dst=some d:=by kernel_rfl) (hs:Region.noSelect ops=true:=by kernel_rfl) (hf:Region.free md ops listed i=true:=by kernel_rfl) (hr:(Region.ready md ops listed).contains i=true:=by kernel_rfl)
    (hQ:∀ c a w,Q (.panic c) (a.put (some d) undef) w→Q (.panic c) a w:=by exact fun _ _ _ h=>h) (hw:Region.wanted (opA ops i) (yielded ops a.tmps)=false:=by kernel_rfl):wpAnyH Tryz.prog md ops Q (fun w'=>Hid (Fq S w0 w' l)) (fuel+1) listed a w:=
  any_skip hi hs hf hr (by rw [hd];exact hQ) hw HF (by rw [hd];exact h)
theorem yC (i d:Nat) {f:FuncId} {args:Array Value} {F b:Bool} (hc:Calls Tryz.prog f args w (fun e w'=>e=.returned (.bool F)∧Kept No w w')) (hF:F=b) (HF:Hid (Fq S w0 w l))
    (h:∀ w',Hid (Fq S w0 w' l)→wpAnyH Tryz.prog md ops Q (fun w'=>Hid (Fq S w0 w' l)) fuel (listed.setIfInBounds i true) (a.put (some d) (.bool b)) w')
    (hi:ops[i]?=some (opA ops i):=by kernel_rfl) (hd:(opA ops i).dst=some d:=by kernel_rfl) (hr:Region.ready md ops listed=[i]:=by kernel_rfl) (hrun:(execOp a.eval (opA ops i)).run Tryz.prog w=.ok (.enter f args) w:=by kernel_rfl) (hw:Region.wanted (opA ops i) (yielded ops a.tmps)=true:=by kernel_rfl):wpAnyH Tryz.prog md ops Q (fun w'=>Hid (Fq S w0 w' l)) (fuel+1) listed a w:=
  any_call hi hr hw f args hrun _ hc (by rintro e w' ⟨rfl,hk⟩;exact ⟨_,by rw [hF],HF.out.no hk,fun HF=>by rw [hd];exact h w' HF⟩)
def ldA (o:Oper) (ev:Operand→Value):Option (TypeId × Value):=match o.op with | .load t x=>some (t,ev x) | _=>none
def bnA (o:Oper) (ev:Operand→Value):Option (BinOp × TypeId × Value × Value):=match o.op with | .binOp b t x y _=>some (b,t,ev x,ev y) | _=>none
def bnX (o:Oper):Operand:=match o.op with | .binOp _ _ x _ _=>x | _=>.tmp 0
def bnY (o:Oper):Operand:=match o.op with | .binOp _ _ _ y _=>y | _=>.tmp 0
def ixA (o:Oper) (ev:Operand→Value):Option (TypeId × Value × Value):=match o.op with | .indexAddr t x y=>some (t,ev x,ev y) | _=>none
theorem zL {o:Oper} {t:TypeId} {ad:Addr} {v:Value} (hrun:∀ w,Hid (Fq S w0 w l)→(loadVar t ad).run Tryz.prog w=.ok v w) (hl:ldA o a.eval=some (t,.pointer (some ad)):=by kernel_rfl) :
    ∀ w,Hid (Fq S w0 w l)→(execOp a.eval o).run Tryz.prog w=.ok (.value v) w:=fun w HF=>by
  unfold ldA at hl
  split at hl
  · rename_i t' x hx
    obtain ⟨rfl,h2⟩:=Prod.mk.inj (Option.some.inj hl)
    exact exec_load _ x hx ad h2 v (hrun w HF)
  · cases hl
theorem zD {o:Oper} {v:Value} (j k:Nat) {t:TypeId} {d:TypeDesc} (hu:Tryz.prog.underlying t=some d) {g:Nat} {Tb:TypeId} {cs:Array Value} (hi:l[j]?=some (g,Tb,cs))
    (hl:ldA o a.eval=some (t,.pointer (some ⟨g,k,none⟩)):=by kernel_rfl) (hc:cs[k]?=some v:=by kernel_rfl) (hd:(match d with | .struct _ | .array _ _=>true | _=>false)=false:=by kernel_rfl) :
    ∀ w,Hid (Fq S w0 w l)→(execOp a.eval o).run Tryz.prog w=.ok (.value v) w:=zL (fun w HF=>load_one (((HF.out.box j g Tb cs hi).cell k).trans hc) hu hd) hl
theorem zP {o:Oper} (sub:List Value) (j k:Nat) {t:TypeId} (hu:Tryz.prog.underlying t=some (.struct (Tryz.prog.fieldsOf t))) (hs:(Tryz.prog.info? t).map (·.size)=some sub.length) {g:Nat} {Tb:TypeId} (cs:List Value) (hi:l[j]?=some (g,Tb,cs.toArray))
    (hl:ldA o a.eval=some (t,.pointer (some ⟨g,k,none⟩)):=by kernel_rfl) (hc:(cs.drop k).take sub.length=sub:=by kernel_rfl) :
    ∀ w,Hid (Fq S w0 w l)→(execOp a.eval o).run Tryz.prog w=.ok (.value (.agg sub.toArray)) w:=zL (fun w HF=>run_load_part (cs:=cs) (sub:=sub) (HF.out.box j g Tb _ hi) (part_of hc) hu rfl hs) hl
theorem zN {o:Oper} {b:BinOp} {t:TypeId} {vx vy v:Value} (hrun:∀ w,(binOp b t vx vy).run Tryz.prog w=.ok v w)
    (hl:bnA o a.eval=some (b,t,vx,vy):=by kernel_rfl) (hgd:∀ w,(eqGuard b t (bnX o) (bnY o) vx vy).run Tryz.prog w=.ok () w:=by intro _;kernel_rfl) :
    ∀ w,Hid (Fq S w0 w l)→(execOp a.eval o).run Tryz.prog w=.ok (.value v) w:=fun w _=>by
  unfold bnA at hl
  split at hl
  · rename_i b' t' x y s hx
    obtain ⟨rfl,h2⟩:=Prod.mk.inj (Option.some.inj hl)
    obtain ⟨rfl,h3⟩:=Prod.mk.inj h2
    obtain ⟨h4,h5⟩:=Prod.mk.inj h3
    have hg:=hgd w
    unfold bnX bnY at hg
    rw [hx] at hg
    exact exec_bin _ _ s x y hx vx vy v h4 h5 hg (hrun w)
  · cases hl
theorem zI {o:Oper} {s:Sl} {b off i n:Nat} {t:TypeId} (hsl:s.v=.slice (some ⟨b,off,none⟩) s.l s.k) (hu:Tryz.prog.underlying t=some (.slice (Tryz.prog.elem t))) (hs:(Tryz.prog.info? (Tryz.prog.elem t)).map (·.size)=some n) (hi:i < s.l)
    (hl:ixA o a.eval=some (t,s.v,.int .i64 (i:Int)):=by kernel_rfl) :
    ∀ w,Hid (Fq S w0 w l)→(execOp a.eval o).run Tryz.prog w=.ok (.value (.pointer (some ⟨b,off+i*n,none⟩))) w:=fun w _=>by
  unfold ixA at hl
  split at hl
  · rename_i t' x y hx
    obtain ⟨rfl,h2⟩:=Prod.mk.inj (Option.some.inj hl)
    obtain ⟨h4,h5⟩:=Prod.mk.inj h2
    exact exec_ixA _ n hu hs x y hx b off s.l s.k i (h4.trans hsl) h5 hi
  · cases hl
noncomputable def buA (o:Oper) (ev:Operand→Value):Option (TypeId × Option (Array Value)):=match o.op with | .build t parts=>some (t,Tryz.prog.built t (parts.map fun (i,x)=>(i,ev x)).toList) | _=>none
def stA (o:Oper) (ev:Operand→Value):Option (TypeId × Value × Value):=match o.op with | .store t x y=>some (t,ev x,ev y) | _=>none
theorem zU {o:Oper} (t:TypeId) (cs:Array Value) (hl:buA o a.eval=some (t,some cs):=by kernel_rfl) :
    ∀ w,Hid (Fq S w0 w l)→(execOp a.eval o).run Tryz.prog w=.ok (.value (.agg cs)) w:=fun w _=>by
  unfold buA at hl
  split at hl
  · rename_i t' parts hx
    obtain ⟨rfl,h2⟩:=Prod.mk.inj (Option.some.inj hl)
    exact exec_build _ parts hx cs h2
  · cases hl
end
theorem rng_f {n:Nat} {p:Nat→Bool} {i:Nat} (hi:i < n) (h:p i=false):(List.range n).all p=false:=by
  rw [List.all_eq_false];exact ⟨i,List.mem_range.2 hi,by simp [h]⟩
theorem rng_t {n:Nat} {p:Nat→Bool} (h:∀ j,j < n→p j=true):(List.range n).all p=true:=by
  rw [List.all_eq_true];intro i hi;exact h i (List.mem_range.1 hi)
def lastN (es:List En):Nat→ByteArray
  | 0=>⟨#[]⟩
  | i+1=>(eAt es i).nm
def lastC (ls:List La):Nat→Int
  | 0=>0
  | i+1=>(lAt ls i).cl
def entP (B:Int) (es:List En) (i:Nat):Bool:=ltS (lastN es i) (eAt es i).nm&&(nameP (eAt es i).nm&&(filB ⟨(eAt es i).f0,(eAt es i).f1⟩&&szB B (eAt es i).sz))
def entsP (B rm:Int) (es:List En):Bool:=!decide (rm < ((es.length:Nat):Int))&&(List.range es.length).all (entP B es)
def lasP (B up:Int) (ls:List La) (i:Nat):Bool:=!decide ((lAt ls i).cl≤lastC ls i)&&(wn (lAt ls i).cl 1 255&&(wn (lAt ls i).op 1 1099511627776&&(wn (lAt ls i).ins 1 up&&ansP B (lAt ls i))))
def lassP (B up:Int) (ls:List La):Bool:=(List.range ls.length).all (lasP B up ls)
def bktP (B rm:Int) (x:Bv) (es:List En) (ls:List La):Bool:=bif x.up==0 then empK x else wn x.up 1 1048576&&(entsP B rm es&&lassP B x.up ls)
def entR (B:Int) (es:List En) (i:Nat):Bool:=nameR (eAt es i).nm&&(filB ⟨(eAt es i).f0,(eAt es i).f1⟩&&(szB B (eAt es i).sz&&(decide (i=0)||ltS (eAt es (i - 1)).nm (eAt es i).nm)))
def lasR (B up:Int) (ls:List La) (i:Nat):Bool:=lastR up B (lAt ls i)&&(decide (i=0)||!decide ((lAt ls i).cl≤(lAt ls (i - 1)).cl))
def bktR (B rm:Int) (x:Bv) (es:List En) (ls:List La):Bool:=
  bif !wn x.up 0 1048576||(decide (rm < ((x.e.l:Nat):Int))||(x.up==0&&decide (0 < ((x.e.l:Nat):Int)))) then false else (List.range es.length).all (entR B es)&&(List.range ls.length).all (lasR B x.up ls)
def rowP (B:Int) (xs:List Cm):Bool:=(List.range xs.length).all (fun i=>eqC (cAt xs i) cZ||cmdP B (cAt xs i))
def rowR (B:Int) (xs:List Cm):Bool:=(List.range xs.length).all (fun i=>eqC (cAt xs i) cZ||cmdR B (cAt xs i))
end Go.Proofs.YtgdnofacgfjaeaaGreat.Md
