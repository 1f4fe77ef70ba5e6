import Derived.Test.YtgdnofacgfjaeabGreatOc
import Derived.Test.YtgdnofacgfjaeabGreatNf
import Derived.Test.YtgdnofacgfjaeabGreatRc
namespace Go.Proofs.YtgdnofacgfjaeabGreat.Md
open Go.ChangeShapes Go.WideShapes Go.ChangeAt Go.RowKit
open Go.ChangeMaps (open_string shut_string)
set_option linter.unusedVariables false
set_option linter.unusedSimpArgs false
instance:Inhabited Bl:=⟨blZ'⟩
instance:Inhabited In:=⟨inZ'⟩
theorem U25:Tryz.prog.underlying 25=some (.slice 37):=by kernel_rfl
theorem U26:Tryz.prog.underlying 26=some (.slice 47):=by kernel_rfl
set_option maxRecDepth 100000 in
theorem blk_open {H:Type} {enc:TypeId × Value→H} {W:World} {fuel:Nat} {l:List Value} {x:DataW H × List MemPlace}
    (hf:DataW.trod enc Tryz.prog W 0 (fun _=>true) true fuel 37 l=some x) (hs:∀ n∈x.1.weights Tryz.prog 37,n≤reachBytes) :
    ∃ x:Bl,l=x.cs∧∃ bs,BlIn W x bs:=by
  obtain ⟨xs,n,_,rfl,hl,hlen,hfs⟩:=DataW.trod_struct U37 hf
  rw [show Tryz.prog.cellsOf 37=3 by kernel_rfl] at hl
  have hlen:xs.length=2:=hlen
  match xs,hlen,hfs,hs with
  | [y0,y1],_,hfs,hs=>
    have h0:DataW.trod enc Tryz.prog W 0 (fun _=>true) true n 35 ((l.drop 0).take (Tryz.prog.cellsOf 35))=some y0:=hfs 0 _ rfl
    rw [show Tryz.prog.cellsOf 35=2 by kernel_rfl] at h0
    obtain ⟨n0,e0,b0⟩:=stamp_ok h0
    have h1:DataW.trod enc Tryz.prog W 0 (fun _=>true) true n 30 ((l.drop 2).take (Tryz.prog.cellsOf 30))=some y1:=hfs 1 _ rfl
    rw [show Tryz.prog.cellsOf 30=1 by kernel_rfl] at h1
    obtain ⟨c1,hc1⟩:∃ c,(l.drop 2).take 1=[c]:=List.length_eq_one_iff.1 (by rw [List.length_take,List.length_drop];omega)
    rw [hc1] at h1
    obtain ⟨n1,z1,u1,a1,b1,d1,du1⟩:=bytes_ok h1 (fun w hw=>hs w (by
      simp only[DataW.weights,U37]
      exact DataW.weights_mem_each (j:=1) (t:=30) (d:=y1.1) (by kernel_rfl) rfl w hw))
    have e1:(l.drop 2).take 1=[n1.v]:=by rw [hc1,u1]
    have s:l=l.drop 0:=rfl
    have s0:l.drop 0=(l.drop 0).take 2++l.drop 2:=cutL 0 2
    rw [e0] at s0
    have s1:l.drop 2=(l.drop 2).take 1++l.drop 3:=cutL 2 1
    rw [e1] at s1
    have sz:l.drop 3=[]:=List.drop_of_length_le (by omega)
    refine ⟨⟨n0,n1⟩,?_,z1,⟨a1,by omega,du1⟩⟩
    rw [s,s0,s1,sz]
    rfl
set_option maxRecDepth 100000 in
theorem ins_open {H:Type} {enc:TypeId × Value→H} {W:World} {fuel:Nat} {l:List Value} {x:DataW H × List MemPlace}
    (hf:DataW.trod enc Tryz.prog W 0 (fun _=>true) true fuel 47 l=some x) (hs:∀ n∈x.1.weights Tryz.prog 47,n≤reachBytes) :
    ∃ x:In,l=x.cs∧InIn W x:=by
  obtain ⟨xs,n,_,rfl,hl,hlen,hfs⟩:=DataW.trod_struct U47 hf
  rw [show Tryz.prog.cellsOf 47=14 by kernel_rfl] at hl
  have hlen:xs.length=4:=hlen
  match xs,hlen,hfs,hs with
  | [y0,y1,y2,y3],_,hfs,hs=>
    have h0:DataW.trod enc Tryz.prog W 0 (fun _=>true) true n 35 ((l.drop 0).take (Tryz.prog.cellsOf 35))=some y0:=hfs 0 _ rfl
    rw [show Tryz.prog.cellsOf 35=2 by kernel_rfl] at h0
    obtain ⟨n0,e0,b0⟩:=stamp_ok h0
    have h1:DataW.trod enc Tryz.prog W 0 (fun _=>true) true n 35 ((l.drop 2).take (Tryz.prog.cellsOf 35))=some y1:=hfs 1 _ rfl
    rw [show Tryz.prog.cellsOf 35=2 by kernel_rfl] at h1
    obtain ⟨n1,e1,b1⟩:=stamp_ok h1
    have h2:DataW.trod enc Tryz.prog W 0 (fun _=>true) true n 45 ((l.drop 4).take (Tryz.prog.cellsOf 45))=some y2:=hfs 2 _ rfl
    rw [show Tryz.prog.cellsOf 45=9 by kernel_rfl] at h2
    obtain ⟨n2,e2⟩:=cmd_ok h2
    have h3:DataW.trod enc Tryz.prog W 0 (fun _=>true) true n 4 ((l.drop 13).take (Tryz.prog.cellsOf 4))=some y3:=hfs 3 _ rfl
    rw [show Tryz.prog.cellsOf 4=1 by kernel_rfl] at h3
    obtain ⟨n3,e3,_⟩:=DataW.trod_bool Tryz.und4 h3
    have s:l=l.drop 0:=rfl
    have s0:l.drop 0=(l.drop 0).take 2++l.drop 2:=cutL 0 2
    rw [e0] at s0
    have s1:l.drop 2=(l.drop 2).take 2++l.drop 4:=cutL 2 2
    rw [e1] at s1
    have s2:l.drop 4=(l.drop 4).take 9++l.drop 13:=cutL 4 9
    rw [e2] at s2
    have s3:l.drop 13=(l.drop 13).take 1++l.drop 14:=cutL 13 1
    rw [e3] at s3
    have sz:l.drop 14=[]:=List.drop_of_length_le (by omega)
    refine ⟨⟨n0,n1,n2,n3⟩,?_,⟨rfl⟩⟩
    rw [s,s0,s1,s2,s3,sz]
    rfl
set_option maxRecDepth 100000 in
theorem opened_os (H:Type) (enc:TypeId × Value→H) (W:World) (a0:Option Addr) (len0 cap0:Nat) (d0:DataW H) (p0:List MemPlace)
    (h0:DataW.Trod enc Tryz.prog W 0 (fun _=>true) true 25 (.slice a0 len0 cap0) d0 p0) {ts:List TypeId} {ds:List (DataW H)} (hsz:(DataW.weightsEach Tryz.prog ts ds).all (·≤reachBytes)=true) {j:Nat} (ht:ts[j]?=some 25) (hd:ds[j]?=some d0) :
    ∃ xs:List Bl,RdO W ⟨a0,len0,cap0⟩ xs∧(∀ i,i < len0→∃ bs,BlIn W (oAt xs i) bs)∧len0≤281474976710656:=by
  obtain ⟨fuel,hf⟩:=h0
  have hf':DataW.trod enc Tryz.prog W 0 (fun _=>true) true fuel 25 [.slice a0 len0 cap0]=some (d0,p0):=hf
  obtain ⟨s,xs,hv,h1,h2,h3,h4⟩:=rows_ok Bl.cs 3 40 25 37 U25 (by kernel_rfl) (by kernel_rfl) (by omega) (fun _=>rfl) (fun x=>∃ bs,BlIn W x bs)
    (fun fuel l x h hs=>blk_open h hs) hf' (fun n hn=>by
      have:=List.all_eq_true.1 hsz _ (DataW.weights_mem_each ht hd n hn)
      simpa using this)
  obtain ⟨sa,sn,sk⟩:=s
  simp only[Sl.v,Value.slice.injEq] at hv
  obtain ⟨rfl,rfl,rfl⟩:=hv
  exact ⟨xs,⟨h1,h2⟩,h3,by simp only at h4;omega⟩
set_option maxRecDepth 100000 in
theorem opened_ns (H:Type) (enc:TypeId × Value→H) (W:World) (a0:Option Addr) (len0 cap0:Nat) (d0:DataW H) (p0:List MemPlace)
    (h0:DataW.Trod enc Tryz.prog W 0 (fun _=>true) true 26 (.slice a0 len0 cap0) d0 p0) {ts:List TypeId} {ds:List (DataW H)} (hsz:(DataW.weightsEach Tryz.prog ts ds).all (·≤reachBytes)=true) {j:Nat} (ht:ts[j]?=some 26) (hd:ds[j]?=some d0) :
    ∃ xs:List In,RdN W ⟨a0,len0,cap0⟩ xs∧(∀ i,i < len0→InIn W (nAt xs i))∧len0≤281474976710656:=by
  obtain ⟨fuel,hf⟩:=h0
  have hf':DataW.trod enc Tryz.prog W 0 (fun _=>true) true fuel 26 [.slice a0 len0 cap0]=some (d0,p0):=hf
  obtain ⟨s,xs,hv,h1,h2,h3,h4⟩:=rows_ok In.cs 14 120 26 47 U26 (by kernel_rfl) (by kernel_rfl) (by omega) (fun _=>rfl) (fun x=>InIn W x)
    (fun fuel l x h hs=>ins_open h hs) hf' (fun n hn=>by
      have:=List.all_eq_true.1 hsz _ (DataW.weights_mem_each ht hd n hn)
      simpa using this)
  obtain ⟨sa,sn,sk⟩:=s
  simp only[Sl.v,Value.slice.injEq] at hv
  obtain ⟨rfl,rfl,rfl⟩:=hv
  exact ⟨xs,⟨h1,h2⟩,h3,by simp only at h4;omega⟩
instance:Inhabited Mg:=⟨mgZ⟩
instance:Inhabited Bv:=⟨bvZ⟩
instance:Inhabited Cm:=⟨cZ⟩
set_option maxRecDepth 100000 in
theorem opened_cg (H:Type) (enc:TypeId × Value→H) (W:World) (b0:Nat) (v:Value) (d0:DataW H) (p0:List MemPlace) (hv:Value.okWide Tryz.prog W .any b0 24 v)
    (h0:DataW.Trod enc Tryz.prog W 0 (fun _=>true) true 24 v d0 p0) {ts:List TypeId} {ds:List (DataW H)} (hsz:(DataW.weightsEach Tryz.prog ts ds).all (·≤reachBytes)=true) {j:Nat} (ht:ts[j]?=some 24) (hd:ds[j]?=some d0) :
    ∃ (c:Cg) (zs:List Int),v=.agg (Cg.cells c)∧CgIn W c zs:=by
  obtain ⟨cs,rfl,_⟩:=okWide_struct U24 hv
  obtain ⟨fuel,hf⟩:=h0
  obtain ⟨q,zs,e,h1⟩:=cfg_ok hf (fun n hn=>by
    have:=List.all_eq_true.1 hsz _ (DataW.weights_mem_each ht hd n hn)
    simpa using this)
  simp only[Value.cells] at e
  obtain ⟨l⟩:=cs
  simp only[] at e
  exact ⟨q,zs,by rw [e];rfl,h1⟩
set_option maxRecDepth 100000 in
theorem opened_ks (H:Type) (enc:TypeId × Value→H) (W:World) (a0:Option Addr) (len0 cap0:Nat) (d0:DataW H) (p0:List MemPlace)
    (h0:DataW.Trod enc Tryz.prog W 0 (fun _=>true) true 27 (.slice a0 len0 cap0) d0 p0) {ts:List TypeId} {ds:List (DataW H)} (hsz:(DataW.weightsEach Tryz.prog ts ds).all (·≤reachBytes)=true) {j:Nat} (ht:ts[j]?=some 27) (hd:ds[j]?=some d0) :
    ∃ ks:List Bv,RdK W ⟨a0,len0,cap0⟩ ks∧(∀ i,i < len0→∃ es ls,BkIn W (kAt ks i) es ls)∧len0≤281474976710656:=by
  obtain ⟨fuel,hf⟩:=h0
  have hf':DataW.trod enc Tryz.prog W 0 (fun _=>true) true fuel 27 [.slice a0 len0 cap0]=some (d0,p0):=hf
  obtain ⟨s,xs,hv,h1,h2,h3,h4⟩:=rows_ok Bv.cs 3 56 27 54 U27 (by kernel_rfl) (by kernel_rfl) (by omega) (fun _=>rfl) (fun x=>∃ es ls,BkIn W x es ls)
    (fun fuel l x h hs=>by obtain ⟨b,es,ls,e,a1,a2,b1,b2⟩:=bkt_ok h hs;exact ⟨b,e,es,ls,⟨a1,a2,by omega,by omega⟩⟩) hf' (fun n hn=>by
      have:=List.all_eq_true.1 hsz _ (DataW.weights_mem_each ht hd n hn)
      simpa using this)
  obtain ⟨sa,sn,sk⟩:=s
  simp only[Sl.v,Value.slice.injEq] at hv
  obtain ⟨rfl,rfl,rfl⟩:=hv
  exact ⟨xs,⟨h1,h2⟩,h3,by simp only at h4;omega⟩
instance:Inhabited Sl:=⟨slZ⟩
theorem U28:Tryz.prog.underlying 28=some (.slice 30):=by kernel_rfl
theorem slice_ok {H:Type} {enc:TypeId × Value→H} {W:World} {fuel:Nat} {v:Value} {x:DataW H × List MemPlace}
    (hf:DataW.trod enc Tryz.prog W 0 (fun _=>true) true fuel 30 [v]=some x) (hs:∀ n∈x.1.weights Tryz.prog 30,n≤reachBytes) :
    ∃ (s:Sl) (xs:List Int),v=s.v∧Wi.Sl W s.a s.l s.k xs:=by
  rcases Go.Deep.open_slice Tryz.und69 hf with ⟨hcs,_⟩ | ⟨ad,l,cp,m,n,D,PP,hcs,hq,hl,hm,hmm,hx,hel⟩
  · simp at hcs
    exact ⟨slZ,[],hcs,⟨rfl,fun i hi=>absurd hi (Nat.not_lt_zero _),Wi.U8.nil,Nat.le_refl _,by show 0≤_;omega,Nat.zero_le _,fun _=>rfl⟩⟩
  · simp at hcs
    simp only[if_true] at hmm
    subst hmm
    have hb2:m≤140737488351232:=by
      have h1:=hs _ (by rw [hx];simp only[DataW.weights,Tryz.und69];exact List.mem_cons_self ..)
      rw [Tryz.bytes5] at h1
      simp [reachBytes] at h1
      omega
    have hb:l≤140737488351232:=by
      have h1:=hs _ (by rw [hx];simp only[DataW.weights,Tryz.und69];exact List.mem_cons_self ..)
      rw [Tryz.bytes5] at h1
      simp [reachBytes] at h1
      omega
    rw [Tryz.cells5] at hel
    have key:∀ i,i < l→∃ z:Int,W.cells? 0 (ad.add (i*1)) 1=some [.int .u8 z]∧0≤z∧z≤255:=by
      intro i hi
      obtain ⟨cs',hc,htr⟩:=hel i (by omega)
      obtain ⟨z,e,_,wz⟩:=DataW.trod_int Tryz.und5 htr
      subst e
      exact ⟨z,hc,wu_lo wz,wu_hi wz⟩
    obtain ⟨f,hfm⟩:=Go.Deep.choose_lt key
    refine ⟨⟨some ad,l,m⟩,(List.range l).map f,hcs,⟨by simp,?_,u8_map hfm,(by show l≤m;omega),(by show m≤_;omega),hb,fun e=>by cases e⟩⟩
    intro i hi0
    have hi:i < l:=by simpa using hi0
    have hc:=(hfm i hi).1
    have hcs:=(World.cells?_some hc).2.2 0 (by omega)
    obtain ⟨b,off,spot⟩:=ad
    have h00':[Value.int .u8 (f i)][0]?=some (.int .u8 (f i)):=rfl
    rw [h00'] at hcs
    have hspot:spot=none:=by
      have h0:=(World.cells?_some (hfm 0 (by omega)).1).2.2 0 (by omega)
      have h00:[Value.int .u8 (f 0)][0]?=some (.int .u8 (f 0)):=rfl
      rw [h00] at h0
      have:=World.cell?_spot h0
      simpa [Addr.add] using this
    subst hspot
    refine ⟨b,off,rfl,?_⟩
    rw [Go.Deep.add_add,addr_add] at hcs
    rw [show off+i=off+(i*1+0) by omega]
    simpa [hi] using hcs
theorem one_cell {H:Type} {enc:TypeId × Value→H} {W:World} {fuel:Nat} {l:List Value} {x:DataW H × List MemPlace} (h:DataW.trod enc Tryz.prog W 0 (fun _=>true) true fuel 30 l=some x):∃ v,l=[v]:=by
  rcases Go.Deep.open_slice Tryz.und69 h with ⟨hcs,_⟩ | ⟨ad,l2,cp,m,n,D,PP,hcs,_⟩
  · exact ⟨_,hcs⟩
  · exact ⟨_,hcs⟩
set_option maxRecDepth 100000 in
theorem opened_ss (H:Type) (enc:TypeId × Value→H) (W:World) (a0:Option Addr) (len0 cap0:Nat) (d0:DataW H) (p0:List MemPlace)
    (h0:DataW.Trod enc Tryz.prog W 0 (fun _=>true) true 28 (.slice a0 len0 cap0) d0 p0) {ts:List TypeId} {ds:List (DataW H)} (hsz:(DataW.weightsEach Tryz.prog ts ds).all (·≤reachBytes)=true) {j:Nat} (ht:ts[j]?=some 28) (hd:ds[j]?=some d0) :
    ∃ xs:List Sl,RdS W ⟨a0,len0,cap0⟩ xs∧(∀ i,i < len0→∃ ys,Wi.Sl W (sAt xs i).a (sAt xs i).l (sAt xs i).k ys)∧len0≤281474976710656:=by
  obtain ⟨fuel,hf⟩:=h0
  have hf':DataW.trod enc Tryz.prog W 0 (fun _=>true) true fuel 28 [.slice a0 len0 cap0]=some (d0,p0):=hf
  obtain ⟨s,xs,hv,h1,h2,h3,h4⟩:=rows_ok (fun s:Sl=>[s.v]) 1 24 28 30 U28 (by kernel_rfl) (by kernel_rfl) (by omega) (fun _=>rfl) (fun x=>∃ ys,Wi.Sl W x.a x.l x.k ys)
    (fun fuel l x h hs=>by
      obtain ⟨v,rfl⟩:∃ v,l=[v]:=one_cell h
      obtain ⟨s,ys,rfl,hm⟩:=slice_ok h hs
      exact ⟨s,rfl,ys,hm⟩) hf' (fun n hn=>by
      have:=List.all_eq_true.1 hsz _ (DataW.weights_mem_each ht hd n hn)
      simpa using this)
  obtain ⟨sa,sn,sk⟩:=s
  simp only[Sl.v,Value.slice.injEq] at hv
  obtain ⟨rfl,rfl,rfl⟩:=hv
  exact ⟨xs,⟨h1,h2⟩,h3,by simp only at h4;omega⟩
end Go.Proofs.YtgdnofacgfjaeabGreat.Md
