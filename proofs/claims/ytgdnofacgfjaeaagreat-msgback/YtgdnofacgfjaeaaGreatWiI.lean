import Derived.Test.YtgdnofacgfjaeaaGreatHf
import Derived.ProofKit
import Derived.OpenShut
import Derived.ShutString
import Derived.ChangeOld
import Derived.SizedLaws
import Derived.Deep.Slices
import Derived.Test.YtgdnofacgfjaeaaGreatWiY
namespace Go.Proofs.YtgdnofacgfjaeaaGreat.Md
open Go.ChangeShapes Go.WideShapes Go.ChangeAt Go.RowKit
open Go.ChangeMaps (open_string shut_string)
set_option linter.unusedVariables false
set_option linter.unusedSimpArgs false
theorem Tryz.und5:Tryz.prog.underlying 5=some (.int .u8):=by kernel_rfl
theorem Tryz.und32:Tryz.prog.underlying 43=some (.struct (Tryz.prog.fieldsOf 43)):=by kernel_rfl
theorem Tryz.und50:Tryz.prog.underlying 45=some (.struct (Tryz.prog.fieldsOf 45)):=by kernel_rfl
theorem own:ownKnob Tryz.prog.godebug=none:=by kernel_rfl
theorem laidOut:laidOutB Tryz.prog=true:=by kernel_rfl
theorem wf_lo {n:Int} (h:(Lit.int .i64 n).wf=true):-9223372036854775808≤n:=by
  simp only[Lit.wf,Bool.and_eq_true,decide_eq_true_eq] at h
  have h1:IntKind.min .i64=-9223372036854775808:=by decide
  rw [h1] at h;exact h.1
theorem cutL {α:Type} {l:List α} (a n:Nat):l.drop a=(l.drop a).take n++l.drop (a+n):=by
  rw [← List.drop_drop];exact (List.take_append_drop _ _).symm
theorem Tryz.cells3:Tryz.prog.cellsOf 3=1:=by kernel_rfl
theorem Tryz.cells4:Tryz.prog.cellsOf 4=1:=by kernel_rfl
theorem Tryz.cells5:Tryz.prog.cellsOf 5=1:=by kernel_rfl
theorem Tryz.cells9:Tryz.prog.cellsOf 9=1:=by kernel_rfl
theorem Tryz.cells23:Tryz.prog.cellsOf 32=4:=by kernel_rfl
theorem Tryz.cells25:Tryz.prog.cellsOf 34=2:=by kernel_rfl
theorem Tryz.cells26:Tryz.prog.cellsOf 35=1:=by kernel_rfl
theorem Tryz.cells29:Tryz.prog.cellsOf 40=1:=by kernel_rfl
theorem Tryz.cells30:Tryz.prog.cellsOf 41=1:=by kernel_rfl
theorem Tryz.cells32:Tryz.prog.cellsOf 43=3:=by kernel_rfl
theorem Tryz.cells43:Tryz.prog.cellsOf 30=2:=by kernel_rfl
theorem Tryz.cells45:Tryz.prog.cellsOf 37=2:=by kernel_rfl
theorem Tryz.cells47:Tryz.prog.cellsOf 39=9:=by kernel_rfl
theorem Tryz.cells48:Tryz.prog.cellsOf 26=1:=by kernel_rfl
theorem Tryz.cells50:Tryz.prog.cellsOf 45=30:=by kernel_rfl
theorem Tryz.cells110:Tryz.prog.cellsOf 92=4:=by kernel_rfl
theorem Tryz.cells111:Tryz.prog.cellsOf 47=1:=by kernel_rfl
theorem Tryz.cells113:Tryz.prog.cellsOf 94=7:=by kernel_rfl
theorem Tryz.bytes5:Tryz.prog.bytesOf 5=1:=by kernel_rfl
theorem Tryz.bytes47:Tryz.prog.bytesOf 39=80:=by kernel_rfl
theorem Tryz.bytes110:Tryz.prog.bytesOf 92=40:=by kernel_rfl
theorem Tryz.bytes113:Tryz.prog.bytesOf 94=56:=by kernel_rfl
set_option maxRecDepth 100000 in
theorem file_ok {H:Type} {enc:TypeId × Value→H} {W:World} {fuel:Nat} {l:List Value} {x:DataW H × List MemPlace}
    (hf:DataW.trod enc Tryz.prog W 0 (fun _=>true) true fuel 37 l=some x):∃ a b:Int,l=[.int .i64 a,.int .i64 b]:=by
  obtain ⟨xs,n,_,_,hl,hlen,hfs⟩:=DataW.trod_struct Tryz.und45 hf
  rw [Tryz.cells45] at hl
  have hlen:xs.length=2:=hlen
  have h0:DataW.trod enc Tryz.prog W 0 (fun _=>true) true n 3 ((l.drop 0).take (Tryz.prog.cellsOf 3))=xs[0]?:=hfs 0 _ rfl
  obtain ⟨y0,hy0⟩:∃ y,xs[0]?=some y:=⟨_,List.getElem?_eq_getElem (show 0 < xs.length by omega)⟩
  rw [Tryz.cells3,hy0] at h0
  obtain ⟨n0,e0,_,_⟩:=DataW.trod_int Tryz.und3 h0
  have h1:DataW.trod enc Tryz.prog W 0 (fun _=>true) true n 3 ((l.drop 1).take (Tryz.prog.cellsOf 3))=xs[1]?:=hfs 1 _ rfl
  obtain ⟨y1,hy1⟩:∃ y,xs[1]?=some y:=⟨_,List.getElem?_eq_getElem (show 1 < xs.length by omega)⟩
  rw [Tryz.cells3,hy1] at h1
  obtain ⟨n1,e1,_,_⟩:=DataW.trod_int Tryz.und3 h1
  have s:l=l.drop 0:=rfl
  have s0:l.drop 0=(l.drop 0).take 1++l.drop 1:=cutL 0 1
  rw [e0] at s0
  have s1:l.drop 1=(l.drop 1).take 1++l.drop 2:=cutL 1 1
  rw [e1] at s1
  have sz:l.drop 2=[]:=List.drop_of_length_le (by omega)
  refine ⟨n0,n1,?_⟩
  rw [s,s0,s1,sz]
  rfl
set_option maxRecDepth 100000 in
theorem stamp_ok {H:Type} {enc:TypeId × Value→H} {W:World} {fuel:Nat} {l:List Value} {x:DataW H × List MemPlace}
    (hf:DataW.trod enc Tryz.prog W 0 (fun _=>true) true fuel 34 l=some x):∃ c:Sp,l=c.cs∧-9223372036854775808≤c.n:=by
  obtain ⟨xs,n,_,_,hl,hlen,hfs⟩:=DataW.trod_struct Tryz.und25 hf
  rw [Tryz.cells25] at hl
  have hlen:xs.length=2:=hlen
  have h0:DataW.trod enc Tryz.prog W 0 (fun _=>true) true n 3 ((l.drop 0).take (Tryz.prog.cellsOf 3))=xs[0]?:=hfs 0 _ rfl
  obtain ⟨y0,hy0⟩:∃ y,xs[0]?=some y:=⟨_,List.getElem?_eq_getElem (show 0 < xs.length by omega)⟩
  rw [Tryz.cells3,hy0] at h0
  obtain ⟨n0,e0,_,w0⟩:=DataW.trod_int Tryz.und3 h0
  have h1:DataW.trod enc Tryz.prog W 0 (fun _=>true) true n 3 ((l.drop 1).take (Tryz.prog.cellsOf 3))=xs[1]?:=hfs 1 _ rfl
  obtain ⟨y1,hy1⟩:∃ y,xs[1]?=some y:=⟨_,List.getElem?_eq_getElem (show 1 < xs.length by omega)⟩
  rw [Tryz.cells3,hy1] at h1
  obtain ⟨n1,e1,_,_⟩:=DataW.trod_int Tryz.und3 h1
  have s:l=l.drop 0:=rfl
  have s0:l.drop 0=(l.drop 0).take 1++l.drop 1:=cutL 0 1
  rw [e0] at s0
  have s1:l.drop 1=(l.drop 1).take 1++l.drop 2:=cutL 1 1
  rw [e1] at s1
  have sz:l.drop 2=[]:=List.drop_of_length_le (by omega)
  refine ⟨⟨n0,n1⟩,?_,wf_lo w0⟩
  rw [s,s0,s1,sz]
  rfl
set_option maxRecDepth 100000 in
theorem key_ok {H:Type} {enc:TypeId × Value→H} {W:World} {fuel:Nat} {l:List Value} {x:DataW H × List MemPlace}
    (hf:DataW.trod enc Tryz.prog W 0 (fun _=>true) true fuel 32 l=some x):∃ c:Ky,l=c.cs:=by
  obtain ⟨xs,n,_,_,hl,hlen,hfs⟩:=DataW.trod_struct Tryz.und23 hf
  rw [Tryz.cells23] at hl
  have hlen:xs.length=4:=hlen
  have h0:DataW.trod enc Tryz.prog W 0 (fun _=>true) true n 3 ((l.drop 0).take (Tryz.prog.cellsOf 3))=xs[0]?:=hfs 0 _ rfl
  obtain ⟨y0,hy0⟩:∃ y,xs[0]?=some y:=⟨_,List.getElem?_eq_getElem (show 0 < xs.length by omega)⟩
  rw [Tryz.cells3,hy0] at h0
  obtain ⟨n0,e0,_,_⟩:=DataW.trod_int Tryz.und3 h0
  have h1:DataW.trod enc Tryz.prog W 0 (fun _=>true) true n 3 ((l.drop 1).take (Tryz.prog.cellsOf 3))=xs[1]?:=hfs 1 _ rfl
  obtain ⟨y1,hy1⟩:∃ y,xs[1]?=some y:=⟨_,List.getElem?_eq_getElem (show 1 < xs.length by omega)⟩
  rw [Tryz.cells3,hy1] at h1
  obtain ⟨n1,e1,_,_⟩:=DataW.trod_int Tryz.und3 h1
  have h2:DataW.trod enc Tryz.prog W 0 (fun _=>true) true n 3 ((l.drop 2).take (Tryz.prog.cellsOf 3))=xs[2]?:=hfs 2 _ rfl
  obtain ⟨y2,hy2⟩:∃ y,xs[2]?=some y:=⟨_,List.getElem?_eq_getElem (show 2 < xs.length by omega)⟩
  rw [Tryz.cells3,hy2] at h2
  obtain ⟨n2,e2,_,_⟩:=DataW.trod_int Tryz.und3 h2
  have h3:DataW.trod enc Tryz.prog W 0 (fun _=>true) true n 3 ((l.drop 3).take (Tryz.prog.cellsOf 3))=xs[3]?:=hfs 3 _ rfl
  obtain ⟨y3,hy3⟩:∃ y,xs[3]?=some y:=⟨_,List.getElem?_eq_getElem (show 3 < xs.length by omega)⟩
  rw [Tryz.cells3,hy3] at h3
  obtain ⟨n3,e3,_,_⟩:=DataW.trod_int Tryz.und3 h3
  have s:l=l.drop 0:=rfl
  have s0:l.drop 0=(l.drop 0).take 1++l.drop 1:=cutL 0 1
  rw [e0] at s0
  have s1:l.drop 1=(l.drop 1).take 1++l.drop 2:=cutL 1 1
  rw [e1] at s1
  have s2:l.drop 2=(l.drop 2).take 1++l.drop 3:=cutL 2 1
  rw [e2] at s2
  have s3:l.drop 3=(l.drop 3).take 1++l.drop 4:=cutL 3 1
  rw [e3] at s3
  have sz:l.drop 4=[]:=List.drop_of_length_le (by omega)
  refine ⟨⟨n0,n1,n2,n3⟩,?_⟩
  rw [s,s0,s1,s2,s3,sz]
  rfl
set_option maxRecDepth 100000 in
theorem addr_ok {H:Type} {enc:TypeId × Value→H} {W:World} {fuel:Nat} {l:List Value} {x:DataW H × List MemPlace}
    (hf:DataW.trod enc Tryz.prog W 0 (fun _=>true) true fuel 30 l=some x):∃ c:Ad,l=c.cs:=by
  obtain ⟨xs,n,_,_,hl,hlen,hfs⟩:=DataW.trod_struct Tryz.und43 hf
  rw [Tryz.cells43] at hl
  have hlen:xs.length=2:=hlen
  have h0:DataW.trod enc Tryz.prog W 0 (fun _=>true) true n 4 ((l.drop 0).take (Tryz.prog.cellsOf 4))=xs[0]?:=hfs 0 _ rfl
  obtain ⟨y0,hy0⟩:∃ y,xs[0]?=some y:=⟨_,List.getElem?_eq_getElem (show 0 < xs.length by omega)⟩
  rw [Tryz.cells4,hy0] at h0
  obtain ⟨n0,e0,_⟩:=DataW.trod_bool Tryz.und4 h0
  have h1:DataW.trod enc Tryz.prog W 0 (fun _=>true) true n 3 ((l.drop 1).take (Tryz.prog.cellsOf 3))=xs[1]?:=hfs 1 _ rfl
  obtain ⟨y1,hy1⟩:∃ y,xs[1]?=some y:=⟨_,List.getElem?_eq_getElem (show 1 < xs.length by omega)⟩
  rw [Tryz.cells3,hy1] at h1
  obtain ⟨n1,e1,_,_⟩:=DataW.trod_int Tryz.und3 h1
  have s:l=l.drop 0:=rfl
  have s0:l.drop 0=(l.drop 0).take 1++l.drop 1:=cutL 0 1
  rw [e0] at s0
  have s1:l.drop 1=(l.drop 1).take 1++l.drop 2:=cutL 1 1
  rw [e1] at s1
  have sz:l.drop 2=[]:=List.drop_of_length_le (by omega)
  refine ⟨⟨n0,n1⟩,?_⟩
  rw [s,s0,s1,sz]
  rfl
set_option maxRecDepth 100000 in
theorem cmd_ok {H:Type} {enc:TypeId × Value→H} {W:World} {fuel:Nat} {l:List Value} {x:DataW H × List MemPlace}
    (hf:DataW.trod enc Tryz.prog W 0 (fun _=>true) true fuel 39 l=some x):∃ c:Cm,l=c.cs:=by
  obtain ⟨xs,n,_,_,hl,hlen,hfs⟩:=DataW.trod_struct Tryz.und47 hf
  rw [Tryz.cells47] at hl
  have hlen:xs.length=7:=hlen
  have h0:DataW.trod enc Tryz.prog W 0 (fun _=>true) true n 3 ((l.drop 0).take (Tryz.prog.cellsOf 3))=xs[0]?:=hfs 0 _ rfl
  obtain ⟨y0,hy0⟩:∃ y,xs[0]?=some y:=⟨_,List.getElem?_eq_getElem (show 0 < xs.length by omega)⟩
  rw [Tryz.cells3,hy0] at h0
  obtain ⟨n0,e0,_,_⟩:=DataW.trod_int Tryz.und3 h0
  have h1:DataW.trod enc Tryz.prog W 0 (fun _=>true) true n 3 ((l.drop 1).take (Tryz.prog.cellsOf 3))=xs[1]?:=hfs 1 _ rfl
  obtain ⟨y1,hy1⟩:∃ y,xs[1]?=some y:=⟨_,List.getElem?_eq_getElem (show 1 < xs.length by omega)⟩
  rw [Tryz.cells3,hy1] at h1
  obtain ⟨n1,e1,_,_⟩:=DataW.trod_int Tryz.und3 h1
  have h2:DataW.trod enc Tryz.prog W 0 (fun _=>true) true n 3 ((l.drop 2).take (Tryz.prog.cellsOf 3))=xs[2]?:=hfs 2 _ rfl
  obtain ⟨y2,hy2⟩:∃ y,xs[2]?=some y:=⟨_,List.getElem?_eq_getElem (show 2 < xs.length by omega)⟩
  rw [Tryz.cells3,hy2] at h2
  obtain ⟨n2,e2,_,_⟩:=DataW.trod_int Tryz.und3 h2
  have h3:DataW.trod enc Tryz.prog W 0 (fun _=>true) true n 9 ((l.drop 3).take (Tryz.prog.cellsOf 9))=xs[3]?:=hfs 3 _ rfl
  obtain ⟨y3,hy3⟩:∃ y,xs[3]?=some y:=⟨_,List.getElem?_eq_getElem (show 3 < xs.length by omega)⟩
  rw [Tryz.cells9,hy3] at h3
  obtain ⟨n3,e3,_,_⟩:=DataW.trod_string Tryz.und9 h3
  have h4:DataW.trod enc Tryz.prog W 0 (fun _=>true) true n 37 ((l.drop 4).take (Tryz.prog.cellsOf 37))=xs[4]?:=hfs 4 _ rfl
  obtain ⟨y4,hy4⟩:∃ y,xs[4]?=some y:=⟨_,List.getElem?_eq_getElem (show 4 < xs.length by omega)⟩
  rw [Tryz.cells45,hy4] at h4
  obtain ⟨m4,n4,e4⟩:=file_ok h4
  have h5:DataW.trod enc Tryz.prog W 0 (fun _=>true) true n 37 ((l.drop 6).take (Tryz.prog.cellsOf 37))=xs[5]?:=hfs 5 _ rfl
  obtain ⟨y5,hy5⟩:∃ y,xs[5]?=some y:=⟨_,List.getElem?_eq_getElem (show 5 < xs.length by omega)⟩
  rw [Tryz.cells45,hy5] at h5
  obtain ⟨m5,n5,e5⟩:=file_ok h5
  have h6:DataW.trod enc Tryz.prog W 0 (fun _=>true) true n 3 ((l.drop 8).take (Tryz.prog.cellsOf 3))=xs[6]?:=hfs 6 _ rfl
  obtain ⟨y6,hy6⟩:∃ y,xs[6]?=some y:=⟨_,List.getElem?_eq_getElem (show 6 < xs.length by omega)⟩
  rw [Tryz.cells3,hy6] at h6
  obtain ⟨n6,e6,_,_⟩:=DataW.trod_int Tryz.und3 h6
  have s:l=l.drop 0:=rfl
  have s0:l.drop 0=(l.drop 0).take 1++l.drop 1:=cutL 0 1
  rw [e0] at s0
  have s1:l.drop 1=(l.drop 1).take 1++l.drop 2:=cutL 1 1
  rw [e1] at s1
  have s2:l.drop 2=(l.drop 2).take 1++l.drop 3:=cutL 2 1
  rw [e2] at s2
  have s3:l.drop 3=(l.drop 3).take 1++l.drop 4:=cutL 3 1
  rw [e3] at s3
  have s4:l.drop 4=(l.drop 4).take 2++l.drop 6:=cutL 4 2
  rw [e4] at s4
  have s5:l.drop 6=(l.drop 6).take 2++l.drop 8:=cutL 6 2
  rw [e5] at s5
  have s6:l.drop 8=(l.drop 8).take 1++l.drop 9:=cutL 8 1
  rw [e6] at s6
  have sz:l.drop 9=[]:=List.drop_of_length_le (by omega)
  refine ⟨⟨n0,n1,n2,n3,m4,n4,m5,n5,n6⟩,?_⟩
  rw [s,s0,s1,s2,s3,s4,s5,s6,sz]
  rfl
set_option maxRecDepth 100000 in
theorem ent_ok {H:Type} {enc:TypeId × Value→H} {W:World} {fuel:Nat} {l:List Value} {x:DataW H × List MemPlace}
    (hf:DataW.trod enc Tryz.prog W 0 (fun _=>true) true fuel 92 l=some x):∃ c:En,l=c.cs:=by
  obtain ⟨xs,n,_,_,hl,hlen,hfs⟩:=DataW.trod_struct Tryz.und110 hf
  rw [Tryz.cells110] at hl
  have hlen:xs.length=3:=hlen
  have h0:DataW.trod enc Tryz.prog W 0 (fun _=>true) true n 9 ((l.drop 0).take (Tryz.prog.cellsOf 9))=xs[0]?:=hfs 0 _ rfl
  obtain ⟨y0,hy0⟩:∃ y,xs[0]?=some y:=⟨_,List.getElem?_eq_getElem (show 0 < xs.length by omega)⟩
  rw [Tryz.cells9,hy0] at h0
  obtain ⟨n0,e0,_,_⟩:=DataW.trod_string Tryz.und9 h0
  have h1:DataW.trod enc Tryz.prog W 0 (fun _=>true) true n 37 ((l.drop 1).take (Tryz.prog.cellsOf 37))=xs[1]?:=hfs 1 _ rfl
  obtain ⟨y1,hy1⟩:∃ y,xs[1]?=some y:=⟨_,List.getElem?_eq_getElem (show 1 < xs.length by omega)⟩
  rw [Tryz.cells45,hy1] at h1
  obtain ⟨m1,n1,e1⟩:=file_ok h1
  have h2:DataW.trod enc Tryz.prog W 0 (fun _=>true) true n 3 ((l.drop 3).take (Tryz.prog.cellsOf 3))=xs[2]?:=hfs 2 _ rfl
  obtain ⟨y2,hy2⟩:∃ y,xs[2]?=some y:=⟨_,List.getElem?_eq_getElem (show 2 < xs.length by omega)⟩
  rw [Tryz.cells3,hy2] at h2
  obtain ⟨n2,e2,_,_⟩:=DataW.trod_int Tryz.und3 h2
  have s:l=l.drop 0:=rfl
  have s0:l.drop 0=(l.drop 0).take 1++l.drop 1:=cutL 0 1
  rw [e0] at s0
  have s1:l.drop 1=(l.drop 1).take 2++l.drop 3:=cutL 1 2
  rw [e1] at s1
  have s2:l.drop 3=(l.drop 3).take 1++l.drop 4:=cutL 3 1
  rw [e2] at s2
  have sz:l.drop 4=[]:=List.drop_of_length_le (by omega)
  refine ⟨⟨n0,m1,n1,n2⟩,?_⟩
  rw [s,s0,s1,s2,sz]
  rfl
set_option maxRecDepth 100000 in
theorem last_ok {H:Type} {enc:TypeId × Value→H} {W:World} {fuel:Nat} {l:List Value} {x:DataW H × List MemPlace}
    (hf:DataW.trod enc Tryz.prog W 0 (fun _=>true) true fuel 94 l=some x):∃ c:La,l=c.cs:=by
  obtain ⟨xs,n,_,_,hl,hlen,hfs⟩:=DataW.trod_struct Tryz.und113 hf
  rw [Tryz.cells113] at hl
  have hlen:xs.length=6:=hlen
  have h0:DataW.trod enc Tryz.prog W 0 (fun _=>true) true n 3 ((l.drop 0).take (Tryz.prog.cellsOf 3))=xs[0]?:=hfs 0 _ rfl
  obtain ⟨y0,hy0⟩:∃ y,xs[0]?=some y:=⟨_,List.getElem?_eq_getElem (show 0 < xs.length by omega)⟩
  rw [Tryz.cells3,hy0] at h0
  obtain ⟨n0,e0,_,_⟩:=DataW.trod_int Tryz.und3 h0
  have h1:DataW.trod enc Tryz.prog W 0 (fun _=>true) true n 3 ((l.drop 1).take (Tryz.prog.cellsOf 3))=xs[1]?:=hfs 1 _ rfl
  obtain ⟨y1,hy1⟩:∃ y,xs[1]?=some y:=⟨_,List.getElem?_eq_getElem (show 1 < xs.length by omega)⟩
  rw [Tryz.cells3,hy1] at h1
  obtain ⟨n1,e1,_,_⟩:=DataW.trod_int Tryz.und3 h1
  have h2:DataW.trod enc Tryz.prog W 0 (fun _=>true) true n 3 ((l.drop 2).take (Tryz.prog.cellsOf 3))=xs[2]?:=hfs 2 _ rfl
  obtain ⟨y2,hy2⟩:∃ y,xs[2]?=some y:=⟨_,List.getElem?_eq_getElem (show 2 < xs.length by omega)⟩
  rw [Tryz.cells3,hy2] at h2
  obtain ⟨n2,e2,_,_⟩:=DataW.trod_int Tryz.und3 h2
  have h3:DataW.trod enc Tryz.prog W 0 (fun _=>true) true n 47 ((l.drop 3).take (Tryz.prog.cellsOf 47))=xs[3]?:=hfs 3 _ rfl
  obtain ⟨y3,hy3⟩:∃ y,xs[3]?=some y:=⟨_,List.getElem?_eq_getElem (show 3 < xs.length by omega)⟩
  rw [Tryz.cells111,hy3] at h3
  obtain ⟨n3,e3,_,_⟩:=DataW.trod_int Tryz.und111 h3
  have h4:DataW.trod enc Tryz.prog W 0 (fun _=>true) true n 37 ((l.drop 4).take (Tryz.prog.cellsOf 37))=xs[4]?:=hfs 4 _ rfl
  obtain ⟨y4,hy4⟩:∃ y,xs[4]?=some y:=⟨_,List.getElem?_eq_getElem (show 4 < xs.length by omega)⟩
  rw [Tryz.cells45,hy4] at h4
  obtain ⟨m4,n4,e4⟩:=file_ok h4
  have h5:DataW.trod enc Tryz.prog W 0 (fun _=>true) true n 3 ((l.drop 6).take (Tryz.prog.cellsOf 3))=xs[5]?:=hfs 5 _ rfl
  obtain ⟨y5,hy5⟩:∃ y,xs[5]?=some y:=⟨_,List.getElem?_eq_getElem (show 5 < xs.length by omega)⟩
  rw [Tryz.cells3,hy5] at h5
  obtain ⟨n5,e5,_,_⟩:=DataW.trod_int Tryz.und3 h5
  have s:l=l.drop 0:=rfl
  have s0:l.drop 0=(l.drop 0).take 1++l.drop 1:=cutL 0 1
  rw [e0] at s0
  have s1:l.drop 1=(l.drop 1).take 1++l.drop 2:=cutL 1 1
  rw [e1] at s1
  have s2:l.drop 2=(l.drop 2).take 1++l.drop 3:=cutL 2 1
  rw [e2] at s2
  have s3:l.drop 3=(l.drop 3).take 1++l.drop 4:=cutL 3 1
  rw [e3] at s3
  have s4:l.drop 4=(l.drop 4).take 2++l.drop 6:=cutL 4 2
  rw [e4] at s4
  have s5:l.drop 6=(l.drop 6).take 1++l.drop 7:=cutL 6 1
  rw [e5] at s5
  have sz:l.drop 7=[]:=List.drop_of_length_le (by omega)
  refine ⟨⟨n0,n1,n2,n3,m4,n4,n5⟩,?_⟩
  rw [s,s0,s1,s2,s3,s4,s5,sz]
  rfl
theorem ents_ok {H:Type} {enc:TypeId × Value→H} {W:World} {fuel:Nat} {v:Value} {x:DataW H × List MemPlace}
    (hf:DataW.trod enc Tryz.prog W 0 (fun _=>true) true fuel 40 [v]=some x) (hs:∀ n∈x.1.weights Tryz.prog 40,n≤reachBytes) :
    ∃ (s:Sl) (xs:List En),v=s.v∧RdE W s xs∧s.l*40≤140737488351232∧s.l≤s.k:=by
  rcases Go.Deep.open_slice Tryz.und29 hf with ⟨hcs,_⟩ | ⟨ad,l,cp,m,n,D,PP,hcs,hq,hl,hm,hmm,hx,hel⟩
  · simp at hcs
    exact ⟨slZ,[],hcs,⟨RowsAt.nil _ _ _,rfl,fun _=>rfl⟩,by show 0*40≤_;omega,Nat.le_refl _⟩
  · simp at hcs
    simp only[if_true] at hmm
    subst hmm
    have hb:l*40≤140737488351232:=by
      have h1:=hs _ (by rw [hx];simp only[DataW.weights,Tryz.und29];exact List.mem_cons_self ..)
      rw [Tryz.bytes110] at h1
      simp [reachBytes] at h1
      omega
    rw [Tryz.cells110] at hel
    have key:∀ i,i < l→∃ it:En,W.cells? 0 (ad.add (i*4)) 4=some it.cs:=by
      intro i hi
      obtain ⟨cs',hc,htr⟩:=hel i (by omega)
      obtain ⟨it,rfl⟩:=ent_ok htr
      exact ⟨it,hc⟩
    obtain ⟨f,hfm⟩:=Go.Deep.choose_lt key
    refine ⟨⟨some ad,l,m⟩,(List.range l).map f,hcs,⟨?_,by simp,fun e=>by cases e⟩,hb,(by show l≤m;omega)⟩
    intro i it hit
    have hi:i < l:=by have:=(List.getElem?_eq_some_iff.1 hit).1;simpa using this
    have e:(f i).cs=it:=by simpa [hi] using hit
    have hc:=hfm i hi
    have hcs:=(World.cells?_some hc).2.2
    obtain ⟨b,off,spot⟩:=ad
    have hspot:spot=none:=by
      have h00:=(World.cells?_some (hfm 0 (by omega))).2.2 0 (by omega)
      have h00':(f 0).cs[0]?=some (.string (f 0).nm):=rfl
      rw [h00'] at h00
      have:=World.cell?_spot h00
      simpa [Addr.add] using this
    subst hspot
    refine ⟨b,off,rfl,fun k v hv=>?_⟩
    rw [← e] at hv
    have hk:k < 4:=by have:=(List.getElem?_eq_some_iff.1 hv).1;exact this
    have h1:=hcs k hk
    rw [hv,Go.Deep.add_add,addr_add] at h1
    rw [show off+i*4+k=off+(i*4+k) by omega]
    exact h1
theorem lasts_ok {H:Type} {enc:TypeId × Value→H} {W:World} {fuel:Nat} {v:Value} {x:DataW H × List MemPlace}
    (hf:DataW.trod enc Tryz.prog W 0 (fun _=>true) true fuel 41 [v]=some x) (hs:∀ n∈x.1.weights Tryz.prog 41,n≤reachBytes) :
    ∃ (s:Sl) (xs:List La),v=s.v∧RdL W s xs∧s.l*56≤140737488351232∧s.l≤s.k:=by
  rcases Go.Deep.open_slice Tryz.und30 hf with ⟨hcs,_⟩ | ⟨ad,l,cp,m,n,D,PP,hcs,hq,hl,hm,hmm,hx,hel⟩
  · simp at hcs
    exact ⟨slZ,[],hcs,⟨RowsAt.nil _ _ _,rfl,fun _=>rfl⟩,by show 0*56≤_;omega,Nat.le_refl _⟩
  · simp at hcs
    simp only[if_true] at hmm
    subst hmm
    have hb:l*56≤140737488351232:=by
      have h1:=hs _ (by rw [hx];simp only[DataW.weights,Tryz.und30];exact List.mem_cons_self ..)
      rw [Tryz.bytes113] at h1
      simp [reachBytes] at h1
      omega
    rw [Tryz.cells113] at hel
    have key:∀ i,i < l→∃ it:La,W.cells? 0 (ad.add (i*7)) 7=some it.cs:=by
      intro i hi
      obtain ⟨cs',hc,htr⟩:=hel i (by omega)
      obtain ⟨it,rfl⟩:=last_ok htr
      exact ⟨it,hc⟩
    obtain ⟨f,hfm⟩:=Go.Deep.choose_lt key
    refine ⟨⟨some ad,l,m⟩,(List.range l).map f,hcs,⟨?_,by simp,fun e=>by cases e⟩,hb,(by show l≤m;omega)⟩
    intro i it hit
    have hi:i < l:=by have:=(List.getElem?_eq_some_iff.1 hit).1;simpa using this
    have e:(f i).cs=it:=by simpa [hi] using hit
    have hc:=hfm i hi
    have hcs:=(World.cells?_some hc).2.2
    obtain ⟨b,off,spot⟩:=ad
    have hspot:spot=none:=by
      have h00:=(World.cells?_some (hfm 0 (by omega))).2.2 0 (by omega)
      have h00':(f 0).cs[0]?=some (.int .i64 (f 0).cl):=rfl
      rw [h00'] at h00
      have:=World.cell?_spot h00
      simpa [Addr.add] using this
    subst hspot
    refine ⟨b,off,rfl,fun k v hv=>?_⟩
    rw [← e] at hv
    have hk:k < 7:=by have:=(List.getElem?_eq_some_iff.1 hv).1;exact this
    have h1:=hcs k hk
    rw [hv,Go.Deep.add_add,addr_add] at h1
    rw [show off+i*7+k=off+(i*7+k) by omega]
    exact h1
theorem cmds_ok {H:Type} {enc:TypeId × Value→H} {W:World} {fuel:Nat} {v:Value} {x:DataW H × List MemPlace}
    (hf:DataW.trod enc Tryz.prog W 0 (fun _=>true) true fuel 26 [v]=some x) (hs:∀ n∈x.1.weights Tryz.prog 26,n≤reachBytes) :
    ∃ (s:Sl) (xs:List Cm),v=s.v∧RdC W s xs∧s.l*80≤140737488351232∧s.l≤s.k:=by
  rcases Go.Deep.open_slice Tryz.und48 hf with ⟨hcs,_⟩ | ⟨ad,l,cp,m,n,D,PP,hcs,hq,hl,hm,hmm,hx,hel⟩
  · simp at hcs
    exact ⟨slZ,[],hcs,⟨RowsAt.nil _ _ _,rfl,fun _=>rfl⟩,by show 0*80≤_;omega,Nat.le_refl _⟩
  · simp at hcs
    simp only[if_true] at hmm
    subst hmm
    have hb:l*80≤140737488351232:=by
      have h1:=hs _ (by rw [hx];simp only[DataW.weights,Tryz.und48];exact List.mem_cons_self ..)
      rw [Tryz.bytes47] at h1
      simp [reachBytes] at h1
      omega
    rw [Tryz.cells47] at hel
    have key:∀ i,i < l→∃ it:Cm,W.cells? 0 (ad.add (i*9)) 9=some it.cs:=by
      intro i hi
      obtain ⟨cs',hc,htr⟩:=hel i (by omega)
      obtain ⟨it,rfl⟩:=cmd_ok htr
      exact ⟨it,hc⟩
    obtain ⟨f,hfm⟩:=Go.Deep.choose_lt key
    refine ⟨⟨some ad,l,m⟩,(List.range l).map f,hcs,⟨?_,by simp,fun e=>by cases e⟩,hb,(by show l≤m;omega)⟩
    intro i it hit
    have hi:i < l:=by have:=(List.getElem?_eq_some_iff.1 hit).1;simpa using this
    have e:(f i).cs=it:=by simpa [hi] using hit
    have hc:=hfm i hi
    have hcs:=(World.cells?_some hc).2.2
    obtain ⟨b,off,spot⟩:=ad
    have hspot:spot=none:=by
      have h00:=(World.cells?_some (hfm 0 (by omega))).2.2 0 (by omega)
      have h00':(f 0).cs[0]?=some (.int .i64 (f 0).k):=rfl
      rw [h00'] at h00
      have:=World.cell?_spot h00
      simpa [Addr.add] using this
    subst hspot
    refine ⟨b,off,rfl,fun k v hv=>?_⟩
    rw [← e] at hv
    have hk:k < 9:=by have:=(List.getElem?_eq_some_iff.1 hv).1;exact this
    have h1:=hcs k hk
    rw [hv,Go.Deep.add_add,addr_add] at h1
    rw [show off+i*9+k=off+(i*9+k) by omega]
    exact h1
theorem wu_lo {n:Int} (h:(Lit.int .u8 n).wf=true):0≤n:=by
  simp only[Lit.wf,Bool.and_eq_true,decide_eq_true_eq] at h
  have h1:IntKind.min .u8=0:=by decide
  rw [h1] at h;exact h.1
theorem wu_hi {n:Int} (h:(Lit.int .u8 n).wf=true):n≤255:=by
  simp only[Lit.wf,Bool.and_eq_true,decide_eq_true_eq] at h
  have h1:IntKind.max .u8=255:=by decide
  rw [h1] at h;exact h.2
theorem u8_map {f:Nat→Int} {l:Nat} {P:Nat→Prop} (h:∀ i,i < l→P i∧0≤f i∧f i≤255):Wi.U8 ((List.range l).map f):=by
  intro i
  by_cases hi:i < l
  · rw [List.getElem?_map,List.getElem?_range hi];exact (h i hi).2
  · rw [List.getElem?_eq_none (by simp;omega)];simp
theorem bytes_ok {H:Type} {enc:TypeId × Value→H} {W:World} {fuel:Nat} {v:Value} {x:DataW H × List MemPlace}
    (hf:DataW.trod enc Tryz.prog W 0 (fun _=>true) true fuel 35 [v]=some x) (hs:∀ n∈x.1.weights Tryz.prog 35,n≤reachBytes) :
    ∃ (s:Sl) (xs:List Int),v=s.v∧RdB W s xs∧s.l≤140737488351232∧s.l≤s.k∧Wi.U8 xs:=by
  rcases Go.Deep.open_slice Tryz.und26 hf with ⟨hcs,_⟩ | ⟨ad,l,cp,m,n,D,PP,hcs,hq,hl,hm,hmm,hx,hel⟩
  · simp at hcs
    exact ⟨slZ,[],hcs,⟨Nums.nil _ _ _,rfl,fun _=>rfl⟩,by show 0≤_;omega,Nat.le_refl _,Wi.U8.nil⟩
  · simp at hcs
    simp only[if_true] at hmm
    subst hmm
    have hb:l≤140737488351232:=by
      have h1:=hs _ (by rw [hx];simp only[DataW.weights,Tryz.und26];exact List.mem_cons_self ..)
      rw [Tryz.bytes5] at h1
      simp [reachBytes] at h1
      omega
    rw [Tryz.cells5] at hel
    have key:∀ i,i < l→∃ z:Int,W.cells? 0 (ad.add (i*1)) 1=some [.int .u8 z]∧0≤z∧z≤255:=by
      intro i hi
      obtain ⟨cs',hc,htr⟩:=hel i (by omega)
      obtain ⟨z,e,_,wz⟩:=DataW.trod_int Tryz.und5 htr
      subst e
      exact ⟨z,hc,wu_lo wz,wu_hi wz⟩
    obtain ⟨f,hfm⟩:=Go.Deep.choose_lt key
    refine ⟨⟨some ad,l,m⟩,(List.range l).map f,hcs,⟨?_,by simp,fun e=>by cases e⟩,hb,(by show l≤m;omega),u8_map hfm⟩
    intro i hi0
    have hi:i < l:=by simpa using hi0
    have hc:=(hfm i hi).1
    have hcs:=(World.cells?_some hc).2.2 0 (by omega)
    obtain ⟨b,off,spot⟩:=ad
    have h00':[Value.int .u8 (f i)][0]?=some (.int .u8 (f i)):=rfl
    rw [h00'] at hcs
    have hspot:spot=none:=by
      have h0:=(World.cells?_some (hfm 0 (by omega)).1).2.2 0 (by omega)
      have h00:[Value.int .u8 (f 0)][0]?=some (.int .u8 (f 0)):=rfl
      rw [h00] at h0
      have:=World.cell?_spot h0
      simpa [Addr.add] using this
    subst hspot
    refine ⟨b,off,rfl,?_⟩
    rw [Go.Deep.add_add,addr_add] at hcs
    rw [show off+i=off+(i*1+0) by omega]
    simpa [hi] using hcs
set_option maxRecDepth 100000 in
theorem bkt_ok {H:Type} {enc:TypeId × Value→H} {W:World} {fuel:Nat} {l:List Value} {x:DataW H × List MemPlace}
    (hf:DataW.trod enc Tryz.prog W 0 (fun _=>true) true fuel 43 l=some x) (hs:∀ n∈x.1.weights Tryz.prog 43,n≤reachBytes) :
    ∃ (b:Bv) (es:List En) (ls:List La),l=b.cs∧RdE W b.e es∧RdL W b.l ls∧b.e.l*40≤140737488351232∧b.l.l*56≤140737488351232:=by
  obtain ⟨xs,n,_,rfl,hl,hlen,hfs⟩:=DataW.trod_struct Tryz.und32 hf
  rw [Tryz.cells32] at hl
  have hlen:xs.length=3:=hlen
  match xs,hlen,hfs,hs with
  | [y0,y1,y2],_,hfs,hs=>
    have h0:DataW.trod enc Tryz.prog W 0 (fun _=>true) true n 3 ((l.drop 0).take (Tryz.prog.cellsOf 3))=some y0:=hfs 0 _ rfl
    rw [Tryz.cells3] at h0
    obtain ⟨n0,e0,_,_⟩:=DataW.trod_int Tryz.und3 h0
    have h1:DataW.trod enc Tryz.prog W 0 (fun _=>true) true n 40 ((l.drop 1).take (Tryz.prog.cellsOf 40))=some y1:=hfs 1 _ rfl
    rw [Tryz.cells29] at h1
    have g1:l.drop 1=(l.drop 1).take 1++l.drop 2:=cutL 1 1
    obtain ⟨c1,hc1⟩:∃ c,(l.drop 1).take 1=[c]:=List.length_eq_one_iff.1 (by rw [List.length_take,List.length_drop];omega)
    rw [hc1] at h1
    obtain ⟨n1,z1,u1,a1,b1,d1⟩:=ents_ok h1 (fun w hw=>hs w (by
      simp only[DataW.weights,Tryz.und32]
      exact DataW.weights_mem_each (j:=1) (t:=40) (d:=y1.1) (by kernel_rfl) rfl w hw))
    have e1:(l.drop 1).take 1=[n1.v]:=by rw [hc1,u1]
    have h2:DataW.trod enc Tryz.prog W 0 (fun _=>true) true n 41 ((l.drop 2).take (Tryz.prog.cellsOf 41))=some y2:=hfs 2 _ rfl
    rw [Tryz.cells30] at h2
    have g2:l.drop 2=(l.drop 2).take 1++l.drop 3:=cutL 2 1
    obtain ⟨c2,hc2⟩:∃ c,(l.drop 2).take 1=[c]:=List.length_eq_one_iff.1 (by rw [List.length_take,List.length_drop];omega)
    rw [hc2] at h2
    obtain ⟨n2,z2,u2,a2,b2,d2⟩:=lasts_ok h2 (fun w hw=>hs w (by
      simp only[DataW.weights,Tryz.und32]
      exact DataW.weights_mem_each (j:=2) (t:=41) (d:=y2.1) (by kernel_rfl) rfl w hw))
    have e2:(l.drop 2).take 1=[n2.v]:=by rw [hc2,u2]
    have s:l=l.drop 0:=rfl
    have s0:l.drop 0=(l.drop 0).take 1++l.drop 1:=cutL 0 1
    rw [e0] at s0
    have s1:l.drop 1=(l.drop 1).take 1++l.drop 2:=cutL 1 1
    rw [e1] at s1
    have s2:l.drop 2=(l.drop 2).take 1++l.drop 3:=cutL 2 1
    rw [e2] at s2
    have sz:l.drop 3=[]:=List.drop_of_length_le (by omega)
    refine ⟨⟨n0,n1,n2⟩,z1,z2,?_,a1,a2,b1,b2⟩
    rw [s,s0,s1,s2,sz]
    rfl
set_option maxRecDepth 100000 in
theorem msg_ok {H:Type} {enc:TypeId × Value→H} {W:World} {fuel:Nat} {l:List Value} {x:DataW H × List MemPlace}
    (hf:DataW.trod enc Tryz.prog W 0 (fun _=>true) true fuel 45 l=some x) (hs:∀ n∈x.1.weights Tryz.prog 45,n≤reachBytes) :
    ∃ (m:Mg) (bs:List Int) (es:List En) (ls:List La) (cs:List Cm),l=m.cs∧MgIn W m bs es ls cs∧-9223372036854775808≤m.st.n:=by
  obtain ⟨xs,n,_,rfl,hl,hlen,hfs⟩:=DataW.trod_struct Tryz.und50 hf
  rw [Tryz.cells50] at hl
  have hlen:xs.length=13:=hlen
  match xs,hlen,hfs,hs with
  | [y0,y1,y2,y3,y4,y5,y6,y7,y8,y9,y10,y11,y12],_,hfs,hs=>
    have h0:DataW.trod enc Tryz.prog W 0 (fun _=>true) true n 3 ((l.drop 0).take (Tryz.prog.cellsOf 3))=some y0:=hfs 0 _ rfl
    rw [Tryz.cells3] at h0
    obtain ⟨n0,e0,_,_⟩:=DataW.trod_int Tryz.und3 h0
    have h1:DataW.trod enc Tryz.prog W 0 (fun _=>true) true n 30 ((l.drop 1).take (Tryz.prog.cellsOf 30))=some y1:=hfs 1 _ rfl
    rw [Tryz.cells43] at h1
    obtain ⟨n1,e1⟩:=addr_ok h1
    have h2:DataW.trod enc Tryz.prog W 0 (fun _=>true) true n 30 ((l.drop 3).take (Tryz.prog.cellsOf 30))=some y2:=hfs 2 _ rfl
    rw [Tryz.cells43] at h2
    obtain ⟨n2,e2⟩:=addr_ok h2
    have h3:DataW.trod enc Tryz.prog W 0 (fun _=>true) true n 3 ((l.drop 5).take (Tryz.prog.cellsOf 3))=some y3:=hfs 3 _ rfl
    rw [Tryz.cells3] at h3
    obtain ⟨n3,e3,_,_⟩:=DataW.trod_int Tryz.und3 h3
    have h4:DataW.trod enc Tryz.prog W 0 (fun _=>true) true n 3 ((l.drop 6).take (Tryz.prog.cellsOf 3))=some y4:=hfs 4 _ rfl
    rw [Tryz.cells3] at h4
    obtain ⟨n4,e4,_,_⟩:=DataW.trod_int Tryz.und3 h4
    have h5:DataW.trod enc Tryz.prog W 0 (fun _=>true) true n 32 ((l.drop 7).take (Tryz.prog.cellsOf 32))=some y5:=hfs 5 _ rfl
    rw [Tryz.cells23] at h5
    obtain ⟨n5,e5⟩:=key_ok h5
    have h6:DataW.trod enc Tryz.prog W 0 (fun _=>true) true n 34 ((l.drop 11).take (Tryz.prog.cellsOf 34))=some y6:=hfs 6 _ rfl
    rw [Tryz.cells25] at h6
    obtain ⟨n6,e6,b6⟩:=stamp_ok h6
    have h7:DataW.trod enc Tryz.prog W 0 (fun _=>true) true n 34 ((l.drop 13).take (Tryz.prog.cellsOf 34))=some y7:=hfs 7 _ rfl
    rw [Tryz.cells25] at h7
    obtain ⟨n7,e7,b7⟩:=stamp_ok h7
    have h8:DataW.trod enc Tryz.prog W 0 (fun _=>true) true n 35 ((l.drop 15).take (Tryz.prog.cellsOf 35))=some y8:=hfs 8 _ rfl
    rw [Tryz.cells26] at h8
    have g8:l.drop 15=(l.drop 15).take 1++l.drop 16:=cutL 15 1
    obtain ⟨c8,hc8⟩:∃ c,(l.drop 15).take 1=[c]:=List.length_eq_one_iff.1 (by rw [List.length_take,List.length_drop];omega)
    rw [hc8] at h8
    obtain ⟨n8,z8,u8,a8,b8,d8,du8⟩:=bytes_ok h8 (fun w hw=>hs w (by
      simp only[DataW.weights,Tryz.und50]
      exact DataW.weights_mem_each (j:=8) (t:=35) (d:=y8.1) (by kernel_rfl) rfl w hw))
    have e8:(l.drop 15).take 1=[n8.v]:=by rw [hc8,u8]
    have h9:DataW.trod enc Tryz.prog W 0 (fun _=>true) true n 39 ((l.drop 16).take (Tryz.prog.cellsOf 39))=some y9:=hfs 9 _ rfl
    rw [Tryz.cells47] at h9
    obtain ⟨n9,e9⟩:=cmd_ok h9
    have h10:DataW.trod enc Tryz.prog W 0 (fun _=>true) true n 43 ((l.drop 25).take (Tryz.prog.cellsOf 43))=some y10:=hfs 10 _ rfl
    rw [Tryz.cells32] at h10
    obtain ⟨n10,z10,zz10,e10,a10,aa10,b10,bb10⟩:=bkt_ok h10 (fun w hw=>hs w (by
      simp only[DataW.weights,Tryz.und50]
      exact DataW.weights_mem_each (j:=10) (t:=43) (d:=y10.1) (by kernel_rfl) rfl w hw))
    have h11:DataW.trod enc Tryz.prog W 0 (fun _=>true) true n 26 ((l.drop 28).take (Tryz.prog.cellsOf 26))=some y11:=hfs 11 _ rfl
    rw [Tryz.cells48] at h11
    have g11:l.drop 28=(l.drop 28).take 1++l.drop 29:=cutL 28 1
    obtain ⟨c11,hc11⟩:∃ c,(l.drop 28).take 1=[c]:=List.length_eq_one_iff.1 (by rw [List.length_take,List.length_drop];omega)
    rw [hc11] at h11
    obtain ⟨n11,z11,u11,a11,b11,d11⟩:=cmds_ok h11 (fun w hw=>hs w (by
      simp only[DataW.weights,Tryz.und50]
      exact DataW.weights_mem_each (j:=11) (t:=26) (d:=y11.1) (by kernel_rfl) rfl w hw))
    have e11:(l.drop 28).take 1=[n11.v]:=by rw [hc11,u11]
    have h12:DataW.trod enc Tryz.prog W 0 (fun _=>true) true n 4 ((l.drop 29).take (Tryz.prog.cellsOf 4))=some y12:=hfs 12 _ rfl
    rw [Tryz.cells4] at h12
    obtain ⟨n12,e12,_⟩:=DataW.trod_bool Tryz.und4 h12
    have s:l=l.drop 0:=rfl
    have s0:l.drop 0=(l.drop 0).take 1++l.drop 1:=cutL 0 1
    rw [e0] at s0
    have s1:l.drop 1=(l.drop 1).take 2++l.drop 3:=cutL 1 2
    rw [e1] at s1
    have s2:l.drop 3=(l.drop 3).take 2++l.drop 5:=cutL 3 2
    rw [e2] at s2
    have s3:l.drop 5=(l.drop 5).take 1++l.drop 6:=cutL 5 1
    rw [e3] at s3
    have s4:l.drop 6=(l.drop 6).take 1++l.drop 7:=cutL 6 1
    rw [e4] at s4
    have s5:l.drop 7=(l.drop 7).take 4++l.drop 11:=cutL 7 4
    rw [e5] at s5
    have s6:l.drop 11=(l.drop 11).take 2++l.drop 13:=cutL 11 2
    rw [e6] at s6
    have s7:l.drop 13=(l.drop 13).take 2++l.drop 15:=cutL 13 2
    rw [e7] at s7
    have s8:l.drop 15=(l.drop 15).take 1++l.drop 16:=cutL 15 1
    rw [e8] at s8
    have s9:l.drop 16=(l.drop 16).take 9++l.drop 25:=cutL 16 9
    rw [e9] at s9
    have s10:l.drop 25=(l.drop 25).take 3++l.drop 28:=cutL 25 3
    rw [e10] at s10
    have s11:l.drop 28=(l.drop 28).take 1++l.drop 29:=cutL 28 1
    rw [e11] at s11
    have s12:l.drop 29=(l.drop 29).take 1++l.drop 30:=cutL 29 1
    rw [e12] at s12
    have sz:l.drop 30=[]:=List.drop_of_length_le (by omega)
    refine ⟨⟨n0,n1,n2,n3,n4,n5,n6,n7,n8,n9,n10,n11,n12⟩,z8,z10,zz10,z11,?_,⟨a8,a10,aa10,a11,b8,by show n10.e.l≤_;omega,by show n10.l.l≤_;omega,by show n11.l≤_;omega,du8⟩,b6⟩
    rw [s,s0,s1,s2,s3,s4,s5,s6,s7,s8,s9,s10,s11,s12,sz]
    rfl
theorem ints_ok {H:Type} {enc:TypeId × Value→H} {W:World} {fuel:Nat} {v:Value} {x:DataW H × List MemPlace}
    (hf:DataW.trod enc Tryz.prog W 0 (fun _=>true) true fuel 22 [v]=some x) (hs:∀ n∈x.1.weights Tryz.prog 22,n≤reachBytes):∃ (s:Sl) (zs:List Int),v=s.v∧RdI W s zs∧s.l≤17592186043904:=by
  rcases open_ints U22 U3 (by kernel_rfl) hf with ⟨hcs,_⟩ | ⟨ad,l,c,zs,hcs,hq,hl,hm,hz,hx,hcell,hwz⟩
  · simp at hcs
    exact ⟨slZ,[],hcs,⟨Nums.nil _ _ _,rfl⟩,by show 0≤_;omega⟩
  · simp at hcs
    have hz':zs.length=c:=by simpa using hz
    have hb:l≤17592186043904:=by
      have:=hs ((l+(zs.length - l)) * Tryz.prog.bytesOf 3) (by
        rw [hx];simp only[DataW.weights,U22]
        refine List.mem_cons.2 (.inl ?_)
        simp only[lits,List.length_map,List.length_take,List.length_drop]
        rw [Nat.min_eq_left (by omega)])
      rw [show Tryz.prog.bytesOf 3=8 by kernel_rfl] at this
      simp only[reachBytes] at this
      omega
    refine ⟨⟨some ad,l,c⟩,zs.take l,hcs,⟨?_,by simp;omega⟩,hb⟩
    intro i hi
    simp only[List.length_take] at hi
    obtain ⟨b,off,rfl,hc⟩:=ints_at hcell (by omega)
    refine ⟨b,off,rfl,?_⟩
    rw [List.getElem?_take,if_pos (by omega),hc i (by omega)]
    simp
theorem Tryz.cells22:Tryz.prog.cellsOf 22=1:=by kernel_rfl
theorem Tryz.cells24:Tryz.prog.cellsOf 24=6:=by kernel_rfl
set_option maxRecDepth 100000 in
theorem cfg_ok {H:Type} {enc:TypeId × Value→H} {W:World} {fuel:Nat} {l:List Value} {x:DataW H × List MemPlace}
    (hf:DataW.trod enc Tryz.prog W 0 (fun _=>true) true fuel 24 l=some x) (hs:∀ n∈x.1.weights Tryz.prog 24,n≤reachBytes):∃ (c:Cg) (zs:List Int),l=c.cs∧CgIn W c zs:=by
  obtain ⟨xs,n,_,rfl,hl,hlen,hfs⟩:=DataW.trod_struct U24 hf
  rw [Tryz.cells24] at hl
  have hlen:xs.length=6:=hlen
  match xs,hlen,hfs,hs with
  | [y0,y1,y2,y3,y4,y5],_,hfs,hs=>
    have h0:DataW.trod enc Tryz.prog W 0 (fun _=>true) true n 22 ((l.drop 0).take (Tryz.prog.cellsOf 22))=some y0:=hfs 0 _ rfl
    rw [Tryz.cells22] at h0
    obtain ⟨c0,hc0⟩:∃ c,(l.drop 0).take 1=[c]:=List.length_eq_one_iff.1 (by rw [List.length_take,List.length_drop];omega)
    rw [hc0] at h0
    obtain ⟨n0,z0,u0,a0,b0⟩:=ints_ok h0 (fun w hw=>hs w (by
      simp only[DataW.weights,U24]
      exact DataW.weights_mem_each (j:=0) (t:=22) (d:=y0.1) (by kernel_rfl) rfl w hw))
    have e0:(l.drop 0).take 1=[n0.v]:=by rw [hc0,u0]
    have h1:DataW.trod enc Tryz.prog W 0 (fun _=>true) true n 3 ((l.drop 1).take (Tryz.prog.cellsOf 3))=some y1:=hfs 1 _ rfl
    have h2:DataW.trod enc Tryz.prog W 0 (fun _=>true) true n 3 ((l.drop 2).take (Tryz.prog.cellsOf 3))=some y2:=hfs 2 _ rfl
    have h3:DataW.trod enc Tryz.prog W 0 (fun _=>true) true n 3 ((l.drop 3).take (Tryz.prog.cellsOf 3))=some y3:=hfs 3 _ rfl
    have h4:DataW.trod enc Tryz.prog W 0 (fun _=>true) true n 3 ((l.drop 4).take (Tryz.prog.cellsOf 3))=some y4:=hfs 4 _ rfl
    have h5:DataW.trod enc Tryz.prog W 0 (fun _=>true) true n 3 ((l.drop 5).take (Tryz.prog.cellsOf 3))=some y5:=hfs 5 _ rfl
    rw [Tryz.cells3] at h1 h2 h3 h4 h5
    obtain ⟨n1,e1,_,_⟩:=DataW.trod_int Tryz.und3 h1
    obtain ⟨n2,e2,_,_⟩:=DataW.trod_int Tryz.und3 h2
    obtain ⟨n3,e3,_,_⟩:=DataW.trod_int Tryz.und3 h3
    obtain ⟨n4,e4,_,_⟩:=DataW.trod_int Tryz.und3 h4
    obtain ⟨n5,e5,_,_⟩:=DataW.trod_int Tryz.und3 h5
    have s:l=l.drop 0:=rfl
    have s0:l.drop 0=(l.drop 0).take 1++l.drop 1:=cutL 0 1
    rw [e0] at s0
    have s1:l.drop 1=(l.drop 1).take 1++l.drop 2:=cutL 1 1
    rw [e1] at s1
    have s2:l.drop 2=(l.drop 2).take 1++l.drop 3:=cutL 2 1
    rw [e2] at s2
    have s3:l.drop 3=(l.drop 3).take 1++l.drop 4:=cutL 3 1
    rw [e3] at s3
    have s4:l.drop 4=(l.drop 4).take 1++l.drop 5:=cutL 4 1
    rw [e4] at s4
    have s5:l.drop 5=(l.drop 5).take 1++l.drop 6:=cutL 5 1
    rw [e5] at s5
    have sz:l.drop 6=[]:=List.drop_of_length_le (by omega)
    refine ⟨⟨n0,n1,n2,n3,n4,n5⟩,z0,?_,a0,b0⟩
    rw [s,s0,s1,s2,s3,s4,s5,sz]
    rfl
theorem weights_all {H:Type} {P:Program} {e:TypeId}:∀ {ds:List (DataW H)} {d:DataW H},d∈ds→∀ n∈d.weights P e,n∈DataW.weightsAll P e ds
  | d0 :: r,d,hd,n,hn=>by
    rw [DataW.weightsAll,List.mem_append]
    rcases List.mem_cons.1 hd with rfl | h
    · exact .inl hn
    · exact .inr (weights_all h n hn)
theorem rows_ok {H:Type} {enc:TypeId × Value→H} {W:World} {α:Type} [Inhabited α] (cs:α→List Value) (c by':Nat) (T E:TypeId) (hU:Tryz.prog.underlying T=some (.slice E)) (hc:Tryz.prog.cellsOf E=c) (hby:Tryz.prog.bytesOf E=by') (h0:0 < c) (hlen:∀ a,(cs a).length=c) (P:α→Prop)
    (hel:∀ (fuel:Nat) (l:List Value) (x:DataW H × List MemPlace),DataW.trod enc Tryz.prog W 0 (fun _=>true) true fuel E l=some x→(∀ n∈x.1.weights Tryz.prog E,n≤reachBytes)→∃ a,l=cs a∧P a)
    {fuel:Nat} {v:Value} {x:DataW H × List MemPlace} (hf:DataW.trod enc Tryz.prog W 0 (fun _=>true) true fuel T [v]=some x) (hs:∀ n∈x.1.weights Tryz.prog T,n≤reachBytes) :
    ∃ (s:Sl) (xs:List α),v=s.v∧RowsAt c W s.a (xs.map cs)∧xs.length=s.l∧(∀ i,i < s.l→P (xs[i]?.getD default))∧s.l*by'≤140737488351232:=by
  rcases Go.Deep.open_slice hU hf with ⟨hcs,_⟩ | ⟨ad,l,cp,m,n,D,PP,hcs,hq,hl,hm,hmm,hx,hel2⟩
  · simp at hcs
    exact ⟨slZ,[],hcs,RowsAt.nil _ _ _,rfl,fun i hi=>absurd hi (Nat.not_lt_zero _),by show 0*by'≤_;omega⟩
  · simp at hcs
    simp only[if_true] at hmm
    subst hmm
    have hb:l*by'≤140737488351232:=by
      have h1:=hs _ (by rw [hx];simp only[DataW.weights,hU];exact List.mem_cons_self ..)
      rw [hby] at h1
      simp [reachBytes] at h1
      rw [show l+(m - l)=m by omega] at h1
      exact Nat.le_trans (Nat.mul_le_mul_right _ hl) h1
    rw [hc] at hel2
    have key:∀ i,i < l→∃ it:α,W.cells? 0 (ad.add (i*c)) c=some (cs it)∧P it:=by
      intro i hi
      obtain ⟨cs',hc',htr⟩:=hel2 i (by omega)
      obtain ⟨it,rfl,hp⟩:=hel _ _ _ htr (fun n hn=>hs n (by
        rw [hx];simp only[DataW.weights,hU]
        refine List.mem_cons_of_mem _ (List.mem_append.2 (.inl (weights_all (d:=D i) ?_ n hn)))
        exact List.mem_map.2 ⟨i,List.mem_range.2 hi,rfl⟩))
      exact ⟨it,hc',hp⟩
    obtain ⟨f,hfm⟩:=Go.Deep.choose_lt key
    refine ⟨⟨some ad,l,m⟩,(List.range l).map f,hcs,?_,by simp,?_,hb⟩
    · intro i it hit
      have hi:i < l:=by have:=(List.getElem?_eq_some_iff.1 hit).1;simpa using this
      have e:cs (f i)=it:=by simpa [hi] using hit
      obtain ⟨hc',_⟩:=hfm i hi
      have hcs:=(World.cells?_some hc').2.2
      obtain ⟨b,off,spot⟩:=ad
      have hspot:spot=none:=by
        have h00:=(World.cells?_some (hfm 0 (by omega)).1).2.2 0 h0
        rw [List.getElem?_eq_getElem (show 0 < (cs (f 0)).length by rw [hlen];exact h0)] at h00
        have:=World.cell?_spot h00
        simpa [Addr.add] using this
      subst hspot
      refine ⟨b,off,rfl,fun j u hu=>?_⟩
      rw [← e] at hu
      have hj:j < c:=by have:=(List.getElem?_eq_some_iff.1 hu).1;rw [hlen] at this;exact this
      have h:=hcs j hj
      rw [hu,Go.Deep.add_add,addr_add] at h
      rw [show off+i*c+j=off+(i*c+j) by omega]
      exact h
    · intro i hi
      have hi:i < l:=hi
      rw [List.getElem?_map,List.getElem?_range hi]
      exact (hfm i hi).2
open Go.RowKit
structure RdM (w:World) (s:Sl) (ms:List Mg):Prop where
  row:RowsAt 30 w s.a (ms.map Mg.cs)
  len:ms.length=s.l
structure RdK (w:World) (s:Sl) (ks:List Bv):Prop where
  row:RowsAt 3 w s.a (ks.map Bv.cs)
  len:ks.length=s.l
def gAt (ms:List Mg) (i:Nat):Mg:=ms[i]?.getD mgZ
def kAt (ks:List Bv) (i:Nat):Bv:=ks[i]?.getD bvZ
theorem RdM.at' {w:World} {s:Sl} {es:List Mg} (h:RdM w s es) {i:Nat} (hi:i < s.l):∃ b off,s.v=.slice (some ⟨b,off,none⟩) s.l s.k∧∀ (j:Nat) v,(gAt es i).cs[j]?=some v→w.cell? ⟨b,off+i*30+j,none⟩=some v:=by
  obtain ⟨b,off,ha,hc⟩:=h.row i (gAt es i).cs (by rw [List.getElem?_map,show es[i]?=some (gAt es i) by simp [gAt,List.getElem?_eq_getElem (show i < es.length by rw [h.len];exact hi)]];rfl);exact ⟨b,off,by unfold Sl.v;rw [ha],hc⟩
theorem RdK.at' {w:World} {s:Sl} {es:List Bv} (h:RdK w s es) {i:Nat} (hi:i < s.l):∃ b off,s.v=.slice (some ⟨b,off,none⟩) s.l s.k∧∀ (j:Nat) v,(kAt es i).cs[j]?=some v→w.cell? ⟨b,off+i*3+j,none⟩=some v:=by
  obtain ⟨b,off,ha,hc⟩:=h.row i (kAt es i).cs (by rw [List.getElem?_map,show es[i]?=some (kAt es i) by simp [kAt,List.getElem?_eq_getElem (show i < es.length by rw [h.len];exact hi)]];rfl);exact ⟨b,off,by unfold Sl.v;rw [ha],hc⟩
theorem load_M {w:World} {b off i:Nat} {e:Mg} (hc:∀ (j:Nat) v,e.cs[j]?=some v→w.cell? ⟨b,off+i*30+j,none⟩=some v):(loadVar 45 ⟨b,off+i*30,none⟩).run Tryz.prog w=.ok (.agg e.cells) w:=load_at hc U45 rfl S45
set_option maxRecDepth 100000 in
set_option maxHeartbeats 4000000 in
theorem p_Valid (m:Mg) (c:Cg) (zs:List Int) (bs:List Int) (es:List En) (ls:List La) (cs:List Cm) (w:World) (hc:CgIn w c zs) (hm:MgIn w m bs es ls cs):Calls Tryz.prog 11 #[.agg (Mg.cells m),.agg (Cg.cells c)] w (fun e w'=>e=.returned (.int .i64 (jdg (cfgP c zs) (msgP c.bl c.rm c.bu zs m bs es ls cs) 50))∧Kept No w w'):=by
  refine hidC fun C HC=>?_;have HCg:Hid (CgIn w c zs):=hc;have HI:Hid (MgIn w m bs es ls cs):=hm;clear hc hm;have HF:Hid (Fq No w w []):=Fq.start _ _;go_enter Tryz.func11,Tryz.ntmps11;go_upto_region 0 with fail;refine Sg<|xB (Mg.cells m) HF fun g1 w2 HF=>xB (Cg.cells c) HF fun g3 w4 HF=>tK (.int .i64 0)<|Nl ?_;simp only[pS];go_upto_region 1 with fail;refine Sg<|lP (Mg.cs m) HF 0 0 U45 S45 (Mg.cs m) rfl<|lP (Cg.cs c) HF 1 0 U24 S24 (Cg.cs c) rfl<|cV (judgeM m c zs bs es ls cs 50 _ (HCg.out.no HF.out.kept) (HI.out.no HF.out.kept)) HF fun w5 HF=>tK (.int .i64 (jdg (cfgP c zs) (msgP c.bl c.rm c.bu zs m bs es ls cs) 50))<|Nl ?_;simp only[pS];go_wp2;rw [HC.out];exact ⟨rfl,HF.out.kept⟩
instance:Inhabited Mg:=⟨mgZ⟩
instance:Inhabited Bv:=⟨bvZ⟩
instance:Inhabited Cm:=⟨cZ⟩
set_option maxRecDepth 100000 in
theorem opened_cg (H:Type) (enc:TypeId × Value→H) (W:World) (b0:Nat) (v:Value) (d0:DataW H) (p0:List MemPlace) (hv:Value.okWide Tryz.prog W .any b0 24 v)
    (h0:DataW.Trod enc Tryz.prog W 0 (fun _=>true) true 24 v d0 p0) {ts:List TypeId} {ds:List (DataW H)} (hsz:(DataW.weightsEach Tryz.prog ts ds).all (·≤reachBytes)=true) {j:Nat} (ht:ts[j]?=some 24) (hd:ds[j]?=some d0) :
    ∃ (c:Cg) (zs:List Int),v=.agg (Cg.cells c)∧CgIn W c zs:=by
  obtain ⟨cs,rfl,_⟩:=okWide_struct U24 hv
  obtain ⟨fuel,hf⟩:=h0
  obtain ⟨q,zs,e,h1⟩:=cfg_ok hf (fun n hn=>by
    have:=List.all_eq_true.1 hsz _ (DataW.weights_mem_each ht hd n hn)
    simpa using this)
  simp only[Value.cells] at e
  obtain ⟨l⟩:=cs
  simp only[] at e
  exact ⟨q,zs,by rw [e];rfl,h1⟩
end Go.Proofs.YtgdnofacgfjaeaaGreat.Md
namespace Go.Proofs.YtgdnofacgfjaeaaGreat.Wi
open Go.RowKit
set_option linter.unusedVariables false
def headOf (zs:List Int):List Int:=fourOf zs.length++fourOf (sumOf (fourOf zs.length))
def sealOf (zs:List Int):List Int:=headOf zs++zs++fourOf (sumOf (headOf zs++zs))
theorem headOf_len (zs:List Int):(headOf zs).length=8:=rfl
theorem sealOf_len (zs:List Int):(sealOf zs).length=zs.length+12:=by simp [sealOf,headOf_len,fourOf_len];omega
theorem headOf_u8 (zs:List Int):U8 (headOf zs):=(fourOf_u8 _).append (fourOf_u8 _)
theorem sealOf_u8 {zs:List Int} (h:U8 zs):U8 (sealOf zs):=((headOf_u8 _).append h).append (fourOf_u8 _)
theorem at_some {b off k:Nat} (h:At (some ⟨b,off,none⟩) k):k=b:=by obtain ⟨ad,e,rfl⟩:=h;cases e;rfl
theorem Kept.fresh {w w1 w2:World} {S:Nat→Prop} (h:Kept No w w1) (k:Kept S w1 w2) (hS:∀ i,S i→w.heap.size≤i):Kept No w w2:=
  h.trans k (fun _ e=>e) (fun i hi e=>absurd hi (by have:=hS i e;omega))
theorem ret_slice {a:Option Addr} {n m c:Nat} (h:n=m):Ending.returned (.slice a n c)=.returned (.slice a m c):=by rw [h]
set_option maxRecDepth 1000000 in
set_option maxHeartbeats 1000000 in
theorem seal_any (a:Option Addr) (m cap:Nat) (zs:List Int) (w:World) (hz:zs.length=m) (hm:m≤131072) (hb:Bytes w a zs) (h8:U8 zs) (hc:a=none→cap=0) :
    Calls Tryz.prog 38 #[.slice a m cap] w fun e w'=>∃ a' c',e=.returned (.slice a' (m+12) c')∧OwnS w' w.heap.size a' c' (sealOf zs)∧Kept No w w':=by
  have HB:Hid (Bytes w a zs):=hb
  have H8:Hid (U8 zs):=h8
  have HC:Hid (a=none→cap=0):=hc
  have HZ:Hid (zs.length=m):=hz
  clear hb h8 hc hz
  obtain ⟨i0,hi,hz0,hz1,hz2⟩:=info_parts Tryz.info5
  go_enter Tryz.func38,Tryz.ntmps38
  go_wp2_with (at_make;go_must (refine wpList_make_own _ rfl _ (.tmp 10) 35 rfl w.heap.size 5 i0 (.int .u8 0) 1 Tryz.underlying35 hi hz0 hz1 .i64 .i64 _ (m+12) rfl rfl (by omega) (by rw [hz2];omega) (by unfold maxLen;omega) (Nat.le_refl _) ?_;intro w1 hown hgrow;have HO1:Hid (OwnS w1 w.heap.size (some ⟨w.heap.size,0,none⟩) (m+12) []):=hown;have HK1:Hid (Kept No w w1):=kept_grown hgrow;clear hown hgrow))
  refine (putFour_any w.heap.size _ _ _ [] _ _ rfl HO1.out HK1.out.size (by omega) (by omega) (by simp)).mono ?_
  rintro e w2 ⟨a2,c2,rfl,hO2,hK2⟩
  have HO2:Hid (OwnS w2 w.heap.size a2 c2 (fourOf m)):=hO2
  have HK2:Hid (Kept No w w2):=HK1.out.fresh hK2 (fun i e=>HO1.out.base e)
  clear hO2 hK2 HO1 HK1
  go_wp2_with fail
  refine (sumN_any _ _ _ (fourOf m) _ (by simp [fourOf_len]) (by omega) HO2.out.bytes (fourOf_u8 _)).mono ?_
  rintro e w' ⟨rfl,rfl⟩
  have hs:=sumOf_bd (fourOf m)
  go_wp2_with fail
  refine (putFour_any w.heap.size _ _ _ (fourOf m) _ _ (by simp [fourOf_len]) HO2.out HK2.out.size (by omega) (by omega) (by omega)).mono ?_
  rintro e w3 ⟨a3,c3,rfl,hO3,hK3⟩
  have HO3:Hid (OwnS w3 w.heap.size a3 c3 (headOf zs)):=by unfold headOf;rw [HZ.out];exact hO3
  have HK3:Hid (Kept No w w3):=HK2.out.fresh hK3 (fun i e=>HO2.out.base e)
  clear hO3 hK3 HO2 HK2 hs
  go_wp2_with (at_builtin;go_must (refine wp_app _ Tryz.underlying35 Tryz.info5 rfl _ _ rfl w.heap.size _ _ _ (headOf zs) rfl (by simp [headOf_len]) HO3.out _ _ _ zs rfl HZ.out (HB.out.no HK3.out) HC.out (by have:=HZ.out;rw [headOf_len];omega) HK3.out.size ?_;intro a4 c4 w4 HO4 HK4' HN';have HK4:Hid (Kept No w w4):=HK3.out.fresh HK4'.out (fun i e=>HO3.out.base e);clear HK4' HN' HO3 HK3))
  refine (sumN_any _ _ _ (headOf zs++zs) _ (by have:=HZ.out;simp [headOf_len];omega) (by omega) HO4.out.bytes ((headOf_u8 _).append H8.out)).mono ?_
  rintro e w' ⟨rfl,rfl⟩
  have hs:=sumOf_bd (headOf zs++zs)
  go_wp2_with fail
  refine (putFour_any w.heap.size _ _ _ (headOf zs++zs) _ _ (by have:=HZ.out;simp [headOf_len];omega) HO4.out HK4.out.size (by omega) (by omega) (by omega)).mono ?_
  rintro e w5 ⟨a5,c5,rfl,hO5,hK5⟩
  have HO5:Hid (OwnS w5 w.heap.size a5 c5 (sealOf zs)):=hO5
  have HK5:Hid (Kept No w w5):=HK4.out.fresh hK5 (fun i e=>HO4.out.base e)
  clear hO5 hK5 HO4 HK4 hs
  go_wp2
  go_ret
  exact ⟨a5,c5,ret_slice (by omega),HO5.out,HK5.out⟩
theorem seal_long (a:Option Addr) (m cap:Nat) (w:World) (hm:131072 < m) (h2:m≤140737488355328) :
    Calls Tryz.prog 38 #[.slice a m cap] w fun e w'=>e=.returned (.slice none 0 0)∧w'=w:=by
  go_enter Tryz.func38,Tryz.ntmps38
  go_wp2
  go_ret
  exact ⟨rfl,rfl⟩
theorem Bytes.drop {w:World} {b off:Nat} {zs:List Int} (h:Bytes w (some ⟨b,off,none⟩) zs) (k:Nat):Bytes w (some ⟨b,off+k,none⟩) (zs.drop k):=by
  intro i hi
  simp only[List.length_drop] at hi
  obtain ⟨b',off',e,hc⟩:=h (k+i) (by omega)
  cases e
  refine ⟨b,off+k,rfl,?_⟩
  rw [List.getElem?_drop,Nat.add_assoc]
  exact hc
theorem Bytes.take {w:World} {a:Option Addr} {zs:List Int} (h:Bytes w a zs) (k:Nat):Bytes w a (zs.take k):=by
  intro i hi
  simp only[List.length_take] at hi
  rw [List.getElem?_take,if_pos (by omega)]
  exact h i (by omega)
theorem Bytes.drewN {w:World} {a:Option Addr} {zs:List Int} (h:Bytes w a zs) (n:Nat):Bytes (w.drewN n) a zs:=h
theorem four_n (N:Int) (a:Option Addr) (m cap:Nat) (zs:List Int) (w:World) (hN:numOf zs=N) (hm:zs.length=m) (h4:4≤m) (hb:Bytes w a zs) (h8:U8 zs) :
    Calls Tryz.prog 199 #[.slice a m cap] w fun e w'=>e=.returned (.int .i64 N)∧∃ n,w'=w.drewN n:=by
  subst hN;exact four_any a m cap zs w hm h4 hb h8
theorem sum_n (N:Int) (a:Option Addr) (m cap:Nat) (zs:List Int) (w:World) (hN:sumOf zs=N) (hz:zs.length=m) (hm:m≤140737488355328) (hb:Bytes w a zs) (h8:U8 zs) :
    Calls Tryz.prog 84 #[.slice a m cap] w fun e w'=>e=.returned (.int .i64 N)∧w'=w:=by
  subst hN;exact sumN_any a m cap zs w hz hm hb h8
def openOf (zs:List Int):List Int × Int:=
  if zs.length < 8 then ([],10)
  else if numOf (zs.drop 4)≠sumOf (zs.take 4) then ([],12)
  else if 131072 < numOf zs then ([],2)
  else if (zs.length:Int) < numOf zs+12 then ([],10)
  else if numOf zs+12 < (zs.length:Int) then ([],11)
  else if numOf (zs.drop ((numOf zs).toNat+8))≠sumOf (zs.take ((numOf zs).toNat+8)) then ([],12)
  else ((zs.drop 8).take (numOf zs).toNat,0)
def Opens (w:World) (zs:List Int) (e:Ending) (w':World):Prop:=
  ∃ a' n' c',e=.returned (.tuple #[.slice a' n' c',.int .i64 (openOf zs).2])∧n'=(openOf zs).1.length∧OwnS w' w.heap.size a' c' (openOf zs).1∧Kept No w w'
theorem opens_no {w:World} {zs:List Int} {w':World} (x:Int) (h:openOf zs=([],x)) (k:Kept No w w'):Opens w zs (.returned (.tuple #[.slice none 0 0,.int .i64 x])) w':=
  ⟨none,0,0,by rw [h],by rw [h];rfl,by rw [h];exact OwnS.nil _ _,k⟩
theorem numOf_bd {zs:List Int} (h:U8 zs):0≤numOf zs∧numOf zs≤4294967295:=by
  have a:=h 0;have b:=h 1;have c:=h 2;have d:=h 3
  unfold numOf;omega
set_option maxRecDepth 1000000 in
set_option maxHeartbeats 400000 in
theorem open_cut (a:Option Addr) (m cap:Nat) (zs:List Int) (w:World) (hz:zs.length=m) (hl:m < 8) :
    Calls Tryz.prog 157 #[.slice a m cap] w (Opens w zs):=by
  have HO:Hid (openOf zs=([],10)):=by unfold Hid openOf;rw [if_pos (by omega)]
  clear hz
  go_enter Tryz.func157,Tryz.ntmps157
  go_wp2
  go_ret2
  exact opens_no 10 HO.out (Kept.refl _ _)
end Go.Proofs.YtgdnofacgfjaeaaGreat.Wi
