import Derived.Test.YtgdnofacgfjaeaaGreatNp
import Derived.Test.YtgdnofacgfjaeaaGreatOd
import Derived.Test.YtgdnofacgfjaeaaGreatWiYa
namespace Go.Proofs.YtgdnofacgfjaeaaGreat.Md
open Go.RowKit
set_option linter.unusedVariables false
set_option linter.unusedSimpArgs false
abbrev uE (st:Wi.RS) (i:Nat):Wi.RS:=ensS i (Wi.nS (Wi.nS st))
abbrev uL (st:Wi.RS) (i j:Nat):Wi.RS:=lasS j (Wi.nS (uE st i))
def BktR (K:Src) (w:World) (st:Wi.RS) (e:Ending) (w':World):Prop:=∃ (N M i j:Nat) (a1:Option Addr) (c1:Nat) (a3:Option Addr) (c3:Nat),Wi.nV (Wi.nS st)=((N:Nat):Int)∧Wi.nV (uE st i)=((M:Nat):Int)∧i≤N∧j≤M∧i≤131073∧j≤131073 ∧
  (i < N→((Wi.errS (uE st i)).2==0)=false)∧(j < M→((Wi.errS (uL st i j)).2==0)=false) ∧
  e=.returned (.agg (Bv.cells ⟨Wi.nV st,⟨a1,i,c1⟩,⟨a3,j,c3⟩⟩))∧K.St w' (lasS j (Wi.nS (uE st i)),false)∧Kept K.Wr w w' ∧
  Own 92 4 w' w.heap.size a1 c1 i (enL (ensL i (Wi.nS (Wi.nS st))))∧Own 94 7 w' w.heap.size a3 c3 j (laL (lasL j (Wi.nS (uE st i))))
theorem enL_one1 (es:List En) (e:En):enL (es++[e])=enL es++En.cs e:=by simp [enL]
theorem laL_one1 (es:List La) (e:La):laL (es++[e])=laL es++La.cs e:=by simp [laL]
theorem E40_:Tryz.prog.underlying 40=some (.slice 92):=by kernel_rfl
theorem E41_:Tryz.prog.underlying 41=some (.slice 94):=by kernel_rfl
section
variable {i0 g:Nat} {ba:Option Addr} {bc:Nat} {bs:List Int} {st:Wi.RS} {w:World}
set_option maxRecDepth 100000 in
set_option maxHeartbeats 4000000 in
theorem r_rbkt (h:(inSrc i0 g ba bc bs).St w (st,false)) (hu:uR st) (hr:room st 131072):Calls Tryz.prog 156 #[.pointer (some ⟨i0,0,none⟩)] w (BktR (inSrc i0 g ba bc bs) w st):=by
  refine hidC fun C HC=>?_;have hu1:=(took_n st hu).1;have hu2:=(took_n (Wi.nS st) hu1).1;have hr2:room (Wi.nS (Wi.nS st)) 131072:=fun zs a e=>by
    have h1:=(took_len hu (took_n st) hr).1;have h2:=(took_len hu1 (took_n (Wi.nS st)) h1).1 zs a e;omega
  have HF:Hid (Kr (inSrc i0 g ba bc bs) w w (st,false) []):=Kr.start h;clear h;go_enter Tryz.func156,Tryz.ntmps156;go_upto_region 0 with fail;refine Sg<|rA (Bv.cells bvZ) Z43 HF fun g1 w2 HF=>?_;simp only[pS];refine Nl ?_;(try simp only[pS]);go_upto_region 1 with fail;refine Sg<|bD (Bv.cells bvZ)<|rA (Bv.cells bvZ) Z43 HF fun g3 w4 HF=>?_;simp only[pS];refine rW (Bv.cs bvZ) (Bv.cs bvZ) HF 1 0 (v:=.agg (Bv.cells bvZ)) rfl S43 (Bv.oneL _) (Bv.cs bvZ) rfl fun w5 HF=>?_;simp only[pS];refine Nl ?_;(try simp only[pS]);go_upto_region 2 with fail;refine Sg<|tK (pg i0 0)<|rC _ _ HF (fun h=>i_num h) fun w6 HF=>?_;simp only[pS];refine tK (pg g3 0)<|rW (Bv.cs ⟨(Wi.nV st),slZ,slZ⟩) ([.int .i64 (Wi.nV st)]) HF 1 0 (v:=.int .i64 (Wi.nV st)) rfl S3 (by simp [Value.oneCell',Sl.v]) (Bv.cs bvZ) rfl fun w7 HF=>?_;simp only[pS];refine Nl ?_;(try simp only[pS]);go_upto_region 3 with fail;refine Sg<|tK (pg i0 0)<|?_;simp only[pS];obtain ⟨N,hN⟩:∃ N:Nat,Wi.nV (Wi.nS st)=((N:Nat):Int):=⟨(Wi.nV (Wi.nS st)).toNat,by have:=nV_pos (Wi.nS st);omega⟩;refine rC _ _ HF (fun h=>i_numN hN h) fun w8 HF=>?_;(try simp only[pS]);refine tK (.int .i64 ((N:Nat):Int))<|Nl ?_;simp only[pS];go_upto_region 4 with fail;refine Sg<|tK (.int .i64 0)<|Nl ?_;simp only[pS];have HF:Hid (Kr (lsSrc (inSrc i0 g ba bc bs) 92 4 w.heap.size none 0 0 []) w w8 (Wi.nS (Wi.nS st),false) [(g1,43,Bv.cells bvZ),(g3,43,Bv.cells ⟨(Wi.nV st),slZ,slZ⟩)]):=Kr.ls 92 4 w.heap.size HF.out;go_wp2
  go_loopw [5] (fun v5 wr=>∃ (i:Nat) (a1:Option Addr) (c1:Nat),v5=.int .i64 ((i:Nat):Int)∧i≤N∧i≤131073∧Hid (Kr (lsSrc (inSrc i0 g ba bc bs) 92 4 w.heap.size a1 i c1 (enL (ensL i (Wi.nS (Wi.nS st))))) w wr (ensS i (Wi.nS (Wi.nS st)),false) [(g1,43,Bv.cells bvZ),(g3,43,Bv.cells (⟨(Wi.nV st),⟨a1,i,c1⟩,slZ⟩))])) (fun v5 _=>N - (intOf v5).toNat)
  case atStart=>exact ⟨0,none,0,by go_num,by omega,by omega,HF⟩
  case round=>
    clear HF;obtain ⟨i,a1,c1,rfl,hii,hzi,HF⟩:=hrel
    by_cases hlti:i < N
    ·go_upto_region 5 with fail;refine Sg<|tK (.int .i64 ((i:Nat):Int))<|tK (.int .i64 ((N:Nat):Int))<|bN (lI (a:=((i:Nat):Int)) (b:=((N:Nat):Int)) (decide_eq_true (by omega)))<|tU<|tK (pg i0 0)<|tK (pg i0 0)<|tK (pg i0 0)<|lR (load_one (Src.pt _ HF.out.st) U170 rfl)<|tK (pg g 0)<|tK (pg g 2)<|lR (load_one (inErr HF.out.st.1) U3 rfl)<|?_;simp only[pS];cases q1:(((Wi.errS (uE st i)).2)==0);rotate_left
     ·have hbd:i≤131072:=by
        obtain ⟨zs0,a0,e0⟩:=err_ok (ens_u hu2 i) q1;exact (ens_room hu2 hr2 i).2 zs0 a0 e0
      refine bN (eI q1)<|tU<|Nl ?_;simp only[pS];go_upto_region 7 with fail;refine Sg<|bD (En.cells enZ)<|rA (En.cells enZ) Z92 HF fun g29 w30 HF=>?_;simp only[pS];refine rW (En.cs enZ) (En.cs enZ) HF 2 0 (v:=.agg (En.cells enZ)) rfl S92 (En.oneL _) (En.cs enZ) rfl fun w31 HF=>?_;simp only[pS];refine Nl ?_;(try simp only[pS]);go_upto_region 8 with fail;refine Sg<|tK (pg i0 0)<|rY _ _ HF (fun h=>lsGotB h (fun h=>r_bytesI h)) fun x33 w32 HF HX34=>?_;simp only[pS];refine rZ HX34<|tK (pg g29 0)<|rW (En.cs ⟨(Wi.strOf (tV (uE st i))),0,0,0⟩) ([.string (Wi.strOf (tV (uE st i)))]) HF 2 0 (v:=.string (Wi.strOf (tV (uE st i)))) rfl S9 (by simp [Value.oneCell',Sl.v]) (En.cs enZ) rfl fun w35 HF=>?_;simp only[pS];refine Nl ?_;(try simp only[pS]);go_upto_region 9 with fail;refine Sg<|tK (pg i0 0)<|rC _ _ HF (fun h=>lsGot h (fun h=>r_rfile h)) fun w36 HF=>?_;simp only[pS];refine tK (pg g29 1)<|rW (En.cs ⟨(Wi.strOf (tV (uE st i))),((fiV (tS (uE st i))).c),((fiV (tS (uE st i))).o),0⟩) (Fi.cs (fiV (tS (uE st i)))) HF 2 1 (v:=.agg (Fi.cells (fiV (tS (uE st i))))) rfl S37 (Fi.oneL _) (En.cs ⟨(Wi.strOf (tV (uE st i))),0,0,0⟩) rfl fun w37 HF=>?_;simp only[pS];refine Nl ?_;(try simp only[pS]);go_upto_region 10 with fail;refine Sg<|tK (pg i0 0)<|rC _ _ HF (fun h=>lsGot h (fun h=>i_num h)) fun w38 HF=>?_;simp only[pS];refine tK (pg g29 3)<|rW (En.cs ⟨(Wi.strOf (tV (uE st i))),((fiV (tS (uE st i))).c),((fiV (tS (uE st i))).o),(Wi.nV (Wi.aS (tS (uE st i))))⟩) ([.int .i64 (Wi.nV (Wi.aS (tS (uE st i))))]) HF 2 3 (v:=.int .i64 (Wi.nV (Wi.aS (tS (uE st i))))) rfl S3 (by simp [Value.oneCell',Sl.v]) (En.cs ⟨(Wi.strOf (tV (uE st i))),((fiV (tS (uE st i))).c),((fiV (tS (uE st i))).o),0⟩) rfl fun w39 HF=>?_;simp only[pS];refine Nl ?_;(try simp only[pS]);go_upto_region 11 with fail;refine Sg<|tK (pg g3 1)<|rD (.slice a1 i c1) HF 1 1 U40 rfl<|rP (En.cs ⟨(Wi.strOf (tV (uE st i))),((fiV (tS (uE st i))).c),((fiV (tS (uE st i))).o),(Wi.nV (Wi.aS (tS (uE st i))))⟩) HF 2 0 U92 S92 (En.cs ⟨(Wi.strOf (tV (uE st i))),((fiV (tS (uE st i))).c),((fiV (tS (uE st i))).o),(Wi.nV (Wi.aS (tS (uE st i))))⟩) rfl<|rAp (news:=En.cs ⟨(Wi.strOf (tV (uE st i))),((fiV (tS (uE st i))).c),((fiV (tS (uE st i))).o),(Wi.nV (Wi.aS (tS (uE st i))))⟩) HF E40_ I92 rfl (by omega) rfl (En.oneL _) (by omega) (by omega) fun a2 c2 w40 HF=>?_;simp only[pS];refine tK (pg g3 1)<|rW (Bv.cs (⟨(Wi.nV st),⟨a2,(i+1),c2⟩,slZ⟩)) ([.slice a2 (i+1) c2]) HF 1 1 (v:=.slice a2 (i+1) c2) rfl S40 (by simp [Value.oneCell',Sl.v]) (Bv.cs (⟨(Wi.nV st),⟨a1,i,c1⟩,slZ⟩)) rfl fun w41 HF=>?_;simp only[pS];refine Nl ?_;(try simp only[pS]);go_upto_region 6 with fail;refine Sg<|tK (.int .i64 ((i:Nat):Int))<|bN (v:=.int .i64 (((i+1):Nat):Int)) (b_addw ((i:Nat):Int) 1 (((i+1):Nat):Int) (by rw [IntKind.wrap_i64];omega))<|tK (.int .i64 (((i+1):Nat):Int))<|Nl ?_;simp only[pS];go_wp2;go_roundw
      case rel=>exact ⟨i+1,a2,c2,by go_num,by omega,by omega,(by rw [ensL_succ,enL_one1];exact Kr.front (l:=[(g1,43,Bv.cells bvZ),(g3,43,Bv.cells (⟨(Wi.nV st),⟨a2,(i+1),c2⟩,slZ⟩))]) (m:=[(g29,92,En.cells ⟨(Wi.strOf (tV (uE st i))),((fiV (tS (uE st i))).c),((fiV (tS (uE st i))).o),(Wi.nV (Wi.aS (tS (uE st i))))⟩)]) HF)⟩
      case measure=>simp [intOf];omega
     refine bN (eI q1)<|tF<|Nl ?_;simp only[pS];go_upto_region 12 with fail;refine Sg<|tK (pg i0 0)<|?_;simp only[pS];obtain ⟨M,hM⟩:∃ M:Nat,Wi.nV (uE st i)=((M:Nat):Int):=⟨(Wi.nV (uE st i)).toNat,by have:=nV_pos (uE st i);omega⟩;refine rC _ _ HF (fun h=>lsGot h (fun h=>i_numN hM h)) fun w9 HF=>?_;(try simp only[pS]);refine tK (.int .i64 ((M:Nat):Int))<|Nl ?_;simp only[pS];go_upto_region 13 with fail;refine Sg<|tK (.int .i64 0)<|Nl ?_;simp only[pS];have hu3:uR (Wi.nS (uE st i)):=(took_n _ (ens_u hu2 i)).1;have hr3:room (Wi.nS (uE st i)) 131072:=fun zs a e=>by
       have:=(took_len (ens_u hu2 i) (took_n _) (ens_room hu2 hr2 i).1).1 zs a e;omega
     have HF:Hid (Kr (lsSrc (lsSrc (inSrc i0 g ba bc bs) 92 4 w.heap.size a1 i c1 (enL (ensL i (Wi.nS (Wi.nS st))))) 94 7 w.heap.size none 0 0 []) w w9 (Wi.nS (uE st i),false) [(g1,43,Bv.cells bvZ),(g3,43,Bv.cells (⟨(Wi.nV st),⟨a1,i,c1⟩,slZ⟩))]):=Kr.ls 94 7 w.heap.size HF.out;go_wp2
     go_loopw [7] (fun v7 wr=>∃ (j:Nat) (a3:Option Addr) (c3:Nat),v7=.int .i64 ((j:Nat):Int)∧j≤M∧j≤131073∧Hid (Kr (lsSrc (lsSrc (inSrc i0 g ba bc bs) 92 4 w.heap.size a1 i c1 (enL (ensL i (Wi.nS (Wi.nS st))))) 94 7 w.heap.size a3 j c3 (laL (lasL j (Wi.nS (uE st i))))) w wr (lasS j (Wi.nS (uE st i)),false) [(g1,43,Bv.cells bvZ),(g3,43,Bv.cells (⟨(Wi.nV st),⟨a1,i,c1⟩,⟨a3,j,c3⟩⟩))])) (fun v7 _=>M - (intOf v7).toNat)
     case atStart=>exact ⟨0,none,0,by go_num,by omega,by omega,HF⟩
     case round=>
       clear HF;obtain ⟨j,a3,c3,rfl,hij,hzj,HF⟩:=hrel
       rename World=>wq
       by_cases hltj:j < M
       ·go_upto_region 14 with fail;refine Sg<|tK (.int .i64 ((j:Nat):Int))<|tK (.int .i64 ((M:Nat):Int))<|bN (lI (a:=((j:Nat):Int)) (b:=((M:Nat):Int)) (decide_eq_true (by omega)))<|tU<|tK (pg i0 0)<|tK (pg i0 0)<|tK (pg i0 0)<|lR (load_one (Src.pt _ HF.out.st) U170 rfl)<|tK (pg g 0)<|tK (pg g 2)<|lR (load_one (inErr HF.out.st.1.1) U3 rfl)<|?_;simp only[pS];cases q2:(((Wi.errS (uL st i j)).2)==0)
        ·refine bN (eI q2)<|tF<|Nl ?_;simp only[pS];go_upto_region 24 with fail;refine Sg<|rP (Bv.cs (⟨(Wi.nV st),⟨a1,i,c1⟩,⟨a3,j,c3⟩⟩)) HF 1 0 U43 S43 (Bv.cs (⟨(Wi.nV st),⟨a1,i,c1⟩,⟨a3,j,c3⟩⟩)) rfl<|rW (Bv.cs (⟨(Wi.nV st),⟨a1,i,c1⟩,⟨a3,j,c3⟩⟩)) (Bv.cs (⟨(Wi.nV st),⟨a1,i,c1⟩,⟨a3,j,c3⟩⟩)) HF 0 0 (v:=.agg (Bv.cells (⟨(Wi.nV st),⟨a1,i,c1⟩,⟨a3,j,c3⟩⟩))) rfl S43 (Bv.oneL _) (Bv.cs bvZ) rfl fun w10 HF=>?_;simp only[pS];refine Nl ?_;(try simp only[pS]);go_wp2;rw [HC.out];refine bodyPost_ret (results_row1 (by rfl) _ _ g1 _ (by rfl) (run_load_part (HF.out.fq.box 0 _ _ _ rfl) (Part.all _) U43 rfl S43)) rfl ?_;exact ⟨N,M,i,j,a1,c1,a3,c3,hN,hM,hii,hij,hzi,hzj,fun h=>q1,fun h=>q2,rfl,HF.out.st.1.1,HF.out.fq.kept,HF.out.st.1.2.1,HF.out.st.2.1⟩
        have hbd:j≤131072:=by
          obtain ⟨zs0,a0,e0⟩:=err_ok (las_u hu3 j) q2;exact (las_room hu3 hr3 j).2 zs0 a0 e0
        refine bN (eI q2)<|tU<|Nl ?_;simp only[pS];go_upto_region 16 with fail;refine Sg<|bD (La.cells laZ)<|rA (La.cells laZ) Z94 HF fun g11 w12 HF=>?_;simp only[pS];refine rW (La.cs laZ) (La.cs laZ) HF 2 0 (v:=.agg (La.cells laZ)) rfl S94 (La.oneL _) (La.cs laZ) rfl fun w13 HF=>?_;simp only[pS];refine Nl ?_;(try simp only[pS]);go_upto_region 17 with fail;refine Sg<|tK (pg i0 0)<|rC _ _ HF (fun h=>lsGot h (fun h=>lsGot h (fun h=>i_num h))) fun w14 HF=>?_;simp only[pS];refine tK (pg g11 0)<|rW (La.cs ⟨(Wi.nV (uL st i j)),0,0,0,0,0,0⟩) ([.int .i64 (Wi.nV (uL st i j))]) HF 2 0 (v:=.int .i64 (Wi.nV (uL st i j))) rfl S3 (by simp [Value.oneCell',Sl.v]) (La.cs laZ) rfl fun w15 HF=>?_;simp only[pS];refine Nl ?_;(try simp only[pS]);go_upto_region 18 with fail;refine Sg<|tK (pg i0 0)<|rC _ _ HF (fun h=>lsGot h (fun h=>lsGot h (fun h=>i_num h))) fun w16 HF=>?_;simp only[pS];refine tK (pg g11 1)<|rW (La.cs ⟨(Wi.nV (uL st i j)),(Wi.nV (Wi.nS (uL st i j))),0,0,0,0,0⟩) ([.int .i64 (Wi.nV (Wi.nS (uL st i j)))]) HF 2 1 (v:=.int .i64 (Wi.nV (Wi.nS (uL st i j)))) rfl S3 (by simp [Value.oneCell',Sl.v]) (La.cs ⟨(Wi.nV (uL st i j)),0,0,0,0,0,0⟩) rfl fun w17 HF=>?_;simp only[pS];refine Nl ?_;(try simp only[pS]);go_upto_region 19 with fail;refine Sg<|tK (pg i0 0)<|rC _ _ HF (fun h=>lsGot h (fun h=>lsGot h (fun h=>i_num h))) fun w18 HF=>?_;simp only[pS];refine tK (pg g11 2)<|rW (La.cs ⟨(Wi.nV (uL st i j)),(Wi.nV (Wi.nS (uL st i j))),(Wi.nV (Wi.nS (Wi.nS (uL st i j)))),0,0,0,0⟩) ([.int .i64 (Wi.nV (Wi.nS (Wi.nS (uL st i j))))]) HF 2 2 (v:=.int .i64 (Wi.nV (Wi.nS (Wi.nS (uL st i j))))) rfl S3 (by simp [Value.oneCell',Sl.v]) (La.cs ⟨(Wi.nV (uL st i j)),(Wi.nV (Wi.nS (uL st i j))),0,0,0,0,0⟩) rfl fun w19 HF=>?_;simp only[pS];refine Nl ?_;(try simp only[pS]);go_upto_region 20 with fail;refine Sg<|tK (pg i0 0)<|rC _ _ HF (fun h=>lsGot h (fun h=>lsGot h (fun h=>i_num h))) fun w20 HF=>?_;simp only[pS];refine tK (pg g11 3)<|rW (La.cs ⟨(Wi.nV (uL st i j)),(Wi.nV (Wi.nS (uL st i j))),(Wi.nV (Wi.nS (Wi.nS (uL st i j)))),(Wi.nV (Wi.nS (Wi.nS (Wi.nS (uL st i j))))),0,0,0⟩) ([.int .i64 (Wi.nV (Wi.nS (Wi.nS (Wi.nS (uL st i j)))))]) HF 2 3 (v:=.int .i64 (Wi.nV (Wi.nS (Wi.nS (Wi.nS (uL st i j)))))) rfl S47 (by simp [Value.oneCell',Sl.v]) (La.cs ⟨(Wi.nV (uL st i j)),(Wi.nV (Wi.nS (uL st i j))),(Wi.nV (Wi.nS (Wi.nS (uL st i j)))),0,0,0,0⟩) rfl fun w21 HF=>?_;simp only[pS];refine Nl ?_;(try simp only[pS]);go_upto_region 21 with fail;refine Sg<|tK (pg i0 0)<|rC _ _ HF (fun h=>lsGot h (fun h=>lsGot h (fun h=>r_rfile h))) fun w22 HF=>?_;simp only[pS];refine tK (pg g11 4)<|rW (La.cs ⟨(Wi.nV (uL st i j)),(Wi.nV (Wi.nS (uL st i j))),(Wi.nV (Wi.nS (Wi.nS (uL st i j)))),(Wi.nV (Wi.nS (Wi.nS (Wi.nS (uL st i j))))),((fiV (Wi.nS (Wi.nS (Wi.nS (Wi.nS (uL st i j)))))).c),((fiV (Wi.nS (Wi.nS (Wi.nS (Wi.nS (uL st i j)))))).o),0⟩) (Fi.cs (fiV (Wi.nS (Wi.nS (Wi.nS (Wi.nS (uL st i j))))))) HF 2 4 (v:=.agg (Fi.cells (fiV (Wi.nS (Wi.nS (Wi.nS (Wi.nS (uL st i j)))))))) rfl S37 (Fi.oneL _) (La.cs ⟨(Wi.nV (uL st i j)),(Wi.nV (Wi.nS (uL st i j))),(Wi.nV (Wi.nS (Wi.nS (uL st i j)))),(Wi.nV (Wi.nS (Wi.nS (Wi.nS (uL st i j))))),0,0,0⟩) rfl fun w23 HF=>?_;simp only[pS];refine Nl ?_;(try simp only[pS]);go_upto_region 22 with fail;refine Sg<|tK (pg i0 0)<|rC _ _ HF (fun h=>lsGot h (fun h=>lsGot h (fun h=>i_num h))) fun w24 HF=>?_;simp only[pS];refine tK (pg g11 6)<|rW (La.cs ⟨(Wi.nV (uL st i j)),(Wi.nV (Wi.nS (uL st i j))),(Wi.nV (Wi.nS (Wi.nS (uL st i j)))),(Wi.nV (Wi.nS (Wi.nS (Wi.nS (uL st i j))))),((fiV (Wi.nS (Wi.nS (Wi.nS (Wi.nS (uL st i j)))))).c),((fiV (Wi.nS (Wi.nS (Wi.nS (Wi.nS (uL st i j)))))).o),(Wi.nV (Wi.aS (Wi.nS (Wi.nS (Wi.nS (Wi.nS (uL st i j)))))))⟩) ([.int .i64 (Wi.nV (Wi.aS (Wi.nS (Wi.nS (Wi.nS (Wi.nS (uL st i j)))))))]) HF 2 6 (v:=.int .i64 (Wi.nV (Wi.aS (Wi.nS (Wi.nS (Wi.nS (Wi.nS (uL st i j)))))))) rfl S3 (by simp [Value.oneCell',Sl.v]) (La.cs ⟨(Wi.nV (uL st i j)),(Wi.nV (Wi.nS (uL st i j))),(Wi.nV (Wi.nS (Wi.nS (uL st i j)))),(Wi.nV (Wi.nS (Wi.nS (Wi.nS (uL st i j))))),((fiV (Wi.nS (Wi.nS (Wi.nS (Wi.nS (uL st i j)))))).c),((fiV (Wi.nS (Wi.nS (Wi.nS (Wi.nS (uL st i j)))))).o),0⟩) rfl fun w25 HF=>?_;simp only[pS];refine Nl ?_;(try simp only[pS]);go_upto_region 23 with fail;refine Sg<|tK (pg g3 2)<|rD (.slice a3 j c3) HF 1 2 U41 rfl<|rP (La.cs ⟨(Wi.nV (uL st i j)),(Wi.nV (Wi.nS (uL st i j))),(Wi.nV (Wi.nS (Wi.nS (uL st i j)))),(Wi.nV (Wi.nS (Wi.nS (Wi.nS (uL st i j))))),((fiV (Wi.nS (Wi.nS (Wi.nS (Wi.nS (uL st i j)))))).c),((fiV (Wi.nS (Wi.nS (Wi.nS (Wi.nS (uL st i j)))))).o),(Wi.nV (Wi.aS (Wi.nS (Wi.nS (Wi.nS (Wi.nS (uL st i j)))))))⟩) HF 2 0 U94 S94 (La.cs ⟨(Wi.nV (uL st i j)),(Wi.nV (Wi.nS (uL st i j))),(Wi.nV (Wi.nS (Wi.nS (uL st i j)))),(Wi.nV (Wi.nS (Wi.nS (Wi.nS (uL st i j))))),((fiV (Wi.nS (Wi.nS (Wi.nS (Wi.nS (uL st i j)))))).c),((fiV (Wi.nS (Wi.nS (Wi.nS (Wi.nS (uL st i j)))))).o),(Wi.nV (Wi.aS (Wi.nS (Wi.nS (Wi.nS (Wi.nS (uL st i j)))))))⟩) rfl<|rAp (news:=La.cs ⟨(Wi.nV (uL st i j)),(Wi.nV (Wi.nS (uL st i j))),(Wi.nV (Wi.nS (Wi.nS (uL st i j)))),(Wi.nV (Wi.nS (Wi.nS (Wi.nS (uL st i j))))),((fiV (Wi.nS (Wi.nS (Wi.nS (Wi.nS (uL st i j)))))).c),((fiV (Wi.nS (Wi.nS (Wi.nS (Wi.nS (uL st i j)))))).o),(Wi.nV (Wi.aS (Wi.nS (Wi.nS (Wi.nS (Wi.nS (uL st i j)))))))⟩) HF E41_ I94 rfl (by omega) rfl (La.oneL _) (by omega) (by omega) fun a2 c2 w26 HF=>?_;simp only[pS];refine tK (pg g3 2)<|rW (Bv.cs (⟨(Wi.nV st),⟨a1,i,c1⟩,⟨a2,(j+1),c2⟩⟩)) ([.slice a2 (j+1) c2]) HF 1 2 (v:=.slice a2 (j+1) c2) rfl S41 (by simp [Value.oneCell',Sl.v]) (Bv.cs (⟨(Wi.nV st),⟨a1,i,c1⟩,⟨a3,j,c3⟩⟩)) rfl fun w27 HF=>?_;simp only[pS];refine Nl ?_;(try simp only[pS]);go_upto_region 15 with fail;refine Sg<|tK (.int .i64 ((j:Nat):Int))<|bN (v:=.int .i64 (((j+1):Nat):Int)) (b_addw ((j:Nat):Int) 1 (((j+1):Nat):Int) (by rw [IntKind.wrap_i64];omega))<|tK (.int .i64 (((j+1):Nat):Int))<|Nl ?_;simp only[pS];go_wp2;go_roundw
        case rel=>exact ⟨j+1,a2,c2,by go_num,by omega,by omega,(by rw [lasL_succ,laL_one1];exact Kr.front (l:=[(g1,43,Bv.cells bvZ),(g3,43,Bv.cells (⟨(Wi.nV st),⟨a1,i,c1⟩,⟨a2,(j+1),c2⟩⟩))]) (m:=[(g11,94,La.cells ⟨(Wi.nV (uL st i j)),(Wi.nV (Wi.nS (uL st i j))),(Wi.nV (Wi.nS (Wi.nS (uL st i j)))),(Wi.nV (Wi.nS (Wi.nS (Wi.nS (uL st i j))))),((fiV (Wi.nS (Wi.nS (Wi.nS (Wi.nS (uL st i j)))))).c),((fiV (Wi.nS (Wi.nS (Wi.nS (Wi.nS (uL st i j)))))).o),(Wi.nV (Wi.aS (Wi.nS (Wi.nS (Wi.nS (Wi.nS (uL st i j)))))))⟩)]) HF)⟩
        case measure=>simp [intOf];omega
       ·go_upto_region 14 with fail;refine Sg<|tK (.int .i64 ((j:Nat):Int))<|tK (.int .i64 ((M:Nat):Int))<|bN (lI (a:=((j:Nat):Int)) (b:=((M:Nat):Int)) (decide_eq_false (by omega)))<|tF<|sK<|sK<|sK<|sK<|sK<|sK<|sK<|sK<|tF<|Nl ?_;simp only[pS];go_upto_region 24 with fail;refine Sg<|rP (Bv.cs (⟨(Wi.nV st),⟨a1,i,c1⟩,⟨a3,j,c3⟩⟩)) HF 1 0 U43 S43 (Bv.cs (⟨(Wi.nV st),⟨a1,i,c1⟩,⟨a3,j,c3⟩⟩)) rfl<|rW (Bv.cs (⟨(Wi.nV st),⟨a1,i,c1⟩,⟨a3,j,c3⟩⟩)) (Bv.cs (⟨(Wi.nV st),⟨a1,i,c1⟩,⟨a3,j,c3⟩⟩)) HF 0 0 (v:=.agg (Bv.cells (⟨(Wi.nV st),⟨a1,i,c1⟩,⟨a3,j,c3⟩⟩))) rfl S43 (Bv.oneL _) (Bv.cs bvZ) rfl fun w28 HF=>?_;simp only[pS];refine Nl ?_;(try simp only[pS]);go_wp2;rw [HC.out];refine bodyPost_ret (results_row1 (by rfl) _ _ g1 _ (by rfl) (run_load_part (HF.out.fq.box 0 _ _ _ rfl) (Part.all _) U43 rfl S43)) rfl ?_;exact ⟨N,M,i,j,a1,c1,a3,c3,hN,hM,hii,hij,hzi,hzj,fun h=>q1,fun h=>absurd h hltj,rfl,HF.out.st.1.1,HF.out.fq.kept,HF.out.st.1.2.1,HF.out.st.2.1⟩
    ·go_upto_region 5 with fail;refine Sg<|tK (.int .i64 ((i:Nat):Int))<|tK (.int .i64 ((N:Nat):Int))<|bN (lI (a:=((i:Nat):Int)) (b:=((N:Nat):Int)) (decide_eq_false (by omega)))<|tF<|sK<|sK<|sK<|sK<|sK<|sK<|sK<|sK<|tF<|Nl ?_;simp only[pS];go_upto_region 12 with fail;refine Sg<|tK (pg i0 0)<|?_;simp only[pS];obtain ⟨M,hM⟩:∃ M:Nat,Wi.nV (uE st i)=((M:Nat):Int):=⟨(Wi.nV (uE st i)).toNat,by have:=nV_pos (uE st i);omega⟩;refine rC _ _ HF (fun h=>lsGot h (fun h=>i_numN hM h)) fun w42 HF=>?_;(try simp only[pS]);refine tK (.int .i64 ((M:Nat):Int))<|Nl ?_;simp only[pS];go_upto_region 13 with fail;refine Sg<|tK (.int .i64 0)<|Nl ?_;simp only[pS];have hu3:uR (Wi.nS (uE st i)):=(took_n _ (ens_u hu2 i)).1;have hr3:room (Wi.nS (uE st i)) 131072:=fun zs a e=>by
       have:=(took_len (ens_u hu2 i) (took_n _) (ens_room hu2 hr2 i).1).1 zs a e;omega
     have HF:Hid (Kr (lsSrc (lsSrc (inSrc i0 g ba bc bs) 92 4 w.heap.size a1 i c1 (enL (ensL i (Wi.nS (Wi.nS st))))) 94 7 w.heap.size none 0 0 []) w w42 (Wi.nS (uE st i),false) [(g1,43,Bv.cells bvZ),(g3,43,Bv.cells (⟨(Wi.nV st),⟨a1,i,c1⟩,slZ⟩))]):=Kr.ls 94 7 w.heap.size HF.out;go_wp2
     go_loopw [7] (fun v7 wr=>∃ (j:Nat) (a3:Option Addr) (c3:Nat),v7=.int .i64 ((j:Nat):Int)∧j≤M∧j≤131073∧Hid (Kr (lsSrc (lsSrc (inSrc i0 g ba bc bs) 92 4 w.heap.size a1 i c1 (enL (ensL i (Wi.nS (Wi.nS st))))) 94 7 w.heap.size a3 j c3 (laL (lasL j (Wi.nS (uE st i))))) w wr (lasS j (Wi.nS (uE st i)),false) [(g1,43,Bv.cells bvZ),(g3,43,Bv.cells (⟨(Wi.nV st),⟨a1,i,c1⟩,⟨a3,j,c3⟩⟩))])) (fun v7 _=>M - (intOf v7).toNat)
     case atStart=>exact ⟨0,none,0,by go_num,by omega,by omega,HF⟩
     case round=>
       clear HF;obtain ⟨j,a3,c3,rfl,hij,hzj,HF⟩:=hrel
       rename World=>wq
       by_cases hltj:j < M
       ·go_upto_region 14 with fail;refine Sg<|tK (.int .i64 ((j:Nat):Int))<|tK (.int .i64 ((M:Nat):Int))<|bN (lI (a:=((j:Nat):Int)) (b:=((M:Nat):Int)) (decide_eq_true (by omega)))<|tU<|tK (pg i0 0)<|tK (pg i0 0)<|tK (pg i0 0)<|lR (load_one (Src.pt _ HF.out.st) U170 rfl)<|tK (pg g 0)<|tK (pg g 2)<|lR (load_one (inErr HF.out.st.1.1) U3 rfl)<|?_;simp only[pS];cases q3:(((Wi.errS (uL st i j)).2)==0)
        ·refine bN (eI q3)<|tF<|Nl ?_;simp only[pS];go_upto_region 24 with fail;refine Sg<|rP (Bv.cs (⟨(Wi.nV st),⟨a1,i,c1⟩,⟨a3,j,c3⟩⟩)) HF 1 0 U43 S43 (Bv.cs (⟨(Wi.nV st),⟨a1,i,c1⟩,⟨a3,j,c3⟩⟩)) rfl<|rW (Bv.cs (⟨(Wi.nV st),⟨a1,i,c1⟩,⟨a3,j,c3⟩⟩)) (Bv.cs (⟨(Wi.nV st),⟨a1,i,c1⟩,⟨a3,j,c3⟩⟩)) HF 0 0 (v:=.agg (Bv.cells (⟨(Wi.nV st),⟨a1,i,c1⟩,⟨a3,j,c3⟩⟩))) rfl S43 (Bv.oneL _) (Bv.cs bvZ) rfl fun w43 HF=>?_;simp only[pS];refine Nl ?_;(try simp only[pS]);go_wp2;rw [HC.out];refine bodyPost_ret (results_row1 (by rfl) _ _ g1 _ (by rfl) (run_load_part (HF.out.fq.box 0 _ _ _ rfl) (Part.all _) U43 rfl S43)) rfl ?_;exact ⟨N,M,i,j,a1,c1,a3,c3,hN,hM,hii,hij,hzi,hzj,fun h=>absurd h hlti,fun h=>q3,rfl,HF.out.st.1.1,HF.out.fq.kept,HF.out.st.1.2.1,HF.out.st.2.1⟩
        have hbd:j≤131072:=by
          obtain ⟨zs0,a0,e0⟩:=err_ok (las_u hu3 j) q3;exact (las_room hu3 hr3 j).2 zs0 a0 e0
        refine bN (eI q3)<|tU<|Nl ?_;simp only[pS];go_upto_region 16 with fail;refine Sg<|bD (La.cells laZ)<|rA (La.cells laZ) Z94 HF fun g44 w45 HF=>?_;simp only[pS];refine rW (La.cs laZ) (La.cs laZ) HF 2 0 (v:=.agg (La.cells laZ)) rfl S94 (La.oneL _) (La.cs laZ) rfl fun w46 HF=>?_;simp only[pS];refine Nl ?_;(try simp only[pS]);go_upto_region 17 with fail;refine Sg<|tK (pg i0 0)<|rC _ _ HF (fun h=>lsGot h (fun h=>lsGot h (fun h=>i_num h))) fun w47 HF=>?_;simp only[pS];refine tK (pg g44 0)<|rW (La.cs ⟨(Wi.nV (uL st i j)),0,0,0,0,0,0⟩) ([.int .i64 (Wi.nV (uL st i j))]) HF 2 0 (v:=.int .i64 (Wi.nV (uL st i j))) rfl S3 (by simp [Value.oneCell',Sl.v]) (La.cs laZ) rfl fun w48 HF=>?_;simp only[pS];refine Nl ?_;(try simp only[pS]);go_upto_region 18 with fail;refine Sg<|tK (pg i0 0)<|rC _ _ HF (fun h=>lsGot h (fun h=>lsGot h (fun h=>i_num h))) fun w49 HF=>?_;simp only[pS];refine tK (pg g44 1)<|rW (La.cs ⟨(Wi.nV (uL st i j)),(Wi.nV (Wi.nS (uL st i j))),0,0,0,0,0⟩) ([.int .i64 (Wi.nV (Wi.nS (uL st i j)))]) HF 2 1 (v:=.int .i64 (Wi.nV (Wi.nS (uL st i j)))) rfl S3 (by simp [Value.oneCell',Sl.v]) (La.cs ⟨(Wi.nV (uL st i j)),0,0,0,0,0,0⟩) rfl fun w50 HF=>?_;simp only[pS];refine Nl ?_;(try simp only[pS]);go_upto_region 19 with fail;refine Sg<|tK (pg i0 0)<|rC _ _ HF (fun h=>lsGot h (fun h=>lsGot h (fun h=>i_num h))) fun w51 HF=>?_;simp only[pS];refine tK (pg g44 2)<|rW (La.cs ⟨(Wi.nV (uL st i j)),(Wi.nV (Wi.nS (uL st i j))),(Wi.nV (Wi.nS (Wi.nS (uL st i j)))),0,0,0,0⟩) ([.int .i64 (Wi.nV (Wi.nS (Wi.nS (uL st i j))))]) HF 2 2 (v:=.int .i64 (Wi.nV (Wi.nS (Wi.nS (uL st i j))))) rfl S3 (by simp [Value.oneCell',Sl.v]) (La.cs ⟨(Wi.nV (uL st i j)),(Wi.nV (Wi.nS (uL st i j))),0,0,0,0,0⟩) rfl fun w52 HF=>?_;simp only[pS];refine Nl ?_;(try simp only[pS]);go_upto_region 20 with fail;refine Sg<|tK (pg i0 0)<|rC _ _ HF (fun h=>lsGot h (fun h=>lsGot h (fun h=>i_num h))) fun w53 HF=>?_;simp only[pS];refine tK (pg g44 3)<|rW (La.cs ⟨(Wi.nV (uL st i j)),(Wi.nV (Wi.nS (uL st i j))),(Wi.nV (Wi.nS (Wi.nS (uL st i j)))),(Wi.nV (Wi.nS (Wi.nS (Wi.nS (uL st i j))))),0,0,0⟩) ([.int .i64 (Wi.nV (Wi.nS (Wi.nS (Wi.nS (uL st i j)))))]) HF 2 3 (v:=.int .i64 (Wi.nV (Wi.nS (Wi.nS (Wi.nS (uL st i j)))))) rfl S47 (by simp [Value.oneCell',Sl.v]) (La.cs ⟨(Wi.nV (uL st i j)),(Wi.nV (Wi.nS (uL st i j))),(Wi.nV (Wi.nS (Wi.nS (uL st i j)))),0,0,0,0⟩) rfl fun w54 HF=>?_;simp only[pS];refine Nl ?_;(try simp only[pS]);go_upto_region 21 with fail;refine Sg<|tK (pg i0 0)<|rC _ _ HF (fun h=>lsGot h (fun h=>lsGot h (fun h=>r_rfile h))) fun w55 HF=>?_;simp only[pS];refine tK (pg g44 4)<|rW (La.cs ⟨(Wi.nV (uL st i j)),(Wi.nV (Wi.nS (uL st i j))),(Wi.nV (Wi.nS (Wi.nS (uL st i j)))),(Wi.nV (Wi.nS (Wi.nS (Wi.nS (uL st i j))))),((fiV (Wi.nS (Wi.nS (Wi.nS (Wi.nS (uL st i j)))))).c),((fiV (Wi.nS (Wi.nS (Wi.nS (Wi.nS (uL st i j)))))).o),0⟩) (Fi.cs (fiV (Wi.nS (Wi.nS (Wi.nS (Wi.nS (uL st i j))))))) HF 2 4 (v:=.agg (Fi.cells (fiV (Wi.nS (Wi.nS (Wi.nS (Wi.nS (uL st i j)))))))) rfl S37 (Fi.oneL _) (La.cs ⟨(Wi.nV (uL st i j)),(Wi.nV (Wi.nS (uL st i j))),(Wi.nV (Wi.nS (Wi.nS (uL st i j)))),(Wi.nV (Wi.nS (Wi.nS (Wi.nS (uL st i j))))),0,0,0⟩) rfl fun w56 HF=>?_;simp only[pS];refine Nl ?_;(try simp only[pS]);go_upto_region 22 with fail;refine Sg<|tK (pg i0 0)<|rC _ _ HF (fun h=>lsGot h (fun h=>lsGot h (fun h=>i_num h))) fun w57 HF=>?_;simp only[pS];refine tK (pg g44 6)<|rW (La.cs ⟨(Wi.nV (uL st i j)),(Wi.nV (Wi.nS (uL st i j))),(Wi.nV (Wi.nS (Wi.nS (uL st i j)))),(Wi.nV (Wi.nS (Wi.nS (Wi.nS (uL st i j))))),((fiV (Wi.nS (Wi.nS (Wi.nS (Wi.nS (uL st i j)))))).c),((fiV (Wi.nS (Wi.nS (Wi.nS (Wi.nS (uL st i j)))))).o),(Wi.nV (Wi.aS (Wi.nS (Wi.nS (Wi.nS (Wi.nS (uL st i j)))))))⟩) ([.int .i64 (Wi.nV (Wi.aS (Wi.nS (Wi.nS (Wi.nS (Wi.nS (uL st i j)))))))]) HF 2 6 (v:=.int .i64 (Wi.nV (Wi.aS (Wi.nS (Wi.nS (Wi.nS (Wi.nS (uL st i j)))))))) rfl S3 (by simp [Value.oneCell',Sl.v]) (La.cs ⟨(Wi.nV (uL st i j)),(Wi.nV (Wi.nS (uL st i j))),(Wi.nV (Wi.nS (Wi.nS (uL st i j)))),(Wi.nV (Wi.nS (Wi.nS (Wi.nS (uL st i j))))),((fiV (Wi.nS (Wi.nS (Wi.nS (Wi.nS (uL st i j)))))).c),((fiV (Wi.nS (Wi.nS (Wi.nS (Wi.nS (uL st i j)))))).o),0⟩) rfl fun w58 HF=>?_;simp only[pS];refine Nl ?_;(try simp only[pS]);go_upto_region 23 with fail;refine Sg<|tK (pg g3 2)<|rD (.slice a3 j c3) HF 1 2 U41 rfl<|rP (La.cs ⟨(Wi.nV (uL st i j)),(Wi.nV (Wi.nS (uL st i j))),(Wi.nV (Wi.nS (Wi.nS (uL st i j)))),(Wi.nV (Wi.nS (Wi.nS (Wi.nS (uL st i j))))),((fiV (Wi.nS (Wi.nS (Wi.nS (Wi.nS (uL st i j)))))).c),((fiV (Wi.nS (Wi.nS (Wi.nS (Wi.nS (uL st i j)))))).o),(Wi.nV (Wi.aS (Wi.nS (Wi.nS (Wi.nS (Wi.nS (uL st i j)))))))⟩) HF 2 0 U94 S94 (La.cs ⟨(Wi.nV (uL st i j)),(Wi.nV (Wi.nS (uL st i j))),(Wi.nV (Wi.nS (Wi.nS (uL st i j)))),(Wi.nV (Wi.nS (Wi.nS (Wi.nS (uL st i j))))),((fiV (Wi.nS (Wi.nS (Wi.nS (Wi.nS (uL st i j)))))).c),((fiV (Wi.nS (Wi.nS (Wi.nS (Wi.nS (uL st i j)))))).o),(Wi.nV (Wi.aS (Wi.nS (Wi.nS (Wi.nS (Wi.nS (uL st i j)))))))⟩) rfl<|rAp (news:=La.cs ⟨(Wi.nV (uL st i j)),(Wi.nV (Wi.nS (uL st i j))),(Wi.nV (Wi.nS (Wi.nS (uL st i j)))),(Wi.nV (Wi.nS (Wi.nS (Wi.nS (uL st i j))))),((fiV (Wi.nS (Wi.nS (Wi.nS (Wi.nS (uL st i j)))))).c),((fiV (Wi.nS (Wi.nS (Wi.nS (Wi.nS (uL st i j)))))).o),(Wi.nV (Wi.aS (Wi.nS (Wi.nS (Wi.nS (Wi.nS (uL st i j)))))))⟩) HF E41_ I94 rfl (by omega) rfl (La.oneL _) (by omega) (by omega) fun a2 c2 w59 HF=>?_;simp only[pS];refine tK (pg g3 2)<|rW (Bv.cs (⟨(Wi.nV st),⟨a1,i,c1⟩,⟨a2,(j+1),c2⟩⟩)) ([.slice a2 (j+1) c2]) HF 1 2 (v:=.slice a2 (j+1) c2) rfl S41 (by simp [Value.oneCell',Sl.v]) (Bv.cs (⟨(Wi.nV st),⟨a1,i,c1⟩,⟨a3,j,c3⟩⟩)) rfl fun w60 HF=>?_;simp only[pS];refine Nl ?_;(try simp only[pS]);go_upto_region 15 with fail;refine Sg<|tK (.int .i64 ((j:Nat):Int))<|bN (v:=.int .i64 (((j+1):Nat):Int)) (b_addw ((j:Nat):Int) 1 (((j+1):Nat):Int) (by rw [IntKind.wrap_i64];omega))<|tK (.int .i64 (((j+1):Nat):Int))<|Nl ?_;simp only[pS];go_wp2;go_roundw
        case rel=>exact ⟨j+1,a2,c2,by go_num,by omega,by omega,(by rw [lasL_succ,laL_one1];exact Kr.front (l:=[(g1,43,Bv.cells bvZ),(g3,43,Bv.cells (⟨(Wi.nV st),⟨a1,i,c1⟩,⟨a2,(j+1),c2⟩⟩))]) (m:=[(g44,94,La.cells ⟨(Wi.nV (uL st i j)),(Wi.nV (Wi.nS (uL st i j))),(Wi.nV (Wi.nS (Wi.nS (uL st i j)))),(Wi.nV (Wi.nS (Wi.nS (Wi.nS (uL st i j))))),((fiV (Wi.nS (Wi.nS (Wi.nS (Wi.nS (uL st i j)))))).c),((fiV (Wi.nS (Wi.nS (Wi.nS (Wi.nS (uL st i j)))))).o),(Wi.nV (Wi.aS (Wi.nS (Wi.nS (Wi.nS (Wi.nS (uL st i j)))))))⟩)]) HF)⟩
        case measure=>simp [intOf];omega
       ·go_upto_region 14 with fail;refine Sg<|tK (.int .i64 ((j:Nat):Int))<|tK (.int .i64 ((M:Nat):Int))<|bN (lI (a:=((j:Nat):Int)) (b:=((M:Nat):Int)) (decide_eq_false (by omega)))<|tF<|sK<|sK<|sK<|sK<|sK<|sK<|sK<|sK<|tF<|Nl ?_;simp only[pS];go_upto_region 24 with fail;refine Sg<|rP (Bv.cs (⟨(Wi.nV st),⟨a1,i,c1⟩,⟨a3,j,c3⟩⟩)) HF 1 0 U43 S43 (Bv.cs (⟨(Wi.nV st),⟨a1,i,c1⟩,⟨a3,j,c3⟩⟩)) rfl<|rW (Bv.cs (⟨(Wi.nV st),⟨a1,i,c1⟩,⟨a3,j,c3⟩⟩)) (Bv.cs (⟨(Wi.nV st),⟨a1,i,c1⟩,⟨a3,j,c3⟩⟩)) HF 0 0 (v:=.agg (Bv.cells (⟨(Wi.nV st),⟨a1,i,c1⟩,⟨a3,j,c3⟩⟩))) rfl S43 (Bv.oneL _) (Bv.cs bvZ) rfl fun w61 HF=>?_;simp only[pS];refine Nl ?_;(try simp only[pS]);go_wp2;rw [HC.out];refine bodyPost_ret (results_row1 (by rfl) _ _ g1 _ (by rfl) (run_load_part (HF.out.fq.box 0 _ _ _ rfl) (Part.all _) U43 rfl S43)) rfl ?_;exact ⟨N,M,i,j,a1,c1,a3,c3,hN,hM,hii,hij,hzi,hzj,fun h=>absurd h hlti,fun h=>absurd h hltj,rfl,HF.out.st.1.1,HF.out.fq.kept,HF.out.st.1.2.1,HF.out.st.2.1⟩
end
def rkS (st:Wi.RS) (i j:Nat):Wi.RS:=lasS j (Wi.nS (ensS i (Wi.nS (Wi.nS st))))
def rkE (st:Wi.RS) (i:Nat):List En:=ensL i (Wi.nS (Wi.nS st))
def rkL (st:Wi.RS) (i j:Nat):List La:=lasL j (Wi.nS (ensS i (Wi.nS (Wi.nS st))))
theorem fl_congr {f g:Nat→List It}:∀ {n:Nat},(∀ k,k < n→f k=g k)→fl f n=fl g n
  | 0,_=>by rw [fl0,fl0]
  | n+1,h=>by rw [fl_succ,fl_succ,fl_congr (fun k hk=>h k (by omega)),h n (by omega)]
theorem took_ens (st:Wi.RS):∀ n,Took st (fl (fun k=>entIts (enV (ensS k st))) n) (ensS n st)
  | 0=>by rw [fl0];exact Took.nil st
  | n+1=>by rw [fl_succ];exact (took_ens st n).trans (took_en _)
theorem took_las (st:Wi.RS):∀ n,Took st (fl (fun k=>lasIts (laV (lasS k st))) n) (lasS n st)
  | 0=>by rw [fl0];exact Took.nil st
  | n+1=>by rw [fl_succ];exact (took_las st n).trans (took_la _)
theorem ensL_at {n k:Nat} (st:Wi.RS) (h:k < n):eAt (ensL n st) k=enV (ensS k st):=by
  unfold eAt ensL;rw [List.getElem?_map,List.getElem?_range h];rfl
theorem lasL_at {n k:Nat} (st:Wi.RS) (h:k < n):lAt (lasL n st) k=laV (lasS k st):=by
  unfold lAt lasL;rw [List.getElem?_map,List.getElem?_range h];rfl
def okB (st:Wi.RS):Prop:=∃ zs a,st=.ok zs a
theorem took_back {st st':Wi.RS} {L:List It} (h:Took st L st') (hu:uR st) (ho:okB st'):okB st:=by
  obtain ⟨zs,a,e⟩:=ho
  obtain ⟨z0,a0,e0,_⟩:=(h hu).2 zs a e
  exact ⟨z0,a0,e0⟩
theorem ens_back {st:Wi.RS} (hu:uR st) {i:Nat}:∀ {n:Nat},i≤n→okB (ensS n st)→okB (ensS i st)
  | 0,h,ho=>by rw [show i=0 by omega];exact ho
  | n+1,h,ho=>by
    by_cases e:i=n+1
    · rw [e];exact ho
    · exact ens_back hu (n:=n) (by omega) (took_back (took_en _) (ens_u hu n) ho)
theorem las_back {st:Wi.RS} (hu:uR st) {i:Nat}:∀ {n:Nat},i≤n→okB (lasS n st)→okB (lasS i st)
  | 0,h,ho=>by rw [show i=0 by omega];exact ho
  | n+1,h,ho=>by
    by_cases e:i=n+1
    · rw [e];exact ho
    · exact las_back hu (n:=n) (by omega) (took_back (took_la _) (las_u hu n) ho)
theorem ok_err {st:Wi.RS} (h:okB st):((Wi.errS st).2==0)=true:=by
  obtain ⟨zs,a,rfl⟩:=h;rfl
theorem bkt_bd {B rm:Int} {x:Bv} {es:List En} {ls:List La} (hr:rm≤256) (he:es.length=x.e.l) (hl:ls.length=x.l.l) (h:bktP B rm x es ls=true):x.e.l≤256∧x.l.l≤255:=by
  unfold bktP at h
  cases e1:(x.up==0)
  · rw [e1] at h
    simp only[bsq] at h
    rw [Bool.and_eq_true,Bool.and_eq_true] at h
    have h2:=h.2.1
    unfold entsP at h2
    rw [Bool.and_eq_true] at h2
    have h3:¬ rm < ((es.length:Nat):Int):=by simpa using h2.1
    have h4:=rng_all h.2.2
    have h5:=las_cnt h4
    omega
  · rw [e1] at h
    simp only[bsq] at h
    unfold empK at h
    rw [Bool.and_eq_true,Bool.and_eq_true] at h
    have h2:=eq_of_beq h.2.1
    have h3:=eq_of_beq h.2.2
    omega
theorem RdE.nilS (w:World):RdE w slZ []:=⟨RowsAt.nil _ _ _,rfl,fun _=>rfl⟩
theorem RdL.nilS (w:World):RdL w slZ []:=⟨RowsAt.nil _ _ _,rfl,fun _=>rfl⟩
theorem RdE.ofBox {w:World} {g n k:Nat} {es:List En} (hb:Box w g 92 (enL es).toArray) (hl:es.length=n):RdE w ⟨some ⟨g,0,none⟩,n,k⟩ es:=by
  refine ⟨?_,hl,fun e=>by cases e⟩
  intro i it hi
  refine ⟨g,0,rfl,fun j v hv=>?_⟩
  have h1:=flat_get 4 _ (enL_c es) i it hi j v hv
  rw [Nat.zero_add,hb.cell,List.getElem?_toArray]
  exact h1
theorem RdL.ofBox {w:World} {g n k:Nat} {es:List La} (hb:Box w g 94 (laL es).toArray) (hl:es.length=n):RdL w ⟨some ⟨g,0,none⟩,n,k⟩ es:=by
  refine ⟨?_,hl,fun e=>by cases e⟩
  intro i it hi
  refine ⟨g,0,rfl,fun j v hv=>?_⟩
  have h1:=flat_get 7 _ (laL_c es) i it hi j v hv
  rw [Nat.zero_add,hb.cell,List.getElem?_toArray]
  exact h1
theorem kr_fresh {K:Src} {w w':World} {s:Wi.RS × Bool} {m:List (Nat × TypeId × Array Value)} (k:Kr K w w' s m) {i g:Nat} {T:TypeId} {cs:Array Value} (h:m[i]?=some (g,T,cs)):w.heap.size≤g:=(k.fq.low i g T cs h).elim id (fun e=>absurd (K.sub _ e) (k.out i g T cs h))
theorem RdE.ofOwn {w:World} {base:Nat} {a:Option Addr} {n c:Nat} {es:List En} (h:Own 92 4 w base a c n (enL es)) (hl:es.length=n):RdE w ⟨a,n,c⟩ es:=⟨Own.rows h (enL_c es) (by omega),hl,h.cap0⟩
theorem RdL.ofOwn {w:World} {base:Nat} {a:Option Addr} {n c:Nat} {es:List La} (h:Own 94 7 w base a c n (laL es)) (hl:es.length=n):RdL w ⟨a,n,c⟩ es:=⟨Own.rows h (laL_c es) (by omega),hl,h.cap0⟩
theorem Kr.bkt {K:Src} {w0 w w':World} {s s':Wi.RS × Bool} {l:List (Nat × TypeId × Array Value)} {a1 a3:Option Addr} {m c1 q c3:Nat} {vs us:List Value} (h:Kr K w0 w s l) (hS:K.St w' s') (hk:Kept K.Wr w w')
    (hoE:Own 92 4 w' w.heap.size a1 c1 m vs) (hoL:Own 94 7 w' w.heap.size a3 c3 q us):Kr (lsSrc (lsSrc K 92 4 w.heap.size a1 m c1 vs) 94 7 w.heap.size a3 q c3 us) w0 w' s' l:=by
  have H:=h.call (v:=undef) ⟨rfl,hS,hk⟩
  refine ⟨H.fq,⟨⟨hS,hoE,fun k e e2=>?_⟩,hoL,fun k e e2=>?_⟩,fun i g T cs hi e=>?_⟩
  · have:=hoE.base e;have:=K.lt h.st k e2;omega
  · rcases e2 with e2 | e2
    · have:=hoL.base e;have:=K.lt h.st k e2;omega
    · obtain ⟨x,hx⟩:=own_typ hoE e2
      obtain ⟨y,hy⟩:=own_typ hoL e
      have:=cells_ty hx hy
      cases this
  · have hlt:=(h.fq.box i g T cs hi).lt
    rcases e with (e | e) | e
    · exact H.out i g T cs hi e
    · have:=hoE.base e;omega
    · have:=hoL.base e;omega
theorem room_of {ys:List Int} (h8:Wi.U8 ys) (ho:((Wi.openOf ys).2==0)=true):room (.ok (Wi.openOf ys).1 0) 131072:=fun zs a e=>by
  injection e with e1 _
  rw [← e1];exact (open_form h8 (eq_of_beq ho)).2
theorem slLent {w w':World} {g:Nat} {x:Sl} {ys:List Int} (hb:Box w' g 5 (u8L (ys++mk3 3)).toArray) (h:Wi.Sl w x.a x.l x.k ys):Wi.Sl w' (some ⟨g,0,none⟩) x.l (x.l+3) ys:=
  ⟨h.len,(RdB.lent (k:=x.l+3) hb h.len).row,h.u8,by omega,by have:=h.bd;omega,h.bd,fun e=>by cases e⟩
section
variable {ops:Array Oper} {rest:List Oper} {o:Oper} {a:Act} {w:World} {Q:Exit→Act→World→Prop} {S:Nat→Prop} {w0:World} {l:List (Nat × TypeId × Array Value)}
end
structure RdS (w:World) (x:Sl) (ss:List Sl):Prop where
  row:RowsAt 1 w x.a (ss.map (fun s=>[s.v]))
  len:ss.length=x.l
def sAt (ss:List Sl) (i:Nat):Sl:=ss[i]?.getD slZ
theorem RdS.at' {w:World} {s:Sl} {es:List Sl} (h:RdS w s es) {i:Nat} (hi:i < s.l):∃ b off,s.v=.slice (some ⟨b,off,none⟩) s.l s.k∧∀ (j:Nat) v,[(sAt es i).v][j]?=some v→w.cell? ⟨b,off+i*1+j,none⟩=some v:=by
  obtain ⟨b,off,ha,hc⟩:=h.row i [(sAt es i).v] (by rw [List.getElem?_map,show es[i]?=some (sAt es i) by simp [sAt,List.getElem?_eq_getElem (show i < es.length by rw [h.len];exact hi)]];rfl)
  exact ⟨b,off,by unfold Sl.v;rw [ha],hc⟩
theorem E66:Tryz.prog.underlying 66=some (.slice (Tryz.prog.elem 66)):=by kernel_rfl
theorem F66:(Tryz.prog.info? (Tryz.prog.elem 66)).map (·.size)=some 1:=by kernel_rfl
def SealO (w:World) (zs:List Int) (e:Ending) (w':World):Prop:=∃ s:Sl,e=.returned s.v∧Wi.Sl w' s.a s.l s.k zs∧Kept No w w'
theorem sealC (x:Sl) (ys:List Int) (w:World) (h:Wi.Sl w x.a x.l x.k ys):∃ zs,Calls Tryz.prog 26 #[x.v] w (SealO w zs):=by
  by_cases hl:x.l≤131072
  · refine ⟨Wi.sealOf ys,(Wi.rseal_any x.a x.l x.k ys w h.len hl h.bytes h.u8 h.nil).mono ?_⟩
    rintro e w' ⟨a',c',rfl,hO,hk⟩
    exact ⟨⟨a',x.l+12,c'⟩,rfl,hO.sl (by rw [Wi.sealOf_len,h.len]) (Wi.sealOf_u8 h.u8) (by show x.l+12≤_;omega),kw hk⟩
  · refine ⟨[],(Wi.rseal_long x.a x.l x.k w (by omega) (by have:=h.bd;omega)).mono ?_⟩
    rintro e w' ⟨rfl,rfl⟩
    exact ⟨slZ,rfl,⟨rfl,fun i hi=>absurd hi (Nat.not_lt_zero _),Wi.U8.nil,Nat.le_refl _,by show 0≤_;omega,Nat.zero_le _,fun _=>rfl⟩,Kept.refl _ _⟩
section
variable {ops:Array Oper} {a:Act} {w:World} {Q:Exit→Act→World→Prop} {md:Region.Mode} {S:Nat→Prop} {w0:World} {l:List (Nat × TypeId × Array Value)} {fuel:Nat} {listed:Array Bool}
theorem ySl (i d:Nat) {f:FuncId} {args:Array Value} (hc:∃ zs,Calls Tryz.prog f args w (SealO w zs)) (HF:Hid (Fq S w0 w l))
    (h:∀ (s:Sl) zs w',Hid (Fq S w0 w' l)→Hid (Wi.Sl w' s.a s.l s.k zs)→wpAnyH Tryz.prog md ops Q (fun w'=>Hid (Fq S w0 w' l)) fuel (listed.setIfInBounds i true) (a.put (some d) s.v) w')
    (hi:ops[i]?=some (opA ops i):=by kernel_rfl) (hd:(opA ops i).dst=some d:=by kernel_rfl) (hr:Region.ready md ops listed=[i]:=by kernel_rfl) (hrun:(execOp a.eval (opA ops i)).run Tryz.prog w=.ok (.enter f args) w:=by kernel_rfl) (hw:Region.wanted (opA ops i) (yielded ops a.tmps)=true:=by kernel_rfl):wpAnyH Tryz.prog md ops Q (fun w'=>Hid (Fq S w0 w' l)) (fuel+1) listed a w:=by
  obtain ⟨zs,hc⟩:=hc
  exact any_call hi hr hw f args hrun _ hc (by rintro e w' ⟨s,rfl,h1,hk⟩;exact ⟨_,rfl,HF.out.no hk,fun HF=>by rw [hd];exact h s zs w' HF h1⟩)
end
open Go.ChangeShapes Go.WideShapes Go.ChangeAt Go.RowKit
open Go.ChangeMaps (open_string shut_string)
instance:Inhabited Sl:=⟨slZ⟩
theorem U66:Tryz.prog.underlying 66=some (.slice 35):=by kernel_rfl
theorem slice_ok {H:Type} {enc:TypeId × Value→H} {W:World} {fuel:Nat} {v:Value} {x:DataW H × List MemPlace}
    (hf:DataW.trod enc Tryz.prog W 0 (fun _=>true) true fuel 35 [v]=some x) (hs:∀ n∈x.1.weights Tryz.prog 35,n≤reachBytes) :
    ∃ (s:Sl) (xs:List Int),v=s.v∧Wi.Sl W s.a s.l s.k xs:=by
  rcases Go.Deep.open_slice Tryz.und26 hf with ⟨hcs,_⟩ | ⟨ad,l,cp,m,n,D,PP,hcs,hq,hl,hm,hmm,hx,hel⟩
  · simp at hcs
    exact ⟨slZ,[],hcs,⟨rfl,fun i hi=>absurd hi (Nat.not_lt_zero _),Wi.U8.nil,Nat.le_refl _,by show 0≤_;omega,Nat.zero_le _,fun _=>rfl⟩⟩
  · simp at hcs
    simp only[if_true] at hmm
    subst hmm
    have hb2:m≤140737488351232:=by
      have h1:=hs _ (by rw [hx];simp only[DataW.weights,Tryz.und26];exact List.mem_cons_self ..)
      rw [Tryz.bytes5] at h1
      simp [reachBytes] at h1
      omega
    have hb:l≤140737488351232:=by
      have h1:=hs _ (by rw [hx];simp only[DataW.weights,Tryz.und26];exact List.mem_cons_self ..)
      rw [Tryz.bytes5] at h1
      simp [reachBytes] at h1
      omega
    rw [Tryz.cells5] at hel
    have key:∀ i,i < l→∃ z:Int,W.cells? 0 (ad.add (i*1)) 1=some [.int .u8 z]∧0≤z∧z≤255:=by
      intro i hi
      obtain ⟨cs',hc,htr⟩:=hel i (by omega)
      obtain ⟨z,e,_,wz⟩:=DataW.trod_int Tryz.und5 htr
      subst e
      exact ⟨z,hc,wu_lo wz,wu_hi wz⟩
    obtain ⟨f,hfm⟩:=Go.Deep.choose_lt key
    refine ⟨⟨some ad,l,m⟩,(List.range l).map f,hcs,⟨by simp,?_,u8_map hfm,(by show l≤m;omega),(by show m≤_;omega),hb,fun e=>by cases e⟩⟩
    intro i hi0
    have hi:i < l:=by simpa using hi0
    have hc:=(hfm i hi).1
    have hcs:=(World.cells?_some hc).2.2 0 (by omega)
    obtain ⟨b,off,spot⟩:=ad
    have h00':[Value.int .u8 (f i)][0]?=some (.int .u8 (f i)):=rfl
    rw [h00'] at hcs
    have hspot:spot=none:=by
      have h0:=(World.cells?_some (hfm 0 (by omega)).1).2.2 0 (by omega)
      have h00:[Value.int .u8 (f 0)][0]?=some (.int .u8 (f 0)):=rfl
      rw [h00] at h0
      have:=World.cell?_spot h0
      simpa [Addr.add] using this
    subst hspot
    refine ⟨b,off,rfl,?_⟩
    rw [Go.Deep.add_add,addr_add] at hcs
    rw [show off+i=off+(i*1+0) by omega]
    simpa [hi] using hcs
theorem one_cell {H:Type} {enc:TypeId × Value→H} {W:World} {fuel:Nat} {l:List Value} {x:DataW H × List MemPlace} (h:DataW.trod enc Tryz.prog W 0 (fun _=>true) true fuel 35 l=some x):∃ v,l=[v]:=by
  rcases Go.Deep.open_slice Tryz.und26 h with ⟨hcs,_⟩ | ⟨ad,l2,cp,m,n,D,PP,hcs,_⟩
  · exact ⟨_,hcs⟩
  · exact ⟨_,hcs⟩
set_option maxRecDepth 100000 in
theorem opened_ss (H:Type) (enc:TypeId × Value→H) (W:World) (a0:Option Addr) (len0 cap0:Nat) (d0:DataW H) (p0:List MemPlace)
    (h0:DataW.Trod enc Tryz.prog W 0 (fun _=>true) true 66 (.slice a0 len0 cap0) d0 p0) {ts:List TypeId} {ds:List (DataW H)} (hsz:(DataW.weightsEach Tryz.prog ts ds).all (·≤reachBytes)=true) {j:Nat} (ht:ts[j]?=some 66) (hd:ds[j]?=some d0) :
    ∃ xs:List Sl,RdS W ⟨a0,len0,cap0⟩ xs∧(∀ i,i < len0→∃ ys,Wi.Sl W (sAt xs i).a (sAt xs i).l (sAt xs i).k ys)∧len0≤281474976710656:=by
  obtain ⟨fuel,hf⟩:=h0
  have hf':DataW.trod enc Tryz.prog W 0 (fun _=>true) true fuel 66 [.slice a0 len0 cap0]=some (d0,p0):=hf
  obtain ⟨s,xs,hv,h1,h2,h3,h4⟩:=rows_ok (fun s:Sl=>[s.v]) 1 24 66 35 U66 (by kernel_rfl) (by kernel_rfl) (by omega) (fun _=>rfl) (fun x=>∃ ys,Wi.Sl W x.a x.l x.k ys)
    (fun fuel l x h hs=>by
      obtain ⟨v,rfl⟩:∃ v,l=[v]:=one_cell h
      obtain ⟨s,ys,rfl,hm⟩:=slice_ok h hs
      exact ⟨s,rfl,ys,hm⟩) hf' (fun n hn=>by
      have:=List.all_eq_true.1 hsz _ (DataW.weights_mem_each ht hd n hn)
      simpa using this)
  obtain ⟨sa,sn,sk⟩:=s
  simp only[Sl.v,Value.slice.injEq] at hv
  obtain ⟨rfl,rfl,rfl⟩:=hv
  exact ⟨xs,⟨h1,h2⟩,h3,by simp only at h4;omega⟩
set_option maxRecDepth 100000
set_option maxHeartbeats 4000000
def adV (st:Wi.RS):Ad:=⟨Wi.fV st,Wi.nV (Wi.nS st)⟩
def kyV (st:Wi.RS):Ky:=⟨Wi.nV st,Wi.nV (Wi.nS st),Wi.nV (Wi.nS (Wi.nS st)),Wi.nV (Wi.nS (Wi.nS (Wi.nS st)))⟩
def kyS (st:Wi.RS):Wi.RS:=Wi.nS (Wi.nS (Wi.nS (Wi.nS st)))
theorem took_ky (st:Wi.RS):Took st [It.n (kyV st).k,It.n (kyV st).a,It.n (kyV st).b,It.n (kyV st).c] (kyS st):=(took_n st).trans<|(took_n _).trans<|(took_n _).trans (took_n _)
section
variable {r g lb:Nat} {st:Wi.RS} {odd:Bool} {w:World}
end
section
variable {i g:Nat} {ba:Option Addr} {bc:Nat} {bs:List Int} {st:Wi.RS} {w:World}
theorem i_addr (h:(inSrc i g ba bc bs).St w (st,false)):Calls Tryz.prog 182 #[.pointer (some ⟨i,0,none⟩)] w ((inSrc i g ba bc bs).Got w (.agg (Ad.cells (adV st))) ((Wi.aS st,false))):=by
  refine hidC fun C HC=>?_;have HF:Hid (Kr (inSrc i g ba bc bs) w w (st,false) []):=Kr.start h;clear h;go_enter Tryz.func182,Tryz.ntmps182;go_upto_region 0 with fail;refine Sg<|rA (Ad.cells adZ) Z30 HF fun g1 w2 HF=>?_;simp only[pS];refine Nl ?_;(try simp only[pS]);go_upto_region 1 with fail;refine Sg<|tK (pg i 0)<|rC _ _ HF (fun h=>i_num h) fun w3 HF=>bN (v:=.bool (Wi.fV st)) (eI rfl)<|tK (.bool (Wi.fV st))<|Nl ?_;simp only[pS];go_upto_region 2 with fail;refine Sg<|tK (.bool (Wi.fV st))<|tK (pg i 0)<|rC _ _ HF (fun h=>i_num h) fun w4 HF=>bD (Ad.cells ⟨(Wi.fV st),(Wi.nV (Wi.nS st))⟩)<|rW (Ad.cs ⟨(Wi.fV st),(Wi.nV (Wi.nS st))⟩) (Ad.cs ⟨(Wi.fV st),(Wi.nV (Wi.nS st))⟩) HF 0 0 (v:=.agg (Ad.cells ⟨(Wi.fV st),(Wi.nV (Wi.nS st))⟩)) rfl S30 (Ad.oneL _) (Ad.cs adZ) rfl fun w5 HF=>?_;simp only[pS];refine Nl ?_;(try simp only[pS]);go_wp2;rw [HC.out];refine bodyPost_ret (results_row1 (by rfl) _ _ g1 _ (by rfl) (run_load_part (HF.out.fq.box 0 _ _ _ rfl) (Part.all _) U30 rfl S30)) rfl ?_;exact HF.out.got _
theorem i_key (h:(inSrc i g ba bc bs).St w (st,false)):Calls Tryz.prog 183 #[.pointer (some ⟨i,0,none⟩)] w ((inSrc i g ba bc bs).Got w (.agg (Ky.cells (kyV st))) ((kyS st,false))):=by
  refine hidC fun C HC=>?_;have HF:Hid (Kr (inSrc i g ba bc bs) w w (st,false) []):=Kr.start h;clear h;go_enter Tryz.func183,Tryz.ntmps183;go_upto_region 0 with fail;refine Sg<|rA (Ky.cells kyZ) Z32 HF fun g1 w2 HF=>?_;simp only[pS];refine Nl ?_;(try simp only[pS]);go_upto_region 1 with fail;refine Sg<|bD (Ky.cells kyZ)<|rA (Ky.cells kyZ) Z32 HF fun g3 w4 HF=>?_;simp only[pS];refine rW (Ky.cs kyZ) (Ky.cs kyZ) HF 1 0 (v:=.agg (Ky.cells kyZ)) rfl S32 (Ky.oneL _) (Ky.cs kyZ) rfl fun w5 HF=>?_;simp only[pS];refine Nl ?_;(try simp only[pS]);go_upto_region 2 with fail;refine Sg<|tK (pg i 0)<|rC _ _ HF (fun h=>i_num h) fun w6 HF=>tK (pg g3 0)<|rW (Ky.cs ⟨(Wi.nV st),0,0,0⟩) ([.int .i64 (Wi.nV st)]) HF 1 0 (v:=.int .i64 (Wi.nV st)) rfl S3 (by simp [Value.oneCell',Sl.v]) (Ky.cs kyZ) rfl fun w7 HF=>?_;simp only[pS];refine Nl ?_;(try simp only[pS]);go_upto_region 3 with fail;refine Sg<|tK (pg i 0)<|rC _ _ HF (fun h=>i_num h) fun w8 HF=>tK (pg g3 1)<|rW (Ky.cs ⟨(Wi.nV st),(Wi.nV (Wi.nS st)),0,0⟩) ([.int .i64 (Wi.nV (Wi.nS st))]) HF 1 1 (v:=.int .i64 (Wi.nV (Wi.nS st))) rfl S3 (by simp [Value.oneCell',Sl.v]) (Ky.cs ⟨(Wi.nV st),0,0,0⟩) rfl fun w9 HF=>?_;simp only[pS];refine Nl ?_;(try simp only[pS]);go_upto_region 4 with fail;refine Sg<|tK (pg i 0)<|rC _ _ HF (fun h=>i_num h) fun w10 HF=>tK (pg g3 2)<|rW (Ky.cs ⟨(Wi.nV st),(Wi.nV (Wi.nS st)),(Wi.nV (Wi.nS (Wi.nS st))),0⟩) ([.int .i64 (Wi.nV (Wi.nS (Wi.nS st)))]) HF 1 2 (v:=.int .i64 (Wi.nV (Wi.nS (Wi.nS st)))) rfl S3 (by simp [Value.oneCell',Sl.v]) (Ky.cs ⟨(Wi.nV st),(Wi.nV (Wi.nS st)),0,0⟩) rfl fun w11 HF=>?_;simp only[pS];refine Nl ?_;(try simp only[pS]);go_upto_region 5 with fail;refine Sg<|tK (pg i 0)<|rC _ _ HF (fun h=>i_num h) fun w12 HF=>tK (pg g3 3)<|rW (Ky.cs ⟨(Wi.nV st),(Wi.nV (Wi.nS st)),(Wi.nV (Wi.nS (Wi.nS st))),(Wi.nV (Wi.nS (Wi.nS (Wi.nS st))))⟩) ([.int .i64 (Wi.nV (Wi.nS (Wi.nS (Wi.nS st))))]) HF 1 3 (v:=.int .i64 (Wi.nV (Wi.nS (Wi.nS (Wi.nS st))))) rfl S3 (by simp [Value.oneCell',Sl.v]) (Ky.cs ⟨(Wi.nV st),(Wi.nV (Wi.nS st)),(Wi.nV (Wi.nS (Wi.nS st))),0⟩) rfl fun w13 HF=>?_;simp only[pS];refine Nl ?_;(try simp only[pS]);go_upto_region 6 with fail;refine Sg<|rP (Ky.cs ⟨(Wi.nV st),(Wi.nV (Wi.nS st)),(Wi.nV (Wi.nS (Wi.nS st))),(Wi.nV (Wi.nS (Wi.nS (Wi.nS st))))⟩) HF 1 0 U32 S32 (Ky.cs ⟨(Wi.nV st),(Wi.nV (Wi.nS st)),(Wi.nV (Wi.nS (Wi.nS st))),(Wi.nV (Wi.nS (Wi.nS (Wi.nS st))))⟩) rfl<|rW (Ky.cs ⟨(Wi.nV st),(Wi.nV (Wi.nS st)),(Wi.nV (Wi.nS (Wi.nS st))),(Wi.nV (Wi.nS (Wi.nS (Wi.nS st))))⟩) (Ky.cs ⟨(Wi.nV st),(Wi.nV (Wi.nS st)),(Wi.nV (Wi.nS (Wi.nS st))),(Wi.nV (Wi.nS (Wi.nS (Wi.nS st))))⟩) HF 0 0 (v:=.agg (Ky.cells ⟨(Wi.nV st),(Wi.nV (Wi.nS st)),(Wi.nV (Wi.nS (Wi.nS st))),(Wi.nV (Wi.nS (Wi.nS (Wi.nS st))))⟩)) rfl S32 (Ky.oneL _) (Ky.cs kyZ) rfl fun w14 HF=>?_;simp only[pS];refine Nl ?_;(try simp only[pS]);go_wp2;rw [HC.out];refine bodyPost_ret (results_row1 (by rfl) _ _ g1 _ (by rfl) (run_load_part (HF.out.fq.box 0 _ _ _ rfl) (Part.all _) U32 rfl S32)) rfl ?_;exact HF.out.got _
end
end Go.Proofs.YtgdnofacgfjaeaaGreat.Md
