import Derived.Test.YtgdnofacgfjaeaaGreatNl
import Derived.Test.YtgdnofacgfjaeaaGreatFi
import Derived.Laws.Small
import Derived.Test.YtgdnofacgfjaeaaGreatWiI
import Derived.Test.YtgdnofacgfjaeaaGreatWiZx
namespace Go.Proofs.YtgdnofacgfjaeaaGreat.Md
set_option maxRecDepth 100000
set_option maxHeartbeats 4000000
open Go.RowKit
set_option linter.unusedVariables false
set_option linter.unusedSimpArgs false
def ensS:Nat→Wi.RS→Wi.RS
  | 0,st=>st
  | n+1,st=>enS (ensS n st)
def lasS:Nat→Wi.RS→Wi.RS
  | 0,st=>st
  | n+1,st=>laS (lasS n st)
def ensL (n:Nat) (st:Wi.RS):List En:=(List.range n).map (fun i=>enV (ensS i st))
def lasL (n:Nat) (st:Wi.RS):List La:=(List.range n).map (fun i=>laV (lasS i st))
theorem ensL_len (n:Nat) (st:Wi.RS):(ensL n st).length=n:=by simp [ensL]
theorem lasL_len (n:Nat) (st:Wi.RS):(lasL n st).length=n:=by simp [lasL]
theorem ensL_succ (n:Nat) (st:Wi.RS):ensL (n+1) st=ensL n st++[enV (ensS n st)]:=by simp [ensL,List.range_succ]
theorem lasL_succ (n:Nat) (st:Wi.RS):lasL (n+1) st=lasL n st++[laV (lasS n st)]:=by simp [lasL,List.range_succ]
theorem putEn (i n:Nat) (st:Wi.RS) (h:i < n):putL (enL (ensL i st++List.replicate (n - i) enZ)) (0+i*4) (En.cs (enV (ensS i st)))=enL (ensL (i+1) st++List.replicate (n - (i+1)) enZ):=by
  have e:n - i=(n - (i+1))+1:=by omega
  rw [e,List.replicate_succ,ensL_succ,show ensL i st++enZ :: List.replicate (n - (i+1)) enZ=ensL i st++([enZ]++List.replicate (n - (i+1)) enZ) by simp,enL_app,enL_app,Nat.zero_add];have h2:=put_mid (enL (ensL i st)) (enL [enZ]) (enL (List.replicate (n - (i+1)) enZ)) (En.cs (enV (ensS i st))) rfl;rw [enL_len,ensL_len] at h2;rw [h2,enL_app,enL_app,List.append_assoc]
  simp [enL]
theorem putLa (i n:Nat) (st:Wi.RS) (h:i < n):putL (laL (lasL i st++List.replicate (n - i) laZ)) (0+i*7) (La.cs (laV (lasS i st)))=laL (lasL (i+1) st++List.replicate (n - (i+1)) laZ):=by
  have e:n - i=(n - (i+1))+1:=by omega
  rw [e,List.replicate_succ,lasL_succ,show lasL i st++laZ :: List.replicate (n - (i+1)) laZ=lasL i st++([laZ]++List.replicate (n - (i+1)) laZ) by simp,laL_app,laL_app,Nat.zero_add];have h2:=put_mid (laL (lasL i st)) (laL [laZ]) (laL (List.replicate (n - (i+1)) laZ)) (La.cs (laV (lasS i st))) rfl;rw [laL_len,lasL_len] at h2;rw [h2,laL_app,laL_app,List.append_assoc]
  simp [laL]
theorem exec_min {o:Oper} {a:Act} {w:World} (x y:Operand) (T T':TypeId) (ho:o.op=.call { callee:=Callee.builtin Builtin.min,args:=#[x,y],argTypes:=#[T,T'] }) {u v:Int} (hx:a.eval x=.int .i64 u) (hy:a.eval y=.int .i64 v):(execOp a.eval o).run Tryz.prog w=.ok (.value (.int .i64 (if v < u then v else u))) w:=by
  simp [execOp,ho,resolve,invoke,builtin,hx,hy,run_min_int2,Result.andThen]
section
variable {ops:Array Oper} {rest:List Oper} {o:Oper} {a:Act} {w:World} {Q:Exit→Act→World→Prop} {K:Src} {w0:World} {s s':Wi.RS × Bool} {l:List (Nat × TypeId × Array Value)}
theorem rMn {u v:Int} {n:Nat} (hn:((n:Nat):Int)=if v < u then v else u) (h:WL ops Q rest (a.put o.dst (.int .i64 ((n:Nat):Int))) w) {x y:Operand} {T T':TypeId} (ho:o.op=.call { callee:=Callee.builtin Builtin.min,args:=#[x,y],argTypes:=#[T,T'] }:=by rfl)
    (hx:a.eval x=.int .i64 u:=by kernel_rfl) (hy:a.eval y=.int .i64 v:=by kernel_rfl) (hw:Region.wanted o (yielded ops a.tmps)=true:=by kernel_rfl):WL ops Q (o :: rest) a w:=
  tW _ (by rw [hn];exact exec_min x y T T' ho hx hy) h hw
theorem rM {t E:TypeId} (n:Nat) (cs:List Value) (HF:Hid (Kr K w0 w s l)) (hr:(Instr.makeSlice t (.int .i64 (n:Int)) (.int .i64 (n:Int))).run Tryz.prog w=.ok (.slice (some ⟨w.heap.size,0,none⟩) n n) (w.alloc (.cells cs.toArray E)))
    (h:∀ g w',Hid (Kr K w0 w' s (l++[(g,E,cs.toArray)]))→WL ops Q rest (a.put o.dst (.slice (some ⟨g,0,none⟩) n n)) w') {x y:Operand} (ho:o.op=.makeSlice t x y:=by rfl)
    (hx:a.eval x=.int .i64 (n:Int):=by kernel_rfl) (hy:a.eval y=.int .i64 (n:Int):=by kernel_rfl) (hw:Region.wanted o (yielded ops a.tmps)=true:=by kernel_rfl):WL ops Q (o :: rest) a w:=
  wp_runW _ _ (exec_make t x y ho _ _ hx hy hr) hw (h _ _ (HF.out.alloc _ _))
end
def ListO (K:Src) (w:World) (T:TypeId) (cs:List Value) (n:Nat) (s':Wi.RS × Bool) (e:Ending) (w':World):Prop:=∃ g,e=.returned (.slice (some ⟨g,0,none⟩) n n)∧Kr K w w' s' [(g,T,cs.toArray)]
def cntK (v:Int) (m:Nat):Nat:=if ((m:Nat):Int) < v then m else v.toNat
theorem cntK_is {v:Int} (h:0≤v) (m:Nat):((cntK v m:Nat):Int)=if ((m:Nat):Int) < v then ((m:Nat):Int) else v:=by
  unfold cntK;split <;> omega
theorem cntK_le (v:Int) (m:Nat):cntK v m≤m:=by unfold cntK;split <;> omega
section
variable {r g lb b:Nat} {st:Wi.RS} {odd:Bool} {w:World}
theorem p_listE (h:(capSrc r g lb b).St w (st,odd)):Calls Tryz.prog 197 #[.pointer (some ⟨r,0,none⟩),.int .i64 256,.func (.func 193) #[] #[.pointer (some ⟨b,0,none⟩)]] w (ListO (capSrc r g lb b) w 92 (enL (ensL (cntK (Wi.nV st) 257) (Wi.nS st))) (cntK (Wi.nV st) 257) (ensS (cntK (Wi.nV st) 257) (Wi.nS st),odd)):=by
  refine hidC fun C HC=>?_;obtain ⟨cnt,hcn2⟩:∃ n,cntK (Wi.nV st) 257=n:=⟨_,rfl⟩;have hcn:((cnt:Nat):Int)=if (257:Int) < Wi.nV st then 257 else Wi.nV st:=by rw [← hcn2];exact cntK_is (nV_pos st) 257
  have hcb:cnt≤257:=by rw [← hcn2];exact cntK_le _ _
  have HF:Hid (Kr (capSrc r g lb b) w w (st,odd) []):=Kr.start h;clear h;go_enter Tryz.func197,Tryz.ntmps197;go_upto_region 0 with fail;refine Sg<|tK (.slice none 0 0)<|Nl ?_;simp only[pS];go_upto_region 1 with fail;refine Sg<|tK (pg r 0)<|tK (pg r 0)<|tK (pg r 0)<|lR (load_one (Src.pt _ HF.out.st) U203 rfl)<|rC _ _ HF (fun h=>capGot h (fun h=>p_Num h)) fun w1 HF=>tK (.int .i64 256)<|tK (.int .i64 257)<|rMn hcn<|rM cnt (enL (List.replicate cnt enZ)) HF (make_en _ _ (by omega)) fun g2 w3 HF=>?_;simp only[pS];refine tK (.slice (some ⟨g2,0,none⟩) cnt cnt)<|Nl ?_;simp only[pS];go_upto_region 2 with fail;refine Sg<|tK (.slice (some ⟨g2,0,none⟩) cnt cnt)<|tK (.int .i64 ((cnt:Nat):Int))<|tK (.int .i64 0)<|Nl ?_;simp only[pS];go_wp2
  go_loopw [20] (fun v20 wr=>∃ i:Nat,v20=.int .i64 ((i:Nat):Int)∧i≤cnt∧Hid (Kr (capSrc r g lb b) w wr (ensS i (Wi.nS st),odd) [(g2,92,(enL (ensL i (Wi.nS st)++List.replicate (cnt - i) enZ)).toArray)])) (fun v20 _=>cnt - (intOf v20).toNat)
  case atStart=>exact ⟨0,by go_num,by omega,HF⟩
  case round=>
    clear HF;obtain ⟨i,rfl,hi,HF⟩:=hrel
    by_cases hlt:i < cnt
    ·go_upto_region 3 with fail;refine Sg<|bN (lI (a:=((i:Nat):Int)) (b:=((cnt:Nat):Int)) (decide_eq_true (by omega)))<|Nl ?_;simp only[pS];go_upto_region 4 with fail;refine Sg<|tK (.int .i64 ((i:Nat):Int))<|tK (.int .i64 ((i:Nat):Int))<|Nl ?_;simp only[pS];go_upto_region 5 with fail;refine Sg<|tK (.slice (some ⟨g2,0,none⟩) cnt cnt)<|tK (.int .i64 ((i:Nat):Int))<|tK (.func (.func 193) #[] #[.pointer (some ⟨b,0,none⟩)])<|rC _ _ HF (fun h=>p_entry h) fun w4 HF=>?_;simp only[pS];refine iS (s:=⟨some ⟨g2,0,none⟩,cnt,cnt⟩) (i:=i) rfl E40 F40 (by show _ < cnt;omega)<|rW (enL (ensL (i+1) (Wi.nS st)++List.replicate (cnt - (i+1)) enZ)) (En.cs (enV (ensS i (Wi.nS st)))) HF 0 (0+i*4) (v:=.agg (En.cells (enV (ensS i (Wi.nS st))))) rfl S92 (En.oneL _) (enL (ensL i (Wi.nS st)++List.replicate (cnt - i) enZ)) rfl (hl:=by rw [enL_len];simp only[List.length_append,ensL_len,List.length_replicate];show 0+i*4+4≤_;omega) (hn:=putEn i cnt (Wi.nS st) hlt) fun w5 HF=>?_;simp only[pS];refine Nl ?_;(try simp only[pS]);go_upto_region 6 with fail;refine Sg<|bN (v:=.int .i64 (((i+1):Nat):Int)) (b_addw ((i:Nat):Int) 1 (((i+1):Nat):Int) (by rw [IntKind.wrap_i64];omega))<|tK (.int .i64 (((i+1):Nat):Int))<|Nl ?_;simp only[pS];go_wp2;go_roundw
     case rel=>exact ⟨i+1,by go_num,by omega,HF⟩
     case measure=>simp [intOf];omega
    ·obtain rfl:i=cnt:=by omega
     rw [Nat.sub_self,List.replicate_zero,List.append_nil] at HF;go_upto_region 3 with fail;refine Sg<|bN (lI (a:=((i:Nat):Int)) (b:=((i:Nat):Int)) (decide_eq_false (by omega)))<|Nl ?_;simp only[pS];go_upto_region 7 with fail;refine Sg<|tK (.slice (some ⟨g2,0,none⟩) i i)<|tK (.slice (some ⟨g2,0,none⟩) i i)<|Nl ?_;simp only[pS];go_wp2;rw [HC.out,hcn2];exact ⟨g2,rfl,HF.out⟩
theorem p_listL (h:(capSrc r g lb b).St w (st,odd)):Calls Tryz.prog 198 #[.pointer (some ⟨r,0,none⟩),.int .i64 255,.func (.func 196) #[] #[.pointer (some ⟨b,0,none⟩)]] w (ListO (capSrc r g lb b) w 94 (laL (lasL (cntK (Wi.nV st) 256) (Wi.nS st))) (cntK (Wi.nV st) 256) (lasS (cntK (Wi.nV st) 256) (Wi.nS st),odd)):=by
  refine hidC fun C HC=>?_;obtain ⟨cnt,hcn2⟩:∃ n,cntK (Wi.nV st) 256=n:=⟨_,rfl⟩;have hcn:((cnt:Nat):Int)=if (256:Int) < Wi.nV st then 256 else Wi.nV st:=by rw [← hcn2];exact cntK_is (nV_pos st) 256
  have hcb:cnt≤256:=by rw [← hcn2];exact cntK_le _ _
  have HF:Hid (Kr (capSrc r g lb b) w w (st,odd) []):=Kr.start h;clear h;go_enter Tryz.func198,Tryz.ntmps198;go_upto_region 0 with fail;refine Sg<|tK (.slice none 0 0)<|Nl ?_;simp only[pS];go_upto_region 1 with fail;refine Sg<|tK (pg r 0)<|tK (pg r 0)<|tK (pg r 0)<|lR (load_one (Src.pt _ HF.out.st) U203 rfl)<|rC _ _ HF (fun h=>capGot h (fun h=>p_Num h)) fun w1 HF=>tK (.int .i64 255)<|tK (.int .i64 256)<|rMn hcn<|rM cnt (laL (List.replicate cnt laZ)) HF (make_la _ _ (by omega)) fun g2 w3 HF=>?_;simp only[pS];refine tK (.slice (some ⟨g2,0,none⟩) cnt cnt)<|Nl ?_;simp only[pS];go_upto_region 2 with fail;refine Sg<|tK (.slice (some ⟨g2,0,none⟩) cnt cnt)<|tK (.int .i64 ((cnt:Nat):Int))<|tK (.int .i64 0)<|Nl ?_;simp only[pS];go_wp2
  go_loopw [20] (fun v20 wr=>∃ i:Nat,v20=.int .i64 ((i:Nat):Int)∧i≤cnt∧Hid (Kr (capSrc r g lb b) w wr (lasS i (Wi.nS st),odd) [(g2,94,(laL (lasL i (Wi.nS st)++List.replicate (cnt - i) laZ)).toArray)])) (fun v20 _=>cnt - (intOf v20).toNat)
  case atStart=>exact ⟨0,by go_num,by omega,HF⟩
  case round=>
    clear HF;obtain ⟨i,rfl,hi,HF⟩:=hrel
    by_cases hlt:i < cnt
    ·go_upto_region 3 with fail;refine Sg<|bN (lI (a:=((i:Nat):Int)) (b:=((cnt:Nat):Int)) (decide_eq_true (by omega)))<|Nl ?_;simp only[pS];go_upto_region 4 with fail;refine Sg<|tK (.int .i64 ((i:Nat):Int))<|tK (.int .i64 ((i:Nat):Int))<|Nl ?_;simp only[pS];go_upto_region 5 with fail;refine Sg<|tK (.slice (some ⟨g2,0,none⟩) cnt cnt)<|tK (.int .i64 ((i:Nat):Int))<|tK (.func (.func 196) #[] #[.pointer (some ⟨b,0,none⟩)])<|rC _ _ HF (fun h=>p_last h) fun w4 HF=>?_;simp only[pS];refine iS (s:=⟨some ⟨g2,0,none⟩,cnt,cnt⟩) (i:=i) rfl E41 F41 (by show _ < cnt;omega)<|rW (laL (lasL (i+1) (Wi.nS st)++List.replicate (cnt - (i+1)) laZ)) (La.cs (laV (lasS i (Wi.nS st)))) HF 0 (0+i*7) (v:=.agg (La.cells (laV (lasS i (Wi.nS st))))) rfl S94 (La.oneL _) (laL (lasL i (Wi.nS st)++List.replicate (cnt - i) laZ)) rfl (hl:=by rw [laL_len];simp only[List.length_append,lasL_len,List.length_replicate];show 0+i*7+7≤_;omega) (hn:=putLa i cnt (Wi.nS st) hlt) fun w5 HF=>?_;simp only[pS];refine Nl ?_;(try simp only[pS]);go_upto_region 6 with fail;refine Sg<|bN (v:=.int .i64 (((i+1):Nat):Int)) (b_addw ((i:Nat):Int) 1 (((i+1):Nat):Int) (by rw [IntKind.wrap_i64];omega))<|tK (.int .i64 (((i+1):Nat):Int))<|Nl ?_;simp only[pS];go_wp2;go_roundw
     case rel=>exact ⟨i+1,by go_num,by omega,HF⟩
     case measure=>simp [intOf];omega
    ·obtain rfl:i=cnt:=by omega
     rw [Nat.sub_self,List.replicate_zero,List.append_nil] at HF;go_upto_region 3 with fail;refine Sg<|bN (lI (a:=((i:Nat):Int)) (b:=((i:Nat):Int)) (decide_eq_false (by omega)))<|Nl ?_;simp only[pS];go_upto_region 7 with fail;refine Sg<|tK (.slice (some ⟨g2,0,none⟩) i i)<|tK (.slice (some ⟨g2,0,none⟩) i i)<|Nl ?_;simp only[pS];go_wp2;rw [HC.out,hcn2];exact ⟨g2,rfl,HF.out⟩
end
theorem exec_box1 {o:Oper} {a:Act} {w:World} (t:TypeId) (x:Operand) (ho:o.op=.box t x) (ad:Addr) (hx:a.eval x=.pointer (some ad)):(execOp a.eval o).run Tryz.prog w=.ok (.value (.pointer (some ⟨w.heap.size,0,none⟩))) (w.alloc (.cells #[.pointer (some ad)] t)):=by
  simp only[execOp,ho,hx,Instr.box,Sem.run_bind,Result.andThen_ok,newVar,newRow,run_newObj_alloc,Sem.run_pure];rfl
theorem Kr.join {K:Src} {w0 w w':World} {s s':Wi.RS × Bool} {l m:List (Nat × TypeId × Array Value)} (h:Kr K w0 w s l) (k:Kr K w w' s' m):Kr K w0 w' s' (l++m):=by
  have key:∀ (i:Nat) g T cs,(l++m)[i]?=some (g,T,cs)→l[i]?=some (g,T,cs)∨(l.length≤i∧m[i - l.length]?=some (g,T,cs)):=by
    intro i g T cs hi;rw [List.getElem?_append] at hi
    split at hi
    · exact .inl hi
    · exact .inr ⟨by omega,hi⟩
  have hm:∀ (i:Nat) g T cs,m[i]?=some (g,T,cs)→w.heap.size≤g:=fun i g T cs hi=>(k.fq.low i g T cs hi).elim id (fun e=>absurd (K.sub _ e) (k.out i g T cs hi));refine ⟨⟨h.fq.kept.then k.fq.kept,fun i g T cs hi=>?_,fun i g T cs hi=>?_,fun i j g T cs T' cs' hi hj=>?_⟩,k.st,fun i g T cs hi=>?_⟩
  · rcases key i g T cs hi with h1 | ⟨_,h1⟩
    · exact (h.fq.box i g T cs h1).kept k.fq.kept (fun e=>h.out i g T cs h1 (K.sub _ e))
    · exact k.fq.box _ g T cs h1
  · rcases key i g T cs hi with h1 | ⟨_,h1⟩
    · exact h.fq.low i g T cs h1
    · exact .inl (Nat.le_trans h.fq.kept.size (hm _ g T cs h1))
  · rcases key i g T cs hi with h1 | ⟨e1,h1⟩ <;> rcases key j g T' cs' hj with h2 | ⟨e2,h2⟩
    · exact h.fq.inj i j g T cs T' cs' h1 h2
    · have:=(h.fq.box i g T cs h1).lt;have:=hm _ g T' cs' h2;omega
    · have:=(h.fq.box j g T' cs' h2).lt;have:=hm _ g T cs h1;omega
    · have:=k.fq.inj _ _ g T cs T' cs' h1 h2;omega
  · rcases key i g T cs hi with h1 | ⟨_,h1⟩
    · exact h.out i g T cs h1
    · exact k.out _ g T cs h1
theorem Kr.cap {r g lb b:Nat} {w0 w:World} {s:Wi.RS × Bool} {l:List (Nat × TypeId × Array Value)} (h:Kr (rdSrc r g lb) w0 w s ((b,202,#[.pointer (some ⟨r,0,none⟩)]) :: l)):Kr (capSrc r g lb b) w0 w s l:=by
  have ho:=h.out 0 b _ _ rfl;refine ⟨⟨h.fq.kept,fun i g T cs hi=>h.fq.box (i+1) g T cs (by simpa using hi),fun i g T cs hi=>h.fq.low (i+1) g T cs (by simpa using hi),fun i j g T cs T' cs' hi hj=>Nat.succ.inj (h.fq.inj (i+1) (j+1) g T cs T' cs' (by simpa using hi) (by simpa using hj))⟩,
    ⟨h.st,h.fq.box 0 b _ _ rfl,fun e=>ho (.inl e),fun e=>ho (.inr (.inl e))⟩,fun i g' T cs hi e=>?_⟩
  have h1:=h.out (i+1) g' T cs (by simpa using hi)
  rcases e with e | e | e | e
  · exact h1 (.inl e)
  · exact h1 (.inr (.inl e))
  · exact h1 (.inr (.inr e))
  · subst e
    have:=h.fq.inj 0 (i+1) _ _ _ _ _ rfl (by simpa using hi);omega
theorem Kr.uncap {r g lb b:Nat} {w0 w:World} {s:Wi.RS × Bool} {x:Nat × TypeId × Array Value} {l:List (Nat × TypeId × Array Value)} (h:Kr (capSrc r g lb b) w0 w s (x :: l)):Kr (rdSrc r g lb) w0 w s l:=by
  refine ⟨⟨h.fq.kept,fun i g T cs hi=>h.fq.box (i+1) g T cs (by simpa using hi),fun i g T cs hi=>h.fq.low (i+1) g T cs (by simpa using hi),fun i j g T cs T' cs' hi hj=>Nat.succ.inj (h.fq.inj (i+1) (j+1) g T cs T' cs' (by simpa using hi) (by simpa using hj))⟩,h.st.1,fun i g' T cs hi e=>?_⟩;have h1:=h.out (i+1) g' T cs (by simpa using hi)
  rcases e with e | e | e
  · exact h1 (.inl e)
  · exact h1 (.inr (.inl e))
  · exact h1 (.inr (.inr (.inl e)))
def BktO (K:Src) (w:World) (up:Int) (es:List En) (ls:List La) (s':Wi.RS × Bool) (e:Ending) (w':World):Prop:=∃ ge gl,e=.returned (.agg (Bv.cells ⟨up,⟨some ⟨ge,0,none⟩,es.length,es.length⟩,⟨some ⟨gl,0,none⟩,ls.length,ls.length⟩⟩))∧Kr K w w' s' [(ge,92,(enL es).toArray),(gl,94,(laL ls).toArray)]
section
variable {ops:Array Oper} {rest:List Oper} {o:Oper} {a:Act} {w:World} {Q:Exit→Act→World→Prop} {K:Src} {w0:World} {s s':Wi.RS × Bool} {l:List (Nat × TypeId × Array Value)}
theorem rB1 {t:TypeId} (ad:Addr) (HF:Hid (Kr K w0 w s l)) (h:∀ g w',Hid (Kr K w0 w' s (l++[(g,t,#[.pointer (some ad)])]))→WL ops Q rest (a.put o.dst (.pointer (some ⟨g,0,none⟩))) w') {x:Operand}
    (ho:o.op=.box t x:=by rfl) (hx:a.eval x=.pointer (some ad):=by kernel_rfl) (hw:Region.wanted o (yielded ops a.tmps)=true:=by kernel_rfl):WL ops Q (o :: rest) a w:=
  wp_runW _ _ (exec_box1 t x ho ad hx) hw (h _ _ (HF.out.alloc t _))
end
section
variable {ops:Array Oper} {a:Act} {w:World} {Q:Exit→Act→World→Prop} {md:Region.Mode} {K:Src} {w0:World} {s s':Wi.RS × Bool} {lA lB:List (Nat × TypeId × Array Value)} {fuel:Nat} {listed:Array Bool}
theorem qL (i d:Nat) {T:TypeId} {cs:List Value} {n:Nat} {f:FuncId} {args:Array Value} (HG:Hid (Kr K w0 w s (lA++lB))) (hc:K.St w s→Calls Tryz.prog f args w (ListO K w T cs n s'))
    (h:∀ g w',Hid (Kr K w0 w' s' (lA++(lB++[(g,T,cs.toArray)])))→wpAnyH Tryz.prog md ops Q (fun w'=>Hid (Ex K w0 lA w')) fuel (listed.setIfInBounds i true) (a.put (some d) (.slice (some ⟨g,0,none⟩) n n)) w')
    (hi:ops[i]?=some (opA ops i):=by kernel_rfl) (hd:(opA ops i).dst=some d:=by kernel_rfl) (hr:Region.ready md ops listed=[i]:=by kernel_rfl) (hrun:(execOp a.eval (opA ops i)).run Tryz.prog w=.ok (.enter f args) w:=by kernel_rfl) (hw:Region.wanted (opA ops i) (yielded ops a.tmps)=true:=by kernel_rfl):wpAnyH Tryz.prog md ops Q (fun w'=>Hid (Ex K w0 lA w')) (fuel+1) listed a w:=
  any_call hi hr hw f args hrun _ (hc HG.out.st) (by
    rintro e w' ⟨g,rfl,hk⟩;have HJ:=HG.out.join hk;rw [List.append_assoc] at HJ;exact ⟨_,rfl,⟨s',HJ.front⟩,fun _=>by rw [hd];exact h g w' HJ⟩)
end
def bkE (st:Wi.RS):Nat:=cntK (Wi.nV (Wi.nS st)) 257
def bk2 (st:Wi.RS):Wi.RS:=ensS (bkE st) (Wi.nS (Wi.nS st))
def bkL (st:Wi.RS):Nat:=cntK (Wi.nV (bk2 st)) 256
def bkS (st:Wi.RS):Wi.RS:=lasS (bkL st) (Wi.nS (bk2 st))
section
variable {r g lb b:Nat} {st:Wi.RS} {odd:Bool} {w:World}
theorem p_listE2 (h:(capSrc r g lb b).St w (Wi.nS st,odd)):Calls Tryz.prog 197 #[.pointer (some ⟨r,0,none⟩),.int .i64 256,.func (.func 193) #[] #[.pointer (some ⟨b,0,none⟩)]] w (ListO (capSrc r g lb b) w 92 (enL (ensL (bkE st) (Wi.nS (Wi.nS st)))) (bkE st) (bk2 st,odd)):=p_listE h
theorem p_listL2 (h:(capSrc r g lb b).St w (bk2 st,odd)):Calls Tryz.prog 198 #[.pointer (some ⟨r,0,none⟩),.int .i64 255,.func (.func 196) #[] #[.pointer (some ⟨b,0,none⟩)]] w (ListO (capSrc r g lb b) w 94 (laL (lasL (bkL st) (Wi.nS (bk2 st)))) (bkL st) (bkS st,odd)):=p_listL h
end
section
variable {r g lb:Nat} {st:Wi.RS} {odd:Bool} {w:World}
set_option maxRecDepth 100000 in
set_option maxHeartbeats 4000000 in
theorem p_rbkt (h:(rdSrc r g lb).St w (st,odd)):Calls Tryz.prog 155 #[.pointer (some ⟨r,0,none⟩)] w (BktO (rdSrc r g lb) w (Wi.nV st) (ensL (bkE st) (Wi.nS (Wi.nS st))) (lasL (bkL st) (Wi.nS (bk2 st))) (bkS st,odd)):=by
  refine hidC fun C HC=>?_;have HF:Hid (Kr (rdSrc r g lb) w w (st,odd) []):=Kr.start h;clear h;go_enter Tryz.func155,Tryz.ntmps155;go_upto_region 0 with fail;refine Sg<|rB1 ⟨r,0,none⟩ HF fun b w1 HF=>?_;(try simp only[pS]);refine rA (Bv.cells bvZ) Z43 HF fun g2 w3 HF=>?_;simp only[pS];have HF:Hid (Kr (capSrc r g lb b) w w3 (st,odd) [(g2,43,Bv.cells bvZ)]):=Kr.cap HF.out;refine Nl ?_;(try simp only[pS]);go_upto_region 1 with fail;refine Sg<|tK (.func (.func 193) #[] #[.pointer (some ⟨b,0,none⟩)])<|tK (.func (.func 193) #[] #[.pointer (some ⟨b,0,none⟩)])<|Nl ?_;simp only[pS];go_upto_region 2 with fail;refine Sg<|tK (.func (.func 196) #[] #[.pointer (some ⟨b,0,none⟩)])<|tK (.func (.func 196) #[] #[.pointer (some ⟨b,0,none⟩)])<|Nl ?_;simp only[pS];go_upto_region 3 with fail;refine wp_region_held_drew (S:=fun w'=>Hid (Ex (capSrc r g lb b) w [] w')) rfl (qN (lA:=[]) (lB:=[(g2,43,Bv.cells bvZ)]) HF) (fun _=>?_);have HG:Hid (Kr (capSrc r g lb b) w w3.drew (st,odd) ([]++[(g2,43,Bv.cells bvZ)])):=HF.out.no (Kept.refl No _).drew;clear HF;generalize w3.drew=w4 at HG ⊢;refine qT 0 7 HG (zC U202)<|qK 1 8 HG (.pointer (some ⟨r,0,none⟩))<|qK 2 9 HG (.pointer (some ⟨r,0,none⟩))<|qT 3 10 HG (zQ U203)<|qT 5 12 HG (zC U202)<|qK 6 13 HG (.func (.func 193) #[] #[.pointer (some ⟨b,0,none⟩)])<|qT 8 15 HG (zC U202)<|qK 9 16 HG (.func (.func 196) #[] #[.pointer (some ⟨b,0,none⟩)])<|?_;(try simp only[pS]);refine qC 4 11 _ _ HG (fun h=>capGot h (fun h=>p_Num h)) fun w5 HG=>?_;(try simp only[pS]);refine qL 7 14 HG (fun h=>p_listE2 (st:=st) h) fun g6 w7 HG=>?_;(try simp only[pS]);refine qL 10 17 HG (fun h=>p_listL2 (st:=st) h) fun g8 w9 HG=>?_;(try simp only[pS]);refine qT 11 18 HG (v:=.agg (Bv.cells (⟨(Wi.nV st),⟨(some ⟨g6,0,none⟩),(bkE st),(bkE st)⟩,⟨(some ⟨g8,0,none⟩),(bkL st),(bkL st)⟩⟩))) (zBd 43 (Bv.cells (⟨(Wi.nV st),⟨(some ⟨g6,0,none⟩),(bkE st),(bkE st)⟩,⟨(some ⟨g8,0,none⟩),(bkL st),(bkL st)⟩⟩)))<|?_;(try simp only[pS]);refine qW 12 [] [(g2,43,Bv.cells bvZ),(g6,92,(enL (ensL (bkE st) (Wi.nS (Wi.nS st)))).toArray),(g8,94,(laL (lasL (bkL st) (Wi.nS (bk2 st)))).toArray)] HG 0 0 (Bv.cs bvZ) (Bv.cs (⟨(Wi.nV st),⟨(some ⟨g6,0,none⟩),(bkE st),(bkE st)⟩,⟨(some ⟨g8,0,none⟩),(bkL st),(bkL st)⟩⟩)) (Bv.cs (⟨(Wi.nV st),⟨(some ⟨g6,0,none⟩),(bkE st),(bkE st)⟩,⟨(some ⟨g8,0,none⟩),(bkL st),(bkL st)⟩⟩)) rfl (v:=.agg (Bv.cells (⟨(Wi.nV st),⟨(some ⟨g6,0,none⟩),(bkE st),(bkE st)⟩,⟨(some ⟨g8,0,none⟩),(bkL st),(bkL st)⟩⟩))) rfl S43 (Bv.oneL _) fun w10 HG=>?_;(try simp only[pS]);refine wpAnyH_done (by kernel_rfl) ?_ _;(try simp only[pS]);have HF:Hid (Kr (capSrc r g lb b) w w10 (bkS st,odd) [(g2,43,Bv.cells (⟨(Wi.nV st),⟨(some ⟨g6,0,none⟩),(bkE st),(bkE st)⟩,⟨(some ⟨g8,0,none⟩),(bkL st),(bkL st)⟩⟩)),(g6,92,(enL (ensL (bkE st) (Wi.nS (Wi.nS st)))).toArray),(g8,94,(laL (lasL (bkL st) (Wi.nS (bk2 st)))).toArray)]):=HG;clear HG;go_wp2;rw [HC.out];refine bodyPost_ret (results_row1 (by rfl) _ _ g2 (Bv.cells (⟨(Wi.nV st),⟨(some ⟨g6,0,none⟩),(bkE st),(bkE st)⟩,⟨(some ⟨g8,0,none⟩),(bkL st),(bkL st)⟩⟩)) (by rfl) (run_load_part (cs:=Bv.cs (⟨(Wi.nV st),⟨(some ⟨g6,0,none⟩),(bkE st),(bkE st)⟩,⟨(some ⟨g8,0,none⟩),(bkL st),(bkL st)⟩⟩)) (sub:=Bv.cs (⟨(Wi.nV st),⟨(some ⟨g6,0,none⟩),(bkE st),(bkE st)⟩,⟨(some ⟨g8,0,none⟩),(bkL st),(bkL st)⟩⟩)) (HF.out.fq.box 0 _ _ _ rfl) (Part.all _) U43 rfl S43)) rfl ?_;refine ⟨g6,g8,?_,HF.out.uncap⟩;rw [ensL_len,lasL_len]
end
theorem own_lt {t:TypeId} {c:Nat} {w:World} {base:Nat} {a:Option Addr} {cap n:Nat} {vs:List Value} (h:Own t c w base a cap n vs) {k:Nat} (hk:At a k):k < w.heap.size:=by
  obtain ⟨cur,e⟩:=own_typ h hk
  exact (Array.getElem?_eq_some_iff.1 e).1
def lsSrc (K:Src) (E:TypeId) (c base:Nat) (a:Option Addr) (n cap:Nat) (vs:List Value):Src where
  pb:=K.pb
  pg:=K.pg
  In:=fun k=>K.In k∨At a k
  Wr:=K.Wr
  sub:=fun k e=>.inl (K.sub k e)
  St:=fun w s=>K.St w s∧Own E c w base a cap n vs∧(∀ k,At a k→¬ K.In k)
  lt:=fun h k e=>e.elim (K.lt h.1 k) (fun e=>own_lt h.2.1 e)
  far:=fun {w w' s S} h hk hS=>⟨K.far h.1 hk (fun k e e2=>hS k e (.inl e2)),h.2.1.kept hk (fun k e2 e=>hS k e (.inr e2)),h.2.2⟩
  pt:=fun h=>K.pt h.1
section
variable {K:Src} {E:TypeId} {c base:Nat} {a:Option Addr} {n cap:Nat} {vs:List Value} {s s':Wi.RS × Bool} {w:World}
theorem Kr.ls {w0:World} {l:List (Nat × TypeId × Array Value)} (E:TypeId) (c base:Nat) (h:Kr K w0 w s l):Kr (lsSrc K E c base none 0 0 []) w0 w s l:=
  ⟨h.fq,⟨h.st,Own.nil _ _ _ _,fun k e=>absurd e At.none⟩,fun i g T cs hi e=>e.elim (h.out i g T cs hi) At.none⟩
end
section
variable {ops:Array Oper} {rest:List Oper} {o o2:Oper} {a:Act} {w:World} {Q:Exit→Act→World→Prop} {K:Src} {w0:World} {s:Wi.RS × Bool} {l:List (Nat × TypeId × Array Value)}
end
def room (st:Wi.RS) (n:Nat):Prop:=∀ zs a,st=.ok zs a→zs.length≤n
theorem took_len {st st':Wi.RS} {L:List It} (hu:uR st) (h:Took st L st') {n:Nat} (hr:room st n):room st' (n - (encB L).length)∧∀ zs a,st'=.ok zs a→(encB L).length≤n:=by
  obtain ⟨_,k⟩:=h hu
  refine ⟨fun zs a e=>?_,fun zs a e=>?_⟩ <;>
  · obtain ⟨z0,a0,e0,hz⟩:=k zs a e
    have:=hr z0 a0 e0
    rw [hz,List.length_append] at this
    omega
theorem ens_u {st:Wi.RS} (hu:uR st):∀ i,uR (ensS i st)
  | 0=>hu
  | i+1=>((took_en (ensS i st)) (ens_u hu i)).1
theorem las_u {st:Wi.RS} (hu:uR st):∀ i,uR (lasS i st)
  | 0=>hu
  | i+1=>((took_la (lasS i st)) (las_u hu i)).1
theorem err_ok {st:Wi.RS} (hu:uR st) (h:((Wi.errS st).2==0)=true):∃ zs a,st=.ok zs a:=by
  cases st with
  | ok zs a=>exact ⟨zs,a,rfl⟩
  | bad p c=>have hu:c≠0:=hu;exact absurd (eq_of_beq h) hu
def rkS (st:Wi.RS) (i j:Nat):Wi.RS:=lasS j (Wi.nS (ensS i (Wi.nS (Wi.nS st))))
def rkE (st:Wi.RS) (i:Nat):List En:=ensL i (Wi.nS (Wi.nS st))
def rkL (st:Wi.RS) (i j:Nat):List La:=lasL j (Wi.nS (ensS i (Wi.nS (Wi.nS st))))
theorem fl_congr {f g:Nat→List It}:∀ {n:Nat},(∀ k,k < n→f k=g k)→fl f n=fl g n
  | 0,_=>by rw [fl0,fl0]
  | n+1,h=>by rw [fl_succ,fl_succ,fl_congr (fun k hk=>h k (by omega)),h n (by omega)]
theorem took_ens (st:Wi.RS):∀ n,Took st (fl (fun k=>entIts (enV (ensS k st))) n) (ensS n st)
  | 0=>by rw [fl0];exact Took.nil st
  | n+1=>by rw [fl_succ];exact (took_ens st n).trans (took_en _)
theorem took_las (st:Wi.RS):∀ n,Took st (fl (fun k=>lasIts (laV (lasS k st))) n) (lasS n st)
  | 0=>by rw [fl0];exact Took.nil st
  | n+1=>by rw [fl_succ];exact (took_las st n).trans (took_la _)
theorem ensL_at {n k:Nat} (st:Wi.RS) (h:k < n):eAt (ensL n st) k=enV (ensS k st):=by
  unfold eAt ensL;rw [List.getElem?_map,List.getElem?_range h];rfl
theorem lasL_at {n k:Nat} (st:Wi.RS) (h:k < n):lAt (lasL n st) k=laV (lasS k st):=by
  unfold lAt lasL;rw [List.getElem?_map,List.getElem?_range h];rfl
def okB (st:Wi.RS):Prop:=∃ zs a,st=.ok zs a
theorem took_back {st st':Wi.RS} {L:List It} (h:Took st L st') (hu:uR st) (ho:okB st'):okB st:=by
  obtain ⟨zs,a,e⟩:=ho
  obtain ⟨z0,a0,e0,_⟩:=(h hu).2 zs a e
  exact ⟨z0,a0,e0⟩
theorem ens_back {st:Wi.RS} (hu:uR st) {i:Nat}:∀ {n:Nat},i≤n→okB (ensS n st)→okB (ensS i st)
  | 0,h,ho=>by rw [show i=0 by omega];exact ho
  | n+1,h,ho=>by
    by_cases e:i=n+1
    · rw [e];exact ho
    · exact ens_back hu (n:=n) (by omega) (took_back (took_en _) (ens_u hu n) ho)
theorem las_back {st:Wi.RS} (hu:uR st) {i:Nat}:∀ {n:Nat},i≤n→okB (lasS n st)→okB (lasS i st)
  | 0,h,ho=>by rw [show i=0 by omega];exact ho
  | n+1,h,ho=>by
    by_cases e:i=n+1
    · rw [e];exact ho
    · exact las_back hu (n:=n) (by omega) (took_back (took_la _) (las_u hu n) ho)
theorem ok_err {st:Wi.RS} (h:okB st):((Wi.errS st).2==0)=true:=by
  obtain ⟨zs,a,rfl⟩:=h;rfl
theorem bkt_bd {B rm:Int} {x:Bv} {es:List En} {ls:List La} (hr:rm≤256) (he:es.length=x.e.l) (hl:ls.length=x.l.l) (h:bktP B rm x es ls=true):x.e.l≤256∧x.l.l≤255:=by
  unfold bktP at h
  cases e1:(x.up==0)
  · rw [e1] at h
    simp only[bsq] at h
    rw [Bool.and_eq_true,Bool.and_eq_true] at h
    have h2:=h.2.1
    unfold entsP at h2
    rw [Bool.and_eq_true] at h2
    have h3:¬ rm < ((es.length:Nat):Int):=by simpa using h2.1
    have h4:=rng_all h.2.2
    have h5:=las_cnt h4
    omega
  · rw [e1] at h
    simp only[bsq] at h
    unfold empK at h
    rw [Bool.and_eq_true,Bool.and_eq_true] at h
    have h2:=eq_of_beq h.2.1
    have h3:=eq_of_beq h.2.2
    omega
theorem RdE.nilS (w:World):RdE w slZ []:=⟨RowsAt.nil _ _ _,rfl,fun _=>rfl⟩
theorem RdL.nilS (w:World):RdL w slZ []:=⟨RowsAt.nil _ _ _,rfl,fun _=>rfl⟩
theorem RdE.ofBox {w:World} {g n k:Nat} {es:List En} (hb:Box w g 92 (enL es).toArray) (hl:es.length=n):RdE w ⟨some ⟨g,0,none⟩,n,k⟩ es:=by
  refine ⟨?_,hl,fun e=>by cases e⟩
  intro i it hi
  refine ⟨g,0,rfl,fun j v hv=>?_⟩
  have h1:=flat_get 4 _ (enL_c es) i it hi j v hv
  rw [Nat.zero_add,hb.cell,List.getElem?_toArray]
  exact h1
theorem RdL.ofBox {w:World} {g n k:Nat} {es:List La} (hb:Box w g 94 (laL es).toArray) (hl:es.length=n):RdL w ⟨some ⟨g,0,none⟩,n,k⟩ es:=by
  refine ⟨?_,hl,fun e=>by cases e⟩
  intro i it hi
  refine ⟨g,0,rfl,fun j v hv=>?_⟩
  have h1:=flat_get 7 _ (laL_c es) i it hi j v hv
  rw [Nat.zero_add,hb.cell,List.getElem?_toArray]
  exact h1
theorem kr_fresh {K:Src} {w w':World} {s:Wi.RS × Bool} {m:List (Nat × TypeId × Array Value)} (k:Kr K w w' s m) {i g:Nat} {T:TypeId} {cs:Array Value} (h:m[i]?=some (g,T,cs)):w.heap.size≤g:=(k.fq.low i g T cs h).elim id (fun e=>absurd (K.sub _ e) (k.out i g T cs h))
theorem Kr.bkt {K:Src} {w0 w w':World} {s s':Wi.RS × Bool} {l:List (Nat × TypeId × Array Value)} {a1 a3:Option Addr} {m c1 q c3:Nat} {vs us:List Value} (h:Kr K w0 w s l) (hS:K.St w' s') (hk:Kept K.Wr w w')
    (hoE:Own 92 4 w' w.heap.size a1 c1 m vs) (hoL:Own 94 7 w' w.heap.size a3 c3 q us):Kr (lsSrc (lsSrc K 92 4 w.heap.size a1 m c1 vs) 94 7 w.heap.size a3 q c3 us) w0 w' s' l:=by
  have H:=h.call (v:=undef) ⟨rfl,hS,hk⟩
  refine ⟨H.fq,⟨⟨hS,hoE,fun k e e2=>?_⟩,hoL,fun k e e2=>?_⟩,fun i g T cs hi e=>?_⟩
  · have:=hoE.base e;have:=K.lt h.st k e2;omega
  · rcases e2 with e2 | e2
    · have:=hoL.base e;have:=K.lt h.st k e2;omega
    · obtain ⟨x,hx⟩:=own_typ hoE e2
      obtain ⟨y,hy⟩:=own_typ hoL e
      have:=cells_ty hx hy
      cases this
  · have hlt:=(h.fq.box i g T cs hi).lt
    rcases e with (e | e) | e
    · exact H.out i g T cs hi e
    · have:=hoE.base e;omega
    · have:=hoL.base e;omega
theorem room_of {ys:List Int} (h8:Wi.U8 ys) (ho:((Wi.openOf ys).2==0)=true):room (.ok (Wi.openOf ys).1 0) 131072:=fun zs a e=>by
  injection e with e1 _
  rw [← e1];exact (open_form h8 (eq_of_beq ho)).2
structure RdS (w:World) (x:Sl) (ss:List Sl):Prop where
  row:RowsAt 1 w x.a (ss.map (fun s=>[s.v]))
  len:ss.length=x.l
def sAt (ss:List Sl) (i:Nat):Sl:=ss[i]?.getD slZ
theorem RdS.at' {w:World} {s:Sl} {es:List Sl} (h:RdS w s es) {i:Nat} (hi:i < s.l):∃ b off,s.v=.slice (some ⟨b,off,none⟩) s.l s.k∧∀ (j:Nat) v,[(sAt es i).v][j]?=some v→w.cell? ⟨b,off+i*1+j,none⟩=some v:=by
  obtain ⟨b,off,ha,hc⟩:=h.row i [(sAt es i).v] (by rw [List.getElem?_map,show es[i]?=some (sAt es i) by simp [sAt,List.getElem?_eq_getElem (show i < es.length by rw [h.len];exact hi)]];rfl)
  exact ⟨b,off,by unfold Sl.v;rw [ha],hc⟩
theorem E66:Tryz.prog.underlying 66=some (.slice (Tryz.prog.elem 66)):=by kernel_rfl
theorem F66:(Tryz.prog.info? (Tryz.prog.elem 66)).map (·.size)=some 1:=by kernel_rfl
def SealO (w:World) (zs:List Int) (e:Ending) (w':World):Prop:=∃ s:Sl,e=.returned s.v∧Wi.Sl w' s.a s.l s.k zs∧Kept No w w'
section
variable {ops:Array Oper} {a:Act} {w:World} {Q:Exit→Act→World→Prop} {md:Region.Mode} {S:Nat→Prop} {w0:World} {l:List (Nat × TypeId × Array Value)} {fuel:Nat} {listed:Array Bool}
end
open Go.ChangeShapes Go.WideShapes Go.ChangeAt Go.RowKit
open Go.ChangeMaps (open_string shut_string)
instance:Inhabited Sl:=⟨slZ⟩
theorem U66:Tryz.prog.underlying 66=some (.slice 35):=by kernel_rfl
theorem slice_ok {H:Type} {enc:TypeId × Value→H} {W:World} {fuel:Nat} {v:Value} {x:DataW H × List MemPlace}
    (hf:DataW.trod enc Tryz.prog W 0 (fun _=>true) true fuel 35 [v]=some x) (hs:∀ n∈x.1.weights Tryz.prog 35,n≤reachBytes) :
    ∃ (s:Sl) (xs:List Int),v=s.v∧Wi.Sl W s.a s.l s.k xs:=by
  rcases Go.Deep.open_slice Tryz.und26 hf with ⟨hcs,_⟩ | ⟨ad,l,cp,m,n,D,PP,hcs,hq,hl,hm,hmm,hx,hel⟩
  · simp at hcs
    exact ⟨slZ,[],hcs,⟨rfl,fun i hi=>absurd hi (Nat.not_lt_zero _),Wi.U8.nil,Nat.le_refl _,by show 0≤_;omega,Nat.zero_le _,fun _=>rfl⟩⟩
  · simp at hcs
    simp only[if_true] at hmm
    subst hmm
    have hb2:m≤140737488351232:=by
      have h1:=hs _ (by rw [hx];simp only[DataW.weights,Tryz.und26];exact List.mem_cons_self ..)
      rw [Tryz.bytes5] at h1
      simp [reachBytes] at h1
      omega
    have hb:l≤140737488351232:=by
      have h1:=hs _ (by rw [hx];simp only[DataW.weights,Tryz.und26];exact List.mem_cons_self ..)
      rw [Tryz.bytes5] at h1
      simp [reachBytes] at h1
      omega
    rw [Tryz.cells5] at hel
    have key:∀ i,i < l→∃ z:Int,W.cells? 0 (ad.add (i*1)) 1=some [.int .u8 z]∧0≤z∧z≤255:=by
      intro i hi
      obtain ⟨cs',hc,htr⟩:=hel i (by omega)
      obtain ⟨z,e,_,wz⟩:=DataW.trod_int Tryz.und5 htr
      subst e
      exact ⟨z,hc,wu_lo wz,wu_hi wz⟩
    obtain ⟨f,hfm⟩:=Go.Deep.choose_lt key
    refine ⟨⟨some ad,l,m⟩,(List.range l).map f,hcs,⟨by simp,?_,u8_map hfm,(by show l≤m;omega),(by show m≤_;omega),hb,fun e=>by cases e⟩⟩
    intro i hi0
    have hi:i < l:=by simpa using hi0
    have hc:=(hfm i hi).1
    have hcs:=(World.cells?_some hc).2.2 0 (by omega)
    obtain ⟨b,off,spot⟩:=ad
    have h00':[Value.int .u8 (f i)][0]?=some (.int .u8 (f i)):=rfl
    rw [h00'] at hcs
    have hspot:spot=none:=by
      have h0:=(World.cells?_some (hfm 0 (by omega)).1).2.2 0 (by omega)
      have h00:[Value.int .u8 (f 0)][0]?=some (.int .u8 (f 0)):=rfl
      rw [h00] at h0
      have:=World.cell?_spot h0
      simpa [Addr.add] using this
    subst hspot
    refine ⟨b,off,rfl,?_⟩
    rw [Go.Deep.add_add,addr_add] at hcs
    rw [show off+i=off+(i*1+0) by omega]
    simpa [hi] using hcs
theorem one_cell {H:Type} {enc:TypeId × Value→H} {W:World} {fuel:Nat} {l:List Value} {x:DataW H × List MemPlace} (h:DataW.trod enc Tryz.prog W 0 (fun _=>true) true fuel 35 l=some x):∃ v,l=[v]:=by
  rcases Go.Deep.open_slice Tryz.und26 h with ⟨hcs,_⟩ | ⟨ad,l2,cp,m,n,D,PP,hcs,_⟩
  · exact ⟨_,hcs⟩
  · exact ⟨_,hcs⟩
set_option maxRecDepth 100000 in
theorem opened_ss (H:Type) (enc:TypeId × Value→H) (W:World) (a0:Option Addr) (len0 cap0:Nat) (d0:DataW H) (p0:List MemPlace)
    (h0:DataW.Trod enc Tryz.prog W 0 (fun _=>true) true 66 (.slice a0 len0 cap0) d0 p0) {ts:List TypeId} {ds:List (DataW H)} (hsz:(DataW.weightsEach Tryz.prog ts ds).all (·≤reachBytes)=true) {j:Nat} (ht:ts[j]?=some 66) (hd:ds[j]?=some d0) :
    ∃ xs:List Sl,RdS W ⟨a0,len0,cap0⟩ xs∧(∀ i,i < len0→∃ ys,Wi.Sl W (sAt xs i).a (sAt xs i).l (sAt xs i).k ys)∧len0≤281474976710656:=by
  obtain ⟨fuel,hf⟩:=h0
  have hf':DataW.trod enc Tryz.prog W 0 (fun _=>true) true fuel 66 [.slice a0 len0 cap0]=some (d0,p0):=hf
  obtain ⟨s,xs,hv,h1,h2,h3,h4⟩:=rows_ok (fun s:Sl=>[s.v]) 1 24 66 35 U66 (by kernel_rfl) (by kernel_rfl) (by omega) (fun _=>rfl) (fun x=>∃ ys,Wi.Sl W x.a x.l x.k ys)
    (fun fuel l x h hs=>by
      obtain ⟨v,rfl⟩:∃ v,l=[v]:=one_cell h
      obtain ⟨s,ys,rfl,hm⟩:=slice_ok h hs
      exact ⟨s,rfl,ys,hm⟩) hf' (fun n hn=>by
      have:=List.all_eq_true.1 hsz _ (DataW.weights_mem_each ht hd n hn)
      simpa using this)
  obtain ⟨sa,sn,sk⟩:=s
  simp only[Sl.v,Value.slice.injEq] at hv
  obtain ⟨rfl,rfl,rfl⟩:=hv
  exact ⟨xs,⟨h1,h2⟩,h3,by simp only at h4;omega⟩
set_option maxRecDepth 100000 in
theorem opened_msB (H:Type) (enc:TypeId × Value→H) (W:World) (a0:Option Addr) (len0 cap0:Nat) (d0:DataW H) (p0:List MemPlace)
    (h0:DataW.Trod enc Tryz.prog W 0 (fun _=>true) true 25 (.slice a0 len0 cap0) d0 p0) {ts:List TypeId} {ds:List (DataW H)} (hsz:(DataW.weightsEach Tryz.prog ts ds).all (·≤reachBytes)=true) {j:Nat} (ht:ts[j]?=some 25) (hd:ds[j]?=some d0) :
    ∃ ms:List Mg,RdM W ⟨a0,len0,cap0⟩ ms∧(∀ i,i < len0→∃ bs es ls cs,MgIn W (gAt ms i) bs es ls cs)∧len0*312≤140737488351232:=by
  obtain ⟨fuel,hf⟩:=h0
  have hf':DataW.trod enc Tryz.prog W 0 (fun _=>true) true fuel 25 [.slice a0 len0 cap0]=some (d0,p0):=hf
  obtain ⟨s,xs,hv,h1,h2,h3,h4⟩:=rows_ok Mg.cs 30 312 25 45 U25 (by kernel_rfl) (by kernel_rfl) (by omega) (fun _=>rfl) (fun m=>∃ bs es ls cs,MgIn W m bs es ls cs)
    (fun fuel l x h hs=>by obtain ⟨m,bs,es,ls,cs,e,hm,_⟩:=msg_ok h hs;exact ⟨m,e,bs,es,ls,cs,hm⟩) hf' (fun n hn=>by
      have:=List.all_eq_true.1 hsz _ (DataW.weights_mem_each ht hd n hn)
      simpa using this)
  obtain ⟨sa,sn,sk⟩:=s
  simp only[Sl.v,Value.slice.injEq] at hv
  obtain ⟨rfl,rfl,rfl⟩:=hv
  exact ⟨xs,⟨h1,h2⟩,h3,h4⟩
def adV (st:Wi.RS):Ad:=⟨Wi.fV st,Wi.nV (Wi.nS st)⟩
def kyV (st:Wi.RS):Ky:=⟨Wi.nV st,Wi.nV (Wi.nS st),Wi.nV (Wi.nS (Wi.nS st)),Wi.nV (Wi.nS (Wi.nS (Wi.nS st)))⟩
def kyS (st:Wi.RS):Wi.RS:=Wi.nS (Wi.nS (Wi.nS (Wi.nS st)))
theorem took_ky (st:Wi.RS):Took st [It.n (kyV st).k,It.n (kyV st).a,It.n (kyV st).b,It.n (kyV st).c] (kyS st):=(took_n st).trans<|(took_n _).trans<|(took_n _).trans (took_n _)
section
variable {r g lb:Nat} {st:Wi.RS} {odd:Bool} {w:World}
end
section
variable {i g:Nat} {ba:Option Addr} {bc:Nat} {bs:List Int} {st:Wi.RS} {w:World}
end
structure Pm where
  k:Int
  fr:Ad
  too:Ad
  op:Int
  rd:Int
  ky:Ky
  st:Sp
  hd:Sp
  bs:List Int
  c:Cm
  up:Int
  es:List En
  ls:List La
  cs:List Cm
  mo:Bool
def pmG (p:Pm) (x e l c:Sl):Mg:=⟨p.k,p.fr,p.too,p.op,p.rd,p.ky,p.st,p.hd,x,p.c,⟨p.up,e,l⟩,c,p.mo⟩
def nilL (n:Nat):Sl:=⟨none,n,0⟩
def pmM (p:Pm):Mg:=pmG p (nilL p.bs.length) (nilL p.es.length) (nilL p.ls.length) (nilL p.cs.length)
def pmP (B rm bu:Int) (zs:List Int) (p:Pm):Bool:=msgP B rm bu zs (pmM p) p.bs p.es p.ls p.cs
def pmI (p:Pm):List It:=msgIts (pmM p) p.bs p.es p.ls p.cs
theorem pmP_is (B rm bu:Int) (zs:List Int) (p:Pm) (x e l c:Sl) (hx:x.l=p.bs.length) (he:e.l=p.es.length) (hl:l.l=p.ls.length) (hc:c.l=p.cs.length):msgP B rm bu zs (pmG p x e l c) p.bs p.es p.ls p.cs=pmP B rm bu zs p:=by
  obtain ⟨xa,xl,xk⟩:=x
  obtain ⟨ea,el,ek⟩:=e
  obtain ⟨la,ll,lk⟩:=l
  obtain ⟨ca,cl,ck⟩:=c
  simp only at hx he hl hc
  subst hx he hl hc
  rfl
theorem pmI_is (p:Pm) (x e l c:Sl) (hx:x.l=p.bs.length) (he:e.l=p.es.length) (hl:l.l=p.ls.length) (hc:c.l=p.cs.length):msgIts (pmG p x e l c) p.bs p.es p.ls p.cs=pmI p:=by
  obtain ⟨xa,xl,xk⟩:=x
  obtain ⟨ea,el,ek⟩:=e
  obtain ⟨la,ll,lk⟩:=l
  obtain ⟨ca,cl,ck⟩:=c
  simp only at hx he hl hc
  subst hx he hl hc
  rfl
def cmsS:Nat→Wi.RS→Wi.RS
  | 0,st=>st
  | n+1,st=>cmS (cmsS n st)
def cmsL (n:Nat) (st:Wi.RS):List Cm:=(List.range n).map (fun i=>cmV (cmsS i st))
theorem cmsL_len (n:Nat) (st:Wi.RS):(cmsL n st).length=n:=by simp [cmsL]
theorem cmsL_succ (n:Nat) (st:Wi.RS):cmsL (n+1) st=cmsL n st++[cmV (cmsS n st)]:=by simp [cmsL,List.range_succ]
theorem cmsL_at {n k:Nat} (st:Wi.RS) (h:k < n):cAt (cmsL n st) k=cmV (cmsS k st):=by
  unfold cAt cmsL;rw [List.getElem?_map,List.getElem?_range h];rfl
theorem took_cms (st:Wi.RS):∀ n,Took st (fl (fun k=>cmdIts (cmV (cmsS k st))) n) (cmsS n st)
  | 0=>by rw [fl0];exact Took.nil st
  | n+1=>by rw [fl_succ];exact (took_cms st n).trans (took_cm _)
theorem cms_u {st:Wi.RS} (hu:uR st):∀ i,uR (cmsS i st)
  | 0=>hu
  | i+1=>((took_cm (cmsS i st)) (cms_u hu i)).1
theorem cms_back {st:Wi.RS} (hu:uR st) {i:Nat}:∀ {n:Nat},i≤n→okB (cmsS n st)→okB (cmsS i st)
  | 0,h,ho=>by rw [show i=0 by omega];exact ho
  | n+1,h,ho=>by
    by_cases e:i=n+1
    · rw [e];exact ho
    · exact cms_back hu (n:=n) (by omega) (took_back (took_cm _) (cms_u hu n) ho)
section
variable (bi bj bq:Wi.RS→Nat)
def fdP (f:Int) (p:Pm) (s:Wi.RS):Pm:=
  if f=0 then ⟨p.k,p.fr,p.too,p.op,p.rd,p.ky,stV s,p.hd,p.bs,p.c,p.up,p.es,p.ls,p.cs,p.mo⟩ else
  if f=1 then ⟨p.k,p.fr,p.too,p.op,p.rd,p.ky,p.st,stV s,p.bs,p.c,p.up,p.es,p.ls,p.cs,p.mo⟩ else
  if f=2 then ⟨p.k,p.fr,p.too,p.op,p.rd,p.ky,p.st,p.hd,tV s,p.c,p.up,p.es,p.ls,p.cs,p.mo⟩ else
  if f=3 then ⟨p.k,p.fr,p.too,p.op,p.rd,p.ky,p.st,p.hd,p.bs,cmV s,p.up,p.es,p.ls,p.cs,p.mo⟩ else
  if f=4 then ⟨p.k,p.fr,p.too,p.op,p.rd,p.ky,p.st,p.hd,p.bs,p.c,Wi.nV s,rkE s (bi s),rkL s (bi s) (bj s),p.cs,p.mo⟩ else
  if f=5 then ⟨p.k,p.fr,p.too,p.op,p.rd,p.ky,p.st,p.hd,p.bs,p.c,p.up,p.es,p.ls,cmsL (bq s) (Wi.nS s),p.mo⟩ else
  ⟨p.k,p.fr,p.too,p.op,p.rd,p.ky,p.st,p.hd,p.bs,p.c,p.up,p.es,p.ls,p.cs,Wi.fV s⟩
def fdS (f:Int) (s:Wi.RS):Wi.RS:=
  if f=0 then Wi.aS s else if f=1 then Wi.aS s else if f=2 then tS s else if f=3 then cmS s else if f=4 then rkS s (bi s) (bj s) else if f=5 then cmsS (bq s) (Wi.nS s) else Wi.nS s
def fdO (f:Int) (odd:Bool) (s:Wi.RS):Bool:=if f=6 then Wi.fO odd s else odd
def rkR (s:Wi.RS) (i j:Nat):List It:=((([It.n (Wi.nV s),It.n (Wi.nV (Wi.nS s))]++fl (fun k=>entIts (enV (ensS k (Wi.nS (Wi.nS s))))) i)++[It.n (Wi.nV (ensS i (Wi.nS (Wi.nS s))))])++fl (fun k=>lasIts (laV (lasS k (Wi.nS (ensS i (Wi.nS (Wi.nS s))))))) j)
def fdR (f:Int) (s:Wi.RS):List It:=
  if f=0 then [It.n (Wi.nV s),It.n (Wi.nV (Wi.nS s))] else if f=1 then [It.n (Wi.nV s),It.n (Wi.nV (Wi.nS s))] else if f=2 then [It.b (tV s)] else if f=3 then cmdIts (cmV s) else
  if f=4 then rkR s (bi s) (bj s) else if f=5 then [It.n (Wi.nV s)]++fl (fun k=>cmdIts (cmV (cmsS k (Wi.nS s)))) (bq s) else [It.n (Wi.nV s)]
theorem took_rk (s:Wi.RS) (i j:Nat):Took s (rkR s i j) (rkS s i j):=(((took_2 s).trans (took_ens _ i)).trans (took_n _)).trans (took_las _ j)
theorem took_fd (f:Int) (s:Wi.RS):Took s (fdR bi bj bq f s) (fdS bi bj bq f s):=by
  unfold fdR fdS
  by_cases h0:f=0
  · rw [if_pos h0,if_pos h0];exact took_2 s
  rw [if_neg h0,if_neg h0]
  by_cases h1:f=1
  · rw [if_pos h1,if_pos h1];exact took_2 s
  rw [if_neg h1,if_neg h1]
  by_cases h2:f=2
  · rw [if_pos h2,if_pos h2];exact took_t s
  rw [if_neg h2,if_neg h2]
  by_cases h3:f=3
  · rw [if_pos h3,if_pos h3];exact took_cm s
  rw [if_neg h3,if_neg h3]
  by_cases h4:f=4
  · rw [if_pos h4,if_pos h4];exact took_rk s _ _
  rw [if_neg h4,if_neg h4]
  by_cases h5:f=5
  · rw [if_pos h5,if_pos h5];exact (took_n s).trans (took_cms _ _)
  rw [if_neg h5,if_neg h5]
  exact took_n s
def fdsS:List Int→Wi.RS→Wi.RS
  | [],s=>s
  | f :: F,s=>fdsS F (fdS bi bj bq f s)
def fdsP:List Int→Pm→Wi.RS→Pm
  | [],p,_=>p
  | f :: F,p,s=>fdsP F (fdP bi bj bq f p s) (fdS bi bj bq f s)
def fdsO:List Int→Bool→Wi.RS→Bool
  | [],o,_=>o
  | f :: F,o,s=>fdsO F (fdO f o s) (fdS bi bj bq f s)
def fdsR:List Int→Wi.RS→List It
  | [],_=>[]
  | f :: F,s=>fdR bi bj bq f s++fdsR F (fdS bi bj bq f s)
theorem took_fds:∀ (F:List Int) (s:Wi.RS),Took s (fdsR bi bj bq F s) (fdsS bi bj bq F s)
  | [],s=>Took.nil s
  | f :: F,s=>(took_fd bi bj bq f s).trans (took_fds F _)
theorem fdsS_snoc (f:Int):∀ (F:List Int) (s:Wi.RS),fdsS bi bj bq (F++[f]) s=fdS bi bj bq f (fdsS bi bj bq F s)
  | [],s=>rfl
  | g :: F,s=>fdsS_snoc f F _
theorem fdsP_snoc (f:Int):∀ (F:List Int) (p:Pm) (s:Wi.RS),fdsP bi bj bq (F++[f]) p s=fdP bi bj bq f (fdsP bi bj bq F p s) (fdsS bi bj bq F s)
  | [],p,s=>rfl
  | g :: F,p,s=>fdsP_snoc f F _ _
theorem fdsO_snoc (f:Int):∀ (F:List Int) (o:Bool) (s:Wi.RS),fdsO bi bj bq (F++[f]) o s=fdO f (fdsO bi bj bq F o s) (fdsS bi bj bq F s)
  | [],o,s=>rfl
  | g :: F,o,s=>fdsO_snoc f F _ _
def hdP (st:Wi.RS):Pm:=⟨Wi.nV st,adV (Wi.t1 st),adV (Wi.t2 st),Wi.nV (Wi.t3 st),Wi.nV (Wi.t4 st),kyV (Wi.t5 st),spZ,spZ,[],cZ,0,[],[],[],false⟩
def mSt (st:Wi.RS):Wi.RS:=fdsS bi bj bq (fieldsK (Wi.nV st)) (Wi.t9 st)
def mPm (st:Wi.RS):Pm:=fdsP bi bj bq (fieldsK (Wi.nV st)) (hdP st) (Wi.t9 st)
def mOd (st:Wi.RS):Bool:=fdsO bi bj bq (fieldsK (Wi.nV st)) (Wi.o2 false st) (Wi.t9 st)
def mRw (st:Wi.RS):List It:=fdsR bi bj bq (fieldsK (Wi.nV st)) (Wi.t9 st)
end
def hdR (st:Wi.RS):List It:=[It.n (Wi.nV st)]++([It.n (Wi.nV (Wi.t1 st))]++([It.n (Wi.nV (Wi.nS (Wi.t1 st)))]++([It.n (Wi.nV (Wi.t2 st))]++([It.n (Wi.nV (Wi.nS (Wi.t2 st))),It.n (Wi.nV (Wi.t3 st)),It.n (Wi.nV (Wi.t4 st))]++[It.n (kyV (Wi.t5 st)).k,It.n (kyV (Wi.t5 st)).a,It.n (kyV (Wi.t5 st)).b,It.n (kyV (Wi.t5 st)).c]))))
theorem took_hd (st:Wi.RS):Took st (hdR st) (Wi.t9 st):=
  (took_n st).trans<|(took_n _).trans<|(took_n _).trans<|(took_n _).trans<|((took_n _).trans<|(took_n _).trans (took_n _)).trans (took_ky _)
theorem took_m (bi bj bq:Wi.RS→Nat) (st:Wi.RS):Took st (hdR st++mRw bi bj bq st) (mSt bi bj bq st):=(took_hd st).trans (took_fds bi bj bq _ _)
theorem fk_cases (k:Int):fieldsK k=[0,2]∨fieldsK k=[0]∨fieldsK k=[0,3]∨fieldsK k=[3]∨fieldsK k=[0,1,3]∨(k=17∧fieldsK k=[4])∨(k=22∧fieldsK k=[0,2,4,5,6])∨fieldsK k=[]:=by
  unfold fieldsK
  by_cases h1:k=2∨k=11
  · rw [if_pos h1];exact .inl rfl
  rw [if_neg h1]
  by_cases h2:k=3∨k=14∨k=15∨k=21
  · rw [if_pos h2];exact .inr (.inl rfl)
  rw [if_neg h2]
  by_cases h3:k=4
  · rw [if_pos h3];exact .inr (.inr (.inl rfl))
  rw [if_neg h3]
  by_cases h4:k=5∨k=16
  · rw [if_pos h4];exact .inr (.inr (.inr (.inl rfl)))
  rw [if_neg h4]
  by_cases h5:k=13
  · rw [if_pos h5];exact .inr (.inr (.inr (.inr (.inl rfl))))
  rw [if_neg h5]
  by_cases h6:k=17
  · rw [if_pos h6];exact .inr (.inr (.inr (.inr (.inr (.inl ⟨h6,rfl⟩)))))
  rw [if_neg h6]
  by_cases h7:k=22
  · rw [if_pos h7];exact .inr (.inr (.inr (.inr (.inr (.inr (.inl ⟨h7,rfl⟩))))))
  rw [if_neg h7]
  exact .inr (.inr (.inr (.inr (.inr (.inr (.inr rfl))))))
theorem fK17:fieldsK 17=[4]:=by decide
theorem fK22:fieldsK 22=[0,2,4,5,6]:=by decide
def cqF (s:Wi.RS):Nat:=cntK (Wi.nV s) 65
def BC (s:Wi.RS) (i j:Nat):Prop:=∃ N M:Nat,Wi.nV (Wi.nS s)=((N:Nat):Int)∧Wi.nV (ensS i (Wi.nS (Wi.nS s)))=((M:Nat):Int)∧i≤N∧j≤M∧(i < N→((Wi.errS (ensS i (Wi.nS (Wi.nS s)))).2==0)=false)∧(j < M→((Wi.errS (rkS s i j)).2==0)=false)
def QC (s:Wi.RS) (q:Nat):Prop:=∃ Q:Nat,Wi.nV s=((Q:Nat):Int)∧q≤Q∧(q < Q→((Wi.errS (cmsS q (Wi.nS s))).2==0)=false)
def BM (s:Wi.RS) (i j:Nat):Prop:=bkE s=i∧bkL s=j∧Wi.nV (Wi.nS s)=((i:Nat):Int)∧Wi.nV (ensS i (Wi.nS (Wi.nS s)))=((j:Nat):Int)
theorem bk_m1 {s:Wi.RS} (hu:uR s) {i j:Nat} (h:BC s i j) (ho:okB (rkS s i j)) (b1:i≤256) (b2:j≤255):BM s i j:=by
  obtain ⟨N,M,hN,hM,hi,hj,hei,hej⟩:=h
  have hu2:uR (Wi.nS (Wi.nS s)):=(took_2 s hu).1
  have hu3:=(took_n _ (ens_u hu2 i)).1
  have e2:j=M:=by
    by_cases e:j < M
    · have:=ok_err ho;rw [hej e] at this;cases this
    · omega
  have o2:=took_back (took_n _) (ens_u hu2 i) (las_back hu3 (Nat.zero_le j) ho)
  have e1:i=N:=by
    by_cases e:i < N
    · have:=ok_err o2;rw [hei e] at this;cases this
    · omega
  subst e1 e2
  have eE:bkE s=i:=by unfold bkE cntK;rw [hN];split <;> omega
  have e3:bk2 s=ensS i (Wi.nS (Wi.nS s)):=by unfold bk2;rw [eE]
  have eL:bkL s=j:=by unfold bkL cntK;rw [e3,hM];split <;> omega
  exact ⟨eE,eL,hN,hM⟩
theorem bk_m2 {s:Wi.RS} (hu:uR s) {i j:Nat} (h:BC s i j) (ho:okB (rkS s (bkE s) (bkL s))) (b1:bkE s≤256) (b2:bkL s≤255):BM s i j:=by
  obtain ⟨N,M,hN,hM,hi,hj,hei,hej⟩:=h
  have hu2:uR (Wi.nS (Wi.nS s)):=(took_2 s hu).1
  have hu3:∀ k,uR (Wi.nS (ensS k (Wi.nS (Wi.nS s)))):=fun k=>(took_n _ (ens_u hu2 k)).1
  have eE:bkE s=N:=by
    unfold bkE cntK at b1 ⊢
    rw [hN] at b1 ⊢
    split at b1 <;> split <;> omega
  have o2:okB (ensS (bkE s) (Wi.nS (Wi.nS s))):=took_back (took_n _) (ens_u hu2 _) (las_back (hu3 _) (Nat.zero_le _) ho)
  have e1:i=N:=by
    by_cases e:i < N
    · have o3:okB (ensS i (Wi.nS (Wi.nS s))):=ens_back hu2 (n:=bkE s) (by omega) o2
      have:=ok_err o3;rw [hei e] at this;cases this
    · omega
  have e3:bk2 s=ensS i (Wi.nS (Wi.nS s)):=by unfold bk2;rw [eE,e1]
  have eL:bkL s=M:=by
    unfold bkL cntK at b2 ⊢
    rw [e3,hM] at b2 ⊢
    split at b2 <;> split <;> omega
  have e2:j=M:=by
    by_cases e:j < M
    · have o3:okB (rkS s i j):=by
        rw [eE,← e1,eL] at ho
        exact las_back (hu3 i) (n:=M) (by omega) ho
      have:=ok_err o3;rw [hej e] at this;cases this
    · omega
  exact ⟨by omega,by omega,by rw [hN,e1],by rw [hM,e2]⟩
theorem cm_m1 {s:Wi.RS} {q:Nat} (h:QC s q) (ho:okB (cmsS q (Wi.nS s))) (b:q≤64):cqF s=q∧Wi.nV s=((q:Nat):Int):=by
  obtain ⟨Q,hQ,hq,he⟩:=h
  have e1:q=Q:=by
    by_cases e:q < Q
    · have:=ok_err ho;rw [he e] at this;cases this
    · omega
  subst e1
  exact ⟨by unfold cqF cntK;rw [hQ];split <;> omega,hQ⟩
theorem cm_m2 {s:Wi.RS} (hu:uR s) {q:Nat} (h:QC s q) (ho:okB (cmsS (cqF s) (Wi.nS s))) (b:cqF s≤64):cqF s=q∧Wi.nV s=((q:Nat):Int):=by
  obtain ⟨Q,hQ,hq,he⟩:=h
  have eE:cqF s=Q:=by
    unfold cqF cntK at b ⊢
    rw [hQ] at b ⊢
    split at b <;> split <;> omega
  have e1:q=Q:=by
    by_cases e:q < Q
    · have o3:okB (cmsS q (Wi.nS s)):=cms_back (took_n _ hu).1 (n:=cqF s) (by omega) ho
      have:=ok_err o3;rw [he e] at this;cases this
    · omega
  exact ⟨by omega,by rw [hQ,e1]⟩
theorem bktP_bd {B rm:Int} (hr:rm≤256) {p:Pm} (h:bktP B rm (pmM p).bk p.es p.ls=true):p.es.length≤256∧p.ls.length≤255:=bkt_bd (x:=(pmM p).bk) hr rfl rfl h
theorem emp_bd {p:Pm} (h:empK (pmM p).bk=true):p.es.length=0∧p.ls.length=0:=by
  unfold empK at h
  rw [Bool.and_eq_true,Bool.and_eq_true] at h
  have h1:(((p.es.length:Nat):Int))=0:=eq_of_beq h.2.1
  have h2:(((p.ls.length:Nat):Int))=0:=eq_of_beq h.2.2
  omega
theorem onl_t {m:Mg} {fs:List Int} (h:onlyP m fs=true):(empK m.bk||hasB fs 4)=true∧(((m.cm.l:Nat):Int)==0||hasB fs 5)=true:=by
  rw [onl] at h
  simp only[Bool.and_eq_true] at h
  exact ⟨h.2.2.2.2.1,h.2.2.2.2.2.1⟩
theorem pm_b17 {B rm bu:Int} {zs:List Int} {p:Pm} (hr:rm≤256) (hk:p.k=17) (h:pmP B rm bu zs p=true):p.es.length≤256∧p.ls.length≤255:=by
  unfold pmP msgP at h
  rw [Bool.and_eq_true,Bool.and_eq_true,Bool.and_eq_true] at h
  have h2:=h.2.2.2
  have e:(pmM p).k=17:=hk
  unfold fldsP at h2
  rw [e] at h2
  have h3:(bktP B rm (pmM p).bk p.es p.ls&&decide ((pmM p).ky.b≤(pmM p).bk.up))=true:=h2
  rw [Bool.and_eq_true] at h3
  exact bktP_bd hr h3.1
theorem pm_b22 {B rm bu:Int} {zs:List Int} {p:Pm} (hr:rm≤256) (hk:p.k=22) (h:pmP B rm bu zs p=true):p.es.length≤256∧p.ls.length≤255∧p.cs.length≤64:=by
  unfold pmP msgP at h
  rw [Bool.and_eq_true,Bool.and_eq_true,Bool.and_eq_true] at h
  have h2:=h.2.2.2
  have e:(pmM p).k=22:=hk
  unfold fldsP at h2
  rw [e] at h2
  have h3:haveP B rm (pmM p) p.es p.ls p.cs=true:=h2
  clear h2 h
  unfold haveP at h3
  have key:∀ fs:List Int,hasB fs 4=false→onlyP (pmM p) fs=true→p.es.length=0∧p.ls.length=0:=fun fs hf ho=>by
    have:=(onl_t ho).1
    rw [hf,Bool.or_false] at this
    exact emp_bd this
  have key2:∀ fs:List Int,hasB fs 5=false→onlyP (pmM p) fs=true→p.cs.length=0:=fun fs hf ho=>by
    have:=(onl_t ho).2
    rw [hf,Bool.or_false] at this
    have h1:(((p.cs.length:Nat):Int))=0:=eq_of_beq this
    omega
  cases q1:((pmM p).ky.k==1&&eqS (pmM p).st spZ)
  · rw [q1] at h3
    cases q2:((pmM p).ky.k==1)
    · rw [q2] at h3
      cases q3:eqS (pmM p).st spZ
      · rw [q3] at h3
        simp only[cond_false,Bool.and_eq_true] at h3
        have:=key _ (by decide) h3.1
        have h4:=h3.2.2
        unfold rowsP at h4
        cases q4:(decide (64 < (((pmM p).cm.l:Nat):Int))||decide (1048577 < (pmM p).st.n+(((pmM p).cm.l:Nat):Int)))
        · rw [Bool.or_eq_false_iff] at q4
          have h5:¬ 64 < ((p.cs.length:Nat):Int):=of_decide_eq_false q4.1
          omega
        · rw [q4] at h4;cases h4
      · rw [q3] at h3
        simp only[cond_false,cond_true,Bool.and_eq_true] at h3
        have:=key2 _ (by decide) h3.1
        have:=bktP_bd hr h3.2.2
        omega
    · rw [q2] at h3
      simp only[cond_false,cond_true,Bool.and_eq_true] at h3
      have:=key _ (by decide) h3.1
      have:=key2 _ (by decide) h3.1
      omega
  · rw [q1] at h3
    simp only[cond_true] at h3
    have:=key _ (by decide) h3
    have:=key2 _ (by decide) h3
    omega
theorem nV_hi (st:Wi.RS):Wi.nV st≤9223372036854775807:=by
  cases st with
  | bad p c=>show (0:Int)≤_;omega
  | ok zs a=>
    cases hq:Wi.nr zs with
    | error c=>
      have e2:Wi.nV (.ok zs a)=0:=by simp only[Wi.nV,Wi.numS,hq]
      rw [e2];omega
    | ok q=>
      have e2:Wi.nV (.ok zs a)=((q.1:Nat):Int):=by simp only[Wi.nV,Wi.numS,hq]
      rw [e2]
      unfold Wi.nr at hq
      split at hq
      · cases hq
      · split at hq
        · cases hq
        · simp only[Except.ok.injEq] at hq
          rw [← hq]
          show ((_:Nat):Int)≤_
          omega
def b01 (v:Int):Int:=bif decide (v=1) then 1 else 0
theorem encB_n (v:Int) (X:List It):encB ([It.n v]++X)=Wi.vint v.toNat++encB X:=by simp [encB,encIt]
theorem flag_eq {v:Int} (h0:0≤v) (h1:v≤9223372036854775807) {X Y:List It} (h:encB ([It.n v]++X)=encB ([It.n (b01 v)]++Y)):v=b01 v∧encB X=encB Y:=by
  have hb:0≤b01 v∧b01 v≤1:=by unfold b01;cases decide (v=1) <;> decide
  rw [encB_n,encB_n] at h
  have e1:=Wi.vr_vint v.toNat (encB X) (by unfold Wi.W64;omega)
  have e2:=Wi.vr_vint (b01 v).toNat (encB Y) (by unfold Wi.W64;omega)
  rw [h,e2] at e1
  simp only[Except.ok.injEq,Prod.mk.injEq] at e1
  have e3:v=b01 v:=by omega
  refine ⟨e3,?_⟩
  rw [← e3] at h
  exact List.append_cancel_left h
theorem cut_eq {A X Y:List It} (h:encB (A++X)=encB (A++Y)):encB X=encB Y:=by
  rw [encB_app,encB_app] at h;exact List.append_cancel_left h
theorem b01_odd {v:Int} (h0:0≤v) (h:v=b01 v):decide (v > 1)=false:=by
  apply decide_eq_false
  have hb:b01 v≤1:=by unfold b01;cases decide (v=1) <;> decide
  omega
theorem b01_eq {v:Int} (h0:0≤v) (h:decide (v > 1)=false):b01 v=v:=by
  have:=of_decide_eq_false h
  unfold b01
  by_cases h2:v=1
  · rw [decide_eq_true h2];exact h2.symm
  · rw [decide_eq_false h2];show (0:Int)=v;omega
theorem fin_raw {body:List Int} {raw its:List It} {st':Wi.RS} {odd R:Bool} (hu:uR (.ok body 0)) (hT:Took (.ok body 0) raw st') (h1:odd=false→its=raw) (h2:encB raw=encB its→odd=false) :
    (Wi.wholeB odd st'&&R)=((Wi.errS st').2==0&&(!Wi.moreS st'&&(R&&decide (encB its=body)))):=by
  obtain ⟨u,k⟩:=hT hu
  cases st' with
  | bad p c=>
    have hc:c≠0:=u
    have e1:(c==0)=false:=beq_eq_false_iff_ne.2 hc
    simp [Wi.wholeB,Wi.endS,Wi.errS,e1,hc]
  | ok zs' a'=>
    obtain ⟨zs,a,e,hz⟩:=k zs' a' rfl
    injection e with e1 _
    subst e1
    cases zs' with
    | nil=>
      rw [List.append_nil] at hz
      rw [hz]
      cases odd with
      | false=>
        rw [h1 rfl]
        simp [Wi.wholeB,Wi.endS,Wi.errS,Wi.moreS]
      | true=>
        have h3:¬ encB its=encB raw:=fun e=>by have:=h2 e.symm;cases this
        simp [Wi.wholeB,Wi.endS,Wi.errS,Wi.moreS,h3]
    | cons z r=>simp [Wi.wholeB,Wi.endS,Wi.errS,Wi.moreS]
end Go.Proofs.YtgdnofacgfjaeaaGreat.Md
