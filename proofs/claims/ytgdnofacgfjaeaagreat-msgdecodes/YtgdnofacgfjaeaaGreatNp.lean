import Derived.Test.YtgdnofacgfjaeaaGreatWiYe
import Derived.Test.YtgdnofacgfjaeaaGreatPa
import Derived.Laws.Small
namespace Go.Proofs.YtgdnofacgfjaeaaGreat.Md
set_option maxRecDepth 100000
set_option maxHeartbeats 4000000
open Go.RowKit
set_option linter.unusedVariables false
set_option linter.unusedSimpArgs false
def enV (st:Wi.RS):En:=⟨Wi.strOf (tV st),Wi.nV (tS st),Wi.nV (Wi.nS (tS st)),Wi.nV (Wi.aS (tS st))⟩
def enS (st:Wi.RS):Wi.RS:=Wi.nS (Wi.aS (tS st))
def la4 (st:Wi.RS):Wi.RS:=Wi.nS (Wi.nS (Wi.nS (Wi.nS st)))
def laV (st:Wi.RS):La:=⟨Wi.nV st,Wi.nV (Wi.nS st),Wi.nV (Wi.nS (Wi.nS st)),Wi.nV (Wi.nS (Wi.nS (Wi.nS st))),Wi.nV (la4 st),Wi.nV (Wi.nS (la4 st)),Wi.nV (Wi.aS (la4 st))⟩
def laS (st:Wi.RS):Wi.RS:=Wi.nS (Wi.aS (la4 st))
theorem took_en (st:Wi.RS):Took st [It.b (Wi.numsOf (enV st).nm),It.n (enV st).f0,It.n (enV st).f1,It.n (enV st).sz] (enS st):=(took_x st).trans<|(took_2 _).trans (took_n _)
theorem took_la (st:Wi.RS):Took st [It.n (laV st).cl,It.n (laV st).op,It.n (laV st).ins,It.n (laV st).er,It.n (laV st).f0,It.n (laV st).f1,It.n (laV st).sz] (laS st):=
  (took_n st).trans<|(took_n _).trans<|(took_n _).trans<|(took_n _).trans<|(took_2 _).trans (took_n _)
def capSrc (r g lb b:Nat):Src where
  pb:=r
  pg:=g
  In:=fun k=>k=r∨k=g∨k=lb∨k=b
  Wr:=fun k=>k=r∨k=g
  sub:=fun k e=>e.elim .inl (fun e=>.inr (.inl e))
  St:=fun w s=>(rdSrc r g lb).St w s∧Box w b 202 #[.pointer (some ⟨r,0,none⟩)]∧b≠r∧b≠g
  lt:=fun h k e=>by
    rcases e with e | e | e | rfl
    · exact (rdSrc r g lb).lt h.1 k (.inl e)
    · exact (rdSrc r g lb).lt h.1 k (.inr (.inl e))
    · exact (rdSrc r g lb).lt h.1 k (.inr (.inr e))
    · exact h.2.1.lt
  far:=fun {w w' s S} h hk hS=>⟨(rdSrc r g lb).far h.1 hk (fun k e e2=>hS k e (by rcases e2 with e2 | e2 | e2;exact .inl e2;exact .inr (.inl e2);exact .inr (.inr (.inl e2)))),h.2.1.kept hk (fun e=>hS _ e (.inr (.inr (.inr rfl)))),h.2.2⟩
  pt:=fun h=>(rdSrc r g lb).pt h.1
section
variable {r g lb b:Nat} {s s':Wi.RS × Bool} {w:World}
theorem capGot {f:FuncId} {args:Array Value} {v:Value} (h:(capSrc r g lb b).St w s) (hc:(rdSrc r g lb).St w s→Calls Tryz.prog f args w ((rdSrc r g lb).Got w v s')):Calls Tryz.prog f args w ((capSrc r g lb b).Got w v s'):=
  (hc h.1).mono (by rintro e w' ⟨h1,h2,h3⟩;exact ⟨h1,⟨h2,h.2.1.kept h3 (fun e=>e.elim h.2.2.1 h.2.2.2),h.2.2⟩,h3⟩)
theorem capPt (h:(capSrc r g lb b).St w s):w.cell? ⟨b,0,none⟩=some (.pointer (some ⟨r,0,none⟩)):=h.2.1.cell 0
theorem zC {a:Act} {w0:World} {lA:List (Nat × TypeId × Array Value)} {o:Oper} {t:TypeId} {d:TypeDesc} (hu:Tryz.prog.underlying t=some d) (hl:ldA o a.eval=some (t,.pointer (some ⟨b,0,none⟩)):=by kernel_rfl) (hd:(match d with | .struct _ | .array _ _=>true | _=>false)=false:=by kernel_rfl) :
    ∀ w,Hid (Ex (capSrc r g lb b) w0 lA w)→(execOp a.eval o).run Tryz.prog w=.ok (.value (.pointer (some ⟨r,0,none⟩))) w:=fun w HE=>by
  obtain ⟨s,h⟩:=HE;exact exL (load_one (capPt h.st) hu hd) hl
end
section
variable {r g lb b:Nat} {st:Wi.RS} {odd:Bool} {w:World}
theorem p_entry (h:(capSrc r g lb b).St w (st,odd)):Calls Tryz.prog 193 #[.pointer (some ⟨b,0,none⟩)] w ((capSrc r g lb b).Got w (.agg (En.cells (enV st))) ((enS st,odd))):=by
  refine hidC fun C HC=>?_;have HF:Hid (Kr (capSrc r g lb b) w w (st,odd) []):=Kr.start h;clear h;go_enter Tryz.func193,Tryz.ntmps193;go_upto_region 0 with fail;refine Sg<|rA (En.cells enZ) Z92 HF fun g1 w2 HF=>?_;simp only[pS];refine Nl ?_;(try simp only[pS]);go_upto_region 1 with fail;refine wp_region_held_drew (S:=fun w'=>Hid (Ex (capSrc r g lb b) w [] w')) rfl (qN (lA:=[]) (lB:=[(g1,92,En.cells enZ)]) HF) (fun _=>?_);have HG:Hid (Kr (capSrc r g lb b) w w2.drew (st,odd) ([]++[(g1,92,En.cells enZ)])):=HF.out.no (Kept.refl No _).drew;clear HF;generalize w2.drew=w3 at HG ⊢;refine qT 0 2 HG (zC U202)<|qK 1 3 HG (.pointer (some ⟨r,0,none⟩))<|qK 2 4 HG (.pointer (some ⟨r,0,none⟩))<|qT 3 5 HG (zQ U203)<|qT 5 7 HG (zC U202)<|qT 7 9 HG (zC U202)<|qK 8 10 HG (.pointer (some ⟨r,0,none⟩))<|qK 9 11 HG (.pointer (some ⟨r,0,none⟩))<|?_;(try simp only[pS]);refine qT 10 12 HG (zQ U203)<|?_;(try simp only[pS]);refine qC 4 6 _ _ HG (fun h=>capGot h (fun h=>p_Text h)) fun w4 HG=>?_;(try simp only[pS]);refine qC 6 8 _ _ HG (fun h=>capGot h (fun h=>p_rfile h)) fun w5 HG=>?_;(try simp only[pS]);refine qC 11 13 _ _ HG (fun h=>capGot h (fun h=>p_Num h)) fun w6 HG=>?_;(try simp only[pS]);refine qT 12 14 HG (v:=.agg (En.cells ⟨(Wi.strOf (tV st)),((fiV (tS st)).c),((fiV (tS st)).o),(Wi.nV (Wi.aS (tS st)))⟩)) (zBd 92 (En.cells ⟨(Wi.strOf (tV st)),((fiV (tS st)).c),((fiV (tS st)).o),(Wi.nV (Wi.aS (tS st)))⟩))<|?_;(try simp only[pS]);refine qW 13 [] [(g1,92,En.cells enZ)] HG 0 0 (En.cs enZ) (En.cs ⟨(Wi.strOf (tV st)),((fiV (tS st)).c),((fiV (tS st)).o),(Wi.nV (Wi.aS (tS st)))⟩) (En.cs ⟨(Wi.strOf (tV st)),((fiV (tS st)).c),((fiV (tS st)).o),(Wi.nV (Wi.aS (tS st)))⟩) rfl (v:=.agg (En.cells ⟨(Wi.strOf (tV st)),((fiV (tS st)).c),((fiV (tS st)).o),(Wi.nV (Wi.aS (tS st)))⟩)) rfl S92 (En.oneL _) fun w7 HG=>?_;(try simp only[pS]);refine wpAnyH_done (by kernel_rfl) ?_ _;(try simp only[pS]);have HF:Hid (Kr (capSrc r g lb b) w w7 (Wi.nS (Wi.aS (tS st)),odd) [(g1,92,En.cells ⟨(Wi.strOf (tV st)),((fiV (tS st)).c),((fiV (tS st)).o),(Wi.nV (Wi.aS (tS st)))⟩)]):=HG;clear HG;go_wp2;rw [HC.out];refine bodyPost_ret (results_row1 (by rfl) _ _ g1 _ (by rfl) (run_load_part (HF.out.fq.box 0 _ _ _ rfl) (Part.all _) U92 rfl S92)) rfl ?_;exact HF.out.got _
theorem p_last (h:(capSrc r g lb b).St w (st,odd)):Calls Tryz.prog 196 #[.pointer (some ⟨b,0,none⟩)] w ((capSrc r g lb b).Got w (.agg (La.cells (laV st))) ((laS st,odd))):=by
  refine hidC fun C HC=>?_;have HF:Hid (Kr (capSrc r g lb b) w w (st,odd) []):=Kr.start h;clear h;go_enter Tryz.func196,Tryz.ntmps196;go_upto_region 0 with fail;refine Sg<|rA (La.cells laZ) Z94 HF fun g1 w2 HF=>?_;simp only[pS];refine Nl ?_;(try simp only[pS]);go_upto_region 1 with fail;refine wp_region_held_drew (S:=fun w'=>Hid (Ex (capSrc r g lb b) w [] w')) rfl (qN (lA:=[]) (lB:=[(g1,94,La.cells laZ)]) HF) (fun _=>?_);have HG:Hid (Kr (capSrc r g lb b) w w2.drew (st,odd) ([]++[(g1,94,La.cells laZ)])):=HF.out.no (Kept.refl No _).drew;clear HF;generalize w2.drew=w3 at HG ⊢;refine qT 0 2 HG (zC U202)<|qK 1 3 HG (.pointer (some ⟨r,0,none⟩))<|qK 2 4 HG (.pointer (some ⟨r,0,none⟩))<|qT 3 5 HG (zQ U203)<|qT 5 7 HG (zC U202)<|qK 6 8 HG (.pointer (some ⟨r,0,none⟩))<|qK 7 9 HG (.pointer (some ⟨r,0,none⟩))<|qT 8 10 HG (zQ U203)<|?_;(try simp only[pS]);refine qT 10 12 HG (zC U202)<|qK 11 13 HG (.pointer (some ⟨r,0,none⟩))<|qK 12 14 HG (.pointer (some ⟨r,0,none⟩))<|qT 13 15 HG (zQ U203)<|qT 15 17 HG (zC U202)<|qK 16 18 HG (.pointer (some ⟨r,0,none⟩))<|qK 17 19 HG (.pointer (some ⟨r,0,none⟩))<|qT 18 20 HG (zQ U203)<|?_;(try simp only[pS]);refine qT 20 22 HG (zC U202)<|qT 22 24 HG (zC U202)<|qK 23 25 HG (.pointer (some ⟨r,0,none⟩))<|qK 24 26 HG (.pointer (some ⟨r,0,none⟩))<|qT 25 27 HG (zQ U203)<|?_;(try simp only[pS]);refine qC 4 6 _ _ HG (fun h=>capGot h (fun h=>p_Num h)) fun w4 HG=>?_;(try simp only[pS]);refine qC 9 11 _ _ HG (fun h=>capGot h (fun h=>p_Num h)) fun w5 HG=>?_;(try simp only[pS]);refine qC 14 16 _ _ HG (fun h=>capGot h (fun h=>p_Num h)) fun w6 HG=>?_;(try simp only[pS]);refine qC 19 21 _ _ HG (fun h=>capGot h (fun h=>p_Num h)) fun w7 HG=>?_;(try simp only[pS]);refine qC 21 23 _ _ HG (fun h=>capGot h (fun h=>p_rfile h)) fun w8 HG=>?_;(try simp only[pS]);refine qC 26 28 _ _ HG (fun h=>capGot h (fun h=>p_Num h)) fun w9 HG=>?_;(try simp only[pS]);refine qT 27 29 HG (v:=.agg (La.cells ⟨(Wi.nV st),(Wi.nV (Wi.nS st)),(Wi.nV (Wi.nS (Wi.nS st))),(Wi.nV (Wi.nS (Wi.nS (Wi.nS st)))),((fiV (Wi.nS (Wi.nS (Wi.nS (Wi.nS st))))).c),((fiV (Wi.nS (Wi.nS (Wi.nS (Wi.nS st))))).o),(Wi.nV (Wi.aS (Wi.nS (Wi.nS (Wi.nS (Wi.nS st))))))⟩)) (zBd 94 (La.cells ⟨(Wi.nV st),(Wi.nV (Wi.nS st)),(Wi.nV (Wi.nS (Wi.nS st))),(Wi.nV (Wi.nS (Wi.nS (Wi.nS st)))),((fiV (Wi.nS (Wi.nS (Wi.nS (Wi.nS st))))).c),((fiV (Wi.nS (Wi.nS (Wi.nS (Wi.nS st))))).o),(Wi.nV (Wi.aS (Wi.nS (Wi.nS (Wi.nS (Wi.nS st))))))⟩))<|?_;(try simp only[pS]);refine qW 28 [] [(g1,94,La.cells laZ)] HG 0 0 (La.cs laZ) (La.cs ⟨(Wi.nV st),(Wi.nV (Wi.nS st)),(Wi.nV (Wi.nS (Wi.nS st))),(Wi.nV (Wi.nS (Wi.nS (Wi.nS st)))),((fiV (Wi.nS (Wi.nS (Wi.nS (Wi.nS st))))).c),((fiV (Wi.nS (Wi.nS (Wi.nS (Wi.nS st))))).o),(Wi.nV (Wi.aS (Wi.nS (Wi.nS (Wi.nS (Wi.nS st))))))⟩) (La.cs ⟨(Wi.nV st),(Wi.nV (Wi.nS st)),(Wi.nV (Wi.nS (Wi.nS st))),(Wi.nV (Wi.nS (Wi.nS (Wi.nS st)))),((fiV (Wi.nS (Wi.nS (Wi.nS (Wi.nS st))))).c),((fiV (Wi.nS (Wi.nS (Wi.nS (Wi.nS st))))).o),(Wi.nV (Wi.aS (Wi.nS (Wi.nS (Wi.nS (Wi.nS st))))))⟩) rfl (v:=.agg (La.cells ⟨(Wi.nV st),(Wi.nV (Wi.nS st)),(Wi.nV (Wi.nS (Wi.nS st))),(Wi.nV (Wi.nS (Wi.nS (Wi.nS st)))),((fiV (Wi.nS (Wi.nS (Wi.nS (Wi.nS st))))).c),((fiV (Wi.nS (Wi.nS (Wi.nS (Wi.nS st))))).o),(Wi.nV (Wi.aS (Wi.nS (Wi.nS (Wi.nS (Wi.nS st))))))⟩)) rfl S94 (La.oneL _) fun w10 HG=>?_;(try simp only[pS]);refine wpAnyH_done (by kernel_rfl) ?_ _;(try simp only[pS]);have HF:Hid (Kr (capSrc r g lb b) w w10 (Wi.nS (Wi.aS (Wi.nS (Wi.nS (Wi.nS (Wi.nS st))))),odd) [(g1,94,La.cells ⟨(Wi.nV st),(Wi.nV (Wi.nS st)),(Wi.nV (Wi.nS (Wi.nS st))),(Wi.nV (Wi.nS (Wi.nS (Wi.nS st)))),((fiV (Wi.nS (Wi.nS (Wi.nS (Wi.nS st))))).c),((fiV (Wi.nS (Wi.nS (Wi.nS (Wi.nS st))))).o),(Wi.nV (Wi.aS (Wi.nS (Wi.nS (Wi.nS (Wi.nS st))))))⟩)]):=HG;clear HG;go_wp2;rw [HC.out];refine bodyPost_ret (results_row1 (by rfl) _ _ g1 _ (by rfl) (run_load_part (HF.out.fq.box 0 _ _ _ rfl) (Part.all _) U94 rfl S94)) rfl ?_;exact HF.out.got _
end
def ensS:Nat→Wi.RS→Wi.RS
  | 0,st=>st
  | n+1,st=>enS (ensS n st)
def lasS:Nat→Wi.RS→Wi.RS
  | 0,st=>st
  | n+1,st=>laS (lasS n st)
def ensL (n:Nat) (st:Wi.RS):List En:=(List.range n).map (fun i=>enV (ensS i st))
def lasL (n:Nat) (st:Wi.RS):List La:=(List.range n).map (fun i=>laV (lasS i st))
theorem ensL_len (n:Nat) (st:Wi.RS):(ensL n st).length=n:=by simp [ensL]
theorem lasL_len (n:Nat) (st:Wi.RS):(lasL n st).length=n:=by simp [lasL]
theorem ensL_succ (n:Nat) (st:Wi.RS):ensL (n+1) st=ensL n st++[enV (ensS n st)]:=by simp [ensL,List.range_succ]
theorem lasL_succ (n:Nat) (st:Wi.RS):lasL (n+1) st=lasL n st++[laV (lasS n st)]:=by simp [lasL,List.range_succ]
theorem putEn (i n:Nat) (st:Wi.RS) (h:i < n):putL (enL (ensL i st++List.replicate (n - i) enZ)) (0+i*4) (En.cs (enV (ensS i st)))=enL (ensL (i+1) st++List.replicate (n - (i+1)) enZ):=by
  have e:n - i=(n - (i+1))+1:=by omega
  rw [e,List.replicate_succ,ensL_succ,show ensL i st++enZ :: List.replicate (n - (i+1)) enZ=ensL i st++([enZ]++List.replicate (n - (i+1)) enZ) by simp,enL_app,enL_app,Nat.zero_add];have h2:=put_mid (enL (ensL i st)) (enL [enZ]) (enL (List.replicate (n - (i+1)) enZ)) (En.cs (enV (ensS i st))) rfl;rw [enL_len,ensL_len] at h2;rw [h2,enL_app,enL_app,List.append_assoc]
  simp [enL]
theorem putLa (i n:Nat) (st:Wi.RS) (h:i < n):putL (laL (lasL i st++List.replicate (n - i) laZ)) (0+i*7) (La.cs (laV (lasS i st)))=laL (lasL (i+1) st++List.replicate (n - (i+1)) laZ):=by
  have e:n - i=(n - (i+1))+1:=by omega
  rw [e,List.replicate_succ,lasL_succ,show lasL i st++laZ :: List.replicate (n - (i+1)) laZ=lasL i st++([laZ]++List.replicate (n - (i+1)) laZ) by simp,laL_app,laL_app,Nat.zero_add];have h2:=put_mid (laL (lasL i st)) (laL [laZ]) (laL (List.replicate (n - (i+1)) laZ)) (La.cs (laV (lasS i st))) rfl;rw [laL_len,lasL_len] at h2;rw [h2,laL_app,laL_app,List.append_assoc]
  simp [laL]
theorem exec_min {o:Oper} {a:Act} {w:World} (x y:Operand) (T T':TypeId) (ho:o.op=.call { callee:=Callee.builtin Builtin.min,args:=#[x,y],argTypes:=#[T,T'] }) {u v:Int} (hx:a.eval x=.int .i64 u) (hy:a.eval y=.int .i64 v):(execOp a.eval o).run Tryz.prog w=.ok (.value (.int .i64 (if v < u then v else u))) w:=by
  simp [execOp,ho,resolve,invoke,builtin,hx,hy,run_min_int2,Result.andThen]
section
variable {ops:Array Oper} {rest:List Oper} {o:Oper} {a:Act} {w:World} {Q:Exit→Act→World→Prop} {K:Src} {w0:World} {s s':Wi.RS × Bool} {l:List (Nat × TypeId × Array Value)}
theorem rMn {u v:Int} {n:Nat} (hn:((n:Nat):Int)=if v < u then v else u) (h:WL ops Q rest (a.put o.dst (.int .i64 ((n:Nat):Int))) w) {x y:Operand} {T T':TypeId} (ho:o.op=.call { callee:=Callee.builtin Builtin.min,args:=#[x,y],argTypes:=#[T,T'] }:=by rfl)
    (hx:a.eval x=.int .i64 u:=by kernel_rfl) (hy:a.eval y=.int .i64 v:=by kernel_rfl) (hw:Region.wanted o (yielded ops a.tmps)=true:=by kernel_rfl):WL ops Q (o :: rest) a w:=
  tW _ (by rw [hn];exact exec_min x y T T' ho hx hy) h hw
theorem rM {t E:TypeId} (n:Nat) (cs:List Value) (HF:Hid (Kr K w0 w s l)) (hr:(Instr.makeSlice t (.int .i64 (n:Int)) (.int .i64 (n:Int))).run Tryz.prog w=.ok (.slice (some ⟨w.heap.size,0,none⟩) n n) (w.alloc (.cells cs.toArray E)))
    (h:∀ g w',Hid (Kr K w0 w' s (l++[(g,E,cs.toArray)]))→WL ops Q rest (a.put o.dst (.slice (some ⟨g,0,none⟩) n n)) w') {x y:Operand} (ho:o.op=.makeSlice t x y:=by rfl)
    (hx:a.eval x=.int .i64 (n:Int):=by kernel_rfl) (hy:a.eval y=.int .i64 (n:Int):=by kernel_rfl) (hw:Region.wanted o (yielded ops a.tmps)=true:=by kernel_rfl):WL ops Q (o :: rest) a w:=
  wp_runW _ _ (exec_make t x y ho _ _ hx hy hr) hw (h _ _ (HF.out.alloc _ _))
end
def ListO (K:Src) (w:World) (T:TypeId) (cs:List Value) (n:Nat) (s':Wi.RS × Bool) (e:Ending) (w':World):Prop:=∃ g,e=.returned (.slice (some ⟨g,0,none⟩) n n)∧Kr K w w' s' [(g,T,cs.toArray)]
def cntK (v:Int) (m:Nat):Nat:=if ((m:Nat):Int) < v then m else v.toNat
theorem cntK_is {v:Int} (h:0≤v) (m:Nat):((cntK v m:Nat):Int)=if ((m:Nat):Int) < v then ((m:Nat):Int) else v:=by
  unfold cntK;split <;> omega
theorem cntK_le (v:Int) (m:Nat):cntK v m≤m:=by unfold cntK;split <;> omega
section
variable {r g lb b:Nat} {st:Wi.RS} {odd:Bool} {w:World}
theorem p_listE (h:(capSrc r g lb b).St w (st,odd)):Calls Tryz.prog 197 #[.pointer (some ⟨r,0,none⟩),.int .i64 256,.func (.func 193) #[] #[.pointer (some ⟨b,0,none⟩)]] w (ListO (capSrc r g lb b) w 92 (enL (ensL (cntK (Wi.nV st) 257) (Wi.nS st))) (cntK (Wi.nV st) 257) (ensS (cntK (Wi.nV st) 257) (Wi.nS st),odd)):=by
  refine hidC fun C HC=>?_;obtain ⟨cnt,hcn2⟩:∃ n,cntK (Wi.nV st) 257=n:=⟨_,rfl⟩;have hcn:((cnt:Nat):Int)=if (257:Int) < Wi.nV st then 257 else Wi.nV st:=by rw [← hcn2];exact cntK_is (nV_pos st) 257
  have hcb:cnt≤257:=by rw [← hcn2];exact cntK_le _ _
  have HF:Hid (Kr (capSrc r g lb b) w w (st,odd) []):=Kr.start h;clear h;go_enter Tryz.func197,Tryz.ntmps197;go_upto_region 0 with fail;refine Sg<|tK (.slice none 0 0)<|Nl ?_;simp only[pS];go_upto_region 1 with fail;refine Sg<|tK (pg r 0)<|tK (pg r 0)<|tK (pg r 0)<|lR (load_one (Src.pt _ HF.out.st) U203 rfl)<|rC _ _ HF (fun h=>capGot h (fun h=>p_Num h)) fun w1 HF=>tK (.int .i64 256)<|tK (.int .i64 257)<|rMn hcn<|rM cnt (enL (List.replicate cnt enZ)) HF (make_en _ _ (by omega)) fun g2 w3 HF=>?_;simp only[pS];refine tK (.slice (some ⟨g2,0,none⟩) cnt cnt)<|Nl ?_;simp only[pS];go_upto_region 2 with fail;refine Sg<|tK (.slice (some ⟨g2,0,none⟩) cnt cnt)<|tK (.int .i64 ((cnt:Nat):Int))<|tK (.int .i64 0)<|Nl ?_;simp only[pS];go_wp2
  go_loopw [20] (fun v20 wr=>∃ i:Nat,v20=.int .i64 ((i:Nat):Int)∧i≤cnt∧Hid (Kr (capSrc r g lb b) w wr (ensS i (Wi.nS st),odd) [(g2,92,(enL (ensL i (Wi.nS st)++List.replicate (cnt - i) enZ)).toArray)])) (fun v20 _=>cnt - (intOf v20).toNat)
  case atStart=>exact ⟨0,by go_num,by omega,HF⟩
  case round=>
    clear HF;obtain ⟨i,rfl,hi,HF⟩:=hrel
    by_cases hlt:i < cnt
    ·go_upto_region 3 with fail;refine Sg<|bN (lI (a:=((i:Nat):Int)) (b:=((cnt:Nat):Int)) (decide_eq_true (by omega)))<|Nl ?_;simp only[pS];go_upto_region 4 with fail;refine Sg<|tK (.int .i64 ((i:Nat):Int))<|tK (.int .i64 ((i:Nat):Int))<|Nl ?_;simp only[pS];go_upto_region 5 with fail;refine Sg<|tK (.slice (some ⟨g2,0,none⟩) cnt cnt)<|tK (.int .i64 ((i:Nat):Int))<|tK (.func (.func 193) #[] #[.pointer (some ⟨b,0,none⟩)])<|rC _ _ HF (fun h=>p_entry h) fun w4 HF=>?_;simp only[pS];refine iS (s:=⟨some ⟨g2,0,none⟩,cnt,cnt⟩) (i:=i) rfl E40 F40 (by show _ < cnt;omega)<|rW (enL (ensL (i+1) (Wi.nS st)++List.replicate (cnt - (i+1)) enZ)) (En.cs (enV (ensS i (Wi.nS st)))) HF 0 (0+i*4) (v:=.agg (En.cells (enV (ensS i (Wi.nS st))))) rfl S92 (En.oneL _) (enL (ensL i (Wi.nS st)++List.replicate (cnt - i) enZ)) rfl (hl:=by rw [enL_len];simp only[List.length_append,ensL_len,List.length_replicate];show 0+i*4+4≤_;omega) (hn:=putEn i cnt (Wi.nS st) hlt) fun w5 HF=>?_;simp only[pS];refine Nl ?_;(try simp only[pS]);go_upto_region 6 with fail;refine Sg<|bN (v:=.int .i64 (((i+1):Nat):Int)) (b_addw ((i:Nat):Int) 1 (((i+1):Nat):Int) (by rw [IntKind.wrap_i64];omega))<|tK (.int .i64 (((i+1):Nat):Int))<|Nl ?_;simp only[pS];go_wp2;go_roundw
     case rel=>exact ⟨i+1,by go_num,by omega,HF⟩
     case measure=>simp [intOf];omega
    ·obtain rfl:i=cnt:=by omega
     rw [Nat.sub_self,List.replicate_zero,List.append_nil] at HF;go_upto_region 3 with fail;refine Sg<|bN (lI (a:=((i:Nat):Int)) (b:=((i:Nat):Int)) (decide_eq_false (by omega)))<|Nl ?_;simp only[pS];go_upto_region 7 with fail;refine Sg<|tK (.slice (some ⟨g2,0,none⟩) i i)<|tK (.slice (some ⟨g2,0,none⟩) i i)<|Nl ?_;simp only[pS];go_wp2;rw [HC.out,hcn2];exact ⟨g2,rfl,HF.out⟩
theorem p_listL (h:(capSrc r g lb b).St w (st,odd)):Calls Tryz.prog 198 #[.pointer (some ⟨r,0,none⟩),.int .i64 255,.func (.func 196) #[] #[.pointer (some ⟨b,0,none⟩)]] w (ListO (capSrc r g lb b) w 94 (laL (lasL (cntK (Wi.nV st) 256) (Wi.nS st))) (cntK (Wi.nV st) 256) (lasS (cntK (Wi.nV st) 256) (Wi.nS st),odd)):=by
  refine hidC fun C HC=>?_;obtain ⟨cnt,hcn2⟩:∃ n,cntK (Wi.nV st) 256=n:=⟨_,rfl⟩;have hcn:((cnt:Nat):Int)=if (256:Int) < Wi.nV st then 256 else Wi.nV st:=by rw [← hcn2];exact cntK_is (nV_pos st) 256
  have hcb:cnt≤256:=by rw [← hcn2];exact cntK_le _ _
  have HF:Hid (Kr (capSrc r g lb b) w w (st,odd) []):=Kr.start h;clear h;go_enter Tryz.func198,Tryz.ntmps198;go_upto_region 0 with fail;refine Sg<|tK (.slice none 0 0)<|Nl ?_;simp only[pS];go_upto_region 1 with fail;refine Sg<|tK (pg r 0)<|tK (pg r 0)<|tK (pg r 0)<|lR (load_one (Src.pt _ HF.out.st) U203 rfl)<|rC _ _ HF (fun h=>capGot h (fun h=>p_Num h)) fun w1 HF=>tK (.int .i64 255)<|tK (.int .i64 256)<|rMn hcn<|rM cnt (laL (List.replicate cnt laZ)) HF (make_la _ _ (by omega)) fun g2 w3 HF=>?_;simp only[pS];refine tK (.slice (some ⟨g2,0,none⟩) cnt cnt)<|Nl ?_;simp only[pS];go_upto_region 2 with fail;refine Sg<|tK (.slice (some ⟨g2,0,none⟩) cnt cnt)<|tK (.int .i64 ((cnt:Nat):Int))<|tK (.int .i64 0)<|Nl ?_;simp only[pS];go_wp2
  go_loopw [20] (fun v20 wr=>∃ i:Nat,v20=.int .i64 ((i:Nat):Int)∧i≤cnt∧Hid (Kr (capSrc r g lb b) w wr (lasS i (Wi.nS st),odd) [(g2,94,(laL (lasL i (Wi.nS st)++List.replicate (cnt - i) laZ)).toArray)])) (fun v20 _=>cnt - (intOf v20).toNat)
  case atStart=>exact ⟨0,by go_num,by omega,HF⟩
  case round=>
    clear HF;obtain ⟨i,rfl,hi,HF⟩:=hrel
    by_cases hlt:i < cnt
    ·go_upto_region 3 with fail;refine Sg<|bN (lI (a:=((i:Nat):Int)) (b:=((cnt:Nat):Int)) (decide_eq_true (by omega)))<|Nl ?_;simp only[pS];go_upto_region 4 with fail;refine Sg<|tK (.int .i64 ((i:Nat):Int))<|tK (.int .i64 ((i:Nat):Int))<|Nl ?_;simp only[pS];go_upto_region 5 with fail;refine Sg<|tK (.slice (some ⟨g2,0,none⟩) cnt cnt)<|tK (.int .i64 ((i:Nat):Int))<|tK (.func (.func 196) #[] #[.pointer (some ⟨b,0,none⟩)])<|rC _ _ HF (fun h=>p_last h) fun w4 HF=>?_;simp only[pS];refine iS (s:=⟨some ⟨g2,0,none⟩,cnt,cnt⟩) (i:=i) rfl E41 F41 (by show _ < cnt;omega)<|rW (laL (lasL (i+1) (Wi.nS st)++List.replicate (cnt - (i+1)) laZ)) (La.cs (laV (lasS i (Wi.nS st)))) HF 0 (0+i*7) (v:=.agg (La.cells (laV (lasS i (Wi.nS st))))) rfl S94 (La.oneL _) (laL (lasL i (Wi.nS st)++List.replicate (cnt - i) laZ)) rfl (hl:=by rw [laL_len];simp only[List.length_append,lasL_len,List.length_replicate];show 0+i*7+7≤_;omega) (hn:=putLa i cnt (Wi.nS st) hlt) fun w5 HF=>?_;simp only[pS];refine Nl ?_;(try simp only[pS]);go_upto_region 6 with fail;refine Sg<|bN (v:=.int .i64 (((i+1):Nat):Int)) (b_addw ((i:Nat):Int) 1 (((i+1):Nat):Int) (by rw [IntKind.wrap_i64];omega))<|tK (.int .i64 (((i+1):Nat):Int))<|Nl ?_;simp only[pS];go_wp2;go_roundw
     case rel=>exact ⟨i+1,by go_num,by omega,HF⟩
     case measure=>simp [intOf];omega
    ·obtain rfl:i=cnt:=by omega
     rw [Nat.sub_self,List.replicate_zero,List.append_nil] at HF;go_upto_region 3 with fail;refine Sg<|bN (lI (a:=((i:Nat):Int)) (b:=((i:Nat):Int)) (decide_eq_false (by omega)))<|Nl ?_;simp only[pS];go_upto_region 7 with fail;refine Sg<|tK (.slice (some ⟨g2,0,none⟩) i i)<|tK (.slice (some ⟨g2,0,none⟩) i i)<|Nl ?_;simp only[pS];go_wp2;rw [HC.out,hcn2];exact ⟨g2,rfl,HF.out⟩
end
theorem exec_box1 {o:Oper} {a:Act} {w:World} (t:TypeId) (x:Operand) (ho:o.op=.box t x) (ad:Addr) (hx:a.eval x=.pointer (some ad)):(execOp a.eval o).run Tryz.prog w=.ok (.value (.pointer (some ⟨w.heap.size,0,none⟩))) (w.alloc (.cells #[.pointer (some ad)] t)):=by
  simp only[execOp,ho,hx,Instr.box,Sem.run_bind,Result.andThen_ok,newVar,newRow,run_newObj_alloc,Sem.run_pure];rfl
theorem Kr.join {K:Src} {w0 w w':World} {s s':Wi.RS × Bool} {l m:List (Nat × TypeId × Array Value)} (h:Kr K w0 w s l) (k:Kr K w w' s' m):Kr K w0 w' s' (l++m):=by
  have key:∀ (i:Nat) g T cs,(l++m)[i]?=some (g,T,cs)→l[i]?=some (g,T,cs)∨(l.length≤i∧m[i - l.length]?=some (g,T,cs)):=by
    intro i g T cs hi;rw [List.getElem?_append] at hi
    split at hi
    · exact .inl hi
    · exact .inr ⟨by omega,hi⟩
  have hm:∀ (i:Nat) g T cs,m[i]?=some (g,T,cs)→w.heap.size≤g:=fun i g T cs hi=>(k.fq.low i g T cs hi).elim id (fun e=>absurd (K.sub _ e) (k.out i g T cs hi));refine ⟨⟨h.fq.kept.then k.fq.kept,fun i g T cs hi=>?_,fun i g T cs hi=>?_,fun i j g T cs T' cs' hi hj=>?_⟩,k.st,fun i g T cs hi=>?_⟩
  · rcases key i g T cs hi with h1 | ⟨_,h1⟩
    · exact (h.fq.box i g T cs h1).kept k.fq.kept (fun e=>h.out i g T cs h1 (K.sub _ e))
    · exact k.fq.box _ g T cs h1
  · rcases key i g T cs hi with h1 | ⟨_,h1⟩
    · exact h.fq.low i g T cs h1
    · exact .inl (Nat.le_trans h.fq.kept.size (hm _ g T cs h1))
  · rcases key i g T cs hi with h1 | ⟨e1,h1⟩ <;> rcases key j g T' cs' hj with h2 | ⟨e2,h2⟩
    · exact h.fq.inj i j g T cs T' cs' h1 h2
    · have:=(h.fq.box i g T cs h1).lt;have:=hm _ g T' cs' h2;omega
    · have:=(h.fq.box j g T' cs' h2).lt;have:=hm _ g T cs h1;omega
    · have:=k.fq.inj _ _ g T cs T' cs' h1 h2;omega
  · rcases key i g T cs hi with h1 | ⟨_,h1⟩
    · exact h.out i g T cs h1
    · exact k.out _ g T cs h1
theorem Kr.cap {r g lb b:Nat} {w0 w:World} {s:Wi.RS × Bool} {l:List (Nat × TypeId × Array Value)} (h:Kr (rdSrc r g lb) w0 w s ((b,202,#[.pointer (some ⟨r,0,none⟩)]) :: l)):Kr (capSrc r g lb b) w0 w s l:=by
  have ho:=h.out 0 b _ _ rfl;refine ⟨⟨h.fq.kept,fun i g T cs hi=>h.fq.box (i+1) g T cs (by simpa using hi),fun i g T cs hi=>h.fq.low (i+1) g T cs (by simpa using hi),fun i j g T cs T' cs' hi hj=>Nat.succ.inj (h.fq.inj (i+1) (j+1) g T cs T' cs' (by simpa using hi) (by simpa using hj))⟩,
    ⟨h.st,h.fq.box 0 b _ _ rfl,fun e=>ho (.inl e),fun e=>ho (.inr (.inl e))⟩,fun i g' T cs hi e=>?_⟩
  have h1:=h.out (i+1) g' T cs (by simpa using hi)
  rcases e with e | e | e | e
  · exact h1 (.inl e)
  · exact h1 (.inr (.inl e))
  · exact h1 (.inr (.inr e))
  · subst e
    have:=h.fq.inj 0 (i+1) _ _ _ _ _ rfl (by simpa using hi);omega
theorem Kr.uncap {r g lb b:Nat} {w0 w:World} {s:Wi.RS × Bool} {x:Nat × TypeId × Array Value} {l:List (Nat × TypeId × Array Value)} (h:Kr (capSrc r g lb b) w0 w s (x :: l)):Kr (rdSrc r g lb) w0 w s l:=by
  refine ⟨⟨h.fq.kept,fun i g T cs hi=>h.fq.box (i+1) g T cs (by simpa using hi),fun i g T cs hi=>h.fq.low (i+1) g T cs (by simpa using hi),fun i j g T cs T' cs' hi hj=>Nat.succ.inj (h.fq.inj (i+1) (j+1) g T cs T' cs' (by simpa using hi) (by simpa using hj))⟩,h.st.1,fun i g' T cs hi e=>?_⟩;have h1:=h.out (i+1) g' T cs (by simpa using hi)
  rcases e with e | e | e
  · exact h1 (.inl e)
  · exact h1 (.inr (.inl e))
  · exact h1 (.inr (.inr (.inl e)))
def BktO (K:Src) (w:World) (up:Int) (es:List En) (ls:List La) (s':Wi.RS × Bool) (e:Ending) (w':World):Prop:=∃ ge gl,e=.returned (.agg (Bv.cells ⟨up,⟨some ⟨ge,0,none⟩,es.length,es.length⟩,⟨some ⟨gl,0,none⟩,ls.length,ls.length⟩⟩))∧Kr K w w' s' [(ge,92,(enL es).toArray),(gl,94,(laL ls).toArray)]
section
variable {ops:Array Oper} {rest:List Oper} {o:Oper} {a:Act} {w:World} {Q:Exit→Act→World→Prop} {K:Src} {w0:World} {s s':Wi.RS × Bool} {l:List (Nat × TypeId × Array Value)}
theorem rB1 {t:TypeId} (ad:Addr) (HF:Hid (Kr K w0 w s l)) (h:∀ g w',Hid (Kr K w0 w' s (l++[(g,t,#[.pointer (some ad)])]))→WL ops Q rest (a.put o.dst (.pointer (some ⟨g,0,none⟩))) w') {x:Operand}
    (ho:o.op=.box t x:=by rfl) (hx:a.eval x=.pointer (some ad):=by kernel_rfl) (hw:Region.wanted o (yielded ops a.tmps)=true:=by kernel_rfl):WL ops Q (o :: rest) a w:=
  wp_runW _ _ (exec_box1 t x ho ad hx) hw (h _ _ (HF.out.alloc t _))
end
section
variable {ops:Array Oper} {a:Act} {w:World} {Q:Exit→Act→World→Prop} {md:Region.Mode} {K:Src} {w0:World} {s s':Wi.RS × Bool} {lA lB:List (Nat × TypeId × Array Value)} {fuel:Nat} {listed:Array Bool}
theorem qL (i d:Nat) {T:TypeId} {cs:List Value} {n:Nat} {f:FuncId} {args:Array Value} (HG:Hid (Kr K w0 w s (lA++lB))) (hc:K.St w s→Calls Tryz.prog f args w (ListO K w T cs n s'))
    (h:∀ g w',Hid (Kr K w0 w' s' (lA++(lB++[(g,T,cs.toArray)])))→wpAnyH Tryz.prog md ops Q (fun w'=>Hid (Ex K w0 lA w')) fuel (listed.setIfInBounds i true) (a.put (some d) (.slice (some ⟨g,0,none⟩) n n)) w')
    (hi:ops[i]?=some (opA ops i):=by kernel_rfl) (hd:(opA ops i).dst=some d:=by kernel_rfl) (hr:Region.ready md ops listed=[i]:=by kernel_rfl) (hrun:(execOp a.eval (opA ops i)).run Tryz.prog w=.ok (.enter f args) w:=by kernel_rfl) (hw:Region.wanted (opA ops i) (yielded ops a.tmps)=true:=by kernel_rfl):wpAnyH Tryz.prog md ops Q (fun w'=>Hid (Ex K w0 lA w')) (fuel+1) listed a w:=
  any_call hi hr hw f args hrun _ (hc HG.out.st) (by
    rintro e w' ⟨g,rfl,hk⟩;have HJ:=HG.out.join hk;rw [List.append_assoc] at HJ;exact ⟨_,rfl,⟨s',HJ.front⟩,fun _=>by rw [hd];exact h g w' HJ⟩)
end
def bkE (st:Wi.RS):Nat:=cntK (Wi.nV (Wi.nS st)) 257
def bk2 (st:Wi.RS):Wi.RS:=ensS (bkE st) (Wi.nS (Wi.nS st))
def bkL (st:Wi.RS):Nat:=cntK (Wi.nV (bk2 st)) 256
def bkS (st:Wi.RS):Wi.RS:=lasS (bkL st) (Wi.nS (bk2 st))
section
variable {r g lb b:Nat} {st:Wi.RS} {odd:Bool} {w:World}
theorem p_listE2 (h:(capSrc r g lb b).St w (Wi.nS st,odd)):Calls Tryz.prog 197 #[.pointer (some ⟨r,0,none⟩),.int .i64 256,.func (.func 193) #[] #[.pointer (some ⟨b,0,none⟩)]] w (ListO (capSrc r g lb b) w 92 (enL (ensL (bkE st) (Wi.nS (Wi.nS st)))) (bkE st) (bk2 st,odd)):=p_listE h
theorem p_listL2 (h:(capSrc r g lb b).St w (bk2 st,odd)):Calls Tryz.prog 198 #[.pointer (some ⟨r,0,none⟩),.int .i64 255,.func (.func 196) #[] #[.pointer (some ⟨b,0,none⟩)]] w (ListO (capSrc r g lb b) w 94 (laL (lasL (bkL st) (Wi.nS (bk2 st)))) (bkL st) (bkS st,odd)):=p_listL h
end
section
variable {r g lb:Nat} {st:Wi.RS} {odd:Bool} {w:World}
set_option maxRecDepth 100000 in
set_option maxHeartbeats 4000000 in
theorem p_rbkt (h:(rdSrc r g lb).St w (st,odd)):Calls Tryz.prog 155 #[.pointer (some ⟨r,0,none⟩)] w (BktO (rdSrc r g lb) w (Wi.nV st) (ensL (bkE st) (Wi.nS (Wi.nS st))) (lasL (bkL st) (Wi.nS (bk2 st))) (bkS st,odd)):=by
  refine hidC fun C HC=>?_;have HF:Hid (Kr (rdSrc r g lb) w w (st,odd) []):=Kr.start h;clear h;go_enter Tryz.func155,Tryz.ntmps155;go_upto_region 0 with fail;refine Sg<|rB1 ⟨r,0,none⟩ HF fun b w1 HF=>?_;(try simp only[pS]);refine rA (Bv.cells bvZ) Z43 HF fun g2 w3 HF=>?_;simp only[pS];have HF:Hid (Kr (capSrc r g lb b) w w3 (st,odd) [(g2,43,Bv.cells bvZ)]):=Kr.cap HF.out;refine Nl ?_;(try simp only[pS]);go_upto_region 1 with fail;refine Sg<|tK (.func (.func 193) #[] #[.pointer (some ⟨b,0,none⟩)])<|tK (.func (.func 193) #[] #[.pointer (some ⟨b,0,none⟩)])<|Nl ?_;simp only[pS];go_upto_region 2 with fail;refine Sg<|tK (.func (.func 196) #[] #[.pointer (some ⟨b,0,none⟩)])<|tK (.func (.func 196) #[] #[.pointer (some ⟨b,0,none⟩)])<|Nl ?_;simp only[pS];go_upto_region 3 with fail;refine wp_region_held_drew (S:=fun w'=>Hid (Ex (capSrc r g lb b) w [] w')) rfl (qN (lA:=[]) (lB:=[(g2,43,Bv.cells bvZ)]) HF) (fun _=>?_);have HG:Hid (Kr (capSrc r g lb b) w w3.drew (st,odd) ([]++[(g2,43,Bv.cells bvZ)])):=HF.out.no (Kept.refl No _).drew;clear HF;generalize w3.drew=w4 at HG ⊢;refine qT 0 7 HG (zC U202)<|qK 1 8 HG (.pointer (some ⟨r,0,none⟩))<|qK 2 9 HG (.pointer (some ⟨r,0,none⟩))<|qT 3 10 HG (zQ U203)<|qT 5 12 HG (zC U202)<|qK 6 13 HG (.func (.func 193) #[] #[.pointer (some ⟨b,0,none⟩)])<|qT 8 15 HG (zC U202)<|qK 9 16 HG (.func (.func 196) #[] #[.pointer (some ⟨b,0,none⟩)])<|?_;(try simp only[pS]);refine qC 4 11 _ _ HG (fun h=>capGot h (fun h=>p_Num h)) fun w5 HG=>?_;(try simp only[pS]);refine qL 7 14 HG (fun h=>p_listE2 (st:=st) h) fun g6 w7 HG=>?_;(try simp only[pS]);refine qL 10 17 HG (fun h=>p_listL2 (st:=st) h) fun g8 w9 HG=>?_;(try simp only[pS]);refine qT 11 18 HG (v:=.agg (Bv.cells (⟨(Wi.nV st),⟨(some ⟨g6,0,none⟩),(bkE st),(bkE st)⟩,⟨(some ⟨g8,0,none⟩),(bkL st),(bkL st)⟩⟩))) (zBd 43 (Bv.cells (⟨(Wi.nV st),⟨(some ⟨g6,0,none⟩),(bkE st),(bkE st)⟩,⟨(some ⟨g8,0,none⟩),(bkL st),(bkL st)⟩⟩)))<|?_;(try simp only[pS]);refine qW 12 [] [(g2,43,Bv.cells bvZ),(g6,92,(enL (ensL (bkE st) (Wi.nS (Wi.nS st)))).toArray),(g8,94,(laL (lasL (bkL st) (Wi.nS (bk2 st)))).toArray)] HG 0 0 (Bv.cs bvZ) (Bv.cs (⟨(Wi.nV st),⟨(some ⟨g6,0,none⟩),(bkE st),(bkE st)⟩,⟨(some ⟨g8,0,none⟩),(bkL st),(bkL st)⟩⟩)) (Bv.cs (⟨(Wi.nV st),⟨(some ⟨g6,0,none⟩),(bkE st),(bkE st)⟩,⟨(some ⟨g8,0,none⟩),(bkL st),(bkL st)⟩⟩)) rfl (v:=.agg (Bv.cells (⟨(Wi.nV st),⟨(some ⟨g6,0,none⟩),(bkE st),(bkE st)⟩,⟨(some ⟨g8,0,none⟩),(bkL st),(bkL st)⟩⟩))) rfl S43 (Bv.oneL _) fun w10 HG=>?_;(try simp only[pS]);refine wpAnyH_done (by kernel_rfl) ?_ _;(try simp only[pS]);have HF:Hid (Kr (capSrc r g lb b) w w10 (bkS st,odd) [(g2,43,Bv.cells (⟨(Wi.nV st),⟨(some ⟨g6,0,none⟩),(bkE st),(bkE st)⟩,⟨(some ⟨g8,0,none⟩),(bkL st),(bkL st)⟩⟩)),(g6,92,(enL (ensL (bkE st) (Wi.nS (Wi.nS st)))).toArray),(g8,94,(laL (lasL (bkL st) (Wi.nS (bk2 st)))).toArray)]):=HG;clear HG;go_wp2;rw [HC.out];refine bodyPost_ret (results_row1 (by rfl) _ _ g2 (Bv.cells (⟨(Wi.nV st),⟨(some ⟨g6,0,none⟩),(bkE st),(bkE st)⟩,⟨(some ⟨g8,0,none⟩),(bkL st),(bkL st)⟩⟩)) (by rfl) (run_load_part (cs:=Bv.cs (⟨(Wi.nV st),⟨(some ⟨g6,0,none⟩),(bkE st),(bkE st)⟩,⟨(some ⟨g8,0,none⟩),(bkL st),(bkL st)⟩⟩)) (sub:=Bv.cs (⟨(Wi.nV st),⟨(some ⟨g6,0,none⟩),(bkE st),(bkE st)⟩,⟨(some ⟨g8,0,none⟩),(bkL st),(bkL st)⟩⟩)) (HF.out.fq.box 0 _ _ _ rfl) (Part.all _) U43 rfl S43)) rfl ?_;refine ⟨g6,g8,?_,HF.out.uncap⟩;rw [ensL_len,lasL_len]
end
theorem own_lt {t:TypeId} {c:Nat} {w:World} {base:Nat} {a:Option Addr} {cap n:Nat} {vs:List Value} (h:Own t c w base a cap n vs) {k:Nat} (hk:At a k):k < w.heap.size:=by
  obtain ⟨cur,e⟩:=own_typ h hk
  exact (Array.getElem?_eq_some_iff.1 e).1
def lsSrc (K:Src) (E:TypeId) (c base:Nat) (a:Option Addr) (n cap:Nat) (vs:List Value):Src where
  pb:=K.pb
  pg:=K.pg
  In:=fun k=>K.In k∨At a k
  Wr:=K.Wr
  sub:=fun k e=>.inl (K.sub k e)
  St:=fun w s=>K.St w s∧Own E c w base a cap n vs∧(∀ k,At a k→¬ K.In k)
  lt:=fun h k e=>e.elim (K.lt h.1 k) (fun e=>own_lt h.2.1 e)
  far:=fun {w w' s S} h hk hS=>⟨K.far h.1 hk (fun k e e2=>hS k e (.inl e2)),h.2.1.kept hk (fun k e2 e=>hS k e (.inr e2)),h.2.2⟩
  pt:=fun h=>K.pt h.1
section
variable {K:Src} {E:TypeId} {c base:Nat} {a:Option Addr} {n cap:Nat} {vs:List Value} {s s':Wi.RS × Bool} {w:World}
theorem lsGot {f:FuncId} {args:Array Value} {v:Value} (h:(lsSrc K E c base a n cap vs).St w s) (hc:K.St w s→Calls Tryz.prog f args w (K.Got w v s')):Calls Tryz.prog f args w ((lsSrc K E c base a n cap vs).Got w v s'):=
  (hc h.1).mono (by rintro e w' ⟨h1,h2,h3⟩;exact ⟨h1,⟨h2,h.2.1.kept h3 (fun k hk e=>h.2.2 k hk (K.sub _ e)),h.2.2⟩,h3⟩)
theorem lsGotB {f:FuncId} {args:Array Value} {bs:List Int} (h:(lsSrc K E c base a n cap vs).St w s) (hc:K.St w s→Calls Tryz.prog f args w (K.GotB w bs s')):Calls Tryz.prog f args w ((lsSrc K E c base a n cap vs).GotB w bs s'):=
  (hc h.1).mono (by rintro e w' ⟨x,h1,h0,h2,h3⟩;exact ⟨x,h1,h0,⟨h2,h.2.1.kept h3 (fun k hk e=>h.2.2 k hk (K.sub _ e)),h.2.2⟩,h3⟩)
theorem Kr.ls {w0:World} {l:List (Nat × TypeId × Array Value)} (E:TypeId) (c base:Nat) (h:Kr K w0 w s l):Kr (lsSrc K E c base none 0 0 []) w0 w s l:=
  ⟨h.fq,⟨h.st,Own.nil _ _ _ _,fun k e=>absurd e At.none⟩,fun i g T cs hi e=>e.elim (h.out i g T cs hi) At.none⟩
theorem Kr.app {w0:World} {l:List (Nat × TypeId × Array Value)} (h:Kr (lsSrc K E c w0.heap.size a n cap vs) w0 w s l) (T ty:TypeId) (by':Nat) (z:Value) (ht:Tryz.prog.underlying T=some (.slice E))
    (hinf:(Tryz.prog.info? E).map (fun i=>(i.zero,i.size,i.bytes))=some (some z,c,by')) (hzc:z.cells.size=c) (hc0:0 < c) (news:List Value) (hl:news.length=c) (h1:∀ u∈news,u.oneCell'=true) (hbd:(n+1) * by'≤140737488355328) (hb63:n+1≤9223372036854775807) :
    ∃ a' cap' w',(Builtin.append_ #[T,T] ty #[.slice a n cap,.slice (some ⟨w.heap.size,0,none⟩) 1 1]).run Tryz.prog (w.alloc (.cells news.toArray E))=.ok (.slice a' (n+1) cap') w'∧Kr (lsSrc K E c w0.heap.size a' (n+1) cap' (vs++news)) w0 w' s l:=by
  have hk1:Kept No w (w.alloc (.cells news.toArray E)):=(Kept.refl No w).alloc _
  have H:=h.no hk1
  have hb1:Box (w.alloc (.cells news.toArray E)) w.heap.size E news.toArray:=Box.new _ _ _
  obtain ⟨a',c',w2,hr,ho,hk,hat⟩:=run_appN (w:=w.alloc (.cells news.toArray E)) T ty E c by' z ht hinf hzc hc0 w0.heap.size n cap a vs H.st.2.1 (some ⟨w.heap.size,0,none⟩) 1 1 news (by omega) (fun e=>by cases e) (fun j u hj=>⟨_,rfl,by rw [addr_add,Nat.zero_add,hb1.cell,List.getElem?_toArray];exact hj⟩) h1 hbd hb63 (Nat.le_trans h.fq.kept.size hk1.size)
  refine ⟨a',c',w2,hr,⟨H.fq.kept.trans hk (fun _ e=>e) (fun k hlt e=>by have:=H.st.2.1.base e;omega),fun i g T cs hi=>(H.fq.box i g T cs hi).kept hk (fun e=>H.out i g T cs hi (.inr e)),H.fq.low,H.fq.inj⟩,⟨K.far H.st.1 hk (fun k e=>H.st.2.2 k e),ho,fun k e=>?_⟩,fun i g T cs hi e=>?_⟩
  · rcases hat k e with e | e
    · exact H.st.2.2 k e
    · intro e2;have:=K.lt H.st.1 k e2;omega
  · rcases e with e | e
    · exact H.out i g T cs hi (.inl e)
    · rcases hat g e with e | e
      · exact H.out i g T cs hi (.inr e)
      · have:=(H.fq.box i g T cs hi).lt;omega
end
section
variable {ops:Array Oper} {rest:List Oper} {o o2:Oper} {a:Act} {w:World} {Q:Exit→Act→World→Prop} {K:Src} {w0:World} {s:Wi.RS × Bool} {l:List (Nat × TypeId × Array Value)}
theorem rAp {T E:TypeId} {c by':Nat} {z:Value} {la:Option Addr} {n cap:Nat} {vs:List Value} (news:List Value) (HF:Hid (Kr (lsSrc K E c w0.heap.size la n cap vs) w0 w s l)) (ht:Tryz.prog.underlying T=some (.slice E))
    (hinf:(Tryz.prog.info? E).map (fun i=>(i.zero,i.size,i.bytes))=some (some z,c,by')) (hzc:z.cells.size=c) (hc0:0 < c) (hl:news.length=c) (h1:∀ u∈news,u.oneCell'=true) (hbd:(n+1) * by'≤140737488355328) (hb63:n+1≤9223372036854775807)
    (h:∀ a' cap' w',Hid (Kr (lsSrc K E c w0.heap.size a' (n+1) cap' (vs++news)) w0 w' s l)→WL ops Q rest ((a.put o.dst (.slice (some ⟨w.heap.size,0,none⟩) 1 1)).put o2.dst (.slice a' (n+1) cap')) w')
    (hb:(execOp a.eval o).run Tryz.prog w=.ok (.value (.slice (some ⟨w.heap.size,0,none⟩) 1 1)) (w.alloc (.cells news.toArray E)):=by kernel_rfl) (hw:Region.wanted o (yielded ops a.tmps)=true:=by kernel_rfl)
    {x y:Operand} (ho:o2.op=.call { callee:=Callee.builtin Builtin.append,args:=#[x,y],argTypes:=#[T,T] }:=by rfl) (hx:(a.put o.dst (.slice (some ⟨w.heap.size,0,none⟩) 1 1)).eval x=.slice la n cap:=by kernel_rfl) (hy:(a.put o.dst (.slice (some ⟨w.heap.size,0,none⟩) 1 1)).eval y=.slice (some ⟨w.heap.size,0,none⟩) 1 1:=by kernel_rfl)
    (hw2:Region.wanted o2 (yielded ops (a.put o.dst (.slice (some ⟨w.heap.size,0,none⟩) 1 1)).tmps)=true:=by kernel_rfl):WL ops Q (o :: o2 :: rest) a w:=by
  obtain ⟨a',c',w2,hr,hk⟩:=HF.out.app T o2.type by' z ht hinf hzc hc0 news hl h1 hbd hb63
  exact wp_runW _ _ hb hw (wp_runW _ _ (exec_appN x y T T ho _ _ hx hy hr) hw2 (h a' c' w2 hk))
end
theorem i_numN {i g:Nat} {ba:Option Addr} {bc:Nat} {bs:List Int} {st:Wi.RS} {w:World} {n:Nat} (hn:Wi.nV st=((n:Nat):Int)) (h:(inSrc i g ba bc bs).St w (st,false)):Calls Tryz.prog 153 #[.pointer (some ⟨i,0,none⟩)] w ((inSrc i g ba bc bs).Got w (.int .i64 ((n:Nat):Int)) (Wi.nS st,false)):=by
  rw [← hn];exact i_num h
def room (st:Wi.RS) (n:Nat):Prop:=∀ zs a,st=.ok zs a→zs.length≤n
theorem took_len {st st':Wi.RS} {L:List It} (hu:uR st) (h:Took st L st') {n:Nat} (hr:room st n):room st' (n - (encB L).length)∧∀ zs a,st'=.ok zs a→(encB L).length≤n:=by
  obtain ⟨_,k⟩:=h hu
  refine ⟨fun zs a e=>?_,fun zs a e=>?_⟩ <;>
  · obtain ⟨z0,a0,e0,hz⟩:=k zs a e
    have:=hr z0 a0 e0
    rw [hz,List.length_append] at this
    omega
theorem vint_pos (u:Nat):0 < (Wi.vint u).length:=by
  by_cases h:u < 128
  · rw [Wi.vint_lo h];simp
  · rw [Wi.vint_hi h];simp
theorem enc_pos {x:It} {L:List It}:0 < (encB (x :: L)).length:=by
  have:encB (x :: L)=encIt x++encB L:=by simp [encB]
  rw [this,List.length_append]
  cases x with
  | n i=>have:=vint_pos i.toNat;show 0 < (Wi.vint i.toNat).length+_;omega
  | b zs=>have:=vint_pos zs.length;show 0 < (Wi.vint zs.length++zs).length+_;rw [List.length_append];omega
theorem ens_u {st:Wi.RS} (hu:uR st):∀ i,uR (ensS i st)
  | 0=>hu
  | i+1=>((took_en (ensS i st)) (ens_u hu i)).1
theorem las_u {st:Wi.RS} (hu:uR st):∀ i,uR (lasS i st)
  | 0=>hu
  | i+1=>((took_la (lasS i st)) (las_u hu i)).1
theorem ens_room {st:Wi.RS} (hu:uR st) {n:Nat} (hr:room st n):∀ i,room (ensS i st) (n - i)∧∀ zs a,ensS i st=.ok zs a→i≤n
  | 0=>⟨hr,fun _ _ _=>Nat.zero_le _⟩
  | i+1=>by
    have ih:=ens_room hu hr i
    have h1:=took_len (ens_u hu i) (took_en (ensS i st)) ih.1
    have h2:=enc_pos (x:=It.b (Wi.numsOf (enV (ensS i st)).nm)) (L:=[It.n (enV (ensS i st)).f0,It.n (enV (ensS i st)).f1,It.n (enV (ensS i st)).sz])
    exact ⟨fun zs a e=>by have:=h1.1 zs a e;omega,fun zs a e=>by have:=h1.2 zs a e;omega⟩
theorem las_room {st:Wi.RS} (hu:uR st) {n:Nat} (hr:room st n):∀ i,room (lasS i st) (n - i)∧∀ zs a,lasS i st=.ok zs a→i≤n
  | 0=>⟨hr,fun _ _ _=>Nat.zero_le _⟩
  | i+1=>by
    have ih:=las_room hu hr i
    have h1:=took_len (las_u hu i) (took_la (lasS i st)) ih.1
    have h2:=enc_pos (x:=It.n (laV (lasS i st)).cl) (L:=[It.n (laV (lasS i st)).op,It.n (laV (lasS i st)).ins,It.n (laV (lasS i st)).er,It.n (laV (lasS i st)).f0,It.n (laV (lasS i st)).f1,It.n (laV (lasS i st)).sz])
    exact ⟨fun zs a e=>by have:=h1.1 zs a e;omega,fun zs a e=>by have:=h1.2 zs a e;omega⟩
theorem err_ok {st:Wi.RS} (hu:uR st) (h:((Wi.errS st).2==0)=true):∃ zs a,st=.ok zs a:=by
  cases st with
  | ok zs a=>exact ⟨zs,a,rfl⟩
  | bad p c=>have hu:c≠0:=hu;exact absurd (eq_of_beq h) hu
theorem I92:(Tryz.prog.info? 92).map (fun i=>(i.zero,i.size,i.bytes))=some (some (.agg (En.cells enZ)),4,40):=by kernel_rfl
theorem I94:(Tryz.prog.info? 94).map (fun i=>(i.zero,i.size,i.bytes))=some (some (.agg (La.cells laZ)),7,56):=by kernel_rfl
end Go.Proofs.YtgdnofacgfjaeaaGreat.Md
