import Derived.Test.YtgdnofacgfjaeaaGreatWiRz
import Derived.Test.YtgdnofacgfjaeaaGreatMe
import Derived.Test.YtgdnofacgfjaeaaGreatWiYa
import Derived.Test.YtgdnofacgfjaeaaGreatJb
import Derived.Test.YtgdnofacgfjaeaaGreatWiU
namespace Go.Proofs.YtgdnofacgfjaeaaGreat.Wi
open Go.RowKit
set_option linter.unusedVariables false
theorem ref_all (g:Nat) (ba:Option Addr) (bc:Nat) (bs:List Int) (st:RS) (k:Int) (w:World) (h:Rf w g ba bc bs st) (hk:1≤k∧k≤4) :
    Calls Tryz.prog 189 #[.pointer (some ⟨g,0,none⟩),.int .i64 k] w (RefPost w g ba bc bs st k):=by
  cases st with
  | bad p c=>exact ref_bad g ba bc bs p c k w h
  | ok zs at_=>
    by_cases h1:k=1
    · subst h1;exact ref_1 g ba bc bs zs at_ w h
    by_cases h2:k=2
    · subst h2;exact ref_2 g ba bc bs zs at_ w h
    exact ref_3 g ba bc bs zs at_ k w (by simpa using h1) (by simpa using h2) h
set_option maxRecDepth 100000 in
set_option maxHeartbeats 1000000 in
theorem rmore_all (g:Nat) (ba:Option Addr) (bc:Nat) (bs:List Int) (st:RS) (w:World) (h:Rf w g ba bc bs st) :
    Calls Tryz.prog 123 #[.pointer (some ⟨g,0,none⟩)] w fun e w'=>e=.returned (.bool (moreS st))∧∃ n,w'=w.drewN n:=by
  cases st with
  | bad p c=>
    obtain ⟨h0,at_,hr⟩:=h
    have q0:(c==0)=false:=by simpa using h0
    have c2:w.cell? ⟨g,2,none⟩=some (.int .i64 c):=by rw [cell_of_row w g 2 _ 172 (0,0) hr.cell];rfl
    clear h0 hr
    go_enter Tryz.func123,Tryz.ntmps123
    go_wp2
    go_quiet (fail)
    go_wp2
    go_ret
    exact ⟨rfl,_,rfl⟩
  | ok zs at_=>
    have HM:Hid (moreS (.ok zs at_)=decide (at_ < bs.length)):=by
      rw [Hid,moreS,h.2,List.length_drop,decide_eq_decide];omega
    have c0:w.cell? ⟨g,0,none⟩=some (.slice ba bs.length bc):=by rw [cell_of_row w g 0 _ 172 (0,0) h.1.cell];rfl
    have c1:w.cell? ⟨g,1,none⟩=some (.int .i64 (at_:Int)):=by rw [cell_of_row w g 1 _ 172 (0,0) h.1.cell];rfl
    have c2:w.cell? ⟨g,2,none⟩=some (.int .i64 0):=by rw [cell_of_row w g 2 _ 172 (0,0) h.1.cell];rfl
    clear h
    go_enter Tryz.func123,Tryz.ntmps123
    go_wp2
    go_quiet (fail)
    go_wp2
    go_ret
    exact ⟨ret_bool HM.out.symm,_,rfl⟩
end Go.Proofs.YtgdnofacgfjaeaaGreat.Wi
namespace Go.Proofs.YtgdnofacgfjaeaaGreat.Md
open Go.RowKit
set_option linter.unusedVariables false
set_option linter.unusedSimpArgs false
theorem wkS {S:Nat→Prop} {w w':World} (h:Kept S w w'):Wi.Kept S w w':=⟨h.os,h.tape,h.output,h.size,fun k hk hS=>h.block k hk hS⟩
theorem kwS {S:Nat→Prop} {w w':World} (h:Wi.Kept S w w'):Kept S w w':=⟨h.os,h.tape,h.output,h.size,fun k hk hS=>h.block k hk hS⟩
structure Src where
  pb:Nat
  pg:Nat
  In:Nat→Prop
  Wr:Nat→Prop
  sub:∀ k,Wr k→In k
  St:World→Wi.RS × Bool→Prop
  lt:∀ {w s},St w s→∀ k,In k→k < w.heap.size
  far:∀ {w w':World} {s:Wi.RS × Bool} {S:Nat→Prop},St w s→Kept S w w'→(∀ k,S k→¬ In k)→St w' s
  pt:∀ {w s},St w s→w.cell? ⟨pb,0,none⟩=some (.pointer (some ⟨pg,0,none⟩))
def Src.Got (K:Src) (w:World) (v:Value) (s':Wi.RS × Bool) (e:Ending) (w':World):Prop:=e=.returned v∧K.St w' s'∧Kept K.Wr w w'
structure Kr (K:Src) (w0 w:World) (s:Wi.RS × Bool) (l:List (Nat × TypeId × Array Value)):Prop where
  fq:Fq K.Wr w0 w l
  st:K.St w s
  out:∀ (i:Nat) g T cs,l[i]?=some (g,T,cs)→¬ K.In g
theorem Src.no {K:Src} {w w':World} {s:Wi.RS × Bool} (h:K.St w s) (hk:Kept No w w'):K.St w' s:=K.far h hk (fun _ e=>e.elim)
theorem Kr.start {K:Src} {w:World} {s:Wi.RS × Bool} (h:K.St w s):Kr K w w s []:=⟨Fq.start _ _,h,by simp⟩
theorem Kr.no {K:Src} {w0 w w':World} {s:Wi.RS × Bool} {l:List (Nat × TypeId × Array Value)} (h:Kr K w0 w s l) (hk:Kept No w w'):Kr K w0 w' s l:=⟨h.fq.no hk,Src.no h.st hk,h.out⟩
theorem Kr.front {K:Src} {w0 w:World} {s:Wi.RS × Bool} {l m:List (Nat × TypeId × Array Value)} (h:Kr K w0 w s (l++m)):Kr K w0 w s l:=
  ⟨h.fq.front,h.st,fun i g T cs hi=>h.out i g T cs (List.getElem?_append_left (List.getElem?_eq_some_iff.1 hi).1 ▸ hi)⟩
theorem Kr.alloc {K:Src} {w0 w:World} {s:Wi.RS × Bool} {l:List (Nat × TypeId × Array Value)} (h:Kr K w0 w s l) (T:TypeId) (cs:Array Value):Kr K w0 (w.alloc (.cells cs T)) s (l++[(w.heap.size,T,cs)]):=by
  refine ⟨h.fq.alloc T cs,Src.no h.st ((Kept.refl No w).alloc _),fun i g T' cs' hi=>?_⟩
  rw [List.getElem?_append] at hi
  split at hi
  · exact h.out i g T' cs' hi
  · have hlt:=(List.getElem?_eq_some_iff.1 hi).1
    have:i - l.length=0:=by simp at hlt;omega
    rw [this] at hi
    simp at hi
    rw [← hi.1]
    intro e
    have:=K.lt h.st _ e
    omega
theorem Kr.set {K:Src} {w0 w:World} {s:Wi.RS × Bool} {l:List (Nat × TypeId × Array Value)} (h:Kr K w0 w s l) (i:Nat) {g:Nat} {T:TypeId} {cs:Array Value} (hi:l[i]?=some (g,T,cs)) (cs':Array Value):Kr K w0 (w.setRow g cs') s (l.set i (g,T,cs')):=by
  refine ⟨h.fq.set i hi cs',K.far h.st (kept_row (Kept.refl (Only g) w) (.inr rfl) cs') (fun k e=>?_),fun j g' T' cs2 hj=>?_⟩
  · have e:k=g:=e
    rw [e];exact h.out i g T cs hi
  · rw [List.getElem?_set] at hj
    split at hj
    · split at hj
      · simp only[Option.some.injEq,Prod.mk.injEq] at hj
        rw [← hj.1];exact h.out i g T cs hi
      · cases hj
    · exact h.out j g' T' cs2 hj
theorem Kr.call {K:Src} {w0 w:World} {s s':Wi.RS × Bool} {v:Value} {l:List (Nat × TypeId × Array Value)} (h:Kr K w0 w s l) {e:Ending} {w':World} (hg:K.Got w v s' e w'):Kr K w0 w' s' l:=by
  obtain ⟨_,h2,h3⟩:=hg
  exact ⟨⟨h.fq.kept.then h3,fun i g T cs hi=>(h.fq.box i g T cs hi).kept h3 (fun e=>h.out i g T cs hi (K.sub _ e)),h.fq.low,h.fq.inj⟩,h2,h.out⟩
theorem Kr.from {K:Src} {w0 w:World} {s:Wi.RS × Bool} {l:List (Nat × TypeId × Array Value)} (h:Fq No w0 w l) (hs:K.St w s) (ho:∀ (i:Nat) g T cs,l[i]?=some (g,T,cs)→¬ K.In g):Kr K w0 w s l:=
  ⟨⟨h.kept.of_no,h.box,fun i g T cs hi=>.inl ((h.low i g T cs hi).elim id False.elim),h.inj⟩,hs,ho⟩
theorem Kr.keptNo {K:Src} {w0 w:World} {s:Wi.RS × Bool} {l:List (Nat × TypeId × Array Value)} (h:Kr K w0 w s l) (hw:∀ k,K.Wr k→w0.heap.size≤k):Kept No w0 w:=
  h.fq.kept.mono (fun k hk e=>by have:=hw k e;omega)
theorem Kr.got {K:Src} {w0 w:World} {s:Wi.RS × Bool} {l:List (Nat × TypeId × Array Value)} (h:Kr K w0 w s l) (v:Value):K.Got w0 v s (.returned v) w:=⟨rfl,h.st,h.fq.kept⟩
def Ex (K:Src) (w0:World) (l:List (Nat × TypeId × Array Value)) (w:World):Prop:=∃ s,Kr K w0 w s l
section
variable {ops:Array Oper} {rest:List Oper} {o:Oper} {a:Act} {w:World} {Q:Exit→Act→World→Prop} {K:Src} {w0:World} {s s':Wi.RS × Bool} {l:List (Nat × TypeId × Array Value)}
theorem rA {t:TypeId} (cs:Array Value) (hz:(Tryz.prog.info? t).bind (·.zero)=some (.agg cs)) (HF:Hid (Kr K w0 w s l)) (h:∀ g w',Hid (Kr K w0 w' s (l++[(g,t,cs)]))→WL ops Q rest (a.put o.dst (.pointer (some ⟨g,0,none⟩))) w')
    (ho:o.op=.alloc t:=by rfl) (hw:Region.wanted o (yielded ops a.tmps)=true:=by kernel_rfl):WL ops Q (o :: rest) a w:=
  wp_runW _ _ (exec_alloc t ho cs hz) hw (h _ _ (HF.out.alloc t cs))
theorem rD (v:Value) (HF:Hid (Kr K w0 w s l)) (i k:Nat) {t:TypeId} {d:TypeDesc} (hu:Tryz.prog.underlying t=some d) {g:Nat} {Tb:TypeId} {cs:Array Value} (hi:l[i]?=some (g,Tb,cs)) (h:WL ops Q rest (a.put o.dst v) w) {x:Operand}
    (ho:o.op=.load t x:=by rfl) (hx:a.eval x=.pointer (some ⟨g,k,none⟩):=by kernel_rfl) (hc:cs[k]?=some v:=by kernel_rfl) (hd:(match d with | .struct _ | .array _ _=>true | _=>false)=false:=by kernel_rfl)
    (hw:Region.wanted o (yielded ops a.tmps)=true:=by kernel_rfl):WL ops Q (o :: rest) a w:=
  tW v (exec_load t x ho ⟨g,k,none⟩ hx v (load_one (((HF.out.fq.box i g Tb cs hi).cell k).trans hc) hu hd)) h hw
theorem rP (sub:List Value) (HF:Hid (Kr K w0 w s l)) (i k:Nat) {t:TypeId} (hu:Tryz.prog.underlying t=some (.struct (Tryz.prog.fieldsOf t))) (hs:(Tryz.prog.info? t).map (·.size)=some sub.length) {g:Nat} {Tb:TypeId} (cs:List Value) (hi:l[i]?=some (g,Tb,cs.toArray)) (h:WL ops Q rest (a.put o.dst (.agg sub.toArray)) w) {x:Operand}
    (ho:o.op=.load t x:=by rfl) (hx:a.eval x=.pointer (some ⟨g,k,none⟩):=by kernel_rfl) (hc:(cs.drop k).take sub.length=sub:=by kernel_rfl)
    (hw:Region.wanted o (yielded ops a.tmps)=true:=by kernel_rfl):WL ops Q (o :: rest) a w:=
  tW _ (exec_load t x ho ⟨g,k,none⟩ hx _ (run_load_part (cs:=cs) (sub:=sub) (HF.out.fq.box i g Tb _ hi) (part_of hc) hu rfl hs)) h hw
theorem rW (new:List Value) (vs:List Value) (HF:Hid (Kr K w0 w s l)) (i k:Nat) {t:TypeId} {v:Value} (hv:v.cells=vs.toArray) (hs:(Tryz.prog.info? t).map (·.size)=some vs.length) (h1:∀ x∈vs,x.oneCell'=true) {g:Nat} {Tb:TypeId} (cur:List Value) (hi:l[i]?=some (g,Tb,cur.toArray))
    (h:∀ w',Hid (Kr K w0 w' s (l.set i (g,Tb,new.toArray)))→WL ops Q rest (a.put o.dst undef) w') {x y:Operand}
    (ho:o.op=.store t x y:=by rfl) (hx:a.eval x=.pointer (some ⟨g,k,none⟩):=by kernel_rfl) (hy:a.eval y=v:=by kernel_rfl) (hl:k+vs.length≤cur.length:=by exact Nat.le_of_ble_eq_true (by kernel_rfl)) (hn:putL cur k vs=new:=by kernel_rfl)
    (hw:Region.wanted o (yielded ops a.tmps)=true:=by kernel_rfl):WL ops Q (o :: rest) a w:=
  wp_storeW t x y ho ⟨g,k,none⟩ v hx hy _ (run_store_to (HF.out.fq.box i g Tb _ hi) hv hs hl h1 hn) hw (h _ (HF.out.set i hi _))
theorem rC (v:Value) (s':Wi.RS × Bool) {f:FuncId} {args:Array Value} (HF:Hid (Kr K w0 w s l)) (hc:K.St w s→Calls Tryz.prog f args w (K.Got w v s'))
    (h:∀ w',Hid (Kr K w0 w' s' l)→WL ops Q rest (a.put o.dst v) w')
    (hrun:(execOp a.eval o).run Tryz.prog w=.ok (.enter f args) w:=by kernel_rfl) (hw:Region.wanted o (yielded ops a.tmps)=true:=by kernel_rfl):WL ops Q (o :: rest) a w:=
  wp_callW f args hrun _ (hc HF.out.st) hw (by rintro e w' hg;exact ⟨v,hg.1,h w' (HF.out.call hg)⟩)
end
section
variable {ops:Array Oper} {a:Act} {w:World} {Q:Exit→Act→World→Prop} {md:Region.Mode} {K:Src} {w0:World} {s s':Wi.RS × Bool} {lA lB:List (Nat × TypeId × Array Value)} {fuel:Nat} {listed:Array Bool}
theorem qT (i d:Nat) (HG:Hid (Kr K w0 w s (lA++lB))) {v:Value} (hy:∀ w,Hid (Ex K w0 lA w)→(execOp a.eval (opA ops i)).run Tryz.prog w=.ok (.value v) w)
    (h:wpAnyH Tryz.prog md ops Q (fun w'=>Hid (Ex K w0 lA w')) fuel (listed.setIfInBounds i true) (a.put (some d) v) w)
    (hi:ops[i]?=some (opA ops i):=by kernel_rfl) (hd:(opA ops i).dst=some d:=by kernel_rfl) (hs:Region.noSelect ops=true:=by kernel_rfl) (hf:Region.free md ops listed i=true:=by kernel_rfl) (hr:(Region.ready md ops listed).contains i=true:=by kernel_rfl)
    (hQ:∀ c a w,Q (.panic c) (a.put (some d) v) w→Q (.panic c) a w:=by exact fun _ _ _ h=>h) (hw:Region.wanted (opA ops i) (yielded ops a.tmps)=true:=by kernel_rfl):wpAnyH Tryz.prog md ops Q (fun w'=>Hid (Ex K w0 lA w')) (fuel+1) listed a w:=
  any_take hi hs hf hr (by rw [hd];exact hQ) hw hy ⟨s,HG.out.front⟩ (by rw [hd];exact h)
theorem qK (i d:Nat) (HG:Hid (Kr K w0 w s (lA++lB))) (v:Value)
    (h:wpAnyH Tryz.prog md ops Q (fun w'=>Hid (Ex K w0 lA w')) fuel (listed.setIfInBounds i true) (a.put (some d) v) w) (hy:∀ w,(execOp a.eval (opA ops i)).run Tryz.prog w=.ok (.value v) w:=by intro _;kernel_rfl)
    (hi:ops[i]?=some (opA ops i):=by kernel_rfl) (hd:(opA ops i).dst=some d:=by kernel_rfl) (hs:Region.noSelect ops=true:=by kernel_rfl) (hf:Region.free md ops listed i=true:=by kernel_rfl) (hr:(Region.ready md ops listed).contains i=true:=by kernel_rfl)
    (hQ:∀ c a w,Q (.panic c) (a.put (some d) v) w→Q (.panic c) a w:=by exact fun _ _ _ h=>h) (hw:Region.wanted (opA ops i) (yielded ops a.tmps)=true:=by kernel_rfl):wpAnyH Tryz.prog md ops Q (fun w'=>Hid (Ex K w0 lA w')) (fuel+1) listed a w:=
  qT i d HG (fun w _=>hy w) h hi hd hs hf hr hQ hw
theorem qC (i d:Nat) (v:Value) (s':Wi.RS × Bool) {f:FuncId} {args:Array Value} (HG:Hid (Kr K w0 w s (lA++lB))) (hc:K.St w s→Calls Tryz.prog f args w (K.Got w v s'))
    (h:∀ w',Hid (Kr K w0 w' s' (lA++lB))→wpAnyH Tryz.prog md ops Q (fun w'=>Hid (Ex K w0 lA w')) fuel (listed.setIfInBounds i true) (a.put (some d) v) w')
    (hi:ops[i]?=some (opA ops i):=by kernel_rfl) (hd:(opA ops i).dst=some d:=by kernel_rfl) (hr:Region.ready md ops listed=[i]:=by kernel_rfl) (hrun:(execOp a.eval (opA ops i)).run Tryz.prog w=.ok (.enter f args) w:=by kernel_rfl) (hw:Region.wanted (opA ops i) (yielded ops a.tmps)=true:=by kernel_rfl):wpAnyH Tryz.prog md ops Q (fun w'=>Hid (Ex K w0 lA w')) (fuel+1) listed a w:=
  any_call hi hr hw f args hrun _ (hc HG.out.st) (by rintro e w' hg;exact ⟨v,hg.1,⟨s',(HG.out.call hg).front⟩,fun _=>by rw [hd];exact h w' (HG.out.call hg)⟩)
theorem qW (i:Nat) (lA lB:List (Nat × TypeId × Array Value)) (HG:Hid (Kr K w0 w s (lA++lB))) (j k:Nat) {g:Nat} {Tb:TypeId} (cur new vs:List Value) (hj:lB[j]?=some (g,Tb,cur.toArray)) {t:TypeId} {v:Value} (hv:v.cells=vs.toArray) (hs:(Tryz.prog.info? t).map (·.size)=some vs.length) (h1:∀ x∈vs,x.oneCell'=true)
    (h:∀ w',Hid (Kr K w0 w' s (lA++lB.set j (g,Tb,new.toArray)))→wpAnyH Tryz.prog md ops Q (fun w'=>Hid (Ex K w0 lA w')) fuel (listed.setIfInBounds i true) a w')
    (ho:stA (opA ops i) a.eval=some (t,.pointer (some ⟨g,k,none⟩),v):=by kernel_rfl) (hi:ops[i]?=some (opA ops i):=by kernel_rfl) (hd:(opA ops i).dst=none:=by kernel_rfl) (hr:Region.ready md ops listed=[i]:=by kernel_rfl) (hl:k+vs.length≤cur.length:=by exact Nat.le_of_ble_eq_true (by kernel_rfl)) (hn:putL cur k vs=new:=by kernel_rfl)
    (hw:Region.wanted (opA ops i) (yielded ops a.tmps)=true:=by kernel_rfl):wpAnyH Tryz.prog md ops Q (fun w'=>Hid (Ex K w0 lA w')) (fuel+1) listed a w:=by
  have hj2:(lA++lB)[lA.length+j]?=some (g,Tb,cur.toArray):=by rw [List.getElem?_append_right (by omega),Nat.add_sub_cancel_left];exact hj
  have H2:=HG.out.set _ hj2 new.toArray
  rw [List.set_append_right _ _ (by omega),Nat.add_sub_cancel_left] at H2
  unfold stA at ho
  split at ho
  · rename_i t' x y hx
    obtain ⟨rfl,h2⟩:=Prod.mk.inj (Option.some.inj ho)
    obtain ⟨h4,h5⟩:=Prod.mk.inj h2
    exact any_store hi hr hw _ x y hx ⟨g,k,none⟩ v h4 h5 (run_store_to (HG.out.fq.box _ g Tb _ hj2) hv hs hl h1 hn) (show Hid _ from ⟨s,H2.front⟩) (fun _=>by rw [hd];exact h _ H2)
  · cases ho
theorem zQ {o:Oper} {t:TypeId} {d:TypeDesc} (hu:Tryz.prog.underlying t=some d) (hl:ldA o a.eval=some (t,.pointer (some ⟨K.pb,0,none⟩)):=by kernel_rfl) (hd:(match d with | .struct _ | .array _ _=>true | _=>false)=false:=by kernel_rfl) :
    ∀ w,Hid (Ex K w0 lA w)→(execOp a.eval o).run Tryz.prog w=.ok (.value (.pointer (some ⟨K.pg,0,none⟩))) w:=fun w HE=>by
  obtain ⟨s,h⟩:=HE
  exact exL (load_one (K.pt h.st) hu hd) hl
theorem qN (HF:Hid (Kr K w0 w s (lA++lB))):Hid (Ex K w0 lA w.drew):=⟨s,(HF.out.no (Kept.refl No _).drew).front⟩
end
def rdSrc (r g lb:Nat):Src where
  pb:=r
  pg:=g
  In:=fun k=>k=r∨k=g∨k=lb
  Wr:=fun k=>k=r∨k=g
  sub:=fun k e=>e.elim .inl (fun e=>.inr (.inl e))
  St:=fun w s=>Wi.RdM w w r g lb s.2 s.1
  lt:=fun h k e=>by
    rcases e with rfl | rfl | rfl
    · exact h.ltr
    · exact h.ltg
    · exact h.ltl
  far:=fun {w w' s S} h hk hS=>⟨h.box.kept (wkS hk) (fun e=>hS _ e (.inl rfl)),h.rs.kept (wkS hk) (fun e=>hS _ e (.inr (.inl rfl))) (fun e=>hS _ e (.inr (.inr rfl))),h.rg,h.rl,Nat.lt_of_lt_of_le h.ltl hk.size,Wi.Kept.refl _ _⟩
  pt:=fun h=>h.c0
def inSrc (i g:Nat) (ba:Option Addr) (bc:Nat) (bs:List Int):Src where
  pb:=i
  pg:=g
  In:=fun k=>k=i∨k=g∨(0 < bs.length∧Wi.At ba k)
  Wr:=fun k=>k=g
  sub:=fun k e=>.inr (.inl e)
  St:=fun w s=>Box w i 174 #[.pointer (some ⟨g,0,none⟩)]∧Wi.Rf w g ba bc bs s.1∧s.2=false∧i≠g
  lt:=fun h k e=>by
    rcases e with rfl | rfl | ⟨h0,e⟩
    · exact h.1.lt
    · exact h.2.1.lt
    · exact h.2.1.at_lt h0 e
  far:=fun {w w' s S} h hk hS=>⟨h.1.kept hk (fun e=>hS _ e (.inl rfl)),h.2.1.kept (wkS hk) (fun e=>hS _ e (.inr (.inl rfl))) (fun h0 k hk2 e=>hS _ e (.inr (.inr ⟨h0,hk2⟩))),h.2.2⟩
  pt:=fun h=>h.1.cell 0
set_option maxRecDepth 100000
set_option maxHeartbeats 4000000
def tS (st:Wi.RS):Wi.RS:=(Wi.bytesS st).1
def tV (st:Wi.RS):List Int:=(Wi.bytesS st).2
abbrev stV (st:Wi.RS):Sp:=⟨Wi.nV st,Wi.nV (Wi.nS st)⟩
abbrev fiV (st:Wi.RS):Fi:=⟨Wi.nV st,Wi.nV (Wi.nS st)⟩
def cm6 (st:Wi.RS):Wi.RS:=Wi.aS (Wi.aS (tS (Wi.nS (Wi.nS (Wi.nS st)))))
def cmW (st:Wi.RS):Cm:=⟨Wi.nV st,Wi.nV (Wi.nS st),Wi.nV (Wi.nS (Wi.nS st)),Wi.strOf (tV (Wi.nS (Wi.nS (Wi.nS st)))),Wi.nV (tS (Wi.nS (Wi.nS (Wi.nS st)))),Wi.nV (Wi.nS (tS (Wi.nS (Wi.nS (Wi.nS st))))),
  Wi.nV (Wi.aS (tS (Wi.nS (Wi.nS (Wi.nS st))))),Wi.nV (Wi.nS (Wi.aS (tS (Wi.nS (Wi.nS (Wi.nS st)))))),Wi.nV (cm6 st)⟩
def cmV (st:Wi.RS):Cm:=bif Wi.nV st==0 then cZ else cmW st
def cmS (st:Wi.RS):Wi.RS:=bif Wi.nV st==0 then Wi.nS st else Wi.nS (cm6 st)
section
variable {r g lb:Nat} {st:Wi.RS} {odd:Bool} {w:World}
theorem rdGot {f:FuncId} {args:Array Value} {v:Value} {st':Wi.RS} {odd':Bool} {P:World→Prop} (hc:Calls Tryz.prog f args w fun e w'=>e=.returned v∧Wi.RdM w w' r g lb odd' st'∧P w'):Calls Tryz.prog f args w ((rdSrc r g lb).Got w v (st',odd')):=
  hc.mono (by rintro e w' ⟨rfl,h1,_⟩;exact ⟨rfl,h1.anew,kwS h1.kept⟩)
theorem p_Num (h:(rdSrc r g lb).St w (st,odd)):Calls Tryz.prog 160 #[.pointer (some ⟨g,0,none⟩)] w ((rdSrc r g lb).Got w (.int .i64 (Wi.nV st)) (Wi.nS st,odd)):=rdGot h.num
theorem p_rflag (h:(rdSrc r g lb).St w (st,odd)):Calls Tryz.prog 191 #[.pointer (some ⟨r,0,none⟩)] w ((rdSrc r g lb).Got w (.bool (Wi.fV st)) (Wi.nS st,Wi.fO odd st)):=rdGot h.flag
theorem p_rstamp (h:(rdSrc r g lb).St w (st,odd)):Calls Tryz.prog 187 #[.pointer (some ⟨r,0,none⟩)] w ((rdSrc r g lb).Got w (.agg (Sp.cells (stV st))) (Wi.aS st,odd)):=rdGot h.stamp
theorem p_rfile (h:(rdSrc r g lb).St w (st,odd)):Calls Tryz.prog 195 #[.pointer (some ⟨r,0,none⟩)] w ((rdSrc r g lb).Got w (.agg (Fi.cells (fiV st))) (Wi.aS st,odd)):=rdGot h.file
theorem p_Text (h:(rdSrc r g lb).St w (st,odd)):Calls Tryz.prog 194 #[.pointer (some ⟨g,0,none⟩)] w ((rdSrc r g lb).Got w (.string (Wi.strOf (tV st))) (tS st,odd)):=by
  refine (Wi.Text_all g lb st w h.rs).mono ?_;rintro e w' ⟨rfl,h1,h2⟩;exact ⟨rfl,⟨h.box.kept h2 (fun e=>h.rg e),h1,h.rg,h.rl,Nat.lt_of_lt_of_le h.ltl h2.size,Wi.Kept.refl _ _⟩,(kwS h2).mono (fun k _ e=>.inr e)⟩
end
section
variable {ops:Array Oper} {rest:List Oper} {o:Oper} {a:Act} {w:World} {Q:Exit→Act→World→Prop} {K:Src} {w0:World} {s s':Wi.RS × Bool} {l:List (Nat × TypeId × Array Value)}
def Src.GotB (K:Src) (w:World) (bs:List Int) (s':Wi.RS × Bool) (e:Ending) (w':World):Prop:=∃ x:Sl,e=.returned x.v∧Wi.Sl w' x.a x.l x.k bs∧K.St w' s'∧Kept K.Wr w w'
theorem rY (bs:List Int) (s':Wi.RS × Bool) {f:FuncId} {args:Array Value} (HF:Hid (Kr K w0 w s l)) (hc:K.St w s→Calls Tryz.prog f args w (K.GotB w bs s'))
    (h:∀ (x:Sl) w',Hid (Kr K w0 w' s' l)→Hid (Wi.Sl w' x.a x.l x.k bs)→WL ops Q rest (a.put o.dst x.v) w')
    (hrun:(execOp a.eval o).run Tryz.prog w=.ok (.enter f args) w:=by kernel_rfl) (hw:Region.wanted o (yielded ops a.tmps)=true:=by kernel_rfl):WL ops Q (o :: rest) a w:=
  wp_callW f args hrun _ (hc HF.out.st) hw (by rintro e w' ⟨x,h1,h2,h3,h4⟩;exact ⟨x.v,h1,h x w' (HF.out.call (v:=x.v) ⟨h1,h3,h4⟩) h2⟩)
theorem rZ {x:Sl} {bs:List Int} (HX:Hid (Wi.Sl w x.a x.l x.k bs)) (h:WL ops Q rest (a.put o.dst (.string (Wi.strOf bs))) w) {y:Operand} (ho:o.op=.convert 35 9 y:=by rfl) (hx:a.eval y=x.v:=by kernel_rfl)
    (hw:Region.wanted o (yielded ops a.tmps)=true:=by kernel_rfl):WL ops Q (o :: rest) a w:=
  tW _ (exec_convW 35 9 y ho hx (Wi.run_str HX.out.bytes HX.out.u8 HX.out.len)) h hw
end
section
variable {i g:Nat} {ba:Option Addr} {bc:Nat} {bs:List Int} {st:Wi.RS} {w:World}
theorem U170:Tryz.prog.underlying 170=some (.pointer 172):=by kernel_rfl
theorem inKept {st':Wi.RS} {w':World} (h:(inSrc i g ba bc bs).St w (st,false)) (h1:Wi.Rf w' g ba bc bs st') (h2:Wi.Kept (Wi.Only g) w w'):(inSrc i g ba bc bs).St w' (st',false)∧Kept (inSrc i g ba bc bs).Wr w w':=
  ⟨⟨h.1.kept (kwS h2) (fun e=>h.2.2.2 e),h1,rfl,h.2.2.2⟩,kwS h2⟩
theorem i_num (h:(inSrc i g ba bc bs).St w (st,false)):Calls Tryz.prog 153 #[.pointer (some ⟨i,0,none⟩)] w ((inSrc i g ba bc bs).Got w (.int .i64 (Wi.nV st)) (Wi.nS st,false)):=by
  refine hidC fun C HC=>?_;have HS:Hid ((inSrc i g ba bc bs).St w (st,false)):=h;clear h;go_enter Tryz.func153,Tryz.ntmps153;go_upto_region 0 with fail;refine Sg<|tK (.int .i64 0)<|Nl ?_;simp only[pS];go_upto_region 1 with fail;refine Sg<|tK (pg i 0)<|tK (pg i 0)<|tK (pg i 0)<|lR (load_one (HS.out.1.cell 0) U170 rfl) ?_;(try simp only[pS]);refine wp_callW 189 #[.pointer (some ⟨g,0,none⟩),.int .i64 1] (by kernel_rfl) _ (Wi.ref_all g ba bc bs st 1 w HS.out.2.1 (by omega)) (by kernel_rfl) ?_;rintro e w' ⟨a',m',c',rfl,_,hf,hk⟩;refine ⟨_,rfl,?_⟩;(try simp only[pS]);have HP:Hid _:=inKept HS.out hf hk;clear hf hk;refine tK (.int .i64 (Wi.nV st))<|tK (.int .i64 (Wi.nV st))<|Nl ?_;simp only[pS];go_wp2;rw [HC.out];exact ⟨rfl,HP.out.1,HP.out.2⟩
theorem r_bytesI (h:(inSrc i g ba bc bs).St w (st,false)):Calls Tryz.prog 149 #[.pointer (some ⟨i,0,none⟩)] w ((inSrc i g ba bc bs).GotB w (tV st) (tS st,false)):=by
  refine hidC fun C HC=>?_;have HS:Hid ((inSrc i g ba bc bs).St w (st,false)):=h;clear h;go_enter Tryz.func149,Tryz.ntmps149;go_upto_region 0 with fail;refine Sg<|tK (.slice none 0 0)<|Nl ?_;simp only[pS];go_upto_region 1 with fail;refine Sg<|tK (pg i 0)<|tK (pg i 0)<|tK (pg i 0)<|lR (load_one (HS.out.1.cell 0) U170 rfl) ?_;(try simp only[pS]);refine wp_callW 189 #[.pointer (some ⟨g,0,none⟩),.int .i64 3] (by kernel_rfl) _ (Wi.ref_all g ba bc bs st 3 w HS.out.2.1 (by omega)) (by kernel_rfl) ?_;rintro e w' ⟨a',m',c',rfl,hs,hf,hk⟩;refine ⟨_,rfl,?_⟩;(try simp only[pS]);have HP:Hid _:=inKept HS.out hf hk;have HL:Hid (Wi.Sl w' a' m' c' (tV st)):=hs;clear hf hk hs;refine tK (.slice a' m' c')<|tK (.slice a' m' c')<|Nl ?_;simp only[pS];go_wp2;rw [HC.out];exact ⟨⟨a',m',c'⟩,rfl,HL.out,HP.out.1,HP.out.2⟩
end
section
variable {a:Act} {K:Src} {w0:World} {lA:List (Nat × TypeId × Array Value)}
theorem zBd {o:Oper} (t:TypeId) (cs:Array Value) (hl:buA o a.eval=some (t,some cs):=by kernel_rfl):∀ w,Hid (Ex K w0 lA w)→(execOp a.eval o).run Tryz.prog w=.ok (.value (.agg cs)) w:=fun w _=>
  zU (S:=fun _=>True) (w0:=w) (l:=[]) t cs hl w (Fq.start _ _)
end
theorem U203:Tryz.prog.underlying 203=some (.pointer 231):=by kernel_rfl
theorem U202:Tryz.prog.underlying 202=some (.pointer 206):=by kernel_rfl
section
variable {r g lb:Nat} {st:Wi.RS} {odd:Bool} {w:World}
theorem p_rcommand (h:(rdSrc r g lb).St w (st,odd)):Calls Tryz.prog 190 #[.pointer (some ⟨r,0,none⟩)] w ((rdSrc r g lb).Got w (.agg (Cm.cells (cmV st))) ((cmS st,odd))):=by
  refine hidC fun C HC=>?_;have HF:Hid (Kr (rdSrc r g lb) w w (st,odd) []):=Kr.start h;clear h;go_enter Tryz.func190,Tryz.ntmps190;go_upto_region 0 with fail;refine Sg<|rA (Cm.cells cZ) Z39 HF fun g1 w2 HF=>?_;simp only[pS];refine Nl ?_;(try simp only[pS]);go_upto_region 1 with fail;refine Sg<|tK (pg r 0)<|tK (pg r 0)<|tK (pg r 0)<|lR (load_one (Src.pt _ HF.out.st) U203 rfl)<|rC _ _ HF (fun h=>p_Num h) fun w3 HF=>tK (.int .i64 (Wi.nV st))<|Nl ?_;simp only[pS];go_upto_region 2 with fail;refine Sg<|tK (.int .i64 (Wi.nV st))<|?_;simp only[pS];cases q1:((Wi.nV st)==0);rotate_left
  ·refine bN (eI q1)<|Nl ?_;simp only[pS];go_upto_region 3 with fail;refine Sg<|bD (Cm.cells cZ)<|rW (Cm.cs cZ) (Cm.cs cZ) HF 0 0 (v:=.agg (Cm.cells cZ)) rfl S39 (Cm.oneL _) (Cm.cs cZ) rfl fun w12 HF=>?_;simp only[pS];refine Nl ?_;(try simp only[pS]);have e1:cmV st=cZ:=by unfold cmV;rw [q1];rfl
   have e2:cmS st=Wi.nS st:=by unfold cmS;rw [q1];rfl
   rw [e1,e2] at HC;go_wp2;rw [HC.out];refine bodyPost_ret (results_row1 (by rfl) _ _ g1 _ (by rfl) (run_load_part (HF.out.fq.box 0 _ _ _ rfl) (Part.all _) U39 rfl S39)) rfl ?_;exact HF.out.got _
  refine bN (eI q1)<|Nl ?_;simp only[pS];go_upto_region 4 with fail;refine wp_region_held_drew (S:=fun w'=>Hid (Ex (rdSrc r g lb) w [] w')) rfl (qN (lA:=[]) (lB:=[(g1,39,Cm.cells cZ)]) HF) (fun _=>?_);have HG:Hid (Kr (rdSrc r g lb) w w3.drew (Wi.nS st,odd) ([]++[(g1,39,Cm.cells cZ)])):=HF.out.no (Kept.refl No _).drew;clear HF;generalize w3.drew=w4 at HG ⊢;refine qK 0 12 HG (.int .i64 (Wi.nV st))<|qK 1 13 HG (.pointer (some ⟨r,0,none⟩))<|qK 2 14 HG (.pointer (some ⟨r,0,none⟩))<|qK 3 15 HG (.pointer (some ⟨r,0,none⟩))<|qT 4 16 HG (zQ U203)<|qK 6 18 HG (.pointer (some ⟨r,0,none⟩))<|qK 7 19 HG (.pointer (some ⟨r,0,none⟩))<|qK 8 20 HG (.pointer (some ⟨r,0,none⟩))<|?_;(try simp only[pS]);refine qT 9 21 HG (zQ U203)<|qK 11 23 HG (.pointer (some ⟨r,0,none⟩))<|qK 12 24 HG (.pointer (some ⟨r,0,none⟩))<|qK 13 25 HG (.pointer (some ⟨r,0,none⟩))<|qT 14 26 HG (zQ U203)<|qK 16 28 HG (.pointer (some ⟨r,0,none⟩))<|qK 18 30 HG (.pointer (some ⟨r,0,none⟩))<|qK 20 32 HG (.pointer (some ⟨r,0,none⟩))<|?_;(try simp only[pS]);refine qK 21 33 HG (.pointer (some ⟨r,0,none⟩))<|qK 22 34 HG (.pointer (some ⟨r,0,none⟩))<|qT 23 35 HG (zQ U203)<|?_;(try simp only[pS]);refine qC 5 17 _ _ HG (fun h=>p_Num h) fun w5 HG=>?_;(try simp only[pS]);refine qC 10 22 _ _ HG (fun h=>p_Num h) fun w6 HG=>?_;(try simp only[pS]);refine qC 15 27 _ _ HG (fun h=>p_Text h) fun w7 HG=>?_;(try simp only[pS]);refine qC 17 29 _ _ HG (fun h=>p_rfile h) fun w8 HG=>?_;(try simp only[pS]);refine qC 19 31 _ _ HG (fun h=>p_rfile h) fun w9 HG=>?_;(try simp only[pS]);refine qC 24 36 _ _ HG (fun h=>p_Num h) fun w10 HG=>?_;(try simp only[pS]);refine qT 25 37 HG (v:=.agg (Cm.cells ⟨(Wi.nV st),(Wi.nV (Wi.nS st)),(Wi.nV (Wi.nS (Wi.nS st))),(Wi.strOf (tV (Wi.nS (Wi.nS (Wi.nS st))))),((fiV (tS (Wi.nS (Wi.nS (Wi.nS st))))).c),((fiV (tS (Wi.nS (Wi.nS (Wi.nS st))))).o),((fiV (Wi.aS (tS (Wi.nS (Wi.nS (Wi.nS st)))))).c),((fiV (Wi.aS (tS (Wi.nS (Wi.nS (Wi.nS st)))))).o),(Wi.nV (Wi.aS (Wi.aS (tS (Wi.nS (Wi.nS (Wi.nS st)))))))⟩)) (zBd 39 (Cm.cells ⟨(Wi.nV st),(Wi.nV (Wi.nS st)),(Wi.nV (Wi.nS (Wi.nS st))),(Wi.strOf (tV (Wi.nS (Wi.nS (Wi.nS st))))),((fiV (tS (Wi.nS (Wi.nS (Wi.nS st))))).c),((fiV (tS (Wi.nS (Wi.nS (Wi.nS st))))).o),((fiV (Wi.aS (tS (Wi.nS (Wi.nS (Wi.nS st)))))).c),((fiV (Wi.aS (tS (Wi.nS (Wi.nS (Wi.nS st)))))).o),(Wi.nV (Wi.aS (Wi.aS (tS (Wi.nS (Wi.nS (Wi.nS st)))))))⟩))<|?_;(try simp only[pS]);refine qW 26 [] [(g1,39,Cm.cells cZ)] HG 0 0 (Cm.cs cZ) (Cm.cs ⟨(Wi.nV st),(Wi.nV (Wi.nS st)),(Wi.nV (Wi.nS (Wi.nS st))),(Wi.strOf (tV (Wi.nS (Wi.nS (Wi.nS st))))),((fiV (tS (Wi.nS (Wi.nS (Wi.nS st))))).c),((fiV (tS (Wi.nS (Wi.nS (Wi.nS st))))).o),((fiV (Wi.aS (tS (Wi.nS (Wi.nS (Wi.nS st)))))).c),((fiV (Wi.aS (tS (Wi.nS (Wi.nS (Wi.nS st)))))).o),(Wi.nV (Wi.aS (Wi.aS (tS (Wi.nS (Wi.nS (Wi.nS st)))))))⟩) (Cm.cs ⟨(Wi.nV st),(Wi.nV (Wi.nS st)),(Wi.nV (Wi.nS (Wi.nS st))),(Wi.strOf (tV (Wi.nS (Wi.nS (Wi.nS st))))),((fiV (tS (Wi.nS (Wi.nS (Wi.nS st))))).c),((fiV (tS (Wi.nS (Wi.nS (Wi.nS st))))).o),((fiV (Wi.aS (tS (Wi.nS (Wi.nS (Wi.nS st)))))).c),((fiV (Wi.aS (tS (Wi.nS (Wi.nS (Wi.nS st)))))).o),(Wi.nV (Wi.aS (Wi.aS (tS (Wi.nS (Wi.nS (Wi.nS st)))))))⟩) rfl (v:=.agg (Cm.cells ⟨(Wi.nV st),(Wi.nV (Wi.nS st)),(Wi.nV (Wi.nS (Wi.nS st))),(Wi.strOf (tV (Wi.nS (Wi.nS (Wi.nS st))))),((fiV (tS (Wi.nS (Wi.nS (Wi.nS st))))).c),((fiV (tS (Wi.nS (Wi.nS (Wi.nS st))))).o),((fiV (Wi.aS (tS (Wi.nS (Wi.nS (Wi.nS st)))))).c),((fiV (Wi.aS (tS (Wi.nS (Wi.nS (Wi.nS st)))))).o),(Wi.nV (Wi.aS (Wi.aS (tS (Wi.nS (Wi.nS (Wi.nS st)))))))⟩)) rfl S39 (Cm.oneL _) fun w11 HG=>?_;(try simp only[pS]);refine wpAnyH_done (by kernel_rfl) ?_ _;(try simp only[pS]);have HF:Hid (Kr (rdSrc r g lb) w w11 (Wi.nS (Wi.aS (Wi.aS (tS (Wi.nS (Wi.nS (Wi.nS st)))))),odd) [(g1,39,Cm.cells ⟨(Wi.nV st),(Wi.nV (Wi.nS st)),(Wi.nV (Wi.nS (Wi.nS st))),(Wi.strOf (tV (Wi.nS (Wi.nS (Wi.nS st))))),((fiV (tS (Wi.nS (Wi.nS (Wi.nS st))))).c),((fiV (tS (Wi.nS (Wi.nS (Wi.nS st))))).o),((fiV (Wi.aS (tS (Wi.nS (Wi.nS (Wi.nS st)))))).c),((fiV (Wi.aS (tS (Wi.nS (Wi.nS (Wi.nS st)))))).o),(Wi.nV (Wi.aS (Wi.aS (tS (Wi.nS (Wi.nS (Wi.nS st)))))))⟩)]):=HG;clear HG;have e1:cmV st=cmW st:=by unfold cmV;rw [q1];rfl
  have e2:cmS st=Wi.nS (cm6 st):=by unfold cmS;rw [q1];rfl
  rw [e1,e2] at HC;go_wp2;rw [HC.out];refine bodyPost_ret (results_row1 (by rfl) _ _ g1 _ (by rfl) (run_load_part (HF.out.fq.box 0 _ _ _ rfl) (Part.all _) U39 rfl S39)) rfl ?_;exact HF.out.got _
end
section
variable {i g:Nat} {ba:Option Addr} {bc:Nat} {bs:List Int} {st:Wi.RS} {w:World}
theorem r_rstamp (h:(inSrc i g ba bc bs).St w (st,false)):Calls Tryz.prog 148 #[.pointer (some ⟨i,0,none⟩)] w ((inSrc i g ba bc bs).Got w (.agg (Sp.cells (stV st))) ((Wi.aS st,false))):=by
  refine hidC fun C HC=>?_;have HF:Hid (Kr (inSrc i g ba bc bs) w w (st,false) []):=Kr.start h;clear h;go_enter Tryz.func148,Tryz.ntmps148;go_upto_region 0 with fail;refine Sg<|rA (Sp.cells spZ) Z34 HF fun g1 w2 HF=>?_;simp only[pS];refine Nl ?_;(try simp only[pS]);go_upto_region 1 with fail;refine Sg<|tK (pg i 0)<|rC _ _ HF (fun h=>i_num h) fun w3 HF=>tK (.int .i64 (Wi.nV st))<|Nl ?_;simp only[pS];go_upto_region 2 with fail;refine Sg<|tK (.int .i64 (Wi.nV st))<|tK (pg i 0)<|rC _ _ HF (fun h=>i_num h) fun w4 HF=>bD (Sp.cells ⟨(Wi.nV st),(Wi.nV (Wi.nS st))⟩)<|rW (Sp.cs ⟨(Wi.nV st),(Wi.nV (Wi.nS st))⟩) (Sp.cs ⟨(Wi.nV st),(Wi.nV (Wi.nS st))⟩) HF 0 0 (v:=.agg (Sp.cells ⟨(Wi.nV st),(Wi.nV (Wi.nS st))⟩)) rfl S34 (Sp.oneL _) (Sp.cs spZ) rfl fun w5 HF=>?_;simp only[pS];refine Nl ?_;(try simp only[pS]);go_wp2;rw [HC.out];refine bodyPost_ret (results_row1 (by rfl) _ _ g1 _ (by rfl) (run_load_part (HF.out.fq.box 0 _ _ _ rfl) (Part.all _) U34 rfl S34)) rfl ?_;exact HF.out.got _
theorem r_rfile (h:(inSrc i g ba bc bs).St w (st,false)):Calls Tryz.prog 192 #[.pointer (some ⟨i,0,none⟩)] w ((inSrc i g ba bc bs).Got w (.agg (Fi.cells (fiV st))) ((Wi.aS st,false))):=by
  refine hidC fun C HC=>?_;have HF:Hid (Kr (inSrc i g ba bc bs) w w (st,false) []):=Kr.start h;clear h;go_enter Tryz.func192,Tryz.ntmps192;go_upto_region 0 with fail;refine Sg<|rA (Fi.cells fiZ) Z37 HF fun g1 w2 HF=>?_;simp only[pS];refine Nl ?_;(try simp only[pS]);go_upto_region 1 with fail;refine Sg<|tK (pg i 0)<|rC _ _ HF (fun h=>i_num h) fun w3 HF=>tK (.int .i64 (Wi.nV st))<|Nl ?_;simp only[pS];go_upto_region 2 with fail;refine Sg<|tK (.int .i64 (Wi.nV st))<|tK (pg i 0)<|rC _ _ HF (fun h=>i_num h) fun w4 HF=>bD (Fi.cells ⟨(Wi.nV st),(Wi.nV (Wi.nS st))⟩)<|rW (Fi.cs ⟨(Wi.nV st),(Wi.nV (Wi.nS st))⟩) (Fi.cs ⟨(Wi.nV st),(Wi.nV (Wi.nS st))⟩) HF 0 0 (v:=.agg (Fi.cells ⟨(Wi.nV st),(Wi.nV (Wi.nS st))⟩)) rfl S37 (Fi.oneL _) (Fi.cs fiZ) rfl fun w5 HF=>?_;simp only[pS];refine Nl ?_;(try simp only[pS]);go_wp2;rw [HC.out];refine bodyPost_ret (results_row1 (by rfl) _ _ g1 _ (by rfl) (run_load_part (HF.out.fq.box 0 _ _ _ rfl) (Part.all _) U37 rfl S37)) rfl ?_;exact HF.out.got _
theorem r_rcommand (h:(inSrc i g ba bc bs).St w (st,false)):Calls Tryz.prog 152 #[.pointer (some ⟨i,0,none⟩)] w ((inSrc i g ba bc bs).Got w (.agg (Cm.cells (cmV st))) ((cmS st,false))):=by
  refine hidC fun C HC=>?_;have HF:Hid (Kr (inSrc i g ba bc bs) w w (st,false) []):=Kr.start h;clear h;go_enter Tryz.func152,Tryz.ntmps152;go_upto_region 0 with fail;refine Sg<|rA (Cm.cells cZ) Z39 HF fun g1 w2 HF=>?_;simp only[pS];refine Nl ?_;(try simp only[pS]);go_upto_region 1 with fail;refine Sg<|bD (Cm.cells cZ)<|rA (Cm.cells cZ) Z39 HF fun g3 w4 HF=>?_;simp only[pS];refine rW (Cm.cs cZ) (Cm.cs cZ) HF 1 0 (v:=.agg (Cm.cells cZ)) rfl S39 (Cm.oneL _) (Cm.cs cZ) rfl fun w5 HF=>?_;simp only[pS];refine Nl ?_;(try simp only[pS]);go_upto_region 2 with fail;refine Sg<|tK (pg i 0)<|rC _ _ HF (fun h=>i_num h) fun w6 HF=>tK (pg g3 0)<|rW (Cm.cs (⟨(Wi.nV st),0,0,⟨#[]⟩,0,0,0,0,0⟩)) ([.int .i64 (Wi.nV st)]) HF 1 0 (v:=.int .i64 (Wi.nV st)) rfl S3 (by simp [Value.oneCell',Sl.v]) (Cm.cs cZ) rfl fun w7 HF=>?_;simp only[pS];refine Nl ?_;(try simp only[pS]);go_upto_region 3 with fail;refine Sg<|tK (pg g3 0)<|rD (.int .i64 (Wi.nV st)) HF 1 0 U3 rfl<|?_;simp only[pS];cases q1:((Wi.nV st)==0);rotate_left
  ·refine bN (eI q1)<|Nl ?_;simp only[pS];go_upto_region 4 with fail;refine Sg<|rP (Cm.cs (⟨(Wi.nV st),0,0,⟨#[]⟩,0,0,0,0,0⟩)) HF 1 0 U39 S39 (Cm.cs (⟨(Wi.nV st),0,0,⟨#[]⟩,0,0,0,0,0⟩)) rfl<|rW (Cm.cs (⟨(Wi.nV st),0,0,⟨#[]⟩,0,0,0,0,0⟩)) (Cm.cs (⟨(Wi.nV st),0,0,⟨#[]⟩,0,0,0,0,0⟩)) HF 0 0 (v:=.agg (Cm.cells (⟨(Wi.nV st),0,0,⟨#[]⟩,0,0,0,0,0⟩))) rfl S39 (Cm.oneL _) (Cm.cs cZ) rfl fun w23 HF=>?_;simp only[pS];refine Nl ?_;(try simp only[pS]);have e1:cmV st=⟨(Wi.nV st),0,0,⟨#[]⟩,0,0,0,0,0⟩:=by unfold cmV;rw [q1,cond_true,show Wi.nV st=0 from eq_of_beq q1];rfl
   have e2:cmS st=Wi.nS st:=by unfold cmS;rw [q1];rfl
   rw [e1,e2] at HC;go_wp2;rw [HC.out];refine bodyPost_ret (results_row1 (by rfl) _ _ g1 _ (by rfl) (run_load_part (HF.out.fq.box 0 _ _ _ rfl) (Part.all _) U39 rfl S39)) rfl ?_;exact HF.out.got _
  refine bN (eI q1)<|Nl ?_;simp only[pS];go_upto_region 5 with fail;refine Sg<|tK (pg i 0)<|rC _ _ HF (fun h=>i_num h) fun w8 HF=>tK (pg g3 1)<|rW (Cm.cs (⟨(Wi.nV st),(Wi.nV (Wi.nS st)),0,⟨#[]⟩,0,0,0,0,0⟩)) ([.int .i64 (Wi.nV (Wi.nS st))]) HF 1 1 (v:=.int .i64 (Wi.nV (Wi.nS st))) rfl S3 (by simp [Value.oneCell',Sl.v]) (Cm.cs (⟨(Wi.nV st),0,0,⟨#[]⟩,0,0,0,0,0⟩)) rfl fun w9 HF=>?_;simp only[pS];refine Nl ?_;(try simp only[pS]);go_upto_region 6 with fail;refine Sg<|tK (pg i 0)<|rC _ _ HF (fun h=>i_num h) fun w10 HF=>tK (pg g3 2)<|rW (Cm.cs (⟨(Wi.nV st),(Wi.nV (Wi.nS st)),(Wi.nV (Wi.nS (Wi.nS st))),⟨#[]⟩,0,0,0,0,0⟩)) ([.int .i64 (Wi.nV (Wi.nS (Wi.nS st)))]) HF 1 2 (v:=.int .i64 (Wi.nV (Wi.nS (Wi.nS st)))) rfl S3 (by simp [Value.oneCell',Sl.v]) (Cm.cs (⟨(Wi.nV st),(Wi.nV (Wi.nS st)),0,⟨#[]⟩,0,0,0,0,0⟩)) rfl fun w11 HF=>?_;simp only[pS];refine Nl ?_;(try simp only[pS]);go_upto_region 7 with fail;refine Sg<|tK (pg i 0)<|rY _ _ HF (fun h=>r_bytesI h) fun x13 w12 HF HX14=>?_;simp only[pS];refine rZ HX14<|tK (pg g3 3)<|rW (Cm.cs ⟨(Wi.nV st),(Wi.nV (Wi.nS st)),(Wi.nV (Wi.nS (Wi.nS st))),(Wi.strOf (tV (Wi.nS (Wi.nS (Wi.nS st))))),0,0,0,0,0⟩) ([.string (Wi.strOf (tV (Wi.nS (Wi.nS (Wi.nS st)))))]) HF 1 3 (v:=.string (Wi.strOf (tV (Wi.nS (Wi.nS (Wi.nS st)))))) rfl S9 (by simp [Value.oneCell',Sl.v]) (Cm.cs (⟨(Wi.nV st),(Wi.nV (Wi.nS st)),(Wi.nV (Wi.nS (Wi.nS st))),⟨#[]⟩,0,0,0,0,0⟩)) rfl fun w15 HF=>?_;simp only[pS];refine Nl ?_;(try simp only[pS]);go_upto_region 8 with fail;refine Sg<|tK (pg i 0)<|rC _ _ HF (fun h=>r_rfile h) fun w16 HF=>tK (pg g3 4)<|rW (Cm.cs ⟨(Wi.nV st),(Wi.nV (Wi.nS st)),(Wi.nV (Wi.nS (Wi.nS st))),(Wi.strOf (tV (Wi.nS (Wi.nS (Wi.nS st))))),((fiV (tS (Wi.nS (Wi.nS (Wi.nS st))))).c),((fiV (tS (Wi.nS (Wi.nS (Wi.nS st))))).o),0,0,0⟩) (Fi.cs (fiV (tS (Wi.nS (Wi.nS (Wi.nS st)))))) HF 1 4 (v:=.agg (Fi.cells (fiV (tS (Wi.nS (Wi.nS (Wi.nS st))))))) rfl S37 (Fi.oneL _) (Cm.cs ⟨(Wi.nV st),(Wi.nV (Wi.nS st)),(Wi.nV (Wi.nS (Wi.nS st))),(Wi.strOf (tV (Wi.nS (Wi.nS (Wi.nS st))))),0,0,0,0,0⟩) rfl fun w17 HF=>?_;simp only[pS];refine Nl ?_;(try simp only[pS]);go_upto_region 9 with fail;refine Sg<|tK (pg i 0)<|rC _ _ HF (fun h=>r_rfile h) fun w18 HF=>tK (pg g3 6)<|rW (Cm.cs ⟨(Wi.nV st),(Wi.nV (Wi.nS st)),(Wi.nV (Wi.nS (Wi.nS st))),(Wi.strOf (tV (Wi.nS (Wi.nS (Wi.nS st))))),((fiV (tS (Wi.nS (Wi.nS (Wi.nS st))))).c),((fiV (tS (Wi.nS (Wi.nS (Wi.nS st))))).o),((fiV (Wi.aS (tS (Wi.nS (Wi.nS (Wi.nS st)))))).c),((fiV (Wi.aS (tS (Wi.nS (Wi.nS (Wi.nS st)))))).o),0⟩) (Fi.cs (fiV (Wi.aS (tS (Wi.nS (Wi.nS (Wi.nS st))))))) HF 1 6 (v:=.agg (Fi.cells (fiV (Wi.aS (tS (Wi.nS (Wi.nS (Wi.nS st)))))))) rfl S37 (Fi.oneL _) (Cm.cs ⟨(Wi.nV st),(Wi.nV (Wi.nS st)),(Wi.nV (Wi.nS (Wi.nS st))),(Wi.strOf (tV (Wi.nS (Wi.nS (Wi.nS st))))),((fiV (tS (Wi.nS (Wi.nS (Wi.nS st))))).c),((fiV (tS (Wi.nS (Wi.nS (Wi.nS st))))).o),0,0,0⟩) rfl fun w19 HF=>?_;simp only[pS];refine Nl ?_;(try simp only[pS]);go_upto_region 10 with fail;refine Sg<|tK (pg i 0)<|rC _ _ HF (fun h=>i_num h) fun w20 HF=>tK (pg g3 8)<|rW (Cm.cs ⟨(Wi.nV st),(Wi.nV (Wi.nS st)),(Wi.nV (Wi.nS (Wi.nS st))),(Wi.strOf (tV (Wi.nS (Wi.nS (Wi.nS st))))),((fiV (tS (Wi.nS (Wi.nS (Wi.nS st))))).c),((fiV (tS (Wi.nS (Wi.nS (Wi.nS st))))).o),((fiV (Wi.aS (tS (Wi.nS (Wi.nS (Wi.nS st)))))).c),((fiV (Wi.aS (tS (Wi.nS (Wi.nS (Wi.nS st)))))).o),(Wi.nV (Wi.aS (Wi.aS (tS (Wi.nS (Wi.nS (Wi.nS st)))))))⟩) ([.int .i64 (Wi.nV (Wi.aS (Wi.aS (tS (Wi.nS (Wi.nS (Wi.nS st)))))))]) HF 1 8 (v:=.int .i64 (Wi.nV (Wi.aS (Wi.aS (tS (Wi.nS (Wi.nS (Wi.nS st)))))))) rfl S3 (by simp [Value.oneCell',Sl.v]) (Cm.cs ⟨(Wi.nV st),(Wi.nV (Wi.nS st)),(Wi.nV (Wi.nS (Wi.nS st))),(Wi.strOf (tV (Wi.nS (Wi.nS (Wi.nS st))))),((fiV (tS (Wi.nS (Wi.nS (Wi.nS st))))).c),((fiV (tS (Wi.nS (Wi.nS (Wi.nS st))))).o),((fiV (Wi.aS (tS (Wi.nS (Wi.nS (Wi.nS st)))))).c),((fiV (Wi.aS (tS (Wi.nS (Wi.nS (Wi.nS st)))))).o),0⟩) rfl fun w21 HF=>?_;simp only[pS];refine Nl ?_;(try simp only[pS]);go_upto_region 11 with fail;refine Sg<|rP (Cm.cs ⟨(Wi.nV st),(Wi.nV (Wi.nS st)),(Wi.nV (Wi.nS (Wi.nS st))),(Wi.strOf (tV (Wi.nS (Wi.nS (Wi.nS st))))),((fiV (tS (Wi.nS (Wi.nS (Wi.nS st))))).c),((fiV (tS (Wi.nS (Wi.nS (Wi.nS st))))).o),((fiV (Wi.aS (tS (Wi.nS (Wi.nS (Wi.nS st)))))).c),((fiV (Wi.aS (tS (Wi.nS (Wi.nS (Wi.nS st)))))).o),(Wi.nV (Wi.aS (Wi.aS (tS (Wi.nS (Wi.nS (Wi.nS st)))))))⟩) HF 1 0 U39 S39 (Cm.cs ⟨(Wi.nV st),(Wi.nV (Wi.nS st)),(Wi.nV (Wi.nS (Wi.nS st))),(Wi.strOf (tV (Wi.nS (Wi.nS (Wi.nS st))))),((fiV (tS (Wi.nS (Wi.nS (Wi.nS st))))).c),((fiV (tS (Wi.nS (Wi.nS (Wi.nS st))))).o),((fiV (Wi.aS (tS (Wi.nS (Wi.nS (Wi.nS st)))))).c),((fiV (Wi.aS (tS (Wi.nS (Wi.nS (Wi.nS st)))))).o),(Wi.nV (Wi.aS (Wi.aS (tS (Wi.nS (Wi.nS (Wi.nS st)))))))⟩) rfl<|rW (Cm.cs ⟨(Wi.nV st),(Wi.nV (Wi.nS st)),(Wi.nV (Wi.nS (Wi.nS st))),(Wi.strOf (tV (Wi.nS (Wi.nS (Wi.nS st))))),((fiV (tS (Wi.nS (Wi.nS (Wi.nS st))))).c),((fiV (tS (Wi.nS (Wi.nS (Wi.nS st))))).o),((fiV (Wi.aS (tS (Wi.nS (Wi.nS (Wi.nS st)))))).c),((fiV (Wi.aS (tS (Wi.nS (Wi.nS (Wi.nS st)))))).o),(Wi.nV (Wi.aS (Wi.aS (tS (Wi.nS (Wi.nS (Wi.nS st)))))))⟩) (Cm.cs ⟨(Wi.nV st),(Wi.nV (Wi.nS st)),(Wi.nV (Wi.nS (Wi.nS st))),(Wi.strOf (tV (Wi.nS (Wi.nS (Wi.nS st))))),((fiV (tS (Wi.nS (Wi.nS (Wi.nS st))))).c),((fiV (tS (Wi.nS (Wi.nS (Wi.nS st))))).o),((fiV (Wi.aS (tS (Wi.nS (Wi.nS (Wi.nS st)))))).c),((fiV (Wi.aS (tS (Wi.nS (Wi.nS (Wi.nS st)))))).o),(Wi.nV (Wi.aS (Wi.aS (tS (Wi.nS (Wi.nS (Wi.nS st)))))))⟩) HF 0 0 (v:=.agg (Cm.cells ⟨(Wi.nV st),(Wi.nV (Wi.nS st)),(Wi.nV (Wi.nS (Wi.nS st))),(Wi.strOf (tV (Wi.nS (Wi.nS (Wi.nS st))))),((fiV (tS (Wi.nS (Wi.nS (Wi.nS st))))).c),((fiV (tS (Wi.nS (Wi.nS (Wi.nS st))))).o),((fiV (Wi.aS (tS (Wi.nS (Wi.nS (Wi.nS st)))))).c),((fiV (Wi.aS (tS (Wi.nS (Wi.nS (Wi.nS st)))))).o),(Wi.nV (Wi.aS (Wi.aS (tS (Wi.nS (Wi.nS (Wi.nS st)))))))⟩)) rfl S39 (Cm.oneL _) (Cm.cs cZ) rfl fun w22 HF=>?_;simp only[pS];refine Nl ?_;(try simp only[pS]);have e1:cmV st=cmW st:=by unfold cmV;rw [q1];rfl
  have e2:cmS st=Wi.nS (cm6 st):=by unfold cmS;rw [q1];rfl
  rw [e1,e2] at HC;go_wp2;rw [HC.out];refine bodyPost_ret (results_row1 (by rfl) _ _ g1 _ (by rfl) (run_load_part (HF.out.fq.box 0 _ _ _ rfl) (Part.all _) U39 rfl S39)) rfl ?_;exact HF.out.got _
end
def uR:Wi.RS→Prop
  | .ok zs _=>Wi.U8 zs
  | .bad _ c=>c≠0
def Took (st:Wi.RS) (L:List It) (st':Wi.RS):Prop:=uR st→uR st'∧∀ zs' a',st'=.ok zs' a'→∃ zs a,st=.ok zs a∧zs=encB L++zs'
theorem encB_app (A B:List It):encB (A++B)=encB A++encB B:=by simp [encB]
theorem Took.nil (st:Wi.RS):Took st [] st:=fun h=>⟨h,fun zs' a' e=>⟨zs',a',e,by simp [encB]⟩⟩
theorem Took.trans {st s1 s2:Wi.RS} {A B:List It} (h1:Took st A s1) (h2:Took s1 B s2):Took st (A++B) s2:=fun h=>by
  obtain ⟨u1,k1⟩:=h1 h
  obtain ⟨u2,k2⟩:=h2 u1
  refine ⟨u2,fun zs' a' e=>?_⟩
  obtain ⟨z1,a1,e1,rfl⟩:=k2 zs' a' e
  obtain ⟨z0,a0,e0,rfl⟩:=k1 _ a1 e1
  exact ⟨_,a0,e0,by rw [encB_app,List.append_assoc]⟩
theorem took_n (st:Wi.RS):Took st [It.n (Wi.nV st)] (Wi.nS st):=fun h=>by
  cases st with
  | bad p c=>exact ⟨h,fun zs' a' e=>by cases e⟩
  | ok zs a=>
    have h8:Wi.U8 zs:=h
    cases hq:Wi.nr zs with
    | error c=>
      have e1:Wi.nS (.ok zs a)=.bad a c:=by simp only[Wi.nS,Wi.numS,hq]
      rw [e1]
      exact ⟨by show c≠0;rcases Wi.nr_code hq with rfl | rfl <;> decide,fun zs' a' e=>by cases e⟩
    | ok q=>
      obtain ⟨u,k⟩:=q
      have e1:Wi.nS (.ok zs a)=.ok (zs.drop k) (a+k):=by simp only[Wi.nS,Wi.numS,hq]
      have e2:Wi.nV (.ok zs a)=(u:Int):=by simp only[Wi.nV,Wi.numS,hq]
      rw [e1,e2]
      refine ⟨h8.drop k,fun zs' a' e=>⟨zs,a,rfl,?_⟩⟩
      injection e with e1 _
      subst e1
      have hv:Wi.vr zs=.ok (u,k):=by
        unfold Wi.nr at hq
        split at hq
        · cases hq
        · rename_i u' k' hv
          split at hq
          · cases hq
          · simp only[Except.ok.injEq,Prod.mk.injEq] at hq
            obtain ⟨rfl,rfl⟩:=hq
            exact hv
      have hf:=Wi.vr_form h8 hv
      have:encB [It.n ((u:Nat):Int)]=Wi.vint u:=by simp [encB,encIt]
      rw [this,← hf,List.take_append_drop]
theorem took_t (st:Wi.RS):Took st [It.b (tV st)] (tS st):=fun h=>by
  cases st with
  | bad p c=>exact ⟨h,fun zs' a' e=>by cases e⟩
  | ok zs a=>
    have h8:Wi.U8 zs:=h
    cases hq:Wi.cr zs with
    | error c=>
      have e1:tS (.ok zs a)=.bad a c:=by simp only[tS,Wi.bytesS,hq]
      rw [e1]
      exact ⟨by show c≠0;rcases Wi.cr_code hq with rfl | rfl <;> decide,fun zs' a' e=>by cases e⟩
    | ok q=>
      obtain ⟨n,k⟩:=q
      have e1:tS (.ok zs a)=.ok (zs.drop (k+n)) (a+(k+n)):=by simp only[tS,Wi.bytesS,hq]
      have e2:tV (.ok zs a)=(zs.drop k).take n:=by simp only[tV,Wi.bytesS,hq]
      rw [e1,e2]
      refine ⟨h8.drop _,fun zs' a' e=>⟨zs,a,rfl,?_⟩⟩
      injection e with e1 _
      subst e1
      have hn:Wi.nr zs=.ok (n,k)∧n≤zs.length - k:=by
        unfold Wi.cr at hq
        split at hq
        · cases hq
        · rename_i n' k' hv
          split at hq
          · cases hq
          · rename_i hlt
            simp only[Except.ok.injEq,Prod.mk.injEq] at hq
            obtain ⟨rfl,rfl⟩:=hq
            exact ⟨hv,by omega⟩
      have hv:Wi.vr zs=.ok (n,k):=by
        have hq:=hn.1
        unfold Wi.nr at hq
        split at hq
        · cases hq
        · rename_i u' k' hv
          split at hq
          · cases hq
          · simp only[Except.ok.injEq,Prod.mk.injEq] at hq
            obtain ⟨rfl,rfl⟩:=hq
            exact hv
      have hf:=Wi.vr_form h8 hv
      have hl:((zs.drop k).take n).length=n:=by rw [List.length_take,List.length_drop];omega
      have:encB [It.b ((zs.drop k).take n)]=Wi.vint n++(zs.drop k).take n:=by simp only[encB,encIt,List.map_cons,List.map_nil,List.flatten_cons,List.flatten_nil,List.append_nil,hl]
      rw [this,← hf,List.append_assoc,← List.drop_drop,List.take_append_drop,List.take_append_drop]
theorem tV_u8 {st:Wi.RS} (h:uR st):Wi.U8 (tV st):=by
  cases st with
  | bad p c=>exact Wi.U8.nil
  | ok zs a=>
    have h8:Wi.U8 zs:=h
    cases hq:Wi.cr zs with
    | error c=>
      have e2:tV (.ok zs a)=[]:=by simp only[tV,Wi.bytesS,hq]
      rw [e2];exact Wi.U8.nil
    | ok q=>
      obtain ⟨n,k⟩:=q
      have e2:tV (.ok zs a)=(zs.drop k).take n:=by simp only[tV,Wi.bytesS,hq]
      rw [e2];exact (h8.drop _).take _
theorem took_x (st:Wi.RS):Took st [It.b (Wi.numsOf (Wi.strOf (tV st)))] (tS st):=fun h=>by
  have:=took_t st h
  rw [Wi.numsOf_strOf (tV_u8 h)]
  exact this
theorem took_2 (st:Wi.RS):Took st [It.n (Wi.nV st),It.n (Wi.nV (Wi.nS st))] (Wi.aS st):=(took_n st).trans (took_n _)
theorem took_cm (st:Wi.RS):Took st (cmdIts (cmV st)) (cmS st):=by
  unfold cmV cmS cmdIts
  cases hk:(Wi.nV st==0)
  · simp only[cond_false]
    have:(cmW st).k=Wi.nV st:=rfl
    rw [this,hk]
    simp only[cond_false]
    exact (took_n st).trans<|(took_n _).trans<|(took_n _).trans<|(took_x _).trans<|(took_2 _).trans<|(took_2 _).trans (took_n _)
  · simp only[cond_true]
    have h0:Wi.nV st=0:=eq_of_beq hk
    have h1:=took_n st
    rw [h0] at h1
    exact h1
theorem four_num {zs:List Int} (h:Wi.U8 zs) (hl:4≤zs.length):Wi.fourOf (Wi.numOf zs)=zs.take 4:=by
  match zs,hl with
  | a :: b :: c :: d :: r,_=>
    have h0:=h 0
    have h1:=h 1
    have h2:=h 2
    have h3:=h 3
    simp at h0 h1 h2 h3
    unfold Wi.fourOf Wi.numOf
    simp
    omega
theorem open_form {ys:List Int} (h:Wi.U8 ys) (ho:(Wi.openOf ys).2=0):Wi.sealOf (Wi.openOf ys).1=ys∧(Wi.openOf ys).1.length≤131072:=by
  unfold Wi.openOf at ho ⊢
  split at ho
  · cases ho
  rename_i h1
  split at ho
  · cases ho
  rename_i h2
  split at ho
  · cases ho
  rename_i h3
  split at ho
  · cases ho
  rename_i h4
  split at ho
  · cases ho
  rename_i h5
  split at ho
  · cases ho
  rename_i h6
  have hb:=Wi.numOf_bd h
  obtain ⟨n,hn⟩:∃ n:Nat,Wi.numOf ys=n:=⟨(Wi.numOf ys).toNat,by omega⟩
  rw [if_neg h1,if_neg h2,if_neg h3,if_neg h4,if_neg h5,if_neg h6]
  simp only[Decidable.not_not] at h2 h6
  rw [hn] at h3 h4 h5 h6 ⊢
  simp only[Int.toNat_natCast] at h6 ⊢
  have hlen:ys.length=n+12:=by omega
  have hbl:((ys.drop 8).take n).length=n:=by rw [List.length_take,List.length_drop];omega
  have e1:Wi.fourOf (n:Int)=ys.take 4:=by rw [← hn];exact four_num h (by omega)
  have e2:Wi.fourOf (Wi.sumOf (ys.take 4))=(ys.drop 4).take 4:=by rw [← h2];exact four_num (h.drop 4) (by rw [List.length_drop];omega)
  have e3:Wi.headOf ((ys.drop 8).take n)=ys.take 8:=by
    unfold Wi.headOf
    rw [hbl,e1,e2]
    rw [show (8:Nat)=4+4 from rfl,List.take_add]
  have e4:ys.take 8++(ys.drop 8).take n=ys.take (n+8):=by rw [show n+8=8+n by omega,List.take_add]
  have e5:Wi.fourOf (Wi.sumOf (ys.take (n+8)))=ys.drop (n+8):=by
    rw [← h6,four_num (h.drop _) (by rw [List.length_drop];omega),List.take_of_length_le (by rw [List.length_drop];omega)]
  refine ⟨?_,by rw [hbl];omega⟩
  unfold Wi.sealOf
  rw [e3,e4,e5,List.take_append_drop]
theorem nV_pos (st:Wi.RS):0≤Wi.nV st:=by
  cases st with
  | bad p c=>exact Int.le_refl 0
  | ok zs a=>
    cases hq:Wi.nr zs with
    | error c=>
      have e2:Wi.nV (.ok zs a)=0:=by simp only[Wi.nV,Wi.numS,hq]
      rw [e2];omega
    | ok q=>
      have e2:Wi.nV (.ok zs a)=((q.1:Nat):Int):=by simp only[Wi.nV,Wi.numS,hq]
      rw [e2];omega
theorem open_u8 {ys:List Int} (h8:Wi.U8 ys):Wi.U8 (Wi.openOf ys).1:=by unfold Wi.openOf;(repeat' split) <;> first | exact Wi.U8.nil | exact (h8.drop _).take _
section
variable {ops:Array Oper} {rest:List Oper} {o:Oper} {a:Act} {w:World} {Q:Exit→Act→World→Prop} {S:Nat→Prop} {w0:World} {l:List (Nat × TypeId × Array Value)}
theorem cOp {f:FuncId} {args:Array Value} {ys:List Int} (hc:Calls Tryz.prog f args w (Wi.Opens w ys)) (HF:Hid (Fq S w0 w l))
    (h:∀ (s:Sl) w',Hid (Fq S w0 w' l)→Hid (Wi.OwnS w' w.heap.size s.a s.k (Wi.openOf ys).1∧s.l=(Wi.openOf ys).1.length∧w0.heap.size≤w.heap.size∧w.heap.size≤w'.heap.size)→WL ops Q rest (a.put o.dst (.tuple #[s.v,.int .i64 (Wi.openOf ys).2])) w') (hrun:(execOp a.eval o).run Tryz.prog w=.ok (.enter f args) w:=by kernel_rfl) (hw:Region.wanted o (yielded ops a.tmps)=true:=by kernel_rfl):WL ops Q (o :: rest) a w:=
  wp_callW f args hrun _ hc hw (by rintro e w' ⟨a',n',c',rfl,h1,h2,hk⟩;exact ⟨_,rfl,h ⟨a',n',c'⟩ w' (HF.out.no (kw hk)) ⟨h2,h1,HF.out.kept.size,hk.size⟩⟩)
end
theorem strOf_eq {A B:List Int} (ha:Wi.U8 A) (hb:Wi.U8 B):eqN (Wi.strOf A) (Wi.strOf B)=decide (A=B):=by
  by_cases h:A=B
  · subst h;rw [decide_eq_true rfl];exact eqN_iff.2 rfl
  · rw [decide_eq_false h]
    cases hq:eqN (Wi.strOf A) (Wi.strOf B) with
    | false=>rfl
    | true=>
      exfalso
      have h1:=congrArg Wi.numsOf (eqN_iff.1 hq);rw [Wi.numsOf_strOf ha,Wi.numsOf_strOf hb] at h1;exact h h1
theorem inErr {i g:Nat} {ba:Option Addr} {bc:Nat} {bs:List Int} {w:World} {s:Wi.RS × Bool} (h:(inSrc i g ba bc bs).St w s):w.cell? ⟨g,2,none⟩=some (.int .i64 (Wi.errS s.1).2):=by
  obtain ⟨st,b⟩:=s;have h2:=h.2.1;cases st with
  | ok zs at_=>
    have hb:Box w g 172 _:=h2.1.cell;exact hb.cell 2
  | bad p c=>
    obtain ⟨_,at_,hr⟩:=h2;have hb:Box w g 172 _:=hr.cell;exact hb.cell 2
theorem inMore {i g:Nat} {ba:Option Addr} {bc:Nat} {bs:List Int} {w:World} {s:Wi.RS × Bool} (h:(inSrc i g ba bc bs).St w s):Calls Tryz.prog 123 #[.pointer (some ⟨g,0,none⟩)] w (fun e w'=>e=.returned (.bool (Wi.moreS s.1))∧Kept No w w'):=
  (Wi.rmore_all g ba bc bs s.1 w h.2.1).mono (by rintro e w' ⟨rfl,n,rfl⟩;exact ⟨rfl,kw ((Wi.Kept.refl _ _).drewN n)⟩)
section
variable {ops:Array Oper} {rest:List Oper} {o:Oper} {a:Act} {w:World} {Q:Exit→Act→World→Prop} {K:Src} {w0:World} {s s':Wi.RS × Bool} {l:List (Nat × TypeId × Array Value)}
theorem rZ2 {x:Sl} {bs:List Int} (h1:RdB w x bs) (h8:Wi.U8 bs) (h:WL ops Q rest (a.put o.dst (.string (Wi.strOf bs))) w) {y:Operand} (ho:o.op=.convert 35 9 y:=by rfl) (hx:a.eval y=x.v:=by kernel_rfl)
    (hw:Region.wanted o (yielded ops a.tmps)=true:=by kernel_rfl):WL ops Q (o :: rest) a w:=
  tW _ (exec_convW 35 9 y ho hx (Wi.run_str h1.row h8 h1.len)) h hw
end
theorem sl_off {w:World} {x:Sl} {bs:List Int} (h:Wi.Sl w x.a x.l x.k bs) (h0:0 < bs.length) {k g:Nat} (hk:Wi.At x.a k) {T:TypeId} {cs:Array Value} (hb:Box w g T cs) (hv:∀ (i:Nat) z,cs[i]?≠some (.int .u8 z)):k≠g:=by
  rintro rfl;obtain ⟨b,off,e,hc⟩:=h.bytes 0 h0;obtain ⟨ad,e2,rfl⟩:=hk;rw [e] at e2;cases e2;rw [hb.cell] at hc;exact hv _ _ hc
theorem sl_rd {w:World} {x:Sl} {bs:List Int} (h:Wi.Sl w x.a x.l x.k bs):RdB w x bs:=⟨h.bytes,h.len,h.nil⟩
set_option maxRecDepth 100000 in
set_option maxHeartbeats 4000000 in
theorem r_same0 (x y:Sl) (A B:List Int) (w:World) (h1:RdB w x A∧Wi.U8 A) (h2:RdB w y B∧Wi.U8 B):Calls Tryz.prog 124 #[x.v,y.v] w (fun e w'=>e=.returned (.bool (decide (A=B)))∧Kept No w w'):=by
  refine hidC fun C HC=>?_;have HA:Hid (RdB w x A∧Wi.U8 A):=h1;have HB:Hid (RdB w y B∧Wi.U8 B):=h2;clear h1 h2;have HF:Hid (Fq No w w []):=Fq.start _ _;go_enter Tryz.func124,Tryz.ntmps124;go_upto_region 0 with fail;refine Sg<|tF<|Nl ?_;simp only[pS];go_upto_region 1 with fail;refine Sg<|tK (x.v)<|rZ2 (HA.out.1.no HF.out.kept) HA.out.2<|tK (y.v)<|rZ2 (HB.out.1.no HF.out.kept) HB.out.2<|?_;simp only[pS];cases q1:(eqN (Wi.strOf A) (Wi.strOf B))
  ·refine bN (eN q1)<|tF<|Nl ?_;simp only[pS];have hz:=strOf_eq HA.out.2 HB.out.2;rw [q1] at hz;go_wp2;rw [HC.out,← hz];exact ⟨rfl,HF.out.kept⟩
  refine bN (eN q1)<|tU<|Nl ?_;simp only[pS];have hz:=strOf_eq HA.out.2 HB.out.2;rw [q1] at hz;go_wp2;rw [HC.out,← hz];exact ⟨rfl,HF.out.kept⟩
theorem r_same (x y:Sl) (A B:List Int) (w:World) (h1:RdB w x A) (h2:Wi.Sl w y.a y.l y.k B) (h3:Wi.U8 A):Calls Tryz.prog 124 #[x.v,y.v] w (fun e w'=>e=.returned (.bool (decide (A=B)))∧Kept No w w'):=r_same0 x y A B w ⟨h1,h3⟩ ⟨sl_rd h2,h2.u8⟩
theorem all_one {l:List Value} (h:∀ v∈l,v.oneCell'=true):l.toArray.all (·.oneCell')=true:=by
  rw [List.all_toArray];exact List.all_eq_true.2 h
end Go.Proofs.YtgdnofacgfjaeaaGreat.Md
namespace Go.Proofs.YtgdnofacgfjaeaaGreat.Wi
open Go.RowKit
set_option linter.unusedVariables false
def BytesOut (w0 W:World) (r g lb:Nat) (odd:Bool) (st:RS) (e:Ending) (w':World):Prop:=
  ∃ a' n' c',e=.returned (.slice a' n' c')∧n'=(bytesS st).2.length∧OwnS w' W.heap.size a' c' (bytesS st).2∧RdM w0 w' r g lb odd (bytesS st).1∧w'.cell? ⟨r,0,none⟩=some (.pointer (some ⟨g,0,none⟩))
theorem RdM.bytes {w0 W:World} {r g lb:Nat} {odd:Bool} {st:RS} (h:RdM w0 W r g lb odd st) :
    Calls Tryz.prog 188 #[.pointer (some ⟨g,0,none⟩)] W (BytesOut w0 W r g lb odd st):=by
  refine (Bytes_all g lb st W h.rs).mono ?_
  rintro e w' ⟨a',n',c',rfl,hn,hO,h1,h2⟩
  have H:RdM w0 w' r g lb odd (bytesS st).1:=⟨h.box.kept h2 (fun e=>h.rg e),h1,h.rg,h.rl,Nat.lt_of_lt_of_le h.ltl h2.size,h.kept.then (h2.mono (fun i _ e=>.inr e))⟩
  exact ⟨a',n',c',rfl,hn,hO,H,H.c0⟩
def BlockOut (w0 W:World) (r g lb:Nat) (odd:Bool) (st:RS) (e:Ending) (w':World):Prop:=
  ∃ a' n' c',e=.returned (.agg #[.int .i64 (nV st),.int .i64 (nV (nS st)),.slice a' n' c'])∧n'=(bytesS (aS st)).2.length∧OwnS w' (W.heap.size+1) a' c' (bytesS (aS st)).2∧RdM w0 w' r g lb odd (bytesS (aS st)).1
set_option maxRecDepth 100000 in
set_option maxHeartbeats 2000000 in
theorem RdM.block {w0 W:World} {r g lb:Nat} {odd:Bool} {st:RS} (h:RdM w0 W r g lb odd st) :
    Calls Tryz.prog 146 #[.pointer (some ⟨r,0,none⟩)] W (BlockOut w0 W r g lb odd st):=by
  have HR:Hid (RdM w0 W r g lb odd st):=h
  have q0:=h.c0
  clear h
  go_enter Tryz.func146,Tryz.ntmps146
  go_upto_region 1 with fail
  obtain ⟨w1,hw1⟩:∃ w1,w1=W.alloc (.cells #[.int .i64 0,.int .i64 0,.slice none 0 0] 73):=⟨_,rfl⟩
  rw [← hw1]
  have hk1:Kept No W w1:=by rw [hw1];exact (Kept.refl No W).alloc _
  have HB1:Hid (Box w1 W.heap.size 73 #[.int .i64 0,.int .i64 0,.slice none 0 0]):=by rw [hw1];exact Box.new _ _ _
  have HR1:Hid (RdM w0 w1 r g lb odd st):=HR.out.no hk1
  have q1:=HR1.out.c0
  have HN:Hid (W.heap.size≠r∧W.heap.size≠g∧W.heap.size≠lb∧w0.heap.size≤W.heap.size∧W.heap.size+1≤w1.heap.size):=⟨by have:=HR.out.ltr;omega,by have:=HR.out.ltg;omega,by have:=HR.out.ltl;omega,HR.out.kept.size,HB1.out.lt⟩
  have HA:Hid (RdM w1 w1 r g lb odd st):=HR1.out.anew
  have HKs:Hid (Kept (fun k=>k=r∨k=g) w0 w1):=HR1.out.kept
  have n1:W.heap.size≠r:=HN.out.1
  have n2:r≠W.heap.size:=fun e=>n1 e.symm
  clear hk1 hw1 q0 HR HR1
  go_region_held3 (fun w'=>w'.cell? ⟨r,0,none⟩=some (.pointer (some ⟨g,0,none⟩))) (go_keep) (first
    | (go_at_call 187;refine ((HA.out.no ((Kept.refl No _).drew)).stamp).mono ?_;rintro e w2 ⟨rfl,hr2,q2⟩;have HR2:Hid (RdM w1 w2 r g lb odd (aS st)):=hr2;clear hr2)
    | (go_at_call 188;refine (HR2.out.bytes).mono ?_;rintro e w3 ⟨a3,m3,c3,rfl,hn3,hO3,hr3,q3⟩;have HR3:Hid (RdM w1 w3 r g lb odd (bytesS (aS st)).1):=hr3;have HO3:Hid (m3=(bytesS (aS st)).2.length∧OwnS w3 w2.heap.size a3 c3 (bytesS (aS st)).2∧w1.heap.size≤w2.heap.size):=⟨hn3,hO3,HR2.out.kept.size⟩;have HB3:Hid (Box w3 W.heap.size 73 #[.int .i64 0,.int .i64 0,.slice none 0 0]):=hr3.other HB1.out HN.out.1 HN.out.2.1;have b0:=HB3.out.cell 0;have b1:=HB3.out.cell 1;have b2:=HB3.out.cell 2;have f0:=HB3.out.frozen 0;have f1:=HB3.out.frozen 1;have f2:=HB3.out.frozen 2;clear hr3 hn3 hO3))
  have hk:∀ (X:World) (i:Nat) (v:Value),Kept (Only W.heap.size) X (X.setCell ⟨W.heap.size,i,none⟩ v):=fun X i v=>(Kept.refl (Only W.heap.size) X).setCell (p:=⟨W.heap.size,i,none⟩) (fun _=>rfl) _
  obtain ⟨w4,hw4⟩:∃ w4,w4=((w3.setCell ⟨W.heap.size,0,none⟩ (.int .i64 (nV st))).setCell ⟨W.heap.size,1,none⟩ (.int .i64 (nV (nS st)))).setCell ⟨W.heap.size,2,none⟩ (.slice a3 m3 c3):=⟨_,rfl⟩
  have hk4:Kept (Only W.heap.size) w3 w4:=by rw [hw4];exact ((hk w3 0 _).then (hk _ 1 _)).then (hk _ 2 _)
  have HF:Hid (Box w4 W.heap.size 73 #[.int .i64 (nV st),.int .i64 (nV (nS st)),.slice a3 m3 c3]):=by rw [hw4];exact ((HB3.out.set 0 _).set 1 _).set 2 _
  have HRF:Hid (RdM w0 w4 r g lb odd (bytesS (aS st)).1):=(HR3.out.since HKs.out).apart hk4 (fun e=>n2 e) (fun e=>HN.out.2.1 e.symm) (fun e=>HN.out.2.2.1 e.symm) (fun i hi e=>by have h1:=HN.out.2.2.2.1;have h2:i=W.heap.size:=e;omega)
  have HOF:Hid (OwnS w4 (W.heap.size+1) a3 c3 (bytesS (aS st)).2):=(HO3.out.2.1.lower (by have:=HO3.out.2.2;have:=HN.out;omega)).kept hk4 (fun k hk e=>by have h1:=HO3.out.2.1.base hk;have h2:=HO3.out.2.2;have h3:=HN.out;have h4:k=W.heap.size:=e;omega)
  rw [← hw4]
  clear hw4 hk4 hk
  go_wp2
  refine bodyPost_ret (results_cell_row (by rfl) _ w4 W.heap.size 73 #[.int .i64 (nV st),.int .i64 (nV (nS st)),.slice a3 m3 c3] (0,0) _ (by rfl) HF.out Tryz.underlying73 rfl (by kernel_rfl)) rfl ?_
  exact ⟨a3,m3,c3,rfl,HO3.out.1,HOF.out,HRF.out⟩
end Go.Proofs.YtgdnofacgfjaeaaGreat.Wi
