import Derived.Test.YtgdnofacgfjaeaaGreatLa
namespace Go.Proofs.YtgdnofacgfjaeaaGreat.Md
set_option maxRecDepth 100000
set_option maxHeartbeats 4000000
open Go.RowKit
set_option linter.unusedVariables false
set_option linter.unusedSimpArgs false
def itOf (x:Wi.Item):It:=if x.k=1 then It.n x.n else It.b x.zs
def itmV (x:Wi.Item):List Value:=[.int .i64 x.k,.int .i64 x.n,.slice x.a x.m x.c]
def itsV (xs:List Wi.Item):List Value:=(xs.map itmV).flatten
def Bye (base:Nat) (w:World) (a:Option Addr):Prop:=∀ k,At a k→k < base∨∃ cs fr,w.heap[k]?=some (.cells cs 5 fr)
structure OkX (base:Nat) (w:World) (x:Wi.Item):Prop where
  kd:x.k=1∨x.k=3
  ok:Wi.ItOq w x
  by':0 < x.m→Bye base w x.a
  m0:x.k=1→x.m=0
structure OutS (base g:Nat) (w:World) (a:Option Addr) (L:List It) (xs:List Wi.Item) (n c:Nat):Prop where
  box:Box w g 104 #[.slice a n c]
  own:Own 182 3 w base a c n (itsV xs)
  len:xs.length=n
  is:xs.map itOf=L
  ok:∀ x∈xs,OkX base w x
  bg:base≤g
theorem OkX.keep {base:Nat} {S:Nat→Prop} {w w':World} {x:Wi.Item} (h:OkX base w x) (hk:Kept S w w') (hS:0 < x.m→∀ k,At x.a k→¬ S k):OkX base w' x:=by
  refine ⟨h.kd,⟨?_,h.ok.lo,h.ok.hi⟩,fun h0 k hk2=>?_,h.m0⟩
  · exact Wi.Sq.kept (S:=S) h.ok.sl ⟨hk.os,hk.tape,hk.output,hk.size,hk.block⟩ hS
  · rcases h.by' h0 k hk2 with h1 | ⟨cs,fr,h1⟩
    · exact .inl h1
    · exact .inr ⟨cs,fr,(hk.block k (Array.getElem?_eq_some_iff.1 h1).1 (hS h0 k hk2)).trans h1⟩
theorem own_typ {t:TypeId} {c:Nat} {w:World} {base:Nat} {a:Option Addr} {cap n:Nat} {vs:List Value} (h:Own t c w base a cap n vs) {k:Nat} (hk:At a k):∃ cur,w.heap[k]?=some (.cells cur t (0,0)):=by
  obtain ⟨ad,rfl,rfl⟩:=hk
  rcases h.2 with ⟨hv,_⟩ | ⟨g,cap',cur,hv,hb,hg,_⟩
  · simp only[Value.slice.injEq] at hv;cases hv.1
  · simp only[Value.slice.injEq,Option.some.injEq] at hv;rw [hv.1];exact ⟨cur,hg⟩
theorem cells_ty {w:World} {k:Nat} {c1 c2:Array Value} {t1 t2:TypeId} {f1 f2:Nat × Nat} (h1:w.heap[k]?=some (.cells c1 t1 f1)) (h2:w.heap[k]?=some (.cells c2 t2 f2)):t1=t2:=by
  rw [h1] at h2;injection h2 with e;injection e with _ e2
theorem OutS.keep {base g:Nat} {S:Nat→Prop} {w w':World} {a:Option Addr} {L:List It} {xs:List Wi.Item} {n c:Nat} (h:OutS base g w a L xs n c) (hk:Kept S w w') (hg:¬ S g) (ha:∀ k,At a k→¬ S k) (hx:∀ x∈xs,0 < x.m→∀ k,At x.a k→¬ S k):OutS base g w' a L xs n c:=
  ⟨h.box.kept hk hg,h.own.kept hk ha,h.len,h.is,fun x hm=>(h.ok x hm).keep hk (hx x hm),h.bg⟩
theorem exec_appN {o:Oper} {a:Act} {w w':World} {v:Value} (s x:Operand) (T T':TypeId) (ho:o.op=.call { callee:=Callee.builtin Builtin.append,args:=#[s,x],argTypes:=#[T,T'] }) (vs vx:Value) (hs:a.eval s=vs) (hx:a.eval x=vx)
    (hrun:(Builtin.append_ #[T,T'] o.type #[vs,vx]).run Tryz.prog w=.ok v w'):(execOp a.eval o).run Tryz.prog w=.ok (.value v) w':=by
  simp [execOp,ho,resolve,invoke,builtin,hs,hx,hrun,Result.andThen]
theorem U102:Tryz.prog.underlying 102=some (.slice 182):=by kernel_rfl
theorem S102:(Tryz.prog.info? 102).map (·.size)=some 1:=by kernel_rfl
def zItem:List Value:=[.int .i64 0,.int .i64 0,.slice none 0 0]
theorem I182:(Tryz.prog.info? 182).map (fun i=>(i.zero,i.size,i.bytes))=some (some (.agg zItem.toArray),3,40):=by kernel_rfl
theorem itsLen_ge (L:List It):10 * L.length≤itsLen L:=by
  induction L with
  | nil=>exact Nat.le_refl _
  | cons x r ih=>
    have:itsLen (x :: r)=itLen x+itsLen r:=by simp [itsLen]
    have h2:10≤itLen x:=by cases x <;> simp [itLen]
    rw [List.length_cons];omega
theorem OutS.lt {base g:Nat} {w:World} {a:Option Addr} {L:List It} {xs:List Wi.Item} {n c:Nat} (h:OutS base g w a L xs n c) {k:Nat} (hk:k=g∨At a k):base≤k:=by
  rcases hk with rfl | hk
  · exact h.bg
  · exact h.own.base hk
theorem OkX.off {base g:Nat} {w:World} {a:Option Addr} {L:List It} {xs:List Wi.Item} {n c:Nat} (h:OutS base g w a L xs n c) {x:Wi.Item} (hx:OkX base w x) (h0:0 < x.m) {k:Nat} (hk:At x.a k):¬ (k=g∨At a k):=by
  intro e
  rcases hx.by' h0 k hk with h1 | ⟨cs,fr,h1⟩
  · have:=h.lt e;omega
  · rcases e with rfl | e
    · have:=cells_ty h1 h.box;cases this
    · obtain ⟨cur,h2⟩:=own_typ h.own e
      have:=cells_ty h1 h2;cases this
def rSink (base g:Nat) (T:List It) (ok:∀ x∈T,itOk x) (len:itsLen T≤131072):Sink where
  g:=g
  base:=base
  bad t:=t=104∨t=182∨t=5
  T:=T
  ok:=ok
  len:=len
  St w a L:=∃ xs n c,OutS base g w a L xs n c
  no:=fun ⟨xs,n,c,h⟩ hk=>⟨xs,n,c,h.keep hk (fun e=>e) (fun _ _ e=>e) (fun _ _ _ _ _ e=>e)⟩
  set:=fun {w a L k t cs} ⟨xs,n,c,h⟩ hb h1 hbk cs'=>⟨xs,n,c,h.keep (Kept.setRow w k cs') (fun e=>h1 (.inl (by
      have e1:g=k:=e;subst e1;exact cells_ty hb h.box))) (fun k2 hk e=>h1 (.inr (.inl (by
      have e1:k2=k:=e;subst e1;obtain ⟨cur,h2⟩:=own_typ h.own hk;exact cells_ty hb h2)))) (fun x hm h0 k2 hk e=>by
      have e1:k2=k:=e;subst e1
      rcases (h.ok x hm).by' h0 k2 hk with h2 | ⟨cs2,fr,h2⟩
      · omega
      · exact h1 (.inr (.inr (cells_ty hb h2))))⟩
  bs:=fun ⟨xs,n,c,h⟩=>Nat.le_of_lt (Nat.lt_of_le_of_lt h.bg h.box.lt)
  apart:=fun {w a L k t cs} ⟨xs,n,c,h⟩ hb h1 e=>by
    rcases e with rfl | e
    · exact h1 (.inl (cells_ty hb h.box))
    · obtain ⟨cur,h2⟩:=own_typ h.own e
      exact h1 (.inr (.inl (cells_ty hb h2)))
theorem itsV_app (xs:List Wi.Item) (x:Wi.Item):itsV (xs++[x])=itsV xs++itmV x:=by simp [itsV]
theorem itmV_one (x:Wi.Item):∀ v∈itmV x,v.oneCell'=true:=by simp [itmV,Value.oneCell']
section
variable {base g:Nat} {T:List It} {ok:∀ x∈T,itOk x} {len:itsLen T≤131072}
theorem rT {t:TypeId} (h:¬ (t=104∨t=182∨t=5):=by decide):¬ (rSink base g T ok len).bad t:=h
theorem r_base {w:World} {a:Option Addr} {L:List It} (h:(rSink base g T ok len).St w a L) {k:Nat} (hk:(rSink base g T ok len).Wr a k):base≤k:=by
  obtain ⟨xs,n,c,h⟩:=h;exact h.lt hk
theorem OutS.app {w:World} {a:Option Addr} {L:List It} {xs:List Wi.Item} {n c:Nat} (h:OutS base g w a L xs n c) (x:Wi.Item) (hx:OkX base w x) (hn:n≤13108) (T1:TypeId) :
    ∃ a' c' w2,(Builtin.append_ #[102,102] T1 #[.slice a n c,.slice (some ⟨w.heap.size,0,none⟩) 1 1]).run Tryz.prog (w.alloc (.cells (itmV x).toArray 182))=.ok (.slice a' (n+1) c') w2 ∧
      Box w2 g 104 #[.slice a n c]∧OutS base g (w2.setRow g #[.slice a' (n+1) c']) a' (L++[itOf x]) (xs++[x]) (n+1) c'∧Kept ((rSink base g T ok len).Wr a) w (w2.setRow g #[.slice a' (n+1) c'])∧∀ k,At a' k→At a k∨w.heap.size≤k:=by
  have hk1:Kept No w (w.alloc (.cells (itmV x).toArray 182)):=(Kept.refl No w).alloc _;have h1:=h.keep hk1 (fun e=>e) (fun _ _ e=>e) (fun _ _ _ _ _ e=>e);have hb1:Box (w.alloc (.cells (itmV x).toArray 182)) w.heap.size 182 (itmV x).toArray:=Box.new _ _ _;obtain ⟨a',c',w2,hr,ho,hk,hat⟩:=run_appN (w:=w.alloc (.cells (itmV x).toArray 182)) 102 T1 182 3 40 (.agg zItem.toArray) U102 I182 rfl (by omega) base n c a (itsV xs) h1.own (some ⟨w.heap.size,0,none⟩) 1 1 (itmV x) rfl (fun e=>by cases e) (fun j u hj=>⟨_,rfl,by rw [addr_add,Nat.zero_add,hb1.cell,List.getElem?_toArray];exact hj⟩) (itmV_one x) (by omega) (by omega) (Nat.le_trans (Nat.le_of_lt (Nat.lt_of_le_of_lt h.bg h.box.lt)) hk1.size);have hga:¬ At a g:=fun e=>by
    obtain ⟨cur,h2⟩:=own_typ h.own e;have:=cells_ty h.box h2;cases this
  have hbx:Box w2 g 104 #[.slice a n c]:=h1.box.kept hk hga;have hga2:¬ At a' g:=fun e=>by
    obtain ⟨cur,h2⟩:=own_typ ho e;have:=cells_ty hbx h2;cases this
  have hk3:Kept (Only g) w2 (w2.setRow g #[.slice a' (n+1) c']):=Kept.setRow _ _ _;have hx1:=hx.keep hk1 (fun _ _ _ e=>e);have old:∀ y,OkX base (w.alloc (.cells (itmV x).toArray 182)) y→OkX base (w2.setRow g #[.slice a' (n+1) c']) y:=fun y hy=>
    (hy.keep hk (fun h0 k hk2 e=>OkX.off h1 hy h0 hk2 (.inr e))).keep hk3 (fun h0 k hk2 e=>by
      have e1:k=g:=e;exact OkX.off h1 hy h0 hk2 (.inl e1))
  refine ⟨a',c',w2,hr,hbx,⟨hbx.setRow _,?_,by rw [List.length_append,h.len];rfl,by rw [List.map_append,h.is];rfl,?_,h.bg⟩,?_,?_⟩
  · rw [itsV_app]
    exact ho.kept hk3 (fun k hk2 e=>hga2 (by have e1:k=g:=e;rw [← e1];exact hk2))
  · intro y hy
    rcases List.mem_append.1 hy with hy | hy
    · exact old y (h1.ok y hy)
    · rw [List.mem_singleton.1 hy];exact old x hx1
  · exact (hk1.trans hk (fun _ e=>e.elim) (fun k _ e=>.inr e)).trans hk3 (fun _ e=>e) (fun k _ e=>.inl e)
  · intro k hk2
    rcases hat k hk2 with e | e
    · exact .inl e
    · right
      rw [e];exact hk1.size
theorem r_room {L:List It} {x:It} (hp:L++[x] <+: T) {w:World} {a:Option Addr} {xs:List Wi.Item} {n c:Nat} (h:OutS base g w a L xs n c) (len:itsLen T≤131072):n≤13108:=by
  have h1:=pre_len hp;have h2:=itsLen_ge (L++[x]);rw [List.length_append] at h2;have h3:L.length=n:=by rw [← h.is,List.length_map,h.len]
  simp only[List.length_singleton] at h2;omega
end
section
variable {base g:Nat} {T:List It} {ok:∀ x∈T,itOk x} {len:itsLen T≤131072}
theorem r_num (i:Int) (w:World) (a:Option Addr) (L:List It) (h:(rSink base g T ok len).St w a L) (hp:L++[It.n i] <+: T):Calls Tryz.prog 117 #[.pointer (some ⟨g,0,none⟩),.int .i64 i] w ((rSink base g T ok len).Put w a (L++[It.n i])):=by
  obtain ⟨xs,n,c,hO⟩:=h;have hn:=r_room hp hO len;have hX:OkX base w ⟨1,i,none,0,0,[]⟩:=⟨.inl rfl,⟨⟨rfl,fun i hi=>absurd hi (Nat.not_lt_zero _),by show 0≤_;omega,fun _=>rfl⟩,by have:itOk (.n i):=ok _ (pre_mem hp);have:=this.1;show _≤i;omega,by have:itOk (.n i):=ok _ (pre_mem hp);have:=this.2;show i≤_;omega⟩,fun h0=>absurd h0 (Nat.lt_irrefl 0),fun _=>rfl⟩;obtain ⟨a',c',w2,hr,hbx,hO2,hk,hat⟩:=hO.app (T:=T) (ok:=ok) (len:=len) ⟨1,i,none,0,0,[]⟩ hX hn 102;have HB:Hid (Box w g 104 #[.slice a n c]):=hO.box;have HB2:Hid (Box w2 g 104 #[.slice a n c]):=hbx;have HR:Hid _:=hr;obtain ⟨C,hC⟩:∃ C:Ending→World→Prop,C=((rSink base g T ok len).Put w a (L++[It.n i])):=⟨_,rfl⟩;have HC:Hid (C=((rSink base g T ok len).Put w a (L++[It.n i]))):=hC;have HE:Hid (∀ w',w'=w2.setRow g #[.slice a' (n+1) c']→C (.returned (.tuple #[])) w'):=fun w' e=>by rw [hC,e];exact ⟨rfl,a',⟨_,_,_,hO2⟩,hk,hat⟩
  rw [← hC];clear hC hO hp hX hbx hO2 hk hat hr;go_enter Tryz.func117,Tryz.ntmps117;go_upto_region 0 with fail;refine Sg<|tK (pg g 0)<|tK (pg g 0)<|tK (pg g 0)<|tK (pg g 0)<|lR (load_one (HB.out.cell 0) U102 rfl)<|tK (.int .i64 i)<|bD (itmV ⟨1,i,none,0,0,[]⟩).toArray<|?_;simp only[pS];refine wp_runW (.slice (some ⟨w.heap.size,0,none⟩) 1 1) (w.alloc (.cells (itmV ⟨1,i,none,0,0,[]⟩).toArray 182)) (by kernel_rfl) (by kernel_rfl) ?_;(try simp only[pS]);refine wp_runW (.slice a' (n+1) c') w2 (exec_appN _ _ 102 102 rfl _ _ (by kernel_rfl) (by kernel_rfl) HR.out) (by kernel_rfl) ?_;(try simp only[pS]);refine tK (pg g 0)<|tK (pg g 0)<|?_;simp only[pS];refine wp_storeW 102 _ _ rfl ⟨g,0,none⟩ (.slice a' (n+1) c') (by kernel_rfl) (by kernel_rfl) _ (run_store_to (cur:=[.slice a n c]) (vs:=[.slice a' (n+1) c']) (new:=[.slice a' (n+1) c']) HB2.out rfl S102 (Nat.le_refl _) (by simp [Value.oneCell',Sl.v]) rfl) (by kernel_rfl) ?_;(try simp only[pS]);refine WL.nil ?_;(try simp only[pS]);go_wp2;go_end0;exact HE.out _ rfl
theorem r_bytes (s:Sl) (bs:List Int) (w:World) (a:Option Addr) (L:List It) (h:(rSink base g T ok len).St w a L) (hp:L++[It.b bs] <+: T) (hs:RdB w s bs) (hy:0 < s.l→Bye base w s.a):Calls Tryz.prog 64 #[.pointer (some ⟨g,0,none⟩),s.v] w ((rSink base g T ok len).Put w a (L++[It.b bs])):=by
  obtain ⟨xs,n,c,hO⟩:=h;have hn:=r_room hp hO len;have hX:OkX base w ⟨3,0,s.a,s.l,s.k,bs⟩:=⟨.inr rfl,⟨⟨hs.len,hs.row,by have:itOk (.b bs):=ok _ (pre_mem hp);have:=this.1;have:=hs.len;show s.l≤_;omega,hs.cap⟩,by show _≤(0:Int);omega,by show (0:Int)≤_;omega⟩,hy,fun e=>by cases e⟩;obtain ⟨a',c',w2,hr,hbx,hO2,hk,hat⟩:=hO.app (T:=T) (ok:=ok) (len:=len) ⟨3,0,s.a,s.l,s.k,bs⟩ hX hn 102;have HB:Hid (Box w g 104 #[.slice a n c]):=hO.box;have HB2:Hid (Box w2 g 104 #[.slice a n c]):=hbx;have HR:Hid _:=hr;obtain ⟨C,hC⟩:∃ C:Ending→World→Prop,C=((rSink base g T ok len).Put w a (L++[It.b bs])):=⟨_,rfl⟩;have HC:Hid (C=((rSink base g T ok len).Put w a (L++[It.b bs]))):=hC;have HE:Hid (∀ w',w'=w2.setRow g #[.slice a' (n+1) c']→C (.returned (.tuple #[])) w'):=fun w' e=>by rw [hC,e];exact ⟨rfl,a',⟨_,_,_,hO2⟩,hk,hat⟩
  rw [← hC];clear hC hO hp hX hbx hO2 hk hat hr;go_enter Tryz.func64,Tryz.ntmps64;go_upto_region 0 with fail;refine Sg<|tK (pg g 0)<|tK (pg g 0)<|tK (pg g 0)<|tK (pg g 0)<|lR (load_one (HB.out.cell 0) U102 rfl)<|tK (s.v)<|bD (itmV ⟨3,0,s.a,s.l,s.k,bs⟩).toArray<|?_;simp only[pS];refine wp_runW (.slice (some ⟨w.heap.size,0,none⟩) 1 1) (w.alloc (.cells (itmV ⟨3,0,s.a,s.l,s.k,bs⟩).toArray 182)) (by kernel_rfl) (by kernel_rfl) ?_;(try simp only[pS]);refine wp_runW (.slice a' (n+1) c') w2 (exec_appN _ _ 102 102 rfl _ _ (by kernel_rfl) (by kernel_rfl) HR.out) (by kernel_rfl) ?_;(try simp only[pS]);refine tK (pg g 0)<|tK (pg g 0)<|?_;simp only[pS];refine wp_storeW 102 _ _ rfl ⟨g,0,none⟩ (.slice a' (n+1) c') (by kernel_rfl) (by kernel_rfl) _ (run_store_to (cur:=[.slice a n c]) (vs:=[.slice a' (n+1) c']) (new:=[.slice a' (n+1) c']) HB2.out rfl S102 (Nat.le_refl _) (by simp [Value.oneCell',Sl.v]) rfl) (by kernel_rfl) ?_;(try simp only[pS]);refine WL.nil ?_;(try simp only[pS]);go_wp2;go_end0;exact HE.out _ rfl
end
theorem pfx0 {L M X T:List It} (HP:L++M <+: T) (h:X <+: M):(L++[])++X <+: T:=by
  obtain ⟨R,rfl⟩:=h;obtain ⟨R2,rfl⟩:=HP;exact ⟨R++R2,by simp⟩
theorem run_bytes5 (w:World) (s:ByteArray) :
    ∃ c w',(convert 9 35 (.string s)).run Tryz.prog w=.ok (.slice (some ⟨w.heap.size,0,none⟩) s.size c) w'∧Wi.Bytes w' (some ⟨w.heap.size,0,none⟩) (Wi.numsOf s)∧Kept No w w'∧∃ cs fr,w'.heap[w.heap.size]?=some (.cells cs 5 fr):=by
  refine ⟨_,_,run_bytes_of_string w 9 35 5 s Tryz.und9 U35 U5,?_,((Kept.refl _ _).drew).alloc _,?_⟩
  · intro i hi
    refine ⟨_,_,rfl,?_⟩;rw [Nat.zero_add];have:=World.cell?_alloc_mark w.drew (bytesRow s (grownCap w s.size 0 5)) 5 ((bytesRow s (grownCap w s.size 0 5)).size,(bytesRow s (grownCap w s.size 0 5)).size+1) i;rw [show w.drew.heap.size=w.heap.size from rfl] at this;rw [this];have hi':i < s.data.size:=by simpa [Wi.numsOf] using hi
    unfold bytesRow;rw [Array.getElem?_append_left (by simpa using hi'),List.getElem?_eq_getElem hi];rw [Array.getElem?_eq_getElem (by simpa using hi')]
    simp [Wi.numsOf]
  · refine ⟨bytesRow s (grownCap w s.size 0 5),((bytesRow s (grownCap w s.size 0 5)).size,(bytesRow s (grownCap w s.size 0 5)).size+1),?_⟩
    show (w.drew.alloc _).heap[w.drew.heap.size]?=_
    unfold World.alloc;simp only[Array.getElem?_push_size]
theorem exec_convW {o:Oper} {a:Act} {w w':World} {v u:Value} (t t':TypeId) (x:Operand) (ho:o.op=.convert t t' x) (hx:a.eval x=u) (hrun:(convert t t' u).run Tryz.prog w=.ok v w'):(execOp a.eval o).run Tryz.prog w=.ok (.value v) w':=by
  simp [execOp,ho,hx,hrun]
section
variable {ops:Array Oper} {rest:List Oper} {o:Oper} {a:Act} {w:World} {Q:Exit→Act→World→Prop} {K:Sink} {w0:World} {a0:Option Addr} {L:List It} {l:List (Nat × TypeId × Array Value)}
theorem kT (s:ByteArray) {base:Nat} (HF:Hid (Kf K w0 w a0 L l)) (h:∀ b c w',Hid (Kf K w0 w' a0 L l)→Hid (RdB w' ⟨some ⟨b,0,none⟩,s.size,c⟩ (Wi.numsOf s))→Hid (Bye base w' (some ⟨b,0,none⟩))→WL ops Q rest (a.put o.dst (.slice (some ⟨b,0,none⟩) s.size c)) w') {x:Operand}
    (ho:o.op=.convert 9 35 x:=by rfl) (hx:a.eval x=.string s:=by kernel_rfl) (hw:Region.wanted o (yielded ops a.tmps)=true:=by kernel_rfl):WL ops Q (o :: rest) a w:=by
  obtain ⟨c,w',h1,h2,h3,cs,fr,h4⟩:=run_bytes5 w s;refine wp_runW (.slice (some ⟨w.heap.size,0,none⟩) s.size c) w' (exec_convW 9 35 x ho hx h1) hw (h _ c w' (HF.out.no h3) ⟨h2,Wi.numsOf_len s,fun e=>by cases e⟩ (fun k hk=>?_));obtain ⟨ad,e,rfl⟩:=hk;cases e;exact .inr ⟨cs,fr,h4⟩
end
theorem en_fi {x:En} {j:Nat} {v:Value} (h:(Fi.cs ⟨x.f0,x.f1⟩)[j]?=some v):x.cs[1+j]?=some v:=by
  have hj:=(List.getElem?_eq_some_iff.1 h).1;have:j=0∨j=1:=by have:j < 2:=hj;omega
  rcases this with rfl | rfl <;> exact h
theorem load_sub {w:World} {t b off:Nat} {sub:List Value} (hc:∀ (j:Nat) v,sub[j]?=some v→w.cell? ⟨b,off+j,none⟩=some v) {d:TypeDesc} (hu:Tryz.prog.underlying t=some d) (hd:(match d with | .struct _ | .array _ _=>true | _=>false)=true) (hi:(Tryz.prog.info? t).map (·.size)=some sub.length) :
    (loadVar t ⟨b,off,none⟩).run Tryz.prog w=.ok (.agg sub.toArray) w:=by
  have hl:(loadCells ⟨b,off,none⟩ sub.length).run Tryz.prog w=.ok sub.toArray w:=
    run_loadCells_list (P:=Tryz.prog) w ⟨b,off,none⟩ sub (fun j v hv=>by rw [addr_add];exact hc j v hv)
  cases hq:Tryz.prog.info? t with
  | none=>simp [hq] at hi
  | some i=>
    have hs:i.size=sub.length:=by simpa [hq] using hi
    have hagg:(isAgg t).run Tryz.prog w=.ok true w:=by
      unfold isAgg;rw [Sem.run_bind,run_underlying hu w];cases d <;> simp_all
    simp [loadVar,Sem.run_bind,hagg,sizeOf,typeInfo,hq,hs,hl]
section
variable {base g:Nat} {T:List It} {ok:∀ x∈T,itOk x} {len:itsLen T≤131072}
theorem r_stamp (x:Sp) (w:World) (a:Option Addr) (L:List It) (h:(rSink base g T ok len).St w a L) (hp:L++[It.n x.n,It.n x.c] <+: T):Calls Tryz.prog 63 #[.pointer (some ⟨g,0,none⟩),.agg (Sp.cells x)] w ((rSink base g T ok len).Put w a (L++[It.n x.n,It.n x.c])):=by
  refine hidC fun C HC=>?_;have HP:Hid (L++[It.n x.n,It.n x.c] <+: T):=hp;have HF:Hid (Kf (rSink base g T ok len) w w a (L++[]) []):=Kf.start h;clear hp h;go_enter Tryz.func63,Tryz.ntmps63;go_upto_region 0 with fail;refine Sg<|kB (Sp.cells x) HF (rT (t:=34)) fun g1 w2 HF=>?_;(try simp only[pS]);refine Nl ?_;(try simp only[pS]);go_upto_region 1 with fail;refine Sg<|tK (pg g 0)<|tK (pg g1 0)<|kD (.int .i64 x.n) HF 0 0 U3 rfl<|kC ([It.n x.n]) HF (fun a0 h0=>r_num x.n _ a0 _ h0 (pfx0 HP ⟨_,rfl⟩)) fun w3 HF=>Nl ?_;simp only[pS];go_upto_region 2 with fail;refine Sg<|tK (pg g 0)<|tK (pg g1 1)<|kD (.int .i64 x.c) HF 0 1 U3 rfl<|kC ([It.n x.c]) HF (fun a0 h0=>r_num x.c _ a0 _ h0 (pfx HP ⟨_,rfl⟩)) fun w4 HF=>Nl ?_;simp only[pS];go_wp2;rw [HC.out];have e:(([It.n x.n]++[It.n x.c]):List It)=[It.n x.n,It.n x.c]:=rfl;rw [← e];go_end0;exact HF.out.put
theorem r_file (x:Fi) (w:World) (a:Option Addr) (L:List It) (h:(rSink base g T ok len).St w a L) (hp:L++[It.n x.c,It.n x.o] <+: T):Calls Tryz.prog 141 #[.pointer (some ⟨g,0,none⟩),.agg (Fi.cells x)] w ((rSink base g T ok len).Put w a (L++[It.n x.c,It.n x.o])):=by
  refine hidC fun C HC=>?_;have HP:Hid (L++[It.n x.c,It.n x.o] <+: T):=hp;have HF:Hid (Kf (rSink base g T ok len) w w a (L++[]) []):=Kf.start h;clear hp h;go_enter Tryz.func141,Tryz.ntmps141;go_upto_region 0 with fail;refine Sg<|kB (Fi.cells x) HF (rT (t:=37)) fun g1 w2 HF=>?_;(try simp only[pS]);refine Nl ?_;(try simp only[pS]);go_upto_region 1 with fail;refine Sg<|tK (pg g 0)<|tK (pg g1 0)<|kD (.int .i64 x.c) HF 0 0 U3 rfl<|kC ([It.n x.c]) HF (fun a0 h0=>r_num x.c _ a0 _ h0 (pfx0 HP ⟨_,rfl⟩)) fun w3 HF=>Nl ?_;simp only[pS];go_upto_region 2 with fail;refine Sg<|tK (pg g 0)<|tK (pg g1 1)<|kD (.int .i64 x.o) HF 0 1 U3 rfl<|kC ([It.n x.o]) HF (fun a0 h0=>r_num x.o _ a0 _ h0 (pfx HP ⟨_,rfl⟩)) fun w4 HF=>Nl ?_;simp only[pS];go_wp2;rw [HC.out];have e:(([It.n x.c]++[It.n x.o]):List It)=[It.n x.c,It.n x.o]:=rfl;rw [← e];go_end0;exact HF.out.put
theorem r_key (x:Ky) (w:World) (a:Option Addr) (L:List It) (h:(rSink base g T ok len).St w a L) (hp:L++[It.n x.k,It.n x.a,It.n x.b,It.n x.c] <+: T):Calls Tryz.prog 119 #[.pointer (some ⟨g,0,none⟩),.agg (Ky.cells x)] w ((rSink base g T ok len).Put w a (L++[It.n x.k,It.n x.a,It.n x.b,It.n x.c])):=by
  refine hidC fun C HC=>?_;have HP:Hid (L++[It.n x.k,It.n x.a,It.n x.b,It.n x.c] <+: T):=hp;have HF:Hid (Kf (rSink base g T ok len) w w a (L++[]) []):=Kf.start h;clear hp h;go_enter Tryz.func119,Tryz.ntmps119;go_upto_region 0 with fail;refine Sg<|kB (Ky.cells x) HF (rT (t:=32)) fun g1 w2 HF=>?_;(try simp only[pS]);refine Nl ?_;(try simp only[pS]);go_upto_region 1 with fail;refine Sg<|tK (pg g 0)<|tK (pg g1 0)<|kD (.int .i64 x.k) HF 0 0 U3 rfl<|kC ([It.n x.k]) HF (fun a0 h0=>r_num x.k _ a0 _ h0 (pfx0 HP ⟨_,rfl⟩)) fun w3 HF=>Nl ?_;simp only[pS];go_upto_region 2 with fail;refine Sg<|tK (pg g 0)<|tK (pg g1 1)<|kD (.int .i64 x.a) HF 0 1 U3 rfl<|kC ([It.n x.a]) HF (fun a0 h0=>r_num x.a _ a0 _ h0 (pfx HP ⟨_,rfl⟩)) fun w4 HF=>Nl ?_;simp only[pS];go_upto_region 3 with fail;refine Sg<|tK (pg g 0)<|tK (pg g1 2)<|kD (.int .i64 x.b) HF 0 2 U3 rfl<|kC ([It.n x.b]) HF (fun a0 h0=>r_num x.b _ a0 _ h0 (pfx HP ⟨_,rfl⟩)) fun w5 HF=>Nl ?_;simp only[pS];go_upto_region 4 with fail;refine Sg<|tK (pg g 0)<|tK (pg g1 3)<|kD (.int .i64 x.c) HF 0 3 U3 rfl<|kC ([It.n x.c]) HF (fun a0 h0=>r_num x.c _ a0 _ h0 (pfx HP ⟨_,rfl⟩)) fun w6 HF=>Nl ?_;simp only[pS];go_wp2;rw [HC.out];have e:(((([It.n x.k]++[It.n x.a])++[It.n x.b])++[It.n x.c]):List It)=[It.n x.k,It.n x.a,It.n x.b,It.n x.c]:=rfl;rw [← e];go_end0;exact HF.out.put
theorem r_flag_true (w:World) (a:Option Addr) (L:List It) (h:(rSink base g T ok len).St w a L) (hp:L++[It.n 1] <+: T):Calls Tryz.prog 70 #[.pointer (some ⟨g,0,none⟩),.bool true] w ((rSink base g T ok len).Put w a (L++[It.n 1])):=by
  refine hidC fun C HC=>?_;have HP:Hid (L++[It.n 1] <+: T):=hp;have HF:Hid (Kf (rSink base g T ok len) w w a (L++[]) []):=Kf.start h;clear hp h;go_enter Tryz.func70,Tryz.ntmps70;go_upto_region 0 with fail;refine Sg<|tU<|Nl ?_;simp only[pS];go_upto_region 1 with fail;refine Sg<|tK (pg g 0)<|kC ([It.n 1]) HF (fun a0 h0=>r_num 1 _ a0 _ h0 (pfx0 HP ⟨_,rfl⟩)) fun w1 HF=>Nl ?_;simp only[pS];go_wp2;rw [HC.out];have e:([It.n 1]:List It)=[It.n 1]:=rfl;rw [← e];go_end0;exact HF.out.put
theorem r_flag_false (w:World) (a:Option Addr) (L:List It) (h:(rSink base g T ok len).St w a L) (hp:L++[It.n 0] <+: T):Calls Tryz.prog 70 #[.pointer (some ⟨g,0,none⟩),.bool false] w ((rSink base g T ok len).Put w a (L++[It.n 0])):=by
  refine hidC fun C HC=>?_;have HP:Hid (L++[It.n 0] <+: T):=hp;have HF:Hid (Kf (rSink base g T ok len) w w a (L++[]) []):=Kf.start h;clear hp h;go_enter Tryz.func70,Tryz.ntmps70;go_upto_region 0 with fail;refine Sg<|tF<|Nl ?_;simp only[pS];go_upto_region 2 with fail;refine Sg<|tK (pg g 0)<|kC ([It.n 0]) HF (fun a0 h0=>r_num 0 _ a0 _ h0 (pfx0 HP ⟨_,rfl⟩)) fun w1 HF=>Nl ?_;simp only[pS];go_wp2;rw [HC.out];have e:([It.n 0]:List It)=[It.n 0]:=rfl;rw [← e];go_end0;exact HF.out.put
theorem r_flag (b:Bool) (w:World) (a:Option Addr) (L:List It) (h:(rSink base g T ok len).St w a L) (hp:L++[It.n (bif b then 1 else 0)] <+: T):Calls Tryz.prog 70 #[.pointer (some ⟨g,0,none⟩),.bool b] w ((rSink base g T ok len).Put w a (L++[It.n (bif b then 1 else 0)])):=by
  cases b
  · exact r_flag_false w a L h hp
  · exact r_flag_true w a L h hp
theorem r_addr (x:Ad) (w:World) (a:Option Addr) (L:List It) (h:(rSink base g T ok len).St w a L) (hp:L++[It.n (bif x.cl then 1 else 0),It.n x.id] <+: T):Calls Tryz.prog 118 #[.pointer (some ⟨g,0,none⟩),.agg (Ad.cells x)] w ((rSink base g T ok len).Put w a (L++[It.n (bif x.cl then 1 else 0),It.n x.id])):=by
  refine hidC fun C HC=>?_;have HP:Hid (L++[It.n (bif x.cl then 1 else 0),It.n x.id] <+: T):=hp;have HF:Hid (Kf (rSink base g T ok len) w w a (L++[]) []):=Kf.start h;clear hp h;go_enter Tryz.func118,Tryz.ntmps118;go_upto_region 0 with fail;refine Sg<|kB (Ad.cells x) HF (rT (t:=30)) fun g1 w2 HF=>?_;(try simp only[pS]);refine Nl ?_;(try simp only[pS]);go_upto_region 1 with fail;refine Sg<|tK (pg g 0)<|tK (pg g1 0)<|kD (.bool x.cl) HF 0 0 U4 rfl<|kC ([It.n (bif x.cl then 1 else 0)]) HF (fun a0 h0=>r_flag x.cl _ a0 _ h0 (pfx0 HP ⟨_,rfl⟩)) fun w3 HF=>Nl ?_;simp only[pS];go_upto_region 2 with fail;refine Sg<|tK (pg g 0)<|tK (pg g1 1)<|kD (.int .i64 x.id) HF 0 1 U3 rfl<|kC ([It.n x.id]) HF (fun a0 h0=>r_num x.id _ a0 _ h0 (pfx HP ⟨_,rfl⟩)) fun w4 HF=>Nl ?_;simp only[pS];go_wp2;rw [HC.out];have e:(([It.n (bif x.cl then 1 else 0)]++[It.n x.id]):List It)=[It.n (bif x.cl then 1 else 0),It.n x.id]:=rfl;rw [← e];go_end0;exact HF.out.put
theorem r_cmd0 (x:Cm) (w:World) (a:Option Addr) (L:List It) (h:(rSink base g T ok len).St w a L) (hp:L++[It.n x.k] <+: T) (hk:(x.k==0)=true):Calls Tryz.prog 69 #[.pointer (some ⟨g,0,none⟩),.agg (Cm.cells x)] w ((rSink base g T ok len).Put w a (L++[It.n x.k])):=by
  refine hidC fun C HC=>?_;have HP:Hid (L++[It.n x.k] <+: T):=hp;have HF:Hid (Kf (rSink base g T ok len) w w a (L++[]) []):=Kf.start h;clear hp h;go_enter Tryz.func69,Tryz.ntmps69;go_upto_region 0 with fail;refine Sg<|kB (Cm.cells x) HF (rT (t:=39)) fun g1 w2 HF=>?_;(try simp only[pS]);refine Nl ?_;(try simp only[pS]);go_upto_region 1 with fail;refine Sg<|tK (pg g 0)<|tK (pg g1 0)<|kD (.int .i64 x.k) HF 0 0 U3 rfl<|kC ([It.n x.k]) HF (fun a0 h0=>r_num x.k _ a0 _ h0 (pfx0 HP ⟨_,rfl⟩)) fun w3 HF=>Nl ?_;simp only[pS];go_upto_region 2 with fail;refine Sg<|tK (pg g1 0)<|kD (.int .i64 x.k) HF 0 0 U3 rfl<|bN (eI hk)<|Nl ?_;simp only[pS];go_wp2;rw [HC.out];have e:([It.n x.k]:List It)=[It.n x.k]:=rfl;rw [← e];go_end0;exact HF.out.put
theorem r_cmd1 (x:Cm) (w:World) (a:Option Addr) (L:List It) (h:(rSink base g T ok len).St w a L) (hp:L++[It.n x.k,It.n x.cl,It.n x.op,It.b (Wi.numsOf x.nm),It.n x.f0,It.n x.f1,It.n x.g0,It.n x.g1,It.n x.sz] <+: T) (hk:(x.k==0)=false):Calls Tryz.prog 69 #[.pointer (some ⟨g,0,none⟩),.agg (Cm.cells x)] w ((rSink base g T ok len).Put w a (L++[It.n x.k,It.n x.cl,It.n x.op,It.b (Wi.numsOf x.nm),It.n x.f0,It.n x.f1,It.n x.g0,It.n x.g1,It.n x.sz])):=by
  refine hidC fun C HC=>?_;have HP:Hid (L++[It.n x.k,It.n x.cl,It.n x.op,It.b (Wi.numsOf x.nm),It.n x.f0,It.n x.f1,It.n x.g0,It.n x.g1,It.n x.sz] <+: T):=hp;have HF:Hid (Kf (rSink base g T ok len) w w a (L++[]) []):=Kf.start h;clear hp h;go_enter Tryz.func69,Tryz.ntmps69;go_upto_region 0 with fail;refine Sg<|kB (Cm.cells x) HF (rT (t:=39)) fun g1 w2 HF=>?_;(try simp only[pS]);refine Nl ?_;(try simp only[pS]);go_upto_region 1 with fail;refine Sg<|tK (pg g 0)<|tK (pg g1 0)<|kD (.int .i64 x.k) HF 0 0 U3 rfl<|kC ([It.n x.k]) HF (fun a0 h0=>r_num x.k _ a0 _ h0 (pfx0 HP ⟨_,rfl⟩)) fun w3 HF=>Nl ?_;simp only[pS];go_upto_region 2 with fail;refine Sg<|tK (pg g1 0)<|kD (.int .i64 x.k) HF 0 0 U3 rfl<|bN (eI hk)<|Nl ?_;simp only[pS];go_upto_region 3 with fail;refine Sg<|tK (pg g 0)<|tK (pg g1 1)<|kD (.int .i64 x.cl) HF 0 1 U3 rfl<|kC ([It.n x.cl]) HF (fun a0 h0=>r_num x.cl _ a0 _ h0 (pfx HP ⟨_,rfl⟩)) fun w4 HF=>Nl ?_;simp only[pS];go_upto_region 4 with fail;refine Sg<|tK (pg g 0)<|tK (pg g1 2)<|kD (.int .i64 x.op) HF 0 2 U3 rfl<|kC ([It.n x.op]) HF (fun a0 h0=>r_num x.op _ a0 _ h0 (pfx HP ⟨_,rfl⟩)) fun w5 HF=>Nl ?_;simp only[pS];go_upto_region 5 with fail;refine Sg<|tK (pg g 0)<|tK (pg g1 3)<|kD (.string x.nm) HF 0 3 U9 rfl<|kT (base:=base) (x.nm) HF fun b6 c7 w8 HF HY9 HZ10=>?_;simp only[pS];refine kC ([It.b (Wi.numsOf x.nm)]) HF (fun a0 h0=>r_bytes ⟨some ⟨b6,0,none⟩,x.nm.size,c7⟩ (Wi.numsOf x.nm) _ a0 _ h0 (pfx HP ⟨_,rfl⟩) HY9.out (fun _=>HZ10.out)) fun w11 HF=>Nl ?_;(try simp only[pS]);go_upto_region 6 with fail;refine Sg<|tK (pg g 0)<|tK (pg g1 4)<|kP (Fi.cs ⟨x.f0,x.f1⟩) HF 0 4 U37 S37 (Cm.cs x) rfl<|kC ([It.n x.f0,It.n x.f1]) HF (fun a0 h0=>r_file ⟨x.f0,x.f1⟩ _ a0 _ h0 (pfx HP ⟨_,rfl⟩)) fun w12 HF=>Nl ?_;simp only[pS];go_upto_region 7 with fail;refine Sg<|tK (pg g 0)<|tK (pg g1 6)<|kP (Fi.cs ⟨x.g0,x.g1⟩) HF 0 6 U37 S37 (Cm.cs x) rfl<|kC ([It.n x.g0,It.n x.g1]) HF (fun a0 h0=>r_file ⟨x.g0,x.g1⟩ _ a0 _ h0 (pfx HP ⟨_,rfl⟩)) fun w13 HF=>Nl ?_;simp only[pS];go_upto_region 8 with fail;refine Sg<|tK (pg g 0)<|tK (pg g1 8)<|kD (.int .i64 x.sz) HF 0 8 U3 rfl<|kC ([It.n x.sz]) HF (fun a0 h0=>r_num x.sz _ a0 _ h0 (pfx HP ⟨_,rfl⟩)) fun w14 HF=>Nl ?_;simp only[pS];go_wp2;rw [HC.out];have e:((((((([It.n x.k]++[It.n x.cl])++[It.n x.op])++[It.b (Wi.numsOf x.nm)])++[It.n x.f0,It.n x.f1])++[It.n x.g0,It.n x.g1])++[It.n x.sz]):List It)=[It.n x.k,It.n x.cl,It.n x.op,It.b (Wi.numsOf x.nm),It.n x.f0,It.n x.f1,It.n x.g0,It.n x.g1,It.n x.sz]:=rfl;rw [← e];go_end0;exact HF.out.put
theorem r_command (x:Cm) (w:World) (a:Option Addr) (L:List It) (h:(rSink base g T ok len).St w a L) (hp:L++cmdIts x <+: T):Calls Tryz.prog 69 #[.pointer (some ⟨g,0,none⟩),.agg (Cm.cells x)] w ((rSink base g T ok len).Put w a (L++cmdIts x)):=by
  unfold cmdIts at hp ⊢;cases hk:(x.k==0)
  · rw [hk] at hp;exact r_cmd1 x w a L h hp hk
  · rw [hk] at hp;exact r_cmd0 x w a L h hp hk
theorem r_bucket (x:Bv) (es:List En) (ls:List La) (w:World) (a:Option Addr) (L:List It) (h:(rSink base g T ok len).St w a L) (hp:L++bktIts x es ls <+: T) (h2:RdE w x.e es) (h3:RdL w x.l ls) (h4:Low base x.e) (h5:Low base x.l) (hne:x.e.l≤281474976710656) (hnl:x.l.l≤281474976710656):Calls Tryz.prog 73 #[.pointer (some ⟨g,0,none⟩),.agg (Bv.cells x)] w ((rSink base g T ok len).Put w a (L++bktIts x es ls)):=by
  refine hidC fun C HC=>?_;have HP:Hid (L++bktIts x es ls <+: T):=hp;have HF:Hid (Kf (rSink base g T ok len) w w a (L++[]) []):=Kf.start h;have HBS:Hid (∀ k,(rSink base g T ok len).Wr a k→base≤k):=fun k hk=>r_base h hk;clear hp h;have HRE:Hid (RdE w x.e es):=h2;have HRL:Hid (RdL w x.l ls):=h3;have HLE:Hid (Low base x.e):=h4;have HLL:Hid (Low base x.l):=h5;clear h2 h3 h4 h5;go_enter Tryz.func73,Tryz.ntmps73;go_upto_region 0 with fail;refine Sg<|kB (Bv.cells x) HF (rT (t:=43)) fun g1 w2 HF=>?_;(try simp only[pS]);refine Nl ?_;(try simp only[pS]);go_upto_region 1 with fail;refine Sg<|tK (pg g 0)<|tK (pg g1 0)<|kD (.int .i64 x.up) HF 0 0 U3 rfl<|kC ([It.n x.up]) HF (fun a0 h0=>r_num x.up _ a0 _ h0 (pfx0 HP (by first | exact ⟨_,rfl⟩ | exact List.prefix_rfl | exact pl List.prefix_rfl | exact pl (pl List.prefix_rfl) | exact pl (pl (pl List.prefix_rfl))))) fun w3 HF=>Nl ?_;simp only[pS];go_upto_region 2 with fail;refine Sg<|tK (pg g 0)<|tK (pg g1 1)<|kD (x.e.v) HF 0 1 U40 rfl<|tK (.int .i64 ((x.e.l:Nat):Int))<|kC ([It.n ((x.e.l:Nat):Int)]) HF (fun a0 h0=>r_num ((x.e.l:Nat):Int) _ a0 _ h0 (pfx HP (by first | exact ⟨_,rfl⟩ | exact List.prefix_rfl | exact pl List.prefix_rfl | exact pl (pl List.prefix_rfl) | exact pl (pl (pl List.prefix_rfl))))) fun w4 HF=>Nl ?_;simp only[pS];go_upto_region 3 with fail;refine Sg<|tK (.int .i64 0)<|Nl ?_;simp only[pS];go_wp2
  go_loopw [4] (fun v4 wr=>∃ i:Nat,v4=.int .i64 ((i:Nat):Int)∧i≤x.e.l∧Hid (Kf (rSink base g T ok len) w wr a (L++(([It.n x.up]++[It.n ((x.e.l:Nat):Int)])++fl (fun j=>entIts (eAt es j)) i)) [(g1,43,Bv.cells x)])) (fun v4 _=>x.e.l - (intOf v4).toNat)
  case atStart=>exact ⟨0,by go_num,by omega,(by rw [fl0];rw [List.append_nil];exact HF)⟩
  case round=>
    clear HF;obtain ⟨i,rfl,hi,HF⟩:=hrel
    by_cases hlt:i < x.e.l
    ·have HP:Hid ((L++(([It.n x.up]++[It.n ((x.e.l:Nat):Int)])++fl (fun j=>entIts (eAt es j)) i))++entIts (eAt es i) <+: T):=pin HP (fl_pre (fun j=>entIts (eAt es j)) hlt) (pl (pl List.prefix_rfl));have HF:Hid (Kf (rSink base g T ok len) w wr a ((L++(([It.n x.up]++[It.n ((x.e.l:Nat):Int)])++fl (fun j=>entIts (eAt es j)) i))++[]) [(g1,43,Bv.cells x)]):=by rw [List.append_nil];exact HF
     obtain ⟨b,off,hsl,hc⟩:=RdE.at' HRE.out (i:=i) (by omega);have hnb:¬ (rSink base g T ok len).Wr a b:=fun e=>by have:=HBS.out b e;have:=HLE.out (by omega) b (at_v hsl);omega
     go_upto_region 4 with fail;refine Sg<|tK (.int .i64 ((i:Nat):Int))<|tK (pg g1 1)<|kD (x.e.v) HF 0 1 U40 rfl<|tK (.int .i64 ((x.e.l:Nat):Int))<|bN (lI (a:=((i:Nat):Int)) (b:=((x.e.l:Nat):Int)) (decide_eq_true (by omega)))<|Nl ?_;simp only[pS];go_upto_region 6 with fail;refine Sg<|tK (pg g 0)<|tK (pg g1 1)<|kD (x.e.v) HF 0 1 U40 rfl<|tK (.int .i64 ((i:Nat):Int))<|iS (s:=x.e) (i:=i) hsl E40 F40 (by omega)<|tK (.pointer (some ⟨b,off+i*4,none⟩))<|lR (load_one (HF.out.kept.cell (hc 0 _ rfl) hnb) U9 rfl)<|kT (base:=base) (((eAt es i).nm)) HF fun b5 c6 w7 HF HY8 HZ9=>?_;simp only[pS];refine kC ([It.b (Wi.numsOf ((eAt es i).nm))]) HF (fun a0 h0=>r_bytes ⟨some ⟨b5,0,none⟩,((eAt es i).nm).size,c6⟩ (Wi.numsOf ((eAt es i).nm)) _ a0 _ h0 (pfx0 HP (by first | exact ⟨_,rfl⟩ | exact List.prefix_rfl | exact pl List.prefix_rfl | exact pl (pl List.prefix_rfl) | exact pl (pl (pl List.prefix_rfl)))) HY8.out (fun _=>HZ9.out)) fun w10 HF=>Nl ?_;(try simp only[pS]);go_upto_region 7 with fail;refine Sg<|tK (pg g 0)<|tK (pg g1 1)<|kD (x.e.v) HF 0 1 U40 rfl<|tK (.int .i64 ((i:Nat):Int))<|iS (s:=x.e) (i:=i) hsl E40 F40 (by omega)<|tK (.pointer (some ⟨b,off+i*4+1,none⟩))<|lR (load_sub (b:=b) (off:=off+i*4+1) (sub:=Fi.cs ⟨(eAt es i).f0,(eAt es i).f1⟩) (fun j v h=>by rw [Nat.add_assoc];exact HF.out.kept.cell (hc (1+j) v (en_fi h)) hnb) U37 rfl S37)<|kC ([It.n ((eAt es i).f0),It.n ((eAt es i).f1)]) HF (fun a0 h0=>r_file ⟨(eAt es i).f0,(eAt es i).f1⟩ _ a0 _ h0 (pfx HP (by first | exact ⟨_,rfl⟩ | exact List.prefix_rfl | exact pl List.prefix_rfl | exact pl (pl List.prefix_rfl) | exact pl (pl (pl List.prefix_rfl))))) fun w11 HF=>Nl ?_;simp only[pS];go_upto_region 8 with fail;refine Sg<|tK (pg g 0)<|tK (pg g1 1)<|kD (x.e.v) HF 0 1 U40 rfl<|tK (.int .i64 ((i:Nat):Int))<|iS (s:=x.e) (i:=i) hsl E40 F40 (by omega)<|tK (.pointer (some ⟨b,off+i*4+3,none⟩))<|lR (load_one (HF.out.kept.cell (hc 3 _ rfl) hnb) U3 rfl)<|kC ([It.n ((eAt es i).sz)]) HF (fun a0 h0=>r_num ((eAt es i).sz) _ a0 _ h0 (pfx HP (by first | exact ⟨_,rfl⟩ | exact List.prefix_rfl | exact pl List.prefix_rfl | exact pl (pl List.prefix_rfl) | exact pl (pl (pl List.prefix_rfl))))) fun w12 HF=>Nl ?_;simp only[pS];go_upto_region 5 with fail;refine Sg<|tK (.int .i64 ((i:Nat):Int))<|bN (v:=.int .i64 (((i+1):Nat):Int)) (b_addw ((i:Nat):Int) 1 (((i+1):Nat):Int) (by rw [IntKind.wrap_i64];omega))<|tK (.int .i64 (((i+1):Nat):Int))<|Nl ?_;simp only[pS];go_wp2;go_roundw
     case rel=>exact ⟨i+1,by go_num,by omega,(by rw [fl_succ];have h:=HF;simp only[List.append_assoc] at h ⊢;exact h)⟩
     case measure=>simp [intOf];omega
    ·have hi2:i=x.e.l:=by omega
     clear hlt hi;subst hi2;go_upto_region 4 with fail;refine Sg<|tK (.int .i64 ((x.e.l:Nat):Int))<|tK (pg g1 1)<|kD (x.e.v) HF 0 1 U40 rfl<|tK (.int .i64 ((x.e.l:Nat):Int))<|bN (lI (a:=((x.e.l:Nat):Int)) (b:=((x.e.l:Nat):Int)) (decide_eq_false (by omega)))<|Nl ?_;simp only[pS];go_upto_region 9 with fail;refine Sg<|tK (pg g 0)<|tK (pg g1 2)<|kD (x.l.v) HF 0 2 U41 rfl<|tK (.int .i64 ((x.l.l:Nat):Int))<|kC ([It.n ((x.l.l:Nat):Int)]) HF (fun a0 h0=>r_num ((x.l.l:Nat):Int) _ a0 _ h0 (pfx HP (by first | exact ⟨_,rfl⟩ | exact List.prefix_rfl | exact pl List.prefix_rfl | exact pl (pl List.prefix_rfl) | exact pl (pl (pl List.prefix_rfl))))) fun w13 HF=>Nl ?_;simp only[pS];go_upto_region 10 with fail;refine Sg<|tK (.int .i64 0)<|Nl ?_;simp only[pS];go_wp2
     go_loopw [5] (fun v5 wr=>∃ i:Nat,v5=.int .i64 ((i:Nat):Int)∧i≤x.l.l∧Hid (Kf (rSink base g T ok len) w wr a (L++(((([It.n x.up]++[It.n ((x.e.l:Nat):Int)])++fl (fun j=>entIts (eAt es j)) x.e.l)++[It.n ((x.l.l:Nat):Int)])++fl (fun j=>lasIts (lAt ls j)) i)) [(g1,43,Bv.cells x)])) (fun v5 _=>x.l.l - (intOf v5).toNat)
     case atStart=>exact ⟨0,by go_num,by omega,(by rw [fl0];rw [List.append_nil];exact HF)⟩
     case round=>
       clear HF;obtain ⟨i,rfl,hi,HF⟩:=hrel
       by_cases hlt:i < x.l.l
       ·have HP:Hid ((L++(((([It.n x.up]++[It.n ((x.e.l:Nat):Int)])++fl (fun j=>entIts (eAt es j)) x.e.l)++[It.n ((x.l.l:Nat):Int)])++fl (fun j=>lasIts (lAt ls j)) i))++lasIts (lAt ls i) <+: T):=pin HP (fl_pre (fun j=>lasIts (lAt ls j)) hlt) List.prefix_rfl;have HF:Hid (Kf (rSink base g T ok len) w wr a ((L++(((([It.n x.up]++[It.n ((x.e.l:Nat):Int)])++fl (fun j=>entIts (eAt es j)) x.e.l)++[It.n ((x.l.l:Nat):Int)])++fl (fun j=>lasIts (lAt ls j)) i))++[]) [(g1,43,Bv.cells x)]):=by rw [List.append_nil];exact HF
        obtain ⟨b,off,hsl,hc⟩:=RdL.at' HRL.out (i:=i) (by omega);have hnb:¬ (rSink base g T ok len).Wr a b:=fun e=>by have:=HBS.out b e;have:=HLL.out (by omega) b (at_v hsl);omega
        go_upto_region 11 with fail;refine Sg<|tK (.int .i64 ((i:Nat):Int))<|tK (pg g1 2)<|kD (x.l.v) HF 0 2 U41 rfl<|tK (.int .i64 ((x.l.l:Nat):Int))<|bN (lI (a:=((i:Nat):Int)) (b:=((x.l.l:Nat):Int)) (decide_eq_true (by omega)))<|Nl ?_;simp only[pS];go_upto_region 13 with fail;refine Sg<|tK (pg g1 2)<|kD (x.l.v) HF 0 2 U41 rfl<|tK (.int .i64 ((i:Nat):Int))<|iS (s:=x.l) (i:=i) hsl E41 F41 (by omega)<|lR (load_L (fun j v h=>HF.out.kept.cell (hc j v h) hnb))<|kA (La.cells laZ) Z94 HF (rT (t:=94)) fun g14 w15 HF=>?_;simp only[pS];refine kW (La.cs (lAt ls i)) (La.cs (lAt ls i)) HF 1 0 (v:=.agg (La.cells (lAt ls i))) rfl S94 (La.oneL _) (La.cs laZ) rfl fun w16 HF=>?_;(try simp only[pS]);refine Nl ?_;(try simp only[pS]);go_upto_region 14 with fail;refine Sg<|tK (pg g 0)<|tK (pg g14 0)<|kD (.int .i64 (lAt ls i).cl) HF 1 0 U3 rfl<|kC ([It.n ((lAt ls i).cl)]) HF (fun a0 h0=>r_num ((lAt ls i).cl) _ a0 _ h0 (pfx0 HP (by first | exact ⟨_,rfl⟩ | exact List.prefix_rfl | exact pl List.prefix_rfl | exact pl (pl List.prefix_rfl) | exact pl (pl (pl List.prefix_rfl))))) fun w17 HF=>Nl ?_;simp only[pS];go_upto_region 15 with fail;refine Sg<|tK (pg g 0)<|tK (pg g14 1)<|kD (.int .i64 (lAt ls i).op) HF 1 1 U3 rfl<|kC ([It.n ((lAt ls i).op)]) HF (fun a0 h0=>r_num ((lAt ls i).op) _ a0 _ h0 (pfx HP (by first | exact ⟨_,rfl⟩ | exact List.prefix_rfl | exact pl List.prefix_rfl | exact pl (pl List.prefix_rfl) | exact pl (pl (pl List.prefix_rfl))))) fun w18 HF=>Nl ?_;simp only[pS];go_upto_region 16 with fail;refine Sg<|tK (pg g 0)<|tK (pg g14 2)<|kD (.int .i64 (lAt ls i).ins) HF 1 2 U3 rfl<|kC ([It.n ((lAt ls i).ins)]) HF (fun a0 h0=>r_num ((lAt ls i).ins) _ a0 _ h0 (pfx HP (by first | exact ⟨_,rfl⟩ | exact List.prefix_rfl | exact pl List.prefix_rfl | exact pl (pl List.prefix_rfl) | exact pl (pl (pl List.prefix_rfl))))) fun w19 HF=>Nl ?_;simp only[pS];go_upto_region 17 with fail;refine Sg<|tK (pg g 0)<|tK (pg g14 3)<|kD (.int .i64 (lAt ls i).er) HF 1 3 U47 rfl<|kC ([It.n ((lAt ls i).er)]) HF (fun a0 h0=>r_num ((lAt ls i).er) _ a0 _ h0 (pfx HP (by first | exact ⟨_,rfl⟩ | exact List.prefix_rfl | exact pl List.prefix_rfl | exact pl (pl List.prefix_rfl) | exact pl (pl (pl List.prefix_rfl))))) fun w20 HF=>Nl ?_;simp only[pS];go_upto_region 18 with fail;refine Sg<|tK (pg g 0)<|tK (pg g14 4)<|kP (Fi.cs ⟨(lAt ls i).f0,(lAt ls i).f1⟩) HF 1 4 U37 S37 (La.cs (lAt ls i)) rfl<|kC ([It.n ((lAt ls i).f0),It.n ((lAt ls i).f1)]) HF (fun a0 h0=>r_file ⟨(lAt ls i).f0,(lAt ls i).f1⟩ _ a0 _ h0 (pfx HP (by first | exact ⟨_,rfl⟩ | exact List.prefix_rfl | exact pl List.prefix_rfl | exact pl (pl List.prefix_rfl) | exact pl (pl (pl List.prefix_rfl))))) fun w21 HF=>Nl ?_;simp only[pS];go_upto_region 19 with fail;refine Sg<|tK (pg g 0)<|tK (pg g14 6)<|kD (.int .i64 (lAt ls i).sz) HF 1 6 U3 rfl<|kC ([It.n ((lAt ls i).sz)]) HF (fun a0 h0=>r_num ((lAt ls i).sz) _ a0 _ h0 (pfx HP (by first | exact ⟨_,rfl⟩ | exact List.prefix_rfl | exact pl List.prefix_rfl | exact pl (pl List.prefix_rfl) | exact pl (pl (pl List.prefix_rfl))))) fun w22 HF=>Nl ?_;simp only[pS];go_upto_region 12 with fail;refine Sg<|tK (.int .i64 ((i:Nat):Int))<|bN (v:=.int .i64 (((i+1):Nat):Int)) (b_addw ((i:Nat):Int) 1 (((i+1):Nat):Int) (by rw [IntKind.wrap_i64];omega))<|tK (.int .i64 (((i+1):Nat):Int))<|Nl ?_;simp only[pS];go_wp2;go_roundw
        case rel=>exact ⟨i+1,by go_num,by omega,(by rw [fl_succ];have h:=Kf.front (l:=[(g1,43,Bv.cells x)]) (m:=[(g14,94,La.cells (lAt ls i))]) HF;simp only[List.append_assoc] at h ⊢;exact h)⟩
        case measure=>simp [intOf];omega
       ·have hi2:i=x.l.l:=by omega
        clear hlt hi;subst hi2;go_upto_region 11 with fail;refine Sg<|tK (.int .i64 ((x.l.l:Nat):Int))<|tK (pg g1 2)<|kD (x.l.v) HF 0 2 U41 rfl<|tK (.int .i64 ((x.l.l:Nat):Int))<|bN (lI (a:=((x.l.l:Nat):Int)) (b:=((x.l.l:Nat):Int)) (decide_eq_false (by omega)))<|Nl ?_;simp only[pS];go_wp2;rw [HC.out];have e:((((([It.n x.up]++[It.n ((x.e.l:Nat):Int)])++fl (fun j=>entIts (eAt es j)) x.e.l)++[It.n ((x.l.l:Nat):Int)])++fl (fun j=>lasIts (lAt ls j)) x.l.l):List It)=bktIts x es ls:=rfl;rw [← e];go_end0;exact HF.out.put
end
end Go.Proofs.YtgdnofacgfjaeaaGreat.Md
