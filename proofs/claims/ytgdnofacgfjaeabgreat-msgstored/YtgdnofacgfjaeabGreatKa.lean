import Derived.Test.YtgdnofacgfjaeabGreatChecked
import Derived.WalkKit
import Derived.Deep.DeepMust
import Derived.Deep.QuietTactic
import Derived.Deep.Draws
import Derived.BigQuiet
import Derived.Laws.CopyOwn
import Derived.Laws.AppendOwnNone
import Derived.WalkSmall
import Derived.Laws.BitsLemmas
import Derived.Laws.Closers25b
import Derived.Maps.RangeRun
import Derived.Laws.Rows
import Derived.Laws.Tables
import Derived.Lib.SliceRun
import Derived.WalkSpells
import Derived.StillTailTactics
import Derived.Deep.RegionHeld3
import Derived.Deep.Cut
import Derived.Deep.CutRange
import Derived.ProofKit
import Derived.OpenShut
import Derived.ShutString
import Derived.ChangeOld
import Derived.SizedLaws
import Derived.Deep.Slices
import Derived.Laws.StructEq
import Derived.RangeFuncNested
import Derived.RangeFuncBound
import Derived.RangeFuncCalls
import Derived.RangeFuncLeaves
import Derived.RangeFuncBox
import Derived.Shelf.Abstract
import Derived.Sort.QuietTacIn
import Derived.Shelf.RegionOpen
import Derived.OwnWalkIn
import Derived.TacticsInMore
import Derived.LoopNIn
import Derived.LoopIn
import Derived.Maps.AppendAt
namespace Go.Proofs.YtgdnofacgfjaeabGreat
open Go.RowKit
set_option linter.unusedVariables false
theorem ret_bool {a b:Bool} (h:a=b):Ending.returned (.bool a)=.returned (.bool b):=by rw [h]
theorem drewN2 (w:World) (n m:Nat):(w.drewN n).drewN m=w.drewN (n+m):=by simp [World.drewN,Nat.add_assoc]
structure Kept (S:Nat→Prop) (w w':World):Prop where
  os:w'.os=w.os
  tape:w'.tape=w.tape
  output:w'.output=w.output
  size:w.heap.size≤w'.heap.size
  block:∀ k,k < w.heap.size→¬ S k→w'.heap[k]?=w.heap[k]?
def No:Nat→Prop:=fun _=>False
def Only (g:Nat):Nat→Prop:=fun k=>k=g
theorem Kept.refl (S:Nat→Prop) (w:World):Kept S w w:=⟨rfl,rfl,rfl,Nat.le_refl _,fun _ _ _=>rfl⟩
theorem Kept.trans {S T U:Nat→Prop} {a b c:World} (h:Kept S a b) (k:Kept T b c) (hS:∀ i,S i→U i) (hT:∀ i,i < a.heap.size→T i→U i):Kept U a c:=
  ⟨k.os.trans h.os,k.tape.trans h.tape,k.output.trans h.output,Nat.le_trans h.size k.size,
    fun i hi hU=>(k.block i (Nat.lt_of_lt_of_le hi h.size) (fun e=>hU (hT i hi e))).trans (h.block i hi (fun e=>hU (hS i e)))⟩
theorem Kept.mono {S T:Nat→Prop} {a b:World} (h:Kept S a b) (hS:∀ i,i < a.heap.size→S i→T i):Kept T a b:=
  ⟨h.os,h.tape,h.output,h.size,fun i hi hT=>h.block i hi (fun e=>hT (hS i hi e))⟩
theorem Kept.of_no {S:Nat→Prop} {a b:World} (h:Kept No a b):Kept S a b:=h.mono (fun _ _ e=>e.elim)
theorem Kept.then {S:Nat→Prop} {a b c:World} (h:Kept S a b) (k:Kept S b c):Kept S a c:=h.trans k (fun _ e=>e) (fun _ _ e=>e)
theorem Kept.drewN {S:Nat→Prop} {a w:World} (h:Kept S a w) (n:Nat):Kept S a (w.drewN n):=⟨h.os,h.tape,h.output,h.size,h.block⟩
theorem Kept.drew {S:Nat→Prop} {a w:World} (h:Kept S a w):Kept S a w.drew:=⟨h.os,h.tape,h.output,h.size,h.block⟩
theorem Kept.alloc {S:Nat→Prop} {a w:World} (h:Kept S a w) (o:Obj):Kept S a (w.alloc o):=
  h.then ⟨rfl,rfl,rfl,by simp,fun k hk _=>Below.heap_alloc _ _ _ hk⟩
theorem Kept.setCell {S:Nat→Prop} {a w:World} (h:Kept S a w) {p:Addr} (hp:p.block < a.heap.size→S p.block) (u:Value):Kept S a (w.setCell p u):=
  ⟨h.os,h.tape,h.output,by simpa [World.setCell] using h.size,fun k hk hS=>by
    rw [Below.heap_setCell _ _ _ _ (fun e=>hS (by subst e;exact hp hk))];exact h.block k hk hS⟩
theorem Kept.grown {S:Nat→Prop} {a w w':World} {row:Option Nat} (h:Kept S a w) (hg:w.grownBy w' row) (hr:∀ k,row=some k→k < a.heap.size→S k):Kept S a w':=
  ⟨hg.os.trans h.os,hg.tape.trans h.tape,hg.output.trans h.output,Nat.le_trans h.size hg.size,
    fun k hk hS=>(hg.block k (Nat.lt_of_lt_of_le hk h.size) (fun e=>hS (hr k e.symm hk))).trans (h.block k hk hS)⟩
theorem Kept.below {S:Nat→Prop} {w w':World} {B:Nat} (h:Kept S w w') (hB:B≤w.heap.size) (hS:∀ k,S k→B≤k):Below B w w':=
  ⟨h.os,h.tape,h.output,h.size,fun k hk=>h.block k (by omega) (fun e=>by have:=hS k e;omega)⟩
theorem Kept.of_below {w w':World} (h:Below w.heap.size w w'):Kept No w w':=⟨h.os,h.tape,h.output,h.size,fun k hk _=>h.block k hk⟩
theorem Kept.cell {S:Nat→Prop} {w w':World} (h:Kept S w w') {p:Addr} {v:Value} (hc:w.cell? p=some v) (hp:¬ S p.block):w'.cell? p=some v:=
  (World.cell?_of_block (w:=w) (h.block p.block (World.block_lt_of_cell? w p hc) hp)).trans hc
theorem kept_grown {w w':World} (h:w.grownBy w' none):Kept No w w':=(Kept.refl No w).grown h (fun _ e=>by cases e)
theorem Kept.no_drewN (w:World) (n:Nat):Kept No w (w.drewN n):=(Kept.refl No w).drewN n
def Nums (q:IntKind) (w:World) (a:Option Addr) (zs:List Int):Prop:=
  ∀ i,i < zs.length→∃ b off,a=some ⟨b,off,none⟩∧w.cell? ⟨b,off+i,none⟩=some (.int q (zs[i]?.getD 0))
theorem Nums.kept {q:IntKind} {S:Nat→Prop} {w w':World} {a:Option Addr} {zs:List Int} (h:Nums q w a zs) (hk:Kept S w w') (hS:∀ b off,a=some ⟨b,off,none⟩→¬ S b):Nums q w' a zs:=by
  intro i hi
  obtain ⟨b,off,rfl,hc⟩:=h i hi
  exact ⟨b,off,rfl,hk.cell hc (hS b off rfl)⟩
theorem Nums.no {q:IntKind} {w w':World} {a:Option Addr} {zs:List Int} (h:Nums q w a zs) (hk:Kept No w w'):Nums q w' a zs:=h.kept hk (fun _ _ _ e=>e)
theorem Nums.nil (q:IntKind) (w:World) (a:Option Addr):Nums q w a []:=fun i hi=>absurd hi (Nat.not_lt_zero _)
theorem addr_add (b off j:Nat):(⟨b,off,none⟩:Addr).add j=⟨b,off+j,none⟩:=by unfold Addr.add;split <;> simp_all
theorem Nums.src {q:IntKind} {w:World} {a:Option Addr} {zs:List Int} (hb:Nums q w a zs) (h0:0 < (zs.map (Value.int q)).length) :
    ∃ ad,a=some ad∧∀ (j:Nat) v,(zs.map (Value.int q))[j]?=some v→w.cell? (ad.add j)=some v:=by
  simp only[List.length_map] at h0
  obtain ⟨b,off,rfl,_⟩:=hb 0 h0
  refine ⟨_,rfl,fun j v hv=>?_⟩
  have hj:j < zs.length:=by
    have:=(List.getElem?_eq_some_iff.1 hv).1
    simpa using this
  obtain ⟨b',off',e,hc⟩:=hb j hj
  cases e
  rw [addr_add,hc]
  simp [List.getElem?_eq_getElem hj] at hv ⊢
  exact hv
def Own (t:TypeId) (c:Nat) (w:World) (base:Nat) (a:Option Addr) (cap n:Nat) (vs:List Value):Prop:=
  w.ownsRow base t c (.slice a n cap) n vs
def At (a:Option Addr):Nat→Prop:=fun k=>∃ ad,a=some ad∧ad.block=k
theorem At.none {k:Nat}:¬ At none k:=fun ⟨_,e,_⟩=>by cases e
theorem Own.kept {t:TypeId} {c:Nat} {S:Nat→Prop} {w w':World} {base:Nat} {a:Option Addr} {cap n:Nat} {vs:List Value} (h:Own t c w base a cap n vs) (hk:Kept S w w') (hS:∀ k,At a k→¬ S k):Own t c w' base a cap n vs:=by
  refine ⟨h.1,?_⟩
  rcases h.2 with hn | ⟨g,cap',cur,hv,hb,hg,rest⟩
  · exact .inl hn
  · refine .inr ⟨g,cap',cur,hv,hb,?_,rest⟩
    rw [hk.block g (Array.getElem?_eq_some_iff.1 hg).1 (hS g ?_)]
    · exact hg
    · simp only[Value.slice.injEq] at hv
      exact ⟨_,hv.1,rfl⟩
theorem Own.no {t:TypeId} {c:Nat} {w w':World} {base:Nat} {a:Option Addr} {cap n:Nat} {vs:List Value} (h:Own t c w base a cap n vs) (hk:Kept No w w'):Own t c w' base a cap n vs:=h.kept hk (fun _ _ e=>e)
theorem Own.lower {t:TypeId} {c:Nat} {w:World} {base base':Nat} {a:Option Addr} {cap n:Nat} {vs:List Value} (h:Own t c w base a cap n vs) (hb:base'≤base):Own t c w base' a cap n vs:=by
  refine ⟨h.1,?_⟩
  rcases h.2 with hn | ⟨g,cap',cur,hv,hb',rest⟩
  · exact .inl hn
  · exact .inr ⟨g,cap',cur,hv,by omega,rest⟩
theorem Own.base {t:TypeId} {c:Nat} {w:World} {base:Nat} {a:Option Addr} {cap n:Nat} {vs:List Value} (h:Own t c w base a cap n vs) {k:Nat} (hk:At a k):base≤k:=by
  obtain ⟨ad,e,rfl⟩:=hk
  rcases h.2 with ⟨hv,_⟩ | ⟨g,cap',cur,hv,hb,rest⟩
  · simp only[Value.slice.injEq] at hv;rw [hv.1] at e;cases e
  · simp only[Value.slice.injEq] at hv;rw [hv.1] at e;cases e;exact hb
theorem Own.cases {t:TypeId} {c:Nat} {w:World} {base:Nat} {a:Option Addr} {cap n:Nat} {vs:List Value} (h:Own t c w base a cap n vs) (hl:vs.length=n*c) :
    (a=none∧cap=0∧n=0)∨∃ g,a=some ⟨g,0,none⟩∧base≤g∧g < w.heap.size∧∃ sp,w.heap[g]?=some (.cells (vs++sp).toArray t (0,0))∧vs.length+sp.length=cap*c:=by
  rcases h.2 with ⟨hv,hn⟩ | ⟨g,cap',cur,hv,hb,hg,hle,hm,hs,ht⟩
  · simp only[Value.slice.injEq] at hv
    exact .inl ⟨hv.1,hv.2.2,hn⟩
  · simp only[Value.slice.injEq] at hv
    obtain ⟨rfl,-,rfl⟩:=hv
    refine .inr ⟨g,rfl,hb,(Array.getElem?_eq_some_iff.1 hg).1,cur.toList.drop (n*c),?_,?_⟩
    · rw [← ht,List.take_append_drop,hg]
    · have:n*c≤cap*c:=Nat.mul_le_mul_right _ hle
      simp;omega
theorem Own.nums {q:IntKind} {t:TypeId} {w:World} {base:Nat} {a:Option Addr} {cap n:Nat} {zs:List Int} (h:Own t 1 w base a cap n (zs.map (Value.int q))) (hl:zs.length=n):Nums q w a zs:=by
  rcases h.cases (by simpa using hl) with ⟨rfl,_,h0⟩ | ⟨g,rfl,_,_,sp,hg,_⟩
  · intro i hi;omega
  · intro i hi
    refine ⟨g,0,rfl,?_⟩
    rw [Nat.zero_add,cell_of_row w g i _ t (0,0) hg]
    simp [List.getElem?_append_left,hi]
def Box (w:World) (g:Nat) (t:TypeId) (cs:Array Value):Prop:=w.heap[g]?=some (.cells cs t (0,0))
theorem Box.lt {w:World} {g:Nat} {t:TypeId} {cs:Array Value} (h:Box w g t cs):g < w.heap.size:=(Array.getElem?_eq_some_iff.1 h).1
theorem Box.cell {w:World} {g:Nat} {t:TypeId} {cs:Array Value} (h:Box w g t cs) (i:Nat):w.cell? ⟨g,i,none⟩=cs[i]?:=cell_of_row w g i _ t (0,0) h
theorem Box.frozen {w:World} {g:Nat} {t:TypeId} {cs:Array Value} (h:Box w g t cs) (i:Nat):w.frozen? ⟨g,i,none⟩=false:=frozen_of_row w g i _ t h
theorem Box.set {w:World} {g:Nat} {t:TypeId} {cs:Array Value} (h:Box w g t cs) (i:Nat) (v:Value):Box (w.setCell ⟨g,i,none⟩ v) g t (cs.setIfInBounds i v):=heap_setCell_same w g i _ t v h
theorem Box.kept {S:Nat→Prop} {w w':World} {g:Nat} {t:TypeId} {cs:Array Value} (h:Box w g t cs) (hk:Kept S w w') (hS:¬ S g):Box w' g t cs:=(hk.block g h.lt hS).trans h
theorem Box.new (w:World) (t:TypeId) (cs:Array Value):Box (w.alloc (.cells cs t)) w.heap.size t cs:=by
  unfold Box World.alloc;simp
theorem Box.alloc {w:World} {g:Nat} {t:TypeId} {cs:Array Value} (h:Box w g t cs) (o:Obj):Box (w.alloc o) g t cs:=(Below.heap_alloc _ _ _ h.lt).trans h
theorem Box.nums {w:World} {g:Nat} {t:TypeId} {q:IntKind} {zs:List Int} (h:Box w g t (zs.map (Value.int q)).toArray) (n:Nat):Nums q w (some ⟨g,0,none⟩) (zs.take n):=by
  intro i hi
  refine ⟨g,0,rfl,?_⟩
  simp only[List.length_take] at hi
  rw [Nat.zero_add,h.cell,List.getElem?_take,if_pos (by omega)]
  simp [List.getElem?_eq_getElem (show i < zs.length by omega)]
open Go.ChangeMaps (setBlock)
def Ents (es:Array MapEntry) (clock:Nat) (g:Int→Option Value):Prop:=
  MapKept.Stamped es clock∧(∀ e∈es.toList,∃ (n:Int) (s:Value),e.key=.int .i64 n∧e.val=s∧g n=some s)∧∀ (n:Int) s,g n=some s→∃ e∈es.toList,e.key=.int .i64 n
def MapIs (w:World) (b:Nat) (g:Int→Option Value):Prop:=
  ∃ es clock,w.heap[b]?=some (.map es clock)∧Ents es clock g
theorem MapIs.lt {w:World} {b:Nat} {g:Int→Option Value} (h:MapIs w b g):b < w.heap.size:=by
  obtain ⟨es,c,hb,_⟩:=h
  exact (Array.getElem?_eq_some_iff.1 hb).1
theorem MapIs.kept {S:Nat→Prop} {w w':World} {b:Nat} {g:Int→Option Value} (h:MapIs w b g) (hk:Kept S w w') (hS:¬ S b):MapIs w' b g:=by
  have hlt:=h.lt
  obtain ⟨es,c,hb,r⟩:=h
  exact ⟨es,c,(hk.block b hlt hS).trans hb,r⟩
theorem MapIs.new (w:World):MapIs (w.alloc (.map #[] 0)) w.heap.size (fun _=>none):=
  ⟨#[],0,(MapKept.heap_alloc w _).1,⟨MapKept.stamped_empty 0,by simp,by simp⟩⟩
variable {P:Program}
section
variable {ops:Array Oper} {rest:List Oper} {o:Oper} {a:Act} {w:World} {Q:Exit→Act→World→Prop}
theorem wp_runTo (hg:o.guard=none) (v:Value) (w':World) (hrun:(execOp a.eval o).run Tryz.prog w=.ok (.value v) w')
    (h:wpList Tryz.prog ops Q rest (a.put o.dst v) w'):wpList Tryz.prog ops Q (o :: rest) a w:=by
  refine wpList_plain hg fun K hK=>?_
  unfold Oper.wp
  rw [hrun,Oper.upon_value]
  exact hK _ _ h
end
set_option linter.unusedSimpArgs false
abbrev Bytes (w:World) (a:Option Addr) (zs:List Int):Prop:=Nums .u8 w a zs
def U8 (zs:List Int):Prop:=∀ i:Nat,0≤zs[i]?.getD 0∧zs[i]?.getD 0≤255
theorem Bytes.lt {w:World} {b off:Nat} {zs:List Int} (h:Bytes w (some ⟨b,off,none⟩) zs) (h0:0 < zs.length):b < w.heap.size:=by
  obtain ⟨b',off',e,hc⟩:=h 0 h0
  cases e
  exact World.block_lt_of_cell? w _ hc
def Blk (w:World) (g:Nat) (zs:List Int):Prop:=w.heap[g]?=some (.cells (zs.map (Value.int .u8)).toArray 5 (0,0))
theorem Blk.lt {w:World} {g:Nat} {zs:List Int} (h:Blk w g zs):g < w.heap.size:=(Array.getElem?_eq_some_iff.1 h).1
theorem Blk.cell {w:World} {g:Nat} {zs:List Int} (h:Blk w g zs) (i:Nat) (hi:i < zs.length):w.cell? ⟨g,i,none⟩=some (.int .u8 (zs[i]?.getD 0)):=by
  rw [cell_of_row w g i _ 5 (0,0) h];simp [List.getElem?_eq_getElem hi]
theorem Blk.frozen {w:World} {g:Nat} {zs:List Int} (h:Blk w g zs) (i:Nat):w.frozen? ⟨g,i,none⟩=false:=frozen_of_row w g i _ 5 h
theorem Blk.set {w:World} {g:Nat} {zs:List Int} (h:Blk w g zs) (i:Nat) (x:Int):Blk (w.setCell ⟨g,i,none⟩ (.int .u8 x)) g (zs.set i x):=by
  have:=heap_setCell_same w g i _ 5 (.int .u8 x) h
  unfold Blk
  rw [this]
  simp [List.map_set]
theorem Blk.kept {S:Nat→Prop} {w w':World} {g:Nat} {zs:List Int} (h:Blk w g zs) (hk:Kept S w w') (hS:¬ S g):Blk w' g zs:=
  (hk.block g h.lt hS).trans h
theorem Blk.bytes {w:World} {g:Nat} {zs:List Int} (h:Blk w g zs) (off n:Nat):Bytes w (some ⟨g,off,none⟩) ((zs.drop off).take n):=by
  intro i hi
  refine ⟨g,off,rfl,?_⟩
  simp only[List.length_take,List.length_drop] at hi
  rw [h.cell _ (by omega),List.getElem?_take,if_pos (by omega),List.getElem?_drop]
theorem Blk.bytes0 {w:World} {g:Nat} {zs:List Int} (h:Blk w g zs) (n:Nat):Bytes w (some ⟨g,0,none⟩) (zs.take n):=h.bytes 0 n
theorem Blk.all {w:World} {g:Nat} {zs:List Int} (h:Blk w g zs):Bytes w (some ⟨g,0,none⟩) zs:=by
  have:=h.bytes0 zs.length;rwa [List.take_length] at this
theorem U8.take {zs:List Int} (h:U8 zs) (n:Nat):U8 (zs.take n):=by
  intro i
  rw [List.getElem?_take]
  split
  · exact h i
  · simp
theorem U8.drop {zs:List Int} (h:U8 zs) (n:Nat):U8 (zs.drop n):=by
  intro i;rw [List.getElem?_drop];exact h _
theorem U8.nil:U8 []:=by intro i;simp
theorem U8.append {xs ys:List Int} (h:U8 xs) (k:U8 ys):U8 (xs++ys):=by
  intro i
  rw [List.getElem?_append]
  split
  · exact h i
  · exact k _
theorem U8.cons {x:Int} {xs:List Int} (h:0≤x∧x≤255) (k:U8 xs):U8 (x :: xs):=by
  intro i
  cases i with
  | zero=>simpa using h
  | succ i=>simpa using k i
theorem U8.replicate (n:Nat) {x:Int} (h:0≤x∧x≤255):U8 (List.replicate n x):=by
  induction n with
  | zero=>exact U8.nil
  | succ n ih=>rw [List.replicate_succ];exact U8.cons h ih
theorem U8.set {xs:List Int} (h:U8 xs) (i:Nat) {x:Int} (hx:0≤x∧x≤255):U8 (xs.set i x):=by
  intro j
  rw [List.getElem?_set]
  split
  · split
    · simpa using hx
    · simp
  · exact h j
def eqB (xs ys:List Int):Bool:=decide (xs=ys)
theorem eqB_len {xs ys:List Int} (h:xs.length≠ys.length):false=eqB xs ys:=by
  unfold eqB;symm;exact decide_eq_false (fun e=>h (by rw [e]))
theorem eqB_not {xs ys:List Int} (k:Nat) (h:xs[k]?.getD 0≠ys[k]?.getD 0):false=eqB xs ys:=by
  unfold eqB;symm;exact decide_eq_false (fun e=>h (by rw [e]))
theorem eqB_all {xs ys:List Int} (hl:xs.length=ys.length) (h:∀ j,j < xs.length→xs[j]?.getD 0=ys[j]?.getD 0):true=eqB xs ys:=by
  unfold eqB;symm;refine decide_eq_true (List.ext_getElem hl fun i h1 h2=>?_)
  have:=h i h1
  simpa [List.getElem?_eq_getElem h1,List.getElem?_eq_getElem h2] using this
theorem eqB_refl (xs:List Int):eqB xs xs=true:=by simp [eqB]
theorem Tryz.info5:(Tryz.prog.info? 5).map (fun i=>(i.zero,i.size,i.bytes))=some (some (.int .u8 0),1,1):=by kernel_rfl
theorem u8_one (zs:List Int):∀ v∈zs.map (Value.int .u8),v.oneCell'=true:=by
  intro v hv
  obtain ⟨z,_,rfl⟩:=List.mem_map.1 hv
  rfl
theorem Tryz.und3:Tryz.prog.underlying 3=some (.int .i64):=by kernel_rfl
structure TS (α:Type) where
  g:List Int
  need:Int
  v:Int→Option α
variable {α:Type} {f:Option α→Value} {T:TypeId}
def tmap (f:Option α→Value) (x:TS α):Int→Option Value:=fun n=>if n∈x.g then some (f (x.v n)) else none
def cnt (x:TS α):Nat:=x.g.countP (fun n=>(x.v n).isSome)
def talC (a:Option Addr) (cap b:Nat) (x:TS α):Array Value:=#[.slice a x.g.length cap,.int .i64 x.need,.int .i64 (cnt x),.map (some b)]
structure Tal (T:TypeId) (f:Option α→Value) (w:World) (t b:Nat) (a:Option Addr) (cap:Nat) (x:TS α):Prop where
  box:Box w t T (talC a cap b x)
  map:MapIs w b (tmap f x)
  row:Own 3 1 w 0 a cap x.g.length (x.g.map (Value.int .i64))
  nd:x.g.Nodup
  len:x.g.length≤17592186043904
  ty:T≠3
def TB (t b:Nat) (a:Option Addr):Nat→Prop:=fun k=>k=t∨k=b∨At a k
theorem Tal.kept {S:Nat→Prop} {w w':World} {t b cap:Nat} {a:Option Addr} {x:TS α} (h:Tal T f w t b a cap x) (hk:Kept S w w') (hS:∀ k,TB t b a k→¬ S k):Tal T f w' t b a cap x:=
  ⟨h.box.kept hk (hS t (.inl rfl)),h.map.kept hk (hS b (.inr (.inl rfl))),h.row.kept hk (fun k hk=>hS k (.inr (.inr hk))),h.nd,h.len,h.ty⟩
theorem Tal.no {w w':World} {t b cap:Nat} {a:Option Addr} {x:TS α} (h:Tal T f w t b a cap x) (hk:Kept No w w'):Tal T f w' t b a cap x:=h.kept hk (fun _ _ e=>e)
theorem Tal.ne {w:World} {t b cap:Nat} {a:Option Addr} {x:TS α} (h:Tal T f w t b a cap x):t≠b:=by
  intro e
  obtain ⟨es,c,hb,_⟩:=h.map
  have:=h.box
  unfold Box at this
  rw [e,hb] at this
  cases this
theorem Tal.nums {w:World} {t b cap:Nat} {a:Option Addr} {x:TS α} (h:Tal T f w t b a cap x):Nums .i64 w a x.g:=h.row.nums rfl
theorem Tal.off {w:World} {t b cap:Nat} {a:Option Addr} {x:TS α} (h:Tal T f w t b a cap x) {k:Nat} (hk:At a k):k≠t∧k≠b:=by
  rcases h.row.cases (by simp) with ⟨rfl,_⟩ | ⟨g,rfl,_,_,sp,hg,_⟩
  · exact absurd hk At.none
  · obtain ⟨ad,e,rfl⟩:=hk
    cases e
    constructor
    · intro e
      have e:g=t:=e
      have:=h.box
      unfold Box at this
      rw [e,this] at hg
      simp at hg
      exact h.ty hg.2
    · intro e
      have e:g=b:=e
      obtain ⟨es,c,hb,_⟩:=h.map
      rw [e,hb] at hg
      cases hg
theorem Tal.cells {w:World} {t b cap:Nat} {a:Option Addr} {x:TS α} (h:Tal T f w t b a cap x):w.cell? ⟨t,0,none⟩=some (.slice a x.g.length cap)∧w.cell? ⟨t,1,none⟩=some (.int .i64 x.need)∧w.cell? ⟨t,2,none⟩=some (.int .i64 (cnt x))∧w.cell? ⟨t,3,none⟩=some (.map (some b)):=
  ⟨h.box.cell 0,h.box.cell 1,h.box.cell 2,h.box.cell 3⟩
theorem Tal.lt {w:World} {t b cap:Nat} {a:Option Addr} {x:TS α} (h:Tal T f w t b a cap x) {k:Nat} (hk:TB t b a k):k < w.heap.size:=by
  rcases hk with rfl | rfl | hk
  · exact h.box.lt
  · exact h.map.lt
  · rcases h.row.cases (by simp) with ⟨rfl,_⟩ | ⟨g,rfl,_,hlt,_⟩
    · exact absurd hk At.none
    · obtain ⟨ad,e,rfl⟩:=hk
      cases e;exact hlt
theorem Own.nil (t:TypeId) (c:Nat) (w:World) (base:Nat):Own t c w base none 0 0 []:=⟨by simp,.inl ⟨rfl,rfl⟩⟩
structure Bk where
  n:Int
  c:Int
  a:Option Addr
  l:Nat
  k:Nat
abbrev OwnB (w:World) (base:Nat) (a:Option Addr) (cap:Nat) (zs:List Int):Prop:=Own 5 1 w base a cap zs.length (zs.map (Value.int .u8))
theorem OwnB.bytes {w:World} {base:Nat} {a:Option Addr} {cap:Nat} {zs:List Int} (h:OwnB w base a cap zs):Bytes w a zs:=h.nums rfl
theorem Bytes.none {w:World} {zs:List Int} (h:Bytes w none zs):zs=[]:=by
  cases zs with
  | nil=>rfl
  | cons z l=>obtain ⟨b,o,e,_⟩:=h 0 (by simp);cases e
structure MS where
  cl:Int
  op:Int
  k0:Int
  k1:Int
  k2:Int
  k3:Int
  g:List Int
  rd:Int
def mC (x:MS) (a:Option Addr) (cap:Nat) (t:TypeId) (v:Value):Array Value:=
  #[.bool true,.int .i64 x.cl,.int .i64 x.op,.int .i64 x.k0,.int .i64 x.k1,.int .i64 x.k2,.int .i64 x.k3,.slice a x.g.length cap,.int .i64 x.rd,.iface t v]
structure Mach (w:World) (m:Nat) (a:Option Addr) (cap:Nat) (x:MS) (t:TypeId) (v:Value):Prop where
  box:Box w m 168 (mC x a cap t v)
  row:Own 3 1 w 0 a cap x.g.length (x.g.map (Value.int .i64))
  nd:x.g.Nodup
  len:x.g.length≤17592186043904
def MB (m:Nat) (a:Option Addr):Nat→Prop:=fun k=>k=m∨At a k
theorem Mach.kept {S:Nat→Prop} {w w':World} {m cap:Nat} {a:Option Addr} {x:MS} {t:TypeId} {v:Value} (h:Mach w m a cap x t v) (hk:Kept S w w') (hS:∀ k,MB m a k→¬ S k):Mach w' m a cap x t v:=
  ⟨h.box.kept hk (hS m (.inl rfl)),h.row.kept hk (fun k hk=>hS k (.inr hk)),h.nd,h.len⟩
theorem Mach.no {w w':World} {m cap:Nat} {a:Option Addr} {x:MS} {t:TypeId} {v:Value} (h:Mach w m a cap x t v) (hk:Kept No w w'):Mach w' m a cap x t v:=h.kept hk (fun _ _ e=>e)
theorem Mach.off {w:World} {m cap:Nat} {a:Option Addr} {x:MS} {t:TypeId} {v:Value} (h:Mach w m a cap x t v) {k:Nat} (hk:At a k):k≠m:=by
  rcases h.row.cases (by simp) with ⟨rfl,_⟩ | ⟨g,rfl,_,_,sp,hg,_⟩
  · exact absurd hk At.none
  · obtain ⟨ad,e,rfl⟩:=hk
    cases e
    intro e
    have e:g=m:=e
    have:=h.box
    unfold Box at this
    rw [e,this] at hg
    simp at hg
theorem Mach.lt {w:World} {m cap:Nat} {a:Option Addr} {x:MS} {t:TypeId} {v:Value} (h:Mach w m a cap x t v) {k:Nat} (hk:MB m a k):k < w.heap.size:=by
  rcases hk with rfl | hk
  · exact h.box.lt
  · rcases h.row.cases (by simp) with ⟨rfl,_⟩ | ⟨g,rfl,_,hlt,_⟩
    · exact absurd hk At.none
    · obtain ⟨ad,e,rfl⟩:=hk
      cases e;exact hlt
structure Qm where
  sv:Int
  ba:Option Addr
  bc:Nat
structure Qh where
  kind:Int
  n:Int
  c:Int
  l:Nat
theorem OwnB.lt {w:World} {base:Nat} {a:Option Addr} {cap:Nat} {zs:List Int} (h:OwnB w base a cap zs) {k:Nat} (hk:At a k):k < w.heap.size:=by
  rcases h.cases (by simp) with ⟨rfl,_⟩ | ⟨g,rfl,_,hlt,_⟩
  · exact absurd hk At.none
  · obtain ⟨ad,e,rfl⟩:=hk
    cases e;exact hlt
theorem Box.setRow {w:World} {g:Nat} {t:TypeId} {old:Array Value} (h:Box w g t old) (cs:Array Value):Box (w.setRow g cs) g t cs:=setRow_heap w g old cs t (0,0) h
theorem Kept.setRow (w:World) (g:Nat) (cs:Array Value):Kept (Only g) w (w.setRow g cs):=
  ⟨rfl,rfl,rfl,by simp [World.setRow],fun k _ hk=>setRow_other w g k cs hk⟩
open Go.ChangeShapes Go.WideShapes Go.ChangeAt Go.RowKit
open Go.ChangeMaps (open_string shut_string)
theorem own:ownKnob Tryz.prog.godebug=none:=by kernel_rfl
theorem Tryz.und4:Tryz.prog.underlying 4=some .bool:=by kernel_rfl
theorem Tryz.und62:Tryz.prog.underlying 30=some (.slice 5):=by kernel_rfl
structure Bl where
  n:Int
  c:Int
  a:Option Addr
  l:Nat
  k:Nat
  bs:List Int
instance:Inhabited Bl:=⟨⟨0,0,none,0,0,[]⟩⟩
def Bl.cs (b:Bl):List Value:=[.int .i64 b.n,.int .i64 b.c,.slice b.a b.l b.k]
structure BlOk (w:World) (b:Bl):Prop where
  nums:Bytes w b.a b.bs
  len:b.bs.length=b.l
  cap:b.l≤b.k
  big:b.k≤140737488351232
  u8:U8 b.bs
  nil:b.a=none→b.l=0∧b.k=0
def Bls (w:World) (a:Option Addr) (xs:List Bl):Prop:=
  ∀ (i:Nat) it,xs[i]?=some it→∃ b off,a=some ⟨b,off,none⟩∧w.cell? ⟨b,off+i*3,none⟩=some (.int .i64 it.n)∧w.cell? ⟨b,off+i*3+1,none⟩=some (.int .i64 it.c)∧w.cell? ⟨b,off+i*3+2,none⟩=some (.slice it.a it.l it.k)
theorem Bls.no {w w':World} {a:Option Addr} {xs:List Bl} (h:Bls w a xs) (hk:Kept No w w'):Bls w' a xs:=by
  intro i it hi
  obtain ⟨b,off,e,c0,c1,c2⟩:=h i it hi
  exact ⟨b,off,e,hk.cell c0 (fun e=>e),hk.cell c1 (fun e=>e),hk.cell c2 (fun e=>e)⟩
theorem BlOk.no {w w':World} {it:Bl} (h:BlOk w it) (hk:Kept No w w'):BlOk w' it:=⟨h.nums.no hk,h.len,h.cap,h.big,h.u8,h.nil⟩
structure MD where
  kind:Int
  fc:Bool
  fi:Int
  tc:Bool
  ti:Int
  op:Int
  rd:Int
  k0:Int
  k1:Int
  k2:Int
  k3:Int
  sn:Int
  sc:Int
  h0:Int
  h1:Int
  ba:Option Addr
  bl:Nat
  bk:Nat
  rest:List Value
def MD.cells (d:MD):Array Value:=(([.int .i64 d.kind,.bool d.fc,.int .i64 d.fi,.bool d.tc,.int .i64 d.ti,.int .i64 d.op,.int .i64 d.rd,.int .i64 d.k0,.int .i64 d.k1,.int .i64 d.k2,.int .i64 d.k3,.int .i64 d.sn,.int .i64 d.sc,.int .i64 d.h0,.int .i64 d.h1,.slice d.ba d.bl d.bk]:List Value)++d.rest).toArray
structure MdOk (d:MD):Prop where
  len:d.rest.length=14
  one:∀ v∈d.rest,v.oneCell'=true
theorem MD.size {d:MD} (h:MdOk d):d.cells.size=30:=by simp [MD.cells,h.len]
theorem MD.one {d:MD} (h:MdOk d):d.cells.all (·.oneCell')=true:=by
  simp only[MD.cells,List.all_toArray,List.all_append,Bool.and_eq_true,List.all_eq_true]
  refine ⟨?_,h.one⟩
  intro v hv
  simp only[List.mem_cons,List.not_mem_nil,or_false] at hv
  rcases hv with h | h | h | h | h | h | h | h | h | h | h | h | h | h | h | h <;> subst h <;> rfl
section
variable {ops:Array Oper} {rest:List Oper} {o:Oper} {a:Act} {w:World} {Q:Exit→Act→World→Prop}
end
def storeR (x:Addr) (v:Value):=storeVar 119 x v
theorem storeR_eq (x:Addr) (v:Value):storeVar 119 x v=storeR x v:=rfl
section
attribute [local go_sem ↓] storeR_eq
end
section
attribute [local go_sem ↓] storeR_eq
end
def prs:List (Int × Bk)→List Value
  | []=>[]
  | p :: l=>.int .i64 p.1 :: .int .i64 p.2.n :: .int .i64 p.2.c :: .slice p.2.a p.2.l p.2.k :: prs l
theorem prs_len (a:List (Int × Bk)):(prs a).length=a.length*4:=by
  induction a with
  | nil=>rfl
  | cons p l ih=>simp [prs,ih];omega
instance:Inhabited Bk:=⟨⟨0,0,none,0,0⟩⟩
theorem prs_at:∀ (a:List (Int × Bk)) (i:Nat) (p:Int × Bk),a[i]?=some p→(prs a)[i*4]?=some (.int .i64 p.1)∧(prs a)[i*4+1]?=some (.int .i64 p.2.n)∧(prs a)[i*4+2]?=some (.int .i64 p.2.c)∧(prs a)[i*4+3]?=some (.slice p.2.a p.2.l p.2.k)
  | q :: l,0,p,h=>by simp at h;subst h;exact ⟨rfl,rfl,rfl,rfl⟩
  | q :: l,i+1,p,h=>by
    have:=prs_at l i p (by simpa using h)
    have e:(i+1) * 4=i*4+1+1+1+1:=by omega
    rw [e]
    simpa [prs] using this
open Go.RowKit Go.Shelf
attribute [local go_sem] Oper.semAt_some
structure SeqAt (W:World) (lb:Nat) (a:Option Addr) (cap:Nat) (ps:List (Int × Bk)):Prop where
  box:Box W lb 138 #[.slice a ps.length cap]
  row:Own 140 4 W 0 a cap ps.length (prs ps)
def SB (lb:Nat) (a:Option Addr):Nat→Prop:=fun k=>k=lb∨At a k
def NB (lb:Nat) (a:Option Addr):Nat→Prop:=fun k=>¬ SB lb a k
theorem SeqAt.kept {S:Nat→Prop} {W W':World} {lb cap:Nat} {a:Option Addr} {ps:List (Int × Bk)} (h:SeqAt W lb a cap ps) (hk:Kept S W W') (hS:∀ k,SB lb a k→¬ S k):SeqAt W' lb a cap ps:=
  ⟨h.box.kept hk (hS _ (.inl rfl)),h.row.kept hk (fun k e=>hS k (.inr e))⟩
theorem SeqAt.nb {W W':World} {lb cap:Nat} {a:Option Addr} {ps:List (Int × Bk)} (h:SeqAt W lb a cap ps) (hk:Kept (NB lb a) W W'):SeqAt W' lb a cap ps:=h.kept hk (fun _ e f=>f e)
theorem SeqAt.lt {W:World} {lb cap:Nat} {a:Option Addr} {ps:List (Int × Bk)} (h:SeqAt W lb a cap ps) {k:Nat} (hk:SB lb a k):k < W.heap.size:=by
  rcases hk with rfl | hk
  · exact h.box.lt
  · rcases h.row.cases (prs_len _) with ⟨rfl,_⟩ | ⟨g,rfl,_,hlt,_⟩
    · exact absurd hk At.none
    · obtain ⟨ad,e,rfl⟩:=hk
      cases e;exact hlt
theorem SeqAt.at {W:World} {lb cap:Nat} {a:Option Addr} {ps:List (Int × Bk)} (h:SeqAt W lb a cap ps) {i:Nat} (hi:i < ps.length) :
    ∃ pg,a=some ⟨pg,0,none⟩∧W.cell? ⟨pg,i*4,none⟩=some (.int .i64 (ps[i]?.getD default).1)∧W.cell? ⟨pg,i*4+1,none⟩=some (.int .i64 (ps[i]?.getD default).2.n)∧W.cell? ⟨pg,i*4+2,none⟩=some (.int .i64 (ps[i]?.getD default).2.c)∧W.cell? ⟨pg,i*4+3,none⟩=some (.slice (ps[i]?.getD default).2.a (ps[i]?.getD default).2.l (ps[i]?.getD default).2.k):=by
  rcases h.row.cases (prs_len _) with ⟨rfl,_,h0⟩ | ⟨g,rfl,_,hlt,sp,hg,_⟩
  · omega
  · have hb:Box W g 140 (prs ps++sp).toArray:=hg
    have hp:ps[i]?=some (ps[i]?.getD default):=by rw [List.getElem?_eq_getElem hi];rfl
    obtain ⟨p1,p2,p3,p4⟩:=prs_at ps i _ hp
    have hl:=prs_len ps
    refine ⟨g,rfl,?_,?_,?_,?_⟩
    · rw [hb.cell,List.getElem?_toArray,List.getElem?_append_left (by omega),p1]
    · rw [hb.cell,List.getElem?_toArray,List.getElem?_append_left (by omega),p2]
    · rw [hb.cell,List.getElem?_toArray,List.getElem?_append_left (by omega),p3]
    · rw [hb.cell,List.getElem?_toArray,List.getElem?_append_left (by omega),p4]
def pAt (ps:List Bk) (i:Nat):Bk:=ps[i]?.getD default
def Sts (w:World) (a:Option Addr) (ps:List Bk):Prop:=
  ∀ i,i < ps.length→∃ b off,a=some ⟨b,off,none⟩∧w.cell? ⟨b,off+i*3,none⟩=some (.int .i64 (pAt ps i).n)∧w.cell? ⟨b,off+i*3+1,none⟩=some (.int .i64 (pAt ps i).c)∧w.cell? ⟨b,off+i*3+2,none⟩=some (.slice (pAt ps i).a (pAt ps i).l (pAt ps i).k)
theorem Sts.no {w w':World} {a:Option Addr} {ps:List Bk} (h:Sts w a ps) (hk:Kept No w w'):Sts w' a ps:=by
  intro i hi
  obtain ⟨b,off,e,c0,c1,c2⟩:=h i hi
  exact ⟨b,off,e,hk.cell c0 (fun e=>e),hk.cell c1 (fun e=>e),hk.cell c2 (fun e=>e)⟩
attribute [local go_sem] Oper.semAt_some
theorem box_cells {W W':World} {row:Option Nat} {b t:Nat} {cs:Array Value} (hb:Box W b t cs) (hg:W.grownBy W' row) (hr:∀ r,row=some r→∃ o:Obj,W.heap[r]?=some o∧o.isCells=false):Box W' b t cs:=
  (hg.block b hb.lt (fun e=>by
    obtain ⟨o,ho',hc⟩:=hr b e.symm
    unfold Box at hb
    rw [hb] at ho';cases ho';cases hc)).trans hb
end Go.Proofs.YtgdnofacgfjaeabGreat
