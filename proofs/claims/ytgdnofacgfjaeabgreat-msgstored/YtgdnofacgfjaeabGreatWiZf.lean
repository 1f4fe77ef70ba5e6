import Derived.WalkKit
import Derived.Laws.Closers25b
import Derived.Test.YtgdnofacgfjaeabGreatRows
import Derived.Deep.Draws
import Derived.Laws.CopyOwn
import Derived.Laws.AppendOwnNone
import Derived.WalkSmall
import Derived.Deep.QuietTactic
import Derived.BigQuiet
import Derived.Deep.DeepMust
import Derived.Lib.QuietBelow
import Derived.Deep.CutBlock
import Derived.Deep.DeepCutAuto
namespace Go.Proofs.YtgdnofacgfjaeabGreat.Wi
open Go.RowKit
def shf (s:Int):Int:=if (bits .and .u32 s 1==1)=true then bits .xor .u32 (s / 2) 2197175160 else s / 2
def shfN:Nat→Int→Int
  | 0,s=>s
  | n+1,s=>shf (shfN n s)
def upd (s z:Int):Int:=shfN 8 (bits .xor .u32 s z)
def crc (zs:List Int):Int:=zs.foldl upd 4294967295
def sumOf (zs:List Int):Int:=bits .xor .u32 (crc zs) 4294967295
theorem bits_xor_comm (k:IntKind) (x y:Int):bits .xor k x y=bits .xor k y x:=by
  simp only[bits];rw [BitVec.xor_comm]
theorem shf_bd (s:Int) (h0:0≤s) (h1:s≤4294967295):0≤shf s∧shf s≤4294967295:=by
  unfold shf
  split
  · exact ⟨bits_lo_u32 _ _ _,bits_hi_u32 _ _ _⟩
  · omega
theorem shfN_bd (n:Nat) (s:Int) (h0:0≤s) (h1:s≤4294967295):0≤shfN n s∧shfN n s≤4294967295:=by
  induction n with
  | zero=>exact ⟨h0,h1⟩
  | succ n ih=>exact shf_bd _ ih.1 ih.2
theorem upd_bd (s z:Int):0≤upd s z∧upd s z≤4294967295:=
  shfN_bd 8 _ (bits_lo_u32 _ _ _) (bits_hi_u32 _ _ _)
theorem crc_bd (zs:List Int):0≤crc zs∧crc zs≤4294967295:=by
  unfold crc
  suffices h:∀ (zs:List Int) (s:Int),0≤s→s≤4294967295→0≤zs.foldl upd s∧zs.foldl upd s≤4294967295 from h zs _ (by omega) (by omega)
  intro zs
  induction zs with
  | nil=>intro s a b;exact ⟨a,b⟩
  | cons z r ih=>intro s _ _;exact ih _ (upd_bd s z).1 (upd_bd s z).2
theorem sumOf_bd (zs:List Int):0≤sumOf zs∧sumOf zs≤4294967295:=⟨bits_lo_u32 _ _ _,bits_hi_u32 _ _ _⟩
theorem crc_snoc (zs:List Int) (k:Nat) (h:k < zs.length):crc (zs.take (k+1))=upd (crc (zs.take k)) (zs[k]?.getD 0):=by
  rw [List.take_succ_eq_append_getElem h,crc,List.foldl_append]
  simp [List.getElem?_eq_getElem h,crc]
def Bytes (w:World) (a:Option Addr) (zs:List Int):Prop:=
  ∀ i,i < zs.length→∃ b off,a=some ⟨b,off,none⟩∧w.cell? ⟨b,off+i,none⟩=some (.int .u8 (zs[i]?.getD 0))
def U8 (zs:List Int):Prop:=∀ i:Nat,0≤zs[i]?.getD 0∧zs[i]?.getD 0≤255
set_option linter.unusedVariables false
theorem ret_int {k:IntKind} {a b:Int} (h:a=b):Ending.returned (.int k a)=.returned (.int k b):=by rw [h]
theorem shf_t {s:Int} (h:(bits .and .u32 s 1==1)=true):bits .xor .u32 (s / 2) 2197175160=shf s:=by simp only[shf,if_pos h]
theorem shf_f {s:Int} (h:(bits .and .u32 s 1==1)=false):s / 2=shf s:=by simp [shf,h]
theorem shift_any (s:Int) (w:World) (h0:0≤s) (h1:s≤4294967295) :
    Calls Tryz.prog 106 #[.int .u32 s] w fun e w'=>e=.returned (.int .u32 (shf s))∧w'=w:=by
  go_enter Tryz.func106,Tryz.ntmps106
  go_wp2
  all_goals go_ret
  · exact ⟨ret_int (shf_t ‹_›),rfl⟩
  · exact ⟨ret_int (shf_f ‹_›),rfl⟩
set_option maxRecDepth 1000000 in
set_option maxHeartbeats 400000 in
theorem sum_any (a:Option Addr) (cap:Nat) (zs:List Int) (w:World) (hm:zs.length≤140737488355328) (hb:Bytes w a zs) (h8:U8 zs) :
    Calls Tryz.prog 53 #[.slice a zs.length cap] w fun e w'=>e=.returned (.int .i64 (sumOf zs))∧w'=w:=by
  have HB:Hid (Bytes w a zs):=hb
  have H8:Hid (U8 zs):=h8
  clear hb h8
  go_enter Tryz.func53,Tryz.ntmps53
  go_wp2
  go_loop [3,8] (fun s i=>∃ k:Nat,k≤zs.length∧i=.int .i64 k∧s=.int .u32 (crc (zs.take k))) (fun _ i=>zs.length - (intOf i).toNat)
  case atStart=>exact ⟨0,Nat.zero_le _,rfl,rfl⟩
  case round=>
    obtain ⟨k,hk,rfl,rfl⟩:=hrel
    have hc:=crc_bd (zs.take k)
    by_cases hlt:k < zs.length
    · obtain ⟨b,off,rfl,hcell⟩:=HB.out k hlt
      have hz:=H8.out k
      have HS:Hid (crc (zs.take (k+1))=upd (crc (zs.take k)) (zs[k]?.getD 0)):=crc_snoc zs k hlt
      generalize zs[k]?.getD 0=z at hcell hz HS
      go_wp2
      go_loop [3,16] (fun s i=>∃ j:Nat,j≤8∧i=.int .i64 j∧s=.int .u32 (shfN j (bits .xor .u32 (crc (zs.take k)) z))) (fun _ i=>8 - (intOf i).toNat)
      case atStart=>exact ⟨0,Nat.zero_le _,rfl,rfl⟩
      case round=>
        obtain ⟨j,hj,rfl,rfl⟩:=hrel
        have hs:=shfN_bd j (bits .xor .u32 (crc (zs.take k)) z) (bits_lo_u32 _ _ _) (bits_hi_u32 _ _ _)
        by_cases hjlt:j < 8
        · go_wp2_with (go_at_call 106;refine (shift_any _ _ (by omega) (by omega)).mono ?_;rintro e w' ⟨rfl,rfl⟩)
          go_round
          case rel=>exact ⟨j+1,by omega,by go_num,rfl⟩
          case measure=>simp [intOf];omega
        · obtain rfl:j=8:=by omega
          go_wp2
          go_round
          case rel=>exact ⟨k+1,by omega,by go_num,by rw [HS.out];rfl⟩
          case measure=>simp [intOf];omega
    · go_wp2
      go_ret
      refine ⟨ret_int ?_,rfl⟩
      rw [IntWalk.wrap64_in _ ⟨by have:=bits_lo_u32 .xor IntKind.u32.max (crc (zs.take k));omega,by have:=bits_hi_u32 .xor IntKind.u32.max (crc (zs.take k));omega⟩,bits_xor_comm,List.take_of_length_le (by omega)]
      rfl
structure Kept (S:Nat→Prop) (w w':World):Prop where
  os:w'.os=w.os
  tape:w'.tape=w.tape
  output:w'.output=w.output
  size:w.heap.size≤w'.heap.size
  block:∀ k,k < w.heap.size→¬ S k→w'.heap[k]?=w.heap[k]?
def No:Nat→Prop:=fun _=>False
def Only (g:Nat):Nat→Prop:=fun k=>k=g
theorem Kept.refl (S:Nat→Prop) (w:World):Kept S w w:=⟨rfl,rfl,rfl,Nat.le_refl _,fun _ _ _=>rfl⟩
theorem Kept.trans {S T U:Nat→Prop} {a b c:World} (h:Kept S a b) (k:Kept T b c) (hS:∀ i,S i→U i) (hT:∀ i,i < a.heap.size→T i→U i):Kept U a c:=
  ⟨k.os.trans h.os,k.tape.trans h.tape,k.output.trans h.output,Nat.le_trans h.size k.size,
    fun i hi hU=>(k.block i (Nat.lt_of_lt_of_le hi h.size) (fun e=>hU (hT i hi e))).trans (h.block i hi (fun e=>hU (hS i e)))⟩
theorem Kept.mono {S T:Nat→Prop} {a b:World} (h:Kept S a b) (hS:∀ i,i < a.heap.size→S i→T i):Kept T a b:=
  ⟨h.os,h.tape,h.output,h.size,fun i hi hT=>h.block i hi (fun e=>hT (hS i hi e))⟩
theorem Kept.of_no {S:Nat→Prop} {a b:World} (h:Kept No a b):Kept S a b:=h.mono (fun _ _ e=>e.elim)
theorem Kept.then {S:Nat→Prop} {a b c:World} (h:Kept S a b) (k:Kept S b c):Kept S a c:=h.trans k (fun _ e=>e) (fun _ _ e=>e)
theorem Kept.drewN {S:Nat→Prop} {a w:World} (h:Kept S a w) (n:Nat):Kept S a (w.drewN n):=⟨h.os,h.tape,h.output,h.size,h.block⟩
theorem Kept.drew {S:Nat→Prop} {a w:World} (h:Kept S a w):Kept S a w.drew:=⟨h.os,h.tape,h.output,h.size,h.block⟩
theorem Kept.alloc {S:Nat→Prop} {a w:World} (h:Kept S a w) (o:Obj):Kept S a (w.alloc o):=
  h.then ⟨rfl,rfl,rfl,by simp,fun k hk _=>Below.heap_alloc _ _ _ hk⟩
theorem Kept.setCell {S:Nat→Prop} {a w:World} (h:Kept S a w) {p:Addr} (hp:p.block < a.heap.size→S p.block) (u:Value):Kept S a (w.setCell p u):=
  ⟨h.os,h.tape,h.output,by simpa [World.setCell] using h.size,fun k hk hS=>by
    rw [Below.heap_setCell _ _ _ _ (fun e=>hS (by subst e;exact hp hk))];exact h.block k hk hS⟩
theorem Kept.grown {S:Nat→Prop} {a w w':World} {row:Option Nat} (h:Kept S a w) (hg:w.grownBy w' row) (hr:∀ k,row=some k→k < a.heap.size→S k):Kept S a w':=
  ⟨hg.os.trans h.os,hg.tape.trans h.tape,hg.output.trans h.output,Nat.le_trans h.size hg.size,
    fun k hk hS=>(hg.block k (Nat.lt_of_lt_of_le hk h.size) (fun e=>hS (hr k e.symm hk))).trans (h.block k hk hS)⟩
theorem Kept.below {S:Nat→Prop} {w w':World} {B:Nat} (h:Kept S w w') (hB:B≤w.heap.size) (hS:∀ k,S k→B≤k):Below B w w':=
  ⟨h.os,h.tape,h.output,h.size,fun k hk=>h.block k (by omega) (fun e=>by have:=hS k e;omega)⟩
theorem Kept.of_below {w w':World} (h:Below w.heap.size w w'):Kept No w w':=⟨h.os,h.tape,h.output,h.size,fun k hk _=>h.block k hk⟩
theorem Kept.cell {S:Nat→Prop} {w w':World} (h:Kept S w w') {p:Addr} {v:Value} (hc:w.cell? p=some v) (hp:¬ S p.block):w'.cell? p=some v:=
  (World.cell?_of_block (w:=w) (h.block p.block (World.block_lt_of_cell? w p hc) hp)).trans hc
theorem Bytes.kept {S:Nat→Prop} {w w':World} {a:Option Addr} {zs:List Int} (h:Bytes w a zs) (hk:Kept S w w') (hS:∀ b off,a=some ⟨b,off,none⟩→¬ S b):Bytes w' a zs:=by
  intro i hi
  obtain ⟨b,off,rfl,hc⟩:=h i hi
  exact ⟨b,off,rfl,hk.cell hc (hS b off rfl)⟩
theorem Bytes.no {w w':World} {a:Option Addr} {zs:List Int} (h:Bytes w a zs) (hk:Kept No w w'):Bytes w' a zs:=h.kept hk (fun _ _ _ e=>e)
theorem Bytes.lt {w:World} {b off:Nat} {zs:List Int} (h:Bytes w (some ⟨b,off,none⟩) zs) (h0:0 < zs.length):b < w.heap.size:=by
  obtain ⟨b',off',e,hc⟩:=h 0 h0
  cases e
  exact World.block_lt_of_cell? w _ hc
def Blk (w:World) (g:Nat) (zs:List Int):Prop:=w.heap[g]?=some (.cells (zs.map (Value.int .u8)).toArray 5 (0,0))
theorem Blk.lt {w:World} {g:Nat} {zs:List Int} (h:Blk w g zs):g < w.heap.size:=(Array.getElem?_eq_some_iff.1 h).1
theorem Blk.cell {w:World} {g:Nat} {zs:List Int} (h:Blk w g zs) (i:Nat) (hi:i < zs.length):w.cell? ⟨g,i,none⟩=some (.int .u8 (zs[i]?.getD 0)):=by
  rw [cell_of_row w g i _ 5 (0,0) h];simp [List.getElem?_eq_getElem hi]
theorem Blk.frozen {w:World} {g:Nat} {zs:List Int} (h:Blk w g zs) (i:Nat):w.frozen? ⟨g,i,none⟩=false:=frozen_of_row w g i _ 5 h
theorem Blk.set {w:World} {g:Nat} {zs:List Int} (h:Blk w g zs) (i:Nat) (x:Int):Blk (w.setCell ⟨g,i,none⟩ (.int .u8 x)) g (zs.set i x):=by
  have:=heap_setCell_same w g i _ 5 (.int .u8 x) h
  unfold Blk
  rw [this]
  simp [List.map_set]
theorem Blk.kept {S:Nat→Prop} {w w':World} {g:Nat} {zs:List Int} (h:Blk w g zs) (hk:Kept S w w') (hS:¬ S g):Blk w' g zs:=
  (hk.block g h.lt hS).trans h
theorem Blk.bytes {w:World} {g:Nat} {zs:List Int} (h:Blk w g zs) (off n:Nat):Bytes w (some ⟨g,off,none⟩) ((zs.drop off).take n):=by
  intro i hi
  refine ⟨g,off,rfl,?_⟩
  simp only[List.length_take,List.length_drop] at hi
  rw [h.cell _ (by omega),List.getElem?_take,if_pos (by omega),List.getElem?_drop]
theorem Blk.bytes0 {w:World} {g:Nat} {zs:List Int} (h:Blk w g zs) (n:Nat):Bytes w (some ⟨g,0,none⟩) (zs.take n):=h.bytes 0 n
theorem Blk.all {w:World} {g:Nat} {zs:List Int} (h:Blk w g zs):Bytes w (some ⟨g,0,none⟩) zs:=by
  have:=h.bytes0 zs.length;rwa [List.take_length] at this
theorem U8.take {zs:List Int} (h:U8 zs) (n:Nat):U8 (zs.take n):=by
  intro i
  rw [List.getElem?_take]
  split
  · exact h i
  · simp
theorem U8.drop {zs:List Int} (h:U8 zs) (n:Nat):U8 (zs.drop n):=by
  intro i;rw [List.getElem?_drop];exact h _
theorem U8.nil:U8 []:=by intro i;simp
theorem U8.append {xs ys:List Int} (h:U8 xs) (k:U8 ys):U8 (xs++ys):=by
  intro i
  rw [List.getElem?_append]
  split
  · exact h i
  · exact k _
theorem U8.cons {x:Int} {xs:List Int} (h:0≤x∧x≤255) (k:U8 xs):U8 (x :: xs):=by
  intro i
  cases i with
  | zero=>simpa using h
  | succ i=>simpa using k i
theorem U8.replicate (n:Nat) {x:Int} (h:0≤x∧x≤255):U8 (List.replicate n x):=by
  induction n with
  | zero=>exact U8.nil
  | succ n ih=>rw [List.replicate_succ];exact U8.cons h ih
theorem U8.set {xs:List Int} (h:U8 xs) (i:Nat) {x:Int} (hx:0≤x∧x≤255):U8 (xs.set i x):=by
  intro j
  rw [List.getElem?_set]
  split
  · split
    · simpa using hx
    · simp
  · exact h j
def eqB (xs ys:List Int):Bool:=decide (xs=ys)
theorem eqB_len {xs ys:List Int} (h:xs.length≠ys.length):false=eqB xs ys:=by
  unfold eqB;symm;exact decide_eq_false (fun e=>h (by rw [e]))
theorem eqB_not {xs ys:List Int} (k:Nat) (h:xs[k]?.getD 0≠ys[k]?.getD 0):false=eqB xs ys:=by
  unfold eqB;symm;exact decide_eq_false (fun e=>h (by rw [e]))
theorem eqB_all {xs ys:List Int} (hl:xs.length=ys.length) (h:∀ j,j < xs.length→xs[j]?.getD 0=ys[j]?.getD 0):true=eqB xs ys:=by
  unfold eqB;symm;refine decide_eq_true (List.ext_getElem hl fun i h1 h2=>?_)
  have:=h i h1
  simpa [List.getElem?_eq_getElem h1,List.getElem?_eq_getElem h2] using this
theorem eqB_refl (xs:List Int):eqB xs xs=true:=by simp [eqB]
theorem drewN2 (w:World) (n m:Nat):(w.drewN n).drewN m=w.drewN (n+m):=by simp [World.drewN,Nat.add_assoc]
theorem ret_bool {a b:Bool} (h:a=b):Ending.returned (.bool a)=.returned (.bool b):=by rw [h]
set_option maxRecDepth 1000000 in
set_option maxHeartbeats 400000 in
theorem same_any (a b:Option Addr) (ca cb:Nat) (xs ys:List Int) (w:World) (hm:xs.length≤281474976710656) (hn:ys.length≤281474976710656) (hx:Bytes w a xs) (hy:Bytes w b ys) :
    Calls Tryz.prog 10 #[.slice a xs.length ca,.slice b ys.length cb] w fun e w'=>e=.returned (.bool (eqB xs ys))∧∃ n,w'=w.drewN n:=by
  have HX:Hid (Bytes w a xs):=hx
  have HY:Hid (Bytes w b ys):=hy
  clear hx hy
  by_cases hl:xs.length=ys.length
  · have HL:Hid (xs.length=ys.length):=hl
    go_enter Tryz.func10,Tryz.ntmps10
    go_wp2
    go_loopw [5] (fun i wr=>∃ k:Nat,k≤xs.length∧i=.int .i64 k∧Hid (∀ j,j < k→xs[j]?.getD 0=ys[j]?.getD 0)∧∃ n,wr=w.drewN n) (fun i _=>xs.length - (intOf i).toNat)
    case atStart=>exact ⟨0,Nat.zero_le _,rfl,fun j hj=>absurd hj (Nat.not_lt_zero _),0,rfl⟩
    case round=>
      obtain ⟨k,hk,rfl,HE,n,rfl⟩:=hrel
      by_cases hlt:k < xs.length
      · have hlt2:k < ys.length:=by omega
        clear hl
        obtain ⟨b1,o1,rfl,hc1⟩:=HX.out k hlt
        obtain ⟨b2,o2,rfl,hc2⟩:=HY.out k hlt2
        by_cases he:xs[k]?.getD 0=ys[k]?.getD 0
        · have HE':Hid (∀ j,j < k+1→xs[j]?.getD 0=ys[j]?.getD 0):=fun j hj=>by
            by_cases e:j=k
            · subst e;exact he
            · exact HE.out j (by omega)
          rw [← he] at hc2
          clear he HE
          generalize xs[k]?.getD 0=z at hc1 hc2
          go_wp2
          go_quiet (fail)
          go_wp2
          go_roundw
          case rel=>exact ⟨k+1,by omega,by go_num,HE',_,rfl⟩
          case measure=>simp [intOf];omega
        · have HN:Hid (xs[k]?.getD 0≠ys[k]?.getD 0):=he
          have hne:(xs[k]?.getD 0==ys[k]?.getD 0)=false:=by simpa using he
          clear he HE
          generalize hz:xs[k]?.getD 0=z at hc1 hne
          generalize hu:ys[k]?.getD 0=u at hc2 hne
          have HZ:Hid (xs[k]?.getD 0=z):=hz
          have HU:Hid (ys[k]?.getD 0=u):=hu
          clear hz hu
          go_wp2
          go_quiet (fail)
          go_wp2
          go_ret
          exact ⟨ret_bool (eqB_not k HN.out),_,drewN2 _ _ _⟩
      · clear hl
        go_wp2
        go_ret
        exact ⟨ret_bool (eqB_all HL.out (fun j hj=>HE.out j (by omega))),_,rfl⟩
  · have hl':((xs.length:Int)==(ys.length:Int))=false:=by simp;omega
    go_enter Tryz.func10,Tryz.ntmps10
    go_wp2
    go_ret
    exact ⟨ret_bool (eqB_len hl),0,rfl⟩
def Nums (q:IntKind) (w:World) (a:Option Addr) (zs:List Int):Prop:=
  ∀ i,i < zs.length→∃ b off,a=some ⟨b,off,none⟩∧w.cell? ⟨b,off+i,none⟩=some (.int q (zs[i]?.getD 0))
theorem Nums.kept {q:IntKind} {S:Nat→Prop} {w w':World} {a:Option Addr} {zs:List Int} (h:Nums q w a zs) (hk:Kept S w w') (hS:∀ b off,a=some ⟨b,off,none⟩→¬ S b):Nums q w' a zs:=by
  intro i hi
  obtain ⟨b,off,rfl,hc⟩:=h i hi
  exact ⟨b,off,rfl,hk.cell hc (hS b off rfl)⟩
theorem Nums.no {q:IntKind} {w w':World} {a:Option Addr} {zs:List Int} (h:Nums q w a zs) (hk:Kept No w w'):Nums q w' a zs:=h.kept hk (fun _ _ _ e=>e)
theorem Nums.nil (q:IntKind) (w:World) (a:Option Addr):Nums q w a []:=fun i hi=>absurd hi (Nat.not_lt_zero _)
theorem addr_add9 (b off j:Nat):(⟨b,off,none⟩:Addr).add j=⟨b,off+j,none⟩:=by unfold Addr.add;split <;> simp_all
theorem Nums.src {q:IntKind} {w:World} {a:Option Addr} {zs:List Int} (hb:Nums q w a zs) (h0:0 < (zs.map (Value.int q)).length) :
    ∃ ad,a=some ad∧∀ (j:Nat) v,(zs.map (Value.int q))[j]?=some v→w.cell? (ad.add j)=some v:=by
  simp only[List.length_map] at h0
  obtain ⟨b,off,rfl,_⟩:=hb 0 h0
  refine ⟨_,rfl,fun j v hv=>?_⟩
  have hj:j < zs.length:=by
    have:=(List.getElem?_eq_some_iff.1 hv).1
    simpa using this
  obtain ⟨b',off',e,hc⟩:=hb j hj
  cases e
  rw [addr_add9,hc]
  simp [List.getElem?_eq_getElem hj] at hv ⊢
  exact hv
def Box (w:World) (g:Nat) (t:TypeId) (cs:Array Value):Prop:=w.heap[g]?=some (.cells cs t (0,0))
theorem Box.lt {w:World} {g:Nat} {t:TypeId} {cs:Array Value} (h:Box w g t cs):g < w.heap.size:=(Array.getElem?_eq_some_iff.1 h).1
theorem Box.cell {w:World} {g:Nat} {t:TypeId} {cs:Array Value} (h:Box w g t cs) (i:Nat):w.cell? ⟨g,i,none⟩=cs[i]?:=cell_of_row w g i _ t (0,0) h
theorem Box.frozen {w:World} {g:Nat} {t:TypeId} {cs:Array Value} (h:Box w g t cs) (i:Nat):w.frozen? ⟨g,i,none⟩=false:=frozen_of_row w g i _ t h
theorem Box.set {w:World} {g:Nat} {t:TypeId} {cs:Array Value} (h:Box w g t cs) (i:Nat) (v:Value):Box (w.setCell ⟨g,i,none⟩ v) g t (cs.setIfInBounds i v):=heap_setCell_same w g i _ t v h
theorem Box.kept {S:Nat→Prop} {w w':World} {g:Nat} {t:TypeId} {cs:Array Value} (h:Box w g t cs) (hk:Kept S w w') (hS:¬ S g):Box w' g t cs:=(hk.block g h.lt hS).trans h
theorem Box.new (w:World) (t:TypeId) (cs:Array Value):Box (w.alloc (.cells cs t)) w.heap.size t cs:=by
  unfold Box World.alloc;simp
theorem Box.alloc {w:World} {g:Nat} {t:TypeId} {cs:Array Value} (h:Box w g t cs) (o:Obj):Box (w.alloc o) g t cs:=(Below.heap_alloc _ _ _ h.lt).trans h
theorem Box.nums {w:World} {g:Nat} {t:TypeId} {q:IntKind} {zs:List Int} (h:Box w g t (zs.map (Value.int q)).toArray) (n:Nat):Nums q w (some ⟨g,0,none⟩) (zs.take n):=by
  intro i hi
  refine ⟨g,0,rfl,?_⟩
  simp only[List.length_take] at hi
  rw [Nat.zero_add,h.cell,List.getElem?_take,if_pos (by omega)]
  simp [List.getElem?_eq_getElem (show i < zs.length by omega)]
def inB (n lo hi:Int):Bool:=decide (lo≤n)&&decide (n≤hi)
theorem within_any (n lo hi:Int) (w:World):Calls Tryz.prog 92 #[.int .i64 n,.int .i64 lo,.int .i64 hi] w fun e w'=>e=.returned (.bool (inB n lo hi))∧w'=w:=by
  go_enter Tryz.func92,Tryz.ntmps92
  go_wp2
  all_goals go_ret
  all_goals refine ⟨ret_bool ?_,rfl⟩
  all_goals (simp_all [inB];try omega)
theorem gwithin_any (n lo hi:Int) (w:World):Calls Tryz.prog 180 #[.int .i64 n,.int .i64 lo,.int .i64 hi] w fun e w'=>e=.returned (.bool (inB n lo hi))∧w'=w:=by
  go_enter Tryz.func180,Tryz.ntmps180
  go_wp2
  all_goals go_ret
  all_goals refine ⟨ret_bool ?_,rfl⟩
  all_goals (simp_all [inB];try omega)
def keyB (kd a b c bu:Int):Bool:=
  if kd=1 then inB a 1 255&&(inB b 1 1099511627776&&inB c 0 1048575)
  else if kd=2 then inB a 0 (bu - 1)&&((b==0)&&(c==0))
  else if kd=3 then inB a 0 (bu - 1)&&(inB b 1 1048576&&(c==0))
  else false
abbrev keyV (kd a b c:Int):Value:=.agg #[.int .i64 kd,.int .i64 a,.int .i64 b,.int .i64 c]
abbrev cfgV (s:Value) (f p bu bl ro:Int):Value:=.agg #[s,.int .i64 f,.int .i64 p,.int .i64 bu,.int .i64 bl,.int .i64 ro]
set_option maxHeartbeats 1000000 in
theorem keyRight_any (kd a b c:Int) (sa:Option Addr) (sn sc:Nat) (f p bu bl ro:Int) (w:World) (h0:0≤bu) (h1:bu≤9223372036854775807) :
    Calls Tryz.prog 144 #[keyV kd a b c,cfgV (.slice sa sn sc) f p bu bl ro] w fun e w'=>e=.returned (.bool (keyB kd a b c bu))∧Kept No w w':=by
  go_enter Tryz.func144,Tryz.ntmps144
  go_wp2_with (go_at_call 180;refine (gwithin_any _ _ _ _).mono ?_;rintro e w' ⟨rfl,rfl⟩)
  all_goals go_ret
  all_goals refine ⟨ret_bool ?_,((Kept.refl No w).alloc _).alloc _⟩
  all_goals simp_all [keyB]
def Good (zs:List Int) (n:Nat):Prop:=∀ i:Nat,i < n→(1≤zs[i]?.getD 0∧zs[i]?.getD 0≤255)∧∀ k:Nat,k < i→zs[k]?.getD 0≠zs[i]?.getD 0
def HeadOk (zs:List Int) (f:Int):Prop:=0≤f∧f≤3∧2*f+1≤(zs.length:Int)∧zs.length≤64
open Classical in
noncomputable def cfgB (zs:List Int) (f p bu bl ro:Int):Bool:=
  decide (HeadOk zs f∧Good zs zs.length)&&(inB p 1 64&&(inB bu 1 256&&(inB bl 1 4096&&inB ro 1 256)))
open Classical in
theorem cfgB_no {zs:List Int} {f p bu bl ro:Int} (h:¬ (HeadOk zs f∧Good zs zs.length)):false=cfgB zs f p bu bl ro:=by
  unfold cfgB;rw [decide_eq_false h];rfl
open Classical in
theorem cfgB_yes {zs:List Int} {f p bu bl ro:Int} (h:HeadOk zs f∧Good zs zs.length):(inB p 1 64&&(inB bu 1 256&&(inB bl 1 4096&&inB ro 1 256)))=cfgB zs f p bu bl ro:=by
  unfold cfgB;rw [decide_eq_true h];rfl
theorem rightId_any (n:Int) (w:World):Calls Tryz.prog 117 #[.int .i64 n] w fun e w'=>e=.returned (.bool (inB n 1 255))∧w'=w:=by
  go_enter Tryz.func117,Tryz.ntmps117
  go_wp2_with (go_at_call 92;refine (within_any _ _ _ _).mono ?_;rintro e w' ⟨rfl,rfl⟩)
  go_ret
  exact ⟨rfl,rfl⟩
theorem rightNum_any (n:Int) (w:World):Calls Tryz.prog 118 #[.int .i64 n] w fun e w'=>e=.returned (.bool (inB n 1 1099511627776))∧w'=w:=by
  go_enter Tryz.func118,Tryz.ntmps118
  go_wp2_with (go_at_call 92;refine (within_any _ _ _ _).mono ?_;rintro e w' ⟨rfl,rfl⟩)
  go_ret
  exact ⟨rfl,rfl⟩
def bsA (f:Nat→Bool):Array Value:=((List.range 256).map (fun i=>Value.bool (f i))).toArray
theorem bsA_at (f:Nat→Bool) {i:Nat} (h:i < 256):(bsA f)[i]?=some (.bool (f i)):=by simp [bsA,h]
theorem bsA_set (f:Nat→Bool) {i:Nat} (h:i < 256):(bsA f).setIfInBounds i (.bool true)=bsA (fun j=>if j=i then true else f j):=by
  apply Array.ext_getElem?
  intro j
  rw [Array.getElem?_setIfInBounds]
  by_cases hj:j < 256
  · rw [bsA_at _ hj]
    by_cases e:i=j
    · subst e;simp [bsA,hj]
    · rw [if_neg e,bsA_at _ hj,if_neg (fun e'=>e e'.symm)]
  · have h1:∀ g,(bsA g)[j]?=none:=fun g=>by
      apply Array.getElem?_eq_none;simp [bsA];omega
    rw [h1,h1]
    split
    · have:j < 256:=by omega
      omega
    · rfl
theorem Tryz.info226:(Tryz.prog.info? 226).map (fun i=>(i.zero,i.size,i.bytes))=some (some (.agg (bsA (fun _=>false))),256,256):=by kernel_rfl
theorem Tryz.zero226 (w:World):(zeroValue 226).run Tryz.prog w=.ok (.agg (bsA (fun _=>false))) w:=by
  obtain ⟨i0,hi,hz0,hz1,hz2⟩:=info_parts Tryz.info226
  simp [zeroValue,typeInfo,hi,hz0]
section
variable {ops:Array Oper} {rest:List Oper} {o:Oper} {a:Act} {w:World} {Q:Exit→Act→World→Prop}
theorem wp_runTo (hg:o.guard=none) (v:Value) (w':World) (hrun:(execOp a.eval o).run Tryz.prog w=.ok (.value v) w')
    (h:wpList Tryz.prog ops Q rest (a.put o.dst v) w'):wpList Tryz.prog ops Q (o :: rest) a w:=by
  refine wpList_plain hg fun K hK=>?_
  unfold Oper.wp
  rw [hrun,Oper.upon_value]
  exact hK _ _ h
theorem wp_allocB (hg:o.guard=none) (ho:o.op=.alloc 226) (N:Nat) (hN:w.heap.size=N)
    (h:wpList Tryz.prog ops Q rest (a.put o.dst (.pointer (some ⟨N,0,none⟩))) (w.alloc (.cells (bsA (fun _=>false)) 226))):wpList Tryz.prog ops Q (o :: rest) a w:=by
  subst hN
  refine wp_runTo hg _ (w.alloc (.cells (bsA (fun _=>false)) 226)) ?_ h
  simp only[execOp,ho,Instr.alloc,Sem.run_bind,Tryz.zero226,Result.andThen_ok,newVar,newRow,run_newObj_alloc,Sem.run_pure]
  rfl
end
open Classical in
noncomputable def seenF (zs:List Int) (k:Nat):Nat→Bool:=fun i=>decide (∃ m,m < k∧zs[m]?.getD 0=(i:Int))
theorem seenF_zero (zs:List Int):seenF zs 0=fun _=>false:=by
  funext i;unfold seenF;simp
theorem seenF_iff (zs:List Int) (k i:Nat):seenF zs k i=true↔∃ m,m < k∧zs[m]?.getD 0=(i:Int):=by unfold seenF;simp
theorem seenF_next (zs:List Int) (k n:Nat) (h:zs[k]?.getD 0=(n:Int)):(fun j=>if j=n then true else seenF zs k j)=seenF zs (k+1):=by
  funext j
  by_cases e:j=n
  · subst e;rw [if_pos rfl];symm;rw [seenF_iff];exact ⟨k,by omega,h⟩
  · rw [if_neg e]
    have:seenF zs k j=true↔seenF zs (k+1) j=true:=by
      rw [seenF_iff,seenF_iff]
      constructor
      · rintro ⟨m,hm,h'⟩;exact ⟨m,by omega,h'⟩
      · rintro ⟨m,hm,h'⟩
        by_cases em:m=k
        · subst em;rw [h] at h';omega
        · exact ⟨m,by omega,h'⟩
    cases h1:seenF zs k j <;> cases h2:seenF zs (k+1) j <;> simp_all
open Classical in
noncomputable def goodB (zs:List Int):Bool:=decide (Good zs zs.length)
open Classical in
theorem goodB_no {zs:List Int} (h:¬ Good zs zs.length):false=goodB zs:=by unfold goodB;rw [decide_eq_false h]
open Classical in
theorem goodB_yes {zs:List Int} (h:Good zs zs.length):true=goodB zs:=by unfold goodB;rw [decide_eq_true h]
set_option maxRecDepth 100000 in
set_option maxHeartbeats 2000000 in
theorem unlikeIds_any (a:Option Addr) (cap:Nat) (zs:List Int) (w:World) (hb:Nums .i64 w a zs) (hm:zs.length≤17592186043904) :
    Calls Tryz.prog 128 #[.slice a zs.length cap] w fun e w'=>e=.returned (.bool (goodB zs))∧Kept No w w':=by
  have HB:Hid (Nums .i64 w a zs):=hb
  clear hb
  have TA:Hid (1=1):=rfl
  go_enter Tryz.func128,Tryz.ntmps128
  go_wp2_with (have hguard:=TA;clear hguard;refine wp_allocB rfl rfl w.heap.size rfl ?_;clear TA)
  obtain ⟨w0,hw0⟩:∃ w0,w0=w.alloc (.cells (bsA (fun _=>false)) 226):=⟨_,rfl⟩
  rw [← hw0]
  have HS0:Hid (Box w0 w.heap.size 226 (bsA (seenF zs 0))):=by rw [hw0,seenF_zero];exact Box.new _ _ _
  have HK0:Hid (Kept No w w0):=by rw [hw0];exact (Kept.refl No w).alloc _
  clear hw0
  go_wp2
  go_loopw [8] (fun i wr=>∃ k:Nat,k≤zs.length∧i=.int .i64 (k:Int)∧Hid (Good zs k)∧Hid (Box wr w.heap.size 226 (bsA (seenF zs k)))∧Hid (Kept No w wr)) (fun i _=>zs.length - (intOf i).toNat)
  case atStart=>exact ⟨0,Nat.zero_le _,rfl,fun j hj=>absurd hj (Nat.not_lt_zero _),HS0,HK0⟩
  case round=>
    obtain ⟨k,hk,rfl,HG,HS,HK⟩:=hrel
    clear HS0 HK0
    by_cases hlt:k < zs.length
    · obtain ⟨b,off,rfl,hc⟩:=(HB.out.no HK.out) k hlt
      obtain ⟨z,hz⟩:∃ z,zs[k]?.getD 0=z:=⟨_,rfl⟩
      rw [hz] at hc
      have HZ:Hid (zs[k]?.getD 0=z):=hz
      clear hz
      by_cases hr:1≤z∧z≤255
      · obtain ⟨n,rfl⟩:∃ n:Nat,z=(n:Int):=⟨z.toNat,by omega⟩
        have hn:n < 256:=by omega
        have hin:inB (n:Int) 1 255=true:=by unfold inB;simp;omega
        have c0:=HS.out.cell n
        rw [bsA_at _ hn] at c0
        have f0:=HS.out.frozen n
        have HS2:Hid (Box (wr.setCell ⟨w.heap.size,n,none⟩ (.bool true)) w.heap.size 226 (bsA (seenF zs (k+1)))):=by
          have:=HS.out.set n (.bool true)
          rw [bsA_set _ hn,seenF_next zs k n HZ.out] at this
          exact this
        have HK2:Hid (Kept No w (wr.setCell ⟨w.heap.size,n,none⟩ (.bool true))):=HK.out.setCell (p:=⟨w.heap.size,n,none⟩) (fun e=>absurd e (by simp)) _
        have hn0:(0:Int)≤(n:Int):=by omega
        have hn1:(n:Int) < 256:=by omega
        cases hs:seenF zs k n with
        | true=>
          have HX:Hid (¬ Good zs zs.length):=fun hg=>by
            obtain ⟨m,hm,e⟩:=(seenF_iff zs k n).1 hs
            exact (hg k hlt).2 m hm (by rw [e,HZ.out])
          rw [hs] at c0
          clear hs hr HG HS HS2 HK2
          go_wp2_with (go_at_call 117;refine (rightId_any _ _).mono ?_;rintro e w2 ⟨rfl,h2⟩;rw [h2,hin];clear h2 w2)
          go_ret
          exact ⟨ret_bool (goodB_no HX.out),HK.out⟩
        | false=>
          have HG2:Hid (Good zs (k+1)):=fun i hi=>by
            by_cases e:i=k
            · subst e
              refine ⟨by rw [HZ.out];omega,fun m hm e'=>?_⟩
              have:seenF zs i n=true:=(seenF_iff zs i n).2 ⟨m,hm,by rw [e',HZ.out]⟩
              rw [hs] at this;cases this
            · exact HG.out i (by omega)
          rw [hs] at c0
          clear hs hr HG HS
          go_wp2_with (go_at_call 117;refine (rightId_any _ _).mono ?_;rintro e w2 ⟨rfl,h2⟩;rw [h2,hin];clear h2 w2)
          go_roundw
          case rel=>exact ⟨k+1,by omega,by go_num,HG2,HS2,HK2⟩
          case measure=>simp [intOf];omega
      · have hin:inB z 1 255=false:=by unfold inB;simp;omega
        have HX:Hid (¬ Good zs zs.length):=fun hg=>hr (by have:=(hg k hlt).1;rwa [HZ.out] at this)
        clear hr HG
        go_wp2_with (go_at_call 117;refine (rightId_any _ _).mono ?_;rintro e w2 ⟨rfl,h2⟩;rw [h2,hin];clear h2 w2)
        go_ret
        exact ⟨ret_bool (goodB_no HX.out),HK.out⟩
    · obtain rfl:k=zs.length:=by omega
      go_wp2
      go_ret
      exact ⟨ret_bool (goodB_yes HG.out),HK.out⟩
open Classical in
theorem cfg_and (zs:List Int) (f p bu bl ro:Int):(inB f 0 3&&(inB p 1 64&&(inB bu 1 256&&(inB bl 1 4096&&(inB ro 1 256&&(inB (zs.length:Int) (2*f+1) 64&&goodB zs))))))=cfgB zs f p bu bl ro:=by
  have e:(inB f 0 3&&(inB (zs.length:Int) (2*f+1) 64&&goodB zs))=decide (HeadOk zs f∧Good zs zs.length):=by
    unfold goodB HeadOk inB
    by_cases h:Good zs zs.length
    · simp only[h,decide_true,Bool.and_true,and_true]
      rw [Bool.eq_iff_iff];simp;omega
    · simp [h]
  unfold cfgB
  rw [← e]
  cases inB f 0 3 <;> cases inB p 1 64 <;> cases inB bu 1 256 <;> cases inB bl 1 4096 <;> cases inB ro 1 256 <;> cases (inB (zs.length:Int) (2*f+1) 64) <;> cases goodB zs <;> rfl
set_option maxRecDepth 100000 in
set_option maxHeartbeats 2000000 in
theorem rightConfig_any (a:Option Addr) (cap:Nat) (zs:List Int) (f p bu bl ro:Int) (w:World) (hb:Nums .i64 w a zs) (hm:zs.length≤17592186043904) :
    Calls Tryz.prog 78 #[cfgV (.slice a zs.length cap) f p bu bl ro] w fun e w'=>e=.returned (.bool (cfgB zs f p bu bl ro))∧Kept No w w':=by
  rw [← cfg_and]
  have HR:=fun w2 (h:Kept No w w2)=>unlikeIds_any a cap zs w2 (hb.no h) hm
  have HR':Hid _:=HR
  clear HR hb
  generalize goodB zs=sv at HR'
  by_cases hf:inB f 0 3=true
  · have hf2:0≤f∧f≤3:=by unfold inB at hf;simp at hf;exact hf
    rw [hf]
    go_enter Tryz.func78,Tryz.ntmps78
    go_wp2_with (first
      | (go_at_call 92;refine (within_any _ _ _ _).mono ?_;rintro e w2 ⟨rfl,h2⟩;rw [h2];clear h2 w2)
      | (go_at_call 128;refine (HR'.out _ ((Kept.refl No w).alloc _)).mono ?_;rintro e w2 ⟨rfl,hk2⟩))
    all_goals go_ret
    all_goals first
      | exact ⟨ret_bool (by simp_all),((Kept.refl No w).alloc _).then hk2⟩
      | exact ⟨ret_bool (by simp_all),(Kept.refl No w).alloc _⟩
  · have hf2:inB f 0 3=false:=by simpa using hf
    rw [hf2]
    go_enter Tryz.func78,Tryz.ntmps78
    go_wp2_with (go_at_call 92;refine (within_any _ _ _ _).mono ?_;rintro e w2 ⟨rfl,h2⟩;rw [h2,hf2];clear h2 w2)
    go_ret
    exact ⟨rfl,(Kept.refl No w).alloc _⟩
section
variable {ops:Array Oper} {rest:List Oper} {o:Oper} {a:Act} {w:World} {Q:Exit→Act→World→Prop}
theorem wp_boxV (hg:o.guard=none) (t:TypeId) (x:Operand) (ho:o.op=.box t x) (cs:Array Value) (hx:a.eval x=.agg cs) (N:Nat) (hN:w.heap.size=N)
    (h:wpList Tryz.prog ops Q rest (a.put o.dst (.pointer (some ⟨N,0,none⟩))) (w.alloc (.cells cs t))):wpList Tryz.prog ops Q (o :: rest) a w:=by
  subst hN
  refine wp_runTo hg _ (w.alloc (.cells cs t)) ?_ h
  simp only[execOp,ho,hx,Instr.box,Sem.run_bind,Result.andThen_ok,newVar,newRow,run_newObj_alloc,Sem.run_pure]
  rfl
theorem Tryz.size71:(Tryz.prog.info? 71).map (·.size)=some 30:=by kernel_rfl
theorem wp_loadM (hg:o.guard=none) (x:Operand) (ho:o.op=.load 71 x) (g:Nat) (cs:Array Value) (hx:a.eval x=.pointer (some ⟨g,0,none⟩)) (hl:cs.size=30) {t:TypeId} (hb:Box w g t cs)
    (h:wpList Tryz.prog ops Q rest (a.put o.dst (.agg cs)) w):wpList Tryz.prog ops Q (o :: rest) a w:=
  wpList_load_row hg 71 x ho g hx t cs (0,0) _ hb Tryz.underlying71 rfl (by rw [hl];exact Tryz.size71) h
end
theorem quiet_loadM {ops:Array Oper} {C:World→Prop} {Q:Act→Prop} {a:Act} {o:Oper} {rest:List Oper} (hw:Region.wanted o (yielded ops a.tmps)=true) (x:Operand) (ho:o.op=.load 71 x) (g:Nat) (cs:Array Value) (hx:a.eval x=.pointer (some ⟨g,0,none⟩)) (hl:cs.size=30) {t:TypeId}
    (hb:∀ w,C w→Box w g t cs) (h:wpQuiet Tryz.prog ops C Q rest (a.put o.dst (.agg cs))):wpQuiet Tryz.prog ops C Q (o :: rest) a:=by
  refine wpQuiet_step (fun K hK=>?_)
  rw [if_pos hw]
  refine ⟨.agg cs,fun w hC=>?_,hK _ h⟩
  unfold Oper.quietAt execOp
  simp only[ho,hx,Instr.loadAt,Instr.sureAddr,Sem.run_bind,Sem.run_pure,Result.andThen_ok,run_loadVar_row w g t 71 cs (0,0) _ (hb w hC) Tryz.underlying71 rfl (by rw [hl];exact Tryz.size71)]
  exact ⟨rfl,rfl⟩
structure MsgD where
  kind:Int
  fc:Bool
  fi:Int
  tc:Bool
  ti:Int
  op:Int
  rd:Int
  kk:Int
  ka:Int
  kb:Int
  kc:Int
  sn:Int
  sc:Int
  hn:Int
  hc:Int
  ba:Option Addr
  bl:Nat
  bp:Nat
  ck:Int
  cc:Int
  co:Int
  cn:ByteArray
  fc1:Int
  fo1:Int
  fc2:Int
  fo2:Int
  cz:Int
  up:Int
  ea:Option Addr
  el:Nat
  ep:Nat
  la:Option Addr
  ll:Nat
  lp:Nat
  xa:Option Addr
  xl:Nat
  xp:Nat
  more:Bool
def MsgD.cells (m:MsgD):Array Value:=#[.int .i64 m.kind,.bool m.fc,.int .i64 m.fi,.bool m.tc,.int .i64 m.ti,.int .i64 m.op,.int .i64 m.rd,.int .i64 m.kk,.int .i64 m.ka,.int .i64 m.kb,.int .i64 m.kc,.int .i64 m.sn,.int .i64 m.sc,.int .i64 m.hn,.int .i64 m.hc,.slice m.ba m.bl m.bp,.int .i64 m.ck,.int .i64 m.cc,.int .i64 m.co,.string m.cn,.int .i64 m.fc1,.int .i64 m.fo1,.int .i64 m.fc2,.int .i64 m.fo2,.int .i64 m.cz,.int .i64 m.up,.slice m.ea m.el m.ep,.slice m.la m.ll m.lp,.slice m.xa m.xl m.xp,.bool m.more]
theorem MsgD.size (m:MsgD):m.cells.size=30:=rfl
structure MsgAt (w:World) (g:Nat) (m:MsgD):Prop where
  box:Box w g 71 m.cells
theorem MsgAt.kept {S:Nat→Prop} {w w':World} {g:Nat} {m:MsgD} (h:MsgAt w g m) (hk:Kept S w w') (hS:¬ S g):MsgAt w' g m:=⟨h.box.kept hk hS⟩
theorem MsgAt.no {w w':World} {g:Nat} {m:MsgD} (h:MsgAt w g m) (hk:Kept No w w'):MsgAt w' g m:=h.kept hk (fun e=>e)
theorem MsgAt.new (w:World) (m:MsgD):MsgAt (w.alloc (.cells m.cells 71)) w.heap.size m:=⟨Box.new _ _ _⟩
theorem MsgAt.ends {w:World} {g:Nat} {m:MsgD} (h:MsgAt w g m):w.cell? ⟨g,0,none⟩=some (.int .i64 m.kind)∧w.cell? ⟨g,1,none⟩=some (.bool m.fc)∧w.cell? ⟨g,2,none⟩=some (.int .i64 m.fi)∧w.cell? ⟨g,3,none⟩=some (.bool m.tc)∧w.cell? ⟨g,4,none⟩=some (.int .i64 m.ti)∧w.cell? ⟨g,5,none⟩=some (.int .i64 m.op)∧w.cell? ⟨g,6,none⟩=some (.int .i64 m.rd):=
  ⟨h.box.cell 0,h.box.cell 1,h.box.cell 2,h.box.cell 3,h.box.cell 4,h.box.cell 5,h.box.cell 6⟩
theorem MsgAt.key {w:World} {g:Nat} {m:MsgD} (h:MsgAt w g m):w.cell? ⟨g,7,none⟩=some (.int .i64 m.kk)∧w.cell? ⟨g,8,none⟩=some (.int .i64 m.ka)∧w.cell? ⟨g,9,none⟩=some (.int .i64 m.kb)∧w.cell? ⟨g,10,none⟩=some (.int .i64 m.kc):=
  ⟨h.box.cell 7,h.box.cell 8,h.box.cell 9,h.box.cell 10⟩
theorem MsgAt.rest {w:World} {g:Nat} {m:MsgD} (h:MsgAt w g m):w.cell? ⟨g,11,none⟩=some (.int .i64 m.sn)∧w.cell? ⟨g,12,none⟩=some (.int .i64 m.sc)∧w.cell? ⟨g,13,none⟩=some (.int .i64 m.hn)∧w.cell? ⟨g,14,none⟩=some (.int .i64 m.hc)∧w.cell? ⟨g,15,none⟩=some (.slice m.ba m.bl m.bp)∧w.cell? ⟨g,28,none⟩=some (.slice m.xa m.xl m.xp)∧w.cell? ⟨g,29,none⟩=some (.bool m.more):=
  ⟨h.box.cell 11,h.box.cell 12,h.box.cell 13,h.box.cell 14,h.box.cell 15,h.box.cell 28,h.box.cell 29⟩
theorem MsgAt.cmd {w:World} {g:Nat} {m:MsgD} (h:MsgAt w g m):w.cell? ⟨g,16,none⟩=some (.int .i64 m.ck)∧w.cell? ⟨g,17,none⟩=some (.int .i64 m.cc)∧w.cell? ⟨g,18,none⟩=some (.int .i64 m.co)∧w.cell? ⟨g,19,none⟩=some (.string m.cn)∧w.cell? ⟨g,20,none⟩=some (.int .i64 m.fc1)∧w.cell? ⟨g,21,none⟩=some (.int .i64 m.fo1)∧w.cell? ⟨g,22,none⟩=some (.int .i64 m.fc2)∧w.cell? ⟨g,23,none⟩=some (.int .i64 m.fo2)∧w.cell? ⟨g,24,none⟩=some (.int .i64 m.cz):=
  ⟨h.box.cell 16,h.box.cell 17,h.box.cell 18,h.box.cell 19,h.box.cell 20,h.box.cell 21,h.box.cell 22,h.box.cell 23,h.box.cell 24⟩
theorem MsgAt.bkt {w:World} {g:Nat} {m:MsgD} (h:MsgAt w g m):w.cell? ⟨g,25,none⟩=some (.int .i64 m.up)∧w.cell? ⟨g,26,none⟩=some (.slice m.ea m.el m.ep)∧w.cell? ⟨g,27,none⟩=some (.slice m.la m.ll m.lp):=
  ⟨h.box.cell 25,h.box.cell 26,h.box.cell 27⟩
def hasB (zs:List Int) (v:Int):Bool:=decide (v∈zs)
theorem mem_getD {zs:List Int} {v:Int}:v∈zs↔∃ m,m < zs.length∧zs[m]?.getD 0=v:=by
  constructor
  · intro h
    obtain ⟨m,hm⟩:=List.mem_iff_getElem?.1 h
    exact ⟨m,(List.getElem?_eq_some_iff.1 hm).1,by rw [hm];rfl⟩
  · rintro ⟨m,hm,e⟩
    rw [List.getElem?_eq_getElem hm] at e
    have e':zs[m]=v:=e
    rw [← e'];exact List.getElem_mem hm
def IxP (zs:List Int) (v:Int) (e:Ending):Prop:=∃ r:Int,e=.returned (.int .i64 r)∧(0≤r↔v∈zs)
theorem ixp_yes {zs:List Int} {v:Int} {k:Nat} (hk:k < zs.length) (h:zs[k]?.getD 0=v):IxP zs v (.returned (.int .i64 (k:Int))):=
  ⟨(k:Int),rfl,⟨fun _=>mem_getD.2 ⟨k,hk,h⟩,fun _=>by omega⟩⟩
theorem ixp_no {zs:List Int} {v:Int} (h:∀ m,m < zs.length→zs[m]?.getD 0≠v):IxP zs v (.returned (.int .i64 (-1))):=
  ⟨-1,rfl,⟨fun e=>by omega,fun e=>by obtain ⟨m,hm,e'⟩:=mem_getD.1 e;exact absurd e' (h m hm)⟩⟩
set_option maxHeartbeats 400000 in
theorem index_any (a:Option Addr) (cap:Nat) (zs:List Int) (v:Int) (w:World) (hm:zs.length≤17592186043904) (hb:Nums .i64 w a zs) :
    Calls Tryz.prog 211 #[.slice a zs.length cap,.int .i64 v] w fun e w'=>IxP zs v e∧w'=w:=by
  have HB:Hid (Nums .i64 w a zs):=hb
  clear hb
  go_enter Tryz.func211,Tryz.ntmps211
  go_wp2
  go_loopw [8] (fun i wr=>∃ k:Nat,k≤zs.length∧i=.int .i64 (k:Int)∧Hid (∀ m,m < k→zs[m]?.getD 0≠v)∧wr=w) (fun i _=>zs.length - (intOf i).toNat)
  case atStart=>exact ⟨0,Nat.zero_le _,rfl,fun j hj=>absurd hj (Nat.not_lt_zero _),rfl⟩
  case round=>
    obtain ⟨k,hk,rfl,HE,rfl⟩:=hrel
    by_cases hlt:k < zs.length
    · obtain ⟨b,off,rfl,hc⟩:=HB.out k hlt
      obtain ⟨z,hz⟩:∃ z,zs[k]?.getD 0=z:=⟨_,rfl⟩
      rw [hz] at hc
      have HZ:Hid (zs[k]?.getD 0=z):=hz
      clear hz
      by_cases hv:v=z
      · subst hv
        go_wp2
        go_ret
        exact ⟨ixp_yes hlt HZ.out,rfl⟩
      · have hv':(v==z)=false:=by simpa using hv
        have HE2:Hid (∀ m,m < k+1→zs[m]?.getD 0≠v):=fun m hm e=>by
          by_cases em:m=k
          · subst em;rw [HZ.out] at e;exact hv e.symm
          · exact HE.out m (by omega) e
        clear HE hv
        go_wp2
        go_roundw
        case rel=>exact ⟨k+1,by omega,by go_num,HE2,trivial⟩
        case measure=>simp [intOf];omega
    · obtain rfl:k=zs.length:=by omega
      go_wp2
      go_ret
      exact ⟨ixp_no HE.out,rfl⟩
set_option maxHeartbeats 400000 in
theorem indexF_any (a:Option Addr) (cap:Nat) (zs:List Int) (v:Int) (w:World) (hm:zs.length≤17592186043904) (hb:Nums .i64 w a zs) :
    Calls Tryz.prog 181 #[.slice a zs.length cap,.int .i64 v] w fun e w'=>IxP zs v e∧w'=w:=by
  have HB:Hid (Nums .i64 w a zs):=hb
  clear hb
  go_enter Tryz.func181,Tryz.ntmps181
  go_wp2
  go_loopw [8] (fun i wr=>∃ k:Nat,k≤zs.length∧i=.int .i64 (k:Int)∧Hid (∀ m,m < k→zs[m]?.getD 0≠v)∧wr=w) (fun i _=>zs.length - (intOf i).toNat)
  case atStart=>exact ⟨0,Nat.zero_le _,rfl,fun j hj=>absurd hj (Nat.not_lt_zero _),rfl⟩
  case round=>
    obtain ⟨k,hk,rfl,HE,rfl⟩:=hrel
    by_cases hlt:k < zs.length
    · obtain ⟨b,off,rfl,hc⟩:=HB.out k hlt
      obtain ⟨z,hz⟩:∃ z,zs[k]?.getD 0=z:=⟨_,rfl⟩
      rw [hz] at hc
      have HZ:Hid (zs[k]?.getD 0=z):=hz
      clear hz
      by_cases hv:v=z
      · subst hv
        go_wp2
        go_ret
        exact ⟨ixp_yes hlt HZ.out,rfl⟩
      · have hv':(v==z)=false:=by simpa using hv
        have HE2:Hid (∀ m,m < k+1→zs[m]?.getD 0≠v):=fun m hm e=>by
          by_cases em:m=k
          · subst em;rw [HZ.out] at e;exact hv e.symm
          · exact HE.out m (by omega) e
        clear HE hv
        go_wp2
        go_roundw
        case rel=>exact ⟨k+1,by omega,by go_num,HE2,trivial⟩
        case measure=>simp [intOf];omega
    · obtain rfl:k=zs.length:=by omega
      go_wp2
      go_ret
      exact ⟨ixp_no HE.out,rfl⟩
theorem contains_any (a:Option Addr) (cap:Nat) (zs:List Int) (v:Int) (w:World) (hm:zs.length≤17592186043904) (hb:Nums .i64 w a zs) :
    Calls Tryz.prog 179 #[.slice a zs.length cap,.int .i64 v] w fun e w'=>e=.returned (.bool (hasB zs v))∧w'=w:=by
  have HB:Hid (Nums .i64 w a zs):=hb
  clear hb
  go_enter Tryz.func179,Tryz.ntmps179
  go_wp2_with fail
  refine (index_any a cap zs v w hm HB.out).mono ?_
  rintro e w1 ⟨⟨r,rfl,hr⟩,rfl⟩
  have HR:Hid (0≤r↔v∈zs):=hr
  clear hr
  go_wp2
  go_ret
  refine ⟨ret_bool ?_,rfl⟩
  unfold hasB
  rw [Bool.eq_iff_iff]
  simpa using HR.out
theorem containsF_any (a:Option Addr) (cap:Nat) (zs:List Int) (v:Int) (w:World) (hm:zs.length≤17592186043904) (hb:Nums .i64 w a zs) :
    Calls Tryz.prog 146 #[.slice a zs.length cap,.int .i64 v] w fun e w'=>e=.returned (.bool (hasB zs v))∧w'=w:=by
  have HB:Hid (Nums .i64 w a zs):=hb
  clear hb
  go_enter Tryz.func146,Tryz.ntmps146
  go_wp2_with fail
  refine (indexF_any a cap zs v w hm HB.out).mono ?_
  rintro e w1 ⟨⟨r,rfl,hr⟩,rfl⟩
  have HR:Hid (0≤r↔v∈zs):=hr
  clear hr
  go_wp2
  go_ret
  refine ⟨ret_bool ?_,rfl⟩
  unfold hasB
  rw [Bool.eq_iff_iff]
  simpa using HR.out
structure Cfg (w:World) (sa:Option Addr) (sn sc:Nat) (zs:List Int):Prop where
  nums:Nums .i64 w sa zs
  len:zs.length=sn
  bd:sn≤17592186043904
theorem Cfg.no {w w':World} {sa:Option Addr} {sn sc:Nat} {zs:List Int} (h:Cfg w sa sn sc zs) (hk:Kept No w w'):Cfg w' sa sn sc zs:=⟨h.nums.no hk,h.len,h.bd⟩
def isClientB (c:Bool) (i:Int):Bool:=c&&inB i 1 255
def isServerB (c:Bool) (i:Int) (zs:List Int):Bool:=!c&&hasB zs i
theorem isClient_any (c:Bool) (i:Int) (w:World):Calls Tryz.prog 142 #[.agg #[.bool c,.int .i64 i]] w fun e w'=>e=.returned (.bool (isClientB c i))∧Kept No w w':=by
  cases c with
  | true=>
    go_enter Tryz.func142,Tryz.ntmps142
    go_wp2_with (go_at_call 117;refine (rightId_any _ _).mono ?_;rintro e w' ⟨rfl,rfl⟩)
    go_ret
    exact ⟨ret_bool (by simp [isClientB]),(Kept.refl No w).alloc _⟩
  | false=>
    go_enter Tryz.func142,Tryz.ntmps142
    go_wp2
    go_ret
    exact ⟨ret_bool (by simp [isClientB]),(Kept.refl No w).alloc _⟩
set_option maxHeartbeats 1000000 in
theorem isServer_any (c:Bool) (i:Int) (sa:Option Addr) (sn sc:Nat) (zs:List Int) (f p bu bl ro:Int) (w:World) (h:Cfg w sa sn sc zs) :
    Calls Tryz.prog 143 #[.agg #[.bool c,.int .i64 i],cfgV (.slice sa sn sc) f p bu bl ro] w fun e w'=>e=.returned (.bool (isServerB c i zs))∧Kept No w w':=by
  have HC:Hid (∀ W,Kept No w W→Calls Tryz.prog 179 #[.slice sa sn sc,.int .i64 i] W fun e w'=>e=.returned (.bool (hasB zs i))∧w'=W):=fun W hW=>by
    have:=contains_any sa sc zs i W (by rw [h.len];exact h.bd) (h.nums.no hW)
    rw [h.len] at this
    exact this
  clear h
  unfold isServerB
  generalize hasB zs i=hb at HC
  cases c with
  | true=>
    go_enter Tryz.func143,Tryz.ntmps143
    go_wp2
    go_ret
    exact ⟨ret_bool (by simp),((Kept.refl No w).alloc _).alloc _⟩
  | false=>
    go_enter Tryz.func143,Tryz.ntmps143
    go_wp2_with (go_at_call 179;refine (HC.out _ (((Kept.refl No w).alloc _).alloc _)).mono ?_;rintro e w2 ⟨rfl,h2⟩;rw [h2];clear h2 w2)
    go_ret
    exact ⟨ret_bool (by simp),((Kept.refl No w).alloc _).alloc _⟩
def endsB (m:MsgD) (zs:List Int):Bool:=
  if m.kind=1∨m.kind=2∨m.kind=3∨m.kind=4∨m.kind=5 then isClientB m.fc m.fi&&(isServerB m.tc m.ti zs&&(inB m.op 1 1099511627776&&inB m.rd 1 1099511627776))
  else if m.kind=11∨m.kind=12∨m.kind=13∨m.kind=14∨m.kind=15∨m.kind=16∨m.kind=17 then isServerB m.fc m.fi zs&&(isClientB m.tc m.ti&&(inB m.op 1 1099511627776&&inB m.rd 1 1099511627776))
  else if m.kind=21∨m.kind=22 then isServerB m.fc m.fi zs&&(isServerB m.tc m.ti zs&&(!(m.fc==m.tc&&m.fi==m.ti)&&(m.op==0&&m.rd==0)))
  else false
set_option maxRecDepth 100000 in
set_option maxHeartbeats 4000000 in
theorem rightEnds_any (m:MsgD) (sa:Option Addr) (sn sc:Nat) (zs:List Int) (f p bu bl ro:Int) (w:World) (h:Cfg w sa sn sc zs) :
    Calls Tryz.prog 107 #[.agg m.cells,cfgV (.slice sa sn sc) f p bu bl ro] w fun e w'=>e=.returned (.bool (endsB m zs))∧Kept No w w':=by
  have HC:Hid (Cfg w sa sn sc zs):=h
  clear h
  have HS:Hid (∀ (c:Bool) (i:Int) W,Kept No w W→Calls Tryz.prog 143 #[.agg #[.bool c,.int .i64 i],cfgV (.slice sa sn sc) f p bu bl ro] W fun e w'=>e=.returned (.bool (isServerB c i zs))∧Kept No W w'):=fun c i W hW=>isServer_any c i sa sn sc zs f p bu bl ro W (HC.out.no hW)
  have TB:Hid (1=1):=rfl
  go_enter Tryz.func107,Tryz.ntmps107
  go_upto_region 1 with (have hguard:=TB;clear hguard;refine wp_boxV rfl 71 _ rfl m.cells rfl w.heap.size rfl ?_;clear TB)
  obtain ⟨w0,hw0⟩:∃ w0,w0=(w.alloc (.cells m.cells 71)).alloc (.cells #[.slice sa sn sc,.int .i64 f,.int .i64 p,.int .i64 bu,.int .i64 bl,.int .i64 ro] 24):=⟨_,rfl⟩
  rw [← hw0]
  have HK0:Hid (Kept No w w0):=by rw [hw0];exact ((Kept.refl No w).alloc _).alloc _
  have HM0:Hid (∀ W,Kept No w0 W→(W.cell? ⟨w.heap.size,0,none⟩=some (.int .i64 m.kind)∧W.cell? ⟨w.heap.size,1,none⟩=some (.bool m.fc)∧W.cell? ⟨w.heap.size,2,none⟩=some (.int .i64 m.fi)∧W.cell? ⟨w.heap.size,3,none⟩=some (.bool m.tc)∧W.cell? ⟨w.heap.size,4,none⟩=some (.int .i64 m.ti)∧W.cell? ⟨w.heap.size,5,none⟩=some (.int .i64 m.op)∧W.cell? ⟨w.heap.size,6,none⟩=some (.int .i64 m.rd)) ∧
      W.cell? ⟨w.heap.size+1,0,none⟩=some (.slice sa sn sc)∧W.cell? ⟨w.heap.size+1,1,none⟩=some (.int .i64 f)∧W.cell? ⟨w.heap.size+1,2,none⟩=some (.int .i64 p)∧W.cell? ⟨w.heap.size+1,3,none⟩=some (.int .i64 bu)∧W.cell? ⟨w.heap.size+1,4,none⟩=some (.int .i64 bl)∧W.cell? ⟨w.heap.size+1,5,none⟩=some (.int .i64 ro)):=by
    intro W hW
    have h1:MsgAt W w.heap.size m:=((MsgAt.new w m).no (by rw [hw0] at hW;exact ((Kept.refl No _).alloc _).then hW))
    have h2:Box W (w.heap.size+1) 24 #[.slice sa sn sc,.int .i64 f,.int .i64 p,.int .i64 bu,.int .i64 bl,.int .i64 ro]:=by
      have h3:Box w0 (w.heap.size+1) 24 #[.slice sa sn sc,.int .i64 f,.int .i64 p,.int .i64 bu,.int .i64 bl,.int .i64 ro]:=by
        rw [hw0]
        have:=Box.new (w.alloc (.cells m.cells 71)) 24 #[.slice sa sn sc,.int .i64 f,.int .i64 p,.int .i64 bu,.int .i64 bl,.int .i64 ro]
        simpa using this
      exact h3.kept hW (fun e=>e)
    exact ⟨h1.ends,h2.cell 0,h2.cell 1,h2.cell 2,h2.cell 3,h2.cell 4,h2.cell 5⟩
  clear hw0
  obtain ⟨⟨c0,c1,c2,c3,c4,c5,c6⟩,d0,d1,d2,d3,d4,d5⟩:=HM0.out w0 (Kept.refl _ _)
  have HE:Hid (∀ b,b=endsB m zs→Ending.returned (.bool b)=.returned (.bool (endsB m zs))):=fun b e=>by rw [e]
  obtain ⟨kd,hkd⟩:∃ kd,m.kind=kd:=⟨_,rfl⟩
  have HKD:Hid (m.kind=kd):=hkd
  rw [hkd] at c0 HM0
  clear hkd
  have TA:Hid (1=1):=rfl
  go_wp2_with (first
    | (go_at_call 142
       have hguard:=TA
       clear hguard
       refine Calls.mono (isClient_any _ _ _) ?_
       rintro e w2 ⟨rfl,hk2⟩
       have HK2:Hid (Kept No w0 w2):=hk2
       obtain ⟨⟨x0,x1,x2,x3,x4,x5,x6⟩,y0,y1,y2,y3,y4,y5⟩:=HM0.out w2 hk2
       have TC:Hid (1=1):=rfl
       clear hk2 TA)
    | (go_at_call 143
       have hguard:=TA
       clear hguard
       refine Calls.mono (HS.out _ _ w0 HK0.out) ?_
       rintro e w2 ⟨rfl,hk2⟩
       have HK2:Hid (Kept No w0 w2):=hk2
       obtain ⟨⟨x0,x1,x2,x3,x4,x5,x6⟩,y0,y1,y2,y3,y4,y5⟩:=HM0.out w2 hk2
       have TC:Hid (1=1):=rfl
       clear hk2 TA)
    | (go_at_call 142
       have hguard:=TC
       clear hguard
       refine Calls.mono (isClient_any _ _ _) ?_
       rintro e w3 ⟨rfl,hk3⟩
       have hk03:=HK2.out.then hk3
       have HK3:Hid (Kept No w w3):=HK0.out.then hk03
       obtain ⟨⟨z0,z1,z2,z3,z4,z5,z6⟩,v0,v1,v2,v3,v4,v5⟩:=HM0.out w3 hk03
       clear hk3 hk03 TC)
    | (go_at_call 143
       have hguard:=TC
       clear hguard
       refine Calls.mono (HS.out _ _ w2 (HK0.out.then HK2.out)) ?_
       rintro e w3 ⟨rfl,hk3⟩
       have hk03:=HK2.out.then hk3
       have HK3:Hid (Kept No w w3):=HK0.out.then hk03
       obtain ⟨⟨z0,z1,z2,z3,z4,z5,z6⟩,v0,v1,v2,v3,v4,v5⟩:=HM0.out w3 hk03
       clear hk3 hk03 TC)
    | (go_at_call 118;refine (rightNum_any _ _).mono ?_;rintro e w4 ⟨rfl,h4⟩;rw [h4];clear h4 w4))
  all_goals go_ret
  all_goals first
    | exact ⟨HE.out _ (by have:=HKD.out;simp_all [endsB]),HK3.out⟩
    | exact ⟨HE.out _ (by have:=HKD.out;simp_all [endsB]),HK0.out.then HK2.out⟩
    | exact ⟨HE.out _ (by have:=HKD.out;simp_all [endsB]),HK0.out⟩
theorem isNone_any (n c:Int) (w:World):Calls Tryz.prog 74 #[.agg #[.int .i64 n,.int .i64 c]] w fun e w'=>e=.returned (.bool (n==0&&c==0))∧Kept No w w':=by
  go_enter Tryz.func74,Tryz.ntmps74
  go_wp2
  all_goals go_ret
  all_goals exact ⟨ret_bool (by simp_all),(Kept.refl No w).alloc _⟩
theorem emptyBucket_any (up:Int) (ea:Option Addr) (el ep:Nat) (la:Option Addr) (ll lp:Nat) (w:World):Calls Tryz.prog 91 #[.agg #[.int .i64 up,.slice ea el ep,.slice la ll lp]] w fun e w'=>e=.returned (.bool (up==0&&((el:Int)==0&&(ll:Int)==0)))∧Kept No w w':=by
  go_enter Tryz.func91,Tryz.ntmps91
  go_wp2
  all_goals go_ret
  all_goals exact ⟨ret_bool (by simp_all;try omega),(Kept.refl No w).alloc _⟩
def fieldsL (k:Int):List Int:=
  if k=2∨k=11 then [0,2] else if k=3∨k=14∨k=15∨k=21 then [0] else if k=4 then [0,3] else if k=5∨k=16 then [3] else if k=13 then [0,1,3] else if k=17 then [4] else if k=22 then [0,2,4,5,6] else []
def emptyF (m:MsgD) (f:Nat):Bool:=
  if f=0 then m.sn==0&&m.sc==0 else if f=1 then m.hn==0&&m.hc==0 else if f=2 then (m.bl:Int)==0
  else if f=3 then decide (m.ck=0∧m.cc=0∧m.co=0∧m.cn.toList=[]∧m.fc1=0∧m.fo1=0∧m.fc2=0∧m.fo2=0∧m.cz=0)
  else if f=4 then m.up==0&&((m.el:Int)==0&&(m.ll:Int)==0) else if f=5 then (m.xl:Int)==0 else !m.more
set_option maxRecDepth 100000 in
set_option maxHeartbeats 2000000 in
theorem empty_any (m:MsgD) (fd:Nat) (hf:fd < 7) (w:World):Calls Tryz.prog 145 #[.agg m.cells,.int .i64 (fd:Int)] w fun e w'=>e=.returned (.bool (emptyF m fd))∧Kept No w w':=by
  have TB:Hid (1=1):=rfl
  have hc:fd=0∨fd=1∨fd=2∨fd=3∨fd=4∨fd=5∨fd=6:=by omega
  obtain ⟨w0,hw0⟩:∃ w0,w0=w.alloc (.cells m.cells 71):=⟨_,rfl⟩
  have HK0:Hid (Kept No w w0):=by rw [hw0];exact (Kept.refl No w).alloc _
  have hM:MsgAt w0 w.heap.size m:=by rw [hw0];exact MsgAt.new w m
  rcases hc with rfl | rfl | rfl | rfl | rfl | rfl | rfl
  · obtain ⟨c11,c12,-⟩:=hM.rest
    go_enter Tryz.func145,Tryz.ntmps145
    go_wp2_with (first
      | (have hguard:=TB;clear hguard;refine wp_boxV rfl 71 _ rfl m.cells rfl w.heap.size rfl ?_;rw [← hw0];clear hw0 TB)
      | (go_at_call 74;refine (isNone_any _ _ _).mono ?_;rintro e w2 ⟨rfl,hk2⟩))
    go_ret
    exact ⟨ret_bool (by simp [emptyF]),HK0.out.then hk2⟩
  · obtain ⟨-,-,c13,c14,-⟩:=hM.rest
    go_enter Tryz.func145,Tryz.ntmps145
    go_wp2_with (first
      | (have hguard:=TB;clear hguard;refine wp_boxV rfl 71 _ rfl m.cells rfl w.heap.size rfl ?_;rw [← hw0];clear hw0 TB)
      | (go_at_call 74;refine (isNone_any _ _ _).mono ?_;rintro e w2 ⟨rfl,hk2⟩))
    go_ret
    exact ⟨ret_bool (by simp [emptyF]),HK0.out.then hk2⟩
  · obtain ⟨-,-,-,-,c15,-⟩:=hM.rest
    go_enter Tryz.func145,Tryz.ntmps145
    go_wp2_with (have hguard:=TB;clear hguard;refine wp_boxV rfl 71 _ rfl m.cells rfl w.heap.size rfl ?_;rw [← hw0];clear hw0 TB)
    all_goals go_ret
    all_goals exact ⟨ret_bool (by simp_all [emptyF]),HK0.out⟩
  · obtain ⟨c16,c17,c18,c19,c20,c21,c22,c23,c24⟩:=hM.cmd
    go_enter Tryz.func145,Tryz.ntmps145
    go_wp2_with (have hguard:=TB;clear hguard;refine wp_boxV rfl 71 _ rfl m.cells rfl w.heap.size rfl ?_;rw [← hw0];clear hw0 TB)
    all_goals go_ret
    all_goals exact ⟨ret_bool (by simp_all [emptyF]),HK0.out⟩
  · obtain ⟨c25,c26,c27⟩:=hM.bkt
    go_enter Tryz.func145,Tryz.ntmps145
    go_wp2_with (first
      | (have hguard:=TB;clear hguard;refine wp_boxV rfl 71 _ rfl m.cells rfl w.heap.size rfl ?_;rw [← hw0];clear hw0 TB)
      | (go_at_call 91;refine (emptyBucket_any _ _ _ _ _ _ _ _).mono ?_;rintro e w2 ⟨rfl,hk2⟩))
    go_ret
    exact ⟨ret_bool (by simp [emptyF]),HK0.out.then hk2⟩
  · obtain ⟨-,-,-,-,-,c28,-⟩:=hM.rest
    go_enter Tryz.func145,Tryz.ntmps145
    go_wp2_with (have hguard:=TB;clear hguard;refine wp_boxV rfl 71 _ rfl m.cells rfl w.heap.size rfl ?_;rw [← hw0];clear hw0 TB)
    all_goals go_ret
    all_goals exact ⟨ret_bool (by simp_all [emptyF]),HK0.out⟩
  · obtain ⟨-,-,-,-,-,-,c29⟩:=hM.rest
    go_enter Tryz.func145,Tryz.ntmps145
    go_wp2_with (have hguard:=TB;clear hguard;refine wp_boxV rfl 71 _ rfl m.cells rfl w.heap.size rfl ?_;rw [← hw0];clear hw0 TB)
    all_goals go_ret
    all_goals exact ⟨ret_bool (by simp_all [emptyF]),HK0.out⟩
end Go.Proofs.YtgdnofacgfjaeabGreat.Wi
