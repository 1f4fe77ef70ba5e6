import Derived.Test.YtgdnofacgfjaeaaGreatWiZm
import Derived.Laws.ResultCell
import Derived.Deep.RegionLaw
namespace Go.Proofs.YtgdnofacgfjaeaaGreat.Wi
open Go.RowKit
set_option linter.unusedVariables false
theorem byt_at {zs:List Int} (h8:U8 zs) (i:Nat):zs[i]?.getD 0=(byt zs i:Int):=by have:=h8 i;unfold byt;omega
theorem byt_app (pre:List Int) (x:Int) (r:List Int):byt (pre++(x :: r)) pre.length=x.toNat:=by unfold byt;simp
theorem vrGo_vint (v:Nat):∀ (pre rest:List Int) (f:Nat),pre.length+f=10→acc (pre++(vint v++rest)) pre.length+v*128 ^ pre.length < 18446744073709551616→(0 < pre.length→0 < v)→pre.length≤9 →
    vrGo (pre++(vint v++rest)) pre.length f=.ok (acc (pre++(vint v++rest)) pre.length+v*128 ^ pre.length,pre.length+(vint v).length):=by
  induction v using Nat.strongRecOn with
  | _ v ih=>
    intro pre rest f hf hb hpos hp9
    obtain ⟨f',rfl⟩:∃ f',f=f'+1:=⟨f - 1,by omega⟩
    by_cases hv:v < 128
    · rw [vint_lo hv] at hb ⊢
      have hB:byt (pre++([(v:Int)]++rest)) pre.length=v:=by have:=byt_app pre (v:Int) rest;simpa using this
      rw [vrGo,if_neg (by simp),hB,if_pos hv,if_neg ?_]
      · rw [acc,hB,Nat.mod_eq_of_lt hv];rfl
      · rintro (⟨h1,h2⟩ | ⟨h1,h2⟩)
        · have:=hpos h1;omega
        · rw [h1] at hb
          have:2*128 ^ 9≤v*128 ^ 9:=Nat.mul_le_mul_right _ h2
          omega
    · rw [vint_hi hv] at hb ⊢
      have hB:byt (pre++(((v % 128+128:Nat):Int) :: vint (v / 128)++rest)) pre.length=v % 128+128:=by
        have:=byt_app pre ((v % 128+128:Nat):Int) (vint (v / 128)++rest)
        rw [List.cons_append,this];exact Int.toNat_natCast _
      have e:pre++(((v % 128+128:Nat):Int) :: vint (v / 128)++rest)=(pre++[((v % 128+128:Nat):Int)])++(vint (v / 128)++rest):=by simp
      have hl:(pre++[((v % 128+128:Nat):Int)]).length=pre.length+1:=by simp
      have hacc:acc (pre++(((v % 128+128:Nat):Int) :: vint (v / 128)++rest)) (pre.length+1)=acc (pre++(((v % 128+128:Nat):Int) :: vint (v / 128)++rest)) pre.length+v % 128*128 ^ pre.length:=by
        rw [acc,hB,Nat.add_mod_right,Nat.mod_mod]
      have hsplit:v % 128*128 ^ pre.length+v / 128*128 ^ (pre.length+1)=v*128 ^ pre.length:=by
        have:v / 128*128 ^ (pre.length+1)=(v / 128*128) * 128 ^ pre.length:=by rw [Nat.pow_succ,Nat.mul_assoc,Nat.mul_comm 128]
        rw [this,← Nat.add_mul];congr 1;omega
      have h9:pre.length+1≤9:=by
        by_cases h:pre.length=9
        · rw [h] at hb
          have:128*128 ^ 9≤v*128 ^ 9:=Nat.mul_le_mul_right _ (by omega)
          omega
        · omega
      rw [vrGo,if_neg (by simp),hB,if_neg (by omega)]
      have:=ih (v / 128) (by omega) (pre++[((v % 128+128:Nat):Int)]) rest f' (by rw [hl];omega) (by rw [hl,← e,hacc];omega) (fun _=>by omega) (by rw [hl];exact h9)
      rw [hl,← e,hacc] at this
      rw [this]
      congr 2
      · omega
      · simp;omega
theorem vr_vint (u:Nat) (rest:List Int) (h:W64 u):vr (vint u++rest)=.ok (u,(vint u).length):=by
  have:=vrGo_vint u [] rest 10 rfl (by simp [acc];exact h) (by simp) (by simp)
  simpa [acc,vr] using this
theorem vrGo_form {zs:List Int} (h8:U8 zs) {u k:Nat}:∀ f i,i+f=10→vrGo zs i f=.ok (u,k)→∃ v,u=acc zs i+v*128 ^ i∧i < k∧(zs.drop i).take (k - i)=vint v∧(0 < i→0 < v):=by
  intro f
  induction f with
  | zero=>intro i _ h;simp [vrGo] at h
  | succ f ih=>
    intro i hi h
    rw [vrGo] at h
    split at h
    · cases h
    · rename_i hlen
      have hcons:zs.drop i=(byt zs i:Int) :: zs.drop (i+1):=by
        rw [List.drop_eq_getElem_cons (by omega)]
        congr 1
        have:=byt_at h8 i
        rw [List.getElem?_eq_getElem (by omega)] at this
        exact this
      split at h
      · rename_i hb
        split at h
        · cases h
        · rename_i hg
          simp only[Except.ok.injEq,Prod.mk.injEq] at h
          obtain ⟨rfl,rfl⟩:=h
          refine ⟨byt zs i,by rw [acc,Nat.mod_eq_of_lt hb],by omega,?_,fun h0=>by omega⟩
          rw [hcons,show i+1 - i=1 from by omega,vint_lo hb];rfl
      · rename_i hb
        obtain ⟨v,h1,h2,h3,h4⟩:=ih (i+1) (by omega) h
        have hv:=h4 (by omega)
        have hb255:byt zs i≤255:=by have:=h8 i;unfold byt;omega
        refine ⟨byt zs i % 128+128*v,?_,by omega,?_,fun _=>by omega⟩
        · rw [h1,acc,Nat.pow_succ,Nat.add_mul,Nat.add_assoc]
          congr 2
          rw [Nat.mul_comm (128 ^ i) 128,← Nat.mul_assoc,Nat.mul_comm v 128]
        · rw [hcons,show k - i=(k - (i+1))+1 from by omega,List.take_succ_cons,h3,vint_hi (u:=byt zs i % 128+128*v) (by omega)]
          have e1:(byt zs i % 128+128*v) / 128=v:=by omega
          have e2:(byt zs i % 128+128*v) % 128+128=byt zs i:=by omega
          rw [e1,e2]
theorem vr_form {zs:List Int} (h8:U8 zs) {u k:Nat} (h:vr zs=.ok (u,k)):zs.take k=vint u:=by
  obtain ⟨v,h1,h2,h3,_⟩:=vrGo_form h8 10 0 rfl h
  have:u=v:=by simpa [acc] using h1
  rw [this]
  simpa using h3
def readS (st:RS) (k:Int):RS × Int × List Int:=
  if k=1 then ((numS st).1,(numS st).2,[]) else if k=2 then ((intS st).1,(intS st).2,[]) else ((bytesS st).1,0,(bytesS st).2)
theorem read_blocks {w w1:World} {g:Nat} {k:Int} (hg:g < w.heap.size) (hk:Kept (Only g) ((w.alloc (Obj.cells #[.int .i64 0,.int .i64 0,.slice none 0 0] 182)).alloc (Obj.cells #[.int .i64 k,.int .i64 0,.slice none 0 0] 182)) w1) :
    w1.heap[w.heap.size]?=some (.cells #[.int .i64 0,.int .i64 0,.slice none 0 0] 182 (0,0))∧w1.heap[w.heap.size+1]?=some (.cells #[.int .i64 k,.int .i64 0,.slice none 0 0] 182 (0,0)):=by
  constructor
  · rw [hk.block _ (by rw [World.heap_size_alloc1,World.heap_size_alloc1];omega) (fun e=>by have e':w.heap.size=g:=e;omega)]
    rw [Below.heap_alloc _ _ _ (by rw [World.heap_size_alloc1];omega)]
    exact heap_new _ _
  · rw [hk.block _ (by rw [World.heap_size_alloc1,World.heap_size_alloc1];omega) (fun e=>by have e':w.heap.size+1=g:=e;omega)]
    exact heap_new1 _ _ _
def Fresh2 (B:Nat):Nat→Prop:=fun i=>i=B∨i=B+1
structure Rr (w:World) (g:Nat) (ba:Option Addr) (bc:Nat) (bs:List Int) (at_:Nat) (e p:Int):Prop where
  cell:w.heap[g]?=some (.cells #[.slice ba bs.length bc,.int .i64 (at_:Int),.int .i64 e,.int .i64 p] 172 (0,0))
  sl:Sl w ba bs.length bc bs
  le:at_≤bs.length
theorem Rr.lt {w:World} {g:Nat} {ba:Option Addr} {bc:Nat} {bs:List Int} {at_:Nat} {e p:Int} (h:Rr w g ba bc bs at_ e p):g < w.heap.size:=(Array.getElem?_eq_some_iff.1 h.cell).1
theorem Rr.kept {S:Nat→Prop} {w w':World} {g:Nat} {ba:Option Addr} {bc:Nat} {bs:List Int} {at_:Nat} {e p:Int} (h:Rr w g ba bc bs at_ e p) (hk:Kept S w w') (hg:¬ S g) (hS:0 < bs.length→∀ k,At ba k→¬ S k):Rr w' g ba bc bs at_ e p:=
  ⟨(hk.block g h.lt hg).trans h.cell,h.sl.kept2 hk hS,h.le⟩
theorem Rr.no {w w':World} {g:Nat} {ba:Option Addr} {bc:Nat} {bs:List Int} {at_:Nat} {e p:Int} (h:Rr w g ba bc bs at_ e p) (hk:Kept No w w'):Rr w' g ba bc bs at_ e p:=h.kept hk (fun e=>e) (fun _ _ _ e=>e)
theorem Rr.ne {w:World} {g:Nat} {ba:Option Addr} {bc:Nat} {bs:List Int} {at_:Nat} {e p:Int} (h:Rr w g ba bc bs at_ e p) (h0:0 < bs.length) {k:Nat} (hk:At ba k):k≠g:=by
  rintro rfl
  obtain ⟨b,off,rfl,hc⟩:=h.sl.bytes 0 h0
  obtain ⟨ad,e',e2⟩:=hk
  cases e'
  simp only at e2
  subst e2
  rw [cell_of_row w b (off+0) _ 172 (0,0) h.cell] at hc
  match off,hc with
  | 0,hc=>simp at hc
  | 1,hc=>simp at hc
  | 2,hc=>simp at hc
  | 3,hc=>simp at hc
  | n+4,hc=>simp at hc
set_option maxRecDepth 1000000 in
set_option maxHeartbeats 400000 in
theorem fail_any (g:Nat) (ba:Option Addr) (bc:Nat) (bs:List Int) (at_:Nat) (e p c q:Int) (w:World) (h:Rr w g ba bc bs at_ e p) :
    Calls Tryz.prog 222 #[.pointer (some ⟨g,0,none⟩),.int .i64 c,.int .i64 q] w fun e' w'=>e'=.returned (.tuple #[])∧Rr w' g ba bc bs at_ c q∧Kept (Only g) w w':=by
  have HR:Hid (Rr w g ba bc bs at_ e p):=h
  have c2:w.cell? ⟨g,2,none⟩=some (.int .i64 e):=by rw [cell_of_row w g 2 _ 172 (0,0) h.cell];rfl
  have c3:w.cell? ⟨g,3,none⟩=some (.int .i64 p):=by rw [cell_of_row w g 3 _ 172 (0,0) h.cell];rfl
  have f2:=frozen_of_row w g 2 _ 172 h.cell
  have f3:=frozen_of_row w g 3 _ 172 h.cell
  clear h
  go_enter Tryz.func222,Tryz.ntmps222
  go_wp2
  go_end0
  have hK:Kept (Only g) w ((w.setCell ⟨g,2,none⟩ (.int .i64 c)).setCell ⟨g,3,none⟩ (.int .i64 q)):=
    ((Kept.refl (Only g) w).setCell (p:=⟨g,2,none⟩) (fun _=>(rfl:g=g)) _).setCell (p:=⟨g,3,none⟩) (fun _=>(rfl:g=g)) _
  refine ⟨rfl,⟨?_,HR.out.sl.kept2 hK (fun h0 k hk e=>HR.out.ne h0 hk e),HR.out.le⟩,hK⟩
  have h1:=heap_setCell_same w g 2 _ 172 (.int .i64 c) HR.out.cell
  have h2:=heap_setCell_same _ g 3 _ 172 (.int .i64 q) h1
  rw [h2];rfl
def rvGo (zs:List Int) (s:Bool):Nat→Nat→Except Int (Nat × Nat)
  | i,0=>.error 11
  | i,f+1=>if zs.length≤i then .error 10 else
      if (i=9∧(1 < byt zs i∨s=false))∨(byt zs i=0∧0 < i) then .error 11 else
      if byt zs i < 128 then .ok (acc zs (i+1),i+1) else rvGo zs s (i+1) f
def rv (zs:List Int) (s:Bool):Except Int (Nat × Nat):=rvGo zs s 0 10
theorem rv_step (zs:List Int) (s:Bool) (k:Nat) (h:k < 10):rvGo zs s k (10 - k)=if zs.length≤k then .error 10 else
      if (k=9∧(1 < byt zs k∨s=false))∨(byt zs k=0∧0 < k) then .error 11 else
      if byt zs k < 128 then .ok (acc zs (k+1),k+1) else rvGo zs s (k+1) (10 - (k+1)):=by
  rw [show 10 - k=(10 - (k+1))+1 from by omega,rvGo]
theorem rv_true (zs:List Int):rv zs true=vr zs:=by
  suffices H:∀ f i,i+f=10→rvGo zs true i f=vrGo zs i f from H 10 0 rfl
  intro f
  induction f with
  | zero=>intro i _;rfl
  | succ f ih=>
    intro i hi
    rw [rvGo,vrGo,ih (i+1) (by omega)]
    by_cases h1:zs.length≤i
    · rw [if_pos h1,if_pos h1]
    · rw [if_neg h1,if_neg h1]
      by_cases h2:byt zs i < 128
      · rw [if_pos h2,if_pos h2]
        by_cases h3:(0 < i∧byt zs i=0)∨(i=9∧1 < byt zs i)
        · rw [if_pos h3,if_pos (by simp;omega)]
        · rw [if_neg h3,if_neg (by simp;omega)]
      · rw [if_neg h2,if_neg h2]
        by_cases h9:i=9
        · subst h9
          have:f=0:=by omega
          subst this
          rw [if_pos (by simp;omega)]
          rfl
        · rw [if_neg (by simp;omega)]
theorem rv_false (zs:List Int):rv zs false=nr zs:=by
  suffices H:∀ f i,i+f=10→rvGo zs false i f=(match vrGo zs i f with
      | .error c=>.error c
      | .ok (u,k)=>if 9223372036854775807 < u then .error 11 else .ok (u,k)) from H 10 0 rfl
  intro f
  induction f with
  | zero=>intro i _;rfl
  | succ f ih=>
    intro i hi
    rw [rvGo,vrGo,ih (i+1) (by omega)]
    by_cases h1:zs.length≤i
    · rw [if_pos h1,if_pos h1]
    · rw [if_neg h1,if_neg h1]
      have ha:=acc_lt zs i
      by_cases h9:i=9
      · subst h9
        have:f=0:=by omega
        subst this
        rw [if_pos (by simp)]
        by_cases h2:byt zs 9 < 128
        · rw [if_pos h2]
          by_cases h3:(0 < 9∧byt zs 9=0)∨(9=9∧1 < byt zs 9)
          · rw [if_pos h3]
          · rw [if_neg h3]
            have hb:byt zs 9=1:=by omega
            simp only
            rw [acc,hb,if_pos (by omega)]
        · rw [if_neg h2];rfl
      · by_cases h2:byt zs i < 128
        · rw [if_pos h2,if_pos h2]
          by_cases h3:(0 < i∧byt zs i=0)∨(i=9∧1 < byt zs i)
          · rw [if_pos h3,if_pos (by omega)]
          · rw [if_neg h3,if_neg (by omega)]
            simp only
            have h8:128 ^ (i+1)≤128 ^ 9:=Nat.pow_le_pow_right (by decide) (by omega)
            have:=acc_lt zs (i+1)
            rw [if_neg (by omega)]
        · rw [if_neg h2,if_neg h2,if_neg (by omega)]
theorem byt_drop (bs:List Int) (at_ k:Nat):byt (bs.drop at_) k=(bs[at_+k]?.getD 0).toNat:=by
  unfold byt;rw [List.getElem?_drop]
theorem and127b (B:Nat) (h:B≤255):bits .and .u8 (B:Int) 127=(B:Int) % 128:=
  bits_mask .u8 8 (by decide) (fun n a b=>by simp [IntKind.wrap,IntKind.bits,IntKind.signed];omega) 7 (by decide) (B:Int) (by omega) (by omega)
theorem ret_ui {x x' y y':Int} (h:x=x') (h2:y=y'):Ending.returned (.tuple #[.int .u64 x,.int .i64 y])=.returned (.tuple #[.int .u64 x',.int .i64 y']):=by rw [h,h2]
def RvPost (w:World) (g:Nat) (ba:Option Addr) (bc:Nat) (bs:List Int) (at_:Nat) (V:Except Int (Nat × Nat)) (e:Ending) (w':World):Prop:=
  match V with
  | .error c=>e=.returned (.tuple #[.int .u64 0,.int .i64 0])∧Rr w' g ba bc bs at_ c (at_:Int)∧Kept (Only g) w w'
  | .ok (u,k)=>e=.returned (.tuple #[.int .u64 (u:Int),.int .i64 (k:Int)])∧∃ n,w'=w.drewN n
set_option maxRecDepth 100000 in
set_option maxHeartbeats 2000000 in
theorem refvar_any (g:Nat) (ba:Option Addr) (bc:Nat) (bs:List Int) (at_:Nat) (e p:Int) (s:Bool) (w:World) (h:Rr w g ba bc bs at_ e p) :
    Calls Tryz.prog 221 #[.pointer (some ⟨g,0,none⟩),.bool s] w (RvPost w g ba bc bs at_ (rv (bs.drop at_) s)):=by
  have HR:Hid (Rr w g ba bc bs at_ e p):=h
  have hbd:=h.sl.bd
  have hle:=h.le
  have c0:w.cell? ⟨g,0,none⟩=some (.slice ba bs.length bc):=by rw [cell_of_row w g 0 _ 172 (0,0) h.cell];rfl
  have c1:w.cell? ⟨g,1,none⟩=some (.int .i64 (at_:Int)):=by rw [cell_of_row w g 1 _ 172 (0,0) h.cell];rfl
  obtain ⟨V,hV⟩:∃ V,V=rv (bs.drop at_) s:=⟨_,rfl⟩
  rw [← hV]
  have HV:Hid (V=rvGo (bs.drop at_) s 0 10):=hV
  clear h hV
  go_enter Tryz.func221,Tryz.ntmps221
  go_wp2
  go_loopw [6,7] (fun u i wr=>∃ (k:Nat) (U:Int),k≤10∧i=.int .i64 (k:Int)∧u=.int .u64 U∧Hid (k≤9→U=(acc (bs.drop at_) k:Int))∧Hid (V=rvGo (bs.drop at_) s k (10 - k))∧∃ n,wr=w.drewN n) (fun _ i _=>10 - (intOf i).toNat)
  case atStart=>exact ⟨0,0,by omega,rfl,rfl,fun _=>rfl,HV,0,rfl⟩
  case round=>
    obtain ⟨k,U,hk,rfl,rfl,HU,HK,n,rfl⟩:=hrel
    by_cases hlt:k < 10
    · have i1:(k:Int) < 10:=by omega
      by_cases hcut:at_+k < bs.length
      · have i2:¬ (bs.length:Int)≤(at_:Int)+(k:Int):=by omega
        obtain ⟨b,off,rfl,hcl⟩:=HR.out.sl.bytes (at_+k) hcut
        obtain ⟨B,hB⟩:∃ B:Nat,bs[at_+k]?.getD 0=(B:Int):=⟨(bs[at_+k]?.getD 0).toNat,by have:=HR.out.sl.u8 (at_+k);omega⟩
        have hB8:B≤255:=by have:=HR.out.sl.u8 (at_+k);omega
        rw [hB] at hcl
        have HB:Hid (byt (bs.drop at_) k=B):=by unfold Hid;rw [byt_drop,hB];simp
        clear hB
        have m1:=and127b B hB8
        by_cases h9:k=9
        · have g9:((k:Int)==9)=true:=by simp;omega
          have g0:(0:Int) < (k:Int):=by omega
          by_cases h1:1 < B
          · have g1:(1:Int) < (B:Int):=by omega
            have HE:Hid (V=.error 11):=by
              show V=_
              rw [HK.out,rv_step _ _ k hlt,if_neg (by rw [List.length_drop];omega),HB.out,if_pos (by first | omega | (simp;omega))]
            clear HV HK HU hB8
            try clear h9
            try clear h0
            try clear h1
            try clear hk0
            try clear h128
            go_wp2
            go_quiet (fail)
            go_wp2
            go_quiet (fail)
            go_wp2_with fail
            refine (fail_any g _ bc bs at_ e p 11 at_ _ (HR.out.no ((Kept.refl No w).drewN _))).mono ?_
            rintro e' w1 ⟨rfl,hr,hk1⟩
            have HF:Hid (Rr w1 g (some ⟨b,off,none⟩) bc bs at_ 11 (at_:Int)∧Kept (Only g) w w1):=⟨hr,((Kept.refl No w).drewN _).of_no.then hk1⟩
            clear hr hk1
            go_wp2
            go_ret2
            show RvPost _ _ _ _ _ _ _ _ _
            rw [HE.out]
            exact ⟨rfl,HF.out⟩
          · have g1:¬ (1:Int) < (B:Int):=by omega
            cases s with
            | false=>
              have HE:Hid (V=.error 11):=by
                show V=_
                rw [HK.out,rv_step _ _ k hlt,if_neg (by rw [List.length_drop];omega),HB.out,if_pos (by first | omega | (simp;omega))]
              clear HV HK HU hB8
              try clear h9
              try clear h0
              try clear h1
              try clear hk0
              try clear h128
              go_wp2
              go_quiet (fail)
              go_wp2
              go_quiet (fail)
              go_wp2_with fail
              refine (fail_any g _ bc bs at_ e p 11 at_ _ (HR.out.no ((Kept.refl No w).drewN _))).mono ?_
              rintro e' w1 ⟨rfl,hr,hk1⟩
              have HF:Hid (Rr w1 g (some ⟨b,off,none⟩) bc bs at_ 11 (at_:Int)∧Kept (Only g) w w1):=⟨hr,((Kept.refl No w).drewN _).of_no.then hk1⟩
              clear hr hk1
              go_wp2
              go_ret2
              show RvPost _ _ _ _ _ _ _ _ _
              rw [HE.out]
              exact ⟨rfl,HF.out⟩
            | true=>
              by_cases h0:B=0
              · have gb:((B:Int)==0)=true:=by simp;omega
                have HE:Hid (V=.error 11):=by
                  show V=_
                  rw [HK.out,rv_step _ _ k hlt,if_neg (by rw [List.length_drop];omega),HB.out,if_pos (by first | omega | (simp;omega))]
                clear HV HK HU hB8
                try clear h9
                try clear h0
                try clear h1
                try clear hk0
                try clear h128
                go_wp2
                go_quiet (fail)
                go_wp2
                go_quiet (fail)
                go_wp2_with fail
                refine (fail_any g _ bc bs at_ e p 11 at_ _ (HR.out.no ((Kept.refl No w).drewN _))).mono ?_
                rintro e' w1 ⟨rfl,hr,hk1⟩
                have HF:Hid (Rr w1 g (some ⟨b,off,none⟩) bc bs at_ 11 (at_:Int)∧Kept (Only g) w w1):=⟨hr,((Kept.refl No w).drewN _).of_no.then hk1⟩
                clear hr hk1
                go_wp2
                go_ret2
                show RvPost _ _ _ _ _ _ _ _ _
                rw [HE.out]
                exact ⟨rfl,HF.out⟩
              · have gb:((B:Int)==0)=false:=by simp;omega
                have j1:(B:Int) < 128:=by omega
                have HE:Hid (V=.ok (acc (bs.drop at_) (k+1),k+1)):=by
                  show V=_
                  rw [HK.out,rv_step _ _ k hlt,if_neg (by rw [List.length_drop];omega),HB.out,if_neg (by first | omega | (simp;omega)),if_pos (by omega)]
                have HS:Hid (bits .or .u64 U (IntKind.u64.wrap ((B:Int) % 128*2 ^ (7*k)))=(acc (bs.drop at_) (k+1):Int)):=by
                  rw [Hid,HU.out (by omega)];exact or_step _ k B HB.out (by omega)
                clear HV HK HU hB8
                try clear h9
                try clear h0
                try clear h1
                try clear hk0
                try clear h128
                go_wp2
                go_quiet (fail)
                go_wp2
                go_quiet (fail)
                go_wp2
                go_ret2
                show RvPost _ _ _ _ _ _ _ _ _
                rw [HE.out]
                exact ⟨ret_ui HS.out (by omega),_,rfl⟩
        · have g9:((k:Int)==9)=false:=by simp;omega
          by_cases h0:B=0
          · have gb:((B:Int)==0)=true:=by simp;omega
            by_cases hk0:0 < k
            · have g0:(0:Int) < (k:Int):=by omega
              have HE:Hid (V=.error 11):=by
                show V=_
                rw [HK.out,rv_step _ _ k hlt,if_neg (by rw [List.length_drop];omega),HB.out,if_pos (by first | omega | (simp;omega))]
              clear HV HK HU hB8
              try clear h9
              try clear h0
              try clear h1
              try clear hk0
              try clear h128
              go_wp2
              go_quiet (fail)
              go_wp2
              go_quiet (fail)
              go_wp2_with fail
              refine (fail_any g _ bc bs at_ e p 11 at_ _ (HR.out.no ((Kept.refl No w).drewN _))).mono ?_
              rintro e' w1 ⟨rfl,hr,hk1⟩
              have HF:Hid (Rr w1 g (some ⟨b,off,none⟩) bc bs at_ 11 (at_:Int)∧Kept (Only g) w w1):=⟨hr,((Kept.refl No w).drewN _).of_no.then hk1⟩
              clear hr hk1
              go_wp2
              go_ret2
              show RvPost _ _ _ _ _ _ _ _ _
              rw [HE.out]
              exact ⟨rfl,HF.out⟩
            · have g0:¬ (0:Int) < (k:Int):=by omega
              have j1:(B:Int) < 128:=by omega
              have HE:Hid (V=.ok (acc (bs.drop at_) (k+1),k+1)):=by
                show V=_
                rw [HK.out,rv_step _ _ k hlt,if_neg (by rw [List.length_drop];omega),HB.out,if_neg (by first | omega | (simp;omega)),if_pos (by omega)]
              have HS:Hid (bits .or .u64 U (IntKind.u64.wrap ((B:Int) % 128*2 ^ (7*k)))=(acc (bs.drop at_) (k+1):Int)):=by
                rw [Hid,HU.out (by omega)];exact or_step _ k B HB.out (by omega)
              clear HV HK HU hB8
              try clear h9
              try clear h0
              try clear h1
              try clear hk0
              try clear h128
              go_wp2
              go_quiet (fail)
              go_wp2
              go_quiet (fail)
              go_wp2
              go_ret2
              show RvPost _ _ _ _ _ _ _ _ _
              rw [HE.out]
              exact ⟨ret_ui HS.out (by omega),_,rfl⟩
          · have gb:((B:Int)==0)=false:=by simp;omega
            by_cases h128:B < 128
            · have j1:(B:Int) < 128:=by omega
              have HE:Hid (V=.ok (acc (bs.drop at_) (k+1),k+1)):=by
                show V=_
                rw [HK.out,rv_step _ _ k hlt,if_neg (by rw [List.length_drop];omega),HB.out,if_neg (by first | omega | (simp;omega)),if_pos (by omega)]
              have HS:Hid (bits .or .u64 U (IntKind.u64.wrap ((B:Int) % 128*2 ^ (7*k)))=(acc (bs.drop at_) (k+1):Int)):=by
                rw [Hid,HU.out (by omega)];exact or_step _ k B HB.out (by omega)
              clear HV HK HU hB8
              try clear h9
              try clear h0
              try clear h1
              try clear hk0
              try clear h128
              go_wp2
              go_quiet (fail)
              go_wp2
              go_quiet (fail)
              go_wp2
              go_ret2
              show RvPost _ _ _ _ _ _ _ _ _
              rw [HE.out]
              exact ⟨ret_ui HS.out (by omega),_,rfl⟩
            · have j1:¬ (B:Int) < 128:=by omega
              have HE:Hid (V=rvGo (bs.drop at_) s (k+1) (10 - (k+1))):=by
                show V=_
                rw [HK.out,rv_step _ _ k hlt,if_neg (by rw [List.length_drop];omega),HB.out,if_neg (by first | omega | (simp;omega)),if_neg (by omega)]
              have HS:Hid (bits .or .u64 U (IntKind.u64.wrap ((B:Int) % 128*2 ^ (7*k)))=(acc (bs.drop at_) (k+1):Int)):=by
                rw [Hid,HU.out (by omega)];exact or_step _ k B HB.out (by omega)
              clear HV HK HU h9 h0 h128 hB8
              go_wp2
              go_quiet (fail)
              go_wp2
              go_quiet (fail)
              go_wp2
              go_roundw
              case rel=>exact ⟨k+1,_,by omega,by go_num,rfl,fun _=>HS.out,HE,_,rfl⟩
              case measure=>simp [intOf];omega
      · have i2:(bs.length:Int)≤(at_:Int)+(k:Int):=by omega
        have HE:Hid (V=.error 10):=by
          show V=_
          rw [HK.out,rv_step _ _ k hlt,if_pos (by rw [List.length_drop];omega)]
        clear HV HK HU
        go_wp2
        go_quiet (fail)
        go_wp2_with fail
        refine (fail_any g ba bc bs at_ e p 10 at_ _ (HR.out.no ((Kept.refl No w).drewN _))).mono ?_
        rintro e' w1 ⟨rfl,hr,hk1⟩
        have HF:Hid (Rr w1 g ba bc bs at_ 10 (at_:Int)∧Kept (Only g) w w1):=⟨hr,((Kept.refl No w).drewN _).of_no.then hk1⟩
        clear hr hk1
        go_wp2
        go_ret2
        show RvPost _ _ _ _ _ _ _ _ _
        rw [HE.out]
        exact ⟨rfl,HF.out⟩
    · obtain rfl:k=10:=by omega
      have HE:Hid (V=.error 11):=HK.out
      clear HV HK HU
      go_wp2_with fail
      refine (fail_any g ba bc bs at_ e p 11 at_ _ (HR.out.no ((Kept.refl No w).drewN _))).mono ?_
      rintro e' w1 ⟨rfl,hr,hk1⟩
      have HF:Hid (Rr w1 g ba bc bs at_ 11 (at_:Int)∧Kept (Only g) w w1):=⟨hr,((Kept.refl No w).drewN _).of_no.then hk1⟩
      clear hr hk1
      go_wp2
      go_ret2
      show RvPost _ _ _ _ _ _ _ _ _
      rw [HE.out]
      exact ⟨rfl,HF.out⟩
def Rf (w:World) (g:Nat) (ba:Option Addr) (bc:Nat) (bs:List Int):RS→Prop
  | .ok zs at_=>Rr w g ba bc bs at_ 0 0∧zs=bs.drop at_
  | .bad p c=>c≠0∧∃ at_,Rr w g ba bc bs at_ c (p:Int)
theorem Rf.lt {w:World} {g:Nat} {ba:Option Addr} {bc:Nat} {bs:List Int} {st:RS} (h:Rf w g ba bc bs st):g < w.heap.size:=by
  cases st with
  | ok zs at_=>exact h.1.lt
  | bad p c=>obtain ⟨_,a,hr⟩:=h;exact hr.lt
theorem Rf.kept {S:Nat→Prop} {w w':World} {g:Nat} {ba:Option Addr} {bc:Nat} {bs:List Int} {st:RS} (h:Rf w g ba bc bs st) (hk:Kept S w w') (hg:¬ S g) (hS:0 < bs.length→∀ k,At ba k→¬ S k):Rf w' g ba bc bs st:=by
  cases st with
  | ok zs at_=>exact ⟨h.1.kept hk hg hS,h.2⟩
  | bad p c=>obtain ⟨h0,a,hr⟩:=h;exact ⟨h0,a,hr.kept hk hg hS⟩
theorem Rf.no {w w':World} {g:Nat} {ba:Option Addr} {bc:Nat} {bs:List Int} {st:RS} (h:Rf w g ba bc bs st) (hk:Kept No w w'):Rf w' g ba bc bs st:=h.kept hk (fun e=>e) (fun _ _ _ e=>e)
theorem Rf.at_lt {w:World} {g:Nat} {ba:Option Addr} {bc:Nat} {bs:List Int} {st:RS} (h:Rf w g ba bc bs st) (h0:0 < bs.length) {k:Nat} (hk:At ba k):k < w.heap.size:=by
  have hs:Sl w ba bs.length bc bs:=by
    cases st with
    | ok zs at_=>exact h.1.sl
    | bad p c=>obtain ⟨_,a,hr⟩:=h;exact hr.sl
  obtain ⟨b,off,rfl,hc⟩:=hs.bytes 0 h0
  rw [at_some hk]
  exact World.block_lt_of_cell? w _ hc
def RefPost (w:World) (g:Nat) (ba:Option Addr) (bc:Nat) (bs:List Int) (st:RS) (k:Int) (e:Ending) (w':World):Prop:=
  ∃ a' m' c',e=.returned (.agg #[.int .i64 k,.int .i64 (readS st k).2.1,.slice a' m' c'])∧Sl w' a' m' c' (readS st k).2.2∧Rf w' g ba bc bs (readS st k).1∧Kept (Only g) w w'
theorem ref_end {w w1 w2:World} {g:Nat} {ba:Option Addr} {bc:Nat} {bs:List Int} {st st':RS} {k n:Int} {a':Option Addr} {m' c':Nat} {L:List Int} (hg:g < w.heap.size) (hb:0 < bs.length→∀ i,At ba i→i < w.heap.size) (hk:Kept (Only g) w w1) (hr:Rf w1 g ba bc bs st') (hs:Sl w1 a' m' c' L) (ha:∀ i,At a' i→w.heap.size+2≤i)
    (h2:Kept (Fresh2 w.heap.size) w1 w2) (e:readS st k=(st',n,L)):RefPost w g ba bc bs st k (.returned (.agg #[.int .i64 k,.int .i64 n,.slice a' m' c'])) w2:=by
  refine ⟨a',m',c',by rw [e],?_,?_,?_⟩
  · rw [e]
    exact hs.kept2 h2 (fun _ i hi e=>by have:=ha i hi;rcases e with e | e <;> omega)
  · rw [e]
    exact hr.kept h2 (fun e=>by rcases e with e | e <;> omega) (fun h0 i hi e=>by have:=hb h0 i hi;rcases e with e | e <;> omega)
  · exact hk.trans h2 (fun _ e=>e) (fun i hi e=>by rcases e with e | e <;> omega)
theorem ref_good {w w1 wa w2:World} {g:Nat} {ba:Option Addr} {bc:Nat} {bs:List Int} {st:RS} {at_ j:Nat} {k n v:Int} {a':Option Addr} {m' c':Nat} {L:List Int} (hg:g < w.heap.size) (hb:0 < bs.length→∀ i,At ba i→i < w.heap.size) (hk:Kept No w w1) (hr:Rr w1 g ba bc bs at_ 0 0) (hj:at_+j≤bs.length) (hs:Sl w1 a' m' c' L) (ha:∀ i,At a' i→w.heap.size+2≤i)
    (h1:Kept (Fresh2 w.heap.size) w1 wa) (hv:v=((at_+j:Nat):Int)) (h2:Kept (Fresh2 w.heap.size) (wa.setCell ⟨g,1,none⟩ (.int .i64 v)) w2) (e:readS st k=(.ok (bs.drop (at_+j)) (at_+j),n,L)):RefPost w g ba bc bs st k (.returned (.agg #[.int .i64 k,.int .i64 n,.slice a' m' c'])) w2:=by
  have hgF:¬ Fresh2 w.heap.size g:=fun e=>by rcases e with e | e <;> omega
  have hra:Rr wa g ba bc bs at_ 0 0:=hr.kept h1 hgF (fun h0 i hi e=>by have:=hb h0 i hi;rcases e with e | e <;> omega)
  have hK1:Kept (Only g) w (wa.setCell ⟨g,1,none⟩ (.int .i64 v)):=(hk.trans (U:=Only g) h1 (fun _ e=>e.elim) (fun i hi e=>by rcases e with e | e <;> omega)).setCell (p:=⟨g,1,none⟩) (fun _=>(rfl:g=g)) _
  have hKg:Kept (Only g) wa (wa.setCell ⟨g,1,none⟩ (.int .i64 v)):=(Kept.refl (Only g) _).setCell (p:=⟨g,1,none⟩) (fun _=>(rfl:g=g)) _
  have hsb:Sl (wa.setCell ⟨g,1,none⟩ (.int .i64 v)) a' m' c' L:=(hs.kept2 h1 (fun _ i hi e=>by have:=ha i hi;rcases e with e | e <;> omega)).kept2 hKg (fun _ i hi e=>by have:=ha i hi;have e':i=g:=e;omega)
  have hrb:Rr (wa.setCell ⟨g,1,none⟩ (.int .i64 v)) g ba bc bs (at_+j) 0 0:=by
    refine ⟨?_,hra.sl.kept2 hKg (fun h0 k hk e=>hra.ne h0 hk e),hj⟩
    rw [heap_setCell_same _ g 1 _ 172 (.int .i64 v) hra.cell,hv];rfl
  exact ref_end hg hb hK1 (st':=.ok (bs.drop (at_+j)) (at_+j)) ⟨hrb,rfl⟩ hsb ha h2 e
set_option maxRecDepth 100000 in
set_option maxHeartbeats 2000000 in
theorem ref_bad (g:Nat) (ba:Option Addr) (bc:Nat) (bs:List Int) (p:Nat) (c k:Int) (w:World) (h:Rf w g ba bc bs (.bad p c)) :
    Calls Tryz.prog 189 #[.pointer (some ⟨g,0,none⟩),.int .i64 k] w (RefPost w g ba bc bs (.bad p c) k):=by
  have HF:Hid (Rf w g ba bc bs (.bad p c)):=h
  obtain ⟨h0,at_,hr⟩:=h
  have q0:(c==0)=false:=by simpa using h0
  have c2:w.cell? ⟨g,2,none⟩=some (.int .i64 c):=by rw [cell_of_row w g 2 _ 172 (0,0) hr.cell];rfl
  have hg:=hr.lt
  have HE:Hid (readS (.bad p c) k=(.bad p c,0,[])):=by simp [Hid,readS,numS,intS,bytesS]
  clear h0 hr
  go_enter Tryz.func189,Tryz.ntmps189
  go_wp2
  refine bodyPost_ret (v:=.agg #[.int .i64 k,.int .i64 0,.slice none 0 0]) (by simp [results,Tryz.results189,go_sem]) rfl ⟨none,0,0,by rw [HE.out],by rw [HE.out];exact Sl.nilS _,by rw [HE.out];exact HF.out.no (((Kept.refl _ _).alloc _).alloc _),((Kept.refl _ _).alloc _).alloc _⟩
set_option maxRecDepth 100000 in
set_option maxHeartbeats 2000000 in
theorem ref_1 (g:Nat) (ba:Option Addr) (bc:Nat) (bs:List Int) (zs:List Int) (at_:Nat) (w:World) (h:Rf w g ba bc bs (.ok zs at_)) :
    Calls Tryz.prog 189 #[.pointer (some ⟨g,0,none⟩),.int .i64 1] w (RefPost w g ba bc bs (.ok zs at_) 1):=by
  have HR:Hid (Rr w g ba bc bs at_ 0 0):=h.1
  have HZ:Hid (zs=bs.drop at_):=h.2
  have HL:Hid (0 < bs.length→∀ i,At ba i→i < w.heap.size):=fun h0 i hi=>h.at_lt h0 hi
  have c2:w.cell? ⟨g,2,none⟩=some (.int .i64 0):=by rw [cell_of_row w g 2 _ 172 (0,0) h.1.cell];rfl
  have hbd:=h.1.sl.bd
  have hg:=h.lt
  clear h
  go_enter Tryz.func189,Tryz.ntmps189
  go_wp2_with fail
  refine (refvar_any g ba bc bs at_ 0 0 false _ (HR.out.no (((Kept.refl _ _).alloc _).alloc _))).mono ?_
  intro e w1 hpost
  rw [rv_false,← HZ.out] at hpost
  cases hv:nr zs with
  | error c=>
    rw [hv] at hpost
    obtain ⟨rfl,hr,hk⟩:=hpost
    obtain ⟨hA,hB⟩:=read_blocks hg hk
    have cA0:w1.cell? ⟨w.heap.size,0,none⟩=some (.int .i64 0):=by rw [cell_of_row w1 _ 0 _ 182 (0,0) hA];rfl
    have cA1:w1.cell? ⟨w.heap.size,1,none⟩=some (.int .i64 0):=by rw [cell_of_row w1 _ 1 _ 182 (0,0) hA];rfl
    have cA2:w1.cell? ⟨w.heap.size,2,none⟩=some (.slice none 0 0):=by rw [cell_of_row w1 _ 2 _ 182 (0,0) hA];rfl
    have cB0:w1.cell? ⟨w.heap.size+1,0,none⟩=some (.int .i64 1):=by rw [cell_of_row w1 _ 0 _ 182 (0,0) hB];rfl
    have cB1:w1.cell? ⟨w.heap.size+1,1,none⟩=some (.int .i64 0):=by rw [cell_of_row w1 _ 1 _ 182 (0,0) hB];rfl
    have cB2:w1.cell? ⟨w.heap.size+1,2,none⟩=some (.slice none 0 0):=by rw [cell_of_row w1 _ 2 _ 182 (0,0) hB];rfl
    have fA0:=frozen_of_row w1 _ 0 _ 182 hA
    have fA1:=frozen_of_row w1 _ 1 _ 182 hA
    have fA2:=frozen_of_row w1 _ 2 _ 182 hA
    have fB0:=frozen_of_row w1 _ 0 _ 182 hB
    have fB1:=frozen_of_row w1 _ 1 _ 182 hB
    have fB2:=frozen_of_row w1 _ 2 _ 182 hB
    have HF:Hid (Rf w1 g ba bc bs (.bad at_ c)):=⟨by have:=nr_code hv;omega,at_,hr⟩
    have HK1:Hid (Kept (Only g) w w1):=(((Kept.refl No w).alloc _).alloc _).of_no.then hk
    have HE:Hid (readS (.ok zs at_) 1=(.bad at_ c,0,[])):=by simp [Hid,readS,numS,hv]
    clear hA hB hr hk hv
    go_wp2
    exact bodyPost_ret (v:=.agg #[.int .i64 1,.int .i64 0,.slice none 0 0]) (by simp [results,Tryz.results189,go_sem,cA0,cA1,cA2]) rfl (ref_end hg HL.out HK1.out HF.out (Sl.nilS _) (fun i h=>absurd h At.none) ((((Kept.refl (Fresh2 w.heap.size) w1).setCell (p:=⟨w.heap.size,0,none⟩) (fun _=>.inl rfl) _).setCell (p:=⟨w.heap.size,1,none⟩) (fun _=>.inl rfl) _).setCell (p:=⟨w.heap.size,2,none⟩) (fun _=>.inl rfl) _) HE.out)
  | ok x=>
    obtain ⟨u,j⟩:=x
    rw [hv] at hpost
    obtain ⟨rfl,n,hw⟩:=hpost
    have hk:Kept No ((w.alloc (Obj.cells #[.int .i64 0,.int .i64 0,.slice none 0 0] 182)).alloc (Obj.cells #[.int .i64 1,.int .i64 0,.slice none 0 0] 182)) w1:=by rw [hw];exact (Kept.refl _ _).drewN n
    clear hw
    obtain ⟨hA,hB⟩:=read_blocks hg (hk.of_no (S:=Only g))
    have cA0:w1.cell? ⟨w.heap.size,0,none⟩=some (.int .i64 0):=by rw [cell_of_row w1 _ 0 _ 182 (0,0) hA];rfl
    have cA1:w1.cell? ⟨w.heap.size,1,none⟩=some (.int .i64 0):=by rw [cell_of_row w1 _ 1 _ 182 (0,0) hA];rfl
    have cA2:w1.cell? ⟨w.heap.size,2,none⟩=some (.slice none 0 0):=by rw [cell_of_row w1 _ 2 _ 182 (0,0) hA];rfl
    have cB0:w1.cell? ⟨w.heap.size+1,0,none⟩=some (.int .i64 1):=by rw [cell_of_row w1 _ 0 _ 182 (0,0) hB];rfl
    have cB1:w1.cell? ⟨w.heap.size+1,1,none⟩=some (.int .i64 0):=by rw [cell_of_row w1 _ 1 _ 182 (0,0) hB];rfl
    have cB2:w1.cell? ⟨w.heap.size+1,2,none⟩=some (.slice none 0 0):=by rw [cell_of_row w1 _ 2 _ 182 (0,0) hB];rfl
    have fA0:=frozen_of_row w1 _ 0 _ 182 hA
    have fA1:=frozen_of_row w1 _ 1 _ 182 hA
    have fA2:=frozen_of_row w1 _ 2 _ 182 hA
    have fB0:=frozen_of_row w1 _ 0 _ 182 hB
    have fB1:=frozen_of_row w1 _ 1 _ 182 hB
    have fB2:=frozen_of_row w1 _ 2 _ 182 hB
    have hr:Rr w1 g ba bc bs at_ 0 0:=HR.out.no ((((Kept.refl No w).alloc _).alloc _).then hk)
    have d1:w1.cell? ⟨g,1,none⟩=some (.int .i64 (at_:Int)):=by rw [cell_of_row w1 g 1 _ 172 (0,0) hr.cell];rfl
    have f1:=frozen_of_row w1 g 1 _ 172 hr.cell
    have HR1:Hid (Rr w1 g ba bc bs at_ 0 0):=hr
    have HK1:Hid (Kept No w w1):=(((Kept.refl No w).alloc _).alloc _).then hk
    have HE:Hid (readS (.ok zs at_) 1=(.ok (bs.drop (at_+j)) (at_+j),(u:Int),[])):=by rw [Hid,readS];simp only[numS,hv];rw [HZ.out,List.drop_drop];rfl
    obtain ⟨hu,hj1,hj2,hj3,_⟩:=nr_bd hv
    have HJ:Hid (at_+j≤bs.length):=by have h1:=HR1.out.le;rw [HZ.out,List.length_drop] at hj3;unfold Hid;omega
    have hJ:(at_:Int)+(j:Int)≤140737488351232:=by have:=HJ.out;omega
    have hj0:((j:Int)==0)=false:=by simp;omega
    have hu':(u:Int)≤9223372036854775807:=by omega
    clear hj1 hj2 hj3 hu
    clear hA hB hr hk hv
    go_wp2
    exact bodyPost_ret (v:=.agg #[.int .i64 1,.int .i64 (u:Int),.slice none 0 0]) (by simp [results,Tryz.results189,go_sem,cA0,cA1,cA2]) rfl (ref_good hg HL.out HK1.out HR1.out HJ.out (Sl.nilS _) (fun i h=>absurd h At.none) ((Kept.refl (Fresh2 w.heap.size) w1).setCell (p:=⟨w.heap.size+1,1,none⟩) (fun _=>.inr rfl) _) (by omega) ((((Kept.refl (Fresh2 w.heap.size) _).setCell (p:=⟨w.heap.size,0,none⟩) (fun _=>.inl rfl) _).setCell (p:=⟨w.heap.size,1,none⟩) (fun _=>.inl rfl) _).setCell (p:=⟨w.heap.size,2,none⟩) (fun _=>.inl rfl) _) HE.out)
theorem and1 (u:Nat) (h:W64 u):bits .and .u64 (u:Int) 1=(u:Int) % 2:=by
  unfold W64 at h
  exact bits_mask .u64 64 (by decide) (fun n a b=>by simp [IntKind.wrap,IntKind.bits,IntKind.signed];omega) 1 (by decide) (u:Int) (by omega) (by omega)
set_option maxRecDepth 100000 in
set_option maxHeartbeats 2000000 in
theorem ref_2 (g:Nat) (ba:Option Addr) (bc:Nat) (bs:List Int) (zs:List Int) (at_:Nat) (w:World) (h:Rf w g ba bc bs (.ok zs at_)) :
    Calls Tryz.prog 189 #[.pointer (some ⟨g,0,none⟩),.int .i64 2] w (RefPost w g ba bc bs (.ok zs at_) 2):=by
  have HR:Hid (Rr w g ba bc bs at_ 0 0):=h.1
  have HZ:Hid (zs=bs.drop at_):=h.2
  have HL:Hid (0 < bs.length→∀ i,At ba i→i < w.heap.size):=fun h0 i hi=>h.at_lt h0 hi
  have c2:w.cell? ⟨g,2,none⟩=some (.int .i64 0):=by rw [cell_of_row w g 2 _ 172 (0,0) h.1.cell];rfl
  have hbd:=h.1.sl.bd
  have hg:=h.lt
  clear h
  go_enter Tryz.func189,Tryz.ntmps189
  go_wp2_with fail
  refine (refvar_any g ba bc bs at_ 0 0 true _ (HR.out.no (((Kept.refl _ _).alloc _).alloc _))).mono ?_
  intro e w1 hpost
  rw [rv_true,← HZ.out] at hpost
  cases hv:vr zs with
  | error c=>
    rw [hv] at hpost
    obtain ⟨rfl,hr,hk⟩:=hpost
    obtain ⟨hA,hB⟩:=read_blocks hg hk
    have cA0:w1.cell? ⟨w.heap.size,0,none⟩=some (.int .i64 0):=by rw [cell_of_row w1 _ 0 _ 182 (0,0) hA];rfl
    have cA1:w1.cell? ⟨w.heap.size,1,none⟩=some (.int .i64 0):=by rw [cell_of_row w1 _ 1 _ 182 (0,0) hA];rfl
    have cA2:w1.cell? ⟨w.heap.size,2,none⟩=some (.slice none 0 0):=by rw [cell_of_row w1 _ 2 _ 182 (0,0) hA];rfl
    have cB0:w1.cell? ⟨w.heap.size+1,0,none⟩=some (.int .i64 2):=by rw [cell_of_row w1 _ 0 _ 182 (0,0) hB];rfl
    have cB1:w1.cell? ⟨w.heap.size+1,1,none⟩=some (.int .i64 0):=by rw [cell_of_row w1 _ 1 _ 182 (0,0) hB];rfl
    have cB2:w1.cell? ⟨w.heap.size+1,2,none⟩=some (.slice none 0 0):=by rw [cell_of_row w1 _ 2 _ 182 (0,0) hB];rfl
    have fA0:=frozen_of_row w1 _ 0 _ 182 hA
    have fA1:=frozen_of_row w1 _ 1 _ 182 hA
    have fA2:=frozen_of_row w1 _ 2 _ 182 hA
    have fB0:=frozen_of_row w1 _ 0 _ 182 hB
    have fB1:=frozen_of_row w1 _ 1 _ 182 hB
    have fB2:=frozen_of_row w1 _ 2 _ 182 hB
    have HF:Hid (Rf w1 g ba bc bs (.bad at_ c)):=⟨by have:=vr_code hv;omega,at_,hr⟩
    have HK1:Hid (Kept (Only g) w w1):=(((Kept.refl No w).alloc _).alloc _).of_no.then hk
    have HE:Hid (readS (.ok zs at_) 2=(.bad at_ c,0,[])):=by simp [Hid,readS,intS,hv]
    clear hA hB hr hk hv
    go_wp2
    exact bodyPost_ret (v:=.agg #[.int .i64 2,.int .i64 0,.slice none 0 0]) (by simp [results,Tryz.results189,go_sem,cA0,cA1,cA2]) rfl (ref_end hg HL.out HK1.out HF.out (Sl.nilS _) (fun i h=>absurd h At.none) ((((Kept.refl (Fresh2 w.heap.size) w1).setCell (p:=⟨w.heap.size,0,none⟩) (fun _=>.inl rfl) _).setCell (p:=⟨w.heap.size,1,none⟩) (fun _=>.inl rfl) _).setCell (p:=⟨w.heap.size,2,none⟩) (fun _=>.inl rfl) _) HE.out)
  | ok x=>
    obtain ⟨u,j⟩:=x
    rw [hv] at hpost
    obtain ⟨rfl,n,hw⟩:=hpost
    have hk:Kept No ((w.alloc (Obj.cells #[.int .i64 0,.int .i64 0,.slice none 0 0] 182)).alloc (Obj.cells #[.int .i64 2,.int .i64 0,.slice none 0 0] 182)) w1:=by rw [hw];exact (Kept.refl _ _).drewN n
    clear hw
    obtain ⟨hA,hB⟩:=read_blocks hg (hk.of_no (S:=Only g))
    have cA0:w1.cell? ⟨w.heap.size,0,none⟩=some (.int .i64 0):=by rw [cell_of_row w1 _ 0 _ 182 (0,0) hA];rfl
    have cA1:w1.cell? ⟨w.heap.size,1,none⟩=some (.int .i64 0):=by rw [cell_of_row w1 _ 1 _ 182 (0,0) hA];rfl
    have cA2:w1.cell? ⟨w.heap.size,2,none⟩=some (.slice none 0 0):=by rw [cell_of_row w1 _ 2 _ 182 (0,0) hA];rfl
    have cB0:w1.cell? ⟨w.heap.size+1,0,none⟩=some (.int .i64 2):=by rw [cell_of_row w1 _ 0 _ 182 (0,0) hB];rfl
    have cB1:w1.cell? ⟨w.heap.size+1,1,none⟩=some (.int .i64 0):=by rw [cell_of_row w1 _ 1 _ 182 (0,0) hB];rfl
    have cB2:w1.cell? ⟨w.heap.size+1,2,none⟩=some (.slice none 0 0):=by rw [cell_of_row w1 _ 2 _ 182 (0,0) hB];rfl
    have fA0:=frozen_of_row w1 _ 0 _ 182 hA
    have fA1:=frozen_of_row w1 _ 1 _ 182 hA
    have fA2:=frozen_of_row w1 _ 2 _ 182 hA
    have fB0:=frozen_of_row w1 _ 0 _ 182 hB
    have fB1:=frozen_of_row w1 _ 1 _ 182 hB
    have fB2:=frozen_of_row w1 _ 2 _ 182 hB
    have hr:Rr w1 g ba bc bs at_ 0 0:=HR.out.no ((((Kept.refl No w).alloc _).alloc _).then hk)
    have d1:w1.cell? ⟨g,1,none⟩=some (.int .i64 (at_:Int)):=by rw [cell_of_row w1 g 1 _ 172 (0,0) hr.cell];rfl
    have f1:=frozen_of_row w1 g 1 _ 172 hr.cell
    have HR1:Hid (Rr w1 g ba bc bs at_ 0 0):=hr
    have HK1:Hid (Kept No w w1):=(((Kept.refl No w).alloc _).alloc _).then hk
    have HE:Hid (readS (.ok zs at_) 2=(.ok (bs.drop (at_+j)) (at_+j),unzz u,[])):=by rw [Hid,readS];simp only[intS,hv];rw [HZ.out,List.drop_drop];rfl
    obtain ⟨hu,hj1,hj2,hj3⟩:=vr_64 hv
    have HJ:Hid (at_+j≤bs.length):=by have h1:=HR1.out.le;rw [HZ.out,List.length_drop] at hj3;unfold Hid;omega
    have hJ:(at_:Int)+(j:Int)≤140737488351232:=by have:=HJ.out;omega
    have hj0:((j:Int)==0)=false:=by simp;omega
    have hu':(u:Int)≤18446744073709551615:=by unfold W64 at hu;omega
    have m1:=and1 u hu
    clear hj1 hj2 hj3 hu
    clear hA hB hr hk hv
    by_cases h2:u % 2=1
    · have e2:((u:Int) % 2==1)=true:=by simp;omega
      have HV:Hid (unzz u=-((u:Int) / 2) - 1):=by rw [Hid,unzz,if_pos h2];omega
      clear h2
      go_wp2
      exact bodyPost_ret (v:=.agg #[.int .i64 2,.int .i64 (-((u:Int) / 2) - 1),.slice none 0 0]) (by simp [results,Tryz.results189,go_sem,cA0,cA1,cA2]) rfl (ref_good hg HL.out HK1.out HR1.out HJ.out (Sl.nilS _) (fun i h=>absurd h At.none) (((Kept.refl (Fresh2 w.heap.size) w1).setCell (p:=⟨w.heap.size+1,1,none⟩) (fun _=>.inr rfl) _).setCell (p:=⟨w.heap.size+1,1,none⟩) (fun _=>.inr rfl) _) (by omega) ((((Kept.refl (Fresh2 w.heap.size) _).setCell (p:=⟨w.heap.size,0,none⟩) (fun _=>.inl rfl) _).setCell (p:=⟨w.heap.size,1,none⟩) (fun _=>.inl rfl) _).setCell (p:=⟨w.heap.size,2,none⟩) (fun _=>.inl rfl) _) (by rw [HE.out,HV.out]))
    · have e2:((u:Int) % 2==1)=false:=by simp;omega
      have HV:Hid (unzz u=(u:Int) / 2):=by rw [Hid,unzz,if_neg h2];omega
      clear h2
      go_wp2
      exact bodyPost_ret (v:=.agg #[.int .i64 2,.int .i64 ((u:Int) / 2),.slice none 0 0]) (by simp [results,Tryz.results189,go_sem,cA0,cA1,cA2]) rfl (ref_good hg HL.out HK1.out HR1.out HJ.out (Sl.nilS _) (fun i h=>absurd h At.none) ((Kept.refl (Fresh2 w.heap.size) w1).setCell (p:=⟨w.heap.size+1,1,none⟩) (fun _=>.inr rfl) _) (by omega) ((((Kept.refl (Fresh2 w.heap.size) _).setCell (p:=⟨w.heap.size,0,none⟩) (fun _=>.inl rfl) _).setCell (p:=⟨w.heap.size,1,none⟩) (fun _=>.inl rfl) _).setCell (p:=⟨w.heap.size,2,none⟩) (fun _=>.inl rfl) _) (by rw [HE.out,HV.out]))
theorem readS_b {k:Int} (k1:(k==1)=false) (k2:(k==2)=false) (st:RS):readS st k=((bytesS st).1,0,(bytesS st).2):=by
  have h1:k≠1:=by simpa using k1
  have h2:k≠2:=by simpa using k2
  unfold readS
  rw [if_neg h1,if_neg h2]
theorem step_app0 {P:Program} {ops:Array Oper} {o:Oper} {a:Act} {w:World} {K:Act→World→Prop} {Q:Exit→Act→World→Prop} {E:Prop}
    (h23:P.underlying 35=some (.slice 5)) (h5:(P.info? 5).map (fun i=>(i.zero,i.size,i.bytes))=some (some (.int .u8 0),1,1))
    (hg:o.guard=Option.none) (s x:Operand) (hop:o.op=Op.call { callee:=Callee.builtin Builtin.append,args:=#[s,x],argTypes:=#[35,35] })
    (hs:a.eval s=.slice none 0 0) (ad:Addr) (m c:Nat) (ys:List Int) (hx:a.eval x=.slice (some ad) m c) (hm:ys.length=m) (hy:Bytes w (some ad) ys) (hlen:ys.length≤140737488351232)
    (hK:∀ a' c' w',Hid (OwnS w' w.heap.size a' c' ys)→Hid (Kept No w w')→K (a.put o.dst (.slice a' m c')) w') :
    if Region.wanted o (yielded ops a.tmps)=true then Oper.wp P o a w K Q else E:=by
  have hw:Region.wanted o (yielded ops a.tmps)=true:=by simp [Region.wanted,hg]
  rw [if_pos hw]
  subst hm
  obtain ⟨i0,hi,hz0,hz1,hz2⟩:=info_parts h5
  obtain ⟨v',w',hrun,r1,r2,_⟩:=run_append_own (P:=P) w w.heap.size 35 o.type 5 i0 (.int .u8 0) 1 1 h23 hi hz0 hz1 hz2 rfl (by decide) (.slice none 0 0) 0 [] (World.ownsRow_nil w _ 5 1) ad ys.length c (ys.map (Value.int .u8)) (by simp) (by
      intro j u hu
      obtain ⟨ad',e,hc⟩:=hy.src (by have:=(List.getElem?_eq_some_iff.1 hu).1;omega)
      cases e
      exact hc j u hu) (u8_one ys) (by unfold maxLen;omega) (by omega) (Nat.le_refl _)
  have hv:∃ a' c',v'=.slice a' ys.length c':=by
    rcases r1.2 with ⟨e,h0⟩ | ⟨g,cap',cur,e,_⟩
    · exact ⟨_,_,by rw [show ys.length=0 from by simpa using h0];exact e⟩
    · exact ⟨some ⟨g,0,none⟩,cap',by rw [e,Nat.zero_add]⟩
  obtain ⟨a',c',rfl⟩:=hv
  have ho':OwnS w' w.heap.size a' c' ys:=by
    unfold OwnS
    simpa using r1
  unfold Oper.wp
  simp [execOp,hop,resolve,invoke,builtin,hs,hx,hrun,Result.andThen]
  exact hK a' c' w' ho' ((Kept.refl _ _).grown r2 (fun k e _=>by simp [Value.ownBlock] at e))
theorem Bytes.cut {w:World} {b off:Nat} {bs:List Int} (h:Bytes w (some ⟨b,off,none⟩) bs) (f u:Nat) (hfu:f+u≤bs.length):Bytes w (some ⟨b,off+f,none⟩) ((bs.drop f).take u):=by
  intro i hi
  simp only[List.length_take,List.length_drop] at hi
  obtain ⟨b',o',e,hc⟩:=h (f+i) (by omega)
  cases e
  refine ⟨b,off+f,rfl,?_⟩
  rw [List.getElem?_take_of_lt (by omega),List.getElem?_drop,Nat.add_assoc]
  exact hc
theorem good_cells {w1 w2:World} {B g q:Nat} {k:Int} {ba:Option Addr} {bc:Nat} {bs:List Int} {at_:Nat} (hA:w1.heap[B]?=some (.cells #[.int .i64 0,.int .i64 0,.slice none 0 0] 182 (0,0))) (hB:w1.heap[B+1]?=some (.cells #[.int .i64 k,.int .i64 0,.slice none 0 0] 182 (0,0))) (hR:Rr w1 g ba bc bs at_ 0 0) (hs:B+1 < w1.heap.size) (hK:Kept No (w1.drewN q) w2) :
    w2.cell? ⟨B,0,none⟩=some (.int .i64 0)∧w2.cell? ⟨B,1,none⟩=some (.int .i64 0)∧w2.cell? ⟨B,2,none⟩=some (.slice none 0 0)∧w2.cell? ⟨B+1,0,none⟩=some (.int .i64 k)∧w2.cell? ⟨B+1,1,none⟩=some (.int .i64 0)∧w2.cell? ⟨B+1,2,none⟩=some (.slice none 0 0)∧w2.cell? ⟨g,1,none⟩=some (.int .i64 (at_:Int)) ∧
    w2.frozen? ⟨B,0,none⟩=false∧w2.frozen? ⟨B,1,none⟩=false∧w2.frozen? ⟨B,2,none⟩=false∧w2.frozen? ⟨B+1,2,none⟩=false∧w2.frozen? ⟨g,1,none⟩=false:=by
  have hK':Kept No w1 w2:=((Kept.refl No w1).drewN q).then hK
  have a:=(hK'.block B (by omega) (fun e=>e)).trans hA
  have b:=(hK'.block (B+1) (by omega) (fun e=>e)).trans hB
  have r:=(hR.no hK').cell
  refine ⟨?_,?_,?_,?_,?_,?_,?_,frozen_of_row w2 _ 0 _ 182 a,frozen_of_row w2 _ 1 _ 182 a,frozen_of_row w2 _ 2 _ 182 a,frozen_of_row w2 _ 2 _ 182 b,frozen_of_row w2 g 1 _ 172 r⟩
  · rw [cell_of_row w2 _ 0 _ 182 (0,0) a];rfl
  · rw [cell_of_row w2 _ 1 _ 182 (0,0) a];rfl
  · rw [cell_of_row w2 _ 2 _ 182 (0,0) a];rfl
  · rw [cell_of_row w2 _ 0 _ 182 (0,0) b];rfl
  · rw [cell_of_row w2 _ 1 _ 182 (0,0) b];rfl
  · rw [cell_of_row w2 _ 2 _ 182 (0,0) b];rfl
  · rw [cell_of_row w2 g 1 _ 172 (0,0) r];rfl
set_option maxRecDepth 100000 in
set_option maxHeartbeats 2000000 in
theorem ref_3 (g:Nat) (ba:Option Addr) (bc:Nat) (bs:List Int) (zs:List Int) (at_:Nat) (k:Int) (w:World) (k1:(k==1)=false) (k2:(k==2)=false) (h:Rf w g ba bc bs (.ok zs at_)) :
    Calls Tryz.prog 189 #[.pointer (some ⟨g,0,none⟩),.int .i64 k] w (RefPost w g ba bc bs (.ok zs at_) k):=by
  have HR:Hid (Rr w g ba bc bs at_ 0 0):=h.1
  have HZ:Hid (zs=bs.drop at_):=h.2
  have HL:Hid (0 < bs.length→∀ i,At ba i→i < w.heap.size):=fun h0 i hi=>h.at_lt h0 hi
  have c2:w.cell? ⟨g,2,none⟩=some (.int .i64 0):=by rw [cell_of_row w g 2 _ 172 (0,0) h.1.cell];rfl
  have hbd:=h.1.sl.bd
  have hg:=h.lt
  clear h
  go_enter Tryz.func189,Tryz.ntmps189
  go_wp2_with fail
  refine (refvar_any g ba bc bs at_ 0 0 false _ (HR.out.no (((Kept.refl _ _).alloc _).alloc _))).mono ?_
  intro e w1 hpost
  rw [rv_false,← HZ.out] at hpost
  cases hv:nr zs with
  | error c=>
    rw [hv] at hpost
    obtain ⟨rfl,hr,hk⟩:=hpost
    obtain ⟨hA,hB⟩:=read_blocks hg hk
    have cA0:w1.cell? ⟨w.heap.size,0,none⟩=some (.int .i64 0):=by rw [cell_of_row w1 _ 0 _ 182 (0,0) hA];rfl
    have cA1:w1.cell? ⟨w.heap.size,1,none⟩=some (.int .i64 0):=by rw [cell_of_row w1 _ 1 _ 182 (0,0) hA];rfl
    have cA2:w1.cell? ⟨w.heap.size,2,none⟩=some (.slice none 0 0):=by rw [cell_of_row w1 _ 2 _ 182 (0,0) hA];rfl
    have cB0:w1.cell? ⟨w.heap.size+1,0,none⟩=some (.int .i64 k):=by rw [cell_of_row w1 _ 0 _ 182 (0,0) hB];rfl
    have cB1:w1.cell? ⟨w.heap.size+1,1,none⟩=some (.int .i64 0):=by rw [cell_of_row w1 _ 1 _ 182 (0,0) hB];rfl
    have cB2:w1.cell? ⟨w.heap.size+1,2,none⟩=some (.slice none 0 0):=by rw [cell_of_row w1 _ 2 _ 182 (0,0) hB];rfl
    have fA0:=frozen_of_row w1 _ 0 _ 182 hA
    have fA1:=frozen_of_row w1 _ 1 _ 182 hA
    have fA2:=frozen_of_row w1 _ 2 _ 182 hA
    have fB0:=frozen_of_row w1 _ 0 _ 182 hB
    have fB1:=frozen_of_row w1 _ 1 _ 182 hB
    have fB2:=frozen_of_row w1 _ 2 _ 182 hB
    have HF:Hid (Rf w1 g ba bc bs (.bad at_ c)):=⟨by have:=nr_code hv;omega,at_,hr⟩
    have HK1:Hid (Kept (Only g) w w1):=(((Kept.refl No w).alloc _).alloc _).of_no.then hk
    have HE:Hid (readS (.ok zs at_) k=(.bad at_ c,0,[])):=by rw [Hid,readS_b k1 k2];simp only[bytesS,cr,hv]
    clear hA hB hr hk hv
    go_wp2
    exact bodyPost_ret (v:=.agg #[.int .i64 k,.int .i64 0,.slice none 0 0]) (by simp [results,Tryz.results189,go_sem,cA0,cA1,cA2]) rfl (ref_end hg HL.out HK1.out HF.out (Sl.nilS _) (fun i h=>absurd h At.none) ((((Kept.refl (Fresh2 w.heap.size) w1).setCell (p:=⟨w.heap.size,0,none⟩) (fun _=>.inl rfl) _).setCell (p:=⟨w.heap.size,1,none⟩) (fun _=>.inl rfl) _).setCell (p:=⟨w.heap.size,2,none⟩) (fun _=>.inl rfl) _) HE.out)
  | ok x=>
    obtain ⟨u,j⟩:=x
    rw [hv] at hpost
    obtain ⟨rfl,n,hw⟩:=hpost
    have hk:Kept No ((w.alloc (Obj.cells #[.int .i64 0,.int .i64 0,.slice none 0 0] 182)).alloc (Obj.cells #[.int .i64 k,.int .i64 0,.slice none 0 0] 182)) w1:=by rw [hw];exact (Kept.refl _ _).drewN n
    clear hw
    obtain ⟨hA,hB⟩:=read_blocks hg (hk.of_no (S:=Only g))
    have cA0:w1.cell? ⟨w.heap.size,0,none⟩=some (.int .i64 0):=by rw [cell_of_row w1 _ 0 _ 182 (0,0) hA];rfl
    have cA1:w1.cell? ⟨w.heap.size,1,none⟩=some (.int .i64 0):=by rw [cell_of_row w1 _ 1 _ 182 (0,0) hA];rfl
    have cA2:w1.cell? ⟨w.heap.size,2,none⟩=some (.slice none 0 0):=by rw [cell_of_row w1 _ 2 _ 182 (0,0) hA];rfl
    have cB0:w1.cell? ⟨w.heap.size+1,0,none⟩=some (.int .i64 k):=by rw [cell_of_row w1 _ 0 _ 182 (0,0) hB];rfl
    have cB1:w1.cell? ⟨w.heap.size+1,1,none⟩=some (.int .i64 0):=by rw [cell_of_row w1 _ 1 _ 182 (0,0) hB];rfl
    have cB2:w1.cell? ⟨w.heap.size+1,2,none⟩=some (.slice none 0 0):=by rw [cell_of_row w1 _ 2 _ 182 (0,0) hB];rfl
    have fA0:=frozen_of_row w1 _ 0 _ 182 hA
    have fA1:=frozen_of_row w1 _ 1 _ 182 hA
    have fA2:=frozen_of_row w1 _ 2 _ 182 hA
    have fB0:=frozen_of_row w1 _ 0 _ 182 hB
    have fB1:=frozen_of_row w1 _ 1 _ 182 hB
    have fB2:=frozen_of_row w1 _ 2 _ 182 hB
    have hr:Rr w1 g ba bc bs at_ 0 0:=HR.out.no ((((Kept.refl No w).alloc _).alloc _).then hk)
    have d1:w1.cell? ⟨g,1,none⟩=some (.int .i64 (at_:Int)):=by rw [cell_of_row w1 g 1 _ 172 (0,0) hr.cell];rfl
    have f1:=frozen_of_row w1 g 1 _ 172 hr.cell
    have HR1:Hid (Rr w1 g ba bc bs at_ 0 0):=hr
    have HK1:Hid (Kept No w w1):=(((Kept.refl No w).alloc _).alloc _).then hk
    have d0:w1.cell? ⟨g,0,none⟩=some (.slice ba bs.length bc):=by rw [cell_of_row w1 g 0 _ 172 (0,0) hr.cell];rfl
    obtain ⟨hu,hj1,hj2,hj3,_⟩:=nr_bd hv
    have HJ:Hid (at_+j≤bs.length):=by have h1:=HR1.out.le;rw [HZ.out,List.length_drop] at hj3;unfold Hid;omega
    have hJ:(at_:Int)+(j:Int)≤(bs.length:Int):=by have:=HJ.out;omega
    have hj0:((j:Int)==0)=false:=by simp;omega
    have hu':(u:Int)≤9223372036854775807:=by omega
    clear hj2 hj3 hu
    have HA:Hid _:=hA
    have HB:Hid _:=hB
    have HKs:Hid (w.heap.size+1 < w1.heap.size):=by have:=hk.size;rw [World.heap_size_alloc1,World.heap_size_alloc1] at this;unfold Hid;omega
    have HP:Hid (0 < bs.length):=by have:=HJ.out;unfold Hid;omega
    clear hA hB hr hk hj1
    by_cases hcut:bs.length - at_ - j < u
    · have HE:Hid (readS (.ok zs at_) k=(.bad at_ 10,0,[])):=by
        rw [Hid,readS_b k1 k2]
        simp only[bytesS,cr,hv]
        rw [if_pos (by rw [HZ.out,List.length_drop];exact hcut)]
      have hc:(bs.length:Int) - (at_:Int) - (j:Int) < (u:Int):=by omega
      clear hv hcut
      go_wp2
      go_quiet (fail)
      go_wp2_with fail
      refine (fail_any g ba bc bs at_ 0 0 10 at_ _ (HR1.out.no ((Kept.refl No w1).drewN _))).mono ?_
      rintro e' w2 ⟨rfl,hr,hk1⟩
      have hh:∀ i,i=w.heap.size∨i=w.heap.size+1→w2.heap[i]?=w1.heap[i]?:=fun i hi=>(((Kept.refl No w1).drewN _).of_no.then hk1).block i (by have:=HKs.out;omega) (fun e=>by have e':i=g:=e;omega)
      have hA2:=(hh _ (.inl rfl)).trans HA.out
      have hB2:=(hh _ (.inr rfl)).trans HB.out
      have HF:Hid (Rf w2 g ba bc bs (.bad at_ 10)):=⟨by omega,at_,hr⟩
      have HK2:Hid (Kept (Only g) w w2):=HK1.out.of_no.then (((Kept.refl No w1).drewN _).of_no.then hk1)
      clear cA0 cA1 cA2 cB0 cB1 cB2 fA0 fA1 fA2 fB0 fB1 fB2 d0 d1 f1
      have cA0:w2.cell? ⟨w.heap.size,0,none⟩=some (.int .i64 0):=by rw [cell_of_row w2 _ 0 _ 182 (0,0) hA2];rfl
      have cA1:w2.cell? ⟨w.heap.size,1,none⟩=some (.int .i64 0):=by rw [cell_of_row w2 _ 1 _ 182 (0,0) hA2];rfl
      have cA2:w2.cell? ⟨w.heap.size,2,none⟩=some (.slice none 0 0):=by rw [cell_of_row w2 _ 2 _ 182 (0,0) hA2];rfl
      have cB0:w2.cell? ⟨w.heap.size+1,0,none⟩=some (.int .i64 k):=by rw [cell_of_row w2 _ 0 _ 182 (0,0) hB2];rfl
      have cB1:w2.cell? ⟨w.heap.size+1,1,none⟩=some (.int .i64 0):=by rw [cell_of_row w2 _ 1 _ 182 (0,0) hB2];rfl
      have cB2:w2.cell? ⟨w.heap.size+1,2,none⟩=some (.slice none 0 0):=by rw [cell_of_row w2 _ 2 _ 182 (0,0) hB2];rfl
      have fA0:=frozen_of_row w2 _ 0 _ 182 hA2
      have fA1:=frozen_of_row w2 _ 1 _ 182 hA2
      have fA2:=frozen_of_row w2 _ 2 _ 182 hA2
      have fB0:=frozen_of_row w2 _ 0 _ 182 hB2
      have fB1:=frozen_of_row w2 _ 1 _ 182 hB2
      have fB2:=frozen_of_row w2 _ 2 _ 182 hB2
      clear hr hk1 hh hA2 hB2
      go_wp2
      exact bodyPost_ret (v:=.agg #[.int .i64 k,.int .i64 0,.slice none 0 0]) (by simp [results,Tryz.results189,go_sem,cA0,cA1,cA2]) rfl (ref_end hg HL.out HK2.out HF.out (Sl.nilS _) (fun i h=>absurd h At.none) ((((Kept.refl (Fresh2 w.heap.size) _).setCell (p:=⟨w.heap.size,0,none⟩) (fun _=>.inl rfl) _).setCell (p:=⟨w.heap.size,1,none⟩) (fun _=>.inl rfl) _).setCell (p:=⟨w.heap.size,2,none⟩) (fun _=>.inl rfl) _) HE.out)
    · have HE:Hid (readS (.ok zs at_) k=(.ok (bs.drop (at_+(j+u))) (at_+(j+u)),0,(bs.drop (at_+j)).take u)):=by
        rw [Hid,readS_b k1 k2]
        simp only[bytesS,cr,hv]
        rw [if_neg (by rw [HZ.out,List.length_drop];exact hcut)]
        simp only[HZ.out,List.drop_drop]
      have hc:¬ (bs.length:Int) - (at_:Int) - (j:Int) < (u:Int):=by omega
      clear hv hcut
      go_wp2
      go_quiet (fail)
      obtain ⟨b,off,rfl,_⟩:=HR1.out.sl.bytes 0 HP.out
      have hble:bs.length≤bc:=HR1.out.sl.le
      have p1:(at_:Int)+(j:Int)+(u:Int)≤(bc:Int):=by omega
      have p2:((at_:Int)+(j:Int)).toNat=at_+j:=by omega
      have p3:((at_:Int)+(j:Int)+(u:Int)).toNat=at_+j+u:=by omega
      have HLn:Hid (((bs.drop (at_+j)).take u).length=u):=by unfold Hid;simp only[List.length_take,List.length_drop];omega
      have r1:IntKind.i64.wrap (u:Int)=(u:Int):=by rw [IntKind.wrap_i64];omega
      have r2:IntKind.i64.wrap ((at_:Int)+(j:Int)+(u:Int))=(at_:Int)+(j:Int)+(u:Int):=by rw [IntKind.wrap_i64];omega
      have r3:(0:Int)≤(at_:Int)+(j:Int)+(u:Int):=by omega
      have r4:(0:Int)≤(at_:Int)+(j:Int):=by omega
      have r5:(at_:Int)+(j:Int)≤max ((at_:Int)+(j:Int)+(u:Int)) 0:=by omega
      have r7:(at_:Int)+(j:Int)≤(at_:Int)+(j:Int)+(u:Int):=by omega
      have r6:at_+j+u - (at_+j)=u:=by omega
      have HU8:Hid (U8 ((bs.drop (at_+j)).take u)):=(HR1.out.sl.u8.drop _).take u
      have HJu:Hid (at_+(j+u)≤bs.length):=by unfold Hid;omega
      by_cases hbe:bc=at_+j
      · have HBy:Hid (∀ q,Bytes (w1.drewN q) (some ⟨b,off,none⟩) ((bs.drop (at_+j)).take u)):=by
          have u0:u=0:=by have h1:=HR1.out.sl.le;omega
          intro q i hi
          rw [u0] at hi
          simp at hi
        have r8:(at_:Int)+(j:Int)+(u:Int)≤(at_:Int)+(j:Int):=by have h1:=HR1.out.sl.le;omega
        clear hble
        go_wp2
        go_region_law (refine step_app0 Tryz.underlying35 Tryz.info5 rfl (.tmp 59) (.tmp 69) rfl (by simp [Act.eval,Act.put]) ⟨b,off,none⟩ u 0 ((bs.drop (at_+j)).take u) (by simp [Act.eval,Act.put]) HLn.out (HBy.out _) (by rw [HLn.out];omega) ?_;intro a2 c2 w2 HO2 HK2;have HC2:Hid _:=good_cells HA.out HB.out HR1.out HKs.out HK2.out;have cA0':=HC2.out.1;have cA1':=HC2.out.2.1;have cA2':=HC2.out.2.2.1;have cB0':=HC2.out.2.2.2.1;have cB1':=HC2.out.2.2.2.2.1;have cB2':=HC2.out.2.2.2.2.2.1;have d1':=HC2.out.2.2.2.2.2.2.1;have fA0':=HC2.out.2.2.2.2.2.2.2.1;have fA1':=HC2.out.2.2.2.2.2.2.2.2.1;have fA2':=HC2.out.2.2.2.2.2.2.2.2.2.1;have fB2':=HC2.out.2.2.2.2.2.2.2.2.2.2.1;have f1':=HC2.out.2.2.2.2.2.2.2.2.2.2.2)
        all_goals (try go_wp2)
        all_goals exact bodyPost_ret (v:=.agg #[.int .i64 k,.int .i64 0,.slice a2 u c2]) (by simp [results,Tryz.results189,go_sem,cA0',cA1',cA2']) rfl (ref_good (j:=j+u) hg HL.out (HK1.out.then (((Kept.refl No w1).drewN _).then HK2.out)) (HR1.out.no (((Kept.refl No w1).drewN _).then HK2.out)) HJu.out (HO2.out.sl HLn.out HU8.out (by omega)) (fun i hi=>by have h1:=HO2.out.base hi;have h2:=HKs.out;have h3:(w1.drewN 0).heap.size=w1.heap.size:=rfl;simp only[World.drewN] at h1;omega) ((Kept.refl (Fresh2 w.heap.size) w2).setCell (p:=⟨w.heap.size+1,2,none⟩) (fun _=>.inr rfl) _) (by omega) ((((Kept.refl (Fresh2 w.heap.size) _).setCell (p:=⟨w.heap.size,0,none⟩) (fun _=>.inl rfl) _).setCell (p:=⟨w.heap.size,1,none⟩) (fun _=>.inl rfl) _).setCell (p:=⟨w.heap.size,2,none⟩) (fun _=>.inl rfl) _) HE.out)
      · have HBy:Hid (∀ q,Bytes (w1.drewN q) (some ⟨b,off+(at_+j),none⟩) ((bs.drop (at_+j)).take u)):=fun q=>(HR1.out.sl.bytes.no ((Kept.refl No w1).drewN q)).cut _ _ (by omega)
        clear hble
        go_wp2
        go_region_law (refine step_app0 Tryz.underlying35 Tryz.info5 rfl (.tmp 59) (.tmp 69) rfl (by simp [Act.eval,Act.put]) ⟨b,off+(at_+j),none⟩ u (bc - (at_+j)) ((bs.drop (at_+j)).take u) (by simp [Act.eval,Act.put]) HLn.out (HBy.out _) (by rw [HLn.out];omega) ?_;intro a2 c2 w2 HO2 HK2;have HC2:Hid _:=good_cells HA.out HB.out HR1.out HKs.out HK2.out;have cA0':=HC2.out.1;have cA1':=HC2.out.2.1;have cA2':=HC2.out.2.2.1;have cB0':=HC2.out.2.2.2.1;have cB1':=HC2.out.2.2.2.2.1;have cB2':=HC2.out.2.2.2.2.2.1;have d1':=HC2.out.2.2.2.2.2.2.1;have fA0':=HC2.out.2.2.2.2.2.2.2.1;have fA1':=HC2.out.2.2.2.2.2.2.2.2.1;have fA2':=HC2.out.2.2.2.2.2.2.2.2.2.1;have fB2':=HC2.out.2.2.2.2.2.2.2.2.2.2.1;have f1':=HC2.out.2.2.2.2.2.2.2.2.2.2.2)
        all_goals (try go_wp2)
        all_goals exact bodyPost_ret (v:=.agg #[.int .i64 k,.int .i64 0,.slice a2 u c2]) (by simp [results,Tryz.results189,go_sem,cA0',cA1',cA2']) rfl (ref_good (j:=j+u) hg HL.out (HK1.out.then (((Kept.refl No w1).drewN _).then HK2.out)) (HR1.out.no (((Kept.refl No w1).drewN _).then HK2.out)) HJu.out (HO2.out.sl HLn.out HU8.out (by omega)) (fun i hi=>by have h1:=HO2.out.base hi;have h2:=HKs.out;have h3:(w1.drewN 0).heap.size=w1.heap.size:=rfl;simp only[World.drewN] at h1;omega) ((Kept.refl (Fresh2 w.heap.size) w2).setCell (p:=⟨w.heap.size+1,2,none⟩) (fun _=>.inr rfl) _) (by omega) ((((Kept.refl (Fresh2 w.heap.size) _).setCell (p:=⟨w.heap.size,0,none⟩) (fun _=>.inl rfl) _).setCell (p:=⟨w.heap.size,1,none⟩) (fun _=>.inl rfl) _).setCell (p:=⟨w.heap.size,2,none⟩) (fun _=>.inl rfl) _) HE.out)
end Go.Proofs.YtgdnofacgfjaeaaGreat.Wi
