import Derived.Test.YtgdnofacgfjaeabGreatWiY
import Derived.Laws.IdiomStrings
import Derived.StillTailTactics
import Derived.Test.YtgdnofacgfjaeabGreatPa
import Derived.Test.YtgdnofacgfjaeabGreatHb
namespace Go.Proofs.YtgdnofacgfjaeabGreat.Wi
open Go.RowKit
set_option linter.unusedVariables false
theorem Ws.wr {w:World} {base g:Nat} {a:Option Addr} {c:Nat} {st:Option (List Int)} (h:Ws w base g a c st):∃ zs bad,Wr w base g a c zs bad:=by
  cases st with
  | some zs=>exact ⟨zs,false,h⟩
  | none=>exact ⟨[],true,h.1⟩
def putNum (st:Option (List Int)) (n:Int):Option (List Int):=if n < 0 then none else st.map (·++vint n.toNat)
theorem num_neg_end {w:World} {base g:Nat} {a:Option Addr} {v0 v1:Value} {st:Option (List Int)} {n:Int} (hn:n < 0) (HG:w.heap[g]?=some (.cells #[v0,v1] 128 (0,0))) (HB:base≤g) :
    Puts w base g a (putNum st n) (Ending.returned (Value.tuple #[])) ((w.setCell ⟨g,0,none⟩ (Value.slice none 0 0)).setCell ⟨g,1,none⟩ (Value.bool true)):=by
  have h1:=heap_setCell_same w g 0 _ 128 (Value.slice none 0 0) HG
  have h2:=heap_setCell_same _ g 1 _ 128 (Value.bool true) h1
  have e:putNum st n=none:=by unfold putNum;rw [if_pos hn]
  rw [e]
  refine ⟨rfl,none,0,⟨⟨by rw [h2];rfl,OwnS.nil _ _,HB⟩,rfl⟩,?_,fun k h=>absurd h At.none⟩
  exact ((Kept.refl _ _).setCell (p:=⟨g,0,none⟩) (fun _=>.inl rfl) _).setCell (p:=⟨g,1,none⟩) (fun _=>.inl rfl) _
set_option maxRecDepth 1000000 in
set_option maxHeartbeats 400000 in
theorem num_all (base g:Nat) (a:Option Addr) (c:Nat) (st:Option (List Int)) (n:Int) (w:World) (h:Ws w base g a c st) (h1:n≤9223372036854775807) (hlen:stLen st+10≤140737488355328) (hbase:base≤w.heap.size) :
    Calls Tryz.prog 98 #[.pointer (some ⟨g,0,none⟩),.int .i64 n] w (Puts w base g a (putNum st n)):=by
  by_cases hn:n < 0
  · obtain ⟨zs,bad,hw⟩:=h.wr
    have HG:Hid (w.heap[g]?=some (.cells #[.slice a zs.length c,.bool bad] 128 (0,0))):=hw.cell
    have HB:Hid (base≤g):=hw.bg
    have hf0:=frozen_of_row w g 0 _ 128 HG.out
    have hf1:=frozen_of_row w g 1 _ 128 HG.out
    have c0:w.cell? ⟨g,0,none⟩=some (.slice a zs.length c):=by rw [cell_of_row w g 0 _ 128 (0,0) HG.out];rfl
    have c1:w.cell? ⟨g,1,none⟩=some (.bool bad):=by rw [cell_of_row w g 1 _ 128 (0,0) HG.out];rfl
    clear h hw
    go_enter Tryz.func98,Tryz.ntmps98
    go_wp2
    go_end0
    exact num_neg_end hn HG.out HB.out
  · obtain ⟨m,rfl⟩:=Int.eq_ofNat_of_zero_le (by omega:0≤n)
    have HW:Hid (Ws w base g a c st):=h
    have HP:Hid (putNum st (m:Int)=st.map (·++vint m)):=by unfold Hid putNum;rw [if_neg hn];simp
    clear h
    go_enter Tryz.func98,Tryz.ntmps98
    go_wp2_with fail
    refine (varint_all base g a c st m w HW.out (by unfold W64;omega) hlen hbase).mono ?_
    rintro e w1 ⟨rfl,hr⟩
    have HR:Hid _:=hr
    clear hr
    go_wp2
    go_end0
    rw [HP.out]
    exact ⟨rfl,HR.out⟩
theorem stLen_map (st:Option (List Int)) (ys:List Int):stLen (st.map (·++ys))≤stLen st+ys.length:=by
  cases st <;> simp [stLen]
def putBytes (st:Option (List Int)) (ys:List Int):Option (List Int):=st.map (·++(vint ys.length++ys))
set_option maxRecDepth 1000000 in
set_option maxHeartbeats 400000 in
theorem bytes_all (base g:Nat) (a:Option Addr) (c:Nat) (st:Option (List Int)) (xa:Option Addr) (xn xc:Nat) (ys:List Int) (w:World) (h:Ws w base g a c st) (hxn:ys.length=xn) (hy:Bytes w xa ys) (hxc:xa=none→xc=0)
    (hd:∀ k,At xa k→¬ WrAt g a k) (hx:xn≤140737488355328) (hlen:stLen st+10+xn≤140737488355328) (hbase:base≤w.heap.size) :
    Calls Tryz.prog 77 #[.pointer (some ⟨g,0,none⟩),.slice xa xn xc] w (Puts w base g a (putBytes st ys)):=by
  have HW:Hid (Ws w base g a c st):=h
  have HY:Hid (Bytes w xa ys):=hy
  have HC:Hid (xa=none→xc=0):=hxc
  have HL:Hid (ys.length=xn):=hxn
  have HD:Hid (∀ k,At xa k→¬ WrAt g a k):=hd
  clear h hy hxc hxn hd
  go_enter Tryz.func77,Tryz.ntmps77
  go_wp2_with fail
  refine (num_all base g a c st (xn:Int) w HW.out (by omega) (by omega) hbase).mono ?_
  rintro e w1 ⟨rfl,a1,c1,hw1,hk1,hm1⟩
  have HW1:Hid (Ws w1 base g a1 c1 (st.map (·++vint xn))):=by
    have e:putNum st (xn:Int)=st.map (·++vint xn):=by unfold putNum;rw [if_neg (by omega)];simp
    rw [e] at hw1;exact hw1
  have HK1:Hid (Kept (WrAt g a) w w1):=hk1
  have HM1:Hid (Moved w a a1):=hm1
  have HY1:Hid (Bytes w1 xa ys):=HY.out.kept hk1 (fun b off e=>HD.out b ⟨_,e,rfl⟩)
  have HS:Hid (stLen (st.map (·++vint xn))≤stLen st+10):=Nat.le_trans (stLen_map st (vint xn)) (by have:=vint_len10 xn (by omega);omega)
  clear hw1 hk1 hm1 HY HW
  go_wp2_with fail
  refine (join_all base g a1 c1 (st.map (·++vint xn)) xa xn xc ys w1 HW1.out HL.out HY1.out HC.out (by have:=HS.out;omega) (by have:=HK1.out.size;omega)).mono ?_
  rintro e w2 ⟨rfl,a2,c2,hw2,hk2,hm2⟩
  have HF:Hid (∃ a' c',Ws w2 base g a' c' (putBytes st ys)∧Kept (WrAt g a) w w2∧Moved w a a'):=
    ⟨a2,c2,by
      have e:putBytes st ys=(st.map (·++vint xn)).map (·++ys):=by unfold putBytes;rw [HL.out];cases st <;> simp
      rw [e];exact hw2,HK1.out.moved hk2 HM1.out,HM1.out.trans hm2 HK1.out.size⟩
  clear hw2 hk2 hm2
  go_wp2
  go_end0
  exact ⟨rfl,HF.out⟩
def strOf (ys:List Int):ByteArray:=⟨(ys.map (fun n=>UInt8.ofNat n.toNat)).toArray⟩
def numsOf (s:ByteArray):List Int:=s.data.toList.map (fun b=>(b.toNat:Int))
theorem numsOf_len (s:ByteArray):(numsOf s).length=s.size:=by unfold numsOf;rw [List.length_map,Array.length_toList];rfl
theorem numsOf_strOf {ys:List Int} (h:U8 ys):numsOf (strOf ys)=ys:=by
  apply List.ext_getElem
  · simp [numsOf,strOf]
  · intro i h1 h2
    have:=h i
    rw [List.getElem?_eq_getElem h2] at this
    simp only[Option.getD_some] at this
    simp [numsOf,strOf]
    omega
theorem numsOf_u8 (s:ByteArray):U8 (numsOf s):=by
  intro i
  by_cases h:i < (numsOf s).length
  · rw [List.getElem?_eq_getElem h]
    simp only[Option.getD_some,numsOf,List.getElem_map]
    have:=UInt8.toNat_lt (s.data.toList[i]'(by simpa [numsOf] using h))
    omega
  · rw [List.getElem?_eq_none (by omega)];simp
theorem run_str {w:World} {xa:Option Addr} {xn xc:Nat} {ys:List Int} (hb:Bytes w xa ys) (h8:U8 ys) (hlen:ys.length=xn) :
    (convert 30 9 (.slice xa xn xc)).run Tryz.prog w=.ok (.string (strOf ys)) w:=by
  subst hlen
  cases xa with
  | none=>
    have:ys=[]:=by
      cases ys with
      | nil=>rfl
      | cons y r=>obtain ⟨b,off,e,_⟩:=hb 0 (by simp);cases e
    subst this
    rw [run_convert_bytes_string w 30 9 5 none _ xc Tryz.underlying30 Tryz.underlying5 Tryz.underlying9]
    rfl
  | some ad=>
    have:=run_convert_bytes_back (P:=Tryz.prog) w 30 9 5 ad xc (ys.map (fun n=>UInt8.ofNat n.toNat)) Tryz.underlying30 Tryz.underlying5 Tryz.underlying9 (fun j hj=>by
      simp only[List.length_map] at hj
      obtain ⟨b,off,e,hc⟩:=hb j hj
      cases e
      have:=h8 j
      rw [List.getElem?_eq_getElem hj] at this hc
      simp only[Option.getD_some] at this hc
      rw [addr_add,hc]
      simp
      omega)
    rw [List.length_map] at this
    exact this
theorem run_bytes (w:World) (s:ByteArray) :
    ∃ c w',(convert 9 30 (.string s)).run Tryz.prog w=.ok (.slice (some ⟨w.heap.size,0,none⟩) s.size c) w'∧Bytes w' (some ⟨w.heap.size,0,none⟩) (numsOf s)∧Kept No w w':=by
  refine ⟨_,_,run_bytes_of_string w 9 30 5 s Tryz.underlying9 Tryz.underlying30 Tryz.underlying5,?_,((Kept.refl _ _).drew).alloc _⟩
  intro i hi
  refine ⟨_,_,rfl,?_⟩
  rw [Nat.zero_add]
  have:=World.cell?_alloc_mark w.drew (bytesRow s (grownCap w s.size 0 5)) 5 ((bytesRow s (grownCap w s.size 0 5)).size,(bytesRow s (grownCap w s.size 0 5)).size+1) i
  rw [show w.drew.heap.size=w.heap.size from rfl] at this
  rw [this]
  have hi':i < s.data.size:=by simpa [numsOf] using hi
  unfold bytesRow
  rw [Array.getElem?_append_left (by simpa using hi'),List.getElem?_eq_getElem hi]
  rw [Array.getElem?_eq_getElem (by simpa using hi')]
  simp [numsOf]
set_option maxRecDepth 1000000 in
set_option maxHeartbeats 400000 in
theorem text_all (base g:Nat) (a:Option Addr) (c:Nat) (st:Option (List Int)) (s:ByteArray) (w:World) (h:Ws w base g a c st) 
    (hx:s.size≤140737488355328) (hlen:stLen st+10+s.size≤140737488355328) (hbase:base≤w.heap.size) :
    Calls Tryz.prog 96 #[.pointer (some ⟨g,0,none⟩),.string s] w (Puts w base g a (putBytes st (numsOf s))):=by
  have HW:Hid (Ws w base g a c st):=h
  obtain ⟨c1,w1,hcv,hb1,hk1⟩:=run_bytes w s
  have HB1:Hid (Bytes w1 (some ⟨w.heap.size,0,none⟩) (numsOf s)):=hb1
  have HK1:Hid (Kept No w w1):=hk1
  clear h hb1 hk1
  go_enter Tryz.func96,Tryz.ntmps96
  go_wp2_with fail
  refine (bytes_all base g a c st _ _ _ (numsOf s) w1 (HW.out.no HK1.out) (numsOf_len s) HB1.out (fun e=>by cases e) (fun k hk hk2=>by have:=HW.out.lt hk2;obtain ⟨ad,e,rfl⟩:=hk;cases e;simp at this) hx hlen (by have:=HK1.out.size;omega)).mono ?_
  rintro e w2 ⟨rfl,a2,c2,hw2,hk2,hm2⟩
  have HF:Hid (∃ a' c',Ws w2 base g a' c' (putBytes st (numsOf s))∧Kept (WrAt g a) w w2∧Moved w a a'):=
    ⟨a2,c2,hw2,HK1.out.of_no.then hk2,(Moved.refl w a).trans hm2 HK1.out.size⟩
  clear hw2 hk2 hm2
  go_wp2
  go_end0
  exact ⟨rfl,HF.out⟩
theorem OwnS.nil0 {w:World} {base:Nat} {a:Option Addr} {cap:Nat} {zs:List Int} (h:OwnS w base a cap zs) (e:a=none):zs.length=0:=by
  rcases h.cases with ⟨_,_,h3⟩ | ⟨g,h',_⟩
  · rw [h3];rfl
  · rw [e] at h';cases h'
def doneOf:Option (List Int)→List Int × Int
  | some zs=>(zs,0)
  | none=>([],1)
set_option maxRecDepth 1000000 in
set_option maxHeartbeats 400000 in
theorem Done_all (base g:Nat) (a:Option Addr) (c:Nat) (st:Option (List Int)) (w:World) (h:Ws w base g a c st) (hlen:stLen st≤140737488355328) :
    Calls Tryz.prog 72 #[.pointer (some ⟨g,0,none⟩)] w fun e w'=>∃ a' n' c',e=.returned (.tuple #[.slice a' n' c',.int .i64 (doneOf st).2])∧n'=(doneOf st).1.length∧OwnS w' w.heap.size a' c' (doneOf st).1∧Kept No w w':=by
  cases st with
  | none=>
    have c1:w.cell? ⟨g,1,none⟩=some (.bool true):=by rw [cell_of_row w g 1 _ 128 (0,0) h.1.cell];rfl
    clear h
    go_enter Tryz.func72,Tryz.ntmps72
    go_wp2
    go_ret2
    exact ⟨none,0,0,rfl,rfl,OwnS.nil _ _,Kept.refl _ _⟩
  | some zs=>
    have HW:Hid (Wr w base g a c zs false):=h
    have c0:w.cell? ⟨g,0,none⟩=some (.slice a zs.length c):=by rw [cell_of_row w g 0 _ 128 (0,0) HW.out.cell];rfl
    have c1:w.cell? ⟨g,1,none⟩=some (.bool false):=by rw [cell_of_row w g 1 _ 128 (0,0) HW.out.cell];rfl
    clear h
    go_enter Tryz.func72,Tryz.ntmps72
    go_wp2_with fail
    refine (clone_any a zs.length c zs w rfl HW.out.own.bytes (fun e=>⟨HW.out.own.nil0 e,HW.out.own.nilcap e⟩) hlen).mono ?_
    rintro e w2 ⟨a2,c2,rfl,hO,hK,-⟩
    have HO:Hid (OwnS w2 w.heap.size a2 c2 zs):=hO
    have HK:Hid (Kept No w w2):=hK
    clear hO hK
    go_wp2
    go_ret2
    exact ⟨a2,zs.length,c2,rfl,rfl,HO.out,HK.out⟩
theorem own_type {w:World} {base:Nat} {e:TypeId} {size:Nat} {a:Option Addr} {n c:Nat} {xs:List Value} (h:w.ownsRow base e size (.slice a n c) n xs) {k:Nat} (hk:At a k):∃ cur,w.heap[k]?=some (.cells cur e (0,0)):=by
  obtain ⟨ad,rfl,rfl⟩:=hk
  rcases h.2 with ⟨hv,_⟩ | ⟨g,cap',cur,hv,hb,hg,_⟩
  · simp only[Value.slice.injEq] at hv;cases hv.1
  · simp only[Value.slice.injEq,Option.some.injEq] at hv;rw [hv.1];exact ⟨cur,hg⟩
theorem Ws.typ {w:World} {base g:Nat} {a:Option Addr} {c:Nat} {st:Option (List Int)} (h:Ws w base g a c st) {k:Nat} (hk:WrAt g a k):∃ cur t,w.heap[k]?=some (.cells cur t (0,0))∧(t=5∨t=128):=by
  obtain ⟨zs,bad,hw⟩:=h.wr
  rcases hk with rfl | hk
  · exact ⟨_,_,hw.cell,.inr rfl⟩
  · obtain ⟨cur,hc⟩:=own_type hw.own hk
    exact ⟨cur,5,hc,.inl rfl⟩
theorem Ws.apart {w:World} {base g:Nat} {a:Option Addr} {c:Nat} {st:Option (List Int)} (h:Ws w base g a c st) {k:Nat} {t:TypeId} {cs:Array Value} (hb:Box w k t cs) (h5:t≠5) (h8:t≠128):¬ WrAt g a k:=by
  intro hk
  obtain ⟨cur,t',h1,h2⟩:=h.typ hk
  have e:some (Obj.cells cs t (0,0))=some (Obj.cells cur t' (0,0)):=hb.symm.trans h1
  injection e with e
  injection e with _ e2
  rcases h2 with rfl | rfl
  · exact h5 e2
  · exact h8 e2
theorem Puts.then {w w1:World} {base g:Nat} {a a1:Option Addr} {c1:Nat} {st1 st2:Option (List Int)} {e:Ending} {w2:World} (hk:Kept (WrAt g a) w w1) (hm:Moved w a a1) (h:Puts w1 base g a1 st2 e w2):Puts w base g a st2 e w2:=by
  obtain ⟨he,a2,c2,h1,h2,h3⟩:=h
  exact ⟨he,a2,c2,h1,hk.moved h2 hm,hm.trans h3 hk.size⟩
def flagI (b:Bool):Int:=if b then 1 else 0
def numsS (st:Option (List Int)) (ns:List Int):Option (List Int):=ns.foldl putNum st
theorem putNum_len (st:Option (List Int)) {n:Int} (h1:n≤9223372036854775807):stLen (putNum st n)≤stLen st+10:=by
  unfold putNum
  split
  · simp [stLen]
  · cases st with
    | none=>simp [stLen]
    | some zs=>have:=vint_len10 n.toNat (by omega);simp [stLen];omega
theorem numsS_len (ns:List Int):∀ (st:Option (List Int)),(∀ n∈ns,n≤9223372036854775807)→stLen (numsS st ns)≤stLen st+10*ns.length:=by
  induction ns with
  | nil=>intro st _;simp [numsS]
  | cons n r ih=>
    intro st h
    have h1:=putNum_len st (h n (List.mem_cons_self ..))
    have h2:=ih (putNum st n) (fun x hx=>h x (List.mem_cons_of_mem _ hx))
    have:numsS st (n :: r)=numsS (putNum st n) r:=rfl
    rw [this,List.length_cons];omega
theorem numsS_snoc {ns:List Int} {k:Nat} (st:Option (List Int)) (h:k < ns.length):numsS st (ns.take (k+1))=putNum (numsS st (ns.take k)) (ns[k]?.getD 0):=by
  rw [List.take_succ_eq_append_getElem h,numsS,List.foldl_append]
  simp [List.getElem?_eq_getElem h,numsS]
theorem flag_all (base g:Nat) (a:Option Addr) (c:Nat) (st:Option (List Int)) (b:Bool) (w:World) (h:Ws w base g a c st) (hlen:stLen st+10≤140737488355328) (hbase:base≤w.heap.size) :
    Calls Tryz.prog 88 #[.pointer (some ⟨g,0,none⟩),.bool b] w (Puts w base g a (putNum st (flagI b))):=by
  have HN:Hid (∀ n:Int,n≤9223372036854775807→Calls Tryz.prog 98 #[.pointer (some ⟨g,0,none⟩),.int .i64 n] w (Puts w base g a (putNum st n))):=fun n hn=>num_all base g a c st n w h hn hlen hbase
  clear h
  cases b with
  | true=>
    go_enter Tryz.func88,Tryz.ntmps88
    go_wp2_with fail
    refine (HN.out 1 (by omega)).mono ?_
    rintro e w1 ⟨rfl,hr⟩
    have HR:Hid _:=hr
    clear hr
    go_wp2
    go_end0
    exact ⟨rfl,HR.out⟩
  | false=>
    go_enter Tryz.func88,Tryz.ntmps88
    go_wp2_with fail
    refine (HN.out 0 (by omega)).mono ?_
    rintro e w1 ⟨rfl,hr⟩
    have HR:Hid _:=hr
    clear hr
    go_wp2
    go_end0
    exact ⟨rfl,HR.out⟩
def WsE (w wr:World) (base g:Nat) (a:Option Addr) (st:Option (List Int)):Prop:=∃ a' c',Ws wr base g a' c' st∧Kept (WrAt g a) w wr∧Moved w a a'
set_option maxRecDepth 100000 in
set_option maxHeartbeats 1000000 in
theorem nums_all (base g:Nat) (a:Option Addr) (c:Nat) (st:Option (List Int)) (b n cap:Nat) (ns:List Int) (w:World) (h:Ws w base g a c st) (hb:Box w b 3 (ns.map (Value.int .i64)).toArray) (hn:ns.length=n) (hnb:∀ x∈ns,x≤9223372036854775807) (hlen:stLen st+10*n≤140737488355328) (hbase:base≤w.heap.size) :
    Calls Tryz.prog 95 #[.pointer (some ⟨g,0,none⟩),.slice (some ⟨b,0,none⟩) n cap] w (Puts w base g a (numsS st ns)):=by
  have HW:Hid (Ws w base g a c st):=h
  have HB:Hid (Box w b 3 (ns.map (Value.int .i64)).toArray):=hb
  have HN:Hid (ns.length=n∧∀ x∈ns,x≤9223372036854775807):=⟨hn,hnb⟩
  have HL:Hid (stLen st+10*n≤140737488355328∧base≤w.heap.size):=⟨hlen,hbase⟩
  have hni:(n:Int)≤140737488355328:=by omega
  clear h hb hn hnb hlen hbase
  go_enter Tryz.func95,Tryz.ntmps95
  go_wp2
  go_loopw [8] (fun i wr=>∃ k:Nat,k≤n∧i=.int .i64 (k:Int)∧Hid (WsE w wr base g a (numsS st (ns.take k)))) (fun i _=>n - (intOf i).toNat)
  case atStart=>exact ⟨0,Nat.zero_le _,rfl,a,c,HW.out,Kept.refl _ _,Moved.refl _ _⟩
  case round=>
    obtain ⟨k,hk,rfl,HE⟩:=hrel
    by_cases hlt:k < n
    · have hlt':(k:Int) < (n:Int):=by omega
      obtain ⟨a1,c1,hw1,hk1,hm1⟩:=HE.out
      have hbk:Box wr b 3 (ns.map (Value.int .i64)).toArray:=HB.out.kept hk1 (HW.out.apart HB.out (by decide) (by decide))
      have hcell:wr.cell? ⟨b,k,none⟩=some (.int .i64 (ns[k]?.getD 0)):=by
        rw [hbk.cell,List.getElem?_toArray,List.getElem?_map,List.getElem?_eq_getElem (by rw [HN.out.1];exact hlt)];rfl
      have HS:Hid (numsS st (ns.take (k+1))=putNum (numsS st (ns.take k)) (ns[k]?.getD 0)):=numsS_snoc st (by rw [HN.out.1];exact hlt)
      have hx:ns[k]?.getD 0≤9223372036854775807:=HN.out.2 _ (by
        rw [List.getElem?_eq_getElem (by rw [HN.out.1];exact hlt)];exact List.getElem_mem _)
      have hl:stLen (numsS st (ns.take k))+10≤140737488355328:=by
        have h1:=numsS_len (ns.take k) st (fun x hx=>HN.out.2 x (List.mem_of_mem_take hx))
        have h2:=List.length_take_le k ns
        have h3:=HL.out.1
        omega
      have HNu:Hid (Calls Tryz.prog 98 #[.pointer (some ⟨g,0,none⟩),.int .i64 (ns[k]?.getD 0)] wr (Puts wr base g a1 (putNum (numsS st (ns.take k)) (ns[k]?.getD 0)))):=num_all base g a1 c1 _ _ wr hw1 hx hl (by have:=HL.out.2;have:=hk1.size;omega)
      have HK1:Hid (Kept (WrAt g a) w wr∧Moved w a a1):=⟨hk1,hm1⟩
      clear hw1 hk1 hm1 hbk hx hl HE
      generalize ns[k]?.getD 0=z at hcell HS HNu
      go_wp2_with fail
      refine HNu.out.mono ?_
      rintro e w2 ⟨rfl,a2,c2,hw2,hk2,hm2⟩
      have HE2:Hid (WsE w w2 base g a (numsS st (ns.take (k+1)))):=by
        rw [HS.out]
        exact ⟨a2,c2,hw2,HK1.out.1.moved hk2 HK1.out.2,HK1.out.2.trans hm2 HK1.out.1.size⟩
      clear hw2 hk2 hm2 HNu HS HK1
      go_wp2
      go_roundw
      case rel=>exact ⟨k+1,by omega,by go_num,HE2⟩
      case measure=>simp [intOf];omega
    · have hlt':¬ (k:Int) < (n:Int):=by omega
      have HF:Hid (WsE w wr base g a (numsS st ns)):=by
        have:=HE.out
        rw [List.take_of_length_le (by rw [HN.out.1];omega)] at this
        exact this
      go_wp2
      go_end0
      exact ⟨rfl,HF.out⟩
set_option maxRecDepth 100000 in
set_option maxHeartbeats 1000000 in
theorem addr_all (base g:Nat) (a:Option Addr) (c:Nat) (st:Option (List Int)) (cl:Bool) (id:Int) (w:World) (h:Ws w base g a c st) (hid:id≤9223372036854775807) (hlen:stLen st+20≤140737488355328) (hbase:base≤w.heap.size) :
    Calls Tryz.prog 112 #[.pointer (some ⟨g,0,none⟩),.agg #[.bool cl,.int .i64 id]] w (Puts w base g a (putNum (putNum st (flagI cl)) id)):=by
  obtain ⟨w0,hw0⟩:∃ w0,w0=w.alloc (.cells #[.bool cl,.int .i64 id] 66):=⟨_,rfl⟩
  have hk0:Kept No w w0:=by rw [hw0];exact (Kept.refl No w).alloc _
  have HB0:Hid (Box w0 w.heap.size 66 #[.bool cl,.int .i64 id]):=by rw [hw0];exact Box.new _ _ _
  have HW0:Hid (Ws w0 base g a c st):=h.no hk0
  have HK0:Hid (Kept No w w0):=hk0
  have HB:Hid (base≤w0.heap.size):=by have:=hk0.size;show _≤_;omega
  have q0:=HB0.out.cell 0
  have q1:=HB0.out.cell 1
  simp only[List.getElem?_toArray,List.getElem?_cons_zero,List.getElem?_cons_succ] at q0 q1
  rw [hw0] at q0 q1
  clear h hk0
  go_enter Tryz.func112,Tryz.ntmps112
  go_wp2_with fail
  rw [← hw0]
  clear hw0 q0 q1
  refine (flag_all base g a c st cl w0 HW0.out (by omega) HB.out).mono ?_
  rintro e w1 ⟨rfl,a1,c1,hw1,hk1,hm1⟩
  have hB1:Box w1 w.heap.size 66 #[.bool cl,.int .i64 id]:=HB0.out.kept hk1 (HW0.out.apart HB0.out (by decide) (by decide))
  have q1:=hB1.cell 1
  simp only[List.getElem?_toArray,List.getElem?_cons_zero,List.getElem?_cons_succ] at q1
  have HL:Hid (stLen (putNum st (flagI cl))≤stLen st+10):=putNum_len st (by unfold flagI;split <;> omega)
  have HNu:Hid (∀ n,Calls Tryz.prog 98 #[.pointer (some ⟨g,0,none⟩),.int .i64 id] (w1.drewN n) (Puts (w1.drewN n) base g a1 (putNum (putNum st (flagI cl)) id))):=fun n=>num_all base g a1 c1 _ id _ (hw1.no ((Kept.refl No _).drewN n)) hid (by have:=HL.out;omega) (by have h1:=HB.out;have h2:=hk1.size;show base≤w1.heap.size;omega)
  have HK1:Hid (Kept (WrAt g a) w w1∧Moved w a a1):=⟨HK0.out.of_no.then hk1,(Moved.refl w a).trans hm1 HK0.out.size⟩
  clear hw1 hk1 hm1 hB1
  go_upto_region 2 with fail
  refine wp_region_still_tail 5 (by kernel_rfl) (by kernel_rfl) ?_
  simp only[List.take_succ_cons,List.take_zero,List.drop_succ_cons,List.drop_zero]
  obtain ⟨w2,hw2⟩:∃ w2:World,w2={ w1 with drawn:=w1.drawn+1 }:=⟨_,rfl⟩
  rw [← hw2]
  have e2:w2=w1.drewN 1:=hw2
  have q2:w2.cell? ⟨w.heap.size,1,none⟩=some (.int .i64 id):=by rw [e2];exact q1
  have HN2:Hid (Calls Tryz.prog 98 #[.pointer (some ⟨g,0,none⟩),.int .i64 id] w2 (Puts w2 base g a1 (putNum (putNum st (flagI cl)) id))):=by rw [e2];exact HNu.out 1
  have HK2:Hid (Kept (WrAt g a) w w2∧Moved w a a1):=by rw [e2];exact ⟨HK1.out.1.drewN 1,HK1.out.2⟩
  clear hw2 e2 HNu HK1 q1
  still_step
  still_step
  still_step
  still_step
  still_step
  refine wpStill_nil ?_
  go_wp2_with fail
  refine HN2.out.mono ?_
  rintro e w3 ⟨rfl,a3,c3,hw3,hk3,hm3⟩
  have HF:Hid (∃ a' c',Ws w3 base g a' c' (putNum (putNum st (flagI cl)) id)∧Kept (WrAt g a) w w3∧Moved w a a'):=⟨a3,c3,hw3,HK2.out.1.moved hk3 HK2.out.2,HK2.out.2.trans hm3 HK2.out.1.size⟩
  clear hw3 hk3 hm3
  go_wp2
  go_end0
  exact ⟨rfl,HF.out⟩
def headS (st:Option (List Int)) (m:MsgD):Option (List Int):=numsS (putNum (putNum (putNum (putNum (numsS st [m.kind]) (flagI m.fc)) m.fi) (flagI m.tc)) m.ti) [m.op,m.rd,m.kk,m.ka,m.kb,m.kc]
structure HeadOkM (m:MsgD):Prop where
  kind:m.kind≤9223372036854775807
  fi:m.fi≤9223372036854775807
  ti:m.ti≤9223372036854775807
  op:m.op≤9223372036854775807
  rd:m.rd≤9223372036854775807
  kk:m.kk≤9223372036854775807
  ka:m.ka≤9223372036854775807
  kb:m.kb≤9223372036854775807
  kc:m.kc≤9223372036854775807
theorem flagI_le (b:Bool):flagI b≤9223372036854775807:=by unfold flagI;split <;> omega
set_option maxRecDepth 100000 in
set_option maxHeartbeats 2000000 in
theorem putMsg_nil (base g:Nat) (a:Option Addr) (c:Nat) (st:Option (List Int)) (m:MsgD) (hf:fieldsL m.kind=[]) (ho:HeadOkM m) (w:World) (h:Ws w base g a c st) (hlen:stLen st+200≤140737488355328) (hbase:base≤w.heap.size) :
    Calls Tryz.prog 56 #[.pointer (some ⟨g,0,none⟩),.agg m.cells] w (Puts w base g a (headS st m)):=by
  have HO:Hid (HeadOkM m):=ho
  have HF0:Hid (fieldsL m.kind=[]):=hf
  obtain ⟨w0,hw0⟩:∃ w0,w0=w.alloc (.cells m.cells 71):=⟨_,rfl⟩
  have hk0:Kept No w w0:=by rw [hw0];exact (Kept.refl No w).alloc _
  have HM0:Hid (MsgAt w0 w.heap.size m):=by rw [hw0];exact MsgAt.new w m
  have HW0:Hid (Ws w0 base g a c st):=h.no hk0
  have HK0:Hid (Kept (WrAt g a) w w0∧Moved w a a):=⟨hk0.of_no,Moved.refl _ _⟩
  have HBs:Hid (∀ W:World,Kept (WrAt g a) w W→base≤W.heap.size):=fun W hW=>by have:=hW.size;omega
  have TB:Hid (1=1):=rfl
  have HSt:Hid (headS st m=numsS (putNum (putNum (putNum (putNum (numsS st [m.kind]) (flagI m.fc)) m.fi) (flagI m.tc)) m.ti) [m.op,m.rd,m.kk,m.ka,m.kb,m.kc]):=rfl
  clear h hk0 ho hf
  go_enter Tryz.func56,Tryz.ntmps56
  go_upto_region 1 with (have hguard:=TB;clear hguard;refine wp_boxV rfl 71 _ rfl m.cells rfl w.heap.size rfl ?_;rw [← hw0];clear hw0 TB)
  have q0:=HM0.out.ends.1
  obtain ⟨w1,hw1⟩:∃ w1,w1=w0.alloc (.cells #[.int .i64 m.kind] 3):=⟨_,rfl⟩
  have hk1:Kept No w0 w1:=by rw [hw1];exact (Kept.refl No w0).alloc _
  have hB1:Box w1 w0.heap.size 3 ([m.kind].map (Value.int .i64)).toArray:=by rw [hw1];exact Box.new _ _ _
  have HC1:Hid (Calls Tryz.prog 95 #[.pointer (some ⟨g,0,none⟩),.slice (some ⟨w0.heap.size,0,none⟩) 1 1] w1 (Puts w1 base g a (numsS st [m.kind]))):=nums_all base g a c st w0.heap.size 1 1 [m.kind] w1 (HW0.out.no hk1) hB1 rfl (fun x hx=>by rw [List.mem_singleton.1 hx];exact HO.out.kind) (by omega) (HBs.out w1 (HK0.out.1.then hk1.of_no))
  have HM1:Hid (MsgAt w1 w.heap.size m):=HM0.out.no hk1
  have HW1:Hid (Ws w1 base g a c st):=HW0.out.no hk1
  have HK1:Hid (Kept (WrAt g a) w w1):=HK0.out.1.then hk1.of_no
  have HL1:Hid (stLen (numsS st [m.kind])≤stLen st+10):=by
    have h1:=numsS_len [m.kind] st (fun x hx=>by rw [List.mem_singleton.1 hx];exact HO.out.kind)
    have h2:[m.kind].length=1:=rfl
    rw [h2] at h1
    show _≤_
    omega
  clear hk1 hB1 HM0 HW0
  go_wp2_with fail
  rw [← hw1]
  clear hw1 q0
  refine HC1.out.mono ?_
  rintro e w2 ⟨rfl,a2,c2,hw2,hk2,hm2⟩
  have HM2:Hid (MsgAt w2 w.heap.size m):=HM1.out.kept hk2 (HW1.out.apart HM1.out.box (by decide) (by decide))
  have HW2:Hid (Ws w2 base g a2 c2 (numsS st [m.kind])):=hw2
  have HK2:Hid (Kept (WrAt g a) w w2∧Moved w a a2):=⟨HK1.out.then hk2,(Moved.refl w a).trans hm2 HK1.out.size⟩
  clear hw2 hk2 hm2 HM1 HW1 HC1 HK1
  obtain ⟨-,q1,q2,-⟩:=HM2.out.ends
  have HA2:Hid (Calls Tryz.prog 112 #[.pointer (some ⟨g,0,none⟩),.agg #[.bool m.fc,.int .i64 m.fi]] w2 (Puts w2 base g a2 (putNum (putNum (numsS st [m.kind]) (flagI m.fc)) m.fi))):=addr_all base g a2 c2 _ m.fc m.fi w2 HW2.out HO.out.fi (by have:=HL1.out;omega) (HBs.out w2 HK2.out.1)
  have HL2:Hid (stLen (putNum (putNum (numsS st [m.kind]) (flagI m.fc)) m.fi)≤stLen st+30):=by
    have h1:=putNum_len (numsS st [m.kind]) (flagI_le m.fc)
    have h2:=putNum_len (putNum (numsS st [m.kind]) (flagI m.fc)) HO.out.fi
    have h3:=HL1.out
    show _≤_;omega
  go_wp2_with fail
  refine HA2.out.mono ?_
  rintro e w3 ⟨rfl,a3,c3,hw3,hk3,hm3⟩
  have HM3:Hid (MsgAt w3 w.heap.size m):=HM2.out.kept hk3 (HW2.out.apart HM2.out.box (by decide) (by decide))
  have HW3:Hid (Ws w3 base g a3 c3 (putNum (putNum (numsS st [m.kind]) (flagI m.fc)) m.fi)):=hw3
  have HK3:Hid (Kept (WrAt g a) w w3∧Moved w a a3):=⟨HK2.out.1.moved hk3 HK2.out.2,HK2.out.2.trans hm3 HK2.out.1.size⟩
  clear hw3 hk3 hm3 HM2 HW2 HA2 HK2 q1 q2
  obtain ⟨-,-,-,q3,q4,-⟩:=HM3.out.ends
  have HA3:Hid (Calls Tryz.prog 112 #[.pointer (some ⟨g,0,none⟩),.agg #[.bool m.tc,.int .i64 m.ti]] w3 (Puts w3 base g a3 (putNum (putNum (putNum (putNum (numsS st [m.kind]) (flagI m.fc)) m.fi) (flagI m.tc)) m.ti))):=addr_all base g a3 c3 _ m.tc m.ti w3 HW3.out HO.out.ti (by have:=HL2.out;omega) (HBs.out w3 HK3.out.1)
  have HL3:Hid (stLen (putNum (putNum (putNum (putNum (numsS st [m.kind]) (flagI m.fc)) m.fi) (flagI m.tc)) m.ti)≤stLen st+50):=by
    have h1:=putNum_len (putNum (putNum (numsS st [m.kind]) (flagI m.fc)) m.fi) (flagI_le m.tc)
    have h2:=putNum_len (putNum (putNum (putNum (numsS st [m.kind]) (flagI m.fc)) m.fi) (flagI m.tc)) HO.out.ti
    have h3:=HL2.out
    show _≤_;omega
  go_wp2_with fail
  refine HA3.out.mono ?_
  rintro e w4 ⟨rfl,a4,c4,hw4,hk4,hm4⟩
  have HM4:Hid (MsgAt w4 w.heap.size m):=HM3.out.kept hk4 (HW3.out.apart HM3.out.box (by decide) (by decide))
  have HK4:Hid (Kept (WrAt g a) w w4∧Moved w a a4):=⟨HK3.out.1.moved hk4 HK3.out.2,HK3.out.2.trans hm4 HK3.out.1.size⟩
  have HW4:Hid (Ws w4 base g a4 c4 (putNum (putNum (putNum (putNum (numsS st [m.kind]) (flagI m.fc)) m.fi) (flagI m.tc)) m.ti)):=hw4
  clear hw4 hk4 hm4 HM3 HW3 HA3 HK3 q3 q4
  obtain ⟨-,-,-,-,-,q5,q6⟩:=HM4.out.ends
  obtain ⟨q7,q8,q9,q10⟩:=HM4.out.key
  obtain ⟨w5,hw5⟩:∃ w5,w5=w4.alloc (.cells #[.int .i64 m.op,.int .i64 m.rd,.int .i64 m.kk,.int .i64 m.ka,.int .i64 m.kb,.int .i64 m.kc] 3):=⟨_,rfl⟩
  have hk5:Kept No w4 w5:=by rw [hw5];exact (Kept.refl No w4).alloc _
  have hB5:Box w5 w4.heap.size 3 ([m.op,m.rd,m.kk,m.ka,m.kb,m.kc].map (Value.int .i64)).toArray:=by rw [hw5];exact Box.new _ _ _
  have HC5:Hid (Calls Tryz.prog 95 #[.pointer (some ⟨g,0,none⟩),.slice (some ⟨w4.heap.size,0,none⟩) 6 6] w5 (Puts w5 base g a4 (numsS (putNum (putNum (putNum (putNum (numsS st [m.kind]) (flagI m.fc)) m.fi) (flagI m.tc)) m.ti) [m.op,m.rd,m.kk,m.ka,m.kb,m.kc]))):=nums_all base g a4 c4 _ w4.heap.size 6 6 [m.op,m.rd,m.kk,m.ka,m.kb,m.kc] w5 (HW4.out.no hk5) hB5 rfl (fun x hx=>by
    have h:=HO.out
    simp only[List.mem_cons,List.not_mem_nil,or_false] at hx
    rcases hx with rfl | rfl | rfl | rfl | rfl | rfl
    · exact h.op
    · exact h.rd
    · exact h.kk
    · exact h.ka
    · exact h.kb
    · exact h.kc) (by have:=HL3.out;omega) (HBs.out w5 (HK4.out.1.then hk5.of_no))
  have HM5:Hid (MsgAt w5 w.heap.size m):=HM4.out.no hk5
  have HW5:Hid (Ws w5 base g a4 c4 (putNum (putNum (putNum (putNum (numsS st [m.kind]) (flagI m.fc)) m.fi) (flagI m.tc)) m.ti)):=HW4.out.no hk5
  have HK5:Hid (Kept (WrAt g a) w w5∧Moved w a a4):=⟨HK4.out.1.then hk5.of_no,HK4.out.2⟩
  clear hk5 hB5 HM4 HW4 HK4
  go_wp2_with fail
  rw [← hw5]
  clear hw5 q5 q6 q7 q8 q9 q10
  refine HC5.out.mono ?_
  rw [← HSt.out]
  rintro e w6 ⟨rfl,a6,c6,hw6,hk6,hm6⟩
  have HM6:Hid (MsgAt w6 w.heap.size m):=HM5.out.kept hk6 (HW5.out.apart HM5.out.box (by decide) (by decide))
  have HF6:Hid (∀ W,Kept No w6 W→∃ a' c',Ws W base g a' c' (headS st m)∧Kept (WrAt g a) w W∧Moved w a a'):=fun W hW=>⟨a6,c6,hw6.no hW,(HK5.out.1.moved hk6 HK5.out.2).then hW.of_no,HK5.out.2.trans hm6 HK5.out.1.size⟩
  clear hw6 hk6 hm6 HM5 HW5 HC5 HK5
  have q0:=HM6.out.ends.1
  go_wp2_with fail
  refine (fieldsOf_nil m.kind HF0.out w6).mono ?_
  rintro e w7 ⟨rfl,hk7⟩
  have HF7:Hid (∃ a' c',Ws w7 base g a' c' (headS st m)∧Kept (WrAt g a) w w7∧Moved w a a'):=HF6.out w7 hk7
  clear hk7 q0 HF6 HM6
  go_wp2
  go_loopw [42] (fun i wr=>i=.int .i64 0∧wr=w7) (fun _ _=>0)
  case atStart=>exact ⟨rfl,rfl⟩
  case round=>
    obtain ⟨rfl,rfl⟩:=hrel
    go_wp2
    go_end0
    exact ⟨rfl,HF7.out⟩
section
variable {ops:Array Oper} {rest:List Oper} {o:Oper} {a:Act} {w:World} {Q:Exit→Act→World→Prop}
theorem wp_load71 (hg:o.guard=none) (x:Operand) (ho:o.op=.load 71 x) (g:Nat) (cs:Array Value) (hx:a.eval x=.pointer (some ⟨g,0,none⟩)) (hl:cs.size=30) {t':TypeId} (hb:Box w g t' cs)
    (h:wpList Tryz.prog ops Q rest (a.put o.dst (.agg cs)) w):wpList Tryz.prog ops Q (o :: rest) a w:=
  wpList_load_row hg 71 x ho g hx t' cs (0,0) _ hb Tryz.underlying71 rfl (by rw [hl];exact Tryz.size71) h
theorem Tryz.size37:(Tryz.prog.info? 37).map (·.size)=some 3:=by kernel_rfl
theorem wp_load37 (hg:o.guard=none) (x:Operand) (ho:o.op=.load 37 x) (g:Nat) (cs:Array Value) (hx:a.eval x=.pointer (some ⟨g,0,none⟩)) (hl:cs.size=3) {t':TypeId} (hb:Box w g t' cs)
    (h:wpList Tryz.prog ops Q rest (a.put o.dst (.agg cs)) w):wpList Tryz.prog ops Q (o :: rest) a w:=
  wpList_load_row hg 37 x ho g hx t' cs (0,0) _ hb Tryz.underlying37 rfl (by rw [hl];exact Tryz.size37) h
theorem Tryz.size47:(Tryz.prog.info? 47).map (·.size)=some 14:=by kernel_rfl
theorem wp_load47 (hg:o.guard=none) (x:Operand) (ho:o.op=.load 47 x) (g:Nat) (cs:Array Value) (hx:a.eval x=.pointer (some ⟨g,0,none⟩)) (hl:cs.size=14) {t':TypeId} (hb:Box w g t' cs)
    (h:wpList Tryz.prog ops Q rest (a.put o.dst (.agg cs)) w):wpList Tryz.prog ops Q (o :: rest) a w:=
  wpList_load_row hg 47 x ho g hx t' cs (0,0) _ hb Tryz.underlying47 rfl (by rw [hl];exact Tryz.size47) h
theorem Tryz.size54:(Tryz.prog.info? 54).map (·.size)=some 3:=by kernel_rfl
theorem wp_load54 (hg:o.guard=none) (x:Operand) (ho:o.op=.load 54 x) (g:Nat) (cs:Array Value) (hx:a.eval x=.pointer (some ⟨g,0,none⟩)) (hl:cs.size=3) {t':TypeId} (hb:Box w g t' cs)
    (h:wpList Tryz.prog ops Q rest (a.put o.dst (.agg cs)) w):wpList Tryz.prog ops Q (o :: rest) a w:=
  wpList_load_row hg 54 x ho g hx t' cs (0,0) _ hb Tryz.underlying54 rfl (by rw [hl];exact Tryz.size54) h
theorem Tryz.size45:(Tryz.prog.info? 45).map (·.size)=some 9:=by kernel_rfl
theorem wp_load45 (hg:o.guard=none) (x:Operand) (ho:o.op=.load 45 x) (g:Nat) (cs:Array Value) (hx:a.eval x=.pointer (some ⟨g,0,none⟩)) (hl:cs.size=9) {t':TypeId} (hb:Box w g t' cs)
    (h:wpList Tryz.prog ops Q rest (a.put o.dst (.agg cs)) w):wpList Tryz.prog ops Q (o :: rest) a w:=
  wpList_load_row hg 45 x ho g hx t' cs (0,0) _ hb Tryz.underlying45 rfl (by rw [hl];exact Tryz.size45) h
end
theorem Cfg.right {w:World} {sa:Option Addr} {sn sc:Nat} {zs:List Int} (f p bu bl ro:Int) (h:Cfg w sa sn sc zs):Calls Tryz.prog 78 #[cfgV (.slice sa sn sc) f p bu bl ro] w fun e w'=>e=.returned (.bool (cfgB zs f p bu bl ro))∧Kept No w w':=by
  have:=rightConfig_any sa sc zs f p bu bl ro w h.nums (by rw [h.len];exact h.bd)
  rw [h.len] at this
  exact this
abbrev FV (n:Nat):Value:=.func (.func n) #[] #[]
set_option maxRecDepth 100000 in
set_option maxHeartbeats 2000000 in
theorem judgeMsg_all (cs:Array Value) (hcs:cs.size=30) (bb:Bool) (r:Int) (sa:Option Addr) (sn sc:Nat) (zs:List Int) (f p bu bl ro:Int) (w:World) (h:Cfg w sa sn sc zs) (hyes:cfgB zs f p bu bl ro=true)
    (hR:∀ W,Kept No w W→Calls Tryz.prog 55 #[.agg cs,cfgV (.slice sa sn sc) f p bu bl ro] W fun e w'=>e=.returned (.bool bb)∧Kept No W w') :
    Calls Tryz.prog 62 #[.agg cs,cfgV (.slice sa sn sc) f p bu bl ro,FV 55,.int .i64 r] w fun e w'=>e=.returned (.int .i64 (if bb then 0 else r))∧Kept No w w':=by
  have HC:Hid (Cfg w sa sn sc zs):=h
  have HN:Hid (cfgB zs f p bu bl ro=true):=hyes
  have HR:Hid (∀ W,Kept No w W→Calls Tryz.prog 55 #[.agg cs,cfgV (.slice sa sn sc) f p bu bl ro] W fun e w'=>e=.returned (.bool bb)∧Kept No W w'):=hR
  have HS:Hid (cs.size=30):=hcs
  clear h hyes hR hcs
  have TB:Hid (1=1):=rfl
  obtain ⟨w0,hw0⟩:∃ w0,w0=w.alloc (.cells cs 71):=⟨_,rfl⟩
  have HK0:Hid (Kept No w w0):=by rw [hw0];exact (Kept.refl No w).alloc _
  have HM0:Hid (Box w0 w.heap.size 71 cs):=by rw [hw0];exact Box.new _ _ _
  go_enter Tryz.func62,Tryz.ntmps62
  go_upto_region 1 with (have hguard:=TB;clear hguard;refine wp_boxV rfl 71 _ rfl cs rfl w.heap.size rfl ?_;rw [← hw0];clear hw0 TB)
  obtain ⟨w1,hw1⟩:∃ w1,w1=w0.alloc (.cells #[.slice sa sn sc,.int .i64 f,.int .i64 p,.int .i64 bu,.int .i64 bl,.int .i64 ro] 24):=⟨_,rfl⟩
  rw [← hw1]
  have hk1:Kept No w0 w1:=by rw [hw1];exact (Kept.refl No w0).alloc _
  have HC1:Hid (Box w1 w0.heap.size 24 #[.slice sa sn sc,.int .i64 f,.int .i64 p,.int .i64 bu,.int .i64 bl,.int .i64 ro]):=by rw [hw1];exact Box.new _ _ _
  have HK1:Hid (Kept No w w1):=HK0.out.then hk1
  have HM1:Hid (Box w1 w.heap.size 71 cs):=HM0.out.kept hk1 (fun e=>e)
  clear hw1 hk1 HM0 HK0
  have q0:=HC1.out.cell 0
  have q1:=HC1.out.cell 1
  have q2:=HC1.out.cell 2
  have q3:=HC1.out.cell 3
  have q4:=HC1.out.cell 4
  have q5:=HC1.out.cell 5
  simp at q0 q1 q2 q3 q4 q5
  go_wp2_with fail
  refine ((HC.out.no HK1.out).right f p bu bl ro).mono ?_
  rintro e w2 ⟨rfl,hk2⟩
  have HK2:Hid (Kept No w w2):=HK1.out.then hk2
  have HM2:Hid (Box w2 w.heap.size 71 cs):=HM1.out.kept hk2 (fun e=>e)
  have HC2:Hid (Box w2 w0.heap.size 24 #[.slice sa sn sc,.int .i64 f,.int .i64 p,.int .i64 bu,.int .i64 bl,.int .i64 ro]):=HC1.out.kept hk2 (fun e=>e)
  clear hk2 q0 q1 q2 q3 q4 q5
  rw [HN.out]
  clear HN HC HC1 HM1
  have q0:=HC2.out.cell 0
  have q1:=HC2.out.cell 1
  have q2:=HC2.out.cell 2
  have q3:=HC2.out.cell 3
  have q4:=HC2.out.cell 4
  have q5:=HC2.out.cell 5
  simp at q0 q1 q2 q3 q4 q5
  have TL:Hid (1=1):=rfl
  cases bb with
  | true=>
    go_wp2_with (first
      | (have hguard:=TL;clear hguard;refine wp_load71 rfl _ rfl w.heap.size cs rfl HS.out HM2.out ?_;clear TL)
      | (refine (HR.out _ HK2.out).mono ?_;rintro e w3 ⟨rfl,hk3⟩;have HK3:Hid (Kept No w w3):=HK2.out.then hk3;clear hk3 q0 q1 q2 q3 q4 q5))
    go_ret
    exact ⟨rfl,HK3.out⟩
  | false=>
    go_wp2_with (first
      | (have hguard:=TL;clear hguard;refine wp_load71 rfl _ rfl w.heap.size cs rfl HS.out HM2.out ?_;clear TL)
      | (refine (HR.out _ HK2.out).mono ?_;rintro e w3 ⟨rfl,hk3⟩;have HK3:Hid (Kept No w w3):=HK2.out.then hk3;clear hk3 q0 q1 q2 q3 q4 q5))
    go_ret
    exact ⟨rfl,HK3.out⟩
set_option maxRecDepth 100000 in
set_option maxHeartbeats 2000000 in
theorem judgeBlock_no (cs:Array Value) (fv:Value) (r:Int) (sa:Option Addr) (sn sc:Nat) (zs:List Int) (f p bu bl ro:Int) (w:World) (h:Cfg w sa sn sc zs) (hno:cfgB zs f p bu bl ro=false) :
    Calls Tryz.prog 71 #[.agg cs,cfgV (.slice sa sn sc) f p bu bl ro,fv,.int .i64 r] w fun e w'=>e=.returned (.int .i64 20)∧Kept No w w':=by
  have HC:Hid (Cfg w sa sn sc zs):=h
  have HN:Hid (cfgB zs f p bu bl ro=false):=hno
  clear h hno
  have TB:Hid (1=1):=rfl
  obtain ⟨w0,hw0⟩:∃ w0,w0=w.alloc (.cells cs 37):=⟨_,rfl⟩
  have HK0:Hid (Kept No w w0):=by rw [hw0];exact (Kept.refl No w).alloc _
  have HM0:Hid (Box w0 w.heap.size 37 cs):=by rw [hw0];exact Box.new _ _ _
  go_enter Tryz.func71,Tryz.ntmps71
  go_upto_region 1 with (have hguard:=TB;clear hguard;refine wp_boxV rfl 37 _ rfl cs rfl w.heap.size rfl ?_;rw [← hw0];clear hw0 TB)
  obtain ⟨w1,hw1⟩:∃ w1,w1=w0.alloc (.cells #[.slice sa sn sc,.int .i64 f,.int .i64 p,.int .i64 bu,.int .i64 bl,.int .i64 ro] 24):=⟨_,rfl⟩
  rw [← hw1]
  have hk1:Kept No w0 w1:=by rw [hw1];exact (Kept.refl No w0).alloc _
  have HC1:Hid (Box w1 w0.heap.size 24 #[.slice sa sn sc,.int .i64 f,.int .i64 p,.int .i64 bu,.int .i64 bl,.int .i64 ro]):=by rw [hw1];exact Box.new _ _ _
  have HK1:Hid (Kept No w w1):=HK0.out.then hk1
  have HM1:Hid (Box w1 w.heap.size 37 cs):=HM0.out.kept hk1 (fun e=>e)
  clear hw1 hk1 HM0 HK0
  have q0:=HC1.out.cell 0
  have q1:=HC1.out.cell 1
  have q2:=HC1.out.cell 2
  have q3:=HC1.out.cell 3
  have q4:=HC1.out.cell 4
  have q5:=HC1.out.cell 5
  simp at q0 q1 q2 q3 q4 q5
  go_wp2_with fail
  refine ((HC.out.no HK1.out).right f p bu bl ro).mono ?_
  rintro e w2 ⟨rfl,hk2⟩
  have HK2:Hid (Kept No w w2):=HK1.out.then hk2
  clear hk2 q0 q1 q2 q3 q4 q5
  rw [HN.out]
  clear HN HC HC1 HM1
  go_wp2
  go_ret
  exact ⟨rfl,HK2.out⟩
set_option maxRecDepth 100000 in
set_option maxHeartbeats 2000000 in
theorem judgeBlock_all (cs:Array Value) (hcs:cs.size=3) (bb:Bool) (r:Int) (sa:Option Addr) (sn sc:Nat) (zs:List Int) (f p bu bl ro:Int) (w:World) (h:Cfg w sa sn sc zs) (hyes:cfgB zs f p bu bl ro=true)
    (hR:∀ W,Kept No w W→Calls Tryz.prog 37 #[.agg cs,cfgV (.slice sa sn sc) f p bu bl ro] W fun e w'=>e=.returned (.bool bb)∧Kept No W w') :
    Calls Tryz.prog 71 #[.agg cs,cfgV (.slice sa sn sc) f p bu bl ro,FV 37,.int .i64 r] w fun e w'=>e=.returned (.int .i64 (if bb then 0 else r))∧Kept No w w':=by
  have HC:Hid (Cfg w sa sn sc zs):=h
  have HN:Hid (cfgB zs f p bu bl ro=true):=hyes
  have HR:Hid (∀ W,Kept No w W→Calls Tryz.prog 37 #[.agg cs,cfgV (.slice sa sn sc) f p bu bl ro] W fun e w'=>e=.returned (.bool bb)∧Kept No W w'):=hR
  have HS:Hid (cs.size=3):=hcs
  clear h hyes hR hcs
  have TB:Hid (1=1):=rfl
  obtain ⟨w0,hw0⟩:∃ w0,w0=w.alloc (.cells cs 37):=⟨_,rfl⟩
  have HK0:Hid (Kept No w w0):=by rw [hw0];exact (Kept.refl No w).alloc _
  have HM0:Hid (Box w0 w.heap.size 37 cs):=by rw [hw0];exact Box.new _ _ _
  go_enter Tryz.func71,Tryz.ntmps71
  go_upto_region 1 with (have hguard:=TB;clear hguard;refine wp_boxV rfl 37 _ rfl cs rfl w.heap.size rfl ?_;rw [← hw0];clear hw0 TB)
  obtain ⟨w1,hw1⟩:∃ w1,w1=w0.alloc (.cells #[.slice sa sn sc,.int .i64 f,.int .i64 p,.int .i64 bu,.int .i64 bl,.int .i64 ro] 24):=⟨_,rfl⟩
  rw [← hw1]
  have hk1:Kept No w0 w1:=by rw [hw1];exact (Kept.refl No w0).alloc _
  have HC1:Hid (Box w1 w0.heap.size 24 #[.slice sa sn sc,.int .i64 f,.int .i64 p,.int .i64 bu,.int .i64 bl,.int .i64 ro]):=by rw [hw1];exact Box.new _ _ _
  have HK1:Hid (Kept No w w1):=HK0.out.then hk1
  have HM1:Hid (Box w1 w.heap.size 37 cs):=HM0.out.kept hk1 (fun e=>e)
  clear hw1 hk1 HM0 HK0
  have q0:=HC1.out.cell 0
  have q1:=HC1.out.cell 1
  have q2:=HC1.out.cell 2
  have q3:=HC1.out.cell 3
  have q4:=HC1.out.cell 4
  have q5:=HC1.out.cell 5
  simp at q0 q1 q2 q3 q4 q5
  go_wp2_with fail
  refine ((HC.out.no HK1.out).right f p bu bl ro).mono ?_
  rintro e w2 ⟨rfl,hk2⟩
  have HK2:Hid (Kept No w w2):=HK1.out.then hk2
  have HM2:Hid (Box w2 w.heap.size 37 cs):=HM1.out.kept hk2 (fun e=>e)
  have HC2:Hid (Box w2 w0.heap.size 24 #[.slice sa sn sc,.int .i64 f,.int .i64 p,.int .i64 bu,.int .i64 bl,.int .i64 ro]):=HC1.out.kept hk2 (fun e=>e)
  clear hk2 q0 q1 q2 q3 q4 q5
  rw [HN.out]
  clear HN HC HC1 HM1
  have q0:=HC2.out.cell 0
  have q1:=HC2.out.cell 1
  have q2:=HC2.out.cell 2
  have q3:=HC2.out.cell 3
  have q4:=HC2.out.cell 4
  have q5:=HC2.out.cell 5
  simp at q0 q1 q2 q3 q4 q5
  have TL:Hid (1=1):=rfl
  cases bb with
  | true=>
    go_wp2_with (first
      | (have hguard:=TL;clear hguard;refine wp_load37 rfl _ rfl w.heap.size cs rfl HS.out HM2.out ?_;clear TL)
      | (refine (HR.out _ HK2.out).mono ?_;rintro e w3 ⟨rfl,hk3⟩;have HK3:Hid (Kept No w w3):=HK2.out.then hk3;clear hk3 q0 q1 q2 q3 q4 q5))
    go_ret
    exact ⟨rfl,HK3.out⟩
  | false=>
    go_wp2_with (first
      | (have hguard:=TL;clear hguard;refine wp_load37 rfl _ rfl w.heap.size cs rfl HS.out HM2.out ?_;clear TL)
      | (refine (HR.out _ HK2.out).mono ?_;rintro e w3 ⟨rfl,hk3⟩;have HK3:Hid (Kept No w w3):=HK2.out.then hk3;clear hk3 q0 q1 q2 q3 q4 q5))
    go_ret
    exact ⟨rfl,HK3.out⟩
set_option maxRecDepth 100000 in
set_option maxHeartbeats 2000000 in
theorem judgeInst_no (cs:Array Value) (fv:Value) (r:Int) (sa:Option Addr) (sn sc:Nat) (zs:List Int) (f p bu bl ro:Int) (w:World) (h:Cfg w sa sn sc zs) (hno:cfgB zs f p bu bl ro=false) :
    Calls Tryz.prog 84 #[.agg cs,cfgV (.slice sa sn sc) f p bu bl ro,fv,.int .i64 r] w fun e w'=>e=.returned (.int .i64 20)∧Kept No w w':=by
  have HC:Hid (Cfg w sa sn sc zs):=h
  have HN:Hid (cfgB zs f p bu bl ro=false):=hno
  clear h hno
  have TB:Hid (1=1):=rfl
  obtain ⟨w0,hw0⟩:∃ w0,w0=w.alloc (.cells cs 47):=⟨_,rfl⟩
  have HK0:Hid (Kept No w w0):=by rw [hw0];exact (Kept.refl No w).alloc _
  have HM0:Hid (Box w0 w.heap.size 47 cs):=by rw [hw0];exact Box.new _ _ _
  go_enter Tryz.func84,Tryz.ntmps84
  go_upto_region 1 with (have hguard:=TB;clear hguard;refine wp_boxV rfl 47 _ rfl cs rfl w.heap.size rfl ?_;rw [← hw0];clear hw0 TB)
  obtain ⟨w1,hw1⟩:∃ w1,w1=w0.alloc (.cells #[.slice sa sn sc,.int .i64 f,.int .i64 p,.int .i64 bu,.int .i64 bl,.int .i64 ro] 24):=⟨_,rfl⟩
  rw [← hw1]
  have hk1:Kept No w0 w1:=by rw [hw1];exact (Kept.refl No w0).alloc _
  have HC1:Hid (Box w1 w0.heap.size 24 #[.slice sa sn sc,.int .i64 f,.int .i64 p,.int .i64 bu,.int .i64 bl,.int .i64 ro]):=by rw [hw1];exact Box.new _ _ _
  have HK1:Hid (Kept No w w1):=HK0.out.then hk1
  have HM1:Hid (Box w1 w.heap.size 47 cs):=HM0.out.kept hk1 (fun e=>e)
  clear hw1 hk1 HM0 HK0
  have q0:=HC1.out.cell 0
  have q1:=HC1.out.cell 1
  have q2:=HC1.out.cell 2
  have q3:=HC1.out.cell 3
  have q4:=HC1.out.cell 4
  have q5:=HC1.out.cell 5
  simp at q0 q1 q2 q3 q4 q5
  go_wp2_with fail
  refine ((HC.out.no HK1.out).right f p bu bl ro).mono ?_
  rintro e w2 ⟨rfl,hk2⟩
  have HK2:Hid (Kept No w w2):=HK1.out.then hk2
  clear hk2 q0 q1 q2 q3 q4 q5
  rw [HN.out]
  clear HN HC HC1 HM1
  go_wp2
  go_ret
  exact ⟨rfl,HK2.out⟩
set_option maxRecDepth 100000 in
set_option maxHeartbeats 2000000 in
theorem judgeInst_all (cs:Array Value) (hcs:cs.size=14) (bb:Bool) (r:Int) (sa:Option Addr) (sn sc:Nat) (zs:List Int) (f p bu bl ro:Int) (w:World) (h:Cfg w sa sn sc zs) (hyes:cfgB zs f p bu bl ro=true)
    (hR:∀ W,Kept No w W→Calls Tryz.prog 42 #[.agg cs,cfgV (.slice sa sn sc) f p bu bl ro] W fun e w'=>e=.returned (.bool bb)∧Kept No W w') :
    Calls Tryz.prog 84 #[.agg cs,cfgV (.slice sa sn sc) f p bu bl ro,FV 42,.int .i64 r] w fun e w'=>e=.returned (.int .i64 (if bb then 0 else r))∧Kept No w w':=by
  have HC:Hid (Cfg w sa sn sc zs):=h
  have HN:Hid (cfgB zs f p bu bl ro=true):=hyes
  have HR:Hid (∀ W,Kept No w W→Calls Tryz.prog 42 #[.agg cs,cfgV (.slice sa sn sc) f p bu bl ro] W fun e w'=>e=.returned (.bool bb)∧Kept No W w'):=hR
  have HS:Hid (cs.size=14):=hcs
  clear h hyes hR hcs
  have TB:Hid (1=1):=rfl
  obtain ⟨w0,hw0⟩:∃ w0,w0=w.alloc (.cells cs 47):=⟨_,rfl⟩
  have HK0:Hid (Kept No w w0):=by rw [hw0];exact (Kept.refl No w).alloc _
  have HM0:Hid (Box w0 w.heap.size 47 cs):=by rw [hw0];exact Box.new _ _ _
  go_enter Tryz.func84,Tryz.ntmps84
  go_upto_region 1 with (have hguard:=TB;clear hguard;refine wp_boxV rfl 47 _ rfl cs rfl w.heap.size rfl ?_;rw [← hw0];clear hw0 TB)
  obtain ⟨w1,hw1⟩:∃ w1,w1=w0.alloc (.cells #[.slice sa sn sc,.int .i64 f,.int .i64 p,.int .i64 bu,.int .i64 bl,.int .i64 ro] 24):=⟨_,rfl⟩
  rw [← hw1]
  have hk1:Kept No w0 w1:=by rw [hw1];exact (Kept.refl No w0).alloc _
  have HC1:Hid (Box w1 w0.heap.size 24 #[.slice sa sn sc,.int .i64 f,.int .i64 p,.int .i64 bu,.int .i64 bl,.int .i64 ro]):=by rw [hw1];exact Box.new _ _ _
  have HK1:Hid (Kept No w w1):=HK0.out.then hk1
  have HM1:Hid (Box w1 w.heap.size 47 cs):=HM0.out.kept hk1 (fun e=>e)
  clear hw1 hk1 HM0 HK0
  have q0:=HC1.out.cell 0
  have q1:=HC1.out.cell 1
  have q2:=HC1.out.cell 2
  have q3:=HC1.out.cell 3
  have q4:=HC1.out.cell 4
  have q5:=HC1.out.cell 5
  simp at q0 q1 q2 q3 q4 q5
  go_wp2_with fail
  refine ((HC.out.no HK1.out).right f p bu bl ro).mono ?_
  rintro e w2 ⟨rfl,hk2⟩
  have HK2:Hid (Kept No w w2):=HK1.out.then hk2
  have HM2:Hid (Box w2 w.heap.size 47 cs):=HM1.out.kept hk2 (fun e=>e)
  have HC2:Hid (Box w2 w0.heap.size 24 #[.slice sa sn sc,.int .i64 f,.int .i64 p,.int .i64 bu,.int .i64 bl,.int .i64 ro]):=HC1.out.kept hk2 (fun e=>e)
  clear hk2 q0 q1 q2 q3 q4 q5
  rw [HN.out]
  clear HN HC HC1 HM1
  have q0:=HC2.out.cell 0
  have q1:=HC2.out.cell 1
  have q2:=HC2.out.cell 2
  have q3:=HC2.out.cell 3
  have q4:=HC2.out.cell 4
  have q5:=HC2.out.cell 5
  simp at q0 q1 q2 q3 q4 q5
  have TL:Hid (1=1):=rfl
  cases bb with
  | true=>
    go_wp2_with (first
      | (have hguard:=TL;clear hguard;refine wp_load47 rfl _ rfl w.heap.size cs rfl HS.out HM2.out ?_;clear TL)
      | (refine (HR.out _ HK2.out).mono ?_;rintro e w3 ⟨rfl,hk3⟩;have HK3:Hid (Kept No w w3):=HK2.out.then hk3;clear hk3 q0 q1 q2 q3 q4 q5))
    go_ret
    exact ⟨rfl,HK3.out⟩
  | false=>
    go_wp2_with (first
      | (have hguard:=TL;clear hguard;refine wp_load47 rfl _ rfl w.heap.size cs rfl HS.out HM2.out ?_;clear TL)
      | (refine (HR.out _ HK2.out).mono ?_;rintro e w3 ⟨rfl,hk3⟩;have HK3:Hid (Kept No w w3):=HK2.out.then hk3;clear hk3 q0 q1 q2 q3 q4 q5))
    go_ret
    exact ⟨rfl,HK3.out⟩
set_option maxRecDepth 100000 in
set_option maxHeartbeats 2000000 in
theorem judgeBucket_no (cs:Array Value) (fv:Value) (r:Int) (sa:Option Addr) (sn sc:Nat) (zs:List Int) (f p bu bl ro:Int) (w:World) (h:Cfg w sa sn sc zs) (hno:cfgB zs f p bu bl ro=false) :
    Calls Tryz.prog 49 #[.agg cs,cfgV (.slice sa sn sc) f p bu bl ro,fv,.int .i64 r] w fun e w'=>e=.returned (.int .i64 20)∧Kept No w w':=by
  have HC:Hid (Cfg w sa sn sc zs):=h
  have HN:Hid (cfgB zs f p bu bl ro=false):=hno
  clear h hno
  have TB:Hid (1=1):=rfl
  obtain ⟨w0,hw0⟩:∃ w0,w0=w.alloc (.cells cs 54):=⟨_,rfl⟩
  have HK0:Hid (Kept No w w0):=by rw [hw0];exact (Kept.refl No w).alloc _
  have HM0:Hid (Box w0 w.heap.size 54 cs):=by rw [hw0];exact Box.new _ _ _
  go_enter Tryz.func49,Tryz.ntmps49
  go_upto_region 1 with (have hguard:=TB;clear hguard;refine wp_boxV rfl 54 _ rfl cs rfl w.heap.size rfl ?_;rw [← hw0];clear hw0 TB)
  obtain ⟨w1,hw1⟩:∃ w1,w1=w0.alloc (.cells #[.slice sa sn sc,.int .i64 f,.int .i64 p,.int .i64 bu,.int .i64 bl,.int .i64 ro] 24):=⟨_,rfl⟩
  rw [← hw1]
  have hk1:Kept No w0 w1:=by rw [hw1];exact (Kept.refl No w0).alloc _
  have HC1:Hid (Box w1 w0.heap.size 24 #[.slice sa sn sc,.int .i64 f,.int .i64 p,.int .i64 bu,.int .i64 bl,.int .i64 ro]):=by rw [hw1];exact Box.new _ _ _
  have HK1:Hid (Kept No w w1):=HK0.out.then hk1
  have HM1:Hid (Box w1 w.heap.size 54 cs):=HM0.out.kept hk1 (fun e=>e)
  clear hw1 hk1 HM0 HK0
  have q0:=HC1.out.cell 0
  have q1:=HC1.out.cell 1
  have q2:=HC1.out.cell 2
  have q3:=HC1.out.cell 3
  have q4:=HC1.out.cell 4
  have q5:=HC1.out.cell 5
  simp at q0 q1 q2 q3 q4 q5
  go_wp2_with fail
  refine ((HC.out.no HK1.out).right f p bu bl ro).mono ?_
  rintro e w2 ⟨rfl,hk2⟩
  have HK2:Hid (Kept No w w2):=HK1.out.then hk2
  clear hk2 q0 q1 q2 q3 q4 q5
  rw [HN.out]
  clear HN HC HC1 HM1
  go_wp2
  go_ret
  exact ⟨rfl,HK2.out⟩
set_option maxRecDepth 100000 in
set_option maxHeartbeats 2000000 in
theorem judgeBucket_all (cs:Array Value) (hcs:cs.size=3) (bb:Bool) (r:Int) (sa:Option Addr) (sn sc:Nat) (zs:List Int) (f p bu bl ro:Int) (w:World) (h:Cfg w sa sn sc zs) (hyes:cfgB zs f p bu bl ro=true)
    (hR:∀ W,Kept No w W→Calls Tryz.prog 47 #[.agg cs,cfgV (.slice sa sn sc) f p bu bl ro] W fun e w'=>e=.returned (.bool bb)∧Kept No W w') :
    Calls Tryz.prog 49 #[.agg cs,cfgV (.slice sa sn sc) f p bu bl ro,FV 47,.int .i64 r] w fun e w'=>e=.returned (.int .i64 (if bb then 0 else r))∧Kept No w w':=by
  have HC:Hid (Cfg w sa sn sc zs):=h
  have HN:Hid (cfgB zs f p bu bl ro=true):=hyes
  have HR:Hid (∀ W,Kept No w W→Calls Tryz.prog 47 #[.agg cs,cfgV (.slice sa sn sc) f p bu bl ro] W fun e w'=>e=.returned (.bool bb)∧Kept No W w'):=hR
  have HS:Hid (cs.size=3):=hcs
  clear h hyes hR hcs
  have TB:Hid (1=1):=rfl
  obtain ⟨w0,hw0⟩:∃ w0,w0=w.alloc (.cells cs 54):=⟨_,rfl⟩
  have HK0:Hid (Kept No w w0):=by rw [hw0];exact (Kept.refl No w).alloc _
  have HM0:Hid (Box w0 w.heap.size 54 cs):=by rw [hw0];exact Box.new _ _ _
  go_enter Tryz.func49,Tryz.ntmps49
  go_upto_region 1 with (have hguard:=TB;clear hguard;refine wp_boxV rfl 54 _ rfl cs rfl w.heap.size rfl ?_;rw [← hw0];clear hw0 TB)
  obtain ⟨w1,hw1⟩:∃ w1,w1=w0.alloc (.cells #[.slice sa sn sc,.int .i64 f,.int .i64 p,.int .i64 bu,.int .i64 bl,.int .i64 ro] 24):=⟨_,rfl⟩
  rw [← hw1]
  have hk1:Kept No w0 w1:=by rw [hw1];exact (Kept.refl No w0).alloc _
  have HC1:Hid (Box w1 w0.heap.size 24 #[.slice sa sn sc,.int .i64 f,.int .i64 p,.int .i64 bu,.int .i64 bl,.int .i64 ro]):=by rw [hw1];exact Box.new _ _ _
  have HK1:Hid (Kept No w w1):=HK0.out.then hk1
  have HM1:Hid (Box w1 w.heap.size 54 cs):=HM0.out.kept hk1 (fun e=>e)
  clear hw1 hk1 HM0 HK0
  have q0:=HC1.out.cell 0
  have q1:=HC1.out.cell 1
  have q2:=HC1.out.cell 2
  have q3:=HC1.out.cell 3
  have q4:=HC1.out.cell 4
  have q5:=HC1.out.cell 5
  simp at q0 q1 q2 q3 q4 q5
  go_wp2_with fail
  refine ((HC.out.no HK1.out).right f p bu bl ro).mono ?_
  rintro e w2 ⟨rfl,hk2⟩
  have HK2:Hid (Kept No w w2):=HK1.out.then hk2
  have HM2:Hid (Box w2 w.heap.size 54 cs):=HM1.out.kept hk2 (fun e=>e)
  have HC2:Hid (Box w2 w0.heap.size 24 #[.slice sa sn sc,.int .i64 f,.int .i64 p,.int .i64 bu,.int .i64 bl,.int .i64 ro]):=HC1.out.kept hk2 (fun e=>e)
  clear hk2 q0 q1 q2 q3 q4 q5
  rw [HN.out]
  clear HN HC HC1 HM1
  have q0:=HC2.out.cell 0
  have q1:=HC2.out.cell 1
  have q2:=HC2.out.cell 2
  have q3:=HC2.out.cell 3
  have q4:=HC2.out.cell 4
  have q5:=HC2.out.cell 5
  simp at q0 q1 q2 q3 q4 q5
  have TL:Hid (1=1):=rfl
  cases bb with
  | true=>
    go_wp2_with (first
      | (have hguard:=TL;clear hguard;refine wp_load54 rfl _ rfl w.heap.size cs rfl HS.out HM2.out ?_;clear TL)
      | (refine (HR.out _ HK2.out).mono ?_;rintro e w3 ⟨rfl,hk3⟩;have HK3:Hid (Kept No w w3):=HK2.out.then hk3;clear hk3 q0 q1 q2 q3 q4 q5))
    go_ret
    exact ⟨rfl,HK3.out⟩
  | false=>
    go_wp2_with (first
      | (have hguard:=TL;clear hguard;refine wp_load54 rfl _ rfl w.heap.size cs rfl HS.out HM2.out ?_;clear TL)
      | (refine (HR.out _ HK2.out).mono ?_;rintro e w3 ⟨rfl,hk3⟩;have HK3:Hid (Kept No w w3):=HK2.out.then hk3;clear hk3 q0 q1 q2 q3 q4 q5))
    go_ret
    exact ⟨rfl,HK3.out⟩
set_option maxRecDepth 100000 in
set_option maxHeartbeats 2000000 in
theorem judgeCommand_all (cs:Array Value) (hcs:cs.size=9) (bb:Bool) (r:Int) (sa:Option Addr) (sn sc:Nat) (zs:List Int) (f p bu bl ro:Int) (w:World) (h:Cfg w sa sn sc zs) (hyes:cfgB zs f p bu bl ro=true)
    (hR:∀ W,Kept No w W→Calls Tryz.prog 64 #[.agg cs,cfgV (.slice sa sn sc) f p bu bl ro] W fun e w'=>e=.returned (.bool bb)∧Kept No W w') :
    Calls Tryz.prog 63 #[.agg cs,cfgV (.slice sa sn sc) f p bu bl ro,FV 64,.int .i64 r] w fun e w'=>e=.returned (.int .i64 (if bb then 0 else r))∧Kept No w w':=by
  have HC:Hid (Cfg w sa sn sc zs):=h
  have HN:Hid (cfgB zs f p bu bl ro=true):=hyes
  have HR:Hid (∀ W,Kept No w W→Calls Tryz.prog 64 #[.agg cs,cfgV (.slice sa sn sc) f p bu bl ro] W fun e w'=>e=.returned (.bool bb)∧Kept No W w'):=hR
  have HS:Hid (cs.size=9):=hcs
  clear h hyes hR hcs
  have TB:Hid (1=1):=rfl
  obtain ⟨w0,hw0⟩:∃ w0,w0=w.alloc (.cells cs 45):=⟨_,rfl⟩
  have HK0:Hid (Kept No w w0):=by rw [hw0];exact (Kept.refl No w).alloc _
  have HM0:Hid (Box w0 w.heap.size 45 cs):=by rw [hw0];exact Box.new _ _ _
  go_enter Tryz.func63,Tryz.ntmps63
  go_upto_region 1 with (have hguard:=TB;clear hguard;refine wp_boxV rfl 45 _ rfl cs rfl w.heap.size rfl ?_;rw [← hw0];clear hw0 TB)
  obtain ⟨w1,hw1⟩:∃ w1,w1=w0.alloc (.cells #[.slice sa sn sc,.int .i64 f,.int .i64 p,.int .i64 bu,.int .i64 bl,.int .i64 ro] 24):=⟨_,rfl⟩
  rw [← hw1]
  have hk1:Kept No w0 w1:=by rw [hw1];exact (Kept.refl No w0).alloc _
  have HC1:Hid (Box w1 w0.heap.size 24 #[.slice sa sn sc,.int .i64 f,.int .i64 p,.int .i64 bu,.int .i64 bl,.int .i64 ro]):=by rw [hw1];exact Box.new _ _ _
  have HK1:Hid (Kept No w w1):=HK0.out.then hk1
  have HM1:Hid (Box w1 w.heap.size 45 cs):=HM0.out.kept hk1 (fun e=>e)
  clear hw1 hk1 HM0 HK0
  have q0:=HC1.out.cell 0
  have q1:=HC1.out.cell 1
  have q2:=HC1.out.cell 2
  have q3:=HC1.out.cell 3
  have q4:=HC1.out.cell 4
  have q5:=HC1.out.cell 5
  simp at q0 q1 q2 q3 q4 q5
  go_wp2_with fail
  refine ((HC.out.no HK1.out).right f p bu bl ro).mono ?_
  rintro e w2 ⟨rfl,hk2⟩
  have HK2:Hid (Kept No w w2):=HK1.out.then hk2
  have HM2:Hid (Box w2 w.heap.size 45 cs):=HM1.out.kept hk2 (fun e=>e)
  have HC2:Hid (Box w2 w0.heap.size 24 #[.slice sa sn sc,.int .i64 f,.int .i64 p,.int .i64 bu,.int .i64 bl,.int .i64 ro]):=HC1.out.kept hk2 (fun e=>e)
  clear hk2 q0 q1 q2 q3 q4 q5
  rw [HN.out]
  clear HN HC HC1 HM1
  have q0:=HC2.out.cell 0
  have q1:=HC2.out.cell 1
  have q2:=HC2.out.cell 2
  have q3:=HC2.out.cell 3
  have q4:=HC2.out.cell 4
  have q5:=HC2.out.cell 5
  simp at q0 q1 q2 q3 q4 q5
  have TL:Hid (1=1):=rfl
  cases bb with
  | true=>
    go_wp2_with (first
      | (have hguard:=TL;clear hguard;refine wp_load45 rfl _ rfl w.heap.size cs rfl HS.out HM2.out ?_;clear TL)
      | (refine (HR.out _ HK2.out).mono ?_;rintro e w3 ⟨rfl,hk3⟩;have HK3:Hid (Kept No w w3):=HK2.out.then hk3;clear hk3 q0 q1 q2 q3 q4 q5))
    go_ret
    exact ⟨rfl,HK3.out⟩
  | false=>
    go_wp2_with (first
      | (have hguard:=TL;clear hguard;refine wp_load45 rfl _ rfl w.heap.size cs rfl HS.out HM2.out ?_;clear TL)
      | (refine (HR.out _ HK2.out).mono ?_;rintro e w3 ⟨rfl,hk3⟩;have HK3:Hid (Kept No w w3):=HK2.out.then hk3;clear hk3 q0 q1 q2 q3 q4 q5))
    go_ret
    exact ⟨rfl,HK3.out⟩
end Go.Proofs.YtgdnofacgfjaeabGreat.Wi
namespace Go.Proofs.YtgdnofacgfjaeabGreat.Md
open Go.RowKit
set_option linter.unusedVariables false
set_option linter.unusedSimpArgs false
theorem kw {w w':World} (h:Wi.Kept Wi.No w w'):Kept No w w':=⟨h.os,h.tape,h.output,h.size,fun k hk hS=>h.block k hk hS⟩
theorem wk {w w':World} (h:Kept No w w'):Wi.Kept Wi.No w w':=⟨h.os,h.tape,h.output,h.size,fun k hk hS=>h.block k hk hS⟩
theorem callw {f:FuncId} {args:Array Value} {w:World} {v:Value} (h:Calls Tryz.prog f args w fun e w'=>e=.returned v∧Wi.Kept Wi.No w w'):Calls Tryz.prog f args w fun e w'=>e=.returned v∧Kept No w w':=
  h.mono (by rintro e w' ⟨h1,h2⟩;exact ⟨h1,kw h2⟩)
theorem wcall {f:FuncId} {args:Array Value} {w:World} {v:Value} (h:Calls Tryz.prog f args w fun e w'=>e=.returned v∧Kept No w w'):Calls Tryz.prog f args w fun e w'=>e=.returned v∧Wi.Kept Wi.No w w':=
  h.mono (by rintro e w' ⟨h1,h2⟩;exact ⟨h1,wk h2⟩)
structure MgIn (w:World) (m:Mg) (zs:List Int) (es:List En) (ls:List La) (cs:List Cm):Prop where
  b:RdB w m.bl zs
  e:RdE w m.bk.e es
  l:RdL w m.bk.l ls
  c:RdC w m.cm cs
  nb:m.bl.l≤140737488351232
  ne:m.bk.e.l≤3518437208780
  nl:m.bk.l.l≤2513169434843
  nc:m.cm.l≤1759218604390
  u:Wi.U8 zs
theorem MgIn.no {w w':World} {m:Mg} {zs:List Int} {es:List En} {ls:List La} {cs:List Cm} (H:MgIn w m zs es ls cs) (hk:Kept No w w'):MgIn w' m zs es ls cs:=⟨H.b.no hk,H.e.no hk,H.l.no hk,H.c.no hk,H.nb,H.ne,H.nl,H.nc,H.u⟩
structure BkIn (w:World) (x:Bv) (es:List En) (ls:List La):Prop where
  e:RdE w x.e es
  l:RdL w x.l ls
  ne:x.e.l≤3518437208780
  nl:x.l.l≤2513169434843
theorem BkIn.no {w w':World} {x:Bv} {es:List En} {ls:List La} (H:BkIn w x es ls) (hk:Kept No w w'):BkIn w' x es ls:=⟨H.e.no hk,H.l.no hk,H.ne,H.nl⟩
structure CgIn (w:World) (c:Cg) (zs:List Int):Prop where
  r:RdI w c.sv zs
  n:c.sv.l≤17592186043904
theorem CgIn.no {w w':World} {c:Cg} {zs:List Int} (H:CgIn w c zs) (hk:Kept No w w'):CgIn w' c zs:=⟨H.r.no hk,H.n⟩
noncomputable def cfgP (c:Cg) (zs:List Int):Bool:=Wi.cfgB zs c.f c.po c.bu c.bl c.rm
theorem inb {n lo hi:Int} (h:Wi.inB n lo hi=true):lo≤n∧n≤hi:=by simpa [Wi.inB] using h
theorem cfgP_bd {c:Cg} {zs:List Int} (h:cfgP c zs=true):((1≤c.bl∧c.bl≤4096)∧(1≤c.bu∧c.bu≤256))∧1≤c.rm∧c.rm≤256:=by
  unfold cfgP Wi.cfgB at h
  rw [Bool.and_eq_true,Bool.and_eq_true,Bool.and_eq_true,Bool.and_eq_true] at h
  obtain ⟨_,_,h1,h2,h3⟩:=h
  exact ⟨⟨inb h2,inb h1⟩,inb h3⟩
theorem cfg_bl {c:Cg} {zs:List Int} (h:cfgP c zs=true):0≤c.bl∧c.bl≤4096:=by have:=(cfgP_bd h).1.1;omega
theorem CgIn.wi {w:World} {c:Cg} {zs:List Int} (h:CgIn w c zs):Wi.Cfg w c.sv.a c.sv.l c.sv.k zs:=⟨h.r.row,h.r.len,h.n⟩
def jdg (a b:Bool) (r:Int):Int:=bif a then (bif b then 0 else r) else 20
theorem jdg_if (b:Bool) (r:Int):(if b then 0 else r)=jdg true b r:=by cases b <;> rfl
theorem judgeK (x:Bv) (c:Cg) (zs:List Int) (es:List En) (ls:List La) (r:Int) (w:World) (hc:CgIn w c zs) (hm:BkIn w x es ls) :
    Calls Tryz.prog 49 #[.agg (Bv.cells x),.agg (Cg.cells c),.func (.func 47) #[] #[],.int .i64 r] w fun e w'=>e=.returned (.int .i64 (jdg (cfgP c zs) (bktP c.bl c.rm x es ls) r))∧Kept No w w':=by
  cases hq:cfgP c zs with
  | false=>exact callw (Wi.judgeBucket_no (Bv.cells x) _ r c.sv.a c.sv.l c.sv.k zs c.f c.po c.bu c.bl c.rm w hc.wi hq)
  | true=>
    rw [← jdg_if]
    exact callw (Wi.judgeBucket_all (Bv.cells x) rfl _ r c.sv.a c.sv.l c.sv.k zs c.f c.po c.bu c.bl c.rm w hc.wi hq (fun W hk=>wcall (p_rightBucket x es ls c W (cfg_bl hq) (hm.e.no (kw hk)) (hm.l.no (kw hk)) (by have:=hm.ne;omega) (by have:=hm.nl;omega))))
end Go.Proofs.YtgdnofacgfjaeabGreat.Md
