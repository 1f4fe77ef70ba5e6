import Derived.Test.YtgdnofacgfjaeabGreatWiU
import Derived.Test.YtgdnofacgfjaeabGreatWiY
import Derived.Deep.RegionHeld3
namespace Go.Proofs.YtgdnofacgfjaeabGreat.Wi
open Go.RowKit
set_option linter.unusedVariables false
theorem RdM.fin {w0 W:World} {r g lb:Nat} {odd:Bool} {st:RS} (h:RdM w0 W r g lb odd st) :
    Calls Tryz.prog 130 #[.pointer (some ⟨g,0,none⟩)] W fun e w'=>e=.returned (.tuple #[])∧RdM w0 w' r g lb odd (endS st):=by
  refine (End_all g lb st W h.rs).mono ?_
  rintro e w' ⟨rfl,h1,h2⟩
  exact ⟨rfl,h.box.kept h2 (fun e=>h.rg e),h1,h.rg,h.rl,Nat.lt_of_lt_of_le h.ltl h2.size,h.kept.then (h2.mono (fun i _ e=>.inr e))⟩
def wholeB (odd:Bool) (st:RS):Bool:=decide ((errS (endS st)).2=0)&&!odd
set_option maxRecDepth 100000 in
set_option maxHeartbeats 1000000 in
theorem RdM.whole {w0 W:World} {r g lb:Nat} {odd:Bool} {st:RS} (h:RdM w0 W r g lb odd st) :
    Calls Tryz.prog 81 #[.pointer (some ⟨r,0,none⟩)] W fun e w'=>e=.returned (.bool (wholeB odd st))∧RdM w0 w' r g lb odd (endS st):=by
  have HR:Hid (RdM w0 W r g lb odd st):=h
  have q0:=h.c0
  clear h
  go_enter Tryz.func81,Tryz.ntmps81
  go_wp2_with fail
  refine HR.out.fin.mono ?_
  rintro e w1 ⟨rfl,hr⟩
  have HR1:Hid (RdM w0 w1 r g lb odd (endS st)):=hr
  have q1:=hr.c0
  clear hr q0 HR
  have HW:Hid (wholeB odd st=(decide ((errS (endS st)).2=0)&&!odd)):=rfl
  obtain ⟨pe,hpe⟩:∃ pe,(errS (endS st)).1=pe:=⟨_,rfl⟩
  obtain ⟨ce,hce⟩:∃ ce,(errS (endS st)).2=ce:=⟨_,rfl⟩
  have HE:Hid (Calls Tryz.prog 131 #[.pointer (some ⟨g,0,none⟩)] w1 fun e w'=>e=.returned (.tuple #[.int .i64 pe,.int .i64 ce])∧∃ n,w'=w1.drewN n):=by
    have:=Err_all g lb (endS st) w1 HR1.out.rs
    rw [hpe,hce] at this
    exact this
  rw [hce] at HW
  clear hpe hce
  go_wp2_with fail
  refine HE.out.mono ?_
  rintro e w2 ⟨rfl,n,rfl⟩
  have HR2:Hid (RdM w0 (w1.drewN n) r g lb odd (endS st)):=HR1.out.no (Kept.no_drewN w1 n)
  have q2:=HR2.out.c1
  generalize w1.drewN n=w2 at *
  clear HR1 q1 HE
  by_cases hc:ce=0
  · subst hc
    cases odd with
    | true=>
      go_wp2
      go_ret
      exact ⟨ret_bool (by rw [HW.out];rfl),HR2.out⟩
    | false=>
      go_wp2
      go_ret
      exact ⟨ret_bool (by rw [HW.out];rfl),HR2.out⟩
  · have hc':(ce==0)=false:=by simp [hc]
    have hd:decide (ce=0)=false:=decide_eq_false hc
    rw [hd] at HW
    clear hc hd
    go_wp2
    go_ret
    exact ⟨ret_bool (by rw [HW.out];rfl),HR2.out⟩
def UpOut (X:World→World→Array Value→Prop) (w:World) (c:Bool) (z:Array Value) (r:Int) (e:Ending) (w':World):Prop:=∃ cs,e=.returned (.tuple #[.agg (if c then cs else z),.int .i64 (if c then 0 else r)])∧(∃ W0,w.heap.size≤W0.heap.size∧X W0 w' cs)∧Kept No w w'
theorem wpList_wanted {P:Program} {ops:Array Oper} {Q:Exit→Act→World→Prop} {o:Oper} {rest:List Oper} {a:Act} {w:World} (hw:Region.wanted o (yielded ops a.tmps)=true)
    (h:wpList P ops Q ({ o with guard:=none } :: rest) a w):wpList P ops Q (o :: rest) a w:=by
  have hw':Region.wanted { o with guard:=none } (yielded ops a.tmps)=true:=by simp [Region.wanted]
  unfold wpList at h ⊢
  rw [if_pos hw'] at h
  rw [if_pos hw]
  exact h
set_option maxRecDepth 100000 in
set_option maxHeartbeats 8000000 in
theorem unpackMsg_all (ba:Option Addr) (bn bc:Nat) (ys:List Int) (r:Int) (sa:Option Addr) (sn sc:Nat) (zs:List Int) (f p bu bl ro:Int) (w:World) (h:Cfg w sa sn sc zs) (hyes:cfgB zs f p bu bl ro=true) (hs:Sl w ba bn bc ys) (ho:(openOf ys).2=0) (h8:U8 (openOf ys).1) (hl8:(openOf ys).1.length≤140737488351232)
    (odd1:Bool) (st1:RS) (bb:Bool) (X:World→World→Array Value→Prop)
    (hXs:∀ W0 W1 cs,X W0 W1 cs→cs.size=30∧cs.all (·.oneCell')=true)
    (hX:∀ W0 W1 W2 cs,X W0 W1 cs→Kept (fun k=>k < W0.heap.size∨W1.heap.size≤k) W1 W2→X W0 W2 cs)
    (hRead:∀ W r g lb,Kept No w W→RdM W W r g lb false (.ok (openOf ys).1 0)→Calls Tryz.prog 58 #[.pointer (some ⟨r,0,none⟩)] W fun e w'=>∃ cs,e=.returned (.agg cs)∧RdM W w' r g lb odd1 st1∧X W w' cs)
    (hRight:∀ W0 W cs,Kept No w W→X W0 W cs→Calls Tryz.prog 55 #[.agg cs,cfgV (.slice sa sn sc) f p bu bl ro] W fun e w'=>e=.returned (.bool bb)∧Kept No W w') :
    Calls Tryz.prog 57 #[.slice ba bn bc,cfgV (.slice sa sn sc) f p bu bl ro,FV 58,FV 55,.int .i64 r] w (UpOut X w (wholeB odd1 st1&&bb) mZ.cells r):=by
  have HC:Hid (Cfg w sa sn sc zs):=h
  have HN:Hid (cfgB zs f p bu bl ro=true):=hyes
  have HS:Hid (Sl w ba bn bc ys):=hs
  have HOV:Hid ((openOf ys).2=0):=ho
  have H8:Hid (U8 (openOf ys).1∧(openOf ys).1.length≤140737488351232):=⟨h8,hl8⟩
  have HXs:Hid (∀ W0 W1 cs,X W0 W1 cs→cs.size=30∧cs.all (·.oneCell')=true):=hXs
  have HX:Hid (∀ W0 W1 W2 cs,X W0 W1 cs→Kept (fun k=>k < W0.heap.size∨W1.heap.size≤k) W1 W2→X W0 W2 cs):=hX
  have HRead:Hid (∀ W r g lb,Kept No w W→RdM W W r g lb false (.ok (openOf ys).1 0)→Calls Tryz.prog 58 #[.pointer (some ⟨r,0,none⟩)] W fun e w'=>∃ cs,e=.returned (.agg cs)∧RdM W w' r g lb odd1 st1∧X W w' cs):=hRead
  have HRight:Hid (∀ W0 W cs,Kept No w W→X W0 W cs→Calls Tryz.prog 55 #[.agg cs,cfgV (.slice sa sn sc) f p bu bl ro] W fun e w'=>e=.returned (.bool bb)∧Kept No W w'):=hRight
  clear h hyes hs ho h8 hl8 hXs hX hRead hRight
  have TA:Hid (1=1):=rfl
  have TB:Hid (1=1):=rfl
  go_enter Tryz.func57,Tryz.ntmps57
  go_upto_region 2 with (first
    | (have hguard:=TA;clear hguard;refine wp_allocT rfl 71 rfl mZ.cells Tryz.info45z (w.heap.size+1) (by simp) ?_;clear TA)
    | (have hguard:=TB;clear hguard;refine wp_allocT rfl 71 rfl mZ.cells Tryz.info45z (w.heap.size+1+1) (by simp) ?_;clear TB))
  obtain ⟨w3,hw3⟩:∃ w3,w3=((w.alloc (.cells #[.slice sa sn sc,.int .i64 f,.int .i64 p,.int .i64 bu,.int .i64 bl,.int .i64 ro] 24)).alloc (.cells mZ.cells 71)).alloc (.cells mZ.cells 71):=⟨_,rfl⟩
  rw [← hw3]
  have HK3:Hid (Kept No w w3):=by rw [hw3];exact (((Kept.refl No w).alloc _).alloc _).alloc _
  have HC3:Hid (Box w3 w.heap.size 24 #[.slice sa sn sc,.int .i64 f,.int .i64 p,.int .i64 bu,.int .i64 bl,.int .i64 ro]):=by rw [hw3];exact ((Box.new w 24 _).alloc _).alloc _
  have HA3:Hid (Box w3 (w.heap.size+1) 71 mZ.cells):=by
    show Box _ _ _ _
    rw [hw3]
    have:=(Box.new (w.alloc (.cells #[.slice sa sn sc,.int .i64 f,.int .i64 p,.int .i64 bu,.int .i64 bl,.int .i64 ro] 24)) 71 mZ.cells).alloc (.cells mZ.cells 71)
    simpa using this
  have HZ3:Hid (Box w3 (w.heap.size+1+1) 71 mZ.cells):=by
    show Box _ _ _ _
    rw [hw3]
    have:=Box.new ((w.alloc (.cells #[.slice sa sn sc,.int .i64 f,.int .i64 p,.int .i64 bu,.int .i64 bl,.int .i64 ro] 24)).alloc (.cells mZ.cells 71)) 71 mZ.cells
    simpa using this
  clear hw3
  try simp only[Act.put,List.setIfInBounds_toArray,List.set_cons_zero,List.set_cons_succ]
  have q0:=HC3.out.cell 0
  have q1:=HC3.out.cell 1
  have q2:=HC3.out.cell 2
  have q3:=HC3.out.cell 3
  have q4:=HC3.out.cell 4
  have q5:=HC3.out.cell 5
  simp at q0 q1 q2 q3 q4 q5
  go_wp2_with fail
  refine ((HC.out.no HK3.out).right f p bu bl ro).mono ?_
  rintro e w4 ⟨rfl,hk4⟩
  have HK4:Hid (Kept No w w4):=HK3.out.then hk4
  have HA4:Hid (Box w4 (w.heap.size+1) 71 mZ.cells):=HA3.out.kept hk4 (fun e=>e)
  have HZ4:Hid (Box w4 (w.heap.size+1+1) 71 mZ.cells):=HZ3.out.kept hk4 (fun e=>e)
  have HC4:Hid (Box w4 w.heap.size 24 #[.slice sa sn sc,.int .i64 f,.int .i64 p,.int .i64 bu,.int .i64 bl,.int .i64 ro]):=HC3.out.kept hk4 (fun e=>e)
  clear hk4 q0 q1 q2 q3 q4 q5 HK3 HA3 HZ3 HC3
  rw [HN.out]
  have HO:Hid (Calls Tryz.prog 79 #[.slice ba bn bc] w4 (Opens w4 ys)):=open_sl (HS.out.no HK4.out)
  clear HN HC
  go_wp2_with fail
  refine HO.out.mono ?_
  rintro e w5 ⟨a5,n5,c5,he,hn5,hO5,hk5⟩
  rw [HOV.out] at he
  subst he
  have HK5:Hid (Kept No w w5):=HK4.out.then hk5
  have HA5:Hid (Box w5 (w.heap.size+1) 71 mZ.cells):=HA4.out.kept hk5 (fun e=>e)
  have HZ5:Hid (Box w5 (w.heap.size+1+1) 71 mZ.cells):=HZ4.out.kept hk5 (fun e=>e)
  have HC5:Hid (Box w5 w.heap.size 24 #[.slice sa sn sc,.int .i64 f,.int .i64 p,.int .i64 bu,.int .i64 bl,.int .i64 ro]):=HC4.out.kept hk5 (fun e=>e)
  have HRd:Hid (Calls Tryz.prog 80 #[.slice a5 n5 c5] w5 fun e w'=>∃ g lb,e=.returned (.pointer (some ⟨g,0,none⟩))∧w5.heap.size≤g∧w5.heap.size≤lb∧Rs w' g lb (.ok (openOf ys).1 0)∧Kept No w5 w'∧g < w'.heap.size∧(lb < w'.heap.size)):=Read_any a5 n5 c5 (openOf ys).1 w5 (hO5.sl hn5.symm H8.out.1 (by rw [hn5];exact H8.out.2))
  clear hk5 HO HA4 HZ4 HC4 HK4 hn5 hO5 HS HOV
  go_wp2_with fail
  refine HRd.out.mono ?_
  rintro e w6 ⟨g,lb,rfl,hg5,hl5,hrs,hk6,hg6,hl6⟩
  obtain ⟨w7,hw7⟩:∃ w7,w7=w6.alloc (.cells #[.pointer (some ⟨g,0,none⟩),.bool false] 140):=⟨_,rfl⟩
  have hk7:Kept No w6 w7:=by rw [hw7];exact (Kept.refl No w6).alloc _
  have hb7:Box w7 w6.heap.size 140 #[.pointer (some ⟨g,0,none⟩),.bool false]:=by rw [hw7];exact Box.new _ _ _
  have HRM:Hid (RdM w7 w7 w6.heap.size g lb false (.ok (openOf ys).1 0)):=⟨hb7,hrs.no hk7,by omega,by omega,Nat.lt_of_lt_of_le hl6 hk7.size,Kept.refl _ _⟩
  have HK7:Hid (Kept No w w7):=HK5.out.then (hk6.then hk7)
  have HA7:Hid (Box w7 (w.heap.size+1) 71 mZ.cells):=HA5.out.kept (hk6.then hk7) (fun e=>e)
  have HZ7:Hid (Box w7 (w.heap.size+1+1) 71 mZ.cells):=HZ5.out.kept (hk6.then hk7) (fun e=>e)
  have HC7:Hid (Box w7 w.heap.size 24 #[.slice sa sn sc,.int .i64 f,.int .i64 p,.int .i64 bu,.int .i64 bl,.int .i64 ro]):=HC5.out.kept (hk6.then hk7) (fun e=>e)
  have HL:Hid (w.heap.size+1+1 < w5.heap.size∧w5.heap.size≤g∧w5.heap.size≤lb∧w5.heap.size≤w6.heap.size∧w6.heap.size < w7.heap.size∧g < w7.heap.size∧lb < w7.heap.size):=⟨HZ5.out.lt,hg5,hl5,hk6.size,hb7.lt,Nat.lt_of_lt_of_le hg6 hk7.size,Nat.lt_of_lt_of_le hl6 hk7.size⟩
  have HCl:Hid (Calls Tryz.prog 58 #[.pointer (some ⟨w6.heap.size,0,none⟩)] w7 fun e w'=>∃ cs,e=.returned (.agg cs)∧RdM w7 w' w6.heap.size g lb odd1 st1∧X w7 w' cs):=HRead.out w7 _ g lb HK7.out HRM.out
  clear hk6 hk7 hb7 hrs hg5 hl5 hg6 hl6 HA5 HZ5 HC5 HK5 HRd HRM HRead
  go_upto_region 8 with fail
  rw [← hw7]
  clear hw7
  go_wp2_with fail
  refine HCl.out.mono ?_
  rintro e w8 ⟨cs,rfl,hrm8,hx8⟩
  have HS8:Hid (cs.size=30∧cs.all (·.oneCell')=true):=HXs.out _ _ _ hx8
  have hA8:Box w8 (w.heap.size+1) 71 mZ.cells:=hrm8.other HA7.out (by have:=HL.out;omega) (by have:=HL.out;omega)
  have hZ8:Box w8 (w.heap.size+1+1) 71 mZ.cells:=hrm8.other HZ7.out (by have:=HL.out;omega) (by have:=HL.out;omega)
  have hC8:Box w8 w.heap.size 24 #[.slice sa sn sc,.int .i64 f,.int .i64 p,.int .i64 bu,.int .i64 bl,.int .i64 ro]:=hrm8.other HC7.out (by have:=HL.out;omega) (by have:=HL.out;omega)
  have hK8:Kept No w w8:=HK7.out.fresh hrm8.kept (fun i e=>by have:=HL.out;omega)
  have HB8:Hid (Box (w8.alloc (.cells mZ.cells 71)) w8.heap.size 71 mZ.cells):=Box.new _ _ _
  have hk9:Kept No w8 ((w8.alloc (.cells mZ.cells 71)).setRow w8.heap.size cs):=((Kept.refl No w8).alloc _).fresh (Kept.setRow _ _ _) (fun i e=>by unfold Only at e;omega)
  have TA:Hid (1=1):=rfl
  have TS:Hid (1=1):=rfl
  have HH8:Hid (RdM w7 w8 w6.heap.size g lb odd1 st1∧X w7 w8 cs∧Box w8 (w.heap.size+1) 71 mZ.cells∧Box w8 (w.heap.size+1+1) 71 mZ.cells∧Box w8 w.heap.size 24 #[.slice sa sn sc,.int .i64 f,.int .i64 p,.int .i64 bu,.int .i64 bl,.int .i64 ro]∧Kept No w w8∧Kept No w8 ((w8.alloc (.cells mZ.cells 71)).setRow w8.heap.size cs)):=⟨hrm8,hx8,hA8,hZ8,hC8,hK8,hk9⟩
  clear hrm8 hx8 hA8 hZ8 hC8 hK8 hk9 HCl HA7 HZ7 HC7
  go_upto_region 9 with (first
    | (have hguard:=TA;clear hguard;refine wp_allocT rfl 71 rfl mZ.cells Tryz.info45z w8.heap.size rfl ?_;clear TA)
    | (have hguard:=TS;clear hguard;refine wpList_store_row rfl 71 _ _ rfl w8.heap.size cs (by rfl) (by rfl) 71 mZ.cells HB8.out (by rw [HS8.out.1];exact Tryz.size71) (by rw [HS8.out.1];rfl) HS8.out.2 ?_;clear TS))
  obtain ⟨w9,hw9⟩:∃ w9,w9=(w8.alloc (.cells mZ.cells 71)).setRow w8.heap.size cs:=⟨_,rfl⟩
  have HB9:Hid (Box w9 w8.heap.size 71 cs):=by rw [hw9];exact HB8.out.setRow _
  rw [← hw9] at HH8 ⊢
  obtain ⟨hrm8,hx8,hA8,hZ8,hC8,hK8,hk9⟩:=HH8.out
  have HR9:Hid (RdM w7 w9 w6.heap.size g lb odd1 st1):=hrm8.no hk9
  have HX9:Hid (X w7 w9 cs):=HX.out _ _ _ _ hx8 hk9.of_no
  have HA9:Hid (Box w9 (w.heap.size+1) 71 mZ.cells):=hA8.kept hk9 (fun e=>e)
  have HZ9:Hid (Box w9 (w.heap.size+1+1) 71 mZ.cells):=hZ8.kept hk9 (fun e=>e)
  have HC9:Hid (Box w9 w.heap.size 24 #[.slice sa sn sc,.int .i64 f,.int .i64 p,.int .i64 bu,.int .i64 bl,.int .i64 ro]):=hC8.kept hk9 (fun e=>e)
  have HK9:Hid (Kept No w w9):=hK8.then hk9
  have HL9:Hid (w7.heap.size≤w8.heap.size∧w8.heap.size < w9.heap.size):=⟨hrm8.kept.size,HB9.out.lt⟩
  clear hrm8 hx8 hA8 hZ8 hC8 hK8 hk9 HH8 hw9 HB8
  try simp only[Act.put,List.setIfInBounds_toArray,List.set_cons_zero,List.set_cons_succ]
  have HW:Hid (Calls Tryz.prog 81 #[.pointer (some ⟨w6.heap.size,0,none⟩)] w9 fun e w'=>e=.returned (.bool (wholeB odd1 st1))∧RdM w7 w' w6.heap.size g lb odd1 (endS st1)):=HR9.out.whole
  have HWk:Hid (∀ W,RdM w9 W w6.heap.size g lb odd1 (endS st1)→Box W w8.heap.size 71 cs∧X w7 W cs∧Box W (w.heap.size+1) 71 mZ.cells∧Box W (w.heap.size+1+1) 71 mZ.cells∧Box W w.heap.size 24 #[.slice sa sn sc,.int .i64 f,.int .i64 p,.int .i64 bu,.int .i64 bl,.int .i64 ro]∧Kept No w W):=fun W hW=>by
    have h1:=HL.out
    have h2:=HL9.out
    exact ⟨hW.other HB9.out (by omega) (by omega),HX.out _ _ _ _ HX9.out (hW.kept.mono (fun i _ e=>by omega)),hW.other HA9.out (by omega) (by omega),hW.other HZ9.out (by omega) (by omega),hW.other HC9.out (by omega) (by omega),HK9.out.fresh hW.kept (fun i e=>by omega)⟩
  have HW2:Hid (Calls Tryz.prog 81 #[.pointer (some ⟨w6.heap.size,0,none⟩)] w9 fun e w'=>e=.returned (.bool (wholeB odd1 st1))∧RdM w9 w' w6.heap.size g lb odd1 (endS st1)):=HR9.out.anew.whole
  clear HW HR9
  go_wp2_with fail
  refine HW2.out.mono ?_
  rintro e w10 ⟨rfl,hr10⟩
  obtain ⟨hB10,hX10,hA10,hZ10,hC10,hK10⟩:=HWk.out w10 hr10
  have HB10:Hid (Box w10 w8.heap.size 71 cs):=hB10
  have HX10:Hid (X w7 w10 cs):=hX10
  have HA10:Hid (Box w10 (w.heap.size+1) 71 mZ.cells):=hA10
  have HZ10:Hid (Box w10 (w.heap.size+1+1) 71 mZ.cells):=hZ10
  have HC10:Hid (Box w10 w.heap.size 24 #[.slice sa sn sc,.int .i64 f,.int .i64 p,.int .i64 bu,.int .i64 bl,.int .i64 ro]):=hC10
  have HK10:Hid (Kept No w w10):=hK10
  have HL10:Hid (w9.heap.size≤w10.heap.size):=hr10.kept.size
  clear hr10 hB10 hX10 hA10 hZ10 hC10 hK10 HWk HW2 HB9 HX9 HA9 HZ9 HC9 HK9
  have HXF:Hid (∀ (W:World),Kept (Only (w.heap.size+1)) w10 W→X w7 w10 cs→X w7 W cs):=fun W hW hx=>HX.out _ _ _ _ hx (hW.mono (fun i _ e=>by have:=HL.out;unfold Only at e;omega))
  have HWE:Hid (wholeB odd1 st1=wholeB odd1 st1):=rfl
  generalize hwb:wholeB odd1 st1=wb at *
  cases wb with
  | false=>
    have TL:Hid (1=1):=rfl
    have TS:Hid (1=1):=rfl
    go_wp2_with (first
      | (have hguard:=TL;clear hguard;refine wp_load71 rfl _ rfl (w.heap.size+1+1) mZ.cells rfl rfl HZ10.out ?_;clear TL)
      | (have hguard:=TS;clear hguard;refine wpList_store_row rfl 71 _ _ rfl (w.heap.size+1) mZ.cells (by rfl) (by rfl) 71 mZ.cells HA10.out Tryz.size71 (by rfl) mZ.one ?_;clear TS))
    have HF:Hid (Box (w10.setRow (w.heap.size+1) mZ.cells) (w.heap.size+1) 71 mZ.cells):=HA10.out.setRow _
    refine bodyPost_ret (results_row_tmp (by rfl) _ _ (w.heap.size+1) mZ.cells (by rfl) (load71_run HF.out rfl)) rfl ?_
    exact ⟨cs,rfl,⟨w7,HK7.out.size,HXF.out _ (Kept.setRow _ _ _) HX10.out⟩,HK10.out.fresh (Kept.setRow _ _ _) (fun i e=>by unfold Only at e;omega)⟩
  | true=>
    have q0:=HC10.out.cell 0
    have q1:=HC10.out.cell 1
    have q2:=HC10.out.cell 2
    have q3:=HC10.out.cell 3
    have q4:=HC10.out.cell 4
    have q5:=HC10.out.cell 5
    simp at q0 q1 q2 q3 q4 q5
    have HG:Hid (Calls Tryz.prog 55 #[.agg cs,cfgV (.slice sa sn sc) f p bu bl ro] w10 fun e w'=>e=.returned (.bool bb)∧Kept No w10 w'):=HRight.out w7 w10 cs HK10.out HX10.out
    have TG:Hid (1=1):=rfl
    go_wp2_with (have hguard:=TG;clear hguard;refine wpList_wanted (by simp [Region.wanted,yielded]) ?_;refine wp_load71 rfl _ rfl w8.heap.size cs rfl HS8.out.1 HB10.out ?_;clear TG)
    refine HG.out.mono ?_
    rintro e w11 ⟨rfl,hk11⟩
    have HB11:Hid (Box w11 w8.heap.size 71 cs):=HB10.out.kept hk11 (fun e=>e)
    have HX11:Hid (X w7 w11 cs):=HX.out _ _ _ _ HX10.out hk11.of_no
    have HA11:Hid (Box w11 (w.heap.size+1) 71 mZ.cells):=HA10.out.kept hk11 (fun e=>e)
    have HZ11:Hid (Box w11 (w.heap.size+1+1) 71 mZ.cells):=HZ10.out.kept hk11 (fun e=>e)
    have HK11:Hid (Kept No w w11):=HK10.out.then hk11
    clear HXF
    have HXF:Hid (∀ (W:World),Kept (Only (w.heap.size+1)) w11 W→X w7 w11 cs→X w7 W cs):=fun W hW hx=>HX.out _ _ _ _ hx (hW.mono (fun i _ e=>by have:=HL.out;unfold Only at e;omega))
    clear hk11 HB10 HX10 HA10 HZ10 HC10 HK10 HG q0 q1 q2 q3 q4 q5 HRight
    cases bb with
    | false=>
      have TL:Hid (1=1):=rfl
      have TS:Hid (1=1):=rfl
      go_wp2_with (first
        | (have hguard:=TL;clear hguard;refine wp_load71 rfl _ rfl (w.heap.size+1+1) mZ.cells rfl rfl HZ11.out ?_;clear TL)
        | (have hguard:=TS;clear hguard;refine wpList_store_row rfl 71 _ _ rfl (w.heap.size+1) mZ.cells (by rfl) (by rfl) 71 mZ.cells HA11.out Tryz.size71 (by rfl) mZ.one ?_;clear TS))
      have HF:Hid (Box (w11.setRow (w.heap.size+1) mZ.cells) (w.heap.size+1) 71 mZ.cells):=HA11.out.setRow _
      refine bodyPost_ret (results_row_tmp (by rfl) _ _ (w.heap.size+1) mZ.cells (by rfl) (load71_run HF.out rfl)) rfl ?_
      exact ⟨cs,rfl,⟨w7,HK7.out.size,HXF.out _ (Kept.setRow _ _ _) HX11.out⟩,HK11.out.fresh (Kept.setRow _ _ _) (fun i e=>by unfold Only at e;omega)⟩
    | true=>
      have TL:Hid (1=1):=rfl
      have TS:Hid (1=1):=rfl
      go_wp2_with (first
        | (have hguard:=TL;clear hguard;refine wp_load71 rfl _ rfl w8.heap.size cs rfl HS8.out.1 HB11.out ?_;clear TL)
        | (have hguard:=TS;clear hguard;refine wpList_store_row rfl 71 _ _ rfl (w.heap.size+1) cs (by rfl) (by rfl) 71 mZ.cells HA11.out (by rw [HS8.out.1];exact Tryz.size71) (by rw [HS8.out.1];rfl) HS8.out.2 ?_;clear TS))
      have HF:Hid (Box (w11.setRow (w.heap.size+1) cs) (w.heap.size+1) 71 cs):=HA11.out.setRow _
      refine bodyPost_ret (results_row_tmp (by rfl) _ _ (w.heap.size+1) cs (by rfl) (load71_run HF.out HS8.out.1)) rfl ?_
      exact ⟨cs,rfl,⟨w7,HK7.out.size,HXF.out _ (Kept.setRow _ _ _) HX11.out⟩,HK11.out.fresh (Kept.setRow _ _ _) (fun i e=>by unfold Only at e;omega)⟩
set_option maxRecDepth 100000 in
set_option maxHeartbeats 8000000 in
theorem unpackBlock_all (ba:Option Addr) (bn bc:Nat) (ys:List Int) (r:Int) (sa:Option Addr) (sn sc:Nat) (zs:List Int) (f p bu bl ro:Int) (w:World) (h:Cfg w sa sn sc zs) (hyes:cfgB zs f p bu bl ro=true) (hs:Sl w ba bn bc ys) (ho:(openOf ys).2=0) (h8:U8 (openOf ys).1) (hl8:(openOf ys).1.length≤140737488351232)
    (odd1:Bool) (st1:RS) (bb:Bool) (X:World→World→Array Value→Prop)
    (hXs:∀ W0 W1 cs,X W0 W1 cs→cs.size=3∧cs.all (·.oneCell')=true)
    (hX:∀ W0 W1 W2 cs,X W0 W1 cs→Kept (fun k=>k < W0.heap.size∨W1.heap.size≤k) W1 W2→X W0 W2 cs)
    (hRead:∀ W r g lb,Kept No w W→RdM W W r g lb false (.ok (openOf ys).1 0)→Calls Tryz.prog 40 #[.pointer (some ⟨r,0,none⟩)] W fun e w'=>∃ cs,e=.returned (.agg cs)∧RdM W w' r g lb odd1 st1∧X W w' cs)
    (hRight:∀ W0 W cs,Kept No w W→X W0 W cs→Calls Tryz.prog 37 #[.agg cs,cfgV (.slice sa sn sc) f p bu bl ro] W fun e w'=>e=.returned (.bool bb)∧Kept No W w') :
    Calls Tryz.prog 39 #[.slice ba bn bc,cfgV (.slice sa sn sc) f p bu bl ro,FV 40,FV 37,.int .i64 r] w (UpOut X w (wholeB odd1 st1&&bb) zB r):=by
  have HC:Hid (Cfg w sa sn sc zs):=h
  have HN:Hid (cfgB zs f p bu bl ro=true):=hyes
  have HS:Hid (Sl w ba bn bc ys):=hs
  have HOV:Hid ((openOf ys).2=0):=ho
  have H8:Hid (U8 (openOf ys).1∧(openOf ys).1.length≤140737488351232):=⟨h8,hl8⟩
  have HXs:Hid (∀ W0 W1 cs,X W0 W1 cs→cs.size=3∧cs.all (·.oneCell')=true):=hXs
  have HX:Hid (∀ W0 W1 W2 cs,X W0 W1 cs→Kept (fun k=>k < W0.heap.size∨W1.heap.size≤k) W1 W2→X W0 W2 cs):=hX
  have HRead:Hid (∀ W r g lb,Kept No w W→RdM W W r g lb false (.ok (openOf ys).1 0)→Calls Tryz.prog 40 #[.pointer (some ⟨r,0,none⟩)] W fun e w'=>∃ cs,e=.returned (.agg cs)∧RdM W w' r g lb odd1 st1∧X W w' cs):=hRead
  have HRight:Hid (∀ W0 W cs,Kept No w W→X W0 W cs→Calls Tryz.prog 37 #[.agg cs,cfgV (.slice sa sn sc) f p bu bl ro] W fun e w'=>e=.returned (.bool bb)∧Kept No W w'):=hRight
  clear h hyes hs ho h8 hl8 hXs hX hRead hRight
  have TA:Hid (1=1):=rfl
  have TB:Hid (1=1):=rfl
  go_enter Tryz.func39,Tryz.ntmps39
  go_upto_region 2 with (first
    | (have hguard:=TA;clear hguard;refine wp_allocT rfl 37 rfl zB Tryz.info73z (w.heap.size+1) (by simp) ?_;clear TA)
    | (have hguard:=TB;clear hguard;refine wp_allocT rfl 37 rfl zB Tryz.info73z (w.heap.size+1+1) (by simp) ?_;clear TB))
  obtain ⟨w3,hw3⟩:∃ w3,w3=((w.alloc (.cells #[.slice sa sn sc,.int .i64 f,.int .i64 p,.int .i64 bu,.int .i64 bl,.int .i64 ro] 24)).alloc (.cells zB 37)).alloc (.cells zB 37):=⟨_,rfl⟩
  rw [← hw3]
  have HK3:Hid (Kept No w w3):=by rw [hw3];exact (((Kept.refl No w).alloc _).alloc _).alloc _
  have HC3:Hid (Box w3 w.heap.size 24 #[.slice sa sn sc,.int .i64 f,.int .i64 p,.int .i64 bu,.int .i64 bl,.int .i64 ro]):=by rw [hw3];exact ((Box.new w 24 _).alloc _).alloc _
  have HA3:Hid (Box w3 (w.heap.size+1) 37 zB):=by
    show Box _ _ _ _
    rw [hw3]
    have:=(Box.new (w.alloc (.cells #[.slice sa sn sc,.int .i64 f,.int .i64 p,.int .i64 bu,.int .i64 bl,.int .i64 ro] 24)) 37 zB).alloc (.cells zB 37)
    simpa using this
  have HZ3:Hid (Box w3 (w.heap.size+1+1) 37 zB):=by
    show Box _ _ _ _
    rw [hw3]
    have:=Box.new ((w.alloc (.cells #[.slice sa sn sc,.int .i64 f,.int .i64 p,.int .i64 bu,.int .i64 bl,.int .i64 ro] 24)).alloc (.cells zB 37)) 37 zB
    simpa using this
  clear hw3
  try simp only[Act.put,List.setIfInBounds_toArray,List.set_cons_zero,List.set_cons_succ]
  have q0:=HC3.out.cell 0
  have q1:=HC3.out.cell 1
  have q2:=HC3.out.cell 2
  have q3:=HC3.out.cell 3
  have q4:=HC3.out.cell 4
  have q5:=HC3.out.cell 5
  simp at q0 q1 q2 q3 q4 q5
  go_wp2_with fail
  refine ((HC.out.no HK3.out).right f p bu bl ro).mono ?_
  rintro e w4 ⟨rfl,hk4⟩
  have HK4:Hid (Kept No w w4):=HK3.out.then hk4
  have HA4:Hid (Box w4 (w.heap.size+1) 37 zB):=HA3.out.kept hk4 (fun e=>e)
  have HZ4:Hid (Box w4 (w.heap.size+1+1) 37 zB):=HZ3.out.kept hk4 (fun e=>e)
  have HC4:Hid (Box w4 w.heap.size 24 #[.slice sa sn sc,.int .i64 f,.int .i64 p,.int .i64 bu,.int .i64 bl,.int .i64 ro]):=HC3.out.kept hk4 (fun e=>e)
  clear hk4 q0 q1 q2 q3 q4 q5 HK3 HA3 HZ3 HC3
  rw [HN.out]
  have HO:Hid (Calls Tryz.prog 79 #[.slice ba bn bc] w4 (Opens w4 ys)):=open_sl (HS.out.no HK4.out)
  clear HN HC
  go_wp2_with fail
  refine HO.out.mono ?_
  rintro e w5 ⟨a5,n5,c5,he,hn5,hO5,hk5⟩
  rw [HOV.out] at he
  subst he
  have HK5:Hid (Kept No w w5):=HK4.out.then hk5
  have HA5:Hid (Box w5 (w.heap.size+1) 37 zB):=HA4.out.kept hk5 (fun e=>e)
  have HZ5:Hid (Box w5 (w.heap.size+1+1) 37 zB):=HZ4.out.kept hk5 (fun e=>e)
  have HC5:Hid (Box w5 w.heap.size 24 #[.slice sa sn sc,.int .i64 f,.int .i64 p,.int .i64 bu,.int .i64 bl,.int .i64 ro]):=HC4.out.kept hk5 (fun e=>e)
  have HRd:Hid (Calls Tryz.prog 80 #[.slice a5 n5 c5] w5 fun e w'=>∃ g lb,e=.returned (.pointer (some ⟨g,0,none⟩))∧w5.heap.size≤g∧w5.heap.size≤lb∧Rs w' g lb (.ok (openOf ys).1 0)∧Kept No w5 w'∧g < w'.heap.size∧(lb < w'.heap.size)):=Read_any a5 n5 c5 (openOf ys).1 w5 (hO5.sl hn5.symm H8.out.1 (by rw [hn5];exact H8.out.2))
  clear hk5 HO HA4 HZ4 HC4 HK4 hn5 hO5 HS HOV
  go_wp2_with fail
  refine HRd.out.mono ?_
  rintro e w6 ⟨g,lb,rfl,hg5,hl5,hrs,hk6,hg6,hl6⟩
  obtain ⟨w7,hw7⟩:∃ w7,w7=w6.alloc (.cells #[.pointer (some ⟨g,0,none⟩),.bool false] 140):=⟨_,rfl⟩
  have hk7:Kept No w6 w7:=by rw [hw7];exact (Kept.refl No w6).alloc _
  have hb7:Box w7 w6.heap.size 140 #[.pointer (some ⟨g,0,none⟩),.bool false]:=by rw [hw7];exact Box.new _ _ _
  have HRM:Hid (RdM w7 w7 w6.heap.size g lb false (.ok (openOf ys).1 0)):=⟨hb7,hrs.no hk7,by omega,by omega,Nat.lt_of_lt_of_le hl6 hk7.size,Kept.refl _ _⟩
  have HK7:Hid (Kept No w w7):=HK5.out.then (hk6.then hk7)
  have HA7:Hid (Box w7 (w.heap.size+1) 37 zB):=HA5.out.kept (hk6.then hk7) (fun e=>e)
  have HZ7:Hid (Box w7 (w.heap.size+1+1) 37 zB):=HZ5.out.kept (hk6.then hk7) (fun e=>e)
  have HC7:Hid (Box w7 w.heap.size 24 #[.slice sa sn sc,.int .i64 f,.int .i64 p,.int .i64 bu,.int .i64 bl,.int .i64 ro]):=HC5.out.kept (hk6.then hk7) (fun e=>e)
  have HL:Hid (w.heap.size+1+1 < w5.heap.size∧w5.heap.size≤g∧w5.heap.size≤lb∧w5.heap.size≤w6.heap.size∧w6.heap.size < w7.heap.size∧g < w7.heap.size∧lb < w7.heap.size):=⟨HZ5.out.lt,hg5,hl5,hk6.size,hb7.lt,Nat.lt_of_lt_of_le hg6 hk7.size,Nat.lt_of_lt_of_le hl6 hk7.size⟩
  have HCl:Hid (Calls Tryz.prog 40 #[.pointer (some ⟨w6.heap.size,0,none⟩)] w7 fun e w'=>∃ cs,e=.returned (.agg cs)∧RdM w7 w' w6.heap.size g lb odd1 st1∧X w7 w' cs):=HRead.out w7 _ g lb HK7.out HRM.out
  clear hk6 hk7 hb7 hrs hg5 hl5 hg6 hl6 HA5 HZ5 HC5 HK5 HRd HRM HRead
  go_upto_region 8 with fail
  rw [← hw7]
  clear hw7
  go_wp2_with fail
  refine HCl.out.mono ?_
  rintro e w8 ⟨cs,rfl,hrm8,hx8⟩
  have HS8:Hid (cs.size=3∧cs.all (·.oneCell')=true):=HXs.out _ _ _ hx8
  have hA8:Box w8 (w.heap.size+1) 37 zB:=hrm8.other HA7.out (by have:=HL.out;omega) (by have:=HL.out;omega)
  have hZ8:Box w8 (w.heap.size+1+1) 37 zB:=hrm8.other HZ7.out (by have:=HL.out;omega) (by have:=HL.out;omega)
  have hC8:Box w8 w.heap.size 24 #[.slice sa sn sc,.int .i64 f,.int .i64 p,.int .i64 bu,.int .i64 bl,.int .i64 ro]:=hrm8.other HC7.out (by have:=HL.out;omega) (by have:=HL.out;omega)
  have hK8:Kept No w w8:=HK7.out.fresh hrm8.kept (fun i e=>by have:=HL.out;omega)
  have HB8:Hid (Box (w8.alloc (.cells zB 37)) w8.heap.size 37 zB):=Box.new _ _ _
  have hk9:Kept No w8 ((w8.alloc (.cells zB 37)).setRow w8.heap.size cs):=((Kept.refl No w8).alloc _).fresh (Kept.setRow _ _ _) (fun i e=>by unfold Only at e;omega)
  have TA:Hid (1=1):=rfl
  have TS:Hid (1=1):=rfl
  have HH8:Hid (RdM w7 w8 w6.heap.size g lb odd1 st1∧X w7 w8 cs∧Box w8 (w.heap.size+1) 37 zB∧Box w8 (w.heap.size+1+1) 37 zB∧Box w8 w.heap.size 24 #[.slice sa sn sc,.int .i64 f,.int .i64 p,.int .i64 bu,.int .i64 bl,.int .i64 ro]∧Kept No w w8∧Kept No w8 ((w8.alloc (.cells zB 37)).setRow w8.heap.size cs)):=⟨hrm8,hx8,hA8,hZ8,hC8,hK8,hk9⟩
  clear hrm8 hx8 hA8 hZ8 hC8 hK8 hk9 HCl HA7 HZ7 HC7
  go_upto_region 9 with (first
    | (have hguard:=TA;clear hguard;refine wp_allocT rfl 37 rfl zB Tryz.info73z w8.heap.size rfl ?_;clear TA)
    | (have hguard:=TS;clear hguard;refine wpList_store_row rfl 37 _ _ rfl w8.heap.size cs (by rfl) (by rfl) 37 zB HB8.out (by rw [HS8.out.1];exact Tryz.size37) (by rw [HS8.out.1];rfl) HS8.out.2 ?_;clear TS))
  obtain ⟨w9,hw9⟩:∃ w9,w9=(w8.alloc (.cells zB 37)).setRow w8.heap.size cs:=⟨_,rfl⟩
  have HB9:Hid (Box w9 w8.heap.size 37 cs):=by rw [hw9];exact HB8.out.setRow _
  rw [← hw9] at HH8 ⊢
  obtain ⟨hrm8,hx8,hA8,hZ8,hC8,hK8,hk9⟩:=HH8.out
  have HR9:Hid (RdM w7 w9 w6.heap.size g lb odd1 st1):=hrm8.no hk9
  have HX9:Hid (X w7 w9 cs):=HX.out _ _ _ _ hx8 hk9.of_no
  have HA9:Hid (Box w9 (w.heap.size+1) 37 zB):=hA8.kept hk9 (fun e=>e)
  have HZ9:Hid (Box w9 (w.heap.size+1+1) 37 zB):=hZ8.kept hk9 (fun e=>e)
  have HC9:Hid (Box w9 w.heap.size 24 #[.slice sa sn sc,.int .i64 f,.int .i64 p,.int .i64 bu,.int .i64 bl,.int .i64 ro]):=hC8.kept hk9 (fun e=>e)
  have HK9:Hid (Kept No w w9):=hK8.then hk9
  have HL9:Hid (w7.heap.size≤w8.heap.size∧w8.heap.size < w9.heap.size):=⟨hrm8.kept.size,HB9.out.lt⟩
  clear hrm8 hx8 hA8 hZ8 hC8 hK8 hk9 HH8 hw9 HB8
  try simp only[Act.put,List.setIfInBounds_toArray,List.set_cons_zero,List.set_cons_succ]
  have HW:Hid (Calls Tryz.prog 81 #[.pointer (some ⟨w6.heap.size,0,none⟩)] w9 fun e w'=>e=.returned (.bool (wholeB odd1 st1))∧RdM w7 w' w6.heap.size g lb odd1 (endS st1)):=HR9.out.whole
  have HWk:Hid (∀ W,RdM w9 W w6.heap.size g lb odd1 (endS st1)→Box W w8.heap.size 37 cs∧X w7 W cs∧Box W (w.heap.size+1) 37 zB∧Box W (w.heap.size+1+1) 37 zB∧Box W w.heap.size 24 #[.slice sa sn sc,.int .i64 f,.int .i64 p,.int .i64 bu,.int .i64 bl,.int .i64 ro]∧Kept No w W):=fun W hW=>by
    have h1:=HL.out
    have h2:=HL9.out
    exact ⟨hW.other HB9.out (by omega) (by omega),HX.out _ _ _ _ HX9.out (hW.kept.mono (fun i _ e=>by omega)),hW.other HA9.out (by omega) (by omega),hW.other HZ9.out (by omega) (by omega),hW.other HC9.out (by omega) (by omega),HK9.out.fresh hW.kept (fun i e=>by omega)⟩
  have HW2:Hid (Calls Tryz.prog 81 #[.pointer (some ⟨w6.heap.size,0,none⟩)] w9 fun e w'=>e=.returned (.bool (wholeB odd1 st1))∧RdM w9 w' w6.heap.size g lb odd1 (endS st1)):=HR9.out.anew.whole
  clear HW HR9
  go_wp2_with fail
  refine HW2.out.mono ?_
  rintro e w10 ⟨rfl,hr10⟩
  obtain ⟨hB10,hX10,hA10,hZ10,hC10,hK10⟩:=HWk.out w10 hr10
  have HB10:Hid (Box w10 w8.heap.size 37 cs):=hB10
  have HX10:Hid (X w7 w10 cs):=hX10
  have HA10:Hid (Box w10 (w.heap.size+1) 37 zB):=hA10
  have HZ10:Hid (Box w10 (w.heap.size+1+1) 37 zB):=hZ10
  have HC10:Hid (Box w10 w.heap.size 24 #[.slice sa sn sc,.int .i64 f,.int .i64 p,.int .i64 bu,.int .i64 bl,.int .i64 ro]):=hC10
  have HK10:Hid (Kept No w w10):=hK10
  have HL10:Hid (w9.heap.size≤w10.heap.size):=hr10.kept.size
  clear hr10 hB10 hX10 hA10 hZ10 hC10 hK10 HWk HW2 HB9 HX9 HA9 HZ9 HC9 HK9
  have HXF:Hid (∀ (W:World),Kept (Only (w.heap.size+1)) w10 W→X w7 w10 cs→X w7 W cs):=fun W hW hx=>HX.out _ _ _ _ hx (hW.mono (fun i _ e=>by have:=HL.out;unfold Only at e;omega))
  have HWE:Hid (wholeB odd1 st1=wholeB odd1 st1):=rfl
  generalize hwb:wholeB odd1 st1=wb at *
  cases wb with
  | false=>
    have TL:Hid (1=1):=rfl
    have TS:Hid (1=1):=rfl
    go_wp2_with (first
      | (have hguard:=TL;clear hguard;refine wp_load37 rfl _ rfl (w.heap.size+1+1) zB rfl rfl HZ10.out ?_;clear TL)
      | (have hguard:=TS;clear hguard;refine wpList_store_row rfl 37 _ _ rfl (w.heap.size+1) zB (by rfl) (by rfl) 37 zB HA10.out Tryz.size37 (by rfl) zB_one ?_;clear TS))
    have HF:Hid (Box (w10.setRow (w.heap.size+1) zB) (w.heap.size+1) 37 zB):=HA10.out.setRow _
    refine bodyPost_ret (results_row_tmp (by rfl) _ _ (w.heap.size+1) zB (by rfl) (load37_run HF.out rfl)) rfl ?_
    exact ⟨cs,rfl,⟨w7,HK7.out.size,HXF.out _ (Kept.setRow _ _ _) HX10.out⟩,HK10.out.fresh (Kept.setRow _ _ _) (fun i e=>by unfold Only at e;omega)⟩
  | true=>
    have q0:=HC10.out.cell 0
    have q1:=HC10.out.cell 1
    have q2:=HC10.out.cell 2
    have q3:=HC10.out.cell 3
    have q4:=HC10.out.cell 4
    have q5:=HC10.out.cell 5
    simp at q0 q1 q2 q3 q4 q5
    have HG:Hid (Calls Tryz.prog 37 #[.agg cs,cfgV (.slice sa sn sc) f p bu bl ro] w10 fun e w'=>e=.returned (.bool bb)∧Kept No w10 w'):=HRight.out w7 w10 cs HK10.out HX10.out
    have TG:Hid (1=1):=rfl
    go_wp2_with (have hguard:=TG;clear hguard;refine wpList_wanted (by simp [Region.wanted,yielded]) ?_;refine wp_load37 rfl _ rfl w8.heap.size cs rfl HS8.out.1 HB10.out ?_;clear TG)
    refine HG.out.mono ?_
    rintro e w11 ⟨rfl,hk11⟩
    have HB11:Hid (Box w11 w8.heap.size 37 cs):=HB10.out.kept hk11 (fun e=>e)
    have HX11:Hid (X w7 w11 cs):=HX.out _ _ _ _ HX10.out hk11.of_no
    have HA11:Hid (Box w11 (w.heap.size+1) 37 zB):=HA10.out.kept hk11 (fun e=>e)
    have HZ11:Hid (Box w11 (w.heap.size+1+1) 37 zB):=HZ10.out.kept hk11 (fun e=>e)
    have HK11:Hid (Kept No w w11):=HK10.out.then hk11
    clear HXF
    have HXF:Hid (∀ (W:World),Kept (Only (w.heap.size+1)) w11 W→X w7 w11 cs→X w7 W cs):=fun W hW hx=>HX.out _ _ _ _ hx (hW.mono (fun i _ e=>by have:=HL.out;unfold Only at e;omega))
    clear hk11 HB10 HX10 HA10 HZ10 HC10 HK10 HG q0 q1 q2 q3 q4 q5 HRight
    cases bb with
    | false=>
      have TL:Hid (1=1):=rfl
      have TS:Hid (1=1):=rfl
      go_wp2_with (first
        | (have hguard:=TL;clear hguard;refine wp_load37 rfl _ rfl (w.heap.size+1+1) zB rfl rfl HZ11.out ?_;clear TL)
        | (have hguard:=TS;clear hguard;refine wpList_store_row rfl 37 _ _ rfl (w.heap.size+1) zB (by rfl) (by rfl) 37 zB HA11.out Tryz.size37 (by rfl) zB_one ?_;clear TS))
      have HF:Hid (Box (w11.setRow (w.heap.size+1) zB) (w.heap.size+1) 37 zB):=HA11.out.setRow _
      refine bodyPost_ret (results_row_tmp (by rfl) _ _ (w.heap.size+1) zB (by rfl) (load37_run HF.out rfl)) rfl ?_
      exact ⟨cs,rfl,⟨w7,HK7.out.size,HXF.out _ (Kept.setRow _ _ _) HX11.out⟩,HK11.out.fresh (Kept.setRow _ _ _) (fun i e=>by unfold Only at e;omega)⟩
    | true=>
      have TL:Hid (1=1):=rfl
      have TS:Hid (1=1):=rfl
      go_wp2_with (first
        | (have hguard:=TL;clear hguard;refine wp_load37 rfl _ rfl w8.heap.size cs rfl HS8.out.1 HB11.out ?_;clear TL)
        | (have hguard:=TS;clear hguard;refine wpList_store_row rfl 37 _ _ rfl (w.heap.size+1) cs (by rfl) (by rfl) 37 zB HA11.out (by rw [HS8.out.1];exact Tryz.size37) (by rw [HS8.out.1];rfl) HS8.out.2 ?_;clear TS))
      have HF:Hid (Box (w11.setRow (w.heap.size+1) cs) (w.heap.size+1) 37 cs):=HA11.out.setRow _
      refine bodyPost_ret (results_row_tmp (by rfl) _ _ (w.heap.size+1) cs (by rfl) (load37_run HF.out HS8.out.1)) rfl ?_
      exact ⟨cs,rfl,⟨w7,HK7.out.size,HXF.out _ (Kept.setRow _ _ _) HX11.out⟩,HK11.out.fresh (Kept.setRow _ _ _) (fun i e=>by unfold Only at e;omega)⟩
set_option maxRecDepth 100000 in
set_option maxHeartbeats 8000000 in
theorem unpackInst_all (ba:Option Addr) (bn bc:Nat) (ys:List Int) (r:Int) (sa:Option Addr) (sn sc:Nat) (zs:List Int) (f p bu bl ro:Int) (w:World) (h:Cfg w sa sn sc zs) (hyes:cfgB zs f p bu bl ro=true) (hs:Sl w ba bn bc ys) (ho:(openOf ys).2=0) (h8:U8 (openOf ys).1) (hl8:(openOf ys).1.length≤140737488351232)
    (odd1:Bool) (st1:RS) (bb:Bool) (X:World→World→Array Value→Prop)
    (hXs:∀ W0 W1 cs,X W0 W1 cs→cs.size=14∧cs.all (·.oneCell')=true)
    (hX:∀ W0 W1 W2 cs,X W0 W1 cs→Kept (fun k=>k < W0.heap.size∨W1.heap.size≤k) W1 W2→X W0 W2 cs)
    (hRead:∀ W r g lb,Kept No w W→RdM W W r g lb false (.ok (openOf ys).1 0)→Calls Tryz.prog 45 #[.pointer (some ⟨r,0,none⟩)] W fun e w'=>∃ cs,e=.returned (.agg cs)∧RdM W w' r g lb odd1 st1∧X W w' cs)
    (hRight:∀ W0 W cs,Kept No w W→X W0 W cs→Calls Tryz.prog 42 #[.agg cs,cfgV (.slice sa sn sc) f p bu bl ro] W fun e w'=>e=.returned (.bool bb)∧Kept No W w') :
    Calls Tryz.prog 44 #[.slice ba bn bc,cfgV (.slice sa sn sc) f p bu bl ro,FV 45,FV 42,.int .i64 r] w (UpOut X w (wholeB odd1 st1&&bb) zI r):=by
  have HC:Hid (Cfg w sa sn sc zs):=h
  have HN:Hid (cfgB zs f p bu bl ro=true):=hyes
  have HS:Hid (Sl w ba bn bc ys):=hs
  have HOV:Hid ((openOf ys).2=0):=ho
  have H8:Hid (U8 (openOf ys).1∧(openOf ys).1.length≤140737488351232):=⟨h8,hl8⟩
  have HXs:Hid (∀ W0 W1 cs,X W0 W1 cs→cs.size=14∧cs.all (·.oneCell')=true):=hXs
  have HX:Hid (∀ W0 W1 W2 cs,X W0 W1 cs→Kept (fun k=>k < W0.heap.size∨W1.heap.size≤k) W1 W2→X W0 W2 cs):=hX
  have HRead:Hid (∀ W r g lb,Kept No w W→RdM W W r g lb false (.ok (openOf ys).1 0)→Calls Tryz.prog 45 #[.pointer (some ⟨r,0,none⟩)] W fun e w'=>∃ cs,e=.returned (.agg cs)∧RdM W w' r g lb odd1 st1∧X W w' cs):=hRead
  have HRight:Hid (∀ W0 W cs,Kept No w W→X W0 W cs→Calls Tryz.prog 42 #[.agg cs,cfgV (.slice sa sn sc) f p bu bl ro] W fun e w'=>e=.returned (.bool bb)∧Kept No W w'):=hRight
  clear h hyes hs ho h8 hl8 hXs hX hRead hRight
  have TA:Hid (1=1):=rfl
  have TB:Hid (1=1):=rfl
  go_enter Tryz.func44,Tryz.ntmps44
  go_upto_region 2 with (first
    | (have hguard:=TA;clear hguard;refine wp_allocT rfl 47 rfl zI Tryz.info78z (w.heap.size+1) (by simp) ?_;clear TA)
    | (have hguard:=TB;clear hguard;refine wp_allocT rfl 47 rfl zI Tryz.info78z (w.heap.size+1+1) (by simp) ?_;clear TB))
  obtain ⟨w3,hw3⟩:∃ w3,w3=((w.alloc (.cells #[.slice sa sn sc,.int .i64 f,.int .i64 p,.int .i64 bu,.int .i64 bl,.int .i64 ro] 24)).alloc (.cells zI 47)).alloc (.cells zI 47):=⟨_,rfl⟩
  rw [← hw3]
  have HK3:Hid (Kept No w w3):=by rw [hw3];exact (((Kept.refl No w).alloc _).alloc _).alloc _
  have HC3:Hid (Box w3 w.heap.size 24 #[.slice sa sn sc,.int .i64 f,.int .i64 p,.int .i64 bu,.int .i64 bl,.int .i64 ro]):=by rw [hw3];exact ((Box.new w 24 _).alloc _).alloc _
  have HA3:Hid (Box w3 (w.heap.size+1) 47 zI):=by
    show Box _ _ _ _
    rw [hw3]
    have:=(Box.new (w.alloc (.cells #[.slice sa sn sc,.int .i64 f,.int .i64 p,.int .i64 bu,.int .i64 bl,.int .i64 ro] 24)) 47 zI).alloc (.cells zI 47)
    simpa using this
  have HZ3:Hid (Box w3 (w.heap.size+1+1) 47 zI):=by
    show Box _ _ _ _
    rw [hw3]
    have:=Box.new ((w.alloc (.cells #[.slice sa sn sc,.int .i64 f,.int .i64 p,.int .i64 bu,.int .i64 bl,.int .i64 ro] 24)).alloc (.cells zI 47)) 47 zI
    simpa using this
  clear hw3
  try simp only[Act.put,List.setIfInBounds_toArray,List.set_cons_zero,List.set_cons_succ]
  have q0:=HC3.out.cell 0
  have q1:=HC3.out.cell 1
  have q2:=HC3.out.cell 2
  have q3:=HC3.out.cell 3
  have q4:=HC3.out.cell 4
  have q5:=HC3.out.cell 5
  simp at q0 q1 q2 q3 q4 q5
  go_wp2_with fail
  refine ((HC.out.no HK3.out).right f p bu bl ro).mono ?_
  rintro e w4 ⟨rfl,hk4⟩
  have HK4:Hid (Kept No w w4):=HK3.out.then hk4
  have HA4:Hid (Box w4 (w.heap.size+1) 47 zI):=HA3.out.kept hk4 (fun e=>e)
  have HZ4:Hid (Box w4 (w.heap.size+1+1) 47 zI):=HZ3.out.kept hk4 (fun e=>e)
  have HC4:Hid (Box w4 w.heap.size 24 #[.slice sa sn sc,.int .i64 f,.int .i64 p,.int .i64 bu,.int .i64 bl,.int .i64 ro]):=HC3.out.kept hk4 (fun e=>e)
  clear hk4 q0 q1 q2 q3 q4 q5 HK3 HA3 HZ3 HC3
  rw [HN.out]
  have HO:Hid (Calls Tryz.prog 79 #[.slice ba bn bc] w4 (Opens w4 ys)):=open_sl (HS.out.no HK4.out)
  clear HN HC
  go_wp2_with fail
  refine HO.out.mono ?_
  rintro e w5 ⟨a5,n5,c5,he,hn5,hO5,hk5⟩
  rw [HOV.out] at he
  subst he
  have HK5:Hid (Kept No w w5):=HK4.out.then hk5
  have HA5:Hid (Box w5 (w.heap.size+1) 47 zI):=HA4.out.kept hk5 (fun e=>e)
  have HZ5:Hid (Box w5 (w.heap.size+1+1) 47 zI):=HZ4.out.kept hk5 (fun e=>e)
  have HC5:Hid (Box w5 w.heap.size 24 #[.slice sa sn sc,.int .i64 f,.int .i64 p,.int .i64 bu,.int .i64 bl,.int .i64 ro]):=HC4.out.kept hk5 (fun e=>e)
  have HRd:Hid (Calls Tryz.prog 80 #[.slice a5 n5 c5] w5 fun e w'=>∃ g lb,e=.returned (.pointer (some ⟨g,0,none⟩))∧w5.heap.size≤g∧w5.heap.size≤lb∧Rs w' g lb (.ok (openOf ys).1 0)∧Kept No w5 w'∧g < w'.heap.size∧(lb < w'.heap.size)):=Read_any a5 n5 c5 (openOf ys).1 w5 (hO5.sl hn5.symm H8.out.1 (by rw [hn5];exact H8.out.2))
  clear hk5 HO HA4 HZ4 HC4 HK4 hn5 hO5 HS HOV
  go_wp2_with fail
  refine HRd.out.mono ?_
  rintro e w6 ⟨g,lb,rfl,hg5,hl5,hrs,hk6,hg6,hl6⟩
  obtain ⟨w7,hw7⟩:∃ w7,w7=w6.alloc (.cells #[.pointer (some ⟨g,0,none⟩),.bool false] 140):=⟨_,rfl⟩
  have hk7:Kept No w6 w7:=by rw [hw7];exact (Kept.refl No w6).alloc _
  have hb7:Box w7 w6.heap.size 140 #[.pointer (some ⟨g,0,none⟩),.bool false]:=by rw [hw7];exact Box.new _ _ _
  have HRM:Hid (RdM w7 w7 w6.heap.size g lb false (.ok (openOf ys).1 0)):=⟨hb7,hrs.no hk7,by omega,by omega,Nat.lt_of_lt_of_le hl6 hk7.size,Kept.refl _ _⟩
  have HK7:Hid (Kept No w w7):=HK5.out.then (hk6.then hk7)
  have HA7:Hid (Box w7 (w.heap.size+1) 47 zI):=HA5.out.kept (hk6.then hk7) (fun e=>e)
  have HZ7:Hid (Box w7 (w.heap.size+1+1) 47 zI):=HZ5.out.kept (hk6.then hk7) (fun e=>e)
  have HC7:Hid (Box w7 w.heap.size 24 #[.slice sa sn sc,.int .i64 f,.int .i64 p,.int .i64 bu,.int .i64 bl,.int .i64 ro]):=HC5.out.kept (hk6.then hk7) (fun e=>e)
  have HL:Hid (w.heap.size+1+1 < w5.heap.size∧w5.heap.size≤g∧w5.heap.size≤lb∧w5.heap.size≤w6.heap.size∧w6.heap.size < w7.heap.size∧g < w7.heap.size∧lb < w7.heap.size):=⟨HZ5.out.lt,hg5,hl5,hk6.size,hb7.lt,Nat.lt_of_lt_of_le hg6 hk7.size,Nat.lt_of_lt_of_le hl6 hk7.size⟩
  have HCl:Hid (Calls Tryz.prog 45 #[.pointer (some ⟨w6.heap.size,0,none⟩)] w7 fun e w'=>∃ cs,e=.returned (.agg cs)∧RdM w7 w' w6.heap.size g lb odd1 st1∧X w7 w' cs):=HRead.out w7 _ g lb HK7.out HRM.out
  clear hk6 hk7 hb7 hrs hg5 hl5 hg6 hl6 HA5 HZ5 HC5 HK5 HRd HRM HRead
  go_upto_region 8 with fail
  rw [← hw7]
  clear hw7
  go_wp2_with fail
  refine HCl.out.mono ?_
  rintro e w8 ⟨cs,rfl,hrm8,hx8⟩
  have HS8:Hid (cs.size=14∧cs.all (·.oneCell')=true):=HXs.out _ _ _ hx8
  have hA8:Box w8 (w.heap.size+1) 47 zI:=hrm8.other HA7.out (by have:=HL.out;omega) (by have:=HL.out;omega)
  have hZ8:Box w8 (w.heap.size+1+1) 47 zI:=hrm8.other HZ7.out (by have:=HL.out;omega) (by have:=HL.out;omega)
  have hC8:Box w8 w.heap.size 24 #[.slice sa sn sc,.int .i64 f,.int .i64 p,.int .i64 bu,.int .i64 bl,.int .i64 ro]:=hrm8.other HC7.out (by have:=HL.out;omega) (by have:=HL.out;omega)
  have hK8:Kept No w w8:=HK7.out.fresh hrm8.kept (fun i e=>by have:=HL.out;omega)
  have HB8:Hid (Box (w8.alloc (.cells zI 47)) w8.heap.size 47 zI):=Box.new _ _ _
  have hk9:Kept No w8 ((w8.alloc (.cells zI 47)).setRow w8.heap.size cs):=((Kept.refl No w8).alloc _).fresh (Kept.setRow _ _ _) (fun i e=>by unfold Only at e;omega)
  have TA:Hid (1=1):=rfl
  have TS:Hid (1=1):=rfl
  have HH8:Hid (RdM w7 w8 w6.heap.size g lb odd1 st1∧X w7 w8 cs∧Box w8 (w.heap.size+1) 47 zI∧Box w8 (w.heap.size+1+1) 47 zI∧Box w8 w.heap.size 24 #[.slice sa sn sc,.int .i64 f,.int .i64 p,.int .i64 bu,.int .i64 bl,.int .i64 ro]∧Kept No w w8∧Kept No w8 ((w8.alloc (.cells zI 47)).setRow w8.heap.size cs)):=⟨hrm8,hx8,hA8,hZ8,hC8,hK8,hk9⟩
  clear hrm8 hx8 hA8 hZ8 hC8 hK8 hk9 HCl HA7 HZ7 HC7
  go_upto_region 9 with (first
    | (have hguard:=TA;clear hguard;refine wp_allocT rfl 47 rfl zI Tryz.info78z w8.heap.size rfl ?_;clear TA)
    | (have hguard:=TS;clear hguard;refine wpList_store_row rfl 47 _ _ rfl w8.heap.size cs (by rfl) (by rfl) 47 zI HB8.out (by rw [HS8.out.1];exact Tryz.size47) (by rw [HS8.out.1];rfl) HS8.out.2 ?_;clear TS))
  obtain ⟨w9,hw9⟩:∃ w9,w9=(w8.alloc (.cells zI 47)).setRow w8.heap.size cs:=⟨_,rfl⟩
  have HB9:Hid (Box w9 w8.heap.size 47 cs):=by rw [hw9];exact HB8.out.setRow _
  rw [← hw9] at HH8 ⊢
  obtain ⟨hrm8,hx8,hA8,hZ8,hC8,hK8,hk9⟩:=HH8.out
  have HR9:Hid (RdM w7 w9 w6.heap.size g lb odd1 st1):=hrm8.no hk9
  have HX9:Hid (X w7 w9 cs):=HX.out _ _ _ _ hx8 hk9.of_no
  have HA9:Hid (Box w9 (w.heap.size+1) 47 zI):=hA8.kept hk9 (fun e=>e)
  have HZ9:Hid (Box w9 (w.heap.size+1+1) 47 zI):=hZ8.kept hk9 (fun e=>e)
  have HC9:Hid (Box w9 w.heap.size 24 #[.slice sa sn sc,.int .i64 f,.int .i64 p,.int .i64 bu,.int .i64 bl,.int .i64 ro]):=hC8.kept hk9 (fun e=>e)
  have HK9:Hid (Kept No w w9):=hK8.then hk9
  have HL9:Hid (w7.heap.size≤w8.heap.size∧w8.heap.size < w9.heap.size):=⟨hrm8.kept.size,HB9.out.lt⟩
  clear hrm8 hx8 hA8 hZ8 hC8 hK8 hk9 HH8 hw9 HB8
  try simp only[Act.put,List.setIfInBounds_toArray,List.set_cons_zero,List.set_cons_succ]
  have HW:Hid (Calls Tryz.prog 81 #[.pointer (some ⟨w6.heap.size,0,none⟩)] w9 fun e w'=>e=.returned (.bool (wholeB odd1 st1))∧RdM w7 w' w6.heap.size g lb odd1 (endS st1)):=HR9.out.whole
  have HWk:Hid (∀ W,RdM w9 W w6.heap.size g lb odd1 (endS st1)→Box W w8.heap.size 47 cs∧X w7 W cs∧Box W (w.heap.size+1) 47 zI∧Box W (w.heap.size+1+1) 47 zI∧Box W w.heap.size 24 #[.slice sa sn sc,.int .i64 f,.int .i64 p,.int .i64 bu,.int .i64 bl,.int .i64 ro]∧Kept No w W):=fun W hW=>by
    have h1:=HL.out
    have h2:=HL9.out
    exact ⟨hW.other HB9.out (by omega) (by omega),HX.out _ _ _ _ HX9.out (hW.kept.mono (fun i _ e=>by omega)),hW.other HA9.out (by omega) (by omega),hW.other HZ9.out (by omega) (by omega),hW.other HC9.out (by omega) (by omega),HK9.out.fresh hW.kept (fun i e=>by omega)⟩
  have HW2:Hid (Calls Tryz.prog 81 #[.pointer (some ⟨w6.heap.size,0,none⟩)] w9 fun e w'=>e=.returned (.bool (wholeB odd1 st1))∧RdM w9 w' w6.heap.size g lb odd1 (endS st1)):=HR9.out.anew.whole
  clear HW HR9
  go_wp2_with fail
  refine HW2.out.mono ?_
  rintro e w10 ⟨rfl,hr10⟩
  obtain ⟨hB10,hX10,hA10,hZ10,hC10,hK10⟩:=HWk.out w10 hr10
  have HB10:Hid (Box w10 w8.heap.size 47 cs):=hB10
  have HX10:Hid (X w7 w10 cs):=hX10
  have HA10:Hid (Box w10 (w.heap.size+1) 47 zI):=hA10
  have HZ10:Hid (Box w10 (w.heap.size+1+1) 47 zI):=hZ10
  have HC10:Hid (Box w10 w.heap.size 24 #[.slice sa sn sc,.int .i64 f,.int .i64 p,.int .i64 bu,.int .i64 bl,.int .i64 ro]):=hC10
  have HK10:Hid (Kept No w w10):=hK10
  have HL10:Hid (w9.heap.size≤w10.heap.size):=hr10.kept.size
  clear hr10 hB10 hX10 hA10 hZ10 hC10 hK10 HWk HW2 HB9 HX9 HA9 HZ9 HC9 HK9
  have HXF:Hid (∀ (W:World),Kept (Only (w.heap.size+1)) w10 W→X w7 w10 cs→X w7 W cs):=fun W hW hx=>HX.out _ _ _ _ hx (hW.mono (fun i _ e=>by have:=HL.out;unfold Only at e;omega))
  have HWE:Hid (wholeB odd1 st1=wholeB odd1 st1):=rfl
  generalize hwb:wholeB odd1 st1=wb at *
  cases wb with
  | false=>
    have TL:Hid (1=1):=rfl
    have TS:Hid (1=1):=rfl
    go_wp2_with (first
      | (have hguard:=TL;clear hguard;refine wp_load47 rfl _ rfl (w.heap.size+1+1) zI rfl rfl HZ10.out ?_;clear TL)
      | (have hguard:=TS;clear hguard;refine wpList_store_row rfl 47 _ _ rfl (w.heap.size+1) zI (by rfl) (by rfl) 47 zI HA10.out Tryz.size47 (by rfl) zI_one ?_;clear TS))
    have HF:Hid (Box (w10.setRow (w.heap.size+1) zI) (w.heap.size+1) 47 zI):=HA10.out.setRow _
    refine bodyPost_ret (results_row_tmp (by rfl) _ _ (w.heap.size+1) zI (by rfl) (load47_run HF.out rfl)) rfl ?_
    exact ⟨cs,rfl,⟨w7,HK7.out.size,HXF.out _ (Kept.setRow _ _ _) HX10.out⟩,HK10.out.fresh (Kept.setRow _ _ _) (fun i e=>by unfold Only at e;omega)⟩
  | true=>
    have q0:=HC10.out.cell 0
    have q1:=HC10.out.cell 1
    have q2:=HC10.out.cell 2
    have q3:=HC10.out.cell 3
    have q4:=HC10.out.cell 4
    have q5:=HC10.out.cell 5
    simp at q0 q1 q2 q3 q4 q5
    have HG:Hid (Calls Tryz.prog 42 #[.agg cs,cfgV (.slice sa sn sc) f p bu bl ro] w10 fun e w'=>e=.returned (.bool bb)∧Kept No w10 w'):=HRight.out w7 w10 cs HK10.out HX10.out
    have TG:Hid (1=1):=rfl
    go_wp2_with (have hguard:=TG;clear hguard;refine wpList_wanted (by simp [Region.wanted,yielded]) ?_;refine wp_load47 rfl _ rfl w8.heap.size cs rfl HS8.out.1 HB10.out ?_;clear TG)
    refine HG.out.mono ?_
    rintro e w11 ⟨rfl,hk11⟩
    have HB11:Hid (Box w11 w8.heap.size 47 cs):=HB10.out.kept hk11 (fun e=>e)
    have HX11:Hid (X w7 w11 cs):=HX.out _ _ _ _ HX10.out hk11.of_no
    have HA11:Hid (Box w11 (w.heap.size+1) 47 zI):=HA10.out.kept hk11 (fun e=>e)
    have HZ11:Hid (Box w11 (w.heap.size+1+1) 47 zI):=HZ10.out.kept hk11 (fun e=>e)
    have HK11:Hid (Kept No w w11):=HK10.out.then hk11
    clear HXF
    have HXF:Hid (∀ (W:World),Kept (Only (w.heap.size+1)) w11 W→X w7 w11 cs→X w7 W cs):=fun W hW hx=>HX.out _ _ _ _ hx (hW.mono (fun i _ e=>by have:=HL.out;unfold Only at e;omega))
    clear hk11 HB10 HX10 HA10 HZ10 HC10 HK10 HG q0 q1 q2 q3 q4 q5 HRight
    cases bb with
    | false=>
      have TL:Hid (1=1):=rfl
      have TS:Hid (1=1):=rfl
      go_wp2_with (first
        | (have hguard:=TL;clear hguard;refine wp_load47 rfl _ rfl (w.heap.size+1+1) zI rfl rfl HZ11.out ?_;clear TL)
        | (have hguard:=TS;clear hguard;refine wpList_store_row rfl 47 _ _ rfl (w.heap.size+1) zI (by rfl) (by rfl) 47 zI HA11.out Tryz.size47 (by rfl) zI_one ?_;clear TS))
      have HF:Hid (Box (w11.setRow (w.heap.size+1) zI) (w.heap.size+1) 47 zI):=HA11.out.setRow _
      refine bodyPost_ret (results_row_tmp (by rfl) _ _ (w.heap.size+1) zI (by rfl) (load47_run HF.out rfl)) rfl ?_
      exact ⟨cs,rfl,⟨w7,HK7.out.size,HXF.out _ (Kept.setRow _ _ _) HX11.out⟩,HK11.out.fresh (Kept.setRow _ _ _) (fun i e=>by unfold Only at e;omega)⟩
    | true=>
      have TL:Hid (1=1):=rfl
      have TS:Hid (1=1):=rfl
      go_wp2_with (first
        | (have hguard:=TL;clear hguard;refine wp_load47 rfl _ rfl w8.heap.size cs rfl HS8.out.1 HB11.out ?_;clear TL)
        | (have hguard:=TS;clear hguard;refine wpList_store_row rfl 47 _ _ rfl (w.heap.size+1) cs (by rfl) (by rfl) 47 zI HA11.out (by rw [HS8.out.1];exact Tryz.size47) (by rw [HS8.out.1];rfl) HS8.out.2 ?_;clear TS))
      have HF:Hid (Box (w11.setRow (w.heap.size+1) cs) (w.heap.size+1) 47 cs):=HA11.out.setRow _
      refine bodyPost_ret (results_row_tmp (by rfl) _ _ (w.heap.size+1) cs (by rfl) (load47_run HF.out HS8.out.1)) rfl ?_
      exact ⟨cs,rfl,⟨w7,HK7.out.size,HXF.out _ (Kept.setRow _ _ _) HX11.out⟩,HK11.out.fresh (Kept.setRow _ _ _) (fun i e=>by unfold Only at e;omega)⟩
set_option maxRecDepth 100000 in
set_option maxHeartbeats 8000000 in
theorem unpackBucket_all (ba:Option Addr) (bn bc:Nat) (ys:List Int) (r:Int) (sa:Option Addr) (sn sc:Nat) (zs:List Int) (f p bu bl ro:Int) (w:World) (h:Cfg w sa sn sc zs) (hyes:cfgB zs f p bu bl ro=true) (hs:Sl w ba bn bc ys) (ho:(openOf ys).2=0) (h8:U8 (openOf ys).1) (hl8:(openOf ys).1.length≤140737488351232)
    (odd1:Bool) (st1:RS) (bb:Bool) (X:World→World→Array Value→Prop)
    (hXs:∀ W0 W1 cs,X W0 W1 cs→cs.size=3∧cs.all (·.oneCell')=true)
    (hX:∀ W0 W1 W2 cs,X W0 W1 cs→Kept (fun k=>k < W0.heap.size∨W1.heap.size≤k) W1 W2→X W0 W2 cs)
    (hRead:∀ W r g lb,Kept No w W→RdM W W r g lb false (.ok (openOf ys).1 0)→Calls Tryz.prog 51 #[.pointer (some ⟨r,0,none⟩)] W fun e w'=>∃ cs,e=.returned (.agg cs)∧RdM W w' r g lb odd1 st1∧X W w' cs)
    (hRight:∀ W0 W cs,Kept No w W→X W0 W cs→Calls Tryz.prog 47 #[.agg cs,cfgV (.slice sa sn sc) f p bu bl ro] W fun e w'=>e=.returned (.bool bb)∧Kept No W w') :
    Calls Tryz.prog 50 #[.slice ba bn bc,cfgV (.slice sa sn sc) f p bu bl ro,FV 51,FV 47,.int .i64 r] w (UpOut X w (wholeB odd1 st1&&bb) zK r):=by
  have HC:Hid (Cfg w sa sn sc zs):=h
  have HN:Hid (cfgB zs f p bu bl ro=true):=hyes
  have HS:Hid (Sl w ba bn bc ys):=hs
  have HOV:Hid ((openOf ys).2=0):=ho
  have H8:Hid (U8 (openOf ys).1∧(openOf ys).1.length≤140737488351232):=⟨h8,hl8⟩
  have HXs:Hid (∀ W0 W1 cs,X W0 W1 cs→cs.size=3∧cs.all (·.oneCell')=true):=hXs
  have HX:Hid (∀ W0 W1 W2 cs,X W0 W1 cs→Kept (fun k=>k < W0.heap.size∨W1.heap.size≤k) W1 W2→X W0 W2 cs):=hX
  have HRead:Hid (∀ W r g lb,Kept No w W→RdM W W r g lb false (.ok (openOf ys).1 0)→Calls Tryz.prog 51 #[.pointer (some ⟨r,0,none⟩)] W fun e w'=>∃ cs,e=.returned (.agg cs)∧RdM W w' r g lb odd1 st1∧X W w' cs):=hRead
  have HRight:Hid (∀ W0 W cs,Kept No w W→X W0 W cs→Calls Tryz.prog 47 #[.agg cs,cfgV (.slice sa sn sc) f p bu bl ro] W fun e w'=>e=.returned (.bool bb)∧Kept No W w'):=hRight
  clear h hyes hs ho h8 hl8 hXs hX hRead hRight
  have TA:Hid (1=1):=rfl
  have TB:Hid (1=1):=rfl
  go_enter Tryz.func50,Tryz.ntmps50
  go_upto_region 2 with (first
    | (have hguard:=TA;clear hguard;refine wp_allocT rfl 54 rfl zK Tryz.info43z (w.heap.size+1) (by simp) ?_;clear TA)
    | (have hguard:=TB;clear hguard;refine wp_allocT rfl 54 rfl zK Tryz.info43z (w.heap.size+1+1) (by simp) ?_;clear TB))
  obtain ⟨w3,hw3⟩:∃ w3,w3=((w.alloc (.cells #[.slice sa sn sc,.int .i64 f,.int .i64 p,.int .i64 bu,.int .i64 bl,.int .i64 ro] 24)).alloc (.cells zK 54)).alloc (.cells zK 54):=⟨_,rfl⟩
  rw [← hw3]
  have HK3:Hid (Kept No w w3):=by rw [hw3];exact (((Kept.refl No w).alloc _).alloc _).alloc _
  have HC3:Hid (Box w3 w.heap.size 24 #[.slice sa sn sc,.int .i64 f,.int .i64 p,.int .i64 bu,.int .i64 bl,.int .i64 ro]):=by rw [hw3];exact ((Box.new w 24 _).alloc _).alloc _
  have HA3:Hid (Box w3 (w.heap.size+1) 54 zK):=by
    show Box _ _ _ _
    rw [hw3]
    have:=(Box.new (w.alloc (.cells #[.slice sa sn sc,.int .i64 f,.int .i64 p,.int .i64 bu,.int .i64 bl,.int .i64 ro] 24)) 54 zK).alloc (.cells zK 54)
    simpa using this
  have HZ3:Hid (Box w3 (w.heap.size+1+1) 54 zK):=by
    show Box _ _ _ _
    rw [hw3]
    have:=Box.new ((w.alloc (.cells #[.slice sa sn sc,.int .i64 f,.int .i64 p,.int .i64 bu,.int .i64 bl,.int .i64 ro] 24)).alloc (.cells zK 54)) 54 zK
    simpa using this
  clear hw3
  try simp only[Act.put,List.setIfInBounds_toArray,List.set_cons_zero,List.set_cons_succ]
  have q0:=HC3.out.cell 0
  have q1:=HC3.out.cell 1
  have q2:=HC3.out.cell 2
  have q3:=HC3.out.cell 3
  have q4:=HC3.out.cell 4
  have q5:=HC3.out.cell 5
  simp at q0 q1 q2 q3 q4 q5
  go_wp2_with fail
  refine ((HC.out.no HK3.out).right f p bu bl ro).mono ?_
  rintro e w4 ⟨rfl,hk4⟩
  have HK4:Hid (Kept No w w4):=HK3.out.then hk4
  have HA4:Hid (Box w4 (w.heap.size+1) 54 zK):=HA3.out.kept hk4 (fun e=>e)
  have HZ4:Hid (Box w4 (w.heap.size+1+1) 54 zK):=HZ3.out.kept hk4 (fun e=>e)
  have HC4:Hid (Box w4 w.heap.size 24 #[.slice sa sn sc,.int .i64 f,.int .i64 p,.int .i64 bu,.int .i64 bl,.int .i64 ro]):=HC3.out.kept hk4 (fun e=>e)
  clear hk4 q0 q1 q2 q3 q4 q5 HK3 HA3 HZ3 HC3
  rw [HN.out]
  have HO:Hid (Calls Tryz.prog 79 #[.slice ba bn bc] w4 (Opens w4 ys)):=open_sl (HS.out.no HK4.out)
  clear HN HC
  go_wp2_with fail
  refine HO.out.mono ?_
  rintro e w5 ⟨a5,n5,c5,he,hn5,hO5,hk5⟩
  rw [HOV.out] at he
  subst he
  have HK5:Hid (Kept No w w5):=HK4.out.then hk5
  have HA5:Hid (Box w5 (w.heap.size+1) 54 zK):=HA4.out.kept hk5 (fun e=>e)
  have HZ5:Hid (Box w5 (w.heap.size+1+1) 54 zK):=HZ4.out.kept hk5 (fun e=>e)
  have HC5:Hid (Box w5 w.heap.size 24 #[.slice sa sn sc,.int .i64 f,.int .i64 p,.int .i64 bu,.int .i64 bl,.int .i64 ro]):=HC4.out.kept hk5 (fun e=>e)
  have HRd:Hid (Calls Tryz.prog 80 #[.slice a5 n5 c5] w5 fun e w'=>∃ g lb,e=.returned (.pointer (some ⟨g,0,none⟩))∧w5.heap.size≤g∧w5.heap.size≤lb∧Rs w' g lb (.ok (openOf ys).1 0)∧Kept No w5 w'∧g < w'.heap.size∧(lb < w'.heap.size)):=Read_any a5 n5 c5 (openOf ys).1 w5 (hO5.sl hn5.symm H8.out.1 (by rw [hn5];exact H8.out.2))
  clear hk5 HO HA4 HZ4 HC4 HK4 hn5 hO5 HS HOV
  go_wp2_with fail
  refine HRd.out.mono ?_
  rintro e w6 ⟨g,lb,rfl,hg5,hl5,hrs,hk6,hg6,hl6⟩
  obtain ⟨w7,hw7⟩:∃ w7,w7=w6.alloc (.cells #[.pointer (some ⟨g,0,none⟩),.bool false] 140):=⟨_,rfl⟩
  have hk7:Kept No w6 w7:=by rw [hw7];exact (Kept.refl No w6).alloc _
  have hb7:Box w7 w6.heap.size 140 #[.pointer (some ⟨g,0,none⟩),.bool false]:=by rw [hw7];exact Box.new _ _ _
  have HRM:Hid (RdM w7 w7 w6.heap.size g lb false (.ok (openOf ys).1 0)):=⟨hb7,hrs.no hk7,by omega,by omega,Nat.lt_of_lt_of_le hl6 hk7.size,Kept.refl _ _⟩
  have HK7:Hid (Kept No w w7):=HK5.out.then (hk6.then hk7)
  have HA7:Hid (Box w7 (w.heap.size+1) 54 zK):=HA5.out.kept (hk6.then hk7) (fun e=>e)
  have HZ7:Hid (Box w7 (w.heap.size+1+1) 54 zK):=HZ5.out.kept (hk6.then hk7) (fun e=>e)
  have HC7:Hid (Box w7 w.heap.size 24 #[.slice sa sn sc,.int .i64 f,.int .i64 p,.int .i64 bu,.int .i64 bl,.int .i64 ro]):=HC5.out.kept (hk6.then hk7) (fun e=>e)
  have HL:Hid (w.heap.size+1+1 < w5.heap.size∧w5.heap.size≤g∧w5.heap.size≤lb∧w5.heap.size≤w6.heap.size∧w6.heap.size < w7.heap.size∧g < w7.heap.size∧lb < w7.heap.size):=⟨HZ5.out.lt,hg5,hl5,hk6.size,hb7.lt,Nat.lt_of_lt_of_le hg6 hk7.size,Nat.lt_of_lt_of_le hl6 hk7.size⟩
  have HCl:Hid (Calls Tryz.prog 51 #[.pointer (some ⟨w6.heap.size,0,none⟩)] w7 fun e w'=>∃ cs,e=.returned (.agg cs)∧RdM w7 w' w6.heap.size g lb odd1 st1∧X w7 w' cs):=HRead.out w7 _ g lb HK7.out HRM.out
  clear hk6 hk7 hb7 hrs hg5 hl5 hg6 hl6 HA5 HZ5 HC5 HK5 HRd HRM HRead
  go_upto_region 8 with fail
  rw [← hw7]
  clear hw7
  go_wp2_with fail
  refine HCl.out.mono ?_
  rintro e w8 ⟨cs,rfl,hrm8,hx8⟩
  have HS8:Hid (cs.size=3∧cs.all (·.oneCell')=true):=HXs.out _ _ _ hx8
  have hA8:Box w8 (w.heap.size+1) 54 zK:=hrm8.other HA7.out (by have:=HL.out;omega) (by have:=HL.out;omega)
  have hZ8:Box w8 (w.heap.size+1+1) 54 zK:=hrm8.other HZ7.out (by have:=HL.out;omega) (by have:=HL.out;omega)
  have hC8:Box w8 w.heap.size 24 #[.slice sa sn sc,.int .i64 f,.int .i64 p,.int .i64 bu,.int .i64 bl,.int .i64 ro]:=hrm8.other HC7.out (by have:=HL.out;omega) (by have:=HL.out;omega)
  have hK8:Kept No w w8:=HK7.out.fresh hrm8.kept (fun i e=>by have:=HL.out;omega)
  have HB8:Hid (Box (w8.alloc (.cells zK 54)) w8.heap.size 54 zK):=Box.new _ _ _
  have hk9:Kept No w8 ((w8.alloc (.cells zK 54)).setRow w8.heap.size cs):=((Kept.refl No w8).alloc _).fresh (Kept.setRow _ _ _) (fun i e=>by unfold Only at e;omega)
  have TA:Hid (1=1):=rfl
  have TS:Hid (1=1):=rfl
  have HH8:Hid (RdM w7 w8 w6.heap.size g lb odd1 st1∧X w7 w8 cs∧Box w8 (w.heap.size+1) 54 zK∧Box w8 (w.heap.size+1+1) 54 zK∧Box w8 w.heap.size 24 #[.slice sa sn sc,.int .i64 f,.int .i64 p,.int .i64 bu,.int .i64 bl,.int .i64 ro]∧Kept No w w8∧Kept No w8 ((w8.alloc (.cells zK 54)).setRow w8.heap.size cs)):=⟨hrm8,hx8,hA8,hZ8,hC8,hK8,hk9⟩
  clear hrm8 hx8 hA8 hZ8 hC8 hK8 hk9 HCl HA7 HZ7 HC7
  go_upto_region 9 with (first
    | (have hguard:=TA;clear hguard;refine wp_allocT rfl 54 rfl zK Tryz.info43z w8.heap.size rfl ?_;clear TA)
    | (have hguard:=TS;clear hguard;refine wpList_store_row rfl 54 _ _ rfl w8.heap.size cs (by rfl) (by rfl) 54 zK HB8.out (by rw [HS8.out.1];exact Tryz.size54) (by rw [HS8.out.1];rfl) HS8.out.2 ?_;clear TS))
  obtain ⟨w9,hw9⟩:∃ w9,w9=(w8.alloc (.cells zK 54)).setRow w8.heap.size cs:=⟨_,rfl⟩
  have HB9:Hid (Box w9 w8.heap.size 54 cs):=by rw [hw9];exact HB8.out.setRow _
  rw [← hw9] at HH8 ⊢
  obtain ⟨hrm8,hx8,hA8,hZ8,hC8,hK8,hk9⟩:=HH8.out
  have HR9:Hid (RdM w7 w9 w6.heap.size g lb odd1 st1):=hrm8.no hk9
  have HX9:Hid (X w7 w9 cs):=HX.out _ _ _ _ hx8 hk9.of_no
  have HA9:Hid (Box w9 (w.heap.size+1) 54 zK):=hA8.kept hk9 (fun e=>e)
  have HZ9:Hid (Box w9 (w.heap.size+1+1) 54 zK):=hZ8.kept hk9 (fun e=>e)
  have HC9:Hid (Box w9 w.heap.size 24 #[.slice sa sn sc,.int .i64 f,.int .i64 p,.int .i64 bu,.int .i64 bl,.int .i64 ro]):=hC8.kept hk9 (fun e=>e)
  have HK9:Hid (Kept No w w9):=hK8.then hk9
  have HL9:Hid (w7.heap.size≤w8.heap.size∧w8.heap.size < w9.heap.size):=⟨hrm8.kept.size,HB9.out.lt⟩
  clear hrm8 hx8 hA8 hZ8 hC8 hK8 hk9 HH8 hw9 HB8
  try simp only[Act.put,List.setIfInBounds_toArray,List.set_cons_zero,List.set_cons_succ]
  have HW:Hid (Calls Tryz.prog 81 #[.pointer (some ⟨w6.heap.size,0,none⟩)] w9 fun e w'=>e=.returned (.bool (wholeB odd1 st1))∧RdM w7 w' w6.heap.size g lb odd1 (endS st1)):=HR9.out.whole
  have HWk:Hid (∀ W,RdM w9 W w6.heap.size g lb odd1 (endS st1)→Box W w8.heap.size 54 cs∧X w7 W cs∧Box W (w.heap.size+1) 54 zK∧Box W (w.heap.size+1+1) 54 zK∧Box W w.heap.size 24 #[.slice sa sn sc,.int .i64 f,.int .i64 p,.int .i64 bu,.int .i64 bl,.int .i64 ro]∧Kept No w W):=fun W hW=>by
    have h1:=HL.out
    have h2:=HL9.out
    exact ⟨hW.other HB9.out (by omega) (by omega),HX.out _ _ _ _ HX9.out (hW.kept.mono (fun i _ e=>by omega)),hW.other HA9.out (by omega) (by omega),hW.other HZ9.out (by omega) (by omega),hW.other HC9.out (by omega) (by omega),HK9.out.fresh hW.kept (fun i e=>by omega)⟩
  have HW2:Hid (Calls Tryz.prog 81 #[.pointer (some ⟨w6.heap.size,0,none⟩)] w9 fun e w'=>e=.returned (.bool (wholeB odd1 st1))∧RdM w9 w' w6.heap.size g lb odd1 (endS st1)):=HR9.out.anew.whole
  clear HW HR9
  go_wp2_with fail
  refine HW2.out.mono ?_
  rintro e w10 ⟨rfl,hr10⟩
  obtain ⟨hB10,hX10,hA10,hZ10,hC10,hK10⟩:=HWk.out w10 hr10
  have HB10:Hid (Box w10 w8.heap.size 54 cs):=hB10
  have HX10:Hid (X w7 w10 cs):=hX10
  have HA10:Hid (Box w10 (w.heap.size+1) 54 zK):=hA10
  have HZ10:Hid (Box w10 (w.heap.size+1+1) 54 zK):=hZ10
  have HC10:Hid (Box w10 w.heap.size 24 #[.slice sa sn sc,.int .i64 f,.int .i64 p,.int .i64 bu,.int .i64 bl,.int .i64 ro]):=hC10
  have HK10:Hid (Kept No w w10):=hK10
  have HL10:Hid (w9.heap.size≤w10.heap.size):=hr10.kept.size
  clear hr10 hB10 hX10 hA10 hZ10 hC10 hK10 HWk HW2 HB9 HX9 HA9 HZ9 HC9 HK9
  have HXF:Hid (∀ (W:World),Kept (Only (w.heap.size+1)) w10 W→X w7 w10 cs→X w7 W cs):=fun W hW hx=>HX.out _ _ _ _ hx (hW.mono (fun i _ e=>by have:=HL.out;unfold Only at e;omega))
  have HWE:Hid (wholeB odd1 st1=wholeB odd1 st1):=rfl
  generalize hwb:wholeB odd1 st1=wb at *
  cases wb with
  | false=>
    have TL:Hid (1=1):=rfl
    have TS:Hid (1=1):=rfl
    go_wp2_with (first
      | (have hguard:=TL;clear hguard;refine wp_load54 rfl _ rfl (w.heap.size+1+1) zK rfl rfl HZ10.out ?_;clear TL)
      | (have hguard:=TS;clear hguard;refine wpList_store_row rfl 54 _ _ rfl (w.heap.size+1) zK (by rfl) (by rfl) 54 zK HA10.out Tryz.size54 (by rfl) zK_one ?_;clear TS))
    have HF:Hid (Box (w10.setRow (w.heap.size+1) zK) (w.heap.size+1) 54 zK):=HA10.out.setRow _
    refine bodyPost_ret (results_row_tmp (by rfl) _ _ (w.heap.size+1) zK (by rfl) (load54_run HF.out rfl)) rfl ?_
    exact ⟨cs,rfl,⟨w7,HK7.out.size,HXF.out _ (Kept.setRow _ _ _) HX10.out⟩,HK10.out.fresh (Kept.setRow _ _ _) (fun i e=>by unfold Only at e;omega)⟩
  | true=>
    have q0:=HC10.out.cell 0
    have q1:=HC10.out.cell 1
    have q2:=HC10.out.cell 2
    have q3:=HC10.out.cell 3
    have q4:=HC10.out.cell 4
    have q5:=HC10.out.cell 5
    simp at q0 q1 q2 q3 q4 q5
    have HG:Hid (Calls Tryz.prog 47 #[.agg cs,cfgV (.slice sa sn sc) f p bu bl ro] w10 fun e w'=>e=.returned (.bool bb)∧Kept No w10 w'):=HRight.out w7 w10 cs HK10.out HX10.out
    have TG:Hid (1=1):=rfl
    go_wp2_with (have hguard:=TG;clear hguard;refine wpList_wanted (by simp [Region.wanted,yielded]) ?_;refine wp_load54 rfl _ rfl w8.heap.size cs rfl HS8.out.1 HB10.out ?_;clear TG)
    refine HG.out.mono ?_
    rintro e w11 ⟨rfl,hk11⟩
    have HB11:Hid (Box w11 w8.heap.size 54 cs):=HB10.out.kept hk11 (fun e=>e)
    have HX11:Hid (X w7 w11 cs):=HX.out _ _ _ _ HX10.out hk11.of_no
    have HA11:Hid (Box w11 (w.heap.size+1) 54 zK):=HA10.out.kept hk11 (fun e=>e)
    have HZ11:Hid (Box w11 (w.heap.size+1+1) 54 zK):=HZ10.out.kept hk11 (fun e=>e)
    have HK11:Hid (Kept No w w11):=HK10.out.then hk11
    clear HXF
    have HXF:Hid (∀ (W:World),Kept (Only (w.heap.size+1)) w11 W→X w7 w11 cs→X w7 W cs):=fun W hW hx=>HX.out _ _ _ _ hx (hW.mono (fun i _ e=>by have:=HL.out;unfold Only at e;omega))
    clear hk11 HB10 HX10 HA10 HZ10 HC10 HK10 HG q0 q1 q2 q3 q4 q5 HRight
    cases bb with
    | false=>
      have TL:Hid (1=1):=rfl
      have TS:Hid (1=1):=rfl
      go_wp2_with (first
        | (have hguard:=TL;clear hguard;refine wp_load54 rfl _ rfl (w.heap.size+1+1) zK rfl rfl HZ11.out ?_;clear TL)
        | (have hguard:=TS;clear hguard;refine wpList_store_row rfl 54 _ _ rfl (w.heap.size+1) zK (by rfl) (by rfl) 54 zK HA11.out Tryz.size54 (by rfl) zK_one ?_;clear TS))
      have HF:Hid (Box (w11.setRow (w.heap.size+1) zK) (w.heap.size+1) 54 zK):=HA11.out.setRow _
      refine bodyPost_ret (results_row_tmp (by rfl) _ _ (w.heap.size+1) zK (by rfl) (load54_run HF.out rfl)) rfl ?_
      exact ⟨cs,rfl,⟨w7,HK7.out.size,HXF.out _ (Kept.setRow _ _ _) HX11.out⟩,HK11.out.fresh (Kept.setRow _ _ _) (fun i e=>by unfold Only at e;omega)⟩
    | true=>
      have TL:Hid (1=1):=rfl
      have TS:Hid (1=1):=rfl
      go_wp2_with (first
        | (have hguard:=TL;clear hguard;refine wp_load54 rfl _ rfl w8.heap.size cs rfl HS8.out.1 HB11.out ?_;clear TL)
        | (have hguard:=TS;clear hguard;refine wpList_store_row rfl 54 _ _ rfl (w.heap.size+1) cs (by rfl) (by rfl) 54 zK HA11.out (by rw [HS8.out.1];exact Tryz.size54) (by rw [HS8.out.1];rfl) HS8.out.2 ?_;clear TS))
      have HF:Hid (Box (w11.setRow (w.heap.size+1) cs) (w.heap.size+1) 54 cs):=HA11.out.setRow _
      refine bodyPost_ret (results_row_tmp (by rfl) _ _ (w.heap.size+1) cs (by rfl) (load54_run HF.out HS8.out.1)) rfl ?_
      exact ⟨cs,rfl,⟨w7,HK7.out.size,HXF.out _ (Kept.setRow _ _ _) HX11.out⟩,HK11.out.fresh (Kept.setRow _ _ _) (fun i e=>by unfold Only at e;omega)⟩
def PkOut (Y:World→Value→Int→World→Prop) (w:World) (e:Ending) (w':World):Prop:=∃ v x W,e=.returned (.tuple #[v,.int .i64 x])∧Kept No w W∧Y W v x w'
def RdOut (Y:World→Array Value→Int→World→Prop) (w:World) (e:Ending) (w':World):Prop:=∃ cs x W w1,e=.returned (.tuple #[.agg cs,.int .i64 x])∧Kept No w W∧Y W cs x w1∧Kept (fun k=>w.heap.size≤k∧k < W.heap.size) w1 w'∧Kept No w w'
set_option maxRecDepth 100000 in
set_option maxHeartbeats 2000000 in
theorem ePackMsg (cs:Array Value) (hcs:cs.size=30) (sa:Option Addr) (sn sc:Nat) (zs:List Int) (f p bu bl ro:Int) (w:World) (Y:World→Value→Int→World→Prop) (hP:∀ W,Kept No w W→Calls Tryz.prog 54 #[.agg cs,cfgV (.slice sa sn sc) f p bu bl ro,FV 55,FV 56,.int .i64 50] W fun e w'=>∃ v x,e=.returned (.tuple #[v,.int .i64 x])∧Y W v x w') :
    Calls Tryz.prog 19 #[.agg cs,cfgV (.slice sa sn sc) f p bu bl ro] w (PkOut Y w):=by
  have HS:Hid (cs.size=30):=hcs
  have HP:Hid (∀ W,Kept No w W→Calls Tryz.prog 54 #[.agg cs,cfgV (.slice sa sn sc) f p bu bl ro,FV 55,FV 56,.int .i64 50] W fun e w'=>∃ v x,e=.returned (.tuple #[v,.int .i64 x])∧Y W v x w'):=hP
  clear hcs hP
  have TB:Hid (1=1):=rfl
  obtain ⟨w0,hw0⟩:∃ w0,w0=w.alloc (.cells cs 71):=⟨_,rfl⟩
  have HK0:Hid (Kept No w w0):=by rw [hw0];exact (Kept.refl No w).alloc _
  have HM0:Hid (Box w0 w.heap.size 71 cs):=by rw [hw0];exact Box.new _ _ _
  go_enter Tryz.func19,Tryz.ntmps19
  go_upto_region 1 with (have hguard:=TB;clear hguard;refine wp_boxV rfl 71 _ rfl cs rfl w.heap.size rfl ?_;rw [← hw0];clear hw0 TB)
  obtain ⟨w1,hw1⟩:∃ w1,w1=w0.alloc (.cells #[.slice sa sn sc,.int .i64 f,.int .i64 p,.int .i64 bu,.int .i64 bl,.int .i64 ro] 24):=⟨_,rfl⟩
  rw [← hw1]
  have hk1:Kept No w0 w1:=by rw [hw1];exact (Kept.refl No w0).alloc _
  have HC1:Hid (Box w1 w0.heap.size 24 #[.slice sa sn sc,.int .i64 f,.int .i64 p,.int .i64 bu,.int .i64 bl,.int .i64 ro]):=by rw [hw1];exact Box.new _ _ _
  have HK1:Hid (Kept No w w1):=HK0.out.then hk1
  have HM1:Hid (Box w1 w.heap.size 71 cs):=HM0.out.kept hk1 (fun e=>e)
  clear hw1 hk1 HM0 HK0
  have q0:=HC1.out.cell 0
  have q1:=HC1.out.cell 1
  have q2:=HC1.out.cell 2
  have q3:=HC1.out.cell 3
  have q4:=HC1.out.cell 4
  have q5:=HC1.out.cell 5
  simp at q0 q1 q2 q3 q4 q5
  have TL:Hid (1=1):=rfl
  go_wp2_with (have hguard:=TL;clear hguard;refine wp_load71 rfl _ rfl w.heap.size cs rfl HS.out HM1.out ?_;clear TL)
  refine (HP.out _ HK1.out).mono ?_
  rintro e w2 ⟨v,x,rfl,hy⟩
  have HY:Hid (Y w1 v x w2):=hy
  clear hy q0 q1 q2 q3 q4 q5 HC1 HM1 HP
  go_wp2
  go_ret2
  exact ⟨v,x,w1,rfl,HK1.out,HY.out⟩
set_option maxRecDepth 100000 in
set_option maxHeartbeats 2000000 in
theorem eJudgeCommand (cs:Array Value) (hcs:cs.size=9) (sa:Option Addr) (sn sc:Nat) (zs:List Int) (f p bu bl ro:Int) (w:World) (x:Int) (hP:∀ W,Kept No w W→Calls Tryz.prog 63 #[.agg cs,cfgV (.slice sa sn sc) f p bu bl ro,FV 64,.int .i64 105] W fun e w'=>e=.returned (.int .i64 x)∧Kept No W w') :
    Calls Tryz.prog 29 #[.agg cs,cfgV (.slice sa sn sc) f p bu bl ro] w fun e w'=>e=.returned (.int .i64 x)∧Kept No w w':=by
  have HS:Hid (cs.size=9):=hcs
  have HP:Hid (∀ W,Kept No w W→Calls Tryz.prog 63 #[.agg cs,cfgV (.slice sa sn sc) f p bu bl ro,FV 64,.int .i64 105] W fun e w'=>e=.returned (.int .i64 x)∧Kept No W w'):=hP
  clear hcs hP
  have TB:Hid (1=1):=rfl
  obtain ⟨w0,hw0⟩:∃ w0,w0=w.alloc (.cells cs 45):=⟨_,rfl⟩
  have HK0:Hid (Kept No w w0):=by rw [hw0];exact (Kept.refl No w).alloc _
  have HM0:Hid (Box w0 w.heap.size 45 cs):=by rw [hw0];exact Box.new _ _ _
  go_enter Tryz.func29,Tryz.ntmps29
  go_upto_region 1 with (have hguard:=TB;clear hguard;refine wp_boxV rfl 45 _ rfl cs rfl w.heap.size rfl ?_;rw [← hw0];clear hw0 TB)
  obtain ⟨w1,hw1⟩:∃ w1,w1=w0.alloc (.cells #[.slice sa sn sc,.int .i64 f,.int .i64 p,.int .i64 bu,.int .i64 bl,.int .i64 ro] 24):=⟨_,rfl⟩
  rw [← hw1]
  have hk1:Kept No w0 w1:=by rw [hw1];exact (Kept.refl No w0).alloc _
  have HC1:Hid (Box w1 w0.heap.size 24 #[.slice sa sn sc,.int .i64 f,.int .i64 p,.int .i64 bu,.int .i64 bl,.int .i64 ro]):=by rw [hw1];exact Box.new _ _ _
  have HK1:Hid (Kept No w w1):=HK0.out.then hk1
  have HM1:Hid (Box w1 w.heap.size 45 cs):=HM0.out.kept hk1 (fun e=>e)
  clear hw1 hk1 HM0 HK0
  have q0:=HC1.out.cell 0
  have q1:=HC1.out.cell 1
  have q2:=HC1.out.cell 2
  have q3:=HC1.out.cell 3
  have q4:=HC1.out.cell 4
  have q5:=HC1.out.cell 5
  simp at q0 q1 q2 q3 q4 q5
  have TL:Hid (1=1):=rfl
  go_wp2_with (have hguard:=TL;clear hguard;refine wp_load45 rfl _ rfl w.heap.size cs rfl HS.out HM1.out ?_;clear TL)
  refine (HP.out _ HK1.out).mono ?_
  rintro e w2 ⟨rfl,hk⟩
  have HK2:Hid (Kept No w w2):=HK1.out.then hk
  clear hk q0 q1 q2 q3 q4 q5 HC1 HM1 HP
  go_wp2
  go_ret
  exact ⟨rfl,HK2.out⟩
set_option maxRecDepth 100000 in
set_option maxHeartbeats 2000000 in
theorem eReadMsg (ba:Option Addr) (bn bc:Nat) (sa:Option Addr) (sn sc:Nat) (zs:List Int) (f p bu bl ro:Int) (w:World) (Y:World→Array Value→Int→World→Prop) (hP:∀ W,Kept No w W→Calls Tryz.prog 57 #[.slice ba bn bc,cfgV (.slice sa sn sc) f p bu bl ro,FV 58,FV 55,.int .i64 50] W fun e w'=>∃ cs x,e=.returned (.tuple #[.agg cs,.int .i64 x])∧cs.size=30∧cs.all (·.oneCell')=true∧Kept No W w'∧Y W cs x w') :
    Calls Tryz.prog 21 #[.slice ba bn bc,cfgV (.slice sa sn sc) f p bu bl ro] w (RdOut Y w):=by
  have HP:Hid (∀ W,Kept No w W→Calls Tryz.prog 57 #[.slice ba bn bc,cfgV (.slice sa sn sc) f p bu bl ro,FV 58,FV 55,.int .i64 50] W fun e w'=>∃ cs x,e=.returned (.tuple #[.agg cs,.int .i64 x])∧cs.size=30∧cs.all (·.oneCell')=true∧Kept No W w'∧Y W cs x w'):=hP
  clear hP
  have TA:Hid (1=1):=rfl
  go_enter Tryz.func21,Tryz.ntmps21
  go_upto_region 1 with (have hguard:=TA;clear hguard;refine wp_allocT rfl 71 rfl mZ.cells Tryz.info45z (w.heap.size+1) (by simp) ?_;clear TA)
  obtain ⟨w3,hw3⟩:∃ w3,w3=(w.alloc (.cells #[.slice sa sn sc,.int .i64 f,.int .i64 p,.int .i64 bu,.int .i64 bl,.int .i64 ro] 24)).alloc (.cells mZ.cells 71):=⟨_,rfl⟩
  rw [← hw3]
  have HK3:Hid (Kept No w w3):=by rw [hw3];exact ((Kept.refl No w).alloc _).alloc _
  have HC3:Hid (Box w3 w.heap.size 24 #[.slice sa sn sc,.int .i64 f,.int .i64 p,.int .i64 bu,.int .i64 bl,.int .i64 ro]):=by rw [hw3];exact (Box.new w 24 _).alloc _
  have HA3:Hid (Box w3 (w.heap.size+1) 71 mZ.cells):=by
    show Box _ _ _ _
    rw [hw3]
    have:=Box.new (w.alloc (.cells #[.slice sa sn sc,.int .i64 f,.int .i64 p,.int .i64 bu,.int .i64 bl,.int .i64 ro] 24)) 71 mZ.cells
    simpa using this
  clear hw3
  try simp only[Act.put,List.setIfInBounds_toArray,List.set_cons_zero,List.set_cons_succ]
  have q0:=HC3.out.cell 0
  have q1:=HC3.out.cell 1
  have q2:=HC3.out.cell 2
  have q3:=HC3.out.cell 3
  have q4:=HC3.out.cell 4
  have q5:=HC3.out.cell 5
  simp at q0 q1 q2 q3 q4 q5
  go_wp2_with fail
  refine (HP.out _ HK3.out).mono ?_
  rintro e w4 ⟨cs,x,rfl,hs1,hs2,hk4,hy⟩
  have HS:Hid (cs.size=30∧cs.all (·.oneCell')=true):=⟨hs1,hs2⟩
  have HY:Hid (Y w3 cs x w4):=hy
  have HK4:Hid (Kept No w3 w4):=hk4
  have HA4:Hid (Box w4 (w.heap.size+1) 71 mZ.cells):=HA3.out.kept hk4 (fun e=>e)
  have HL:Hid (w.heap.size+1 < w3.heap.size):=HA3.out.lt
  clear hs1 hs2 hk4 hy q0 q1 q2 q3 q4 q5 HC3 HA3 HP
  have TS:Hid (1=1):=rfl
  go_wp2_with (have hguard:=TS;clear hguard;refine wpList_store_row rfl 71 _ _ rfl (w.heap.size+1) cs (by rfl) (by rfl) 71 mZ.cells HA4.out (by rw [HS.out.1];exact Tryz.size71) (by rw [HS.out.1];rfl) HS.out.2 ?_;clear TS)
  have HF:Hid (Box (w4.setRow (w.heap.size+1) cs) (w.heap.size+1) 71 cs):=HA4.out.setRow _
  refine bodyPost_ret (results_row_tmp (by rfl) _ _ (w.heap.size+1) cs (by rfl) (load71_run HF.out HS.out.1)) rfl ?_
  have hk:=Kept.setRow w4 (w.heap.size+1) cs
  exact ⟨cs,x,w3,w4,rfl,HK3.out,HY.out,hk.mono (fun i _ e=>by have:=HL.out;unfold Only at e;omega),(HK3.out.then HK4.out).fresh hk (fun i e=>by unfold Only at e;omega)⟩
set_option maxRecDepth 100000 in
set_option maxHeartbeats 2000000 in
theorem eReadBlock (ba:Option Addr) (bn bc:Nat) (sa:Option Addr) (sn sc:Nat) (zs:List Int) (f p bu bl ro:Int) (w:World) (Y:World→Array Value→Int→World→Prop) (hP:∀ W,Kept No w W→Calls Tryz.prog 39 #[.slice ba bn bc,cfgV (.slice sa sn sc) f p bu bl ro,FV 40,FV 37,.int .i64 11] W fun e w'=>∃ cs x,e=.returned (.tuple #[.agg cs,.int .i64 x])∧cs.size=3∧cs.all (·.oneCell')=true∧Kept No W w'∧Y W cs x w') :
    Calls Tryz.prog 9 #[.slice ba bn bc,cfgV (.slice sa sn sc) f p bu bl ro] w (RdOut Y w):=by
  have HP:Hid (∀ W,Kept No w W→Calls Tryz.prog 39 #[.slice ba bn bc,cfgV (.slice sa sn sc) f p bu bl ro,FV 40,FV 37,.int .i64 11] W fun e w'=>∃ cs x,e=.returned (.tuple #[.agg cs,.int .i64 x])∧cs.size=3∧cs.all (·.oneCell')=true∧Kept No W w'∧Y W cs x w'):=hP
  clear hP
  have TA:Hid (1=1):=rfl
  go_enter Tryz.func9,Tryz.ntmps9
  go_upto_region 1 with (have hguard:=TA;clear hguard;refine wp_allocT rfl 37 rfl zB Tryz.info73z (w.heap.size+1) (by simp) ?_;clear TA)
  obtain ⟨w3,hw3⟩:∃ w3,w3=(w.alloc (.cells #[.slice sa sn sc,.int .i64 f,.int .i64 p,.int .i64 bu,.int .i64 bl,.int .i64 ro] 24)).alloc (.cells zB 37):=⟨_,rfl⟩
  rw [← hw3]
  have HK3:Hid (Kept No w w3):=by rw [hw3];exact ((Kept.refl No w).alloc _).alloc _
  have HC3:Hid (Box w3 w.heap.size 24 #[.slice sa sn sc,.int .i64 f,.int .i64 p,.int .i64 bu,.int .i64 bl,.int .i64 ro]):=by rw [hw3];exact (Box.new w 24 _).alloc _
  have HA3:Hid (Box w3 (w.heap.size+1) 37 zB):=by
    show Box _ _ _ _
    rw [hw3]
    have:=Box.new (w.alloc (.cells #[.slice sa sn sc,.int .i64 f,.int .i64 p,.int .i64 bu,.int .i64 bl,.int .i64 ro] 24)) 37 zB
    simpa using this
  clear hw3
  try simp only[Act.put,List.setIfInBounds_toArray,List.set_cons_zero,List.set_cons_succ]
  have q0:=HC3.out.cell 0
  have q1:=HC3.out.cell 1
  have q2:=HC3.out.cell 2
  have q3:=HC3.out.cell 3
  have q4:=HC3.out.cell 4
  have q5:=HC3.out.cell 5
  simp at q0 q1 q2 q3 q4 q5
  go_wp2_with fail
  refine (HP.out _ HK3.out).mono ?_
  rintro e w4 ⟨cs,x,rfl,hs1,hs2,hk4,hy⟩
  have HS:Hid (cs.size=3∧cs.all (·.oneCell')=true):=⟨hs1,hs2⟩
  have HY:Hid (Y w3 cs x w4):=hy
  have HK4:Hid (Kept No w3 w4):=hk4
  have HA4:Hid (Box w4 (w.heap.size+1) 37 zB):=HA3.out.kept hk4 (fun e=>e)
  have HL:Hid (w.heap.size+1 < w3.heap.size):=HA3.out.lt
  clear hs1 hs2 hk4 hy q0 q1 q2 q3 q4 q5 HC3 HA3 HP
  have TS:Hid (1=1):=rfl
  go_wp2_with (have hguard:=TS;clear hguard;refine wpList_store_row rfl 37 _ _ rfl (w.heap.size+1) cs (by rfl) (by rfl) 37 zB HA4.out (by rw [HS.out.1];exact Tryz.size37) (by rw [HS.out.1];rfl) HS.out.2 ?_;clear TS)
  have HF:Hid (Box (w4.setRow (w.heap.size+1) cs) (w.heap.size+1) 37 cs):=HA4.out.setRow _
  refine bodyPost_ret (results_row_tmp (by rfl) _ _ (w.heap.size+1) cs (by rfl) (load37_run HF.out HS.out.1)) rfl ?_
  have hk:=Kept.setRow w4 (w.heap.size+1) cs
  exact ⟨cs,x,w3,w4,rfl,HK3.out,HY.out,hk.mono (fun i _ e=>by have:=HL.out;unfold Only at e;omega),(HK3.out.then HK4.out).fresh hk (fun i e=>by unfold Only at e;omega)⟩
set_option maxRecDepth 100000 in
set_option maxHeartbeats 2000000 in
theorem eReadInst (ba:Option Addr) (bn bc:Nat) (sa:Option Addr) (sn sc:Nat) (zs:List Int) (f p bu bl ro:Int) (w:World) (Y:World→Array Value→Int→World→Prop) (hP:∀ W,Kept No w W→Calls Tryz.prog 44 #[.slice ba bn bc,cfgV (.slice sa sn sc) f p bu bl ro,FV 45,FV 42,.int .i64 11] W fun e w'=>∃ cs x,e=.returned (.tuple #[.agg cs,.int .i64 x])∧cs.size=14∧cs.all (·.oneCell')=true∧Kept No W w'∧Y W cs x w') :
    Calls Tryz.prog 12 #[.slice ba bn bc,cfgV (.slice sa sn sc) f p bu bl ro] w (RdOut Y w):=by
  have HP:Hid (∀ W,Kept No w W→Calls Tryz.prog 44 #[.slice ba bn bc,cfgV (.slice sa sn sc) f p bu bl ro,FV 45,FV 42,.int .i64 11] W fun e w'=>∃ cs x,e=.returned (.tuple #[.agg cs,.int .i64 x])∧cs.size=14∧cs.all (·.oneCell')=true∧Kept No W w'∧Y W cs x w'):=hP
  clear hP
  have TA:Hid (1=1):=rfl
  go_enter Tryz.func12,Tryz.ntmps12
  go_upto_region 1 with (have hguard:=TA;clear hguard;refine wp_allocT rfl 47 rfl zI Tryz.info78z (w.heap.size+1) (by simp) ?_;clear TA)
  obtain ⟨w3,hw3⟩:∃ w3,w3=(w.alloc (.cells #[.slice sa sn sc,.int .i64 f,.int .i64 p,.int .i64 bu,.int .i64 bl,.int .i64 ro] 24)).alloc (.cells zI 47):=⟨_,rfl⟩
  rw [← hw3]
  have HK3:Hid (Kept No w w3):=by rw [hw3];exact ((Kept.refl No w).alloc _).alloc _
  have HC3:Hid (Box w3 w.heap.size 24 #[.slice sa sn sc,.int .i64 f,.int .i64 p,.int .i64 bu,.int .i64 bl,.int .i64 ro]):=by rw [hw3];exact (Box.new w 24 _).alloc _
  have HA3:Hid (Box w3 (w.heap.size+1) 47 zI):=by
    show Box _ _ _ _
    rw [hw3]
    have:=Box.new (w.alloc (.cells #[.slice sa sn sc,.int .i64 f,.int .i64 p,.int .i64 bu,.int .i64 bl,.int .i64 ro] 24)) 47 zI
    simpa using this
  clear hw3
  try simp only[Act.put,List.setIfInBounds_toArray,List.set_cons_zero,List.set_cons_succ]
  have q0:=HC3.out.cell 0
  have q1:=HC3.out.cell 1
  have q2:=HC3.out.cell 2
  have q3:=HC3.out.cell 3
  have q4:=HC3.out.cell 4
  have q5:=HC3.out.cell 5
  simp at q0 q1 q2 q3 q4 q5
  go_wp2_with fail
  refine (HP.out _ HK3.out).mono ?_
  rintro e w4 ⟨cs,x,rfl,hs1,hs2,hk4,hy⟩
  have HS:Hid (cs.size=14∧cs.all (·.oneCell')=true):=⟨hs1,hs2⟩
  have HY:Hid (Y w3 cs x w4):=hy
  have HK4:Hid (Kept No w3 w4):=hk4
  have HA4:Hid (Box w4 (w.heap.size+1) 47 zI):=HA3.out.kept hk4 (fun e=>e)
  have HL:Hid (w.heap.size+1 < w3.heap.size):=HA3.out.lt
  clear hs1 hs2 hk4 hy q0 q1 q2 q3 q4 q5 HC3 HA3 HP
  have TS:Hid (1=1):=rfl
  go_wp2_with (have hguard:=TS;clear hguard;refine wpList_store_row rfl 47 _ _ rfl (w.heap.size+1) cs (by rfl) (by rfl) 47 zI HA4.out (by rw [HS.out.1];exact Tryz.size47) (by rw [HS.out.1];rfl) HS.out.2 ?_;clear TS)
  have HF:Hid (Box (w4.setRow (w.heap.size+1) cs) (w.heap.size+1) 47 cs):=HA4.out.setRow _
  refine bodyPost_ret (results_row_tmp (by rfl) _ _ (w.heap.size+1) cs (by rfl) (load47_run HF.out HS.out.1)) rfl ?_
  have hk:=Kept.setRow w4 (w.heap.size+1) cs
  exact ⟨cs,x,w3,w4,rfl,HK3.out,HY.out,hk.mono (fun i _ e=>by have:=HL.out;unfold Only at e;omega),(HK3.out.then HK4.out).fresh hk (fun i e=>by unfold Only at e;omega)⟩
set_option maxRecDepth 100000 in
set_option maxHeartbeats 2000000 in
theorem eReadBucket (ba:Option Addr) (bn bc:Nat) (sa:Option Addr) (sn sc:Nat) (zs:List Int) (f p bu bl ro:Int) (w:World) (Y:World→Array Value→Int→World→Prop) (hP:∀ W,Kept No w W→Calls Tryz.prog 50 #[.slice ba bn bc,cfgV (.slice sa sn sc) f p bu bl ro,FV 51,FV 47,.int .i64 11] W fun e w'=>∃ cs x,e=.returned (.tuple #[.agg cs,.int .i64 x])∧cs.size=3∧cs.all (·.oneCell')=true∧Kept No W w'∧Y W cs x w') :
    Calls Tryz.prog 15 #[.slice ba bn bc,cfgV (.slice sa sn sc) f p bu bl ro] w (RdOut Y w):=by
  have HP:Hid (∀ W,Kept No w W→Calls Tryz.prog 50 #[.slice ba bn bc,cfgV (.slice sa sn sc) f p bu bl ro,FV 51,FV 47,.int .i64 11] W fun e w'=>∃ cs x,e=.returned (.tuple #[.agg cs,.int .i64 x])∧cs.size=3∧cs.all (·.oneCell')=true∧Kept No W w'∧Y W cs x w'):=hP
  clear hP
  have TA:Hid (1=1):=rfl
  go_enter Tryz.func15,Tryz.ntmps15
  go_upto_region 1 with (have hguard:=TA;clear hguard;refine wp_allocT rfl 54 rfl zK Tryz.info43z (w.heap.size+1) (by simp) ?_;clear TA)
  obtain ⟨w3,hw3⟩:∃ w3,w3=(w.alloc (.cells #[.slice sa sn sc,.int .i64 f,.int .i64 p,.int .i64 bu,.int .i64 bl,.int .i64 ro] 24)).alloc (.cells zK 54):=⟨_,rfl⟩
  rw [← hw3]
  have HK3:Hid (Kept No w w3):=by rw [hw3];exact ((Kept.refl No w).alloc _).alloc _
  have HC3:Hid (Box w3 w.heap.size 24 #[.slice sa sn sc,.int .i64 f,.int .i64 p,.int .i64 bu,.int .i64 bl,.int .i64 ro]):=by rw [hw3];exact (Box.new w 24 _).alloc _
  have HA3:Hid (Box w3 (w.heap.size+1) 54 zK):=by
    show Box _ _ _ _
    rw [hw3]
    have:=Box.new (w.alloc (.cells #[.slice sa sn sc,.int .i64 f,.int .i64 p,.int .i64 bu,.int .i64 bl,.int .i64 ro] 24)) 54 zK
    simpa using this
  clear hw3
  try simp only[Act.put,List.setIfInBounds_toArray,List.set_cons_zero,List.set_cons_succ]
  have q0:=HC3.out.cell 0
  have q1:=HC3.out.cell 1
  have q2:=HC3.out.cell 2
  have q3:=HC3.out.cell 3
  have q4:=HC3.out.cell 4
  have q5:=HC3.out.cell 5
  simp at q0 q1 q2 q3 q4 q5
  go_wp2_with fail
  refine (HP.out _ HK3.out).mono ?_
  rintro e w4 ⟨cs,x,rfl,hs1,hs2,hk4,hy⟩
  have HS:Hid (cs.size=3∧cs.all (·.oneCell')=true):=⟨hs1,hs2⟩
  have HY:Hid (Y w3 cs x w4):=hy
  have HK4:Hid (Kept No w3 w4):=hk4
  have HA4:Hid (Box w4 (w.heap.size+1) 54 zK):=HA3.out.kept hk4 (fun e=>e)
  have HL:Hid (w.heap.size+1 < w3.heap.size):=HA3.out.lt
  clear hs1 hs2 hk4 hy q0 q1 q2 q3 q4 q5 HC3 HA3 HP
  have TS:Hid (1=1):=rfl
  go_wp2_with (have hguard:=TS;clear hguard;refine wpList_store_row rfl 54 _ _ rfl (w.heap.size+1) cs (by rfl) (by rfl) 54 zK HA4.out (by rw [HS.out.1];exact Tryz.size54) (by rw [HS.out.1];rfl) HS.out.2 ?_;clear TS)
  have HF:Hid (Box (w4.setRow (w.heap.size+1) cs) (w.heap.size+1) 54 cs):=HA4.out.setRow _
  refine bodyPost_ret (results_row_tmp (by rfl) _ _ (w.heap.size+1) cs (by rfl) (load54_run HF.out HS.out.1)) rfl ?_
  have hk:=Kept.setRow w4 (w.heap.size+1) cs
  exact ⟨cs,x,w3,w4,rfl,HK3.out,HY.out,hk.mono (fun i _ e=>by have:=HL.out;unfold Only at e;omega),(HK3.out.then HK4.out).fresh hk (fun i e=>by unfold Only at e;omega)⟩
theorem eNoReadBlock (ba:Option Addr) (bn bc:Nat) (sa:Option Addr) (sn sc:Nat) (zs:List Int) (f p bu bl ro:Int) (w:World) (h:Cfg w sa sn sc zs) (hno:cfgB zs f p bu bl ro=false) :
    Calls Tryz.prog 9 #[.slice ba bn bc,cfgV (.slice sa sn sc) f p bu bl ro] w fun e w'=>e=.returned (.tuple #[.agg zB,.int .i64 20])∧Kept No w w':=by
  refine (eReadBlock ba bn bc sa sn sc zs f p bu bl ro w (fun W cs x w'=>cs=zB∧x=20) (fun W hW=>?_)).mono ?_
  · exact (unpackBlock_no ba bn bc _ _ _ sa sn sc zs f p bu bl ro W (h.no hW) hno).mono (fun e w' ⟨a,b⟩=>⟨_,_,a,rfl,zB_one,b,rfl,rfl⟩)
  · rintro e w' ⟨cs,x,W,w1,rfl,hW,⟨rfl,rfl⟩,hk,hk'⟩
    exact ⟨rfl,hk'⟩
theorem eNoReadInst (ba:Option Addr) (bn bc:Nat) (sa:Option Addr) (sn sc:Nat) (zs:List Int) (f p bu bl ro:Int) (w:World) (h:Cfg w sa sn sc zs) (hno:cfgB zs f p bu bl ro=false) :
    Calls Tryz.prog 12 #[.slice ba bn bc,cfgV (.slice sa sn sc) f p bu bl ro] w fun e w'=>e=.returned (.tuple #[.agg zI,.int .i64 20])∧Kept No w w':=by
  refine (eReadInst ba bn bc sa sn sc zs f p bu bl ro w (fun W cs x w'=>cs=zI∧x=20) (fun W hW=>?_)).mono ?_
  · exact (unpackInst_no ba bn bc _ _ _ sa sn sc zs f p bu bl ro W (h.no hW) hno).mono (fun e w' ⟨a,b⟩=>⟨_,_,a,rfl,zI_one,b,rfl,rfl⟩)
  · rintro e w' ⟨cs,x,W,w1,rfl,hW,⟨rfl,rfl⟩,hk,hk'⟩
    exact ⟨rfl,hk'⟩
theorem eNoReadBucket (ba:Option Addr) (bn bc:Nat) (sa:Option Addr) (sn sc:Nat) (zs:List Int) (f p bu bl ro:Int) (w:World) (h:Cfg w sa sn sc zs) (hno:cfgB zs f p bu bl ro=false) :
    Calls Tryz.prog 15 #[.slice ba bn bc,cfgV (.slice sa sn sc) f p bu bl ro] w fun e w'=>e=.returned (.tuple #[.agg zK,.int .i64 20])∧Kept No w w':=by
  refine (eReadBucket ba bn bc sa sn sc zs f p bu bl ro w (fun W cs x w'=>cs=zK∧x=20) (fun W hW=>?_)).mono ?_
  · exact (unpackBucket_no ba bn bc _ _ _ sa sn sc zs f p bu bl ro W (h.no hW) hno).mono (fun e w' ⟨a,b⟩=>⟨_,_,a,rfl,zK_one,b,rfl,rfl⟩)
  · rintro e w' ⟨cs,x,W,w1,rfl,hW,⟨rfl,rfl⟩,hk,hk'⟩
    exact ⟨rfl,hk'⟩
def SmallOut (w:World) (e:Ending) (w':World):Prop:=∃ b,e=.returned (cfgV (.slice (some ⟨b,0,none⟩) 3 3) 1 1 2 3 2)∧Cfg w' (some ⟨b,0,none⟩) 3 3 [1,2,3]∧Kept No w w'
theorem small_cfg:cfgB [1,2,3] 1 1 2 3 2=true:=by
  have hg:Good [1,2,3] [(1:Int),2,3].length:=by
    intro i hi
    have h3:i < 3:=hi
    match i,h3 with
    | 0,_=>exact ⟨by decide,fun k hk=>absurd hk (Nat.not_lt_zero _)⟩
    | 1,_=>exact ⟨by decide,fun k hk=>by match k,hk with | 0,_=>decide⟩
    | 2,_=>exact ⟨by decide,fun k hk=>by match k,hk with | 0,_=>decide | 1,_=>decide⟩
  rw [← cfg_and,← goodB_yes hg]
  rfl
set_option maxRecDepth 100000 in
set_option maxHeartbeats 1000000 in
theorem small_any (w:World):Calls Tryz.prog 35 #[] w (SmallOut w):=by
  go_enter Tryz.func35,Tryz.ntmps35
  go_wp2
  refine bodyPost_ret (results_cell_row (by rfl) _ _ w.heap.size 24 #[.slice (some ⟨w.heap.size+1,0,none⟩) 3 3,.int .i64 1,.int .i64 1,.int .i64 2,.int .i64 3,.int .i64 2] (0,0) _ (by rfl) ((Box.new w 24 _).alloc _) Tryz.underlying24 rfl (by kernel_rfl)) rfl ?_
  refine ⟨w.heap.size+1,rfl,⟨?_,rfl,by omega⟩,((Kept.refl No w).alloc _).alloc _⟩
  have hb:=Box.new (w.alloc (Obj.cells #[.slice (some ⟨w.heap.size+1,0,none⟩) 3 3,.int .i64 1,.int .i64 1,.int .i64 2,.int .i64 3,.int .i64 2] 24)) 3 (([1,2,3]:List Int).map (Value.int .i64)).toArray
  have hb2:=hb.nums 3
  rw [World.heap_size_alloc1] at hb2
  exact hb2
def zC:Array Value:=#[.int .i64 0,.int .i64 0,.int .i64 0,.string ByteArray.empty,.int .i64 0,.int .i64 0,.int .i64 0,.int .i64 0,.int .i64 0]
set_option maxRecDepth 100000 in
set_option maxHeartbeats 1000000 in
theorem rightCommand_zero (sa:Option Addr) (sn sc:Nat) (f p bu bl ro:Int) (w:World):Calls Tryz.prog 64 #[.agg zC,cfgV (.slice sa sn sc) f p bu bl ro] w fun e w'=>e=.returned (.bool false)∧Kept No w w':=by
  unfold zC
  go_enter Tryz.func64,Tryz.ntmps64
  go_wp2_with (go_at_call 117;refine (rightId_any _ _).mono ?_;rintro e w' ⟨rfl,rfl⟩)
  go_ret
  exact ⟨rfl,((Kept.refl No w).alloc _).alloc _⟩
def mK:MsgD:={ mZ with kind:=1,fc:=true,fi:=4,tc:=false,ti:=2,op:=9,rd:=1,kk:=1,ka:=4,kb:=2,kc:=0 }
def bK:List Int:=[1,1,4,0,2,9,1,1,4,2,0]
theorem mK_cn:mK.cn.toList=[]:=by
  show ByteArray.empty.toList=[]
  rw [ByteArray.toList,ByteArray.toList.loop,if_neg (by decide)]
  rfl
theorem mK_only:onlyB mK []=true:=(onlyB_yes (fun f hf=>by
  match f,hf with
  | 0,_=>decide
  | 1,_=>decide
  | 2,_=>decide
  | 3,_=>
    have:emptyF mK 3=true:=by
      unfold emptyF
      rw [if_neg (by decide),if_neg (by decide),if_neg (by decide),if_pos rfl]
      exact decide_eq_true ⟨rfl,rfl,rfl,mK_cn,rfl,rfl,rfl,rfl,rfl⟩
    rw [this];rfl
  | 4,_=>decide
  | 5,_=>decide
  | 6,_=>decide)).symm
theorem mK_ends:(endsB mK [1,2,3]&&(keyOkB mK 2&&(onlyB mK []&&true)))=true:=by
  rw [mK_only];decide
theorem put_lo {zs:List Int} {n:Int} (h0:0≤n) (h1:n < 128):putNum (some zs) n=some (zs++[n]):=by
  unfold putNum
  rw [if_neg (by omega)]
  show some (zs++vint n.toNat)=_
  rw [vint_lo (by omega),Int.toNat_of_nonneg h0]
theorem mK_head:headS (some []) mK=some bK:=by
  unfold headS numsS
  simp only[List.foldl_cons,List.foldl_nil]
  rw [show mK.kind=1 from rfl,show flagI mK.fc=1 from rfl,show mK.fi=4 from rfl,show flagI mK.tc=0 from rfl,show mK.ti=2 from rfl,show mK.op=9 from rfl,show mK.rd=1 from rfl,show mK.kk=1 from rfl,show mK.ka=4 from rfl,show mK.kb=2 from rfl,show mK.kc=0 from rfl]
  repeat rw [put_lo (by omega) (by omega)]
  rfl
theorem bK_read:mH (.ok bK 0)=mK:=by rfl
theorem bK_whole:wholeB (o2 false (.ok bK 0)) (t9 (.ok bK 0))=true:=by decide
theorem bK_kind:nV (.ok bK 0)=1:=by decide
theorem bK_u8:U8 bK:=by
  unfold bK
  repeat refine U8.cons (by omega) ?_
  exact U8.nil
theorem bK_open:openOf (sealOf bK)=(bK,0):=open_seal bK (by decide)
theorem bK_mid:((sealOf bK).drop 8).take 11=bK:=by decide
section
variable {ops:Array Oper} {rest:List Oper} {o:Oper} {a:Act} {w:World} {Q:Exit→Act→World→Prop}
theorem wp_buildT (hg:o.guard=none) (t:TypeId) (parts:Array (Nat × Operand)) (ho:o.op=.build t parts) (cs:Array Value) (hf:Tryz.prog.built t (parts.map fun (i,x)=>(i,a.eval x)).toList=some cs)
    (h:wpList Tryz.prog ops Q rest (a.put o.dst (.agg cs)) w):wpList Tryz.prog ops Q (o :: rest) a w:=by
  refine wpList_build hg t parts ho (by rw [hf];rfl) ?_
  rw [hf]
  exact h
end
theorem run_loadK (g:Nat) (w:World) (hb:Box w g 71 mK.cells):(loadVar 71 ⟨g,0,none⟩).run Tryz.prog w=.ok (.agg mK.cells) w:=load71_run hb rfl
def EncOut (w:World) (e:Ending) (w':World):Prop:=∃ g c,e=.returned (.tuple #[.slice (some ⟨g,0,none⟩) 23 c,.int .i64 0])∧OwnS w' w.heap.size (some ⟨g,0,none⟩) c (sealOf bK)∧Kept No w w'
theorem encK (b:Nat) (w:World) (h:Cfg w (some ⟨b,0,none⟩) 3 3 [1,2,3]) :
    Calls Tryz.prog 19 #[.agg mK.cells,cfgV (.slice (some ⟨b,0,none⟩) 3 3) 1 1 2 3 2] w (EncOut w):=by
  have hR:∀ W,Kept No w W→Calls Tryz.prog 55 #[.agg mK.cells,cfgV (.slice (some ⟨b,0,none⟩) 3 3) 1 1 2 3 2] W fun e w'=>e=.returned (.bool true)∧Kept No W w':=fun W hW=>by
    have:=rightMsg_nil mK (by rfl) true (some ⟨b,0,none⟩) 3 3 [1,2,3] 1 1 2 3 2 W (h.no hW) (by omega) (by omega) (fun W' _=>rightFields_1 mK rfl _ W' rfl _ _ _ _ _ _ rfl)
    rw [mK_ends] at this
    exact this
  have hJ:∀ W,Kept No w W→Calls Tryz.prog 62 #[.agg mK.cells,cfgV (.slice (some ⟨b,0,none⟩) 3 3) 1 1 2 3 2,FV 55,.int .i64 50] W fun e w'=>e=.returned (.int .i64 0)∧Kept No W w':=fun W hW=>
    judgeMsg_all mK.cells rfl true 50 (some ⟨b,0,none⟩) 3 3 [1,2,3] 1 1 2 3 2 W (h.no hW) small_cfg (fun W' hW'=>hR W' (hW.then hW'))
  refine (ePackMsg mK.cells rfl (some ⟨b,0,none⟩) 3 3 [1,2,3] 1 1 2 3 2 w (fun W v x w'=>∃ a c,v=.slice a 23 c∧x=0∧OwnS w' W.heap.size a c (sealOf bK)∧Kept No W w') (fun W hW=>?_)).mono ?_
  · refine (packMsg_all mK.cells rfl 50 (some ⟨b,0,none⟩) 3 3 [1,2,3] 1 1 2 3 2 bK W (by decide) bK_u8 (fun W' hW'=>hJ W' (hW.then hW')) (fun W' g hW' hw=>?_)).mono ?_
    · have:=putMsg_nil W.heap.size g none 0 (some []) mK (by rfl) ⟨by decide,by decide,by decide,by decide,by decide,by decide,by decide,by decide,by decide⟩ W' hw (by decide) hW'.size
      rw [mK_head] at this
      exact this
    · rintro e w' ⟨a,c,rfl,hO,hk⟩
      exact ⟨_,_,rfl,a,c,rfl,rfl,hO,hk⟩
  · rintro e w' ⟨v,x,W,rfl,hW,⟨a,c,rfl,rfl,hO,hk⟩⟩
    rcases hO.cases with ⟨_,_,e⟩ | ⟨g,rfl,_,_,_,_⟩
    · exact absurd (congrArg List.length e) (by decide)
    · exact ⟨g,c,rfl,hO.lower hW.size,hW.then hk⟩
def DecOut (w:World) (e:Ending) (w':World):Prop:=e=.returned (.tuple #[.agg mK.cells,.int .i64 0])∧Kept No w w'
theorem decK (b:Nat) (ba:Option Addr) (bc:Nat) (w:World) (h:Cfg w (some ⟨b,0,none⟩) 3 3 [1,2,3]) (hs:Sl w ba 23 bc (sealOf bK)) :
    Calls Tryz.prog 21 #[.slice ba 23 bc,cfgV (.slice (some ⟨b,0,none⟩) 3 3) 1 1 2 3 2] w (DecOut w):=by
  refine (eReadMsg ba 23 bc (some ⟨b,0,none⟩) 3 3 [1,2,3] 1 1 2 3 2 w (fun W cs x w'=>cs=mK.cells∧x=0) (fun W hW=>?_)).mono ?_
  · have hb:(openOf (sealOf bK)).1=bK:=by rw [bK_open]
    refine (unpackMsg_all ba 23 bc (sealOf bK) 50 (some ⟨b,0,none⟩) 3 3 [1,2,3] 1 1 2 3 2 W (h.no hW) small_cfg (hs.no hW) (by rw [bK_open]) (by rw [hb];exact bK_u8) (by rw [hb];decide) (o2 false (.ok bK 0)) (t9 (.ok bK 0)) true (fun _ _ cs=>cs=mK.cells) (fun _ _ cs e=>by subst e;exact ⟨rfl,mK.one⟩) (fun _ _ _ _ e _=>e) (fun W' r g lb _ hr=>?_) (fun W0 W' cs hW' e=>?_)).mono ?_
    · rw [hb] at hr
      refine (readMsg_nil hr (by rw [bK_kind];rfl)).mono ?_
      rintro e w' ⟨rfl,hr'⟩
      exact ⟨_,rfl,hr',by rw [bK_read]⟩
    · subst e
      have:=rightMsg_nil mK (by rfl) true (some ⟨b,0,none⟩) 3 3 [1,2,3] 1 1 2 3 2 W' (h.no (hW.then hW')) (by omega) (by omega) (fun W'' _=>rightFields_1 mK rfl _ W'' rfl _ _ _ _ _ _ rfl)
      rw [mK_ends] at this
      exact this
    · rintro e w' ⟨cs,he,⟨W0,_,hcs⟩,hk⟩
      rw [bK_whole] at he
      subst hcs
      exact ⟨_,_,he,rfl,mK.one,hk,rfl,rfl⟩
  · rintro e w' ⟨cs,x,W,w1,rfl,hW,⟨rfl,rfl⟩,_,hk⟩
    exact ⟨rfl,hk⟩
theorem cmdK (b:Nat) (w:World) (h:Cfg w (some ⟨b,0,none⟩) 3 3 [1,2,3]) :
    Calls Tryz.prog 29 #[.agg zC,cfgV (.slice (some ⟨b,0,none⟩) 3 3) 1 1 2 3 2] w fun e w'=>e=.returned (.int .i64 105)∧Kept No w w':=
  eJudgeCommand zC rfl (some ⟨b,0,none⟩) 3 3 [1,2,3] 1 1 2 3 2 w 105 (fun W hW=>judgeCommand_all zC rfl false 105 (some ⟨b,0,none⟩) 3 3 [1,2,3] 1 1 2 3 2 W (h.no hW) small_cfg (fun W' _=>rightCommand_zero _ _ _ _ _ _ _ _ W'))
def loadS (x:Addr):=loadVar 71 x
theorem loadS_eq (x:Addr):loadVar 71 x=loadS x:=rfl
theorem run_loadS (g:Nat) (w:World) (hb:Box w g 71 mK.cells):Sem.run Tryz.prog (loadS ⟨g,0,none⟩) w=.ok (.agg mK.cells) w:=run_loadK g w hb
theorem bytes_new (w:World) (zs:List Int):Bytes (w.alloc (.cells (zs.map (Value.int .u8)).toArray 5)) (some ⟨w.heap.size,0,none⟩) zs:=by
  intro i hi
  refine ⟨_,0,rfl,?_⟩
  rw [Nat.zero_add,(Box.new w 5 _).cell i]
  simp [hi]
theorem sealK_len:(sealOf bK).length=23:=by decide
section
attribute [local go_sem ↓] loadS_eq
attribute [local go_sem] run_loadS
set_option maxRecDepth 100000 in
set_option maxHeartbeats 8000000 in
theorem known_any (w:World):Calls Tryz.prog 7 #[] w fun e w'=>e=.returned (.bool true)∧Kept No w w':=by
  have TA:Hid (1=1):=rfl
  have TS:Hid (1=1):=rfl
  have TD:Hid (1=1):=rfl
  have HB0:Hid (Box (w.alloc (.cells mZ.cells 71)) w.heap.size 71 mZ.cells):=Box.new _ _ _
  go_enter Tryz.func7,Tryz.ntmps7
  go_upto_region 2 with (first
    | (have hguard:=TD;clear hguard;refine wp_buildT rfl 71 _ rfl mK.cells (by kernel_rfl) ?_;clear TD)
    | (have hguard:=TA;clear hguard;refine wp_allocT rfl 71 rfl mZ.cells Tryz.info45z w.heap.size rfl ?_;clear TA)
    | (have hguard:=TS;clear hguard;refine wpList_store_row rfl 71 _ _ rfl w.heap.size mK.cells (by rfl) (by rfl) 71 mZ.cells HB0.out Tryz.size71 (by rfl) mK.one ?_;clear TS))
  obtain ⟨w1,hw1⟩:∃ w1,w1=(w.alloc (.cells mZ.cells 71)).setRow w.heap.size mK.cells:=⟨_,rfl⟩
  rw [← hw1]
  have HB1:Hid (Box w1 w.heap.size 71 mK.cells):=by rw [hw1];exact HB0.out.setRow _
  have HK1:Hid (Kept No w w1):=by rw [hw1];exact ((Kept.refl No w).alloc _).fresh (Kept.setRow _ _ _) (fun i e=>by unfold Only at e;omega)
  have hb1:Box w1 w.heap.size 71 mK.cells:=HB1.out
  have hb1d:Box w1.drew w.heap.size 71 mK.cells:=HB1.out.kept ((Kept.refl No w1).drew) (fun e=>e)
  clear hw1 HB0
  try simp only[Act.put,List.setIfInBounds_toArray,List.set_cons_zero,List.set_cons_succ]
  go_region_held3 (fun w'=>Box w' w.heap.size 71 mK.cells) (assumption) (first
    | (go_at_call 35;refine (small_any _).mono ?_;rintro e w2 ⟨b2,rfl,hc2,hk2⟩;have HC2:Hid (Cfg w2 (some ⟨b2,0,none⟩) 3 3 [1,2,3]):=hc2;have HK2:Hid (Kept No w1 w2):=((Kept.refl No w1).drew).then hk2;have hb2:Box w2 w.heap.size 71 mK.cells:=hb1d.kept hk2 (fun e=>e);clear hc2 hk2)
    | (go_at_call 19;refine (encK b2 w2 HC2.out).mono ?_;rintro e w3 ⟨g3,c3,rfl,hO3,hk3⟩;have HO3:Hid (OwnS w3 w2.heap.size (some ⟨g3,0,none⟩) c3 (sealOf bK)):=hO3;have HK3:Hid (Kept No w1 w3):=HK2.out.then hk3;have hb3:Box w3 w.heap.size 71 mK.cells:=hb2.kept hk3 (fun e=>e);clear hO3 hk3))
  have HB3:Hid (Box w3 w.heap.size 71 mK.cells):=hb3
  clear hb1 hb1d hb2 hb3 HC2 HK2
  have hO3:=HO3.out
  have hc1:23≤c3:=by have:=hO3.len;rw [sealK_len] at this;exact this
  have hc2:c3≤maxLen:=by
    rcases hO3.cases with ⟨e,_⟩ | ⟨_,_,_,_,_,h⟩
    · cases e
    · exact h
  have hc3:(c3:Int)≤9223372036854775807:=by unfold maxLen at hc2;omega
  have hc4:(19:Int)≤(c3:Int):=by omega
  have HS3:Hid (Sl w3 (some ⟨g3,0,none⟩) 23 c3 (sealOf bK)):=hO3.sl sealK_len (sealOf_u8 bK_u8) (by omega)
  have HY3:Hid (Bytes w3 (some ⟨g3,8,none⟩) bK):=by
    have h:=(hO3.bytes.drop 8).take 11
    rw [bK_mid] at h
    exact h
  clear hO3 HO3
  go_wp2_with fail
  refine (sameN_any (some ⟨g3,8,none⟩) (some ⟨w3.heap.size,0,none⟩) 11 11 (c3 - 8) 11 bK bK _ rfl rfl (by omega) (by omega) (HY3.out.no ((Kept.refl No w3).alloc _)) (bytes_new w3 bK)).mono ?_
  rw [eqB_refl]
  rintro e w4 ⟨rfl,n4,hw4⟩
  have hk4:Kept No w3 w4:=by rw [hw4];exact ((Kept.refl No w3).alloc _).drewN n4
  have HK4:Hid (Kept No w1 w4):=HK3.out.then hk4
  have HS4:Hid (Sl w4 (some ⟨g3,0,none⟩) 23 c3 (sealOf bK)):=HS3.out.no hk4
  have HB4:Hid (Box w4 w.heap.size 71 mK.cells):=HB3.out.kept hk4 (fun e=>e)
  clear hk4 hw4 HS3 HY3 HB3 HK3 hc1 hc2 hc3 hc4
  go_wp2_with fail
  refine (small_any _).mono ?_
  rintro e w5 ⟨b5,rfl,hc5,hk5⟩
  have HD5:Hid (Calls Tryz.prog 21 #[.slice (some ⟨g3,0,none⟩) 23 c3,cfgV (.slice (some ⟨b5,0,none⟩) 3 3) 1 1 2 3 2] w5 (DecOut w5)):=decK b5 _ c3 w5 hc5 (HS4.out.no hk5)
  have HK5:Hid (Kept No w1 w5):=HK4.out.then hk5
  have HB5:Hid (Box w5 w.heap.size 71 mK.cells):=HB4.out.kept hk5 (fun e=>e)
  clear hc5 hk5 HK4 HB4 HS4
  go_wp2_with fail
  refine HD5.out.mono ?_
  rintro e w6 ⟨rfl,hk6⟩
  have HK6:Hid (Kept No w1 w6):=HK5.out.then hk6
  have HB6:Hid (Box w6 w.heap.size 71 mK.cells):=HB5.out.kept hk6 (fun e=>e)
  have HN6:Hid (Box (w6.alloc (.cells mZ.cells 71)) w6.heap.size 71 mZ.cells):=Box.new _ _ _
  have TA:Hid (1=1):=rfl
  have TS:Hid (1=1):=rfl
  clear hk6 HK5 HB5 HD5
  go_upto_region 6 with (first
    | (have hguard:=TA;clear hguard;refine wp_allocT rfl 71 rfl mZ.cells Tryz.info45z w6.heap.size rfl ?_;clear TA)
    | (have hguard:=TS;clear hguard;refine wpList_store_row rfl 71 _ _ rfl w6.heap.size mK.cells (by rfl) (by rfl) 71 mZ.cells HN6.out Tryz.size71 (by rfl) mK.one ?_;clear TS))
  obtain ⟨w7,hw7⟩:∃ w7,w7=(w6.alloc (.cells mZ.cells 71)).setRow w6.heap.size mK.cells:=⟨_,rfl⟩
  rw [← hw7]
  have HN7:Hid (Box w7 w6.heap.size 71 mK.cells):=by rw [hw7];exact HN6.out.setRow _
  have hk7:Kept No w6 w7:=by rw [hw7];exact ((Kept.refl No w6).alloc _).fresh (Kept.setRow _ _ _) (fun i e=>by unfold Only at e;omega)
  have HK7:Hid (Kept No w1 w7):=HK6.out.then hk7
  have HB7:Hid (Box w7 w.heap.size 71 mK.cells):=HB6.out.kept hk7 (fun e=>e)
  clear hw7 hk7 HK6 HB6 HN6
  try simp only[Act.put,List.setIfInBounds_toArray,List.set_cons_zero,List.set_cons_succ]
  have a0:w7.cell? ⟨w6.heap.size,0,none⟩=some (.int .i64 1):=HN7.out.cell 0
  have a1:w7.cell? ⟨w6.heap.size,1,none⟩=some (.bool true):=HN7.out.cell 1
  have a2:w7.cell? ⟨w6.heap.size,2,none⟩=some (.int .i64 4):=HN7.out.cell 2
  have a3:w7.cell? ⟨w6.heap.size,3,none⟩=some (.bool false):=HN7.out.cell 3
  have a4:w7.cell? ⟨w6.heap.size,4,none⟩=some (.int .i64 2):=HN7.out.cell 4
  have a7:w7.cell? ⟨w6.heap.size,7,none⟩=some (.int .i64 1):=HN7.out.cell 7
  have a8:w7.cell? ⟨w6.heap.size,8,none⟩=some (.int .i64 4):=HN7.out.cell 8
  have a9:w7.cell? ⟨w6.heap.size,9,none⟩=some (.int .i64 2):=HN7.out.cell 9
  have a10:w7.cell? ⟨w6.heap.size,10,none⟩=some (.int .i64 0):=HN7.out.cell 10
  have b1:w7.cell? ⟨w.heap.size,1,none⟩=some (.bool true):=HB7.out.cell 1
  have b2:w7.cell? ⟨w.heap.size,2,none⟩=some (.int .i64 4):=HB7.out.cell 2
  have b3:w7.cell? ⟨w.heap.size,3,none⟩=some (.bool false):=HB7.out.cell 3
  have b4:w7.cell? ⟨w.heap.size,4,none⟩=some (.int .i64 2):=HB7.out.cell 4
  have b7:w7.cell? ⟨w.heap.size,7,none⟩=some (.int .i64 1):=HB7.out.cell 7
  have b8:w7.cell? ⟨w.heap.size,8,none⟩=some (.int .i64 4):=HB7.out.cell 8
  have b9:w7.cell? ⟨w.heap.size,9,none⟩=some (.int .i64 2):=HB7.out.cell 9
  have b10:w7.cell? ⟨w.heap.size,10,none⟩=some (.int .i64 0):=HB7.out.cell 10
  go_wp2_with fail
  refine (small_any _).mono ?_
  rintro e w8 ⟨b8',rfl,hc8,hk8⟩
  have HD8:Hid (Calls Tryz.prog 29 #[.agg zC,cfgV (.slice (some ⟨b8',0,none⟩) 3 3) 1 1 2 3 2] w8 fun e w'=>e=.returned (.int .i64 105)∧Kept No w8 w'):=cmdK b8' w8 hc8
  have HK8:Hid (Kept No w1 w8):=HK7.out.then hk8
  clear hc8 hk8 HK7 HB7 HN7 a0 a1 a2 a3 a4 a7 a8 a9 a10 b1 b2 b3 b4 b7 b8 b9 b10
  go_wp2_with fail
  refine HD8.out.mono ?_
  rintro e w9 ⟨rfl,hk9⟩
  have HK9:Hid (Kept No w w9):=HK1.out.then (HK8.out.then hk9)
  clear hk9 HD8 HK8
  go_wp2
  go_ret
  exact ⟨rfl,HK9.out⟩
end
end Go.Proofs.YtgdnofacgfjaeabGreat.Wi
