import Derived.Test.YtgdnofacgfjaeabGreatWiZf
import Derived.Test.YtgdnofacgfjaeabGreatRows
import Derived.ArgAppend
import Derived.Deep.DeepMust
import Derived.Laws.BitsLemmas
import Derived.WalkSpells
namespace Go.Proofs.YtgdnofacgfjaeabGreat.Wi
open Go.RowKit
set_option linter.unusedVariables false
def onlyB (m:MsgD) (fs:List Int):Bool:=decide (∀ f:Nat,f < 7→(emptyF m f||hasB fs (f:Int))=true)
theorem onlyB_no {m:MsgD} {fs:List Int} {f:Nat} (hf:f < 7) (h1:emptyF m f=false) (h2:hasB fs (f:Int)=false):false=onlyB m fs:=by
  unfold onlyB;symm;refine decide_eq_false (fun h=>?_)
  have:=h f hf;rw [h1,h2] at this;cases this
theorem onlyB_yes {m:MsgD} {fs:List Int} (h:∀ f:Nat,f < 7→(emptyF m f||hasB fs (f:Int))=true):true=onlyB m fs:=by
  unfold onlyB;symm;exact decide_eq_true h
set_option maxRecDepth 100000 in
set_option maxHeartbeats 2000000 in
theorem only_any (m:MsgD) (fa:Option Addr) (fn fc:Nat) (fs:List Int) (w:World) (hn:fs.length=fn) (h7:fn≤7) (hb:Nums .i64 w fa fs) :
    Calls Tryz.prog 109 #[.agg m.cells,.slice fa fn fc] w fun e w'=>e=.returned (.bool (onlyB m fs))∧Kept No w w':=by
  have HB:Hid (∀ (v:Int) W,Kept No w W→Calls Tryz.prog 146 #[.slice fa fn fc,.int .i64 v] W fun e w'=>e=.returned (.bool (hasB fs v))∧w'=W):=fun v W hW=>by
    have:=containsF_any fa fc fs v W (by omega) (hb.no hW)
    rw [hn] at this
    exact this
  clear hb hn h7
  have TB:Hid (1=1):=rfl
  obtain ⟨w0,hw0⟩:∃ w0,w0=w.alloc (.cells m.cells 71):=⟨_,rfl⟩
  have HK0:Hid (Kept No w w0):=by rw [hw0];exact (Kept.refl No w).alloc _
  have HM0:Hid (Box w0 w.heap.size 71 m.cells):=by rw [hw0];exact (MsgAt.new w m).box
  go_enter Tryz.func109,Tryz.ntmps109
  go_wp2_with (have hguard:=TB;clear hguard;refine wp_boxV rfl 71 _ rfl m.cells rfl w.heap.size rfl ?_;rw [← hw0];clear hw0 TB)
  go_loopw [6] (fun i wr=>∃ k:Nat,k≤7∧i=.int .i64 (k:Int)∧Hid (∀ f:Nat,f < k→(emptyF m f||hasB fs (f:Int))=true)∧Hid (Kept No w0 wr)) (fun i _=>7 - (intOf i).toNat)
  case atStart=>exact ⟨0,Nat.zero_le _,rfl,fun f hf=>absurd hf (Nat.not_lt_zero _),Kept.refl _ _⟩
  case round=>
    obtain ⟨k,hk,rfl,HE,HK⟩:=hrel
    by_cases hlt:k < 7
    · have hlt':(k:Int) < 7:=by omega
      have HMr:Hid (Box wr w.heap.size 71 m.cells):=HM0.out.kept HK.out (fun e=>e)
      have HEk:Hid (∀ W,Calls Tryz.prog 145 #[.agg m.cells,.int .i64 (k:Int)] W fun e w'=>e=.returned (.bool (emptyF m k))∧Kept No W w'):=fun W=>empty_any m k hlt W
      have HBk:Hid (∀ W,Kept No w W→Calls Tryz.prog 146 #[.slice fa fn fc,.int .i64 (k:Int)] W fun e w'=>e=.returned (.bool (hasB fs (k:Int)))∧w'=W):=fun W hW=>HB.out _ W hW
      have TL:Hid (1=1):=rfl
      cases he:emptyF m k with
      | true=>
        have HE2:Hid (∀ f:Nat,f < k+1→(emptyF m f||hasB fs (f:Int))=true):=fun f hf=>by
          by_cases e:f=k
          · subst e;rw [he];rfl
          · exact HE.out f (by omega)
        rw [he] at HEk
        clear HE he
        go_wp2_with (first
          | (have hguard:=TL;clear hguard;refine wp_loadM rfl _ rfl w.heap.size m.cells rfl m.size HMr.out ?_;clear TL)
          | (go_at_call 145;refine (HEk.out _).mono ?_;rintro e w2 ⟨rfl,hk2⟩;have HK2:Hid (Kept No w0 w2):=HK.out.then hk2;clear hk2))
        go_roundw
        case rel=>exact ⟨k+1,by omega,by go_num,HE2,HK2⟩
        case measure=>simp [intOf];omega
      | false=>
        rw [he] at HEk
        cases hh:hasB fs (k:Int) with
        | true=>
          have HE2:Hid (∀ f:Nat,f < k+1→(emptyF m f||hasB fs (f:Int))=true):=fun f hf=>by
            by_cases e:f=k
            · subst e;rw [hh];simp
            · exact HE.out f (by omega)
          rw [hh] at HBk
          clear HE he hh
          go_wp2_with (first
            | (have hguard:=TL;clear hguard;refine wp_loadM rfl _ rfl w.heap.size m.cells rfl m.size HMr.out ?_;clear TL)
            | (go_at_call 145;refine (HEk.out _).mono ?_;rintro e w2 ⟨rfl,hk2⟩;have HK2:Hid (Kept No w0 w2):=HK.out.then hk2;clear hk2)
            | (go_at_call 146;refine (HBk.out _ (HK0.out.then HK2.out)).mono ?_;rintro e w3 ⟨rfl,h3⟩;rw [h3];clear h3 w3))
          go_roundw
          case rel=>exact ⟨k+1,by omega,by go_num,HE2,HK2⟩
          case measure=>simp [intOf];omega
        | false=>
          have HX:Hid (false=onlyB m fs):=onlyB_no hlt he hh
          rw [hh] at HBk
          clear HE he hh
          go_wp2_with (first
            | (have hguard:=TL;clear hguard;refine wp_loadM rfl _ rfl w.heap.size m.cells rfl m.size HMr.out ?_;clear TL)
            | (go_at_call 145;refine (HEk.out _).mono ?_;rintro e w2 ⟨rfl,hk2⟩;have HK2:Hid (Kept No w0 w2):=HK.out.then hk2;clear hk2)
            | (go_at_call 146;refine (HBk.out _ (HK0.out.then HK2.out)).mono ?_;rintro e w3 ⟨rfl,h3⟩;rw [h3];clear h3 w3))
          go_ret
          exact ⟨ret_bool HX.out,HK0.out.then HK2.out⟩
    · have hlt':¬ (k:Int) < 7:=by omega
      obtain rfl:k=7:=by omega
      go_wp2
      go_ret
      exact ⟨ret_bool (onlyB_yes HE.out),HK0.out.then HK.out⟩
def keyOkB (m:MsgD) (bu:Int):Bool:=keyB m.kk m.ka m.kb m.kc bu&&(if m.kind=1∨m.kind=2∨m.kind=11∨m.kind=12 then m.kk==1 else if m.kind=21∨m.kind=22 then (m.kk==1||m.kk==2) else m.kk==3)
set_option maxRecDepth 100000 in
set_option maxHeartbeats 2000000 in
theorem rightKey_any (m:MsgD) (sa:Option Addr) (sn sc:Nat) (f p bu bl ro:Int) (w:World) (h0:0≤bu) (h1:bu≤9223372036854775807) :
    Calls Tryz.prog 108 #[.agg m.cells,cfgV (.slice sa sn sc) f p bu bl ro] w fun e w'=>e=.returned (.bool (keyOkB m bu))∧Kept No w w':=by
  have TB:Hid (1=1):=rfl
  go_enter Tryz.func108,Tryz.ntmps108
  go_upto_region 1 with (have hguard:=TB;clear hguard;refine wp_boxV rfl 71 _ rfl m.cells rfl w.heap.size rfl ?_;clear TB)
  obtain ⟨w0,hw0⟩:∃ w0,w0=(w.alloc (.cells m.cells 71)).alloc (.cells #[.slice sa sn sc,.int .i64 f,.int .i64 p,.int .i64 bu,.int .i64 bl,.int .i64 ro] 24):=⟨_,rfl⟩
  rw [← hw0]
  have HK0:Hid (Kept No w w0):=by rw [hw0];exact ((Kept.refl No w).alloc _).alloc _
  have HM0:Hid (MsgAt w0 w.heap.size m):=by rw [hw0];exact (MsgAt.new w m).no ((Kept.refl No _).alloc _)
  have hB0:Box w0 (w.heap.size+1) 24 #[.slice sa sn sc,.int .i64 f,.int .i64 p,.int .i64 bu,.int .i64 bl,.int .i64 ro]:=by
    rw [hw0]
    have:=Box.new (w.alloc (.cells m.cells 71)) 24 #[.slice sa sn sc,.int .i64 f,.int .i64 p,.int .i64 bu,.int .i64 bl,.int .i64 ro]
    simpa using this
  clear hw0
  have d0:=hB0.cell 0
  have d1:=hB0.cell 1
  have d2:=hB0.cell 2
  have d3:=hB0.cell 3
  have d4:=hB0.cell 4
  have d5:=hB0.cell 5
  simp only[List.getElem?_toArray,List.getElem?_cons_zero,List.getElem?_cons_succ] at d0 d1 d2 d3 d4 d5
  obtain ⟨c7,c8,c9,c10⟩:=HM0.out.key
  obtain ⟨kk,hkk⟩:∃ kk,m.kk=kk:=⟨_,rfl⟩
  obtain ⟨kd,hkd⟩:∃ kd,m.kind=kd:=⟨_,rfl⟩
  have HE:Hid (∀ b,b=(keyB kk m.ka m.kb m.kc bu&&(if kd=1∨kd=2∨kd=11∨kd=12 then kk==1 else if kd=21∨kd=22 then (kk==1||kk==2) else kk==3))→Ending.returned (.bool b)=.returned (.bool (keyOkB m bu))):=fun b e=>by rw [e];unfold keyOkB;rw [hkk,hkd]
  have HM1:Hid (∀ W,Kept No w0 W→W.cell? ⟨w.heap.size,0,none⟩=some (.int .i64 kd)∧W.cell? ⟨w.heap.size,7,none⟩=some (.int .i64 kk)):=fun W hW=>by
    have h:=HM0.out.no hW
    exact ⟨by rw [← hkd];exact h.ends.1,by rw [← hkk];exact h.key.1⟩
  rw [hkk] at c7
  clear hkk hkd HM0
  have HKr:Hid (Calls Tryz.prog 144 #[keyV kk m.ka m.kb m.kc,cfgV (.slice sa sn sc) f p bu bl ro] w0 fun e w'=>e=.returned (.bool (keyB kk m.ka m.kb m.kc bu))∧Kept No w0 w'):=keyRight_any kk m.ka m.kb m.kc sa sn sc f p bu bl ro w0 h0 h1
  generalize keyB kk m.ka m.kb m.kc bu=kb at HE HKr
  have TA:Hid (1=1):=rfl
  cases kb with
  | false=>
    go_wp2_with (go_at_call 144;have hguard:=TA;clear hguard;refine Calls.mono HKr.out ?_;rintro e w2 ⟨rfl,hk2⟩;have HK2:Hid (Kept No w w2):=HK0.out.then hk2;clear hk2 TA)
    go_ret
    exact ⟨HE.out _ (by simp),HK2.out⟩
  | true=>
    go_wp2_with (go_at_call 144;have hguard:=TA;clear hguard;refine Calls.mono HKr.out ?_;rintro e w2 ⟨rfl,hk2⟩;have HK2:Hid (Kept No w w2):=HK0.out.then hk2;obtain ⟨x0,x7⟩:=HM1.out w2 hk2;clear hk2 TA)
    all_goals go_ret
    all_goals exact ⟨HE.out _ (by simp_all),HK2.out⟩
open Go.RowKit Go.Sort
set_option maxRecDepth 100000 in
set_option maxHeartbeats 2000000 in
theorem rightFields_1 (m:MsgD) (hk:m.kind=1) (cv:Array Value) (w:World) (hc:cv.size=6) (c0 c1 c2 c3 c4 c5:Value) (he:cv=#[c0,c1,c2,c3,c4,c5]) :
    Calls Tryz.prog 111 #[.agg m.cells,.agg cv] w fun e w'=>e=.returned (.bool true)∧Kept No w w':=by
  subst he
  have TB:Hid (1=1):=rfl
  go_enter Tryz.func111,Tryz.ntmps111
  go_upto_region 1 with (have hguard:=TB;clear hguard;refine wp_boxV rfl 71 _ rfl m.cells rfl w.heap.size rfl ?_;clear TB)
  obtain ⟨w0,hw0⟩:∃ w0,w0=(w.alloc (.cells m.cells 71)).alloc (.cells #[c0,c1,c2,c3,c4,c5] 24):=⟨_,rfl⟩
  rw [← hw0]
  have HK0:Hid (Kept No w w0):=by rw [hw0];exact ((Kept.refl No w).alloc _).alloc _
  have HM0:Hid (MsgAt w0 w.heap.size m):=by rw [hw0];exact (MsgAt.new w m).no ((Kept.refl No _).alloc _)
  have q0:=HM0.out.ends.1
  rw [hk] at q0
  clear hw0 HM0 hk
  go_wp2
  go_ret
  exact ⟨rfl,HK0.out⟩
theorem fieldsOf_nil (k:Int) (h:fieldsL k=[]) (w:World):Calls Tryz.prog 110 #[.int .i64 k] w fun e w'=>e=.returned (.slice none 0 0)∧Kept No w w':=by
  have h1:¬ (k=2∨k=11):=fun e=>by unfold fieldsL at h;rw [if_pos e] at h;cases h
  have h2:¬ (k=3∨k=14∨k=15∨k=21):=fun e=>by unfold fieldsL at h;rw [if_neg h1,if_pos e] at h;cases h
  have h3:¬ k=4:=fun e=>by unfold fieldsL at h;rw [if_neg h1,if_neg h2,if_pos e] at h;cases h
  have h4:¬ (k=5∨k=16):=fun e=>by unfold fieldsL at h;rw [if_neg h1,if_neg h2,if_neg h3,if_pos e] at h;cases h
  have h5:¬ k=13:=fun e=>by unfold fieldsL at h;rw [if_neg h1,if_neg h2,if_neg h3,if_neg h4,if_pos e] at h;cases h
  have h6:¬ k=17:=fun e=>by unfold fieldsL at h;rw [if_neg h1,if_neg h2,if_neg h3,if_neg h4,if_neg h5,if_pos e] at h;cases h
  have h7:¬ k=22:=fun e=>by unfold fieldsL at h;rw [if_neg h1,if_neg h2,if_neg h3,if_neg h4,if_neg h5,if_neg h6,if_pos e] at h;cases h
  clear h
  have a1:(k==2)=false:=by simp;omega
  have a2:(k==11)=false:=by simp;omega
  have a3:(k==3)=false:=by simp;omega
  have a4:(k==14)=false:=by simp;omega
  have a5:(k==15)=false:=by simp;omega
  have a6:(k==21)=false:=by simp;omega
  have a7:(k==4)=false:=by simp;omega
  have a8:(k==5)=false:=by simp;omega
  have a9:(k==16)=false:=by simp;omega
  have a10:(k==13)=false:=by simp;omega
  have a11:(k==17)=false:=by simp;omega
  have a12:(k==22)=false:=by simp;omega
  clear h1 h2 h3 h4 h5 h6 h7
  go_enter Tryz.func110,Tryz.ntmps110
  go_wp2
  go_ret
  exact ⟨rfl,Kept.refl _ _⟩
theorem bel {w w':World} (h:Kept No w w'):Below w.heap.size w w':=h.below (Nat.le_refl _) (fun _ e=>e.elim)
set_option maxRecDepth 100000 in
set_option maxHeartbeats 4000000 in
theorem rightMsg_nil (m:MsgD) (hf:fieldsL m.kind=[]) (fB:Bool) (sa:Option Addr) (sn sc:Nat) (zs:List Int) (f p bu bl ro:Int) (w:World) (h:Cfg w sa sn sc zs) (h0:0≤bu) (h1:bu≤9223372036854775807)
    (hF:∀ W,Kept No w W→Calls Tryz.prog 111 #[.agg m.cells,cfgV (.slice sa sn sc) f p bu bl ro] W fun e w'=>e=.returned (.bool fB)∧Kept No W w') :
    Calls Tryz.prog 55 #[.agg m.cells,cfgV (.slice sa sn sc) f p bu bl ro] w fun e w'=>e=.returned (.bool (endsB m zs&&(keyOkB m bu&&(onlyB m []&&fB))))∧Kept No w w':=by
  have TB:Hid (1=1):=rfl
  go_enter Tryz.func55,Tryz.ntmps55
  go_upto_region 1 with (have hguard:=TB;clear hguard;refine wp_boxV rfl 71 _ rfl m.cells rfl w.heap.size rfl ?_;clear TB)
  obtain ⟨w0,hw0⟩:∃ w0,w0=(w.alloc (.cells m.cells 71)).alloc (.cells #[.slice sa sn sc,.int .i64 f,.int .i64 p,.int .i64 bu,.int .i64 bl,.int .i64 ro] 24):=⟨_,rfl⟩
  rw [← hw0]
  have HK0:Hid (Kept No w w0):=by rw [hw0];exact ((Kept.refl No w).alloc _).alloc _
  have HM0:Hid (MsgAt w0 w.heap.size m):=by rw [hw0];exact (MsgAt.new w m).no ((Kept.refl No _).alloc _)
  have hB0:Box w0 (w.heap.size+1) 24 #[.slice sa sn sc,.int .i64 f,.int .i64 p,.int .i64 bu,.int .i64 bl,.int .i64 ro]:=by
    rw [hw0]
    have:=Box.new (w.alloc (.cells m.cells 71)) 24 #[.slice sa sn sc,.int .i64 f,.int .i64 p,.int .i64 bu,.int .i64 bl,.int .i64 ro]
    simpa using this
  clear hw0
  have HR:Hid (∀ d os,Kept No w (grow (redrawn w0 d) os)):=fun d os=>HK0.out.then (Kept.of_below (below_regrown w0 d os))
  have HMd:Hid (∀ w',(∃ p:Regrown,w'=grow (redrawn w0 p.d) p.os)→Box w' w.heap.size 71 m.cells):=by
    rintro w' ⟨p,rfl⟩
    exact HM0.out.box.kept (Kept.of_below (below_regrown w0 p.d p.os)) (fun e=>e)
  have d0:=fun d os=>cell_regrown (hB0.cell 0) d os
  have d1:=fun d os=>cell_regrown (hB0.cell 1) d os
  have d2:=fun d os=>cell_regrown (hB0.cell 2) d os
  have d3:=fun d os=>cell_regrown (hB0.cell 3) d os
  have d4:=fun d os=>cell_regrown (hB0.cell 4) d os
  have d5:=fun d os=>cell_regrown (hB0.cell 5) d os
  have k0:=fun d os=>cell_regrown HM0.out.ends.1 d os
  have HC1:Hid (∀ d os,Calls Tryz.prog 107 #[.agg m.cells,cfgV (.slice sa sn sc) f p bu bl ro] (grow (redrawn w0 d) os) fun e w'=>e=.returned (.bool (endsB m zs))∧Below (grow (redrawn w0 d) os).heap.size (grow (redrawn w0 d) os) w'):=fun d os=>(rightEnds_any m sa sn sc zs f p bu bl ro _ (h.no (HR.out d os))).mono (fun e w' ⟨a,b⟩=>⟨a,bel b⟩)
  have HC2:Hid (∀ d os,Calls Tryz.prog 108 #[.agg m.cells,cfgV (.slice sa sn sc) f p bu bl ro] (grow (redrawn w0 d) os) fun e w'=>e=.returned (.bool (keyOkB m bu))∧Below (grow (redrawn w0 d) os).heap.size (grow (redrawn w0 d) os) w'):=fun d os=>(rightKey_any m sa sn sc f p bu bl ro _ h0 h1).mono (fun e w' ⟨a,b⟩=>⟨a,bel b⟩)
  have HC3:Hid (∀ d os,Calls Tryz.prog 110 #[.int .i64 m.kind] (grow (redrawn w0 d) os) fun e w'=>e=.returned (.slice none 0 0)∧Below (grow (redrawn w0 d) os).heap.size (grow (redrawn w0 d) os) w'):=fun d os=>(fieldsOf_nil m.kind hf _).mono (fun e w' ⟨a,b⟩=>⟨a,bel b⟩)
  have HC4:Hid (∀ d os,Calls Tryz.prog 109 #[.agg m.cells,.slice none 0 0] (grow (redrawn w0 d) os) fun e w'=>e=.returned (.bool (onlyB m []))∧Below (grow (redrawn w0 d) os).heap.size (grow (redrawn w0 d) os) w'):=fun d os=>(only_any m none 0 0 [] _ rfl (by omega) (Nums.nil _ _ _)).mono (fun e w' ⟨a,b⟩=>⟨a,bel b⟩)
  have HC5:Hid (∀ d os,Calls Tryz.prog 111 #[.agg m.cells,cfgV (.slice sa sn sc) f p bu bl ro] (grow (redrawn w0 d) os) fun e w'=>e=.returned (.bool fB)∧Below (grow (redrawn w0 d) os).heap.size (grow (redrawn w0 d) os) w'):=fun d os=>(hF _ (HR.out d os)).mono (fun e w' ⟨a,b⟩=>⟨a,bel b⟩)
  clear hF h hf hB0 HM0
  obtain ⟨e1,he1⟩:∃ e1,endsB m zs=e1:=⟨_,rfl⟩
  obtain ⟨e2,he2⟩:∃ e2,keyOkB m bu=e2:=⟨_,rfl⟩
  obtain ⟨e3,he3⟩:∃ e3,onlyB m []=e3:=⟨_,rfl⟩
  rw [he1] at HC1
  rw [he2] at HC2
  rw [he3] at HC4
  have HE1:Hid (endsB m zs=e1):=he1
  have HE2:Hid (keyOkB m bu=e2):=he2
  have HE3:Hid (onlyB m []=e3):=he3
  clear he1 he2 he3
  have hmix:Tryz.prog.follows .mixedOrders=true:=by kernel_rfl
  cases e1 with
  | false=>
    refine wp_region_quiet_below hmix (by kernel_rfl) ?_
    refine quiet_loadM (by simp [Region.wanted]) _ rfl w.heap.size m.cells rfl m.size HMd.out ?_
    quiet_step (fail)
    quiet_step (exact Calls.regrown_of (HC1.out _ _))
    quiet_step (fail)
    quiet_step (fail)
    quiet_step (fail)
    quiet_step (fail)
    quiet_step (fail)
    quiet_step (fail)
    quiet_step (fail)
    quiet_step (fail)
    quiet_step (fail)
    quiet_step (fail)
    quiet_step (fail)
    quiet_step (fail)
    quiet_step (fail)
    quiet_step (fail)
    quiet_step (fail)
    quiet_step (fail)
    quiet_step (fail)
    quiet_step (fail)
    refine wpQuiet_nil ?_
    intro w' hw'
    have hkw:Kept No w0 w':=by obtain ⟨q,rfl⟩:=hw';exact Kept.of_below (below_regrown w0 q.d q.os)
    have HKw:Hid (Kept No w w'):=HK0.out.then hkw
    clear hw' hkw
    go_wp2
    go_ret
    exact ⟨ret_bool (by rw [HE1.out,HE2.out,HE3.out];rfl),HKw.out⟩
  | true=>
    cases e2 with
    | false=>
      refine wp_region_quiet_below hmix (by kernel_rfl) ?_
      refine quiet_loadM (by simp [Region.wanted]) _ rfl w.heap.size m.cells rfl m.size HMd.out ?_
      quiet_step (fail)
      quiet_step (exact Calls.regrown_of (HC1.out _ _))
      quiet_step (fail)
      refine quiet_loadM (by simp [Region.wanted,yielded]) _ rfl w.heap.size m.cells rfl m.size HMd.out ?_
      quiet_step (fail)
      quiet_step (exact Calls.regrown_of (HC2.out _ _))
      quiet_step (fail)
      quiet_step (fail)
      quiet_step (fail)
      quiet_step (fail)
      quiet_step (fail)
      quiet_step (fail)
      quiet_step (fail)
      quiet_step (fail)
      quiet_step (fail)
      quiet_step (fail)
      quiet_step (fail)
      quiet_step (fail)
      quiet_step (fail)
      quiet_step (fail)
      refine wpQuiet_nil ?_
      intro w' hw'
      have hkw:Kept No w0 w':=by obtain ⟨q,rfl⟩:=hw';exact Kept.of_below (below_regrown w0 q.d q.os)
      have HKw:Hid (Kept No w w'):=HK0.out.then hkw
      clear hw' hkw
      go_wp2
      go_ret
      exact ⟨ret_bool (by rw [HE1.out,HE2.out,HE3.out];rfl),HKw.out⟩
    | true=>
      cases e3 with
      | false=>
        refine wp_region_quiet_below hmix (by kernel_rfl) ?_
        refine quiet_loadM (by simp [Region.wanted]) _ rfl w.heap.size m.cells rfl m.size HMd.out ?_
        quiet_step (fail)
        quiet_step (exact Calls.regrown_of (HC1.out _ _))
        quiet_step (fail)
        refine quiet_loadM (by simp [Region.wanted,yielded]) _ rfl w.heap.size m.cells rfl m.size HMd.out ?_
        quiet_step (fail)
        quiet_step (exact Calls.regrown_of (HC2.out _ _))
        quiet_step (fail)
        quiet_step (fail)
        refine quiet_loadM (by simp [Region.wanted,yielded]) _ rfl w.heap.size m.cells rfl m.size HMd.out ?_
        quiet_step (fail)
        quiet_step (fail)
        quiet_step (exact Calls.regrown_of (HC3.out _ _))
        quiet_step (exact Calls.regrown_of (HC4.out _ _))
        quiet_step (fail)
        quiet_step (fail)
        quiet_step (fail)
        quiet_step (fail)
        quiet_step (fail)
        quiet_step (fail)
        quiet_step (fail)
        refine wpQuiet_nil ?_
        intro w' hw'
        have hkw:Kept No w0 w':=by obtain ⟨q,rfl⟩:=hw';exact Kept.of_below (below_regrown w0 q.d q.os)
        have HKw:Hid (Kept No w w'):=HK0.out.then hkw
        clear hw' hkw
        go_wp2
        go_ret
        exact ⟨ret_bool (by rw [HE1.out,HE2.out,HE3.out];rfl),HKw.out⟩
      | true=>
        refine wp_region_quiet_below hmix (by kernel_rfl) ?_
        refine quiet_loadM (by simp [Region.wanted]) _ rfl w.heap.size m.cells rfl m.size HMd.out ?_
        quiet_step (fail)
        quiet_step (exact Calls.regrown_of (HC1.out _ _))
        quiet_step (fail)
        refine quiet_loadM (by simp [Region.wanted,yielded]) _ rfl w.heap.size m.cells rfl m.size HMd.out ?_
        quiet_step (fail)
        quiet_step (exact Calls.regrown_of (HC2.out _ _))
        quiet_step (fail)
        quiet_step (fail)
        refine quiet_loadM (by simp [Region.wanted,yielded]) _ rfl w.heap.size m.cells rfl m.size HMd.out ?_
        quiet_step (fail)
        quiet_step (fail)
        quiet_step (exact Calls.regrown_of (HC3.out _ _))
        quiet_step (exact Calls.regrown_of (HC4.out _ _))
        quiet_step (fail)
        quiet_step (fail)
        refine quiet_loadM (by simp [Region.wanted,yielded]) _ rfl w.heap.size m.cells rfl m.size HMd.out ?_
        quiet_step (fail)
        quiet_step (exact Calls.regrown_of (HC5.out _ _))
        quiet_step (fail)
        quiet_step (fail)
        refine wpQuiet_nil ?_
        intro w' hw'
        have hkw:Kept No w0 w':=by obtain ⟨q,rfl⟩:=hw';exact Kept.of_below (below_regrown w0 q.d q.os)
        have HKw:Hid (Kept No w w'):=HK0.out.then hkw
        clear hw' hkw
        go_wp2
        go_ret
        exact ⟨ret_bool (by rw [HE1.out,HE2.out,HE3.out];rfl),HKw.out⟩
theorem Tryz.info5:(Tryz.prog.info? 5).map (fun i=>(i.zero,i.size,i.bytes))=some (some (.int .u8 0),1,1):=by kernel_rfl
theorem addr_add (b off j:Nat):(⟨b,off,none⟩:Addr).add j=⟨b,off+j,none⟩:=by unfold Addr.add;split <;> simp_all
theorem Bytes.src {w:World} {a:Option Addr} {zs:List Int} (hb:Bytes w a zs) (h0:0 < (zs.map (Value.int .u8)).length) :
    ∃ ad,a=some ad∧∀ (j:Nat) v,(zs.map (Value.int .u8))[j]?=some v→w.cell? (ad.add j)=some v:=by
  simp only[List.length_map] at h0
  obtain ⟨b,off,rfl,_⟩:=hb 0 h0
  refine ⟨_,rfl,fun j v hv=>?_⟩
  have hj:j < zs.length:=by
    have:=(List.getElem?_eq_some_iff.1 hv).1
    simpa using this
  obtain ⟨b',off',e,hc⟩:=hb j hj
  cases e
  rw [addr_add,hc]
  simp [List.getElem?_eq_getElem hj] at hv ⊢
  exact hv
theorem kept_grown {w w':World} (h:w.grownBy w' none):Kept No w w':=(Kept.refl No w).grown h (fun _ e=>by cases e)
theorem u8_one (zs:List Int):∀ v∈zs.map (Value.int .u8),v.oneCell'=true:=by
  intro v hv
  obtain ⟨z,_,rfl⟩:=List.mem_map.1 hv
  rfl
def OwnS (w:World) (base:Nat) (a:Option Addr) (cap:Nat) (zs:List Int):Prop:=
  w.ownsRow base 5 1 (.slice a zs.length cap) zs.length (zs.map (Value.int .u8))
def At (a:Option Addr):Nat→Prop:=fun k=>∃ ad,a=some ad∧ad.block=k
theorem OwnS.cases {w:World} {base:Nat} {a:Option Addr} {cap:Nat} {zs:List Int} (h:OwnS w base a cap zs) :
    (a=none∧cap=0∧zs=[])∨∃ g,a=some ⟨g,0,none⟩∧base≤g∧g < w.heap.size∧(∃ sp,w.heap[g]?=some (.cells (zs.map (Value.int .u8)++sp).toArray 5 (0,0))∧zs.length+sp.length=cap)∧cap≤maxLen:=by
  rcases h.2 with ⟨hv,hn⟩ | ⟨g,cap',cur,hv,hb,hg,hl,hm,hs,ht⟩
  · simp only[Value.slice.injEq] at hv
    exact .inl ⟨hv.1,hv.2.2,List.eq_nil_of_length_eq_zero hn⟩
  · simp only[Value.slice.injEq] at hv
    obtain ⟨rfl,-,rfl⟩:=hv
    refine .inr ⟨g,rfl,hb,(Array.getElem?_eq_some_iff.1 hg).1,⟨cur.toList.drop zs.length,?_,?_⟩,hm⟩
    · rw [Nat.mul_one] at ht
      rw [← ht,List.take_append_drop,hg]
    · simp;omega
theorem OwnS.bytes {w:World} {base:Nat} {a:Option Addr} {cap:Nat} {zs:List Int} (h:OwnS w base a cap zs):Bytes w a zs:=by
  rcases h.cases with ⟨rfl,_,rfl⟩ | ⟨g,rfl,_,_,⟨sp,hg,_⟩,_⟩
  · intro i hi;exact absurd hi (Nat.not_lt_zero _)
  · intro i hi
    refine ⟨g,0,rfl,?_⟩
    rw [Nat.zero_add,cell_of_row w g i _ 5 (0,0) hg]
    simp [List.getElem?_append_left,hi]
theorem OwnS.nilcap {w:World} {base:Nat} {a:Option Addr} {cap:Nat} {zs:List Int} (h:OwnS w base a cap zs):a=none→cap=0:=by
  rcases h.cases with ⟨_,h2,_⟩ | ⟨g,rfl,_⟩
  · intro _;exact h2
  · intro e;cases e
theorem OwnS.base {w:World} {base:Nat} {a:Option Addr} {cap:Nat} {zs:List Int} (h:OwnS w base a cap zs) {k:Nat} (hk:At a k):base≤k:=by
  obtain ⟨ad,e,rfl⟩:=hk
  rcases h.cases with ⟨rfl,_,_⟩ | ⟨g,rfl,hb,_⟩
  · cases e
  · cases e;exact hb
theorem OwnS.len {w:World} {base:Nat} {a:Option Addr} {cap:Nat} {zs:List Int} (h:OwnS w base a cap zs):zs.length≤cap:=by
  rcases h.cases with ⟨_,_,rfl⟩ | ⟨g,_,_,_,⟨sp,_,hs⟩,_⟩
  · simp
  · omega
theorem OwnS.nil (w:World) (base:Nat):OwnS w base none 0 []:=World.ownsRow_nil _ _ _ _
theorem OwnS.kept {S:Nat→Prop} {w w':World} {base:Nat} {a:Option Addr} {cap:Nat} {zs:List Int} (h:OwnS w base a cap zs) (hk:Kept S w w') (hS:∀ k,At a k→¬ S k):OwnS w' base a cap zs:=by
  refine ⟨h.1,?_⟩
  rcases h.2 with hn | ⟨g,cap',cur,hv,hb,hg,rest⟩
  · exact .inl hn
  · refine .inr ⟨g,cap',cur,hv,hb,?_,rest⟩
    rw [hk.block g (Array.getElem?_eq_some_iff.1 hg).1 (hS g ?_)]
    · exact hg
    · simp only[Value.slice.injEq] at hv
      exact ⟨_,hv.1,rfl⟩
theorem OwnS.no {w w':World} {base:Nat} {a:Option Addr} {cap:Nat} {zs:List Int} (h:OwnS w base a cap zs) (hk:Kept No w w'):OwnS w' base a cap zs:=h.kept hk (fun _ _ e=>e)
theorem OwnS.lower {w:World} {base base':Nat} {a:Option Addr} {cap:Nat} {zs:List Int} (h:OwnS w base a cap zs) (hb:base'≤base):OwnS w base' a cap zs:=by
  refine ⟨h.1,?_⟩
  rcases h.2 with hn | ⟨g,cap',cur,hv,hb',rest⟩
  · exact .inl hn
  · exact .inr ⟨g,cap',cur,hv,by omega,rest⟩
theorem At.none {k:Nat}:¬ At none k:=fun ⟨_,e,_⟩=>by cases e
theorem wp_app {P:Program} (w:World) {ops:Array Oper} {rest:List Oper} {o:Oper} {a:Act} {Q:Exit→Act→World→Prop}
    (h23:P.underlying 30=some (.slice 5)) (h5:(P.info? 5).map (fun i=>(i.zero,i.size,i.bytes))=some (some (.int .u8 0),1,1))
    (hgd:o.guard=Option.none) (s x:Operand) (ho:o.op=.call { callee:=.builtin .append,args:=#[s,x],argTypes:=#[30,30] })
    (base:Nat) (sa:Option Addr) (sn sc:Nat) (zs:List Int) (hs:a.eval s=.slice sa sn sc) (hsn:zs.length=sn) (hown:OwnS w base sa sc zs)
    (xa:Option Addr) (xn xc:Nat) (ys:List Int) (hx:a.eval x=.slice xa xn xc) (hxn:ys.length=xn) (hy:Bytes w xa ys) (hxc:xa=Option.none→xc=0)
    (hlen:zs.length+ys.length≤140737488355328) (hbase:base≤w.heap.size)
    (h:∀ a' c' w',Hid (OwnS w' base a' c' (zs++ys))→Hid (Kept (At sa) w w')→Hid (a'=Option.none→zs++ys=[]∧c'=0)→wpList P ops Q rest (a.put o.dst (.slice a' (sn+xn) c')) w') :
    wpList P ops Q (o :: rest) a w:=by
  subst hsn hxn
  obtain ⟨i0,hi,hz0,hz1,hz2⟩:=info_parts h5
  cases xa with
  | none=>
    obtain rfl:=hxc rfl
    have hy0:ys=[]:=by
      cases ys with
      | nil=>rfl
      | cons y r=>obtain ⟨b,off,e,_⟩:=hy 0 (by simp);cases e
    subst hy0
    refine wpList_append_own_none hgd s x 30 ho base 5 i0 1 h23 hi _ _ _ hs hown (by simpa using hx) ?_
    have:=h sa sc w (by rw [List.append_nil];exact hown) (Kept.refl _ _) (fun e=>by rw [List.append_nil];rcases hown.cases with ⟨_,h2,h3⟩ | ⟨g,rfl,_⟩;exact ⟨h3,h2⟩;cases e)
    simpa using this
  | some ad=>
    refine wpList_append_own _ hgd s x 30 ho base 5 i0 (.int .u8 0) 1 1 h23 hi hz0 hz1 hz2 rfl (by decide) _ _ _ hs hown ad ys.length xc (ys.map (Value.int .u8)) hx (by simp) ?_ (u8_one ys) (by unfold maxLen;omega) (by omega) hbase ?_
    · intro j u hu
      obtain ⟨ad',e,hc⟩:=hy.src (by have:=(List.getElem?_eq_some_iff.1 hu).1;omega)
      cases e
      exact hc j u hu
    · intro v' w' hown' hgrow hnil
      have hv:∃ a' c',v'=.slice a' (zs.length+ys.length) c':=by
        rcases hown'.2 with ⟨e,h0⟩ | ⟨g,cap',cur,e,_⟩
        · exact ⟨_,_,by rw [h0];exact e⟩
        · exact ⟨_,_,e⟩
      obtain ⟨a',c',rfl⟩:=hv
      have ho':OwnS w' base a' c' (zs++ys):=by
        unfold OwnS
        rw [List.length_append,List.map_append]
        exact hown'
      refine h a' c' w' ho' ((Kept.refl _ _).grown hgrow (fun k e _=>?_)) (fun e=>?_)
      · cases sa with
        | none=>simp [Value.ownBlock] at e
        | some ad=>simp [Value.ownBlock] at e;exact ⟨ad,rfl,e⟩
      · rcases ho'.cases with ⟨_,h2,h3⟩ | ⟨g,e',_⟩
        · exact ⟨h3,h2⟩
        · rw [e] at e';cases e'
theorem own_at {w:World} {base:Nat} {e:TypeId} {size:Nat} {a:Option Addr} {n c:Nat} {xs:List Value} (h:w.ownsRow base e size (.slice a n c) n xs) {k:Nat} (hk:At a k):base≤k:=by
  obtain ⟨ad,rfl,rfl⟩:=hk
  rcases h.2 with ⟨hv,_⟩ | ⟨g,cap',cur,hv,hb,_⟩
  · simp only[Value.slice.injEq] at hv;cases hv.1
  · simp only[Value.slice.injEq,Option.some.injEq] at hv;rw [hv.1];exact hb
theorem own_slice {w:World} {base:Nat} {e:TypeId} {size:Nat} {v:Value} {n:Nat} {xs:List Value} (h:w.ownsRow base e size v n xs):∃ a c,v=.slice a n c:=by
  rcases h.2 with ⟨rfl,h0⟩ | ⟨g,cap',cur,e,_⟩
  · exact ⟨_,_,by rw [h0]⟩
  · exact ⟨_,_,e⟩
theorem wp_appG {P:Program} (w:World) {ops:Array Oper} {rest:List Oper} {o:Oper} {a:Act} {Q:Exit→Act→World→Prop}
    (t e:TypeId) (z:Value) (size bytes:Nat) (ht:P.underlying t=some (.slice e)) (he:(P.info? e).map (fun i=>(i.zero,i.size,i.bytes))=some (some z,size,bytes)) (hz:z.cells.size=size) (hsz:0 < size)
    (hgd:o.guard=Option.none) (s x:Operand) (ho:o.op=.call { callee:=.builtin .append,args:=#[s,x],argTypes:=#[t,t] })
    (base:Nat) (sa:Option Addr) (sn sc:Nat) (xs:List Value) (hs:a.eval s=.slice sa sn sc) (hown:w.ownsRow base e size (.slice sa sn sc) sn xs)
    (xa:Option Addr) (xn xc:Nat) (news:List Value) (hx:a.eval x=.slice xa xn xc) (hxn:news.length=xn*size) (hxc:xa=Option.none→xn=0∧xc=0)
    (hc:∀ ad,xa=some ad→∀ (j:Nat) u,news[j]?=some u→w.cell? (ad.add j)=some u) (h1c:∀ u∈news,u.oneCell'=true)
    (hlen:sn+xn≤140737488355328) (hby:(sn+xn) * bytes≤140737488355328) (hbase:base≤w.heap.size)
    (h:∀ a' c' w',Hid (w'.ownsRow base e size (.slice a' (sn+xn) c') (sn+xn) (xs++news))→Hid (Kept (At sa) w w')→Hid ((a'=sa∧c'=sc)∨∀ k,At a' k→w.heap.size≤k)→wpList P ops Q rest (a.put o.dst (.slice a' (sn+xn) c')) w') :
    wpList P ops Q (o :: rest) a w:=by
  obtain ⟨i0,hi,hz0,hz1,hz2⟩:=info_parts he
  rcases hown.2 with ⟨hv,hn0⟩ | ⟨g,cap',cur,hv,hb,hg,hl,hm,hcs,htk⟩
  · simp only[Value.slice.injEq] at hv
    obtain ⟨rfl,rfl,rfl⟩:=hv
    have hxs:xs=[]:=List.eq_nil_of_length_eq_zero (by have:=hown.1;simpa using this)
    subst hxs
    cases xa with
    | none=>
      obtain ⟨rfl,rfl⟩:=hxc rfl
      have hnw:news=[]:=List.eq_nil_of_length_eq_zero (by simpa using hxn)
      subst hnw
      refine wpList_append_own_none hgd s x t ho base e i0 size ht hi _ _ _ hs hown hx ?_
      exact h none 0 w hown (Kept.refl _ _) (.inl ⟨rfl,rfl⟩)
    | some ad=>
      refine wpList_append_own _ hgd s x t ho w.heap.size e i0 z size bytes ht hi hz0 hz1 hz2 hz hsz _ 0 [] hs (World.ownsRow_nil _ _ _ _) ad xn xc news hx hxn (hc ad rfl) h1c (by unfold maxLen;omega) hby (Nat.le_refl _) ?_
      intro v' w' hown' hgrow _
      obtain ⟨a',c',rfl⟩:=own_slice hown'
      refine h a' c' w' ⟨hown'.1,?_⟩ ((Kept.refl _ _).grown hgrow (fun k e _=>by simp [Value.ownBlock] at e)) (.inr fun k hk=>own_at hown' hk)
      rcases hown'.2 with hl' | ⟨g,cap',cur,e1,e2,e3⟩
      · exact .inl hl'
      · exact .inr ⟨g,cap',cur,e1,by omega,e3⟩
  · simp only[Value.slice.injEq] at hv
    obtain ⟨rfl,-,rfl⟩:=hv
    by_cases hfit:sn+xn≤sc
    · refine wpList_append_fits_any _ hgd s x t ho base e i0 size ht hi hz1 g sn sc xs hs hown xa xn xc news hx hxn hxc hc h1c hfit ?_
      intro w' hown' hgrow
      exact h _ _ w' hown' ((Kept.refl _ _).grown hgrow (fun k e _=>by cases e;exact ⟨_,rfl,rfl⟩)) (.inl ⟨rfl,rfl⟩)
    · cases xa with
      | none=>obtain ⟨rfl,rfl⟩:=hxc rfl;omega
      | some ad=>
        refine wpList_append_grows _ hgd s x t ho e i0 z size bytes ht hi hz0 hz1 hz2 hz hsz (some ⟨g,0,none⟩) sn sc xs hs (fun e=>by cases e) hown.1 ?_ ad xn xc news hx hxn (hc ad rfl) h1c (by omega) (by unfold maxLen;omega) hby ?_
        · intro b eb j u hu
          cases eb
          exact hown.cells (by rfl) j u hu
        · intro v' w' hown' hgrow
          obtain ⟨a',c',rfl⟩:=own_slice hown'
          refine h a' c' w' ⟨hown'.1,?_⟩ ((kept_grown hgrow).of_no) (.inr fun k hk=>own_at hown' hk)
          rcases hown'.2 with hl' | ⟨g,cap',cur,e1,e2,e3⟩
          · exact .inl hl'
          · exact .inr ⟨g,cap',cur,e1,by omega,e3⟩
theorem wp_appB {P:Program} (w:World) {ops:Array Oper} {rest:List Oper} {o:Oper} {a:Act} {Q:Exit→Act→World→Prop}
    (h23:P.underlying 30=some (.slice 5)) (h5:(P.info? 5).map (fun i=>(i.zero,i.size,i.bytes))=some (some (.int .u8 0),1,1))
    (hgd:o.guard=Option.none) (s x:Operand) (ho:o.op=.call { callee:=.builtin .append,args:=#[s,x],argTypes:=#[30,30] })
    (base:Nat) (sa:Option Addr) (sn sc:Nat) (zs:List Int) (hs:a.eval s=.slice sa sn sc) (hsn:zs.length=sn) (hown:OwnS w base sa sc zs)
    (xa:Option Addr) (xn xc:Nat) (ys:List Int) (hx:a.eval x=.slice xa xn xc) (hxn:ys.length=xn) (hy:Bytes w xa ys) (hxc:xa=Option.none→xc=0)
    (hlen:sn+xn≤140737488355328) (hbase:base≤w.heap.size)
    (h:∀ a' c' w',Hid (OwnS w' base a' c' (zs++ys))→Hid (Kept (At sa) w w')→Hid ((a'=sa∧c'=sc)∨∀ k,At a' k→w.heap.size≤k)→wpList P ops Q rest (a.put o.dst (.slice a' (sn+xn) c')) w') :
    wpList P ops Q (o :: rest) a w:=by
  subst hsn hxn
  refine wp_appG w 30 5 (.int .u8 0) 1 1 h23 h5 rfl (by decide) hgd s x ho base sa _ sc (zs.map (Value.int .u8)) hs hown xa _ xc (ys.map (Value.int .u8)) hx (by simp) ?_ ?_ (u8_one ys) hlen (by omega) hbase ?_
  · intro e
    subst e
    refine ⟨?_,hxc rfl⟩
    cases ys with
    | nil=>rfl
    | cons y r=>obtain ⟨b,off,e,_⟩:=hy 0 (by simp);cases e
  · intro ad e j u hu
    subst e
    obtain ⟨ad',e,hc⟩:=hy.src (by have:=(List.getElem?_eq_some_iff.1 hu).1;omega)
    cases e
    exact hc j u hu
  · intro a' c' w' HO HK HF
    refine h a' c' w' ?_ HK HF
    show OwnS w' base a' c' (zs++ys)
    unfold OwnS
    rw [List.length_append,List.map_append]
    exact HO
def fourOf (n:Int):List Int:=[n % 256,n / 256 % 256,n / 65536 % 256,n / 16777216 % 256]
def numOf (zs:List Int):Int:=zs[0]?.getD 0+zs[1]?.getD 0*256+zs[2]?.getD 0*65536+zs[3]?.getD 0*16777216
theorem fourOf_len (n:Int):(fourOf n).length=4:=rfl
theorem fourOf_u8 (n:Int):U8 (fourOf n):=by
  unfold fourOf
  exact U8.cons (by omega) (U8.cons (by omega) (U8.cons (by omega) (U8.cons (by omega) U8.nil)))
theorem four_own (w:World) (n:Int) (h0:0≤n) (h1:n≤4294967295) :
    OwnS (w.alloc (Obj.cells #[Value.int .u8 (n % 256),Value.int .u8 (n / 256 % 256),Value.int .u8 (n / 65536 % 256),Value.int .u8 (n / 16777216)] 5)) w.heap.size (some ⟨w.heap.size,0,none⟩) 4 (fourOf n):=by
  have e:n / 16777216=n / 16777216 % 256:=by omega
  rw [e]
  exact World.ownsRow_lit w _ 4 (Nat.le_refl _) (by unfold maxLen;omega) rfl
theorem four_cells {w:World} {a:Option Addr} {zs:List Int} (hb:Bytes w a zs) (h8:U8 zs) (h4:4≤zs.length) :
    ∃ b off x0 x1 x2 x3,a=some ⟨b,off,none⟩∧w.cell? ⟨b,off,none⟩=some (.int .u8 x0)∧w.cell? ⟨b,off+1,none⟩=some (.int .u8 x1)∧w.cell? ⟨b,off+2,none⟩=some (.int .u8 x2)∧w.cell? ⟨b,off+3,none⟩=some (.int .u8 x3) ∧
      (0≤x0∧x0≤255)∧(0≤x1∧x1≤255)∧(0≤x2∧x2≤255)∧(0≤x3∧x3≤255)∧numOf zs=x0+x1*256+x2*65536+x3*16777216:=by
  obtain ⟨b,off,rfl,c0⟩:=hb 0 (by omega)
  obtain ⟨b',off',e,c1⟩:=hb 1 (by omega)
  cases e
  obtain ⟨b',off',e,c2⟩:=hb 2 (by omega)
  cases e
  obtain ⟨b',off',e,c3⟩:=hb 3 (by omega)
  cases e
  exact ⟨b,off,_,_,_,_,rfl,c0,c1,c2,c3,h8 0,h8 1,h8 2,h8 3,rfl⟩
theorem bits_or_comm (k:IntKind) (x y:Int):bits .or k x y=bits .or k y x:=by
  simp only[bits];rw [BitVec.or_comm]
theorem or_low (i:Nat) (y x:Int) (hx₀:0≤x) (hx:x % 2 ^ i=0) (hx₁:x < 2 ^ 62) (hy₀:0≤y) (hy:y < 2 ^ i) (hy₁:y < 2 ^ 62):bits .or .i64 y x=y+x:=by
  rw [bits_or_comm,bits_join .i64 62 (by decide) (fun n a b=>by rw [IntKind.wrap_i64];omega) i x y hx₀ hx hx₁ hy₀ hy hy₁]
  omega
theorem or3 (x0 x1 x2 x3:Int) (z0:0≤x0∧x0≤255) (z1:0≤x1∧x1≤255) (z2:0≤x2∧x2≤255) (z3:0≤x3∧x3≤255) :
    bits .or .i64 (bits .or .i64 (bits .or .i64 x0 (x1*256)) (x2*65536)) (x3*16777216)=x0+x1*256+x2*65536+x3*16777216:=by
  rw [or_low 8 x0 (x1*256) (by omega) (by omega) (by omega) (by omega) (by omega) (by omega)]
  rw [or_low 16 _ (x2*65536) (by omega) (by omega) (by omega) (by omega) (by omega) (by omega)]
  rw [or_low 24 _ (x3*16777216) (by omega) (by omega) (by omega) (by omega) (by omega) (by omega)]
set_option maxRecDepth 1000000 in
set_option maxHeartbeats 400000 in
theorem four_any (a:Option Addr) (m cap:Nat) (zs:List Int) (w:World) (hm:zs.length=m) (h4:4≤m) (hb:Bytes w a zs) (h8:U8 zs) :
    Calls Tryz.prog 129 #[.slice a m cap] w fun e w'=>e=.returned (.int .i64 (numOf zs))∧∃ n,w'=w.drewN n:=by
  obtain ⟨b,off,x0,x1,x2,x3,rfl,c0,c1,c2,c3,z0,z1,z2,z3,hN⟩:=four_cells hb h8 (by omega)
  rw [hN]
  clear hN hb h8 hm
  have g0:(0:Int) < (m:Int):=by omega
  have g1:(1:Int) < (m:Int):=by omega
  have g2:(2:Int) < (m:Int):=by omega
  have g3:(3:Int) < (m:Int):=by omega
  have n0:0 < m:=by omega
  go_enter Tryz.func129,Tryz.ntmps129
  go_wp2
  go_quiet (fail)
  go_wp2
  go_ret
  exact ⟨ret_int (or3 x0 x1 x2 x3 z0 z1 z2 z3),_,rfl⟩
theorem Kept.no_drewN (w:World) (n:Nat):Kept No w (w.drewN n):=(Kept.refl No w).drewN n
theorem sumN_any (a:Option Addr) (m cap:Nat) (zs:List Int) (w:World) (hz:zs.length=m) (hm:m≤140737488355328) (hb:Bytes w a zs) (h8:U8 zs) :
    Calls Tryz.prog 53 #[.slice a m cap] w fun e w'=>e=.returned (.int .i64 (sumOf zs))∧w'=w:=by
  subst hz;exact sum_any a cap zs w hm hb h8
theorem sameN_any (a b:Option Addr) (ma mb ca cb:Nat) (xs ys:List Int) (w:World) (hxn:xs.length=ma) (hyn:ys.length=mb) (hm:ma≤281474976710656) (hn:mb≤281474976710656) (hx:Bytes w a xs) (hy:Bytes w b ys) :
    Calls Tryz.prog 10 #[.slice a ma ca,.slice b mb cb] w fun e w'=>e=.returned (.bool (eqB xs ys))∧∃ n,w'=w.drewN n:=by
  subst hxn hyn;exact same_any a b ca cb xs ys w hm hn hx hy
set_option maxRecDepth 1000000 in
set_option maxHeartbeats 400000 in
theorem putFour_any (base:Nat) (sa:Option Addr) (sn sc:Nat) (zs:List Int) (n:Int) (w:World) (hsn:zs.length=sn) (hown:OwnS w base sa sc zs) (hbase:base≤w.heap.size)
    (h0:0≤n) (h1:n≤4294967295) (hlen:sn≤140737488350000) :
    Calls Tryz.prog 52 #[.slice sa sn sc,.int .i64 n] w fun e w'=>∃ a' c',e=.returned (.slice a' (sn+4) c')∧OwnS w' base a' c' (zs++fourOf n)∧Kept (At sa) w w':=by
  have HO:Hid (OwnS w base sa sc zs):=hown
  have HL:Hid (zs.length=sn):=hsn
  clear hown hsn
  go_enter Tryz.func52,Tryz.ntmps52
  go_wp2_with (at_builtin;go_must (refine wp_app _ Tryz.underlying30 Tryz.info5 rfl _ _ rfl base sa sn sc zs rfl HL.out (HO.out.no ((Kept.refl _ _).alloc _)) _ _ _ (fourOf n) rfl (fourOf_len n) (four_own w n h0 h1).bytes (fun e=>by cases e) (by have:=HL.out;rw [fourOf_len];omega) (by simp;omega) ?_;intro a' c' w' HO' HK' HN'))
  go_ret
  exact ⟨a',c',rfl,HO'.out,((Kept.refl No _).alloc _).of_no.then HK'.out⟩
theorem own_empty (w:World):OwnS (w.alloc (Obj.cells #[] 5)) w.heap.size (some ⟨w.heap.size,0,none⟩) 0 []:=
  World.ownsRow_lit w #[] 0 (Nat.le_refl _) (by unfold maxLen;omega) rfl
set_option maxRecDepth 1000000 in
set_option maxHeartbeats 400000 in
theorem clone_any (xa:Option Addr) (xn xc:Nat) (ys:List Int) (w:World) (hxn:ys.length=xn) (hy:Bytes w xa ys) (hxc:xa=none→xn=0∧xc=0) (hlen:xn≤140737488355328) :
    Calls Tryz.prog 126 #[.slice xa xn xc] w fun e w'=>∃ a' c',e=.returned (.slice a' xn c')∧OwnS w' w.heap.size a' c' ys∧Kept No w w'∧(xa=none→a'=none):=by
  have heq:=fun (a:Option Addr) (n c:Nat) (w:World)=>Lib.run_eql_slice_nil (P:=Tryz.prog) w 30 5 a n c 0 0 Tryz.underlying30
  have HY:Hid (Bytes w xa ys):=hy
  have HL:Hid (ys.length=xn):=hxn
  clear hy hxn
  cases xa with
  | none=>
    obtain ⟨rfl,rfl⟩:=hxc rfl
    obtain rfl:ys=[]:=List.eq_nil_of_length_eq_zero HL.out
    go_enter Tryz.func126,Tryz.ntmps126
    go_wp2
    go_ret
    exact ⟨none,0,rfl,OwnS.nil _ _,Kept.refl _ _,by simp⟩
  | some ad=>
    clear hxc
    go_enter Tryz.func126,Tryz.ntmps126
    go_wp2_with (at_builtin;go_must (refine wp_app _ Tryz.underlying30 Tryz.info5 rfl _ _ rfl w.heap.size _ 0 0 [] rfl rfl (own_empty w) _ _ _ ys rfl HL.out (HY.out.no ((Kept.refl _ _).alloc _)) (fun e=>by cases e) (by have:=HL.out;simp;omega) (by simp) ?_;intro a' c' w' HO' HK' HN'))
    go_ret
    refine ⟨a',c',rfl,HO'.out,(((Kept.refl No _).alloc _).of_no.then HK'.out).mono (fun i hi e=>?_),by simp⟩
    obtain ⟨ad',e1,e2⟩:=e
    cases e1
    simp at e2
    omega
def vint (u:Nat):List Int:=if u < 128 then [(u:Int)] else ((u % 128+128:Nat):Int) :: vint (u / 128)
termination_by u
decreasing_by omega
theorem vint_lo {u:Nat} (h:u < 128):vint u=[(u:Int)]:=by rw [vint,if_pos h]
theorem vint_hi {u:Nat} (h:¬ u < 128):vint u=((u % 128+128:Nat):Int) :: vint (u / 128):=by rw [vint,if_neg h]
theorem vint_u8 (u:Nat):U8 (vint u):=by
  induction u using Nat.strongRecOn with
  | _ u ih=>
    by_cases h:u < 128
    · rw [vint_lo h];exact U8.cons (by omega) U8.nil
    · rw [vint_hi h];exact U8.cons (by omega) (ih _ (by omega))
theorem vint_len (u:Nat) (n:Nat) (h:u < 128 ^ (n+1)):(vint u).length≤n+1:=by
  induction n generalizing u with
  | zero=>rw [vint_lo (by omega)];simp
  | succ n ih=>
    by_cases h1:u < 128
    · rw [vint_lo h1];simp
    · rw [vint_hi h1]
      have:=ih (u / 128) (by rw [Nat.pow_succ] at h;omega)
      simp;omega
theorem vint_len10 (u:Nat) (h:u < 18446744073709551616):(vint u).length≤10:=vint_len u 9 (by omega)
def W64 (u:Nat):Prop:=u < 18446744073709551616
theorem W64.div {u:Nat} (h:W64 u) (n:Nat):W64 (u / n):=Nat.lt_of_le_of_lt (Nat.div_le_self u n) h
structure Wr (w:World) (base g:Nat) (a:Option Addr) (c:Nat) (zs:List Int) (bad:Bool):Prop where
  cell:w.heap[g]?=some (.cells #[.slice a zs.length c,.bool bad] 128 (0,0))
  own:OwnS w base a c zs
  bg:base≤g
theorem OwnS.ne {w:World} {base:Nat} {a:Option Addr} {c:Nat} {zs:List Int} (h:OwnS w base a c zs) {g:Nat} {cs:Array Value} {t:TypeId} {fr:Nat × Nat} (hg:w.heap[g]?=some (.cells cs t fr)) (ht:t≠5):¬ At a g:=by
  rintro ⟨ad,rfl,rfl⟩
  rcases h.cases with ⟨e,_⟩ | ⟨g',e,_,_,⟨sp,hc,_⟩,_⟩
  · cases e
  · cases e
    rw [hc] at hg
    cases hg
    exact ht rfl
theorem OwnS.lt {w:World} {base:Nat} {a:Option Addr} {c:Nat} {zs:List Int} (h:OwnS w base a c zs) {k:Nat} (hk:At a k):k < w.heap.size:=by
  obtain ⟨ad,rfl,rfl⟩:=hk
  rcases h.cases with ⟨e,_⟩ | ⟨g',e,_,hl,_⟩
  · cases e
  · cases e;exact hl
def WrAt (g:Nat) (a:Option Addr):Nat→Prop:=fun k=>k=g∨At a k
def Moved (w:World) (a a':Option Addr):Prop:=∀ k,At a' k→At a k∨w.heap.size≤k
theorem Moved.refl (w:World) (a:Option Addr):Moved w a a:=fun _ h=>.inl h
theorem Moved.trans {w w1:World} {a b c:Option Addr} (h:Moved w a b) (k:Moved w1 b c) (hs:w.heap.size≤w1.heap.size):Moved w a c:=fun i hi=>by
  rcases k i hi with h1 | h1
  · exact h i h1
  · exact .inr (by omega)
theorem Wr.kept {S:Nat→Prop} {w w':World} {base g:Nat} {a:Option Addr} {c:Nat} {zs:List Int} {bad:Bool} (h:Wr w base g a c zs bad) (hk:Kept S w w') (hg:¬ S g) (hS:∀ k,At a k→¬ S k):Wr w' base g a c zs bad:=
  ⟨(hk.block g (Array.getElem?_eq_some_iff.1 h.cell).1 hg).trans h.cell,h.own.kept hk hS,h.bg⟩
theorem Wr.no {w w':World} {base g:Nat} {a:Option Addr} {c:Nat} {zs:List Int} {bad:Bool} (h:Wr w base g a c zs bad) (hk:Kept No w w'):Wr w' base g a c zs bad:=h.kept hk (fun e=>e) (fun _ _ e=>e)
theorem Wr.lt {w:World} {base g:Nat} {a:Option Addr} {c:Nat} {zs:List Int} {bad:Bool} (h:Wr w base g a c zs bad) {k:Nat} (hk:WrAt g a k):k < w.heap.size:=by
  rcases hk with rfl | hk
  · exact (Array.getElem?_eq_some_iff.1 h.cell).1
  · exact h.own.lt hk
theorem Wr.base {w:World} {base g:Nat} {a:Option Addr} {c:Nat} {zs:List Int} {bad:Bool} (h:Wr w base g a c zs bad) {k:Nat} (hk:WrAt g a k):base≤k:=by
  rcases hk with rfl | hk
  · exact h.bg
  · exact h.own.base hk
theorem Kept.moved {w w1 w2:World} {g:Nat} {a a1:Option Addr} (h:Kept (WrAt g a) w w1) (k:Kept (WrAt g a1) w1 w2) (hm:Moved w a a1):Kept (WrAt g a) w w2:=
  h.trans k (fun _ e=>e) (fun i hi e=>by
    rcases e with rfl | e
    · exact .inl rfl
    · rcases hm i e with h1 | h1
      · exact .inr h1
      · omega)
theorem join_end {base g:Nat} {a:Option Addr} {c:Nat} {zs ys:List Int} {w w1:World} {a':Option Addr} {c' n:Nat} {bad:Bool} (hw:Wr w base g a c zs bad) (hn:(zs++ys).length=n) (HO:OwnS w1 base a' c' (zs++ys)) (HK:Kept (At a) w w1)
    (HM:(a'=a∧c'=c)∨∀ k,At a' k→w.heap.size≤k) (HG1:w1.heap[g]?=some (.cells #[.slice a zs.length c,.bool bad] 128 (0,0))) :
    ∃ a'' c'',Wr (w1.setCell ⟨g,0,none⟩ (.slice a' n c')) base g a'' c'' (zs++ys) bad∧Kept (WrAt g a) w (w1.setCell ⟨g,0,none⟩ (.slice a' n c'))∧Moved w a a'':=by
  subst hn
  refine ⟨a',c',⟨?_,?_,hw.bg⟩,?_,?_⟩
  · rw [heap_setCell_same w1 g 0 _ 128 _ HG1];rfl
  · exact HO.kept ((Kept.refl (Only g) w1).setCell (p:=⟨g,0,none⟩) (fun _=>(rfl:g=g)) _) (fun k hk e=>by have e':k=g:=e;subst e';exact HO.ne HG1 (by decide) hk)
  · exact (HK.mono (fun i _ e=>.inr e)).setCell (p:=⟨g,0,none⟩) (fun _=>.inl rfl) _
  · rcases HM with ⟨rfl,_⟩ | h
    · exact Moved.refl _ _
    · exact fun k hk=>.inr (h k hk)
set_option maxRecDepth 1000000 in
set_option maxHeartbeats 400000 in
theorem join_any (base g:Nat) (a:Option Addr) (c:Nat) (zs:List Int) (xa:Option Addr) (xn xc:Nat) (ys:List Int) (w:World)
    (hw:Wr w base g a c zs false) (hxn:ys.length=xn) (hy:Bytes w xa ys) (hxc:xa=none→xc=0) (hlen:zs.length+xn≤140737488355328) (hbase:base≤w.heap.size) :
    Calls Tryz.prog 127 #[.pointer (some ⟨g,0,none⟩),.slice xa xn xc] w fun e w'=>e=.returned (.tuple #[])∧∃ a' c',Wr w' base g a' c' (zs++ys) false∧Kept (WrAt g a) w w'∧Moved w a a':=by
  have HW:Hid (Wr w base g a c zs false):=hw
  have HY:Hid (Bytes w xa ys):=hy
  have HC:Hid (xa=none→xc=0):=hxc
  have HL:Hid (ys.length=xn):=hxn
  have c0:w.cell? ⟨g,0,none⟩=some (.slice a zs.length c):=by rw [cell_of_row w g 0 _ 128 (0,0) hw.cell];rfl
  have c1:w.cell? ⟨g,1,none⟩=some (.bool false):=by rw [cell_of_row w g 1 _ 128 (0,0) hw.cell];rfl
  clear hw hy hxc hxn
  go_enter Tryz.func127,Tryz.ntmps127
  go_wp2_with (at_builtin;go_must (refine wp_appB _ Tryz.underlying30 Tryz.info5 rfl _ _ rfl base _ _ _ zs rfl rfl HW.out.own _ _ _ ys rfl HL.out HY.out HC.out hlen hbase ?_;intro a' c' w1 HO HK HM;have HG1:Hid (w1.heap[g]?=some (.cells #[.slice a zs.length c,.bool false] 128 (0,0))):=((HK.out.block g (Array.getElem?_eq_some_iff.1 HW.out.cell).1 (HW.out.own.ne HW.out.cell (by decide))).trans HW.out.cell);have hf1:=frozen_of_row w1 g 0 _ 128 HG1.out;have hc1:w1.cell? ⟨g,0,none⟩=some (.slice a zs.length c):=(by rw [cell_of_row w1 g 0 _ 128 (0,0) HG1.out];rfl)))
  go_end0
  exact ⟨rfl,join_end HW.out (by have:=HL.out;simp;omega) HO.out HK.out HM.out HG1.out⟩
theorem join_bad (base g:Nat) (a:Option Addr) (c:Nat) (zs:List Int) (x:Value) (w:World) (hw:Wr w base g a c zs true) :
    Calls Tryz.prog 127 #[.pointer (some ⟨g,0,none⟩),x] w fun e w'=>e=.returned (.tuple #[])∧w'=w:=by
  have c1:w.cell? ⟨g,1,none⟩=some (.bool true):=by rw [cell_of_row w g 1 _ 128 (0,0) hw.cell];rfl
  clear hw
  go_enter Tryz.func127,Tryz.ntmps127
  go_wp2
  go_end0
  exact ⟨rfl,rfl⟩
theorem one_own (w:World) (z:Int):OwnS (w.alloc (Obj.cells #[Value.int .u8 z] 5)) w.heap.size (some ⟨w.heap.size,0,none⟩) 1 [z]:=
  World.ownsRow_lit w _ 1 (Nat.le_refl _) (by unfold maxLen;omega) rfl
set_option maxRecDepth 1000000 in
set_option maxHeartbeats 1000000 in
theorem varint_any (base g:Nat) (a:Option Addr) (c:Nat) (zs:List Int) (u:Nat) (w:World)
    (hw:Wr w base g a c zs false) (hu:W64 u) (hlen:zs.length+10≤140737488355328) (hbase:base≤w.heap.size) :
    Calls Tryz.prog 138 #[.pointer (some ⟨g,0,none⟩),.int .u64 (u:Int)] w fun e w'=>e=.returned (.tuple #[])∧∃ a' c',Wr w' base g a' c' (zs++vint u) false∧Kept (WrAt g a) w w'∧Moved w a a':=by
  have HW:Hid (Wr w base g a c zs false):=hw
  have HV:Hid ((vint u).length≤10):=vint_len10 u hu
  have HU:Hid (W64 u):=hu
  clear hw hu
  go_enter Tryz.func138,Tryz.ntmps138
  go_wp2
  go_loopw [1] (fun s wr=>∃ v:Nat,Hid (W64 v)∧s=.int .u64 (v:Int)∧Hid (∃ a' c' zs',Wr wr base g a' c' zs' false∧zs'++vint v=zs++vint u∧Kept (WrAt g a) w wr∧Moved w a a')) (fun s _=>(intOf s).toNat)
  case atStart=>exact ⟨u,HU,rfl,a,c,zs,HW.out,rfl,Kept.refl _ _,Moved.refl _ _⟩
  case round=>
    obtain ⟨v,HV2,rfl,HR⟩:=hrel
    by_cases hlt:v < 128
    · have h2:¬ (128:Int)≤(v:Int):=by omega
      obtain ⟨a1,c1,zs1,hw1,he1,hk1,hm1⟩:=HR.out
      have HW1:Hid (Wr wr base g a1 c1 zs1 false):=hw1
      have HE1:Hid (zs1++vint v=zs++vint u):=he1
      have HK1:Hid (Kept (WrAt g a) w wr):=hk1
      have HM1:Hid (Moved w a a1):=hm1
      clear hw1 he1 hk1 hm1 HR
      go_wp2_with fail
      refine (join_any base g a1 c1 zs1 _ _ _ [(v:Int)] _ (HW1.out.no ((Kept.refl _ _).alloc _)) rfl (one_own _ _).bytes (fun e=>by cases e) ?_ (by have:=HK1.out.size;simp;omega)).mono ?_
      · have h1:=congrArg List.length HE1.out;have:=HV.out;rw [vint_lo hlt] at h1;simp at h1 ⊢;omega
      rintro e w2 ⟨rfl,a2,c2,hw2,hk2,hm2⟩
      have HF:Hid (∃ a' c',Wr w2 base g a' c' (zs++vint u) false∧Kept (WrAt g a) w w2∧Moved w a a'):=
        ⟨a2,c2,by rw [← HE1.out,vint_lo hlt];exact hw2,(HK1.out.then (((Kept.refl No wr).alloc _).of_no)).moved hk2 HM1.out,HM1.out.trans hm2 (by have:=HK1.out.size;simp;omega)⟩
      clear hw2 hk2 hm2
      go_wp2
      go_end0
      exact ⟨rfl,HF.out⟩
    · have h2:(128:Int)≤(v:Int):=by omega
      have h3:(v:Int)≤18446744073709551615:=by have:=HV2.out;unfold W64 at this;omega
      obtain ⟨a1,c1,zs1,hw1,he1,hk1,hm1⟩:=HR.out
      have HW1:Hid (Wr wr base g a1 c1 zs1 false):=hw1
      have HE1:Hid (zs1++vint v=zs++vint u):=he1
      have HK1:Hid (Kept (WrAt g a) w wr):=hk1
      have HM1:Hid (Moved w a a1):=hm1
      clear hw1 he1 hk1 hm1 HR
      go_wp2_with fail
      refine (join_any base g a1 c1 zs1 _ _ _ [((v % 128+128:Nat):Int)] _ (HW1.out.no ((Kept.refl _ _).alloc _)) rfl ?_ (fun e=>by cases e) ?_ (by have:=HK1.out.size;simp;omega)).mono ?_
      · rw [show ((v % 128+128:Nat):Int)=(v:Int) % 128+128 from by omega];exact (one_own _ _).bytes
      · have h1:=congrArg List.length HE1.out;have:=HV.out;rw [vint_hi hlt] at h1;simp at h1 ⊢;omega
      rintro e w2 ⟨rfl,a2,c2,hw2,hk2,hm2⟩
      have HF:Hid (∃ a' c' zs',Wr w2 base g a' c' zs' false∧zs'++vint (v / 128)=zs++vint u∧Kept (WrAt g a) w w2∧Moved w a a'):=
        ⟨a2,c2,_,hw2,by rw [← HE1.out,vint_hi hlt];simp,(HK1.out.then (((Kept.refl No wr).alloc _).of_no)).moved hk2 HM1.out,HM1.out.trans hm2 (by have:=HK1.out.size;simp;omega)⟩
      clear hw2 hk2 hm2
      go_wp2
      go_roundw
      case rel=>exact ⟨v / 128,HV2.out.div 128,by go_num,HF⟩
      case measure=>simp [intOf];omega
def Ws (w:World) (base g:Nat) (a:Option Addr) (c:Nat):Option (List Int)→Prop
  | some zs=>Wr w base g a c zs false
  | none=>Wr w base g a c [] true∧a=none
theorem Ws.no {w w':World} {base g:Nat} {a:Option Addr} {c:Nat} {st:Option (List Int)} (h:Ws w base g a c st) (hk:Kept No w w'):Ws w' base g a c st:=by
  cases st with
  | some zs=>exact Wr.no h hk
  | none=>exact ⟨h.1.no hk,h.2⟩
theorem Ws.kept {S:Nat→Prop} {w w':World} {base g:Nat} {a:Option Addr} {c:Nat} {st:Option (List Int)} (h:Ws w base g a c st) (hk:Kept S w w') (hS:∀ k,WrAt g a k→¬ S k):Ws w' base g a c st:=by
  cases st with
  | some zs=>exact Wr.kept h hk (hS g (.inl rfl)) (fun k hk=>hS k (.inr hk))
  | none=>exact ⟨h.1.kept hk (hS g (.inl rfl)) (fun k hk=>hS k (.inr hk)),h.2⟩
theorem Ws.lt {w:World} {base g:Nat} {a:Option Addr} {c:Nat} {st:Option (List Int)} (h:Ws w base g a c st) {k:Nat} (hk:WrAt g a k):k < w.heap.size:=by
  cases st with
  | some zs=>exact Wr.lt h hk
  | none=>exact h.1.lt hk
theorem Ws.base {w:World} {base g:Nat} {a:Option Addr} {c:Nat} {st:Option (List Int)} (h:Ws w base g a c st) {k:Nat} (hk:WrAt g a k):base≤k:=by
  cases st with
  | some zs=>exact Wr.base h hk
  | none=>exact h.1.base hk
def Puts (w:World) (base g:Nat) (a:Option Addr) (st:Option (List Int)) (e:Ending) (w':World):Prop:=
  e=.returned (.tuple #[])∧∃ a' c',Ws w' base g a' c' st∧Kept (WrAt g a) w w'∧Moved w a a'
def stLen:Option (List Int)→Nat
  | some zs=>zs.length
  | none=>0
set_option maxRecDepth 1000000 in
set_option maxHeartbeats 1000000 in
theorem varint_bad (base g:Nat) (a:Option Addr) (c:Nat) (zs:List Int) (u:Nat) (w:World) (hw:Wr w base g a c zs true) (hu:W64 u) :
    Calls Tryz.prog 138 #[.pointer (some ⟨g,0,none⟩),.int .u64 (u:Int)] w fun e w'=>e=.returned (.tuple #[])∧Kept No w w':=by
  have HW:Hid (Wr w base g a c zs true):=hw
  have HU:Hid (W64 u):=hu
  clear hw hu
  go_enter Tryz.func138,Tryz.ntmps138
  go_wp2
  go_loopw [1] (fun s wr=>∃ v:Nat,Hid (W64 v)∧s=.int .u64 (v:Int)∧Hid (Kept No w wr)) (fun s _=>(intOf s).toNat)
  case atStart=>exact ⟨u,HU,rfl,Kept.refl _ _⟩
  case round=>
    obtain ⟨v,HV2,rfl,HK⟩:=hrel
    by_cases hlt:v < 128
    · have h2:¬ (128:Int)≤(v:Int):=by omega
      go_wp2_with fail
      refine (join_bad base g a c zs _ _ (HW.out.no (HK.out.alloc _))).mono ?_
      rintro e w2 ⟨rfl,hw2⟩
      have HK2:Hid (Kept No w w2):=by rw [hw2];exact HK.out.alloc _
      clear hw2
      go_wp2
      go_end0
      exact ⟨rfl,HK2.out⟩
    · have h2:(128:Int)≤(v:Int):=by omega
      have h3:(v:Int)≤18446744073709551615:=by have:=HV2.out;unfold W64 at this;omega
      go_wp2_with fail
      refine (join_bad base g a c zs _ _ (HW.out.no (HK.out.alloc _))).mono ?_
      rintro e w2 ⟨rfl,hw2⟩
      have HK2:Hid (Kept No w w2):=by rw [hw2];exact HK.out.alloc _
      clear hw2
      go_wp2
      go_roundw
      case rel=>exact ⟨v / 128,HV2.out.div 128,by go_num,HK2⟩
      case measure=>simp [intOf];omega
theorem varint_all (base g:Nat) (a:Option Addr) (c:Nat) (st:Option (List Int)) (u:Nat) (w:World) (h:Ws w base g a c st) (hu:W64 u) (hlen:stLen st+10≤140737488355328) (hbase:base≤w.heap.size) :
    Calls Tryz.prog 138 #[.pointer (some ⟨g,0,none⟩),.int .u64 (u:Int)] w (Puts w base g a (st.map (·++vint u))):=by
  cases st with
  | some zs=>exact (varint_any base g a c zs u w h hu hlen hbase).mono (fun e w' ⟨h1,a',c',h2,h3,h4⟩=>⟨h1,a',c',h2,h3,h4⟩)
  | none=>exact (varint_bad base g a c [] u w h.1 hu).mono (fun e w' ⟨h1,h2⟩=>⟨h1,a,c,⟨h.1.no h2,h.2⟩,h2.of_no,Moved.refl _ _⟩)
theorem join_all (base g:Nat) (a:Option Addr) (c:Nat) (st:Option (List Int)) (xa:Option Addr) (xn xc:Nat) (ys:List Int) (w:World) (h:Ws w base g a c st) (hxn:ys.length=xn) (hy:Bytes w xa ys) (hxc:xa=none→xc=0) (hlen:stLen st+xn≤140737488355328) (hbase:base≤w.heap.size) :
    Calls Tryz.prog 127 #[.pointer (some ⟨g,0,none⟩),.slice xa xn xc] w (Puts w base g a (st.map (·++ys))):=by
  cases st with
  | some zs=>exact (join_any base g a c zs xa xn xc ys w h hxn hy hxc hlen hbase).mono (fun e w' ⟨h1,a',c',h2,h3,h4⟩=>⟨h1,a',c',h2,h3,h4⟩)
  | none=>exact (join_bad base g a c [] _ w h.1).mono (fun e w' ⟨h1,h2⟩=>by subst h2;exact ⟨h1,a,c,⟨h.1,h.2⟩,Kept.refl _ _,Moved.refl _ _⟩)
end Go.Proofs.YtgdnofacgfjaeabGreat.Wi
