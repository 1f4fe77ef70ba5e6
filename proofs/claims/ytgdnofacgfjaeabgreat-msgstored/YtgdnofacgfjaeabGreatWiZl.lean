import Derived.Test.YtgdnofacgfjaeabGreatWiCe
import Derived.Test.YtgdnofacgfjaeabGreatHf
namespace Go.Proofs.YtgdnofacgfjaeabGreat.Wi
open Go.RowKit
set_option linter.unusedVariables false
theorem vr_64 {zs:List Int} {u k:Nat} (h:vr zs=.ok (u,k)):W64 u∧1≤k∧k≤10∧k≤zs.length:=by
  suffices H:∀ f i,i+f=10→vrGo zs i f=.ok (u,k)→W64 u∧1≤k∧k≤10∧k≤zs.length from H 10 0 rfl h
  intro f
  induction f with
  | zero=>intro i _ h;simp [vrGo] at h
  | succ f ih=>
    intro i hi h
    rw [vrGo] at h
    split at h
    · cases h
    · split at h
      · split at h
        · cases h
        · rename_i h1 h2 h3
          simp only[Except.ok.injEq,Prod.mk.injEq] at h
          obtain ⟨rfl,rfl⟩:=h
          refine ⟨?_,by omega,by omega,by omega⟩
          unfold W64
          rw [acc]
          have ha:=acc_lt zs i
          by_cases h9:i=9
          · subst h9
            have:byt zs 9 % 128*128 ^ 9≤1*128 ^ 9:=Nat.mul_le_mul (by omega) (Nat.le_refl _)
            omega
          · have h8:128 ^ i≤128 ^ 8:=Nat.pow_le_pow_right (by decide) (by omega)
            have:byt zs i % 128*128 ^ i≤127*128 ^ 8:=Nat.mul_le_mul (by omega) h8
            omega
      · exact ih (i+1) (by omega) h
theorem nr_bd {zs:List Int} {u k:Nat} (h:nr zs=.ok (u,k)):u≤9223372036854775807∧1≤k∧k≤10∧k≤zs.length∧vr zs=.ok (u,k):=by
  unfold nr at h
  split at h
  · cases h
  · rename_i u' k' hv
    split at h
    · cases h
    · simp only[Except.ok.injEq,Prod.mk.injEq] at h
      obtain ⟨rfl,rfl⟩:=h
      have:=vr_64 hv
      exact ⟨by omega,this.2.1,this.2.2.1,this.2.2.2,hv⟩
theorem cr_bd {zs:List Int} {n k:Nat} (h:cr zs=.ok (n,k)):1≤k∧k≤10∧k+n≤zs.length∧nr zs=.ok (n,k):=by
  unfold cr at h
  split at h
  · cases h
  · rename_i u' k' hv
    split at h
    · cases h
    · simp only[Except.ok.injEq,Prod.mk.injEq] at h
      obtain ⟨rfl,rfl⟩:=h
      have:=nr_bd hv
      exact ⟨this.2.1,this.2.2.1,by omega,hv⟩
set_option maxRecDepth 1000000 in
set_option maxHeartbeats 1000000 in
theorem text1_any (A N g:Nat) (la:Option Addr) (lc:Nat) (zs:List Int) (at_:Nat) (W:World) (h:Rd W g la lc zs at_) (hA:W.cell? ⟨A,0,none⟩=some (.pointer (some ⟨g,0,none⟩))) (hN:W.heap[N]?=some (.cells #[.string ByteArray.empty] 9 (0,0))) (hne:N≠g) :
    Calls Tryz.prog 139 #[.pointer (some ⟨A,0,none⟩),.pointer (some ⟨N,0,none⟩)] W (Throws g (fun W w'=>∃ n k,cr zs=.ok (n,k)∧Laid g N 9 la zs at_ (k+n) (.string (strOf ((zs.drop k).take n))) W w') (fun c=>cr zs=.error c) W):=by
  have HR:Hid (Rd W g la lc zs at_):=h
  have HN:Hid (W.heap[N]?=some (.cells #[.string ByteArray.empty] 9 (0,0))):=hN
  clear h hN
  cases hv:cr zs with
  | error c=>
    go_enter Tryz.func139,Tryz.ntmps139
    go_wp2_with fail
    refine (counted_any g la lc zs at_ W HR.out).mono ?_
    rw [hv]
    rintro e w1 ⟨rfl,hr,hk⟩
    have HF:Hid (Rdr w1 g∧Kept (Only g) W w1):=⟨hr,hk⟩
    clear hr hk hv
    go_wp2
    exact ⟨rfl,.inr ⟨c,rfl,rfl,HF.out⟩⟩
  | ok x=>
    obtain ⟨n,k⟩:=x
    go_enter Tryz.func139,Tryz.ntmps139
    go_wp2_with fail
    refine (counted_any g la lc zs at_ W HR.out).mono ?_
    rw [hv]
    rintro e w1 ⟨b,off,lc1,rfl,hs,b',off',lc',ha,hr,hk⟩
    have HN1:Hid (w1.heap[N]?=some (.cells #[.string ByteArray.empty] 9 (0,0))):=(hk.block N (Array.getElem?_eq_some_iff.1 HN.out).1 (fun e=>hne e)).trans HN.out
    have cN:w1.cell? ⟨N,0,none⟩=some (.string ByteArray.empty):=by rw [cell_of_row w1 N 0 _ 9 (0,0) HN1.out];rfl
    have fN:=frozen_of_row w1 N 0 _ 9 HN1.out
    have hcv:=run_str (xc:=lc1) hs.bytes hs.u8 hs.len
    obtain ⟨S,hS⟩:∃ S,S=strOf ((zs.drop k).take n):=⟨_,rfl⟩
    rw [← hS] at hcv
    have HSe:Hid (S=strOf ((zs.drop k).take n)):=hS
    have HL:Hid _:=Rd.laid (v':=.string S) hr hk HN1.out hne (fun z e=>by cases e)
    have HA:Hid (At la b'):=ha
    clear hr hk hv ha hs hS
    go_wp2
    go_end0
    exact .inl ⟨rfl,n,k,rfl,by rw [← HSe.out];exact ⟨HL.out.2.1,⟨b',off',lc',HA.out,HL.out.1⟩,HL.out.2.2⟩⟩
set_option maxRecDepth 1000000 in
set_option maxHeartbeats 1000000 in
theorem bytes1_any (A N g:Nat) (la:Option Addr) (lc:Nat) (zs:List Int) (at_:Nat) (W:World) (h:Rd W g la lc zs at_) (hA:W.cell? ⟨A,0,none⟩=some (.pointer (some ⟨g,0,none⟩))) (hN:W.heap[N]?=some (.cells #[.slice none 0 0] 30 (0,0))) (hne:N≠g) :
    Calls Tryz.prog 133 #[.pointer (some ⟨A,0,none⟩),.pointer (some ⟨N,0,none⟩)] W (Throws g (fun W w'=>∃ n k,cr zs=.ok (n,k)∧∃ a' c',Laid g N 30 la zs at_ (k+n) (.slice a' n c') W w'∧OwnS w' W.heap.size a' c' ((zs.drop k).take n)) (fun c=>cr zs=.error c) W):=by
  have HR:Hid (Rd W g la lc zs at_):=h
  have HN:Hid (W.heap[N]?=some (.cells #[.slice none 0 0] 30 (0,0))):=hN
  clear h hN
  cases hv:cr zs with
  | error c=>
    go_enter Tryz.func133,Tryz.ntmps133
    go_wp2_with fail
    refine (counted_any g la lc zs at_ W HR.out).mono ?_
    rw [hv]
    rintro e w1 ⟨rfl,hr,hk⟩
    have HF:Hid (Rdr w1 g∧Kept (Only g) W w1):=⟨hr,hk⟩
    clear hr hk hv
    go_wp2
    exact ⟨rfl,.inr ⟨c,rfl,rfl,HF.out⟩⟩
  | ok x=>
    obtain ⟨n,k⟩:=x
    have hn:n≤140737488355328:=by have h1:=(cr_bd hv).2.2.1;have h2:=HR.out.bd;omega
    go_enter Tryz.func133,Tryz.ntmps133
    go_wp2_with fail
    refine (counted_any g la lc zs at_ W HR.out).mono ?_
    rw [hv]
    rintro e w1 ⟨b,off,lc1,rfl,hs,b',off',lc',ha,hr,hk⟩
    have HS:Hid (Sl w1 (some ⟨b,off,none⟩) n lc1 ((zs.drop k).take n)):=hs
    have HR1:Hid (Rd w1 g (some ⟨b',off',none⟩) lc' (zs.drop (k+n)) (at_+(k+n))):=hr
    have HK1:Hid (Kept (Only g) W w1):=hk
    have HA:Hid (At la b'):=ha
    clear hr hk hv ha hs
    go_wp2_with fail
    refine (clone_any _ _ _ ((zs.drop k).take n) w1 HS.out.len HS.out.bytes (fun e=>by cases e) hn).mono ?_
    rintro e w2 ⟨a2,c2,rfl,hO2,hK2,-⟩
    have HN2:Hid (w2.heap[N]?=some (.cells #[.slice none 0 0] 30 (0,0))):=(hK2.block N (by have h1:=(Array.getElem?_eq_some_iff.1 HN.out).1;have h2:=HK1.out.size;omega) (fun e=>e)).trans ((HK1.out.block N (Array.getElem?_eq_some_iff.1 HN.out).1 (fun e=>hne e)).trans HN.out)
    have cN:w2.cell? ⟨N,0,none⟩=some (.slice none 0 0):=by rw [cell_of_row w2 N 0 _ 30 (0,0) HN2.out];rfl
    have fN:=frozen_of_row w2 N 0 _ 30 HN2.out
    have HL:Hid _:=Rd.laid (v':=.slice a2 n c2) (HR1.out.no hK2) (HK1.out.then hK2.of_no) HN2.out hne (fun z e=>by cases e)
    have HO:Hid (OwnS (w2.setCell ⟨N,0,none⟩ (.slice a2 n c2)) W.heap.size a2 c2 ((zs.drop k).take n)):=
      (hO2.kept ((Kept.refl (Only N) w2).setCell (p:=⟨N,0,none⟩) (fun _=>(rfl:N=N)) _) (fun i hi e=>by have e':i=N:=e;have h1:=hO2.base hi;have h2:=(Array.getElem?_eq_some_iff.1 HN.out).1;have h3:=HK1.out.size;omega)).lower HK1.out.size
    clear hO2 hK2
    go_wp2
    go_end0
    exact .inl ⟨rfl,n,k,rfl,a2,c2,⟨HL.out.2.1,⟨b',off',lc',HA.out,HL.out.1⟩,HL.out.2.2⟩,HO.out⟩
set_option maxRecDepth 1000000 in
set_option maxHeartbeats 1000000 in
theorem end1_any (A g:Nat) (la:Option Addr) (lc:Nat) (zs:List Int) (at_:Nat) (W:World) (h:Rd W g la lc zs at_) (hA:W.cell? ⟨A,0,none⟩=some (.pointer (some ⟨g,0,none⟩))) :
    Calls Tryz.prog 174 #[.pointer (some ⟨A,0,none⟩)] W (Throws g (fun W w'=>zs=[]∧w'=W) (fun c=>c=11∧zs≠[]) W):=by
  have HR:Hid (Rd W g la lc zs at_):=h
  clear h
  by_cases h0:zs=[]
  · have HZ:Hid (zs=[]):=h0
    have hd:decide (0 < zs.length)=false:=by simp [h0]
    clear h0
    go_enter Tryz.func174,Tryz.ntmps174
    go_wp2_with fail
    refine (More_ok g la lc zs at_ W HR.out).mono ?_
    rw [hd]
    rintro e w1 ⟨rfl,rfl⟩
    go_wp2
    go_end0
    exact .inl ⟨rfl,HZ.out,rfl⟩
  · have HZ:Hid (zs≠[]):=h0
    have hd:decide (0 < zs.length)=true:=by simp;exact List.length_pos_iff.2 h0
    clear h0
    go_enter Tryz.func174,Tryz.ntmps174
    go_wp2_with fail
    refine (More_ok g la lc zs at_ W HR.out).mono ?_
    rw [hd]
    rintro e w1 ⟨rfl,rfl⟩
    go_wp2
    exact ⟨rfl,.inr ⟨11,rfl,⟨rfl,HZ.out⟩,HR.out.rdr,Kept.refl _ _⟩⟩
theorem run60 (caps:Array Value) (W:World):(callFunc 133 caps).run Tryz.prog W=.ok (.enter 133 caps) W:=by kernel_rfl
theorem run62 (caps:Array Value) (W:World):(callFunc 139 caps).run Tryz.prog W=.ok (.enter 139 caps) W:=by kernel_rfl
theorem run48 (caps:Array Value) (W:World):(callFunc 174 caps).run Tryz.prog W=.ok (.enter 174 caps) W:=by kernel_rfl
inductive RS where
  | ok (zs:List Int) (at_:Nat)
  | bad (p:Nat) (c:Int)
def Rs (w:World) (g lb:Nat):RS→Prop
  | .ok zs at_=>∃ la lc,Rd w g la lc zs at_∧∀ k,At la k→k=lb
  | .bad p c=>RdF w g p c∧c≠0
theorem Rs.lt {w:World} {g lb:Nat} {st:RS} (h:Rs w g lb st):g < w.heap.size:=by
  cases st with
  | ok zs at_=>obtain ⟨la,lc,hr,_⟩:=h;exact hr.lt
  | bad p c=>exact (Array.getElem?_eq_some_iff.1 h.1).1
theorem Rs.kept {S:Nat→Prop} {w w':World} {g lb:Nat} {st:RS} (h:Rs w g lb st) (hk:Kept S w w') (hg:¬ S g) (hl:¬ S lb):Rs w' g lb st:=by
  cases st with
  | ok zs at_=>obtain ⟨la,lc,hr,hb⟩:=h;exact ⟨la,lc,hr.kept hk hg (fun _ k hk e=>by rw [hb k hk] at e;exact hl e),hb⟩
  | bad p c=>exact ⟨(hk.block g (Array.getElem?_eq_some_iff.1 h.1).1 hg).trans h.1,h.2⟩
theorem Rs.no {w w':World} {g lb:Nat} {st:RS} (h:Rs w g lb st) (hk:Kept No w w'):Rs w' g lb st:=h.kept hk (fun e=>e) (fun e=>e)
def numS:RS→RS × Int
  | .ok zs at_=>match nr zs with
    | .error c=>(.bad at_ c,0)
    | .ok (u,k)=>(.ok (zs.drop k) (at_+k),(u:Int))
  | .bad p c=>(.bad p c,0)
def bytesS:RS→RS × List Int
  | .ok zs at_=>match cr zs with
    | .error c=>(.bad at_ c,[])
    | .ok (n,k)=>(.ok (zs.drop (k+n)) (at_+(k+n)),(zs.drop k).take n)
  | .bad p c=>(.bad p c,[])
def endS:RS→RS
  | .ok zs at_=>if zs=[] then .ok zs at_ else .bad at_ 11
  | .bad p c=>.bad p c
def moreS:RS→Bool
  | .ok zs _=>decide (0 < zs.length)
  | .bad _ _=>false
def errS:RS→Int × Int
  | .ok _ _=>(0,0)
  | .bad p c=>(p,c)
theorem vr_code {zs:List Int} {c:Int} (h:vr zs=.error c):c=10∨c=11:=by
  suffices H:∀ f i,vrGo zs i f=.error c→c=10∨c=11 from H 10 0 h
  intro f
  induction f with
  | zero=>intro i h;simp [vrGo] at h;omega
  | succ f ih=>
    intro i h
    rw [vrGo] at h
    split at h
    · simp at h;omega
    · split at h
      · split at h
        · simp at h;omega
        · cases h
      · exact ih (i+1) h
theorem nr_code {zs:List Int} {c:Int} (h:nr zs=.error c):c=10∨c=11:=by
  unfold nr at h
  split at h
  · rename_i c' hv;simp at h;subst h;exact vr_code hv
  · split at h
    · simp at h;omega
    · cases h
theorem cr_code {zs:List Int} {c:Int} (h:cr zs=.error c):c=10∨c=11:=by
  unfold cr at h
  split at h
  · rename_i c' hv;simp at h;subst h;exact nr_code hv
  · split at h
    · simp at h;omega
    · cases h
theorem heap_new (w:World) (o:Obj):(w.alloc o).heap[w.heap.size]?=some o:=by
  show (w.heap.push o)[w.heap.size]?=some o
  simp
theorem heap_new1 (w:World) (o o':Obj):((w.alloc o).alloc o').heap[w.heap.size+1]?=some o':=by
  have:=heap_new (w.alloc o) o'
  rwa [World.heap_size_alloc1] at this
set_option maxRecDepth 1000000 in
set_option maxHeartbeats 2000000 in
theorem Num_all (g lb:Nat) (st:RS) (w:World) (h:Rs w g lb st) :
    Calls Tryz.prog 102 #[.pointer (some ⟨g,0,none⟩)] w fun e w'=>e=.returned (.int .i64 (numS st).2)∧Rs w' g lb (numS st).1∧Kept (Only g) w w':=by
  have hmf:∀ (fn:Fn) (first cap:Array Value) (w:World),(Instr.makeFunc fn first cap).run Tryz.prog w=.ok (.func fn first cap) w:=fun _ _ _ _=>rfl
  have hglt:=h.lt
  have HK0:Hid (Kept No w ((w.alloc (Obj.cells #[.pointer (some ⟨g,0,none⟩)] 137)).alloc (Obj.cells #[.int .i64 0] 3))):=((Kept.refl _ _).alloc _).alloc _
  have HN0:Hid (((w.alloc (Obj.cells #[.pointer (some ⟨g,0,none⟩)] 137)).alloc (Obj.cells #[.int .i64 0] 3)).heap[w.heap.size+1]?=some (.cells #[.int .i64 0] 3 (0,0))):=heap_new1 _ _ _
  have HA0:Hid (((w.alloc (Obj.cells #[.pointer (some ⟨g,0,none⟩)] 137)).alloc (Obj.cells #[.int .i64 0] 3)).cell? ⟨w.heap.size,0,none⟩=some (.pointer (some ⟨g,0,none⟩))):=by simp [Hid]
  cases st with
  | bad p c=>
    have HF:Hid (RdF w g p c):=h.1
    have HC:Hid (c≠0):=h.2
    clear h
    go_enter Tryz.func102,Tryz.ntmps102
    go_wp2_with fail
    refine (catch_bad _ g p c _ ((HK0.out.block g hglt (fun e=>e)).trans HF.out) HC.out).mono ?_
    rintro e w1 ⟨rfl,hk⟩
    have cN:w1.cell? ⟨w.heap.size+1,0,none⟩=some (.int .i64 0):=hk.cell (by simp) (fun e=>e)
    have HK1:Hid (Kept No w w1):=HK0.out.then hk
    clear hk
    go_wp2
    go_ret
    exact ⟨rfl,⟨(HK1.out.block g hglt (fun e=>e)).trans HF.out,HC.out⟩,HK1.out.of_no⟩
  | ok zs at_=>
    obtain ⟨la,lc,hr,hb⟩:=h
    have HR:Hid (Rd w g la lc zs at_):=hr
    have HB:Hid (∀ k,At la k→k=lb):=hb
    clear hr hb
    go_enter Tryz.func102,Tryz.ntmps102
    go_wp2_with fail
    refine (catch_any 140 _ (run53 _) g la lc zs at_ (fun W w'=>∃ u k,nr zs=.ok (u,k)∧Laid g (w.heap.size+1) 3 la zs at_ k (.int .i64 (u:Int)) W w') (fun c=>nr zs=.error c) _ (HR.out.no HK0.out) (fun W hk=>num1_any w.heap.size (w.heap.size+1) g la lc zs at_ W ((HR.out.no HK0.out).no hk) (hk.cell HA0.out (fun e=>e)) ((hk.block _ (Array.getElem?_eq_some_iff.1 HN0.out).1 (fun e=>e)).trans HN0.out) (by omega))).mono ?_
    rintro e w1 ⟨rfl,hcase⟩
    rcases hcase with ⟨W,hW,hok⟩ | ⟨c,hbad,hF,hk⟩
    · obtain ⟨u,k,hv,hlaid⟩:=hok
      have cN:w1.cell? ⟨w.heap.size+1,0,none⟩=some (.int .i64 (u:Int)):=by rw [cell_of_row w1 (w.heap.size+1) 0 _ 3 (0,0) hlaid.1];rfl
      have HK1:Hid (Kept (Only g) w w1):=(HK0.out.then hW).of_no.trans hlaid.2.2 (fun _ e=>e) (fun i hi e=>by
        rcases e with e | e
        · exact e
        · omega)
      have HP:Hid (Rs w1 g lb (numS (.ok zs at_)).1∧(numS (.ok zs at_)).2=(u:Int)):=by
        obtain ⟨b',off',lc',ha,hr⟩:=hlaid.2.1
        have e:numS (.ok zs at_)=(.ok (zs.drop k) (at_+k),(u:Int)):=by simp only[numS,hv]
        rw [e]
        exact ⟨⟨_,_,hr,fun i hi=>by obtain ⟨ad,e1,rfl⟩:=hi;cases e1;exact HB.out _ ha⟩,rfl⟩
      clear hW hlaid hv
      go_wp2
      go_ret
      exact ⟨ret_int HP.out.2.symm,HP.out.1,HK1.out⟩
    · have cN:w1.cell? ⟨w.heap.size+1,0,none⟩=some (.int .i64 0):=hk.cell (by simp) (fun e=>by have e':w.heap.size+1=g:=e;omega)
      have HK1:Hid (Kept (Only g) w w1):=HK0.out.of_no.then hk
      have HP:Hid (Rs w1 g lb (numS (.ok zs at_)).1∧numS (.ok zs at_)=(.bad at_ c,0)):=by
        have e:numS (.ok zs at_)=(.bad at_ c,0):=by simp only[numS,hbad]
        rw [e]
        exact ⟨⟨hF,by have:=nr_code hbad;omega⟩,rfl⟩
      clear hbad hF hk
      go_wp2
      go_ret
      exact ⟨ret_int (by rw [HP.out.2]),HP.out.1,HK1.out⟩
set_option maxRecDepth 1000000 in
set_option maxHeartbeats 2000000 in
theorem Text_all (g lb:Nat) (st:RS) (w:World) (h:Rs w g lb st) :
    Calls Tryz.prog 100 #[.pointer (some ⟨g,0,none⟩)] w fun e w'=>e=.returned (.string (strOf (bytesS st).2))∧Rs w' g lb (bytesS st).1∧Kept (Only g) w w':=by
  have hmf:∀ (fn:Fn) (first cap:Array Value) (w:World),(Instr.makeFunc fn first cap).run Tryz.prog w=.ok (.func fn first cap) w:=fun _ _ _ _=>rfl
  have hglt:=h.lt
  have HK0:Hid (Kept No w ((w.alloc (Obj.cells #[.pointer (some ⟨g,0,none⟩)] 137)).alloc (Obj.cells #[.string ByteArray.empty] 9))):=((Kept.refl _ _).alloc _).alloc _
  have HN0:Hid (((w.alloc (Obj.cells #[.pointer (some ⟨g,0,none⟩)] 137)).alloc (Obj.cells #[.string ByteArray.empty] 9)).heap[w.heap.size+1]?=some (.cells #[.string ByteArray.empty] 9 (0,0))):=heap_new1 _ _ _
  have HA0:Hid (((w.alloc (Obj.cells #[.pointer (some ⟨g,0,none⟩)] 137)).alloc (Obj.cells #[.string ByteArray.empty] 9)).cell? ⟨w.heap.size,0,none⟩=some (.pointer (some ⟨g,0,none⟩))):=by simp [Hid]
  cases st with
  | bad p c=>
    have HF:Hid (RdF w g p c):=h.1
    have HC:Hid (c≠0):=h.2
    clear h
    go_enter Tryz.func100,Tryz.ntmps100
    go_wp2_with fail
    refine (catch_bad _ g p c _ ((HK0.out.block g hglt (fun e=>e)).trans HF.out) HC.out).mono ?_
    rintro e w1 ⟨rfl,hk⟩
    have cN:w1.cell? ⟨w.heap.size+1,0,none⟩=some (.string ByteArray.empty):=hk.cell (by simp) (fun e=>e)
    have HK1:Hid (Kept No w w1):=HK0.out.then hk
    clear hk
    go_wp2
    go_ret
    exact ⟨rfl,⟨(HK1.out.block g hglt (fun e=>e)).trans HF.out,HC.out⟩,HK1.out.of_no⟩
  | ok zs at_=>
    obtain ⟨la,lc,hr,hb⟩:=h
    have HR:Hid (Rd w g la lc zs at_):=hr
    have HB:Hid (∀ k,At la k→k=lb):=hb
    clear hr hb
    go_enter Tryz.func100,Tryz.ntmps100
    go_wp2_with fail
    refine (catch_any 139 _ (run62 _) g la lc zs at_ (fun W w'=>∃ n k,cr zs=.ok (n,k)∧Laid g (w.heap.size+1) 9 la zs at_ (k+n) (.string (strOf ((zs.drop k).take n))) W w') (fun c=>cr zs=.error c) _ (HR.out.no HK0.out) (fun W hk=>text1_any w.heap.size (w.heap.size+1) g la lc zs at_ W ((HR.out.no HK0.out).no hk) (hk.cell HA0.out (fun e=>e)) ((hk.block _ (Array.getElem?_eq_some_iff.1 HN0.out).1 (fun e=>e)).trans HN0.out) (by omega))).mono ?_
    rintro e w1 ⟨rfl,hcase⟩
    rcases hcase with ⟨W,hW,hok⟩ | ⟨c,hbad,hF,hk⟩
    · obtain ⟨n,k,hv,hlaid⟩:=hok
      have cN:w1.cell? ⟨w.heap.size+1,0,none⟩=some (.string (strOf ((zs.drop k).take n))):=by rw [cell_of_row w1 (w.heap.size+1) 0 _ 9 (0,0) hlaid.1];rfl
      have HK1:Hid (Kept (Only g) w w1):=(HK0.out.then hW).of_no.trans hlaid.2.2 (fun _ e=>e) (fun i hi e=>by
        rcases e with e | e
        · exact e
        · omega)
      have HP:Hid (Rs w1 g lb (bytesS (.ok zs at_)).1∧(bytesS (.ok zs at_)).2=(zs.drop k).take n):=by
        obtain ⟨b',off',lc',ha,hr⟩:=hlaid.2.1
        have e:bytesS (.ok zs at_)=(.ok (zs.drop (k+n)) (at_+(k+n)),(zs.drop k).take n):=by simp only[bytesS,hv]
        rw [e]
        exact ⟨⟨_,_,hr,fun i hi=>by obtain ⟨ad,e1,rfl⟩:=hi;cases e1;exact HB.out _ ha⟩,rfl⟩
      clear hW hlaid hv
      generalize (zs.drop k).take n=L at cN HP
      go_wp2
      go_ret
      exact ⟨by rw [HP.out.2];rfl,HP.out.1,HK1.out⟩
    · have cN:w1.cell? ⟨w.heap.size+1,0,none⟩=some (.string ByteArray.empty):=hk.cell (by simp) (fun e=>by have e':w.heap.size+1=g:=e;omega)
      have HK1:Hid (Kept (Only g) w w1):=HK0.out.of_no.then hk
      have HP:Hid (Rs w1 g lb (bytesS (.ok zs at_)).1∧bytesS (.ok zs at_)=(.bad at_ c,[])):=by
        have e:bytesS (.ok zs at_)=(.bad at_ c,[]):=by simp only[bytesS,hbad]
        rw [e]
        exact ⟨⟨hF,by have:=cr_code hbad;omega⟩,rfl⟩
      clear hbad hF hk
      go_wp2
      go_ret
      exact ⟨by rw [HP.out.2];rfl,HP.out.1,HK1.out⟩
set_option maxRecDepth 1000000 in
set_option maxHeartbeats 2000000 in
theorem Bytes_all (g lb:Nat) (st:RS) (w:World) (h:Rs w g lb st) :
    Calls Tryz.prog 83 #[.pointer (some ⟨g,0,none⟩)] w fun e w'=>∃ a' n' c',e=.returned (.slice a' n' c')∧n'=(bytesS st).2.length∧OwnS w' w.heap.size a' c' (bytesS st).2∧Rs w' g lb (bytesS st).1∧Kept (Only g) w w':=by
  have hmf:∀ (fn:Fn) (first cap:Array Value) (w:World),(Instr.makeFunc fn first cap).run Tryz.prog w=.ok (.func fn first cap) w:=fun _ _ _ _=>rfl
  have hglt:=h.lt
  have HK0:Hid (Kept No w ((w.alloc (Obj.cells #[.pointer (some ⟨g,0,none⟩)] 137)).alloc (Obj.cells #[.slice none 0 0] 30))):=((Kept.refl _ _).alloc _).alloc _
  have HN0:Hid (((w.alloc (Obj.cells #[.pointer (some ⟨g,0,none⟩)] 137)).alloc (Obj.cells #[.slice none 0 0] 30)).heap[w.heap.size+1]?=some (.cells #[.slice none 0 0] 30 (0,0))):=heap_new1 _ _ _
  have HA0:Hid (((w.alloc (Obj.cells #[.pointer (some ⟨g,0,none⟩)] 137)).alloc (Obj.cells #[.slice none 0 0] 30)).cell? ⟨w.heap.size,0,none⟩=some (.pointer (some ⟨g,0,none⟩))):=by simp [Hid]
  cases st with
  | bad p c=>
    have HF:Hid (RdF w g p c):=h.1
    have HC:Hid (c≠0):=h.2
    clear h
    go_enter Tryz.func83,Tryz.ntmps83
    go_wp2_with fail
    refine (catch_bad _ g p c _ ((HK0.out.block g hglt (fun e=>e)).trans HF.out) HC.out).mono ?_
    rintro e w1 ⟨rfl,hk⟩
    have cN:w1.cell? ⟨w.heap.size+1,0,none⟩=some (.slice none 0 0):=hk.cell (by simp) (fun e=>e)
    have HK1:Hid (Kept No w w1):=HK0.out.then hk
    clear hk
    go_wp2
    go_ret
    exact ⟨none,0,0,rfl,rfl,OwnS.nil _ _,⟨(HK1.out.block g hglt (fun e=>e)).trans HF.out,HC.out⟩,HK1.out.of_no⟩
  | ok zs at_=>
    obtain ⟨la,lc,hr,hb⟩:=h
    have HR:Hid (Rd w g la lc zs at_):=hr
    have HB:Hid (∀ k,At la k→k=lb):=hb
    clear hr hb
    go_enter Tryz.func83,Tryz.ntmps83
    go_wp2_with fail
    refine (catch_any 133 _ (run60 _) g la lc zs at_ (fun W w'=>∃ n k,cr zs=.ok (n,k)∧∃ a' c',Laid g (w.heap.size+1) 30 la zs at_ (k+n) (.slice a' n c') W w'∧OwnS w' W.heap.size a' c' ((zs.drop k).take n)) (fun c=>cr zs=.error c) _ (HR.out.no HK0.out) (fun W hk=>bytes1_any w.heap.size (w.heap.size+1) g la lc zs at_ W ((HR.out.no HK0.out).no hk) (hk.cell HA0.out (fun e=>e)) ((hk.block _ (Array.getElem?_eq_some_iff.1 HN0.out).1 (fun e=>e)).trans HN0.out) (by omega))).mono ?_
    rintro e w1 ⟨rfl,hcase⟩
    rcases hcase with ⟨W,hW,hok⟩ | ⟨c,hbad,hF,hk⟩
    · obtain ⟨n,k,hv,a2,c2,hlaid,hO⟩:=hok
      have cN:w1.cell? ⟨w.heap.size+1,0,none⟩=some (.slice a2 n c2):=by rw [cell_of_row w1 (w.heap.size+1) 0 _ 30 (0,0) hlaid.1];rfl
      have HK1:Hid (Kept (Only g) w w1):=(HK0.out.then hW).of_no.trans hlaid.2.2 (fun _ e=>e) (fun i hi e=>by
        rcases e with e | e
        · exact e
        · omega)
      have HP:Hid (Rs w1 g lb (bytesS (.ok zs at_)).1∧n=(bytesS (.ok zs at_)).2.length∧OwnS w1 w.heap.size a2 c2 (bytesS (.ok zs at_)).2):=by
        obtain ⟨b',off',lc',ha,hr⟩:=hlaid.2.1
        have e:bytesS (.ok zs at_)=(.ok (zs.drop (k+n)) (at_+(k+n)),(zs.drop k).take n):=by simp only[bytesS,hv]
        rw [e]
        refine ⟨⟨_,_,hr,fun i hi=>by obtain ⟨ad,e1,rfl⟩:=hi;cases e1;exact HB.out _ ha⟩,?_,hO.lower (HK0.out.then hW).size⟩
        have:=(cr_bd hv).2.2.1
        simp only[List.length_take,List.length_drop];omega
      clear hW hlaid hv hO
      go_wp2
      go_ret
      exact ⟨a2,n,c2,rfl,HP.out.2.1,HP.out.2.2,HP.out.1,HK1.out⟩
    · have cN:w1.cell? ⟨w.heap.size+1,0,none⟩=some (.slice none 0 0):=hk.cell (by simp) (fun e=>by have e':w.heap.size+1=g:=e;omega)
      have HK1:Hid (Kept (Only g) w w1):=HK0.out.of_no.then hk
      have HP:Hid (Rs w1 g lb (bytesS (.ok zs at_)).1∧bytesS (.ok zs at_)=(.bad at_ c,[])):=by
        have e:bytesS (.ok zs at_)=(.bad at_ c,[]):=by simp only[bytesS,hbad]
        rw [e]
        exact ⟨⟨hF,by have:=cr_code hbad;omega⟩,rfl⟩
      clear hbad hF hk
      go_wp2
      go_ret
      exact ⟨none,0,0,rfl,by rw [HP.out.2];rfl,by rw [HP.out.2];exact OwnS.nil _ _,HP.out.1,HK1.out⟩
theorem Err_all (g lb:Nat) (st:RS) (w:World) (h:Rs w g lb st) :
    Calls Tryz.prog 131 #[.pointer (some ⟨g,0,none⟩)] w fun e w'=>e=.returned (.tuple #[.int .i64 (errS st).1,.int .i64 (errS st).2])∧∃ n,w'=w.drewN n:=by
  cases st with
  | ok zs at_=>obtain ⟨la,lc,hr,_⟩:=h;exact Err_any g _ _ 0 0 w hr.cell
  | bad p c=>exact Err_any g _ _ p c w h.1
set_option maxRecDepth 1000000 in
set_option maxHeartbeats 2000000 in
theorem End_all (g lb:Nat) (st:RS) (w:World) (h:Rs w g lb st) :
    Calls Tryz.prog 130 #[.pointer (some ⟨g,0,none⟩)] w fun e w'=>e=.returned (.tuple #[])∧Rs w' g lb (endS st)∧Kept (Only g) w w':=by
  have hmf:∀ (fn:Fn) (first cap:Array Value) (w:World),(Instr.makeFunc fn first cap).run Tryz.prog w=.ok (.func fn first cap) w:=fun _ _ _ _=>rfl
  have hglt:=h.lt
  have HK0:Hid (Kept No w (w.alloc (Obj.cells #[.pointer (some ⟨g,0,none⟩)] 137))):=(Kept.refl _ _).alloc _
  have HA0:Hid ((w.alloc (Obj.cells #[.pointer (some ⟨g,0,none⟩)] 137)).cell? ⟨w.heap.size,0,none⟩=some (.pointer (some ⟨g,0,none⟩))):=by simp [Hid]
  cases st with
  | bad p c=>
    have HF:Hid (RdF w g p c):=h.1
    have HC:Hid (c≠0):=h.2
    clear h
    go_enter Tryz.func130,Tryz.ntmps130
    go_wp2_with fail
    refine (catch_bad _ g p c _ ((HK0.out.block g hglt (fun e=>e)).trans HF.out) HC.out).mono ?_
    rintro e w1 ⟨rfl,hk⟩
    have HK1:Hid (Kept No w w1):=HK0.out.then hk
    clear hk
    go_wp2
    go_end0
    exact ⟨rfl,⟨(HK1.out.block g hglt (fun e=>e)).trans HF.out,HC.out⟩,HK1.out.of_no⟩
  | ok zs at_=>
    obtain ⟨la,lc,hr,hb⟩:=h
    have HR:Hid (Rd w g la lc zs at_):=hr
    have HB:Hid (∀ k,At la k→k=lb):=hb
    clear hr hb
    go_enter Tryz.func130,Tryz.ntmps130
    go_wp2_with fail
    refine (catch_any 174 _ (run48 _) g la lc zs at_ (fun W w'=>zs=[]∧w'=W) (fun c=>c=11∧zs≠[]) _ (HR.out.no HK0.out) (fun W hk=>end1_any w.heap.size g la lc zs at_ W ((HR.out.no HK0.out).no hk) (hk.cell HA0.out (fun e=>e)))).mono ?_
    rintro e w1 ⟨rfl,hcase⟩
    rcases hcase with ⟨W,hW,h0,rfl⟩ | ⟨c,⟨rfl,hne⟩,hF,hk⟩
    · have HP:Hid (Rs w1 g lb (endS (.ok zs at_))∧Kept (Only g) w w1):=by
        have e:endS (.ok zs at_)=.ok zs at_:=by simp only[endS,h0,if_true]
        rw [e]
        exact ⟨⟨la,lc,(HR.out.no HK0.out).no hW,HB.out⟩,(HK0.out.then hW).of_no⟩
      clear hW h0
      go_wp2
      go_end0
      exact ⟨rfl,HP.out⟩
    · have HP:Hid (Rs w1 g lb (endS (.ok zs at_))∧Kept (Only g) w w1):=by
        have e:endS (.ok zs at_)=.bad at_ 11:=by simp only[endS,hne,if_false]
        rw [e]
        exact ⟨⟨hF,by omega⟩,HK0.out.of_no.then hk⟩
      clear hF hk hne
      go_wp2
      go_end0
      exact ⟨rfl,HP.out⟩
set_option maxRecDepth 1000000 in
set_option maxHeartbeats 1000000 in
theorem Read_any (xa:Option Addr) (xn xc:Nat) (ys:List Int) (w:World) (h:Sl w xa xn xc ys) :
    Calls Tryz.prog 80 #[.slice xa xn xc] w fun e w'=>∃ g lb,e=.returned (.pointer (some ⟨g,0,none⟩))∧w.heap.size≤g∧w.heap.size≤lb∧Rs w' g lb (.ok ys 0)∧Kept No w w'∧g < w'.heap.size∧(lb < w'.heap.size):=by
  have HS:Hid (Sl w xa xn xc ys):=h
  have hbd:=h.bd
  clear h
  go_enter Tryz.func80,Tryz.ntmps80
  go_wp2_with fail
  refine (clone_any xa xn xc ys w HS.out.len HS.out.bytes (fun e=>⟨?_,HS.out.nil e⟩) (by omega)).mono ?_
  · have h1:=HS.out.nil e;have h2:=HS.out.le;omega
  rintro e w1 ⟨a1,c1,rfl,hO1,hK1,-⟩
  have HF:Hid (∃ lb,w.heap.size≤lb∧lb < (w1.alloc (Obj.cells #[.slice a1 xn c1,.int .i64 0,.int .i64 0,.int .i64 0] 190)).heap.size∧Rs (w1.alloc (Obj.cells #[.slice a1 xn c1,.int .i64 0,.int .i64 0,.int .i64 0] 190)) w1.heap.size lb (.ok ys 0)):=by
    have hs:Sl w1 a1 ys.length c1 ys:=hO1.sl rfl HS.out.u8 (by rw [HS.out.len];exact hbd)
    have hs':=hs.no ((Kept.refl No w1).alloc (Obj.cells #[.slice a1 xn c1,.int .i64 0,.int .i64 0,.int .i64 0] 190))
    have hR:Rd (w1.alloc (Obj.cells #[.slice a1 xn c1,.int .i64 0,.int .i64 0,.int .i64 0] 190)) w1.heap.size a1 c1 ys 0:=
      ⟨by rw [HS.out.len];exact heap_new _ _,hs',by rw [HS.out.len];omega⟩
    have hz:=hK1.size
    rcases hO1.cases with ⟨rfl,_,_⟩ | ⟨g,rfl,hb,hl,_⟩
    · exact ⟨w1.heap.size,by omega,by rw [World.heap_size_alloc1];omega,none,c1,hR,fun k hk=>absurd hk At.none⟩
    · exact ⟨g,hb,by rw [World.heap_size_alloc1];omega,_,c1,hR,fun k hk=>at_some hk⟩
  have HK:Hid (Kept No w w1):=hK1
  clear hO1 hK1
  go_wp2
  go_ret
  obtain ⟨lb,h1,h2,h3⟩:=HF.out
  exact ⟨w1.heap.size,lb,rfl,HK.out.size,h1,h3,HK.out.alloc _,by rw [World.heap_size_alloc1];omega,h2⟩
set_option maxRecDepth 100000
set_option maxHeartbeats 4000000
theorem packMsg_all (cs:Array Value) (hcs:cs.size=30) (r:Int) (sa:Option Addr) (sn sc:Nat) (zs:List Int) (f p bu bl ro:Int) (body:List Int) (w:World) (hbl:body.length≤131072) (hb8:U8 body)
    (hJ:∀ W,Kept No w W→Calls Tryz.prog 62 #[.agg cs,cfgV (.slice sa sn sc) f p bu bl ro,FV 55,.int .i64 r] W fun e w'=>e=.returned (.int .i64 0)∧Kept No W w')
    (hP:∀ W g,Kept No w W→Ws W w.heap.size g none 0 (some [])→Calls Tryz.prog 56 #[.pointer (some ⟨g,0,none⟩),.agg cs] W (Puts W w.heap.size g none (some body))) :
    Calls Tryz.prog 54 #[.agg cs,cfgV (.slice sa sn sc) f p bu bl ro,FV 55,FV 56,.int .i64 r] w fun e w'=>∃ a' c',e=.returned (.tuple #[.slice a' (body.length+12) c',.int .i64 0])∧OwnS w' w.heap.size a' c' (sealOf body)∧Kept No w w':=by
  have HJ:Hid (∀ W,Kept No w W→Calls Tryz.prog 62 #[.agg cs,cfgV (.slice sa sn sc) f p bu bl ro,FV 55,.int .i64 r] W fun e w'=>e=.returned (.int .i64 0)∧Kept No W w'):=hJ
  have HP:Hid (∀ W g,Kept No w W→Ws W w.heap.size g none 0 (some [])→Calls Tryz.prog 56 #[.pointer (some ⟨g,0,none⟩),.agg cs] W (Puts W w.heap.size g none (some body))):=hP
  have HS:Hid (cs.size=30):=hcs
  have HB:Hid (body.length≤131072∧U8 body):=⟨hbl,hb8⟩
  clear hJ hcs hP hbl hb8
  have TB:Hid (1=1):=rfl
  obtain ⟨w0,hw0⟩:∃ w0,w0=w.alloc (.cells cs 71):=⟨_,rfl⟩
  have HK0:Hid (Kept No w w0):=by rw [hw0];exact (Kept.refl No w).alloc _
  have HM0:Hid (Box w0 w.heap.size 71 cs):=by rw [hw0];exact Box.new _ _ _
  go_enter Tryz.func54,Tryz.ntmps54
  go_upto_region 1 with (have hguard:=TB;clear hguard;refine wp_boxV rfl 71 _ rfl cs rfl w.heap.size rfl ?_;rw [← hw0];clear hw0 TB)
  obtain ⟨w1,hw1⟩:∃ w1,w1=w0.alloc (.cells #[.slice sa sn sc,.int .i64 f,.int .i64 p,.int .i64 bu,.int .i64 bl,.int .i64 ro] 24):=⟨_,rfl⟩
  rw [← hw1]
  have hk1:Kept No w0 w1:=by rw [hw1];exact (Kept.refl No w0).alloc _
  have HC1:Hid (Box w1 w0.heap.size 24 #[.slice sa sn sc,.int .i64 f,.int .i64 p,.int .i64 bu,.int .i64 bl,.int .i64 ro]):=by rw [hw1];exact Box.new _ _ _
  have HK1:Hid (Kept No w w1):=HK0.out.then hk1
  have HM1:Hid (Box w1 w.heap.size 71 cs):=HM0.out.kept hk1 (fun e=>e)
  clear hw1 hk1 HM0 HK0
  have q0:=HC1.out.cell 0
  have q1:=HC1.out.cell 1
  have q2:=HC1.out.cell 2
  have q3:=HC1.out.cell 3
  have q4:=HC1.out.cell 4
  have q5:=HC1.out.cell 5
  simp at q0 q1 q2 q3 q4 q5
  have TL:Hid (1=1):=rfl
  go_wp2_with (have hguard:=TL;clear hguard;refine wp_load71 rfl _ rfl w.heap.size cs rfl HS.out HM1.out ?_;clear TL)
  refine (HJ.out _ HK1.out).mono ?_
  rintro e w2 ⟨rfl,hk2⟩
  have HK2:Hid (Kept No w w2):=HK1.out.then hk2
  have HM2:Hid (Box w2 w.heap.size 71 cs):=HM1.out.kept hk2 (fun e=>e)
  clear hk2 q0 q1 q2 q3 q4 q5 HC1 HM1 HJ
  obtain ⟨w3,hw3⟩:∃ w3,w3=w2.alloc (.cells #[.slice none 0 0,.bool false] 128):=⟨_,rfl⟩
  have hk3:Kept No w2 w3:=by rw [hw3];exact (Kept.refl No w2).alloc _
  have hB3:Box w3 w2.heap.size 128 #[.slice none 0 0,.bool false]:=by rw [hw3];exact Box.new _ _ _
  have HK3:Hid (Kept No w w3):=HK2.out.then hk3
  have HM3:Hid (Box w3 w.heap.size 71 cs):=HM2.out.kept hk3 (fun e=>e)
  have HW3:Hid (Ws w3 w.heap.size w2.heap.size none 0 (some [])):=by
    show Wr _ _ _ _ _ _ _
    exact ⟨hB3,OwnS.nil _ _,HK2.out.size⟩
  have TL:Hid (1=1):=rfl
  clear hk3 hB3 HM2
  go_upto_region 5 with fail
  rw [← hw3]
  clear hw3
  go_wp2_with (have hguard:=TL;clear hguard;refine wp_load71 rfl _ rfl w.heap.size cs rfl HS.out HM3.out ?_;clear TL)
  refine (HP.out w3 _ HK3.out HW3.out).mono ?_
  rintro e w4 ⟨rfl,a4,c4,hw4,hk4,hm4⟩
  have HK4:Hid (Kept No w w4):=HK3.out.fresh hk4 (fun i hi=>HW3.out.base hi)
  have HD:Hid (Calls Tryz.prog 72 #[.pointer (some ⟨w2.heap.size,0,none⟩)] w4 fun e w'=>∃ a' n' c',e=.returned (.tuple #[.slice a' n' c',.int .i64 0])∧n'=body.length∧OwnS w' w4.heap.size a' c' body∧Kept No w4 w'):=
    Done_all w.heap.size w2.heap.size a4 c4 (some body) w4 hw4 (by have:=HB.out.1;show body.length≤_;omega)
  clear hw4 hk4 hm4 HW3 HM3 HP HK3 HK2
  go_wp2_with fail
  refine HD.out.mono ?_
  rintro e w5 ⟨a5,n5,c5,rfl,hn5,hO5,hk5⟩
  have HS5:Hid (Calls Tryz.prog 18 #[.slice a5 n5 c5] w5 fun e w'=>∃ a' c',e=.returned (.slice a' (n5+12) c')∧OwnS w' w5.heap.size a' c' (sealOf body)∧Kept No w5 w'):=
    seal_any a5 n5 c5 body w5 hn5.symm (by have:=HB.out.1;omega) hO5.bytes HB.out.2 hO5.nilcap
  have HK5:Hid (Kept No w w5):=HK4.out.then hk5
  have HN5:Hid (n5=body.length):=hn5
  clear hn5 hO5 hk5 HK4 HD
  go_wp2_with fail
  refine HS5.out.mono ?_
  rintro e w6 ⟨a6,c6,rfl,hO6,hk6⟩
  have HF:Hid (OwnS w6 w.heap.size a6 c6 (sealOf body)∧Kept No w w6):=⟨hO6.lower HK5.out.size,HK5.out.then hk6⟩
  clear hO6 hk6
  go_wp2
  go_ret2
  exact ⟨a6,c6,by rw [HN5.out];rfl,HF.out.1,HF.out.2⟩
set_option maxRecDepth 100000 in
set_option maxHeartbeats 2000000 in
theorem packBlock_no (cs:Array Value) (hcs:cs.size=3) (gv:Value) (r e0:Int) (he0:e0≠0) (sa:Option Addr) (sn sc:Nat) (zs:List Int) (f p bu bl ro:Int) (w:World)
    (hJ:∀ W,Kept No w W→Calls Tryz.prog 71 #[.agg cs,cfgV (.slice sa sn sc) f p bu bl ro,FV 37,.int .i64 r] W fun e w'=>e=.returned (.int .i64 e0)∧Kept No W w') :
    Calls Tryz.prog 36 #[.agg cs,cfgV (.slice sa sn sc) f p bu bl ro,FV 37,gv,.int .i64 r] w fun e w'=>e=.returned (.tuple #[.slice none 0 0,.int .i64 e0])∧Kept No w w':=by
  have HJ:Hid (∀ W,Kept No w W→Calls Tryz.prog 71 #[.agg cs,cfgV (.slice sa sn sc) f p bu bl ro,FV 37,.int .i64 r] W fun e w'=>e=.returned (.int .i64 e0)∧Kept No W w'):=hJ
  have HS:Hid (cs.size=3):=hcs
  clear hJ hcs
  have TB:Hid (1=1):=rfl
  obtain ⟨w0,hw0⟩:∃ w0,w0=w.alloc (.cells cs 37):=⟨_,rfl⟩
  have HK0:Hid (Kept No w w0):=by rw [hw0];exact (Kept.refl No w).alloc _
  have HM0:Hid (Box w0 w.heap.size 37 cs):=by rw [hw0];exact Box.new _ _ _
  go_enter Tryz.func36,Tryz.ntmps36
  go_upto_region 1 with (have hguard:=TB;clear hguard;refine wp_boxV rfl 37 _ rfl cs rfl w.heap.size rfl ?_;rw [← hw0];clear hw0 TB)
  obtain ⟨w1,hw1⟩:∃ w1,w1=w0.alloc (.cells #[.slice sa sn sc,.int .i64 f,.int .i64 p,.int .i64 bu,.int .i64 bl,.int .i64 ro] 24):=⟨_,rfl⟩
  rw [← hw1]
  have hk1:Kept No w0 w1:=by rw [hw1];exact (Kept.refl No w0).alloc _
  have HC1:Hid (Box w1 w0.heap.size 24 #[.slice sa sn sc,.int .i64 f,.int .i64 p,.int .i64 bu,.int .i64 bl,.int .i64 ro]):=by rw [hw1];exact Box.new _ _ _
  have HK1:Hid (Kept No w w1):=HK0.out.then hk1
  have HM1:Hid (Box w1 w.heap.size 37 cs):=HM0.out.kept hk1 (fun e=>e)
  clear hw1 hk1 HM0 HK0
  have q0:=HC1.out.cell 0
  have q1:=HC1.out.cell 1
  have q2:=HC1.out.cell 2
  have q3:=HC1.out.cell 3
  have q4:=HC1.out.cell 4
  have q5:=HC1.out.cell 5
  simp at q0 q1 q2 q3 q4 q5
  have TL:Hid (1=1):=rfl
  go_wp2_with (have hguard:=TL;clear hguard;refine wp_load37 rfl _ rfl w.heap.size cs rfl HS.out HM1.out ?_;clear TL)
  refine (HJ.out _ HK1.out).mono ?_
  rintro e w2 ⟨rfl,hk2⟩
  have HK2:Hid (Kept No w w2):=HK1.out.then hk2
  clear hk2 q0 q1 q2 q3 q4 q5 HC1 HM1
  go_wp2
  go_ret2
  exact ⟨rfl,HK2.out⟩
theorem packBlock_all (cs:Array Value) (hcs:cs.size=3) (r:Int) (sa:Option Addr) (sn sc:Nat) (zs:List Int) (f p bu bl ro:Int) (body:List Int) (w:World) (hbl:body.length≤131072) (hb8:U8 body)
    (hJ:∀ W,Kept No w W→Calls Tryz.prog 71 #[.agg cs,cfgV (.slice sa sn sc) f p bu bl ro,FV 37,.int .i64 r] W fun e w'=>e=.returned (.int .i64 0)∧Kept No W w')
    (hP:∀ W g,Kept No w W→Ws W w.heap.size g none 0 (some [])→Calls Tryz.prog 38 #[.pointer (some ⟨g,0,none⟩),.agg cs] W (Puts W w.heap.size g none (some body))) :
    Calls Tryz.prog 36 #[.agg cs,cfgV (.slice sa sn sc) f p bu bl ro,FV 37,FV 38,.int .i64 r] w fun e w'=>∃ a' c',e=.returned (.tuple #[.slice a' (body.length+12) c',.int .i64 0])∧OwnS w' w.heap.size a' c' (sealOf body)∧Kept No w w':=by
  have HJ:Hid (∀ W,Kept No w W→Calls Tryz.prog 71 #[.agg cs,cfgV (.slice sa sn sc) f p bu bl ro,FV 37,.int .i64 r] W fun e w'=>e=.returned (.int .i64 0)∧Kept No W w'):=hJ
  have HP:Hid (∀ W g,Kept No w W→Ws W w.heap.size g none 0 (some [])→Calls Tryz.prog 38 #[.pointer (some ⟨g,0,none⟩),.agg cs] W (Puts W w.heap.size g none (some body))):=hP
  have HS:Hid (cs.size=3):=hcs
  have HB:Hid (body.length≤131072∧U8 body):=⟨hbl,hb8⟩
  clear hJ hcs hP hbl hb8
  have TB:Hid (1=1):=rfl
  obtain ⟨w0,hw0⟩:∃ w0,w0=w.alloc (.cells cs 37):=⟨_,rfl⟩
  have HK0:Hid (Kept No w w0):=by rw [hw0];exact (Kept.refl No w).alloc _
  have HM0:Hid (Box w0 w.heap.size 37 cs):=by rw [hw0];exact Box.new _ _ _
  go_enter Tryz.func36,Tryz.ntmps36
  go_upto_region 1 with (have hguard:=TB;clear hguard;refine wp_boxV rfl 37 _ rfl cs rfl w.heap.size rfl ?_;rw [← hw0];clear hw0 TB)
  obtain ⟨w1,hw1⟩:∃ w1,w1=w0.alloc (.cells #[.slice sa sn sc,.int .i64 f,.int .i64 p,.int .i64 bu,.int .i64 bl,.int .i64 ro] 24):=⟨_,rfl⟩
  rw [← hw1]
  have hk1:Kept No w0 w1:=by rw [hw1];exact (Kept.refl No w0).alloc _
  have HC1:Hid (Box w1 w0.heap.size 24 #[.slice sa sn sc,.int .i64 f,.int .i64 p,.int .i64 bu,.int .i64 bl,.int .i64 ro]):=by rw [hw1];exact Box.new _ _ _
  have HK1:Hid (Kept No w w1):=HK0.out.then hk1
  have HM1:Hid (Box w1 w.heap.size 37 cs):=HM0.out.kept hk1 (fun e=>e)
  clear hw1 hk1 HM0 HK0
  have q0:=HC1.out.cell 0
  have q1:=HC1.out.cell 1
  have q2:=HC1.out.cell 2
  have q3:=HC1.out.cell 3
  have q4:=HC1.out.cell 4
  have q5:=HC1.out.cell 5
  simp at q0 q1 q2 q3 q4 q5
  have TL:Hid (1=1):=rfl
  go_wp2_with (have hguard:=TL;clear hguard;refine wp_load37 rfl _ rfl w.heap.size cs rfl HS.out HM1.out ?_;clear TL)
  refine (HJ.out _ HK1.out).mono ?_
  rintro e w2 ⟨rfl,hk2⟩
  have HK2:Hid (Kept No w w2):=HK1.out.then hk2
  have HM2:Hid (Box w2 w.heap.size 37 cs):=HM1.out.kept hk2 (fun e=>e)
  clear hk2 q0 q1 q2 q3 q4 q5 HC1 HM1 HJ
  obtain ⟨w3,hw3⟩:∃ w3,w3=w2.alloc (.cells #[.slice none 0 0,.bool false] 128):=⟨_,rfl⟩
  have hk3:Kept No w2 w3:=by rw [hw3];exact (Kept.refl No w2).alloc _
  have hB3:Box w3 w2.heap.size 128 #[.slice none 0 0,.bool false]:=by rw [hw3];exact Box.new _ _ _
  have HK3:Hid (Kept No w w3):=HK2.out.then hk3
  have HM3:Hid (Box w3 w.heap.size 37 cs):=HM2.out.kept hk3 (fun e=>e)
  have HW3:Hid (Ws w3 w.heap.size w2.heap.size none 0 (some [])):=by
    show Wr _ _ _ _ _ _ _
    exact ⟨hB3,OwnS.nil _ _,HK2.out.size⟩
  have TL:Hid (1=1):=rfl
  clear hk3 hB3 HM2
  go_upto_region 5 with fail
  rw [← hw3]
  clear hw3
  go_wp2_with (have hguard:=TL;clear hguard;refine wp_load37 rfl _ rfl w.heap.size cs rfl HS.out HM3.out ?_;clear TL)
  refine (HP.out w3 _ HK3.out HW3.out).mono ?_
  rintro e w4 ⟨rfl,a4,c4,hw4,hk4,hm4⟩
  have HK4:Hid (Kept No w w4):=HK3.out.fresh hk4 (fun i hi=>HW3.out.base hi)
  have HD:Hid (Calls Tryz.prog 72 #[.pointer (some ⟨w2.heap.size,0,none⟩)] w4 fun e w'=>∃ a' n' c',e=.returned (.tuple #[.slice a' n' c',.int .i64 0])∧n'=body.length∧OwnS w' w4.heap.size a' c' body∧Kept No w4 w'):=
    Done_all w.heap.size w2.heap.size a4 c4 (some body) w4 hw4 (by have:=HB.out.1;show body.length≤_;omega)
  clear hw4 hk4 hm4 HW3 HM3 HP HK3 HK2
  go_wp2_with fail
  refine HD.out.mono ?_
  rintro e w5 ⟨a5,n5,c5,rfl,hn5,hO5,hk5⟩
  have HS5:Hid (Calls Tryz.prog 18 #[.slice a5 n5 c5] w5 fun e w'=>∃ a' c',e=.returned (.slice a' (n5+12) c')∧OwnS w' w5.heap.size a' c' (sealOf body)∧Kept No w5 w'):=
    seal_any a5 n5 c5 body w5 hn5.symm (by have:=HB.out.1;omega) hO5.bytes HB.out.2 hO5.nilcap
  have HK5:Hid (Kept No w w5):=HK4.out.then hk5
  have HN5:Hid (n5=body.length):=hn5
  clear hn5 hO5 hk5 HK4 HD
  go_wp2_with fail
  refine HS5.out.mono ?_
  rintro e w6 ⟨a6,c6,rfl,hO6,hk6⟩
  have HF:Hid (OwnS w6 w.heap.size a6 c6 (sealOf body)∧Kept No w w6):=⟨hO6.lower HK5.out.size,HK5.out.then hk6⟩
  clear hO6 hk6
  go_wp2
  go_ret2
  exact ⟨a6,c6,by rw [HN5.out];rfl,HF.out.1,HF.out.2⟩
set_option maxRecDepth 100000 in
set_option maxHeartbeats 2000000 in
theorem packInst_no (cs:Array Value) (hcs:cs.size=14) (gv:Value) (r e0:Int) (he0:e0≠0) (sa:Option Addr) (sn sc:Nat) (zs:List Int) (f p bu bl ro:Int) (w:World)
    (hJ:∀ W,Kept No w W→Calls Tryz.prog 84 #[.agg cs,cfgV (.slice sa sn sc) f p bu bl ro,FV 42,.int .i64 r] W fun e w'=>e=.returned (.int .i64 e0)∧Kept No W w') :
    Calls Tryz.prog 41 #[.agg cs,cfgV (.slice sa sn sc) f p bu bl ro,FV 42,gv,.int .i64 r] w fun e w'=>e=.returned (.tuple #[.slice none 0 0,.int .i64 e0])∧Kept No w w':=by
  have HJ:Hid (∀ W,Kept No w W→Calls Tryz.prog 84 #[.agg cs,cfgV (.slice sa sn sc) f p bu bl ro,FV 42,.int .i64 r] W fun e w'=>e=.returned (.int .i64 e0)∧Kept No W w'):=hJ
  have HS:Hid (cs.size=14):=hcs
  clear hJ hcs
  have TB:Hid (1=1):=rfl
  obtain ⟨w0,hw0⟩:∃ w0,w0=w.alloc (.cells cs 47):=⟨_,rfl⟩
  have HK0:Hid (Kept No w w0):=by rw [hw0];exact (Kept.refl No w).alloc _
  have HM0:Hid (Box w0 w.heap.size 47 cs):=by rw [hw0];exact Box.new _ _ _
  go_enter Tryz.func41,Tryz.ntmps41
  go_upto_region 1 with (have hguard:=TB;clear hguard;refine wp_boxV rfl 47 _ rfl cs rfl w.heap.size rfl ?_;rw [← hw0];clear hw0 TB)
  obtain ⟨w1,hw1⟩:∃ w1,w1=w0.alloc (.cells #[.slice sa sn sc,.int .i64 f,.int .i64 p,.int .i64 bu,.int .i64 bl,.int .i64 ro] 24):=⟨_,rfl⟩
  rw [← hw1]
  have hk1:Kept No w0 w1:=by rw [hw1];exact (Kept.refl No w0).alloc _
  have HC1:Hid (Box w1 w0.heap.size 24 #[.slice sa sn sc,.int .i64 f,.int .i64 p,.int .i64 bu,.int .i64 bl,.int .i64 ro]):=by rw [hw1];exact Box.new _ _ _
  have HK1:Hid (Kept No w w1):=HK0.out.then hk1
  have HM1:Hid (Box w1 w.heap.size 47 cs):=HM0.out.kept hk1 (fun e=>e)
  clear hw1 hk1 HM0 HK0
  have q0:=HC1.out.cell 0
  have q1:=HC1.out.cell 1
  have q2:=HC1.out.cell 2
  have q3:=HC1.out.cell 3
  have q4:=HC1.out.cell 4
  have q5:=HC1.out.cell 5
  simp at q0 q1 q2 q3 q4 q5
  have TL:Hid (1=1):=rfl
  go_wp2_with (have hguard:=TL;clear hguard;refine wp_load47 rfl _ rfl w.heap.size cs rfl HS.out HM1.out ?_;clear TL)
  refine (HJ.out _ HK1.out).mono ?_
  rintro e w2 ⟨rfl,hk2⟩
  have HK2:Hid (Kept No w w2):=HK1.out.then hk2
  clear hk2 q0 q1 q2 q3 q4 q5 HC1 HM1
  go_wp2
  go_ret2
  exact ⟨rfl,HK2.out⟩
theorem packInst_all (cs:Array Value) (hcs:cs.size=14) (r:Int) (sa:Option Addr) (sn sc:Nat) (zs:List Int) (f p bu bl ro:Int) (body:List Int) (w:World) (hbl:body.length≤131072) (hb8:U8 body)
    (hJ:∀ W,Kept No w W→Calls Tryz.prog 84 #[.agg cs,cfgV (.slice sa sn sc) f p bu bl ro,FV 42,.int .i64 r] W fun e w'=>e=.returned (.int .i64 0)∧Kept No W w')
    (hP:∀ W g,Kept No w W→Ws W w.heap.size g none 0 (some [])→Calls Tryz.prog 43 #[.pointer (some ⟨g,0,none⟩),.agg cs] W (Puts W w.heap.size g none (some body))) :
    Calls Tryz.prog 41 #[.agg cs,cfgV (.slice sa sn sc) f p bu bl ro,FV 42,FV 43,.int .i64 r] w fun e w'=>∃ a' c',e=.returned (.tuple #[.slice a' (body.length+12) c',.int .i64 0])∧OwnS w' w.heap.size a' c' (sealOf body)∧Kept No w w':=by
  have HJ:Hid (∀ W,Kept No w W→Calls Tryz.prog 84 #[.agg cs,cfgV (.slice sa sn sc) f p bu bl ro,FV 42,.int .i64 r] W fun e w'=>e=.returned (.int .i64 0)∧Kept No W w'):=hJ
  have HP:Hid (∀ W g,Kept No w W→Ws W w.heap.size g none 0 (some [])→Calls Tryz.prog 43 #[.pointer (some ⟨g,0,none⟩),.agg cs] W (Puts W w.heap.size g none (some body))):=hP
  have HS:Hid (cs.size=14):=hcs
  have HB:Hid (body.length≤131072∧U8 body):=⟨hbl,hb8⟩
  clear hJ hcs hP hbl hb8
  have TB:Hid (1=1):=rfl
  obtain ⟨w0,hw0⟩:∃ w0,w0=w.alloc (.cells cs 47):=⟨_,rfl⟩
  have HK0:Hid (Kept No w w0):=by rw [hw0];exact (Kept.refl No w).alloc _
  have HM0:Hid (Box w0 w.heap.size 47 cs):=by rw [hw0];exact Box.new _ _ _
  go_enter Tryz.func41,Tryz.ntmps41
  go_upto_region 1 with (have hguard:=TB;clear hguard;refine wp_boxV rfl 47 _ rfl cs rfl w.heap.size rfl ?_;rw [← hw0];clear hw0 TB)
  obtain ⟨w1,hw1⟩:∃ w1,w1=w0.alloc (.cells #[.slice sa sn sc,.int .i64 f,.int .i64 p,.int .i64 bu,.int .i64 bl,.int .i64 ro] 24):=⟨_,rfl⟩
  rw [← hw1]
  have hk1:Kept No w0 w1:=by rw [hw1];exact (Kept.refl No w0).alloc _
  have HC1:Hid (Box w1 w0.heap.size 24 #[.slice sa sn sc,.int .i64 f,.int .i64 p,.int .i64 bu,.int .i64 bl,.int .i64 ro]):=by rw [hw1];exact Box.new _ _ _
  have HK1:Hid (Kept No w w1):=HK0.out.then hk1
  have HM1:Hid (Box w1 w.heap.size 47 cs):=HM0.out.kept hk1 (fun e=>e)
  clear hw1 hk1 HM0 HK0
  have q0:=HC1.out.cell 0
  have q1:=HC1.out.cell 1
  have q2:=HC1.out.cell 2
  have q3:=HC1.out.cell 3
  have q4:=HC1.out.cell 4
  have q5:=HC1.out.cell 5
  simp at q0 q1 q2 q3 q4 q5
  have TL:Hid (1=1):=rfl
  go_wp2_with (have hguard:=TL;clear hguard;refine wp_load47 rfl _ rfl w.heap.size cs rfl HS.out HM1.out ?_;clear TL)
  refine (HJ.out _ HK1.out).mono ?_
  rintro e w2 ⟨rfl,hk2⟩
  have HK2:Hid (Kept No w w2):=HK1.out.then hk2
  have HM2:Hid (Box w2 w.heap.size 47 cs):=HM1.out.kept hk2 (fun e=>e)
  clear hk2 q0 q1 q2 q3 q4 q5 HC1 HM1 HJ
  obtain ⟨w3,hw3⟩:∃ w3,w3=w2.alloc (.cells #[.slice none 0 0,.bool false] 128):=⟨_,rfl⟩
  have hk3:Kept No w2 w3:=by rw [hw3];exact (Kept.refl No w2).alloc _
  have hB3:Box w3 w2.heap.size 128 #[.slice none 0 0,.bool false]:=by rw [hw3];exact Box.new _ _ _
  have HK3:Hid (Kept No w w3):=HK2.out.then hk3
  have HM3:Hid (Box w3 w.heap.size 47 cs):=HM2.out.kept hk3 (fun e=>e)
  have HW3:Hid (Ws w3 w.heap.size w2.heap.size none 0 (some [])):=by
    show Wr _ _ _ _ _ _ _
    exact ⟨hB3,OwnS.nil _ _,HK2.out.size⟩
  have TL:Hid (1=1):=rfl
  clear hk3 hB3 HM2
  go_upto_region 5 with fail
  rw [← hw3]
  clear hw3
  go_wp2_with (have hguard:=TL;clear hguard;refine wp_load47 rfl _ rfl w.heap.size cs rfl HS.out HM3.out ?_;clear TL)
  refine (HP.out w3 _ HK3.out HW3.out).mono ?_
  rintro e w4 ⟨rfl,a4,c4,hw4,hk4,hm4⟩
  have HK4:Hid (Kept No w w4):=HK3.out.fresh hk4 (fun i hi=>HW3.out.base hi)
  have HD:Hid (Calls Tryz.prog 72 #[.pointer (some ⟨w2.heap.size,0,none⟩)] w4 fun e w'=>∃ a' n' c',e=.returned (.tuple #[.slice a' n' c',.int .i64 0])∧n'=body.length∧OwnS w' w4.heap.size a' c' body∧Kept No w4 w'):=
    Done_all w.heap.size w2.heap.size a4 c4 (some body) w4 hw4 (by have:=HB.out.1;show body.length≤_;omega)
  clear hw4 hk4 hm4 HW3 HM3 HP HK3 HK2
  go_wp2_with fail
  refine HD.out.mono ?_
  rintro e w5 ⟨a5,n5,c5,rfl,hn5,hO5,hk5⟩
  have HS5:Hid (Calls Tryz.prog 18 #[.slice a5 n5 c5] w5 fun e w'=>∃ a' c',e=.returned (.slice a' (n5+12) c')∧OwnS w' w5.heap.size a' c' (sealOf body)∧Kept No w5 w'):=
    seal_any a5 n5 c5 body w5 hn5.symm (by have:=HB.out.1;omega) hO5.bytes HB.out.2 hO5.nilcap
  have HK5:Hid (Kept No w w5):=HK4.out.then hk5
  have HN5:Hid (n5=body.length):=hn5
  clear hn5 hO5 hk5 HK4 HD
  go_wp2_with fail
  refine HS5.out.mono ?_
  rintro e w6 ⟨a6,c6,rfl,hO6,hk6⟩
  have HF:Hid (OwnS w6 w.heap.size a6 c6 (sealOf body)∧Kept No w w6):=⟨hO6.lower HK5.out.size,HK5.out.then hk6⟩
  clear hO6 hk6
  go_wp2
  go_ret2
  exact ⟨a6,c6,by rw [HN5.out];rfl,HF.out.1,HF.out.2⟩
set_option maxRecDepth 100000 in
set_option maxHeartbeats 2000000 in
theorem packBucket_no (cs:Array Value) (hcs:cs.size=3) (gv:Value) (r e0:Int) (he0:e0≠0) (sa:Option Addr) (sn sc:Nat) (zs:List Int) (f p bu bl ro:Int) (w:World)
    (hJ:∀ W,Kept No w W→Calls Tryz.prog 49 #[.agg cs,cfgV (.slice sa sn sc) f p bu bl ro,FV 47,.int .i64 r] W fun e w'=>e=.returned (.int .i64 e0)∧Kept No W w') :
    Calls Tryz.prog 46 #[.agg cs,cfgV (.slice sa sn sc) f p bu bl ro,FV 47,gv,.int .i64 r] w fun e w'=>e=.returned (.tuple #[.slice none 0 0,.int .i64 e0])∧Kept No w w':=by
  have HJ:Hid (∀ W,Kept No w W→Calls Tryz.prog 49 #[.agg cs,cfgV (.slice sa sn sc) f p bu bl ro,FV 47,.int .i64 r] W fun e w'=>e=.returned (.int .i64 e0)∧Kept No W w'):=hJ
  have HS:Hid (cs.size=3):=hcs
  clear hJ hcs
  have TB:Hid (1=1):=rfl
  obtain ⟨w0,hw0⟩:∃ w0,w0=w.alloc (.cells cs 54):=⟨_,rfl⟩
  have HK0:Hid (Kept No w w0):=by rw [hw0];exact (Kept.refl No w).alloc _
  have HM0:Hid (Box w0 w.heap.size 54 cs):=by rw [hw0];exact Box.new _ _ _
  go_enter Tryz.func46,Tryz.ntmps46
  go_upto_region 1 with (have hguard:=TB;clear hguard;refine wp_boxV rfl 54 _ rfl cs rfl w.heap.size rfl ?_;rw [← hw0];clear hw0 TB)
  obtain ⟨w1,hw1⟩:∃ w1,w1=w0.alloc (.cells #[.slice sa sn sc,.int .i64 f,.int .i64 p,.int .i64 bu,.int .i64 bl,.int .i64 ro] 24):=⟨_,rfl⟩
  rw [← hw1]
  have hk1:Kept No w0 w1:=by rw [hw1];exact (Kept.refl No w0).alloc _
  have HC1:Hid (Box w1 w0.heap.size 24 #[.slice sa sn sc,.int .i64 f,.int .i64 p,.int .i64 bu,.int .i64 bl,.int .i64 ro]):=by rw [hw1];exact Box.new _ _ _
  have HK1:Hid (Kept No w w1):=HK0.out.then hk1
  have HM1:Hid (Box w1 w.heap.size 54 cs):=HM0.out.kept hk1 (fun e=>e)
  clear hw1 hk1 HM0 HK0
  have q0:=HC1.out.cell 0
  have q1:=HC1.out.cell 1
  have q2:=HC1.out.cell 2
  have q3:=HC1.out.cell 3
  have q4:=HC1.out.cell 4
  have q5:=HC1.out.cell 5
  simp at q0 q1 q2 q3 q4 q5
  have TL:Hid (1=1):=rfl
  go_wp2_with (have hguard:=TL;clear hguard;refine wp_load54 rfl _ rfl w.heap.size cs rfl HS.out HM1.out ?_;clear TL)
  refine (HJ.out _ HK1.out).mono ?_
  rintro e w2 ⟨rfl,hk2⟩
  have HK2:Hid (Kept No w w2):=HK1.out.then hk2
  clear hk2 q0 q1 q2 q3 q4 q5 HC1 HM1
  go_wp2
  go_ret2
  exact ⟨rfl,HK2.out⟩
theorem packBucket_all (cs:Array Value) (hcs:cs.size=3) (r:Int) (sa:Option Addr) (sn sc:Nat) (zs:List Int) (f p bu bl ro:Int) (body:List Int) (w:World) (hbl:body.length≤131072) (hb8:U8 body)
    (hJ:∀ W,Kept No w W→Calls Tryz.prog 49 #[.agg cs,cfgV (.slice sa sn sc) f p bu bl ro,FV 47,.int .i64 r] W fun e w'=>e=.returned (.int .i64 0)∧Kept No W w')
    (hP:∀ W g,Kept No w W→Ws W w.heap.size g none 0 (some [])→Calls Tryz.prog 48 #[.pointer (some ⟨g,0,none⟩),.agg cs] W (Puts W w.heap.size g none (some body))) :
    Calls Tryz.prog 46 #[.agg cs,cfgV (.slice sa sn sc) f p bu bl ro,FV 47,FV 48,.int .i64 r] w fun e w'=>∃ a' c',e=.returned (.tuple #[.slice a' (body.length+12) c',.int .i64 0])∧OwnS w' w.heap.size a' c' (sealOf body)∧Kept No w w':=by
  have HJ:Hid (∀ W,Kept No w W→Calls Tryz.prog 49 #[.agg cs,cfgV (.slice sa sn sc) f p bu bl ro,FV 47,.int .i64 r] W fun e w'=>e=.returned (.int .i64 0)∧Kept No W w'):=hJ
  have HP:Hid (∀ W g,Kept No w W→Ws W w.heap.size g none 0 (some [])→Calls Tryz.prog 48 #[.pointer (some ⟨g,0,none⟩),.agg cs] W (Puts W w.heap.size g none (some body))):=hP
  have HS:Hid (cs.size=3):=hcs
  have HB:Hid (body.length≤131072∧U8 body):=⟨hbl,hb8⟩
  clear hJ hcs hP hbl hb8
  have TB:Hid (1=1):=rfl
  obtain ⟨w0,hw0⟩:∃ w0,w0=w.alloc (.cells cs 54):=⟨_,rfl⟩
  have HK0:Hid (Kept No w w0):=by rw [hw0];exact (Kept.refl No w).alloc _
  have HM0:Hid (Box w0 w.heap.size 54 cs):=by rw [hw0];exact Box.new _ _ _
  go_enter Tryz.func46,Tryz.ntmps46
  go_upto_region 1 with (have hguard:=TB;clear hguard;refine wp_boxV rfl 54 _ rfl cs rfl w.heap.size rfl ?_;rw [← hw0];clear hw0 TB)
  obtain ⟨w1,hw1⟩:∃ w1,w1=w0.alloc (.cells #[.slice sa sn sc,.int .i64 f,.int .i64 p,.int .i64 bu,.int .i64 bl,.int .i64 ro] 24):=⟨_,rfl⟩
  rw [← hw1]
  have hk1:Kept No w0 w1:=by rw [hw1];exact (Kept.refl No w0).alloc _
  have HC1:Hid (Box w1 w0.heap.size 24 #[.slice sa sn sc,.int .i64 f,.int .i64 p,.int .i64 bu,.int .i64 bl,.int .i64 ro]):=by rw [hw1];exact Box.new _ _ _
  have HK1:Hid (Kept No w w1):=HK0.out.then hk1
  have HM1:Hid (Box w1 w.heap.size 54 cs):=HM0.out.kept hk1 (fun e=>e)
  clear hw1 hk1 HM0 HK0
  have q0:=HC1.out.cell 0
  have q1:=HC1.out.cell 1
  have q2:=HC1.out.cell 2
  have q3:=HC1.out.cell 3
  have q4:=HC1.out.cell 4
  have q5:=HC1.out.cell 5
  simp at q0 q1 q2 q3 q4 q5
  have TL:Hid (1=1):=rfl
  go_wp2_with (have hguard:=TL;clear hguard;refine wp_load54 rfl _ rfl w.heap.size cs rfl HS.out HM1.out ?_;clear TL)
  refine (HJ.out _ HK1.out).mono ?_
  rintro e w2 ⟨rfl,hk2⟩
  have HK2:Hid (Kept No w w2):=HK1.out.then hk2
  have HM2:Hid (Box w2 w.heap.size 54 cs):=HM1.out.kept hk2 (fun e=>e)
  clear hk2 q0 q1 q2 q3 q4 q5 HC1 HM1 HJ
  obtain ⟨w3,hw3⟩:∃ w3,w3=w2.alloc (.cells #[.slice none 0 0,.bool false] 128):=⟨_,rfl⟩
  have hk3:Kept No w2 w3:=by rw [hw3];exact (Kept.refl No w2).alloc _
  have hB3:Box w3 w2.heap.size 128 #[.slice none 0 0,.bool false]:=by rw [hw3];exact Box.new _ _ _
  have HK3:Hid (Kept No w w3):=HK2.out.then hk3
  have HM3:Hid (Box w3 w.heap.size 54 cs):=HM2.out.kept hk3 (fun e=>e)
  have HW3:Hid (Ws w3 w.heap.size w2.heap.size none 0 (some [])):=by
    show Wr _ _ _ _ _ _ _
    exact ⟨hB3,OwnS.nil _ _,HK2.out.size⟩
  have TL:Hid (1=1):=rfl
  clear hk3 hB3 HM2
  go_upto_region 5 with fail
  rw [← hw3]
  clear hw3
  go_wp2_with (have hguard:=TL;clear hguard;refine wp_load54 rfl _ rfl w.heap.size cs rfl HS.out HM3.out ?_;clear TL)
  refine (HP.out w3 _ HK3.out HW3.out).mono ?_
  rintro e w4 ⟨rfl,a4,c4,hw4,hk4,hm4⟩
  have HK4:Hid (Kept No w w4):=HK3.out.fresh hk4 (fun i hi=>HW3.out.base hi)
  have HD:Hid (Calls Tryz.prog 72 #[.pointer (some ⟨w2.heap.size,0,none⟩)] w4 fun e w'=>∃ a' n' c',e=.returned (.tuple #[.slice a' n' c',.int .i64 0])∧n'=body.length∧OwnS w' w4.heap.size a' c' body∧Kept No w4 w'):=
    Done_all w.heap.size w2.heap.size a4 c4 (some body) w4 hw4 (by have:=HB.out.1;show body.length≤_;omega)
  clear hw4 hk4 hm4 HW3 HM3 HP HK3 HK2
  go_wp2_with fail
  refine HD.out.mono ?_
  rintro e w5 ⟨a5,n5,c5,rfl,hn5,hO5,hk5⟩
  have HS5:Hid (Calls Tryz.prog 18 #[.slice a5 n5 c5] w5 fun e w'=>∃ a' c',e=.returned (.slice a' (n5+12) c')∧OwnS w' w5.heap.size a' c' (sealOf body)∧Kept No w5 w'):=
    seal_any a5 n5 c5 body w5 hn5.symm (by have:=HB.out.1;omega) hO5.bytes HB.out.2 hO5.nilcap
  have HK5:Hid (Kept No w w5):=HK4.out.then hk5
  have HN5:Hid (n5=body.length):=hn5
  clear hn5 hO5 hk5 HK4 HD
  go_wp2_with fail
  refine HS5.out.mono ?_
  rintro e w6 ⟨a6,c6,rfl,hO6,hk6⟩
  have HF:Hid (OwnS w6 w.heap.size a6 c6 (sealOf body)∧Kept No w w6):=⟨hO6.lower HK5.out.size,HK5.out.then hk6⟩
  clear hO6 hk6
  go_wp2
  go_ret2
  exact ⟨a6,c6,by rw [HN5.out];rfl,HF.out.1,HF.out.2⟩
end Go.Proofs.YtgdnofacgfjaeabGreat.Wi
