import Derived.Test.YtgdnofacgfjaeaaGreatWiCf
import Derived.Test.YtgdnofacgfjaeaaGreatHf
import Derived.Deep.RegionHeld3
import Derived.Deep.Cut
namespace Go.Proofs.YtgdnofacgfjaeaaGreat.Wi
open Go.RowKit
set_option linter.unusedVariables false
inductive RS where
  | ok (zs:List Int) (at_:Nat)
  | bad (p:Nat) (c:Int)
def Rs (w:World) (g lb:Nat):RS→Prop
  | .ok zs at_=>∃ la lc,Rd w g la lc zs at_∧∀ k,At la k→k=lb
  | .bad p c=>RdF w g p c∧c≠0
theorem Rs.lt {w:World} {g lb:Nat} {st:RS} (h:Rs w g lb st):g < w.heap.size:=by
  cases st with
  | ok zs at_=>obtain ⟨la,lc,hr,_⟩:=h;exact hr.lt
  | bad p c=>exact (Array.getElem?_eq_some_iff.1 h.1).1
theorem Rs.kept {S:Nat→Prop} {w w':World} {g lb:Nat} {st:RS} (h:Rs w g lb st) (hk:Kept S w w') (hg:¬ S g) (hl:¬ S lb):Rs w' g lb st:=by
  cases st with
  | ok zs at_=>obtain ⟨la,lc,hr,hb⟩:=h;exact ⟨la,lc,hr.kept hk hg (fun _ k hk e=>by rw [hb k hk] at e;exact hl e),hb⟩
  | bad p c=>exact ⟨(hk.block g (Array.getElem?_eq_some_iff.1 h.1).1 hg).trans h.1,h.2⟩
theorem Rs.no {w w':World} {g lb:Nat} {st:RS} (h:Rs w g lb st) (hk:Kept No w w'):Rs w' g lb st:=h.kept hk (fun e=>e) (fun e=>e)
def numS:RS→RS × Int
  | .ok zs at_=>match nr zs with
    | .error c=>(.bad at_ c,0)
    | .ok (u,k)=>(.ok (zs.drop k) (at_+k),(u:Int))
  | .bad p c=>(.bad p c,0)
def bytesS:RS→RS × List Int
  | .ok zs at_=>match cr zs with
    | .error c=>(.bad at_ c,[])
    | .ok (n,k)=>(.ok (zs.drop (k+n)) (at_+(k+n)),(zs.drop k).take n)
  | .bad p c=>(.bad p c,[])
def endS:RS→RS
  | .ok zs at_=>if zs=[] then .ok zs at_ else .bad at_ 11
  | .bad p c=>.bad p c
def moreS:RS→Bool
  | .ok zs _=>decide (0 < zs.length)
  | .bad _ _=>false
def errS:RS→Int × Int
  | .ok _ _=>(0,0)
  | .bad p c=>(p,c)
theorem vr_code {zs:List Int} {c:Int} (h:vr zs=.error c):c=10∨c=11:=by
  suffices H:∀ f i,vrGo zs i f=.error c→c=10∨c=11 from H 10 0 h
  intro f
  induction f with
  | zero=>intro i h;simp [vrGo] at h;omega
  | succ f ih=>
    intro i h
    rw [vrGo] at h
    split at h
    · simp at h;omega
    · split at h
      · split at h
        · simp at h;omega
        · cases h
      · exact ih (i+1) h
theorem nr_code {zs:List Int} {c:Int} (h:nr zs=.error c):c=10∨c=11:=by
  unfold nr at h
  split at h
  · rename_i c' hv;simp at h;subst h;exact vr_code hv
  · split at h
    · simp at h;omega
    · cases h
theorem cr_code {zs:List Int} {c:Int} (h:cr zs=.error c):c=10∨c=11:=by
  unfold cr at h
  split at h
  · rename_i c' hv;simp at h;subst h;exact nr_code hv
  · split at h
    · simp at h;omega
    · cases h
theorem heap_new (w:World) (o:Obj):(w.alloc o).heap[w.heap.size]?=some o:=by
  show (w.heap.push o)[w.heap.size]?=some o
  simp
theorem heap_new1 (w:World) (o o':Obj):((w.alloc o).alloc o').heap[w.heap.size+1]?=some o':=by
  have:=heap_new (w.alloc o) o'
  rwa [World.heap_size_alloc1] at this
set_option maxRecDepth 1000000 in
set_option maxHeartbeats 2000000 in
theorem Num_all (g lb:Nat) (st:RS) (w:World) (h:Rs w g lb st) :
    Calls Tryz.prog 160 #[.pointer (some ⟨g,0,none⟩)] w fun e w'=>e=.returned (.int .i64 (numS st).2)∧Rs w' g lb (numS st).1∧Kept (Only g) w w':=by
  have hmf:∀ (fn:Fn) (first cap:Array Value) (w:World),(Instr.makeFunc fn first cap).run Tryz.prog w=.ok (.func fn first cap) w:=fun _ _ _ _=>rfl
  have hglt:=h.lt
  have HK0:Hid (Kept No w ((w.alloc (Obj.cells #[.pointer (some ⟨g,0,none⟩)] 203)).alloc (Obj.cells #[.int .i64 0] 3))):=((Kept.refl _ _).alloc _).alloc _
  have HN0:Hid (((w.alloc (Obj.cells #[.pointer (some ⟨g,0,none⟩)] 203)).alloc (Obj.cells #[.int .i64 0] 3)).heap[w.heap.size+1]?=some (.cells #[.int .i64 0] 3 (0,0))):=heap_new1 _ _ _
  have HA0:Hid (((w.alloc (Obj.cells #[.pointer (some ⟨g,0,none⟩)] 203)).alloc (Obj.cells #[.int .i64 0] 3)).cell? ⟨w.heap.size,0,none⟩=some (.pointer (some ⟨g,0,none⟩))):=by simp [Hid]
  cases st with
  | bad p c=>
    have HF:Hid (RdF w g p c):=h.1
    have HC:Hid (c≠0):=h.2
    clear h
    go_enter Tryz.func160,Tryz.ntmps160
    go_wp2_with fail
    refine (catch_bad _ g p c _ ((HK0.out.block g hglt (fun e=>e)).trans HF.out) HC.out).mono ?_
    rintro e w1 ⟨rfl,hk⟩
    have cN:w1.cell? ⟨w.heap.size+1,0,none⟩=some (.int .i64 0):=hk.cell (by simp) (fun e=>e)
    have HK1:Hid (Kept No w w1):=HK0.out.then hk
    clear hk
    go_wp2
    go_ret
    exact ⟨rfl,⟨(HK1.out.block g hglt (fun e=>e)).trans HF.out,HC.out⟩,HK1.out.of_no⟩
  | ok zs at_=>
    obtain ⟨la,lc,hr,hb⟩:=h
    have HR:Hid (Rd w g la lc zs at_):=hr
    have HB:Hid (∀ k,At la k→k=lb):=hb
    clear hr hb
    go_enter Tryz.func160,Tryz.ntmps160
    go_wp2_with fail
    refine (catch_any 203 _ (run53 _) g la lc zs at_ (fun W w'=>∃ u k,nr zs=.ok (u,k)∧Laid g (w.heap.size+1) 3 la zs at_ k (.int .i64 (u:Int)) W w') (fun c=>nr zs=.error c) _ (HR.out.no HK0.out) (fun W hk=>num1_any w.heap.size (w.heap.size+1) g la lc zs at_ W ((HR.out.no HK0.out).no hk) (hk.cell HA0.out (fun e=>e)) ((hk.block _ (Array.getElem?_eq_some_iff.1 HN0.out).1 (fun e=>e)).trans HN0.out) (by omega))).mono ?_
    rintro e w1 ⟨rfl,hcase⟩
    rcases hcase with ⟨W,hW,hok⟩ | ⟨c,hbad,hF,hk⟩
    · obtain ⟨u,k,hv,hlaid⟩:=hok
      have cN:w1.cell? ⟨w.heap.size+1,0,none⟩=some (.int .i64 (u:Int)):=by rw [cell_of_row w1 (w.heap.size+1) 0 _ 3 (0,0) hlaid.1];rfl
      have HK1:Hid (Kept (Only g) w w1):=(HK0.out.then hW).of_no.trans hlaid.2.2 (fun _ e=>e) (fun i hi e=>by
        rcases e with e | e
        · exact e
        · omega)
      have HP:Hid (Rs w1 g lb (numS (.ok zs at_)).1∧(numS (.ok zs at_)).2=(u:Int)):=by
        obtain ⟨b',off',lc',ha,hr⟩:=hlaid.2.1
        have e:numS (.ok zs at_)=(.ok (zs.drop k) (at_+k),(u:Int)):=by simp only[numS,hv]
        rw [e]
        exact ⟨⟨_,_,hr,fun i hi=>by obtain ⟨ad,e1,rfl⟩:=hi;cases e1;exact HB.out _ ha⟩,rfl⟩
      clear hW hlaid hv
      go_wp2
      go_ret
      exact ⟨ret_int HP.out.2.symm,HP.out.1,HK1.out⟩
    · have cN:w1.cell? ⟨w.heap.size+1,0,none⟩=some (.int .i64 0):=hk.cell (by simp) (fun e=>by have e':w.heap.size+1=g:=e;omega)
      have HK1:Hid (Kept (Only g) w w1):=HK0.out.of_no.then hk
      have HP:Hid (Rs w1 g lb (numS (.ok zs at_)).1∧numS (.ok zs at_)=(.bad at_ c,0)):=by
        have e:numS (.ok zs at_)=(.bad at_ c,0):=by simp only[numS,hbad]
        rw [e]
        exact ⟨⟨hF,by have:=nr_code hbad;omega⟩,rfl⟩
      clear hbad hF hk
      go_wp2
      go_ret
      exact ⟨ret_int (by rw [HP.out.2]),HP.out.1,HK1.out⟩
set_option maxRecDepth 1000000 in
set_option maxHeartbeats 2000000 in
theorem Text_all (g lb:Nat) (st:RS) (w:World) (h:Rs w g lb st) :
    Calls Tryz.prog 194 #[.pointer (some ⟨g,0,none⟩)] w fun e w'=>e=.returned (.string (strOf (bytesS st).2))∧Rs w' g lb (bytesS st).1∧Kept (Only g) w w':=by
  have hmf:∀ (fn:Fn) (first cap:Array Value) (w:World),(Instr.makeFunc fn first cap).run Tryz.prog w=.ok (.func fn first cap) w:=fun _ _ _ _=>rfl
  have hglt:=h.lt
  have HK0:Hid (Kept No w ((w.alloc (Obj.cells #[.pointer (some ⟨g,0,none⟩)] 203)).alloc (Obj.cells #[.string ByteArray.empty] 9))):=((Kept.refl _ _).alloc _).alloc _
  have HN0:Hid (((w.alloc (Obj.cells #[.pointer (some ⟨g,0,none⟩)] 203)).alloc (Obj.cells #[.string ByteArray.empty] 9)).heap[w.heap.size+1]?=some (.cells #[.string ByteArray.empty] 9 (0,0))):=heap_new1 _ _ _
  have HA0:Hid (((w.alloc (Obj.cells #[.pointer (some ⟨g,0,none⟩)] 203)).alloc (Obj.cells #[.string ByteArray.empty] 9)).cell? ⟨w.heap.size,0,none⟩=some (.pointer (some ⟨g,0,none⟩))):=by simp [Hid]
  cases st with
  | bad p c=>
    have HF:Hid (RdF w g p c):=h.1
    have HC:Hid (c≠0):=h.2
    clear h
    go_enter Tryz.func194,Tryz.ntmps194
    go_wp2_with fail
    refine (catch_bad _ g p c _ ((HK0.out.block g hglt (fun e=>e)).trans HF.out) HC.out).mono ?_
    rintro e w1 ⟨rfl,hk⟩
    have cN:w1.cell? ⟨w.heap.size+1,0,none⟩=some (.string ByteArray.empty):=hk.cell (by simp) (fun e=>e)
    have HK1:Hid (Kept No w w1):=HK0.out.then hk
    clear hk
    go_wp2
    go_ret
    exact ⟨rfl,⟨(HK1.out.block g hglt (fun e=>e)).trans HF.out,HC.out⟩,HK1.out.of_no⟩
  | ok zs at_=>
    obtain ⟨la,lc,hr,hb⟩:=h
    have HR:Hid (Rd w g la lc zs at_):=hr
    have HB:Hid (∀ k,At la k→k=lb):=hb
    clear hr hb
    go_enter Tryz.func194,Tryz.ntmps194
    go_wp2_with fail
    refine (catch_any 223 _ (run62 _) g la lc zs at_ (fun W w'=>∃ n k,cr zs=.ok (n,k)∧Laid g (w.heap.size+1) 9 la zs at_ (k+n) (.string (strOf ((zs.drop k).take n))) W w') (fun c=>cr zs=.error c) _ (HR.out.no HK0.out) (fun W hk=>text1_any w.heap.size (w.heap.size+1) g la lc zs at_ W ((HR.out.no HK0.out).no hk) (hk.cell HA0.out (fun e=>e)) ((hk.block _ (Array.getElem?_eq_some_iff.1 HN0.out).1 (fun e=>e)).trans HN0.out) (by omega))).mono ?_
    rintro e w1 ⟨rfl,hcase⟩
    rcases hcase with ⟨W,hW,hok⟩ | ⟨c,hbad,hF,hk⟩
    · obtain ⟨n,k,hv,hlaid⟩:=hok
      have cN:w1.cell? ⟨w.heap.size+1,0,none⟩=some (.string (strOf ((zs.drop k).take n))):=by rw [cell_of_row w1 (w.heap.size+1) 0 _ 9 (0,0) hlaid.1];rfl
      have HK1:Hid (Kept (Only g) w w1):=(HK0.out.then hW).of_no.trans hlaid.2.2 (fun _ e=>e) (fun i hi e=>by
        rcases e with e | e
        · exact e
        · omega)
      have HP:Hid (Rs w1 g lb (bytesS (.ok zs at_)).1∧(bytesS (.ok zs at_)).2=(zs.drop k).take n):=by
        obtain ⟨b',off',lc',ha,hr⟩:=hlaid.2.1
        have e:bytesS (.ok zs at_)=(.ok (zs.drop (k+n)) (at_+(k+n)),(zs.drop k).take n):=by simp only[bytesS,hv]
        rw [e]
        exact ⟨⟨_,_,hr,fun i hi=>by obtain ⟨ad,e1,rfl⟩:=hi;cases e1;exact HB.out _ ha⟩,rfl⟩
      clear hW hlaid hv
      generalize (zs.drop k).take n=L at cN HP
      go_wp2
      go_ret
      exact ⟨by rw [HP.out.2];rfl,HP.out.1,HK1.out⟩
    · have cN:w1.cell? ⟨w.heap.size+1,0,none⟩=some (.string ByteArray.empty):=hk.cell (by simp) (fun e=>by have e':w.heap.size+1=g:=e;omega)
      have HK1:Hid (Kept (Only g) w w1):=HK0.out.of_no.then hk
      have HP:Hid (Rs w1 g lb (bytesS (.ok zs at_)).1∧bytesS (.ok zs at_)=(.bad at_ c,[])):=by
        have e:bytesS (.ok zs at_)=(.bad at_ c,[]):=by simp only[bytesS,hbad]
        rw [e]
        exact ⟨⟨hF,by have:=cr_code hbad;omega⟩,rfl⟩
      clear hbad hF hk
      go_wp2
      go_ret
      exact ⟨by rw [HP.out.2];rfl,HP.out.1,HK1.out⟩
set_option maxRecDepth 1000000 in
set_option maxHeartbeats 2000000 in
theorem Bytes_all (g lb:Nat) (st:RS) (w:World) (h:Rs w g lb st) :
    Calls Tryz.prog 188 #[.pointer (some ⟨g,0,none⟩)] w fun e w'=>∃ a' n' c',e=.returned (.slice a' n' c')∧n'=(bytesS st).2.length∧OwnS w' w.heap.size a' c' (bytesS st).2∧Rs w' g lb (bytesS st).1∧Kept (Only g) w w':=by
  have hmf:∀ (fn:Fn) (first cap:Array Value) (w:World),(Instr.makeFunc fn first cap).run Tryz.prog w=.ok (.func fn first cap) w:=fun _ _ _ _=>rfl
  have hglt:=h.lt
  have HK0:Hid (Kept No w ((w.alloc (Obj.cells #[.pointer (some ⟨g,0,none⟩)] 203)).alloc (Obj.cells #[.slice none 0 0] 35))):=((Kept.refl _ _).alloc _).alloc _
  have HN0:Hid (((w.alloc (Obj.cells #[.pointer (some ⟨g,0,none⟩)] 203)).alloc (Obj.cells #[.slice none 0 0] 35)).heap[w.heap.size+1]?=some (.cells #[.slice none 0 0] 35 (0,0))):=heap_new1 _ _ _
  have HA0:Hid (((w.alloc (Obj.cells #[.pointer (some ⟨g,0,none⟩)] 203)).alloc (Obj.cells #[.slice none 0 0] 35)).cell? ⟨w.heap.size,0,none⟩=some (.pointer (some ⟨g,0,none⟩))):=by simp [Hid]
  cases st with
  | bad p c=>
    have HF:Hid (RdF w g p c):=h.1
    have HC:Hid (c≠0):=h.2
    clear h
    go_enter Tryz.func188,Tryz.ntmps188
    go_wp2_with fail
    refine (catch_bad _ g p c _ ((HK0.out.block g hglt (fun e=>e)).trans HF.out) HC.out).mono ?_
    rintro e w1 ⟨rfl,hk⟩
    have cN:w1.cell? ⟨w.heap.size+1,0,none⟩=some (.slice none 0 0):=hk.cell (by simp) (fun e=>e)
    have HK1:Hid (Kept No w w1):=HK0.out.then hk
    clear hk
    go_wp2
    go_ret
    exact ⟨none,0,0,rfl,rfl,OwnS.nil _ _,⟨(HK1.out.block g hglt (fun e=>e)).trans HF.out,HC.out⟩,HK1.out.of_no⟩
  | ok zs at_=>
    obtain ⟨la,lc,hr,hb⟩:=h
    have HR:Hid (Rd w g la lc zs at_):=hr
    have HB:Hid (∀ k,At la k→k=lb):=hb
    clear hr hb
    go_enter Tryz.func188,Tryz.ntmps188
    go_wp2_with fail
    refine (catch_any 219 _ (run60 _) g la lc zs at_ (fun W w'=>∃ n k,cr zs=.ok (n,k)∧∃ a' c',Laid g (w.heap.size+1) 35 la zs at_ (k+n) (.slice a' n c') W w'∧OwnS w' W.heap.size a' c' ((zs.drop k).take n)) (fun c=>cr zs=.error c) _ (HR.out.no HK0.out) (fun W hk=>bytes1_any w.heap.size (w.heap.size+1) g la lc zs at_ W ((HR.out.no HK0.out).no hk) (hk.cell HA0.out (fun e=>e)) ((hk.block _ (Array.getElem?_eq_some_iff.1 HN0.out).1 (fun e=>e)).trans HN0.out) (by omega))).mono ?_
    rintro e w1 ⟨rfl,hcase⟩
    rcases hcase with ⟨W,hW,hok⟩ | ⟨c,hbad,hF,hk⟩
    · obtain ⟨n,k,hv,a2,c2,hlaid,hO⟩:=hok
      have cN:w1.cell? ⟨w.heap.size+1,0,none⟩=some (.slice a2 n c2):=by rw [cell_of_row w1 (w.heap.size+1) 0 _ 35 (0,0) hlaid.1];rfl
      have HK1:Hid (Kept (Only g) w w1):=(HK0.out.then hW).of_no.trans hlaid.2.2 (fun _ e=>e) (fun i hi e=>by
        rcases e with e | e
        · exact e
        · omega)
      have HP:Hid (Rs w1 g lb (bytesS (.ok zs at_)).1∧n=(bytesS (.ok zs at_)).2.length∧OwnS w1 w.heap.size a2 c2 (bytesS (.ok zs at_)).2):=by
        obtain ⟨b',off',lc',ha,hr⟩:=hlaid.2.1
        have e:bytesS (.ok zs at_)=(.ok (zs.drop (k+n)) (at_+(k+n)),(zs.drop k).take n):=by simp only[bytesS,hv]
        rw [e]
        refine ⟨⟨_,_,hr,fun i hi=>by obtain ⟨ad,e1,rfl⟩:=hi;cases e1;exact HB.out _ ha⟩,?_,hO.lower (HK0.out.then hW).size⟩
        have:=(cr_bd hv).2.2.1
        simp only[List.length_take,List.length_drop];omega
      clear hW hlaid hv hO
      go_wp2
      go_ret
      exact ⟨a2,n,c2,rfl,HP.out.2.1,HP.out.2.2,HP.out.1,HK1.out⟩
    · have cN:w1.cell? ⟨w.heap.size+1,0,none⟩=some (.slice none 0 0):=hk.cell (by simp) (fun e=>by have e':w.heap.size+1=g:=e;omega)
      have HK1:Hid (Kept (Only g) w w1):=HK0.out.of_no.then hk
      have HP:Hid (Rs w1 g lb (bytesS (.ok zs at_)).1∧bytesS (.ok zs at_)=(.bad at_ c,[])):=by
        have e:bytesS (.ok zs at_)=(.bad at_ c,[]):=by simp only[bytesS,hbad]
        rw [e]
        exact ⟨⟨hF,by have:=cr_code hbad;omega⟩,rfl⟩
      clear hbad hF hk
      go_wp2
      go_ret
      exact ⟨none,0,0,rfl,by rw [HP.out.2];rfl,by rw [HP.out.2];exact OwnS.nil _ _,HP.out.1,HK1.out⟩
theorem Err_all (g lb:Nat) (st:RS) (w:World) (h:Rs w g lb st) :
    Calls Tryz.prog 201 #[.pointer (some ⟨g,0,none⟩)] w fun e w'=>e=.returned (.tuple #[.int .i64 (errS st).1,.int .i64 (errS st).2])∧∃ n,w'=w.drewN n:=by
  cases st with
  | ok zs at_=>obtain ⟨la,lc,hr,_⟩:=h;exact Err_any g _ _ 0 0 w hr.cell
  | bad p c=>exact Err_any g _ _ p c w h.1
set_option maxRecDepth 1000000 in
set_option maxHeartbeats 2000000 in
theorem End_all (g lb:Nat) (st:RS) (w:World) (h:Rs w g lb st) :
    Calls Tryz.prog 200 #[.pointer (some ⟨g,0,none⟩)] w fun e w'=>e=.returned (.tuple #[])∧Rs w' g lb (endS st)∧Kept (Only g) w w':=by
  have hmf:∀ (fn:Fn) (first cap:Array Value) (w:World),(Instr.makeFunc fn first cap).run Tryz.prog w=.ok (.func fn first cap) w:=fun _ _ _ _=>rfl
  have hglt:=h.lt
  have HK0:Hid (Kept No w (w.alloc (Obj.cells #[.pointer (some ⟨g,0,none⟩)] 203))):=(Kept.refl _ _).alloc _
  have HA0:Hid ((w.alloc (Obj.cells #[.pointer (some ⟨g,0,none⟩)] 203)).cell? ⟨w.heap.size,0,none⟩=some (.pointer (some ⟨g,0,none⟩))):=by simp [Hid]
  cases st with
  | bad p c=>
    have HF:Hid (RdF w g p c):=h.1
    have HC:Hid (c≠0):=h.2
    clear h
    go_enter Tryz.func200,Tryz.ntmps200
    go_wp2_with fail
    refine (catch_bad _ g p c _ ((HK0.out.block g hglt (fun e=>e)).trans HF.out) HC.out).mono ?_
    rintro e w1 ⟨rfl,hk⟩
    have HK1:Hid (Kept No w w1):=HK0.out.then hk
    clear hk
    go_wp2
    go_end0
    exact ⟨rfl,⟨(HK1.out.block g hglt (fun e=>e)).trans HF.out,HC.out⟩,HK1.out.of_no⟩
  | ok zs at_=>
    obtain ⟨la,lc,hr,hb⟩:=h
    have HR:Hid (Rd w g la lc zs at_):=hr
    have HB:Hid (∀ k,At la k→k=lb):=hb
    clear hr hb
    go_enter Tryz.func200,Tryz.ntmps200
    go_wp2_with fail
    refine (catch_any 224 _ (run48 _) g la lc zs at_ (fun W w'=>zs=[]∧w'=W) (fun c=>c=11∧zs≠[]) _ (HR.out.no HK0.out) (fun W hk=>end1_any w.heap.size g la lc zs at_ W ((HR.out.no HK0.out).no hk) (hk.cell HA0.out (fun e=>e)))).mono ?_
    rintro e w1 ⟨rfl,hcase⟩
    rcases hcase with ⟨W,hW,h0,rfl⟩ | ⟨c,⟨rfl,hne⟩,hF,hk⟩
    · have HP:Hid (Rs w1 g lb (endS (.ok zs at_))∧Kept (Only g) w w1):=by
        have e:endS (.ok zs at_)=.ok zs at_:=by simp only[endS,h0,if_true]
        rw [e]
        exact ⟨⟨la,lc,(HR.out.no HK0.out).no hW,HB.out⟩,(HK0.out.then hW).of_no⟩
      clear hW h0
      go_wp2
      go_end0
      exact ⟨rfl,HP.out⟩
    · have HP:Hid (Rs w1 g lb (endS (.ok zs at_))∧Kept (Only g) w w1):=by
        have e:endS (.ok zs at_)=.bad at_ 11:=by simp only[endS,hne,if_false]
        rw [e]
        exact ⟨⟨hF,by omega⟩,HK0.out.of_no.then hk⟩
      clear hF hk hne
      go_wp2
      go_end0
      exact ⟨rfl,HP.out⟩
set_option maxRecDepth 1000000 in
set_option maxHeartbeats 1000000 in
theorem Read_any (xa:Option Addr) (xn xc:Nat) (ys:List Int) (w:World) (h:Sl w xa xn xc ys) :
    Calls Tryz.prog 158 #[.slice xa xn xc] w fun e w'=>∃ g lb,e=.returned (.pointer (some ⟨g,0,none⟩))∧w.heap.size≤g∧w.heap.size≤lb∧Rs w' g lb (.ok ys 0)∧Kept No w w'∧g < w'.heap.size∧(lb < w'.heap.size):=by
  have HS:Hid (Sl w xa xn xc ys):=h
  have hbd:=h.bd
  clear h
  go_enter Tryz.func158,Tryz.ntmps158
  go_wp2_with fail
  refine (clone_any xa xn xc ys w HS.out.len HS.out.bytes (fun e=>⟨?_,HS.out.nil e⟩) (by omega)).mono ?_
  · have h1:=HS.out.nil e;have h2:=HS.out.le;omega
  rintro e w1 ⟨a1,c1,rfl,hO1,hK1,-⟩
  have HF:Hid (∃ lb,w.heap.size≤lb∧lb < (w1.alloc (Obj.cells #[.slice a1 xn c1,.int .i64 0,.int .i64 0,.int .i64 0] 231)).heap.size∧Rs (w1.alloc (Obj.cells #[.slice a1 xn c1,.int .i64 0,.int .i64 0,.int .i64 0] 231)) w1.heap.size lb (.ok ys 0)):=by
    have hs:Sl w1 a1 ys.length c1 ys:=hO1.sl rfl HS.out.u8 (by rw [HS.out.len];exact hbd)
    have hs':=hs.no ((Kept.refl No w1).alloc (Obj.cells #[.slice a1 xn c1,.int .i64 0,.int .i64 0,.int .i64 0] 231))
    have hR:Rd (w1.alloc (Obj.cells #[.slice a1 xn c1,.int .i64 0,.int .i64 0,.int .i64 0] 231)) w1.heap.size a1 c1 ys 0:=
      ⟨by rw [HS.out.len];exact heap_new _ _,hs',by rw [HS.out.len];omega⟩
    have hz:=hK1.size
    rcases hO1.cases with ⟨rfl,_,_⟩ | ⟨g,rfl,hb,hl,_⟩
    · exact ⟨w1.heap.size,by omega,by rw [World.heap_size_alloc1];omega,none,c1,hR,fun k hk=>absurd hk At.none⟩
    · exact ⟨g,hb,by rw [World.heap_size_alloc1];omega,_,c1,hR,fun k hk=>at_some hk⟩
  have HK:Hid (Kept No w w1):=hK1
  clear hO1 hK1
  go_wp2
  go_ret
  obtain ⟨lb,h1,h2,h3⟩:=HF.out
  exact ⟨w1.heap.size,lb,rfl,HK.out.size,h1,h3,HK.out.alloc _,by rw [World.heap_size_alloc1];omega,h2⟩
set_option maxRecDepth 100000 in
set_option maxHeartbeats 2000000 in
theorem packMsg_no (cs:Array Value) (hcs:cs.size=30) (gv:Value) (r e0:Int) (he0:e0≠0) (sa:Option Addr) (sn sc:Nat) (zs:List Int) (f p bu bl ro:Int) (w:World)
    (hJ:∀ W,Kept No w W→Calls Tryz.prog 39 #[.agg cs,cfgV (.slice sa sn sc) f p bu bl ro,FV 40,.int .i64 r] W fun e w'=>e=.returned (.int .i64 e0)∧Kept No W w') :
    Calls Tryz.prog 52 #[.agg cs,cfgV (.slice sa sn sc) f p bu bl ro,FV 40,gv,.int .i64 r] w fun e w'=>e=.returned (.tuple #[.slice none 0 0,.int .i64 e0])∧Kept No w w':=by
  have HJ:Hid (∀ W,Kept No w W→Calls Tryz.prog 39 #[.agg cs,cfgV (.slice sa sn sc) f p bu bl ro,FV 40,.int .i64 r] W fun e w'=>e=.returned (.int .i64 e0)∧Kept No W w'):=hJ
  have HS:Hid (cs.size=30):=hcs
  clear hJ hcs
  have TB:Hid (1=1):=rfl
  obtain ⟨w0,hw0⟩:∃ w0,w0=w.alloc (.cells cs 45):=⟨_,rfl⟩
  have HK0:Hid (Kept No w w0):=by rw [hw0];exact (Kept.refl No w).alloc _
  have HM0:Hid (Box w0 w.heap.size 45 cs):=by rw [hw0];exact Box.new _ _ _
  go_enter Tryz.func52,Tryz.ntmps52
  go_upto_region 1 with (have hguard:=TB;clear hguard;refine wp_boxV rfl 45 _ rfl cs rfl w.heap.size rfl ?_;rw [← hw0];clear hw0 TB)
  obtain ⟨w1,hw1⟩:∃ w1,w1=w0.alloc (.cells #[.slice sa sn sc,.int .i64 f,.int .i64 p,.int .i64 bu,.int .i64 bl,.int .i64 ro] 24):=⟨_,rfl⟩
  rw [← hw1]
  have hk1:Kept No w0 w1:=by rw [hw1];exact (Kept.refl No w0).alloc _
  have HC1:Hid (Box w1 w0.heap.size 24 #[.slice sa sn sc,.int .i64 f,.int .i64 p,.int .i64 bu,.int .i64 bl,.int .i64 ro]):=by rw [hw1];exact Box.new _ _ _
  have HK1:Hid (Kept No w w1):=HK0.out.then hk1
  have HM1:Hid (Box w1 w.heap.size 45 cs):=HM0.out.kept hk1 (fun e=>e)
  clear hw1 hk1 HM0 HK0
  have q0:=HC1.out.cell 0
  have q1:=HC1.out.cell 1
  have q2:=HC1.out.cell 2
  have q3:=HC1.out.cell 3
  have q4:=HC1.out.cell 4
  have q5:=HC1.out.cell 5
  simp at q0 q1 q2 q3 q4 q5
  have TL:Hid (1=1):=rfl
  go_wp2_with (have hguard:=TL;clear hguard;refine wp_load71 rfl _ rfl w.heap.size cs rfl HS.out HM1.out ?_;clear TL)
  refine (HJ.out _ HK1.out).mono ?_
  rintro e w2 ⟨rfl,hk2⟩
  have HK2:Hid (Kept No w w2):=HK1.out.then hk2
  clear hk2 q0 q1 q2 q3 q4 q5 HC1 HM1
  go_wp2
  go_ret2
  exact ⟨rfl,HK2.out⟩
set_option maxRecDepth 100000 in
set_option maxHeartbeats 4000000 in
theorem packMsg_all (cs:Array Value) (hcs:cs.size=30) (r:Int) (sa:Option Addr) (sn sc:Nat) (zs:List Int) (f p bu bl ro:Int) (body:List Int) (w:World) (hbl:body.length≤131072) (hb8:U8 body)
    (hJ:∀ W,Kept No w W→Calls Tryz.prog 39 #[.agg cs,cfgV (.slice sa sn sc) f p bu bl ro,FV 40,.int .i64 r] W fun e w'=>e=.returned (.int .i64 0)∧Kept No W w')
    (hP:∀ W g,Kept No w W→Ws W w.heap.size g none 0 (some [])→Calls Tryz.prog 53 #[.pointer (some ⟨g,0,none⟩),.agg cs] W (Puts W w.heap.size g none (some body))) :
    Calls Tryz.prog 52 #[.agg cs,cfgV (.slice sa sn sc) f p bu bl ro,FV 40,FV 53,.int .i64 r] w fun e w'=>∃ a' c',e=.returned (.tuple #[.slice a' (body.length+12) c',.int .i64 0])∧OwnS w' w.heap.size a' c' (sealOf body)∧Kept No w w':=by
  have HJ:Hid (∀ W,Kept No w W→Calls Tryz.prog 39 #[.agg cs,cfgV (.slice sa sn sc) f p bu bl ro,FV 40,.int .i64 r] W fun e w'=>e=.returned (.int .i64 0)∧Kept No W w'):=hJ
  have HP:Hid (∀ W g,Kept No w W→Ws W w.heap.size g none 0 (some [])→Calls Tryz.prog 53 #[.pointer (some ⟨g,0,none⟩),.agg cs] W (Puts W w.heap.size g none (some body))):=hP
  have HS:Hid (cs.size=30):=hcs
  have HB:Hid (body.length≤131072∧U8 body):=⟨hbl,hb8⟩
  clear hJ hcs hP hbl hb8
  have TB:Hid (1=1):=rfl
  obtain ⟨w0,hw0⟩:∃ w0,w0=w.alloc (.cells cs 45):=⟨_,rfl⟩
  have HK0:Hid (Kept No w w0):=by rw [hw0];exact (Kept.refl No w).alloc _
  have HM0:Hid (Box w0 w.heap.size 45 cs):=by rw [hw0];exact Box.new _ _ _
  go_enter Tryz.func52,Tryz.ntmps52
  go_upto_region 1 with (have hguard:=TB;clear hguard;refine wp_boxV rfl 45 _ rfl cs rfl w.heap.size rfl ?_;rw [← hw0];clear hw0 TB)
  obtain ⟨w1,hw1⟩:∃ w1,w1=w0.alloc (.cells #[.slice sa sn sc,.int .i64 f,.int .i64 p,.int .i64 bu,.int .i64 bl,.int .i64 ro] 24):=⟨_,rfl⟩
  rw [← hw1]
  have hk1:Kept No w0 w1:=by rw [hw1];exact (Kept.refl No w0).alloc _
  have HC1:Hid (Box w1 w0.heap.size 24 #[.slice sa sn sc,.int .i64 f,.int .i64 p,.int .i64 bu,.int .i64 bl,.int .i64 ro]):=by rw [hw1];exact Box.new _ _ _
  have HK1:Hid (Kept No w w1):=HK0.out.then hk1
  have HM1:Hid (Box w1 w.heap.size 45 cs):=HM0.out.kept hk1 (fun e=>e)
  clear hw1 hk1 HM0 HK0
  have q0:=HC1.out.cell 0
  have q1:=HC1.out.cell 1
  have q2:=HC1.out.cell 2
  have q3:=HC1.out.cell 3
  have q4:=HC1.out.cell 4
  have q5:=HC1.out.cell 5
  simp at q0 q1 q2 q3 q4 q5
  have TL:Hid (1=1):=rfl
  go_wp2_with (have hguard:=TL;clear hguard;refine wp_load71 rfl _ rfl w.heap.size cs rfl HS.out HM1.out ?_;clear TL)
  refine (HJ.out _ HK1.out).mono ?_
  rintro e w2 ⟨rfl,hk2⟩
  have HK2:Hid (Kept No w w2):=HK1.out.then hk2
  have HM2:Hid (Box w2 w.heap.size 45 cs):=HM1.out.kept hk2 (fun e=>e)
  clear hk2 q0 q1 q2 q3 q4 q5 HC1 HM1 HJ
  obtain ⟨w3,hw3⟩:∃ w3,w3=w2.alloc (.cells #[.slice none 0 0,.bool false] 159):=⟨_,rfl⟩
  have hk3:Kept No w2 w3:=by rw [hw3];exact (Kept.refl No w2).alloc _
  have hB3:Box w3 w2.heap.size 159 #[.slice none 0 0,.bool false]:=by rw [hw3];exact Box.new _ _ _
  have HK3:Hid (Kept No w w3):=HK2.out.then hk3
  have HM3:Hid (Box w3 w.heap.size 45 cs):=HM2.out.kept hk3 (fun e=>e)
  have HW3:Hid (Ws w3 w.heap.size w2.heap.size none 0 (some [])):=by
    show Wr _ _ _ _ _ _ _
    exact ⟨hB3,OwnS.nil _ _,HK2.out.size⟩
  have TL:Hid (1=1):=rfl
  clear hk3 hB3 HM2
  go_upto_region 5 with fail
  rw [← hw3]
  clear hw3
  go_wp2_with (have hguard:=TL;clear hguard;refine wp_load71 rfl _ rfl w.heap.size cs rfl HS.out HM3.out ?_;clear TL)
  refine (HP.out w3 _ HK3.out HW3.out).mono ?_
  rintro e w4 ⟨rfl,a4,c4,hw4,hk4,hm4⟩
  have HK4:Hid (Kept No w w4):=HK3.out.fresh hk4 (fun i hi=>HW3.out.base hi)
  have HD:Hid (Calls Tryz.prog 113 #[.pointer (some ⟨w2.heap.size,0,none⟩)] w4 fun e w'=>∃ a' n' c',e=.returned (.tuple #[.slice a' n' c',.int .i64 0])∧n'=body.length∧OwnS w' w4.heap.size a' c' body∧Kept No w4 w'):=
    Done_all w.heap.size w2.heap.size a4 c4 (some body) w4 hw4 (by have:=HB.out.1;show body.length≤_;omega)
  clear hw4 hk4 hm4 HW3 HM3 HP HK3 HK2
  go_wp2_with fail
  refine HD.out.mono ?_
  rintro e w5 ⟨a5,n5,c5,rfl,hn5,hO5,hk5⟩
  have HS5:Hid (Calls Tryz.prog 38 #[.slice a5 n5 c5] w5 fun e w'=>∃ a' c',e=.returned (.slice a' (n5+12) c')∧OwnS w' w5.heap.size a' c' (sealOf body)∧Kept No w5 w'):=
    seal_any a5 n5 c5 body w5 hn5.symm (by have:=HB.out.1;omega) hO5.bytes HB.out.2 hO5.nilcap
  have HK5:Hid (Kept No w w5):=HK4.out.then hk5
  have HN5:Hid (n5=body.length):=hn5
  clear hn5 hO5 hk5 HK4 HD
  go_wp2_with fail
  refine HS5.out.mono ?_
  rintro e w6 ⟨a6,c6,rfl,hO6,hk6⟩
  have HF:Hid (OwnS w6 w.heap.size a6 c6 (sealOf body)∧Kept No w w6):=⟨hO6.lower HK5.out.size,HK5.out.then hk6⟩
  clear hO6 hk6
  go_wp2
  go_ret2
  exact ⟨a6,c6,by rw [HN5.out];rfl,HF.out.1,HF.out.2⟩
structure RdM (w0 W:World) (r g lb:Nat) (odd:Bool) (st:RS):Prop where
  box:Box W r 206 #[.pointer (some ⟨g,0,none⟩),.bool odd]
  rs:Rs W g lb st
  rg:r≠g
  rl:r≠lb
  ltl:lb < W.heap.size
  kept:Kept (fun k=>k=r∨k=g) w0 W
theorem RdM.no {w0 W W':World} {r g lb:Nat} {odd:Bool} {st:RS} (h:RdM w0 W r g lb odd st) (hk:Kept No W W'):RdM w0 W' r g lb odd st:=
  ⟨h.box.kept hk (fun e=>e),h.rs.no hk,h.rg,h.rl,Nat.lt_of_lt_of_le h.ltl hk.size,h.kept.then hk.of_no⟩
theorem RdM.apart {S:Nat→Prop} {w0 W W':World} {r g lb:Nat} {odd:Bool} {st:RS} (h:RdM w0 W r g lb odd st) (hk:Kept S W W') (hr:¬ S r) (hg:¬ S g) (hl:¬ S lb) (hn:∀ i,i < w0.heap.size→¬ S i):RdM w0 W' r g lb odd st:=
  ⟨h.box.kept hk hr,h.rs.kept hk hg hl,h.rg,h.rl,Nat.lt_of_lt_of_le h.ltl hk.size,h.kept.trans hk (fun _ e=>e) (fun i hi e=>absurd e (hn i hi))⟩
theorem RdM.c0 {w0 W:World} {r g lb:Nat} {odd:Bool} {st:RS} (h:RdM w0 W r g lb odd st):W.cell? ⟨r,0,none⟩=some (.pointer (some ⟨g,0,none⟩)):=h.box.cell 0
theorem RdM.c1 {w0 W:World} {r g lb:Nat} {odd:Bool} {st:RS} (h:RdM w0 W r g lb odd st):W.cell? ⟨r,1,none⟩=some (.bool odd):=h.box.cell 1
theorem RdM.anew {w0 W:World} {r g lb:Nat} {odd:Bool} {st:RS} (h:RdM w0 W r g lb odd st):RdM W W r g lb odd st:=⟨h.box,h.rs,h.rg,h.rl,h.ltl,Kept.refl _ _⟩
theorem RdM.since {w0 w1 W:World} {r g lb:Nat} {odd:Bool} {st:RS} (h:RdM w1 W r g lb odd st) (hk:Kept (fun k=>k=r∨k=g) w0 w1):RdM w0 W r g lb odd st:=⟨h.box,h.rs,h.rg,h.rl,h.ltl,hk.then h.kept⟩
theorem RdM.other {w0 W:World} {r g lb:Nat} {odd:Bool} {st:RS} (h:RdM w0 W r g lb odd st) {b:Nat} {t:TypeId} {cs:Array Value} (hb:Box w0 b t cs) (h1:b≠r) (h2:b≠g):Box W b t cs:=hb.kept h.kept (fun e=>e.elim h1 h2)
theorem RdM.ltr {w0 W:World} {r g lb:Nat} {odd:Bool} {st:RS} (h:RdM w0 W r g lb odd st):r < W.heap.size:=h.box.lt
theorem RdM.ltg {w0 W:World} {r g lb:Nat} {odd:Bool} {st:RS} (h:RdM w0 W r g lb odd st):g < W.heap.size:=h.rs.lt
def nS (st:RS):RS:=(numS st).1
def nV (st:RS):Int:=(numS st).2
def fV (st:RS):Bool:=decide (nV st=1)
def fO (odd:Bool) (st:RS):Bool:=odd||decide (nV st > 1)
theorem RdM.num {w0 W:World} {r g lb:Nat} {odd:Bool} {st:RS} (h:RdM w0 W r g lb odd st) :
    Calls Tryz.prog 160 #[.pointer (some ⟨g,0,none⟩)] W fun e w'=>e=.returned (.int .i64 (nV st))∧RdM w0 w' r g lb odd (nS st)∧w'.cell? ⟨r,0,none⟩=some (.pointer (some ⟨g,0,none⟩)):=by
  refine (Num_all g lb st W h.rs).mono ?_
  rintro e w' ⟨rfl,h1,h2⟩
  have H:RdM w0 w' r g lb odd (nS st):=⟨h.box.kept h2 (fun e=>h.rg e),h1,h.rg,h.rl,Nat.lt_of_lt_of_le h.ltl h2.size,h.kept.then (h2.mono (fun i _ e=>.inr e))⟩
  exact ⟨rfl,H,H.c0⟩
theorem RdM.set {w0 W:World} {r g lb:Nat} {odd:Bool} {st:RS} (h:RdM w0 W r g lb odd st) (b:Bool):RdM w0 (W.setCell ⟨r,1,none⟩ (.bool b)) r g lb b st:=by
  have hk:Kept (Only r) W (W.setCell ⟨r,1,none⟩ (.bool b)):=(Kept.refl (Only r) W).setCell (p:=⟨r,1,none⟩) (fun _=>rfl) _
  exact ⟨h.box.set 1 _,h.rs.kept hk (fun e=>h.rg e.symm) (fun e=>h.rl e.symm),h.rg,h.rl,Nat.lt_of_lt_of_le h.ltl hk.size,h.kept.then (hk.mono (fun i _ e=>.inl e))⟩
set_option maxRecDepth 100000 in
set_option maxHeartbeats 1000000 in
theorem RdM.flag {w0 W:World} {r g lb:Nat} {odd:Bool} {st:RS} (h:RdM w0 W r g lb odd st) :
    Calls Tryz.prog 191 #[.pointer (some ⟨r,0,none⟩)] W fun e w'=>e=.returned (.bool (fV st))∧RdM w0 w' r g lb (fO odd st) (nS st)∧w'.cell? ⟨r,0,none⟩=some (.pointer (some ⟨g,0,none⟩)):=by
  have HR:Hid (RdM w0 W r g lb odd st):=h
  have q0:=h.c0
  clear h
  go_enter Tryz.func191,Tryz.ntmps191
  go_wp2_with fail
  refine HR.out.num.mono ?_
  rintro e w1 ⟨rfl,hr,q1⟩
  have HR1:Hid (RdM w0 w1 r g lb odd (nS st)):=hr
  have q2:=hr.c1
  have q3:=hr.box.frozen 1
  clear hr q0 HR
  have HE:Hid (fV st=decide (nV st=1)∧fO odd st=(odd||decide (nV st > 1))):=⟨rfl,rfl⟩
  generalize nV st=v at *
  cases odd with
  | true=>
    go_wp2
    go_ret
    have H:=HR1.out.set true
    refine ⟨ret_bool ?_,?_,H.c0⟩
    · rw [HE.out.1];rw [Bool.eq_iff_iff];simp
    · rw [HE.out.2];exact H
  | false=>
    go_wp2
    go_ret
    have H:=HR1.out.set (decide (v > 1))
    refine ⟨ret_bool ?_,?_,?_⟩
    · rw [HE.out.1];rw [Bool.eq_iff_iff];simp
    · rw [HE.out.2];simpa using H
    · simpa using H.c0
def aS (st:RS):RS:=nS (nS st)
set_option maxRecDepth 100000 in
set_option maxHeartbeats 1000000 in
theorem RdM.addr {w0 W:World} {r g lb:Nat} {odd:Bool} {st:RS} (h:RdM w0 W r g lb odd st) :
    Calls Tryz.prog 161 #[.pointer (some ⟨r,0,none⟩)] W fun e w'=>e=.returned (.agg #[.bool (fV st),.int .i64 (nV (nS st))])∧RdM w0 w' r g lb (fO odd st) (aS st)∧w'.cell? ⟨r,0,none⟩=some (.pointer (some ⟨g,0,none⟩)):=by
  have HR:Hid (RdM w0 W r g lb odd st):=h
  have q0:=h.c0
  have hn:=World.new_ne W ⟨r,0,none⟩ q0
  clear h
  go_enter Tryz.func161,Tryz.ntmps161
  go_upto_region 1 with fail
  obtain ⟨w1,hw1⟩:∃ w1,w1=W.alloc (.cells #[.bool false,.int .i64 0] 30):=⟨_,rfl⟩
  rw [← hw1]
  have hk1:Kept No W w1:=by rw [hw1];exact (Kept.refl No W).alloc _
  have HB1:Hid (Box w1 W.heap.size 30 #[.bool false,.int .i64 0]):=by rw [hw1];exact Box.new _ _ _
  have HR1:Hid (RdM w0 w1 r g lb odd st):=HR.out.no hk1
  have q1:=HR1.out.c0
  have HN:Hid (W.heap.size≠r∧W.heap.size≠g∧W.heap.size≠lb∧w0.heap.size≤W.heap.size):=⟨by have:=HR.out.ltr;omega,by have:=HR.out.ltg;omega,by have:=HR.out.ltl;omega,HR.out.kept.size⟩
  have HA:Hid (RdM w1 w1 r g lb odd st):=HR1.out.anew
  have HKs:Hid (Kept (fun k=>k=r∨k=g) w0 w1):=HR1.out.kept
  have n1:W.heap.size≠r:=HN.out.1
  have n2:r≠W.heap.size:=fun e=>n1 e.symm
  clear hk1 hw1 q0 HR HR1 hn
  go_region_held3 (fun w'=>w'.cell? ⟨r,0,none⟩=some (.pointer (some ⟨g,0,none⟩))) (go_keep) (first
    | (go_at_call 191;refine ((HA.out.no ((Kept.refl No _).drew)).flag).mono ?_;rintro e w2 ⟨rfl,hr2,q2⟩;have HR2:Hid (RdM w1 w2 r g lb (fO odd st) (nS st)):=hr2;clear hr2)
    | (go_at_call 160;refine (HR2.out.num).mono ?_;rintro e w3 ⟨rfl,hr3,q3⟩;have HR3:Hid (RdM w1 w3 r g lb (fO odd st) (nS (nS st))):=hr3;have HB3:Hid (Box w3 W.heap.size 30 #[.bool false,.int .i64 0]):=hr3.other HB1.out HN.out.1 HN.out.2.1;have b0:=HB3.out.cell 0;have b1:=HB3.out.cell 1;have f0:=HB3.out.frozen 0;have f1:=HB3.out.frozen 1;clear hr3))
  have HF:Hid (Box ((w3.setCell ⟨W.heap.size,0,none⟩ (.bool (fV st))).setCell ⟨W.heap.size,1,none⟩ (.int .i64 (nV (nS st)))) W.heap.size 30 #[.bool (fV st),.int .i64 (nV (nS st))]):=(HB3.out.set 0 _).set 1 _
  have HRF:Hid (RdM w0 ((w3.setCell ⟨W.heap.size,0,none⟩ (.bool (fV st))).setCell ⟨W.heap.size,1,none⟩ (.int .i64 (nV (nS st)))) r g lb (fO odd st) (aS st)):=by
    have hk:∀ (X:World) (i:Nat) (v:Value),Kept (Only W.heap.size) X (X.setCell ⟨W.heap.size,i,none⟩ v):=fun X i v=>(Kept.refl (Only W.heap.size) X).setCell (p:=⟨W.heap.size,i,none⟩) (fun _=>rfl) _
    exact (HR3.out.since HKs.out).apart ((hk w3 0 _).then (hk _ 1 _)) (fun e=>n2 e) (fun e=>HN.out.2.1 e.symm) (fun e=>HN.out.2.2.1 e.symm) (fun i hi e=>by have h1:=HN.out.2.2.2;have h2:i=W.heap.size:=e;omega)
  obtain ⟨w4,hw4⟩:∃ w4,w4=(w3.setCell ⟨W.heap.size,0,none⟩ (.bool (fV st))).setCell ⟨W.heap.size,1,none⟩ (.int .i64 (nV (nS st))):=⟨_,rfl⟩
  rw [← hw4] at HF HRF ⊢
  clear hw4
  have c0:=HF.out.cell 0
  have c1:=HF.out.cell 1
  simp at c0 c1
  go_wp2
  refine bodyPost_ret (results_cell_row (by rfl) _ w4 W.heap.size 30 #[.bool (fV st),.int .i64 (nV (nS st))] (0,0) _ (by rfl) HF.out Tryz.underlying30 rfl (by kernel_rfl)) rfl ?_
  exact ⟨rfl,HRF.out,HRF.out.c0⟩
def mZ:MsgD:=⟨0,false,0,false,0,0,0,0,0,0,0,0,0,0,0,none,0,0,0,0,0,ByteArray.empty,0,0,0,0,0,0,none,0,0,none,0,0,none,0,0,false⟩
theorem Tryz.info45z:(Tryz.prog.info? 45).bind (·.zero)=some (.agg mZ.cells):=by kernel_rfl
theorem zero_of {t:TypeId} {z:Value} (h:(Tryz.prog.info? t).bind (·.zero)=some z) (w:World):(zeroValue t).run Tryz.prog w=.ok z w:=by
  cases hi:Tryz.prog.info? t with
  | none=>rw [hi] at h;cases h
  | some i=>
    rw [hi] at h
    simp only[Option.bind_some] at h
    simp [zeroValue,typeInfo,hi,h]
section
variable {ops:Array Oper} {rest:List Oper} {o:Oper} {a:Act} {w:World} {Q:Exit→Act→World→Prop}
theorem wp_allocT (hg:o.guard=none) (t:TypeId) (ho:o.op=.alloc t) (cs:Array Value) (hz:(Tryz.prog.info? t).bind (·.zero)=some (.agg cs)) (N:Nat) (hN:w.heap.size=N)
    (h:wpList Tryz.prog ops Q rest (a.put o.dst (.pointer (some ⟨N,0,none⟩))) (w.alloc (.cells cs t))):wpList Tryz.prog ops Q (o :: rest) a w:=by
  subst hN
  refine wp_runTo hg _ (w.alloc (.cells cs t)) ?_ h
  simp only[execOp,ho,Instr.alloc,Sem.run_bind,zero_of hz,Result.andThen_ok,newVar,newRow,run_newObj_alloc,Sem.run_pure]
  rfl
end
theorem run_zero71 (w:World):(zeroValue 45).run Tryz.prog w=.ok (.agg mZ.cells) w:=zero_of Tryz.info45z w
theorem Box.setRow {w:World} {g:Nat} {t:TypeId} {old:Array Value} (h:Box w g t old) (cs:Array Value):Box (w.setRow g cs) g t cs:=setRow_heap w g old cs t (0,0) h
theorem Kept.setRow (w:World) (g:Nat) (cs:Array Value):Kept (Only g) w (w.setRow g cs):=
  ⟨rfl,rfl,rfl,by simp [World.setRow],fun k _ hk=>setRow_other w g k cs hk⟩
theorem cell_setRow (w:World) (g:Nat) (cs:Array Value) (b i:Nat) (h:b≠g):(w.setRow g cs).cell? ⟨b,i,none⟩=w.cell? ⟨b,i,none⟩:=by
  unfold World.cell?
  simp only[]
  rw [setRow_other w g b cs h]
theorem MsgD.one (m:MsgD):m.cells.all (·.oneCell')=true:=by simp [MsgD.cells,Value.oneCell']
theorem run_store71 (m:MsgD) (g:Nat) (w:World) (hb:Box w g 45 mZ.cells) :
    (storeVar 45 ⟨g,0,none⟩ (.agg m.cells)).run Tryz.prog w=.ok () (w.setRow g m.cells):=
  run_storeVar_row w g 45 45 mZ.cells _ hb Tryz.size45 rfl m.one
theorem run_cells71 (m:MsgD) (g:Nat) (w:World) (hb:Box w g 45 mZ.cells) :
    (storeCells ⟨g,0,none⟩ m.cells.toList).run Tryz.prog w=.ok () (w.setRow g m.cells):=by
  have:=run_storeCells_from (P:=Tryz.prog) g 45 m.cells.toList 0 mZ.cells w hb (by simp [MsgD.cells]) (fun v hv=>(Array.all_eq_true_iff_forall_mem.1 m.one) v (by simpa using hv))
  rw [this]
  simp only[List.take_zero,List.nil_append,Array.toArray_toList]
theorem mZ_size:mZ.cells.size=30:=rfl
theorem mZ_ne:(mZ.cells=#[])=False:=eq_false (fun e=>by have:=congrArg Array.size e;rw [mZ_size] at this;cases this)
theorem build71 (a0:Int) (a1:Bool) (a2:Int) (a3:Bool) (a4 a5 a6 a7 a8 a9 a10:Int):((((((((((mZ.cells.setIfInBounds 0 (.int .i64 a0)).setIfInBounds 1 (.bool a1)).setIfInBounds 2 (.int .i64 a2)).setIfInBounds 3 (.bool a3)).setIfInBounds 4 (.int .i64 a4)).setIfInBounds 5 (.int .i64 a5)).setIfInBounds 6 (.int .i64 a6)).setIfInBounds 7 (.int .i64 a7)).setIfInBounds 8 (.int .i64 a8)).setIfInBounds 9 (.int .i64 a9)).setIfInBounds 10 (.int .i64 a10)=MsgD.cells { mZ with kind:=a0,fc:=a1,fi:=a2,tc:=a3,ti:=a4,op:=a5,rd:=a6,kk:=a7,ka:=a8,kb:=a9,kc:=a10 }:=by kernel_rfl
theorem box_new (w:World) (cs:Array Value) (t:TypeId):Box (w.alloc (.cells cs t)) w.heap.size t cs:=Box.new _ _ _
set_option maxRecDepth 100000
set_option maxHeartbeats 4000000
def zI:Array Value:=#[.int .i64 0,.int .i64 0,.int .i64 0,.int .i64 0,.int .i64 0,.int .i64 0,.int .i64 0,.string ByteArray.empty,.int .i64 0,.int .i64 0,.int .i64 0,.int .i64 0,.int .i64 0,.bool false]
theorem results_row_tmp {fn:Func} {p u:Tmp} {t:TypeId} (h:fn.results=#[.cell p t,.tmp u]) (tmps:Array Value) (w:World) (g:Nat) (cs:Array Value) (hp:tmps.getD p undef=.pointer (some ⟨g,0,none⟩)) (hrun:(loadVar t ⟨g,0,none⟩).run Tryz.prog w=.ok (.agg cs) w) :
    (results fn tmps).run Tryz.prog w=.ok (.tuple #[.agg cs,tmps.getD u undef]) w:=by
  rw [results_cell_tmp h,hp]
  simp [asAddr,hrun,Result.andThen]
theorem load71_run {w:World} {g:Nat} {cs:Array Value} (hb:Box w g 45 cs) (hl:cs.size=30):(loadVar 45 ⟨g,0,none⟩).run Tryz.prog w=.ok (.agg cs) w:=
  run_loadVar_row w g 45 45 cs (0,0) _ hb Tryz.underlying45 rfl (by rw [hl];exact Tryz.size45)
theorem unpackMsg_no (ba:Option Addr) (bn bc:Nat) (rv fv:Value) (r:Int) (sa:Option Addr) (sn sc:Nat) (zs:List Int) (f p bu bl ro:Int) (w:World) (h:Cfg w sa sn sc zs) (hno:cfgB zs f p bu bl ro=false) :
    Calls Tryz.prog 80 #[.slice ba bn bc,cfgV (.slice sa sn sc) f p bu bl ro,rv,fv,.int .i64 r] w fun e w'=>e=.returned (.tuple #[.agg mZ.cells,.int .i64 20])∧Kept No w w':=by
  have HC:Hid (Cfg w sa sn sc zs):=h
  have HN:Hid (cfgB zs f p bu bl ro=false):=hno
  clear h hno
  have TA:Hid (1=1):=rfl
  have TB:Hid (1=1):=rfl
  go_enter Tryz.func80,Tryz.ntmps80
  go_upto_region 2 with (first
    | (have hguard:=TA;clear hguard;refine wp_allocT rfl 45 rfl mZ.cells Tryz.info45z (w.heap.size+1) (by simp) ?_;clear TA)
    | (have hguard:=TB;clear hguard;refine wp_allocT rfl 45 rfl mZ.cells Tryz.info45z (w.heap.size+1+1) (by simp) ?_;clear TB))
  obtain ⟨w3,hw3⟩:∃ w3,w3=((w.alloc (.cells #[.slice sa sn sc,.int .i64 f,.int .i64 p,.int .i64 bu,.int .i64 bl,.int .i64 ro] 24)).alloc (.cells mZ.cells 45)).alloc (.cells mZ.cells 45):=⟨_,rfl⟩
  rw [← hw3]
  have HK3:Hid (Kept No w w3):=by rw [hw3];exact (((Kept.refl No w).alloc _).alloc _).alloc _
  have HC3:Hid (Box w3 w.heap.size 24 #[.slice sa sn sc,.int .i64 f,.int .i64 p,.int .i64 bu,.int .i64 bl,.int .i64 ro]):=by rw [hw3];exact ((Box.new w 24 _).alloc _).alloc _
  have HA3:Hid (Box w3 (w.heap.size+1) 45 mZ.cells):=by
    show Box _ _ _ _
    rw [hw3]
    have:=(Box.new (w.alloc (.cells #[.slice sa sn sc,.int .i64 f,.int .i64 p,.int .i64 bu,.int .i64 bl,.int .i64 ro] 24)) 45 mZ.cells).alloc (.cells mZ.cells 45)
    simpa using this
  have HZ3:Hid (Box w3 (w.heap.size+1+1) 45 mZ.cells):=by
    show Box _ _ _ _
    rw [hw3]
    have:=Box.new ((w.alloc (.cells #[.slice sa sn sc,.int .i64 f,.int .i64 p,.int .i64 bu,.int .i64 bl,.int .i64 ro] 24)).alloc (.cells mZ.cells 45)) 45 mZ.cells
    simpa using this
  clear hw3
  try simp only[Act.put,List.setIfInBounds_toArray,List.set_cons_zero,List.set_cons_succ]
  have q0:=HC3.out.cell 0
  have q1:=HC3.out.cell 1
  have q2:=HC3.out.cell 2
  have q3:=HC3.out.cell 3
  have q4:=HC3.out.cell 4
  have q5:=HC3.out.cell 5
  simp at q0 q1 q2 q3 q4 q5
  go_wp2_with fail
  refine ((HC.out.no HK3.out).right f p bu bl ro).mono ?_
  rintro e w4 ⟨rfl,hk4⟩
  have HK4:Hid (Kept No w w4):=HK3.out.then hk4
  have HA4:Hid (Box w4 (w.heap.size+1) 45 mZ.cells):=HA3.out.kept hk4 (fun e=>e)
  have HZ4:Hid (Box w4 (w.heap.size+1+1) 45 mZ.cells):=HZ3.out.kept hk4 (fun e=>e)
  have HC4:Hid (Box w4 w.heap.size 24 #[.slice sa sn sc,.int .i64 f,.int .i64 p,.int .i64 bu,.int .i64 bl,.int .i64 ro]):=HC3.out.kept hk4 (fun e=>e)
  clear hk4 q0 q1 q2 q3 q4 q5 HK3 HA3 HZ3 HC3
  rw [HN.out]
  have TL:Hid (1=1):=rfl
  have TS:Hid (1=1):=rfl
  go_wp2_with (first
    | (have hguard:=TL;clear hguard;refine wp_load71 rfl _ rfl (w.heap.size+1+1) mZ.cells rfl rfl HZ4.out ?_;clear TL)
    | (have hguard:=TS;clear hguard;refine wpList_store_row rfl 45 _ _ rfl (w.heap.size+1) mZ.cells (by rfl) (by rfl) 45 mZ.cells HA4.out Tryz.size45 (by rfl) mZ.one ?_;clear TS))
  have HF:Hid (Box (w4.setRow (w.heap.size+1) mZ.cells) (w.heap.size+1) 45 mZ.cells):=HA4.out.setRow _
  refine bodyPost_ret (results_row_tmp (by rfl) _ _ (w.heap.size+1) mZ.cells (by rfl) (load71_run HF.out rfl)) rfl ?_
  exact ⟨rfl,HK4.out.fresh (Kept.setRow _ _ _) (fun i e=>by unfold Only at e;omega)⟩
theorem unpackMsg_shut (ba:Option Addr) (bn bc:Nat) (ys:List Int) (rv fv:Value) (r:Int) (sa:Option Addr) (sn sc:Nat) (zs:List Int) (f p bu bl ro:Int) (w:World) (h:Cfg w sa sn sc zs) (hyes:cfgB zs f p bu bl ro=true) (hs:Sl w ba bn bc ys) (ho:(openOf ys).2≠0) :
    Calls Tryz.prog 80 #[.slice ba bn bc,cfgV (.slice sa sn sc) f p bu bl ro,rv,fv,.int .i64 r] w fun e w'=>e=.returned (.tuple #[.agg mZ.cells,.int .i64 (openOf ys).2])∧Kept No w w':=by
  have HC:Hid (Cfg w sa sn sc zs):=h
  have HN:Hid (cfgB zs f p bu bl ro=true):=hyes
  have HS:Hid (Sl w ba bn bc ys):=hs
  clear h hyes hs
  have TA:Hid (1=1):=rfl
  have TB:Hid (1=1):=rfl
  go_enter Tryz.func80,Tryz.ntmps80
  go_upto_region 2 with (first
    | (have hguard:=TA;clear hguard;refine wp_allocT rfl 45 rfl mZ.cells Tryz.info45z (w.heap.size+1) (by simp) ?_;clear TA)
    | (have hguard:=TB;clear hguard;refine wp_allocT rfl 45 rfl mZ.cells Tryz.info45z (w.heap.size+1+1) (by simp) ?_;clear TB))
  obtain ⟨w3,hw3⟩:∃ w3,w3=((w.alloc (.cells #[.slice sa sn sc,.int .i64 f,.int .i64 p,.int .i64 bu,.int .i64 bl,.int .i64 ro] 24)).alloc (.cells mZ.cells 45)).alloc (.cells mZ.cells 45):=⟨_,rfl⟩
  rw [← hw3]
  have HK3:Hid (Kept No w w3):=by rw [hw3];exact (((Kept.refl No w).alloc _).alloc _).alloc _
  have HC3:Hid (Box w3 w.heap.size 24 #[.slice sa sn sc,.int .i64 f,.int .i64 p,.int .i64 bu,.int .i64 bl,.int .i64 ro]):=by rw [hw3];exact ((Box.new w 24 _).alloc _).alloc _
  have HA3:Hid (Box w3 (w.heap.size+1) 45 mZ.cells):=by
    show Box _ _ _ _
    rw [hw3]
    have:=(Box.new (w.alloc (.cells #[.slice sa sn sc,.int .i64 f,.int .i64 p,.int .i64 bu,.int .i64 bl,.int .i64 ro] 24)) 45 mZ.cells).alloc (.cells mZ.cells 45)
    simpa using this
  have HZ3:Hid (Box w3 (w.heap.size+1+1) 45 mZ.cells):=by
    show Box _ _ _ _
    rw [hw3]
    have:=Box.new ((w.alloc (.cells #[.slice sa sn sc,.int .i64 f,.int .i64 p,.int .i64 bu,.int .i64 bl,.int .i64 ro] 24)).alloc (.cells mZ.cells 45)) 45 mZ.cells
    simpa using this
  clear hw3
  try simp only[Act.put,List.setIfInBounds_toArray,List.set_cons_zero,List.set_cons_succ]
  have q0:=HC3.out.cell 0
  have q1:=HC3.out.cell 1
  have q2:=HC3.out.cell 2
  have q3:=HC3.out.cell 3
  have q4:=HC3.out.cell 4
  have q5:=HC3.out.cell 5
  simp at q0 q1 q2 q3 q4 q5
  go_wp2_with fail
  refine ((HC.out.no HK3.out).right f p bu bl ro).mono ?_
  rintro e w4 ⟨rfl,hk4⟩
  have HK4:Hid (Kept No w w4):=HK3.out.then hk4
  have HA4:Hid (Box w4 (w.heap.size+1) 45 mZ.cells):=HA3.out.kept hk4 (fun e=>e)
  have HZ4:Hid (Box w4 (w.heap.size+1+1) 45 mZ.cells):=HZ3.out.kept hk4 (fun e=>e)
  have HC4:Hid (Box w4 w.heap.size 24 #[.slice sa sn sc,.int .i64 f,.int .i64 p,.int .i64 bu,.int .i64 bl,.int .i64 ro]):=HC3.out.kept hk4 (fun e=>e)
  clear hk4 q0 q1 q2 q3 q4 q5 HK3 HA3 HZ3 HC3
  rw [HN.out]
  have HO:Hid (Calls Tryz.prog 157 #[.slice ba bn bc] w4 (Opens w4 ys)):=open_sl (HS.out.no HK4.out)
  generalize hov:(openOf ys).2=ov at *
  have HOV:Hid ((openOf ys).2=ov):=hov
  clear hov
  go_wp2_with fail
  refine HO.out.mono ?_
  rintro e w5 ⟨a5,n5,c5,he,-,-,hk5⟩
  rw [HOV.out] at he
  subst he
  have HK5:Hid (Kept No w w5):=HK4.out.then hk5
  have HA5:Hid (Box w5 (w.heap.size+1) 45 mZ.cells):=HA4.out.kept hk5 (fun e=>e)
  have HZ5:Hid (Box w5 (w.heap.size+1+1) 45 mZ.cells):=HZ4.out.kept hk5 (fun e=>e)
  clear hk5 HO HA4 HZ4 HC4 HK4
  have TL:Hid (1=1):=rfl
  have TS:Hid (1=1):=rfl
  go_wp2_with (first
    | (have hguard:=TL;clear hguard;refine wp_load71 rfl _ rfl (w.heap.size+1+1) mZ.cells rfl rfl HZ5.out ?_;clear TL)
    | (have hguard:=TS;clear hguard;refine wpList_store_row rfl 45 _ _ rfl (w.heap.size+1) mZ.cells (by rfl) (by rfl) 45 mZ.cells HA5.out Tryz.size45 (by rfl) mZ.one ?_;clear TS))
  have HF:Hid (Box (w5.setRow (w.heap.size+1) mZ.cells) (w.heap.size+1) 45 mZ.cells):=HA5.out.setRow _
  refine bodyPost_ret (results_row_tmp (by rfl) _ _ (w.heap.size+1) mZ.cells (by rfl) (load71_run HF.out rfl)) rfl ?_
  exact ⟨by rw [HOV.out];rfl,HK5.out.fresh (Kept.setRow _ _ _) (fun i e=>by unfold Only at e;omega)⟩
end Go.Proofs.YtgdnofacgfjaeaaGreat.Wi
