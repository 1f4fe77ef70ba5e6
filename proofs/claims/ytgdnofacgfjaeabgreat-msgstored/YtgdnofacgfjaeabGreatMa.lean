import Derived.Test.YtgdnofacgfjaeabGreatIb
import Derived.Test.YtgdnofacgfjaeabGreatPa
namespace Go.Proofs.YtgdnofacgfjaeabGreat.Md
set_option maxRecDepth 100000
set_option maxHeartbeats 4000000
open Go.RowKit
set_option linter.unusedVariables false
set_option linter.unusedSimpArgs false
theorem U47:Tryz.prog.underlying 47=some (.struct (Tryz.prog.fieldsOf 47)):=by kernel_rfl
theorem S47:(Tryz.prog.info? 47).map (·.size)=some 14:=by kernel_rfl
def cmdIts (x:Cm):List It:=bif x.k==0 then [It.n x.k] else [It.n x.k,It.n x.cl,It.n x.op,It.b (Wi.numsOf x.nm),It.n x.f0,It.n x.f1,It.n x.g0,It.n x.g1,It.n x.sz]
def entIts (x:En):List It:=[It.b (Wi.numsOf x.nm),It.n x.f0,It.n x.f1,It.n x.sz]
def lasIts (x:La):List It:=[It.n x.cl,It.n x.op,It.n x.ins,It.n x.er,It.n x.f0,It.n x.f1,It.n x.sz]
def fl (f:Nat→List It) (i:Nat):List It:=((List.range i).map f).flatten
theorem fl0 (f:Nat→List It):fl f 0=[]:=rfl
theorem fl_succ (f:Nat→List It) (i:Nat):fl f (i+1)=fl f i++f i:=by simp [fl,List.range_succ]
theorem fl_pre (f:Nat→List It) {i n:Nat} (h:i < n):fl f i++f i <+: fl f n:=by
  rw [← fl_succ];obtain ⟨k,rfl⟩:∃ k,n=(i+1)+k:=⟨n - (i+1),by omega⟩;clear h
  induction k with
  | zero=>exact List.prefix_rfl
  | succ k ih=>rw [show i+1+(k+1)=(i+1+k)+1 by omega,fl_succ f (i+1+k)];exact ih.trans (List.prefix_append _ _)
theorem pl {A B C:List It} (h:A <+: B):A <+: B++C:=h.trans (List.prefix_append B C)
theorem pin {L P0 F1 F Fn M T:List It} (HP:L++M <+: T) (h:F1++F <+: Fn) (hm:P0++Fn <+: M):(L++(P0++F1))++F <+: T:=by
  obtain ⟨R,rfl⟩:=h;obtain ⟨R2,rfl⟩:=hm;obtain ⟨R3,rfl⟩:=HP;exact ⟨R++(R2++R3),by simp⟩
def bktIts (x:Bv) (es:List En) (ls:List La):List It:=((([It.n x.up,It.n ((x.e.l:Nat):Int)]++fl (fun j=>entIts (eAt es j)) x.e.l)++[It.n ((x.l.l:Nat):Int)])++fl (fun j=>lasIts (lAt ls j)) x.l.l)
def insIts (x:In):List It:=((([It.n x.p.n,It.n x.p.c]++[It.n x.a.n,It.n x.a.c])++cmdIts x.c)++[It.n (bif x.d then 1 else 0)])
theorem at_v {s:Sl} {b off:Nat} (h:s.v=.slice (some ⟨b,off,none⟩) s.l s.k):At s.a b:=by
  unfold Sl.v at h;simp only[Value.slice.injEq] at h;exact ⟨_,h.1,rfl⟩
structure FldO (w:World) (zs:List Int) (e:Ending) (w':World):Prop where
  out:(zs=[]∧e=.returned (.slice none 0 0)∧Kept No w w')∨(zs≠[]∧∃ g,e=.returned (.slice (some ⟨g,0,none⟩) zs.length zs.length)∧Hid (Fq No w w' [(g,170,(i64L zs).toArray)]))
theorem Kf.join {K:Sink} {w0 w w':World} {a:Option Addr} {L:List It} {l m:List (Nat × TypeId × Array Value)} (h:Kf K w0 w a L l) (k:Fq No w w' m) (ht:∀ (i:Nat) g T cs,m[i]?=some (g,T,cs)→¬ K.bad T):Kf K w0 w' a L (l++m):=by
  have hl:=h.no k.kept;refine ⟨hl.kept,hl.bs,hl.st,?_,?_,?_,?_⟩
  · intro i g T cs hi
    rw [List.getElem?_append] at hi
    split at hi
    · exact hl.box i g T cs hi
    · exact k.box _ g T cs hi
  · intro i g T cs hi
    rw [List.getElem?_append] at hi
    split at hi
    · exact h.low i g T cs hi
    · rcases k.low _ g T cs hi with h1 | h1
      · exact Nat.le_trans h.kept.size h1
      · exact h1.elim
  · intro i j g T1 c1 T2 c2 hi hj
    rw [List.getElem?_append] at hi hj
    split at hi <;> split at hj
    · exact h.inj i j g T1 c1 T2 c2 hi hj
    · have h1:=(h.box i g T1 c1 hi).lt
      rcases k.low _ g T2 c2 hj with h2 | h2
      · omega
      · exact h2.elim
    · have h1:=(h.box j g T2 c2 hj).lt
      rcases k.low _ g T1 c1 hi with h2 | h2
      · omega
      · exact h2.elim
    · have:=k.inj _ _ g T1 c1 T2 c2 hi hj
      omega
  · intro i g T cs hi
    rw [List.getElem?_append] at hi
    split at hi
    · exact h.typ i g T cs hi
    · exact ht _ g T cs hi
section
variable {ops:Array Oper} {rest:List Oper} {o:Oper} {a:Act} {w:World} {Q:Exit→Act→World→Prop} {K:Sink} {w0:World} {a0:Option Addr} {L:List It} {l:List (Nat × TypeId × Array Value)}
end
section
variable {base g:Nat} {T:List It} {ok:∀ x∈T,itOk x} {len:itsLen T≤131072}
theorem s_base {w:World} {a:Option Addr} {L:List It} (h:(pSink base g T ok len).St w a L) {k:Nat} (hk:(pSink base g T ok len).Wr a k):base≤k:=by
  obtain ⟨c,h⟩:=h;exact h.base hk
end
section
variable {base g:Nat} {T:List It} {ok:∀ x∈T,itOk x} {len:itsLen T≤131072}
theorem p_cmd0 (x:Cm) (w:World) (a:Option Addr) (L:List It) (h:(pSink base g T ok len).St w a L) (hp:L++[It.n x.k] <+: T) (hk:(x.k==0)=true):Calls Tryz.prog 87 #[.pointer (some ⟨g,0,none⟩),.agg (Cm.cells x)] w ((pSink base g T ok len).Put w a (L++[It.n x.k])):=by
  refine hidC fun C HC=>?_;have HP:Hid (L++[It.n x.k] <+: T):=hp;have HF:Hid (Kf (pSink base g T ok len) w w a (L++[]) []):=Kf.start h;clear hp h;go_enter Tryz.func87,Tryz.ntmps87;go_upto_region 0 with fail;refine Sg<|kB (Cm.cells x) HF (pT (t:=45)) fun g1 w2 HF=>?_;(try simp only[pS]);refine Nl ?_;(try simp only[pS]);go_upto_region 1 with fail;refine wp_region_held_drew (S:=fun _=>True) rfl trivial (fun _=>?_);replace HF:Hid (Kf (pSink base g T ok len) w w2.drew a (L++[]) [(g1,45,Cm.cells x)]):=HF.out.no (Kept.refl No _).drew;generalize w2.drew=w3 at HF ⊢;refine gK 0 4 (pg g 0)<|gK 1 5 (pg g 0)<|gK 2 6 (pg g 0)<|gK 3 7 (pg g1 0)<|gD 4 8 (.int .i64 x.k) HF 0 0 U3 rfl<|gC 5 9 ([It.n x.k]) HF (fun a0 h0=>p_num x.k _ a0 _ h0 (pfx HP ⟨_,rfl⟩)) fun w4 HF=>?_;(try simp only[pS]);refine wpAnyH_done (by kernel_rfl) ?_ _;(try simp only[pS]);go_upto_region 2 with fail;refine Sg<|tK (pg g1 0)<|kD (.int .i64 x.k) HF 0 0 U3 rfl<|bN (eI hk)<|Nl ?_;simp only[pS];go_wp2;rw [HC.out];have e:([It.n x.k]:List It)=[It.n x.k]:=rfl;rw [← e];go_end0;exact HF.out.put
theorem p_cmd1 (x:Cm) (w:World) (a:Option Addr) (L:List It) (h:(pSink base g T ok len).St w a L) (hp:L++[It.n x.k,It.n x.cl,It.n x.op,It.b (Wi.numsOf x.nm),It.n x.f0,It.n x.f1,It.n x.g0,It.n x.g1,It.n x.sz] <+: T) (hk:(x.k==0)=false):Calls Tryz.prog 87 #[.pointer (some ⟨g,0,none⟩),.agg (Cm.cells x)] w ((pSink base g T ok len).Put w a (L++[It.n x.k,It.n x.cl,It.n x.op,It.b (Wi.numsOf x.nm),It.n x.f0,It.n x.f1,It.n x.g0,It.n x.g1,It.n x.sz])):=by
  refine hidC fun C HC=>?_;have HP:Hid (L++[It.n x.k,It.n x.cl,It.n x.op,It.b (Wi.numsOf x.nm),It.n x.f0,It.n x.f1,It.n x.g0,It.n x.g1,It.n x.sz] <+: T):=hp;have HF:Hid (Kf (pSink base g T ok len) w w a (L++[]) []):=Kf.start h;clear hp h;go_enter Tryz.func87,Tryz.ntmps87;go_upto_region 0 with fail;refine Sg<|kB (Cm.cells x) HF (pT (t:=45)) fun g1 w2 HF=>?_;(try simp only[pS]);refine Nl ?_;(try simp only[pS]);go_upto_region 1 with fail;refine wp_region_held_drew (S:=fun _=>True) rfl trivial (fun _=>?_);replace HF:Hid (Kf (pSink base g T ok len) w w2.drew a (L++[]) [(g1,45,Cm.cells x)]):=HF.out.no (Kept.refl No _).drew;generalize w2.drew=w3 at HF ⊢;refine gK 0 4 (pg g 0)<|gK 1 5 (pg g 0)<|gK 2 6 (pg g 0)<|gK 3 7 (pg g1 0)<|gD 4 8 (.int .i64 x.k) HF 0 0 U3 rfl<|gC 5 9 ([It.n x.k]) HF (fun a0 h0=>p_num x.k _ a0 _ h0 (pfx HP ⟨_,rfl⟩)) fun w4 HF=>?_;(try simp only[pS]);refine wpAnyH_done (by kernel_rfl) ?_ _;(try simp only[pS]);go_upto_region 2 with fail;refine Sg<|tK (pg g1 0)<|kD (.int .i64 x.k) HF 0 0 U3 rfl<|bN (eI hk)<|Nl ?_;simp only[pS];go_upto_region 3 with fail;refine Sg<|tK (pg g 0)<|tK (pg g1 1)<|kD (.int .i64 x.cl) HF 0 1 U3 rfl<|tK (pg g1 2)<|kD (.int .i64 x.op) HF 0 2 U3 rfl<|kI ([x.cl,x.op]) HF (pT (t:=3)) fun g5 w6 HF=>?_;simp only[pS];refine kC ([It.n x.cl,It.n x.op]) HF (fun a0 h0=>p_nums [x.cl,x.op] g5 _ a0 _ h0 (pfx HP ⟨_,rfl⟩) (HF.out.box 1 _ _ _ rfl)) fun w7 HF=>Nl ?_;(try simp only[pS]);go_upto_region 4 with fail;refine wp_region_held_drew (S:=fun _=>True) rfl trivial (fun _=>?_);replace HF:Hid (Kf (pSink base g T ok len) w w7.drew a (L++([It.n x.k]++[It.n x.cl,It.n x.op])) [(g1,45,Cm.cells x),(g5,3,(i64L [x.cl,x.op]).toArray)]):=HF.out.no (Kept.refl No _).drew;generalize w7.drew=w8 at HF ⊢;refine gK 0 20 (pg g 0)<|gK 1 21 (pg g 0)<|gK 2 22 (pg g 0)<|gK 3 23 (pg g1 3)<|gD 4 24 (.string x.nm) HF 0 3 U9 rfl<|gC 5 25 ([It.b (Wi.numsOf x.nm)]) HF (fun a0 h0=>p_text x.nm _ a0 _ h0 (pfx HP ⟨_,rfl⟩)) fun w9 HF=>?_;(try simp only[pS]);refine wpAnyH_done (by kernel_rfl) ?_ _;(try simp only[pS]);go_upto_region 5 with fail;refine Sg<|tK (pg g 0)<|tK (pg g1 4)<|kP (Fi.cs ⟨x.f0,x.f1⟩) HF 0 4 U43 S43 (Cm.cs x) rfl<|kC ([It.n x.f0,It.n x.f1]) HF (fun a0 h0=>p_file ⟨x.f0,x.f1⟩ _ a0 _ h0 (pfx HP ⟨_,rfl⟩)) fun w10 HF=>Nl ?_;simp only[pS];go_upto_region 6 with fail;refine Sg<|tK (pg g 0)<|tK (pg g1 6)<|kP (Fi.cs ⟨x.g0,x.g1⟩) HF 0 6 U43 S43 (Cm.cs x) rfl<|kC ([It.n x.g0,It.n x.g1]) HF (fun a0 h0=>p_file ⟨x.g0,x.g1⟩ _ a0 _ h0 (pfx HP ⟨_,rfl⟩)) fun w11 HF=>Nl ?_;simp only[pS];go_upto_region 7 with fail;refine wp_region_held_drew (S:=fun _=>True) rfl trivial (fun _=>?_);replace HF:Hid (Kf (pSink base g T ok len) w w11.drew a (L++(((([It.n x.k]++[It.n x.cl,It.n x.op])++[It.b (Wi.numsOf x.nm)])++[It.n x.f0,It.n x.f1])++[It.n x.g0,It.n x.g1])) [(g1,45,Cm.cells x),(g5,3,(i64L [x.cl,x.op]).toArray)]):=HF.out.no (Kept.refl No _).drew;generalize w11.drew=w12 at HF ⊢;refine gK 0 34 (pg g 0)<|gK 1 35 (pg g 0)<|gK 2 36 (pg g 0)<|gK 3 37 (pg g1 8)<|gD 4 38 (.int .i64 x.sz) HF 0 8 U3 rfl<|gC 5 39 ([It.n x.sz]) HF (fun a0 h0=>p_num x.sz _ a0 _ h0 (pfx HP ⟨_,rfl⟩)) fun w13 HF=>?_;(try simp only[pS]);refine wpAnyH_done (by kernel_rfl) ?_ _;(try simp only[pS]);go_wp2;rw [HC.out];have e:(((((([It.n x.k]++[It.n x.cl,It.n x.op])++[It.b (Wi.numsOf x.nm)])++[It.n x.f0,It.n x.f1])++[It.n x.g0,It.n x.g1])++[It.n x.sz]):List It)=[It.n x.k,It.n x.cl,It.n x.op,It.b (Wi.numsOf x.nm),It.n x.f0,It.n x.f1,It.n x.g0,It.n x.g1,It.n x.sz]:=rfl;rw [← e];go_end0;exact HF.out.put
theorem p_command (x:Cm) (w:World) (a:Option Addr) (L:List It) (h:(pSink base g T ok len).St w a L) (hp:L++cmdIts x <+: T):Calls Tryz.prog 87 #[.pointer (some ⟨g,0,none⟩),.agg (Cm.cells x)] w ((pSink base g T ok len).Put w a (L++cmdIts x)):=by
  unfold cmdIts at hp ⊢;cases hk:(x.k==0)
  · rw [hk] at hp;exact p_cmd1 x w a L h hp hk
  · rw [hk] at hp;exact p_cmd0 x w a L h hp hk
theorem p_bucket (x:Bv) (es:List En) (ls:List La) (w:World) (a:Option Addr) (L:List It) (h:(pSink base g T ok len).St w a L) (hp:L++bktIts x es ls <+: T) (h2:RdE w x.e es) (h3:RdL w x.l ls) (h4:Low base x.e) (h5:Low base x.l) (hne:x.e.l≤281474976710656) (hnl:x.l.l≤281474976710656):Calls Tryz.prog 48 #[.pointer (some ⟨g,0,none⟩),.agg (Bv.cells x)] w ((pSink base g T ok len).Put w a (L++bktIts x es ls)):=by
  refine hidC fun C HC=>?_;have HP:Hid (L++bktIts x es ls <+: T):=hp;have HF:Hid (Kf (pSink base g T ok len) w w a (L++[]) []):=Kf.start h;have HBS:Hid (∀ k,(pSink base g T ok len).Wr a k→base≤k):=fun k hk=>s_base h hk;clear hp h;have HRE:Hid (RdE w x.e es):=h2;have HRL:Hid (RdL w x.l ls):=h3;have HLE:Hid (Low base x.e):=h4;have HLL:Hid (Low base x.l):=h5;clear h2 h3 h4 h5;go_enter Tryz.func48,Tryz.ntmps48;go_upto_region 0 with fail;refine Sg<|kB (Bv.cells x) HF (pT (t:=54)) fun g1 w2 HF=>?_;(try simp only[pS]);refine Nl ?_;(try simp only[pS]);go_upto_region 1 with fail;refine Sg<|tK (pg g 0)<|tK (pg g1 0)<|kD (.int .i64 x.up) HF 0 0 U3 rfl<|tK (pg g1 1)<|kD (x.e.v) HF 0 1 U51 rfl<|tK (.int .i64 ((x.e.l:Nat):Int))<|kI ([x.up,((x.e.l:Nat):Int)]) HF (pT (t:=3)) fun g3 w4 HF=>?_;simp only[pS];refine kC ([It.n x.up,It.n ((x.e.l:Nat):Int)]) HF (fun a0 h0=>p_nums [x.up,((x.e.l:Nat):Int)] g3 _ a0 _ h0 (pfx HP (by first | exact ⟨_,rfl⟩ | exact List.prefix_rfl | exact pl List.prefix_rfl | exact pl (pl List.prefix_rfl) | exact pl (pl (pl List.prefix_rfl)))) (HF.out.box 1 _ _ _ rfl)) fun w5 HF=>Nl ?_;(try simp only[pS]);go_upto_region 2 with fail;refine Sg<|tK (pg g1 1)<|kD (x.e.v) HF 0 1 U51 rfl<|tK (.int .i64 ((x.e.l:Nat):Int))<|tK (.int .i64 0)<|Nl ?_;simp only[pS];go_wp2
  go_loopw [19] (fun v19 wr=>∃ i:Nat,v19=.int .i64 ((i:Nat):Int)∧i≤x.e.l∧Hid (Kf (pSink base g T ok len) w wr a (L++([It.n x.up,It.n ((x.e.l:Nat):Int)]++fl (fun j=>entIts (eAt es j)) i)) [(g1,54,Bv.cells x),(g3,3,(i64L [x.up,((x.e.l:Nat):Int)]).toArray)])) (fun v19 _=>x.e.l - (intOf v19).toNat)
  case atStart=>exact ⟨0,by go_num,by omega,(by rw [fl0];rw [List.append_nil];exact HF)⟩
  case round=>
    clear HF;obtain ⟨i,rfl,hi,HF⟩:=hrel
    by_cases hlt:i < x.e.l
    ·have HP:Hid ((L++([It.n x.up,It.n ((x.e.l:Nat):Int)]++fl (fun j=>entIts (eAt es j)) i))++entIts (eAt es i) <+: T):=pin HP (fl_pre (fun j=>entIts (eAt es j)) hlt) (pl (pl List.prefix_rfl));have HF:Hid (Kf (pSink base g T ok len) w wr a ((L++([It.n x.up,It.n ((x.e.l:Nat):Int)]++fl (fun j=>entIts (eAt es j)) i))++[]) [(g1,54,Bv.cells x),(g3,3,(i64L [x.up,((x.e.l:Nat):Int)]).toArray)]):=by rw [List.append_nil];exact HF
     obtain ⟨b,off,hsl,hc⟩:=RdE.at' HRE.out (i:=i) (by omega);have hnb:¬ (pSink base g T ok len).Wr a b:=fun e=>by have:=HBS.out b e;have:=HLE.out (by omega) b (at_v hsl);omega
     go_upto_region 3 with fail;refine Sg<|bN (lI (a:=((i:Nat):Int)) (b:=((x.e.l:Nat):Int)) (decide_eq_true (by omega)))<|Nl ?_;simp only[pS];go_upto_region 4 with fail;refine Sg<|iS (s:=x.e) (i:=i) hsl E51 F51 (by omega)<|lR (load_E (fun j v h=>HF.out.kept.cell (hc j v h) hnb))<|kA (En.cells enZ) Z106 HF (pT (t:=106)) fun g6 w7 HF=>?_;simp only[pS];refine kW (En.cs (eAt es i)) (En.cs (eAt es i)) HF 2 0 (v:=.agg (En.cells (eAt es i))) rfl S106 (En.oneL _) (En.cs enZ) rfl fun w8 HF=>?_;(try simp only[pS]);refine Nl ?_;(try simp only[pS]);go_upto_region 5 with fail;refine wp_region_held_drew (S:=fun _=>True) rfl trivial (fun _=>?_);replace HF:Hid (Kf (pSink base g T ok len) w w8.drew a ((L++([It.n x.up,It.n ((x.e.l:Nat):Int)]++fl (fun j=>entIts (eAt es j)) i))++[]) [(g1,54,Bv.cells x),(g3,3,(i64L [x.up,((x.e.l:Nat):Int)]).toArray),(g6,106,En.cells (eAt es i))]):=HF.out.no (Kept.refl No _).drew;generalize w8.drew=w9 at HF ⊢;refine gK 0 23 (pg g 0)<|gK 1 24 (pg g 0)<|gK 2 25 (pg g 0)<|gK 3 26 (pg g6 0)<|gD 4 27 (.string (eAt es i).nm) HF 2 0 U9 rfl<|gC 5 28 ([It.b (Wi.numsOf ((eAt es i).nm))]) HF (fun a0 h0=>p_text ((eAt es i).nm) _ a0 _ h0 (pfx HP (by first | exact ⟨_,rfl⟩ | exact List.prefix_rfl | exact pl List.prefix_rfl | exact pl (pl List.prefix_rfl) | exact pl (pl (pl List.prefix_rfl))))) fun w10 HF=>?_;(try simp only[pS]);refine wpAnyH_done (by kernel_rfl) ?_ _;(try simp only[pS]);go_upto_region 6 with fail;refine Sg<|tK (pg g 0)<|tK (pg g6 1)<|kP (Fi.cs ⟨(eAt es i).f0,(eAt es i).f1⟩) HF 2 1 U43 S43 (En.cs (eAt es i)) rfl<|kC ([It.n ((eAt es i).f0),It.n ((eAt es i).f1)]) HF (fun a0 h0=>p_file ⟨(eAt es i).f0,(eAt es i).f1⟩ _ a0 _ h0 (pfx HP (by first | exact ⟨_,rfl⟩ | exact List.prefix_rfl | exact pl List.prefix_rfl | exact pl (pl List.prefix_rfl) | exact pl (pl (pl List.prefix_rfl))))) fun w11 HF=>Nl ?_;simp only[pS];go_upto_region 7 with fail;refine wp_region_held_drew (S:=fun _=>True) rfl trivial (fun _=>?_);replace HF:Hid (Kf (pSink base g T ok len) w w11.drew a ((L++([It.n x.up,It.n ((x.e.l:Nat):Int)]++fl (fun j=>entIts (eAt es j)) i))++([It.b (Wi.numsOf ((eAt es i).nm))]++[It.n ((eAt es i).f0),It.n ((eAt es i).f1)])) [(g1,54,Bv.cells x),(g3,3,(i64L [x.up,((x.e.l:Nat):Int)]).toArray),(g6,106,En.cells (eAt es i))]):=HF.out.no (Kept.refl No _).drew;generalize w11.drew=w12 at HF ⊢;refine gK 0 33 (pg g 0)<|gK 1 34 (pg g 0)<|gK 2 35 (pg g 0)<|gK 3 36 (pg g6 3)<|gD 4 37 (.int .i64 (eAt es i).sz) HF 2 3 U3 rfl<|gC 5 38 ([It.n ((eAt es i).sz)]) HF (fun a0 h0=>p_num ((eAt es i).sz) _ a0 _ h0 (pfx HP (by first | exact ⟨_,rfl⟩ | exact List.prefix_rfl | exact pl List.prefix_rfl | exact pl (pl List.prefix_rfl) | exact pl (pl (pl List.prefix_rfl))))) fun w13 HF=>?_;(try simp only[pS]);refine wpAnyH_done (by kernel_rfl) ?_ _;(try simp only[pS]);go_upto_region 8 with fail;refine Sg<|bN (v:=.int .i64 (((i+1):Nat):Int)) (b_addw ((i:Nat):Int) 1 (((i+1):Nat):Int) (by rw [IntKind.wrap_i64];omega))<|tK (.int .i64 (((i+1):Nat):Int))<|Nl ?_;simp only[pS];go_wp2;go_roundw
     case rel=>exact ⟨i+1,by go_num,by omega,(by rw [fl_succ];have h:=Kf.front (l:=[(g1,54,Bv.cells x),(g3,3,(i64L [x.up,((x.e.l:Nat):Int)]).toArray)]) (m:=[(g6,106,En.cells (eAt es i))]) HF;simp only[List.append_assoc] at h ⊢;exact h)⟩
     case measure=>simp [intOf];omega
    ·have hi2:i=x.e.l:=by omega
     clear hlt hi;subst hi2;go_upto_region 3 with fail;refine Sg<|bN (lI (a:=((x.e.l:Nat):Int)) (b:=((x.e.l:Nat):Int)) (decide_eq_false (by omega)))<|Nl ?_;simp only[pS];go_upto_region 9 with fail;refine wp_region_held_drew (S:=fun _=>True) rfl trivial (fun _=>?_);replace HF:Hid (Kf (pSink base g T ok len) w wr.drew a (L++([It.n x.up,It.n ((x.e.l:Nat):Int)]++fl (fun j=>entIts (eAt es j)) x.e.l)) [(g1,54,Bv.cells x),(g3,3,(i64L [x.up,((x.e.l:Nat):Int)]).toArray)]):=HF.out.no (Kept.refl No _).drew;generalize wr.drew=w14 at HF ⊢;refine gK 0 40 (pg g 0)<|gK 1 41 (pg g 0)<|gK 2 42 (pg g 0)<|gK 3 43 (pg g1 2)<|gD 4 44 (x.l.v) HF 0 2 U52 rfl<|gK 5 45 (.int .i64 ((x.l.l:Nat):Int))<|gC 6 46 ([It.n ((x.l.l:Nat):Int)]) HF (fun a0 h0=>p_num ((x.l.l:Nat):Int) _ a0 _ h0 (pfx HP (by first | exact ⟨_,rfl⟩ | exact List.prefix_rfl | exact pl List.prefix_rfl | exact pl (pl List.prefix_rfl) | exact pl (pl (pl List.prefix_rfl))))) fun w15 HF=>?_;(try simp only[pS]);refine wpAnyH_done (by kernel_rfl) ?_ _;(try simp only[pS]);go_upto_region 10 with fail;refine Sg<|tK (pg g1 2)<|kD (x.l.v) HF 0 2 U52 rfl<|tK (.int .i64 ((x.l.l:Nat):Int))<|tK (.int .i64 0)<|Nl ?_;simp only[pS];go_wp2
     go_loopw [50] (fun v50 wr=>∃ i:Nat,v50=.int .i64 ((i:Nat):Int)∧i≤x.l.l∧Hid (Kf (pSink base g T ok len) w wr a (L++((([It.n x.up,It.n ((x.e.l:Nat):Int)]++fl (fun j=>entIts (eAt es j)) x.e.l)++[It.n ((x.l.l:Nat):Int)])++fl (fun j=>lasIts (lAt ls j)) i)) [(g1,54,Bv.cells x),(g3,3,(i64L [x.up,((x.e.l:Nat):Int)]).toArray)])) (fun v50 _=>x.l.l - (intOf v50).toNat)
     case atStart=>exact ⟨0,by go_num,by omega,(by rw [fl0];rw [List.append_nil];exact HF)⟩
     case round=>
       clear HF;obtain ⟨i,rfl,hi,HF⟩:=hrel
       by_cases hlt:i < x.l.l
       ·have HP:Hid ((L++((([It.n x.up,It.n ((x.e.l:Nat):Int)]++fl (fun j=>entIts (eAt es j)) x.e.l)++[It.n ((x.l.l:Nat):Int)])++fl (fun j=>lasIts (lAt ls j)) i))++lasIts (lAt ls i) <+: T):=pin HP (fl_pre (fun j=>lasIts (lAt ls j)) hlt) List.prefix_rfl;have HF:Hid (Kf (pSink base g T ok len) w wr a ((L++((([It.n x.up,It.n ((x.e.l:Nat):Int)]++fl (fun j=>entIts (eAt es j)) x.e.l)++[It.n ((x.l.l:Nat):Int)])++fl (fun j=>lasIts (lAt ls j)) i))++[]) [(g1,54,Bv.cells x),(g3,3,(i64L [x.up,((x.e.l:Nat):Int)]).toArray)]):=by rw [List.append_nil];exact HF
        obtain ⟨b,off,hsl,hc⟩:=RdL.at' HRL.out (i:=i) (by omega);have hnb:¬ (pSink base g T ok len).Wr a b:=fun e=>by have:=HBS.out b e;have:=HLL.out (by omega) b (at_v hsl);omega
        go_upto_region 11 with fail;refine Sg<|bN (lI (a:=((i:Nat):Int)) (b:=((x.l.l:Nat):Int)) (decide_eq_true (by omega)))<|Nl ?_;simp only[pS];go_upto_region 12 with fail;refine Sg<|iS (s:=x.l) (i:=i) hsl E52 F52 (by omega)<|lR (load_L (fun j v h=>HF.out.kept.cell (hc j v h) hnb))<|kA (La.cells laZ) Z108 HF (pT (t:=108)) fun g16 w17 HF=>?_;simp only[pS];refine kW (La.cs (lAt ls i)) (La.cs (lAt ls i)) HF 2 0 (v:=.agg (La.cells (lAt ls i))) rfl S108 (La.oneL _) (La.cs laZ) rfl fun w18 HF=>?_;(try simp only[pS]);refine Nl ?_;(try simp only[pS]);go_upto_region 13 with fail;refine Sg<|tK (pg g 0)<|tK (pg g16 0)<|kD (.int .i64 (lAt ls i).cl) HF 2 0 U3 rfl<|tK (pg g16 1)<|kD (.int .i64 (lAt ls i).op) HF 2 1 U3 rfl<|tK (pg g16 2)<|kD (.int .i64 (lAt ls i).ins) HF 2 2 U3 rfl<|tK (pg g16 3)<|kD (.int .i64 (lAt ls i).er) HF 2 3 U31 rfl<|kI ([((lAt ls i).cl),((lAt ls i).op),((lAt ls i).ins),((lAt ls i).er)]) HF (pT (t:=3)) fun g19 w20 HF=>?_;simp only[pS];refine kC ([It.n ((lAt ls i).cl),It.n ((lAt ls i).op),It.n ((lAt ls i).ins),It.n ((lAt ls i).er)]) HF (fun a0 h0=>p_nums [((lAt ls i).cl),((lAt ls i).op),((lAt ls i).ins),((lAt ls i).er)] g19 _ a0 _ h0 (pfx HP (by first | exact ⟨_,rfl⟩ | exact List.prefix_rfl | exact pl List.prefix_rfl | exact pl (pl List.prefix_rfl) | exact pl (pl (pl List.prefix_rfl)))) (HF.out.box 3 _ _ _ rfl)) fun w21 HF=>Nl ?_;(try simp only[pS]);go_upto_region 14 with fail;refine Sg<|tK (pg g 0)<|tK (pg g16 4)<|kP (Fi.cs ⟨(lAt ls i).f0,(lAt ls i).f1⟩) HF 2 4 U43 S43 (La.cs (lAt ls i)) rfl<|kC ([It.n ((lAt ls i).f0),It.n ((lAt ls i).f1)]) HF (fun a0 h0=>p_file ⟨(lAt ls i).f0,(lAt ls i).f1⟩ _ a0 _ h0 (pfx HP (by first | exact ⟨_,rfl⟩ | exact List.prefix_rfl | exact pl List.prefix_rfl | exact pl (pl List.prefix_rfl) | exact pl (pl (pl List.prefix_rfl))))) fun w22 HF=>Nl ?_;simp only[pS];go_upto_region 15 with fail;refine wp_region_held_drew (S:=fun _=>True) rfl trivial (fun _=>?_);replace HF:Hid (Kf (pSink base g T ok len) w w22.drew a ((L++((([It.n x.up,It.n ((x.e.l:Nat):Int)]++fl (fun j=>entIts (eAt es j)) x.e.l)++[It.n ((x.l.l:Nat):Int)])++fl (fun j=>lasIts (lAt ls j)) i))++([It.n ((lAt ls i).cl),It.n ((lAt ls i).op),It.n ((lAt ls i).ins),It.n ((lAt ls i).er)]++[It.n ((lAt ls i).f0),It.n ((lAt ls i).f1)])) [(g1,54,Bv.cells x),(g3,3,(i64L [x.up,((x.e.l:Nat):Int)]).toArray),(g16,108,La.cells (lAt ls i)),(g19,3,(i64L [((lAt ls i).cl),((lAt ls i).op),((lAt ls i).ins),((lAt ls i).er)]).toArray)]):=HF.out.no (Kept.refl No _).drew;generalize w22.drew=w23 at HF ⊢;refine gK 0 69 (pg g 0)<|gK 1 70 (pg g 0)<|gK 2 71 (pg g 0)<|gK 3 72 (pg g16 6)<|gD 4 73 (.int .i64 (lAt ls i).sz) HF 2 6 U3 rfl<|gC 5 74 ([It.n ((lAt ls i).sz)]) HF (fun a0 h0=>p_num ((lAt ls i).sz) _ a0 _ h0 (pfx HP (by first | exact ⟨_,rfl⟩ | exact List.prefix_rfl | exact pl List.prefix_rfl | exact pl (pl List.prefix_rfl) | exact pl (pl (pl List.prefix_rfl))))) fun w24 HF=>?_;(try simp only[pS]);refine wpAnyH_done (by kernel_rfl) ?_ _;(try simp only[pS]);go_upto_region 16 with fail;refine Sg<|bN (v:=.int .i64 (((i+1):Nat):Int)) (b_addw ((i:Nat):Int) 1 (((i+1):Nat):Int) (by rw [IntKind.wrap_i64];omega))<|tK (.int .i64 (((i+1):Nat):Int))<|Nl ?_;simp only[pS];go_wp2;go_roundw
        case rel=>exact ⟨i+1,by go_num,by omega,(by rw [fl_succ];have h:=Kf.front (l:=[(g1,54,Bv.cells x),(g3,3,(i64L [x.up,((x.e.l:Nat):Int)]).toArray)]) (m:=[(g16,108,La.cells (lAt ls i)),(g19,3,(i64L [((lAt ls i).cl),((lAt ls i).op),((lAt ls i).ins),((lAt ls i).er)]).toArray)]) HF;simp only[List.append_assoc] at h ⊢;exact h)⟩
        case measure=>simp [intOf];omega
       ·have hi2:i=x.l.l:=by omega
        clear hlt hi;subst hi2;go_upto_region 11 with fail;refine Sg<|bN (lI (a:=((x.l.l:Nat):Int)) (b:=((x.l.l:Nat):Int)) (decide_eq_false (by omega)))<|Nl ?_;simp only[pS];go_wp2;rw [HC.out];have e:(((([It.n x.up,It.n ((x.e.l:Nat):Int)]++fl (fun j=>entIts (eAt es j)) x.e.l)++[It.n ((x.l.l:Nat):Int)])++fl (fun j=>lasIts (lAt ls j)) x.l.l):List It)=bktIts x es ls:=rfl;rw [← e];go_end0;exact HF.out.put
theorem p_inst (x:In) (w:World) (a:Option Addr) (L:List It) (h:(pSink base g T ok len).St w a L) (hp:L++insIts x <+: T):Calls Tryz.prog 43 #[.pointer (some ⟨g,0,none⟩),.agg (In.cells x)] w ((pSink base g T ok len).Put w a (L++insIts x)):=by
  refine hidC fun C HC=>?_;have HP:Hid (L++insIts x <+: T):=hp;have HF:Hid (Kf (pSink base g T ok len) w w a (L++[]) []):=Kf.start h;have HBS:Hid (∀ k,(pSink base g T ok len).Wr a k→base≤k):=fun k hk=>s_base h hk;clear hp h;go_enter Tryz.func43,Tryz.ntmps43;go_upto_region 0 with fail;refine Sg<|kB (In.cells x) HF (pT (t:=47)) fun g1 w2 HF=>?_;(try simp only[pS]);refine Nl ?_;(try simp only[pS]);go_upto_region 1 with fail;refine Sg<|tK (pg g 0)<|tK (pg g1 0)<|kP (Sp.cs x.p) HF 0 0 U35 S35 (In.cs x) rfl<|kC ([It.n x.p.n,It.n x.p.c]) HF (fun a0 h0=>p_stamp x.p _ a0 _ h0 (pfx HP (by first | exact ⟨_,rfl⟩ | exact List.prefix_rfl | exact pl List.prefix_rfl | exact pl (pl List.prefix_rfl) | exact pl (pl (pl List.prefix_rfl))))) fun w3 HF=>Nl ?_;simp only[pS];go_upto_region 2 with fail;refine Sg<|tK (pg g 0)<|tK (pg g1 2)<|kP (Sp.cs x.a) HF 0 2 U35 S35 (In.cs x) rfl<|kC ([It.n x.a.n,It.n x.a.c]) HF (fun a0 h0=>p_stamp x.a _ a0 _ h0 (pfx HP (by first | exact ⟨_,rfl⟩ | exact List.prefix_rfl | exact pl List.prefix_rfl | exact pl (pl List.prefix_rfl) | exact pl (pl (pl List.prefix_rfl))))) fun w4 HF=>Nl ?_;simp only[pS];go_upto_region 3 with fail;refine Sg<|tK (pg g 0)<|tK (pg g1 4)<|kP (Cm.cs x.c) HF 0 4 U45 S45 (In.cs x) rfl<|kC (cmdIts x.c) HF (fun a0 h0=>p_command x.c _ a0 _ h0 (pfx HP (by first | exact ⟨_,rfl⟩ | exact List.prefix_rfl | exact pl List.prefix_rfl | exact pl (pl List.prefix_rfl) | exact pl (pl (pl List.prefix_rfl))))) fun w5 HF=>Nl ?_;simp only[pS];go_upto_region 4 with fail;refine Sg<|tK (pg g 0)<|tK (pg g1 13)<|kD (.bool x.d) HF 0 13 U4 rfl<|kC ([It.n (bif x.d then 1 else 0)]) HF (fun a0 h0=>p_flag x.d _ a0 _ h0 (pfx HP (by first | exact ⟨_,rfl⟩ | exact List.prefix_rfl | exact pl List.prefix_rfl | exact pl (pl List.prefix_rfl) | exact pl (pl (pl List.prefix_rfl))))) fun w6 HF=>Nl ?_;simp only[pS];go_wp2;rw [HC.out];have e:(((([It.n x.p.n,It.n x.p.c]++[It.n x.a.n,It.n x.a.c])++cmdIts x.c)++[It.n (bif x.d then 1 else 0)]):List It)=insIts x:=rfl;rw [← e];go_end0;exact HF.out.put
theorem p_block (x:Bl) (bs:List Int) (w:World) (a:Option Addr) (L:List It) (h:(pSink base g T ok len).St w a L) (hp:L++([It.n x.s.n,It.n x.s.c]++[It.b bs]) <+: T) (h1:RdB w x.d bs) (l1:Low base x.d):Calls Tryz.prog 38 #[.pointer (some ⟨g,0,none⟩),.agg (Bl.cells x)] w ((pSink base g T ok len).Put w a (L++([It.n x.s.n,It.n x.s.c]++[It.b bs]))):=by
  refine hidC fun C HC=>?_;have HP:Hid (L++([It.n x.s.n,It.n x.s.c]++[It.b bs]) <+: T):=hp;have HF:Hid (Kf (pSink base g T ok len) w w a (L++[]) []):=Kf.start h;have HBS:Hid (∀ k,(pSink base g T ok len).Wr a k→base≤k):=fun k hk=>s_base h hk;clear hp h;have HRB:Hid (RdB w x.d bs):=h1;have HLB:Hid (Low base x.d):=l1;clear h1 l1;go_enter Tryz.func38,Tryz.ntmps38;go_upto_region 0 with fail;refine Sg<|kB (Bl.cells x) HF (pT (t:=37)) fun g1 w2 HF=>?_;(try simp only[pS]);refine Nl ?_;(try simp only[pS]);go_upto_region 1 with fail;refine Sg<|tK (pg g 0)<|tK (pg g1 0)<|kP (Sp.cs x.s) HF 0 0 U35 S35 (Bl.cs x) rfl<|kC ([It.n x.s.n,It.n x.s.c]) HF (fun a0 h0=>p_stamp x.s _ a0 _ h0 (pfx HP (by first | exact ⟨_,rfl⟩ | exact List.prefix_rfl | exact pl List.prefix_rfl | exact pl (pl List.prefix_rfl) | exact pl (pl (pl List.prefix_rfl))))) fun w3 HF=>Nl ?_;simp only[pS];go_upto_region 2 with fail;refine wp_region_held_drew (S:=fun _=>True) rfl trivial (fun _=>?_);replace HF:Hid (Kf (pSink base g T ok len) w w3.drew a (L++[It.n x.s.n,It.n x.s.c]) [(g1,37,Bl.cells x)]):=HF.out.no (Kept.refl No _).drew;generalize w3.drew=w4 at HF ⊢;refine gK 0 8 (pg g 0)<|gK 1 9 (pg g 0)<|gK 2 10 (pg g 0)<|gK 3 11 (pg g1 2)<|gD 4 12 (x.d.v) HF 0 2 U30 rfl<|gC 5 13 ([It.b bs]) HF (fun a0 h0=>p_bytes x.d bs _ a0 _ h0 (pfx HP (by first | exact ⟨_,rfl⟩ | exact List.prefix_rfl | exact pl List.prefix_rfl | exact pl (pl List.prefix_rfl) | exact pl (pl (pl List.prefix_rfl)))) (RdB.keptL HRB.out HF.out.kept (fun h0 k hk e=>by have:=HBS.out k e;have:=HLB.out h0 k hk;omega)) HLB.out) fun w5 HF=>?_;(try simp only[pS]);refine wpAnyH_done (by kernel_rfl) ?_ _;(try simp only[pS]);go_wp2;rw [HC.out];have e:(([It.n x.s.n,It.n x.s.c]++[It.b bs]):List It)=([It.n x.s.n,It.n x.s.c]++[It.b bs]):=rfl;rw [← e];go_end0;exact HF.out.put
end
theorem at_uniq {a:Option Addr} {k b:Nat} (h:At a k) (h2:At a b):k=b:=by
  obtain ⟨x,e,rfl⟩:=h
  obtain ⟨y,e2,rfl⟩:=h2
  rw [e] at e2;cases e2;rfl
theorem low_B {w:World} {s:Sl} {bs:List Int} (h:RdB w s bs):Low w.heap.size s:=fun h0 k hk=>by
  obtain ⟨b,off,hsl,hc⟩:=h.at h0
  rw [at_uniq hk (at_v hsl)];exact World.block_lt_of_cell? w _ hc
theorem low_E {w:World} {s:Sl} {xs:List En} (h:RdE w s xs):Low w.heap.size s:=fun h0 k hk=>by
  obtain ⟨b,off,hsl,hc⟩:=h.at' h0
  rw [at_uniq hk (at_v hsl)];exact World.block_lt_of_cell? w _ (hc 0 _ rfl)
theorem low_L {w:World} {s:Sl} {xs:List La} (h:RdL w s xs):Low w.heap.size s:=fun h0 k hk=>by
  obtain ⟨b,off,hsl,hc⟩:=h.at' h0
  rw [at_uniq hk (at_v hsl)];exact World.block_lt_of_cell? w _ (hc 0 _ rfl)
def okL (L:List It):Prop:=∀ x∈L,itOk x
theorem okL_nil:okL []:=fun x h=>by simp at h
theorem okL_cons {x:It} {L:List It} (h:itOk x) (hL:okL L):okL (x :: L):=fun y hy=>by
  rcases List.mem_cons.1 hy with rfl | h2
  · exact h
  · exact hL y h2
theorem okL_app {A B:List It} (h:okL A) (hB:okL B):okL (A++B):=fun y hy=>by
  rcases List.mem_append.1 hy with h2 | h2
  · exact h y h2
  · exact hB y h2
theorem len_cons (x:It) (L:List It):itsLen (x :: L)=itLen x+itsLen L:=by simp [itsLen]
theorem len_nil:itsLen []=0:=rfl
theorem len_n (i:Int):itLen (.n i)=10:=rfl
theorem len_b (zs:List Int):itLen (.b zs)=10+zs.length:=rfl
theorem ok_name {nm:ByteArray} (h:nm.size≤255):itOk (.b (Wi.numsOf nm)):=⟨by rw [Wi.numsOf_len];omega,Wi.numsOf_u8 nm⟩
theorem fl_ok {f:Nat→List It} {n M:Nat} (h:∀ i,i < n→okL (f i)∧itsLen (f i)≤M):okL (fl f n)∧itsLen (fl f n)≤n * M:=by
  induction n with
  | zero=>exact ⟨okL_nil,by simp [fl0,len_nil]⟩
  | succ n ih=>
    obtain ⟨h1,h2⟩:=ih (fun i hi=>h i (by omega))
    obtain ⟨h3,h4⟩:=h n (by omega)
    rw [fl_succ]
    refine ⟨okL_app h1 h3,?_⟩
    rw [itsLen_app,Nat.succ_mul];omega
theorem wn_t {n lo hi:Int} (h:wn n lo hi=true):lo≤n∧n≤hi:=wn_iff.1 h
theorem oneS_t {s:Sp} (h:oneS s=true):(1≤s.n∧s.n≤1099511627776)∧1≤s.c∧s.c≤255:=by
  unfold oneS at h;rw [Bool.and_eq_true] at h;exact ⟨wn_t h.1,wn_t h.2⟩
theorem eqS_t {s:Sp} (h:eqS s spZ=true):s.n=0∧s.c=0:=by have:=eqS_iff.1 h;subst this;exact ⟨rfl,rfl⟩
theorem filB_t {f:Fi} (h:filB f=true):(1≤f.c∧f.c≤255)∧1≤f.o∧f.o≤1099511627776:=by
  unfold filB at h;rw [Bool.and_eq_true] at h;exact ⟨wn_t h.1,wn_t h.2⟩
theorem eqFi_t {f:Fi} (h:eqFi f fiZ=true):f.c=0∧f.o=0:=by
  unfold eqFi at h;rw [Bool.and_eq_true] at h;exact ⟨eq_of_beq h.1,eq_of_beq h.2⟩
theorem szB_t {B n:Int} (hB:0≤B∧B≤4096) (h:szB B n=true):0≤n∧n≤4294967296:=by
  have:=wn_t h;omega
theorem nameR_t2 {nm:ByteArray} (h:nameR nm=true):nm.size≤255:=by
  simp only[nameR,Bool.and_eq_true,Bool.not_eq_true',Bool.or_eq_false_iff,decide_eq_false_iff_not] at h
  omega
structure OkC (x:Cm):Prop where
  k:0≤x.k∧x.k≤7
  cl:0≤x.cl∧x.cl≤255
  op:0≤x.op∧x.op≤1099511627776
  nm:x.nm.size≤255
  f0:0≤x.f0∧x.f0≤255
  f1:0≤x.f1∧x.f1≤1099511627776
  g0:0≤x.g0∧x.g0≤255
  g1:0≤x.g1∧x.g1≤1099511627776
  sz:0≤x.sz∧x.sz≤4294967296
theorem cmdL_ok {B:Int} {x:Cm} (hB:0≤B∧B≤4096) (h:cmdP B x=true):OkC x:=by
  rw [cmd_eq] at h
  unfold cmdR at h
  cases e1:wn x.k 1 7
  · simp only[e1,bsq] at h;cases h
  cases e2:wn x.cl 1 255
  · simp only[e1,e2,bsq] at h;cases h
  cases e3:wn x.op 1 1099511627776
  · simp only[e1,e2,e3,bsq] at h;cases h
  simp only[e1,e2,e3,bsq] at h
  have hk:=wn_t e1
  have hc:=wn_t e2
  have ho:=wn_t e3
  have hn:x.nm.size≤255:=by
    cases e4:(x.k==4)
    · cases e5:nameR x.nm
      · simp only[e4,e5,bsq] at h;cases h
      · exact nameR_t2 e5
    · cases e5:eqN x.nm ⟨#[]⟩
      · simp only[e4,e5,bsq] at h;cases h
      · have:=eqN_iff.1 e5;rw [this];decide
  rcases Bool.eq_false_or_eq_true ((x.k==4&&!eqN x.nm ⟨#[]⟩)||(!(x.k==4)&&!nameR x.nm)) with e6 | e6
  · rw [e6] at h;cases h
  rw [e6] at h
  cases e7:decide (x.k < 5)
  · rw [e7] at h
    simp only[bsq] at h
    rcases Bool.eq_false_or_eq_true ((x.k==7&&!filB ⟨x.g0,x.g1⟩)||(!(x.k==7)&&!eqFi ⟨x.g0,x.g1⟩ fiZ)) with e8 | e8
    · rw [e8] at h;cases h
    rw [e8] at h
    simp only[bsq] at h
    rw [Bool.and_eq_true] at h
    have h1:=filB_t h.1
    have h2:=szB_t hB h.2
    have h3:(0≤x.g0∧x.g0≤255)∧0≤x.g1∧x.g1≤1099511627776:=by
      cases e9:(x.k==7)
      · cases e10:eqFi ⟨x.g0,x.g1⟩ fiZ
        · simp only[e9,e10,bsq] at e8;cases e8
        · have:=eqFi_t e10;simp only at this;omega
      · cases e10:filB ⟨x.g0,x.g1⟩
        · simp only[e9,e10,bsq] at e8;cases e8
        · have:=filB_t e10;simp only at this;omega
    simp only at h1
    exact ⟨by omega,by omega,by omega,hn,by omega,by omega,h3.1,h3.2,h2⟩
  · rw [e7] at h
    simp only[bsq] at h
    rw [Bool.and_eq_true,Bool.and_eq_true] at h
    have h1:=eqFi_t h.1
    have h2:=eqFi_t h.2.1
    have h3:=eq_of_beq h.2.2
    simp only at h1 h2
    exact ⟨by omega,by omega,by omega,hn,by omega,by omega,by omega,by omega,by omega⟩
theorem cmd_z {x:Cm} (h:eqC x cZ=true):OkC x:=by
  have:=eqC_iff.1 h
  subst this
  exact ⟨by decide,by decide,by decide,by decide,by decide,by decide,by decide,by decide,by decide⟩
theorem cmdIts_ok {x:Cm} (h:OkC x):okL (cmdIts x)∧itsLen (cmdIts x)≤345:=by
  have b:=h.nm
  unfold cmdIts
  cases x.k==0
  · refine ⟨okL_cons ⟨h.k.1,by have:=h.k.2;omega⟩ (okL_cons ⟨h.cl.1,by have:=h.cl.2;omega⟩ (okL_cons ⟨h.op.1,h.op.2⟩ (okL_cons (ok_name h.nm) (okL_cons ⟨h.f0.1,by have:=h.f0.2;omega⟩ (okL_cons ⟨h.f1.1,h.f1.2⟩ (okL_cons ⟨h.g0.1,by have:=h.g0.2;omega⟩ (okL_cons ⟨h.g1.1,h.g1.2⟩ (okL_cons ⟨h.sz.1,by have:=h.sz.2;omega⟩ okL_nil)))))))),?_⟩
    simp only[cond_false,len_cons,len_nil,len_n,len_b,Wi.numsOf_len]
    omega
  · refine ⟨okL_cons ⟨h.k.1,by have:=h.k.2;omega⟩ okL_nil,?_⟩
    simp only[cond_true,len_cons,len_nil,len_n]
    omega
theorem entIts_ok {B:Int} {es:List En} {i:Nat} (hB:0≤B∧B≤4096) (h:entP B es i=true):okL (entIts (eAt es i))∧itsLen (entIts (eAt es i))≤295:=by
  unfold entP at h
  rw [Bool.and_eq_true,Bool.and_eq_true,Bool.and_eq_true] at h
  have h1:=nameR_t2 (by rw [← name_eq];exact h.2.1)
  have h2:=filB_t h.2.2.1
  have h3:=szB_t hB h.2.2.2
  simp only at h2
  unfold entIts
  refine ⟨okL_cons (ok_name h1) (okL_cons ⟨by omega,by omega⟩ (okL_cons ⟨by omega,by omega⟩ (okL_cons ⟨by omega,by omega⟩ okL_nil))),?_⟩
  simp only[len_cons,len_nil,len_n,len_b,Wi.numsOf_len]
  omega
theorem ansP_t {B:Int} {l:La} (hB:0≤B∧B≤4096) (h:ansP B l=true):(0≤l.er∧l.er≤104)∧(0≤l.f0∧l.f0≤255)∧(0≤l.f1∧l.f1≤1099511627776)∧0≤l.sz∧l.sz≤4294967296:=by
  unfold ansP at h
  cases e1:(l.er==0||(l.er==101||l.er==104))
  · rw [e1] at h
    simp only[bsq] at h
    cases e2:(l.er==102||l.er==103)
    · rw [e2] at h;cases h
    · rw [e2] at h
      simp only[bsq] at h
      rw [Bool.and_eq_true] at h
      have h1:=eqFi_t h.1
      have h2:=eq_of_beq h.2
      simp only[Bool.or_eq_true,beq_iff_eq] at e2
      simp only at h1
      omega
  · rw [e1] at h
    simp only[bsq] at h
    rw [Bool.and_eq_true] at h
    have h1:=filB_t h.1
    have h2:=szB_t hB h.2
    simp only[Bool.or_eq_true,beq_iff_eq] at e1
    simp only at h1
    omega
theorem lasIts_ok {B up:Int} {ls:List La} {i:Nat} (hB:0≤B∧B≤4096) (hu:up≤1048576) (h:lasP B up ls i=true):okL (lasIts (lAt ls i))∧itsLen (lasIts (lAt ls i))≤70:=by
  unfold lasP at h
  rw [Bool.and_eq_true,Bool.and_eq_true,Bool.and_eq_true,Bool.and_eq_true] at h
  have h1:=wn_t h.2.1
  have h2:=wn_t h.2.2.1
  have h3:=wn_t h.2.2.2.1
  have h4:=ansP_t hB h.2.2.2.2
  unfold lasIts
  refine ⟨okL_cons ⟨by omega,by omega⟩ (okL_cons ⟨by omega,by omega⟩ (okL_cons ⟨by omega,by omega⟩ (okL_cons ⟨by omega,by omega⟩ (okL_cons ⟨by omega,by omega⟩ (okL_cons ⟨by omega,by omega⟩ (okL_cons ⟨by omega,by omega⟩ okL_nil)))))),?_⟩
  simp only[len_cons,len_nil,len_n]
  omega
theorem las_cnt {B up:Int} {ls:List La} (h:∀ i,i < ls.length→lasP B up ls i=true):ls.length≤255:=by
  have key:∀ i,i < ls.length→(i:Int)+1≤(lAt ls i).cl:=by
    intro i
    induction i with
    | zero=>
      intro hi
      have h1:=h 0 hi
      unfold lasP at h1
      rw [Bool.and_eq_true,Bool.and_eq_true] at h1
      have:=wn_t h1.2.1
      omega
    | succ i ih=>
      intro hi
      have h1:=h (i+1) hi
      unfold lasP at h1
      rw [Bool.and_eq_true,Bool.and_eq_true] at h1
      have h2:=ih (by omega)
      have h3:¬ (lAt ls (i+1)).cl≤lastC ls (i+1):=by simpa using h1.1
      have h4:lastC ls (i+1)=(lAt ls i).cl:=rfl
      omega
  by_cases h0:ls.length=0
  · omega
  · have h1:=key (ls.length - 1) (by omega)
    have h2:=h (ls.length - 1) (by omega)
    unfold lasP at h2
    rw [Bool.and_eq_true,Bool.and_eq_true] at h2
    have:=wn_t h2.2.1
    omega
theorem rng_all {n:Nat} {p:Nat→Bool} (h:(List.range n).all p=true):∀ i,i < n→p i=true:=fun i hi=>List.all_eq_true.1 h i (List.mem_range.2 hi)
theorem bktIts_ok {B rm:Int} {x:Bv} {es:List En} {ls:List La} (hB:0≤B∧B≤4096) (hr:rm≤256) (he:es.length=x.e.l) (hl:ls.length=x.l.l) (h:bktP B rm x es ls=true):okL (bktIts x es ls)∧itsLen (bktIts x es ls)≤93500:=by
  unfold bktP at h
  have key:∃ a b:Nat,x.e.l=a∧x.l.l=b∧a≤256∧b≤255∧0≤x.up∧x.up≤1048576∧(∀ i,i < x.e.l→entP B es i=true)∧∀ i,i < x.l.l→lasP B x.up ls i=true:=by
    cases e1:(x.up==0)
    · rw [e1] at h
      simp only[bsq] at h
      rw [Bool.and_eq_true,Bool.and_eq_true] at h
      have hu:=wn_t h.1
      have h2:=h.2.1
      unfold entsP at h2
      rw [Bool.and_eq_true] at h2
      have h3:¬ rm < ((es.length:Nat):Int):=by simpa using h2.1
      have h4:=rng_all h.2.2
      have h5:=las_cnt h4
      exact ⟨x.e.l,x.l.l,rfl,rfl,by omega,by omega,by omega,by omega,fun i hi=>rng_all h2.2 i (by omega),fun i hi=>h4 i (by omega)⟩
    · rw [e1] at h
      simp only[bsq] at h
      unfold empK at h
      rw [Bool.and_eq_true,Bool.and_eq_true] at h
      have h1:=eq_of_beq h.1
      have h2:=eq_of_beq h.2.1
      have h3:=eq_of_beq h.2.2
      exact ⟨x.e.l,x.l.l,rfl,rfl,by omega,by omega,by omega,by omega,fun i hi=>by omega,fun i hi=>by omega⟩
  obtain ⟨a,b,ha,hb,h1,h2,h3,h4,h5,h6⟩:=key
  obtain ⟨k1,k2⟩:=fl_ok (f:=fun j=>entIts (eAt es j)) (n:=x.e.l) (M:=295) (fun i hi=>entIts_ok hB (h5 i hi))
  obtain ⟨k3,k4⟩:=fl_ok (f:=fun j=>lasIts (lAt ls j)) (n:=x.l.l) (M:=70) (fun i hi=>lasIts_ok hB h4 (h6 i hi))
  unfold bktIts
  refine ⟨okL_app (okL_app (okL_app (okL_cons ⟨h3,by omega⟩ (okL_cons ⟨by omega,by omega⟩ okL_nil)) k1) (okL_cons ⟨by omega,by omega⟩ okL_nil)) k3,?_⟩
  rw [itsLen_app,itsLen_app,itsLen_app]
  simp only[len_cons,len_nil,len_n]
  rw [ha] at k2 ⊢
  rw [hb] at k4 ⊢
  omega
def itOf (x:Wi.Item):It:=if x.k=1 then It.n x.n else It.b x.zs
def itmV (x:Wi.Item):List Value:=[.int .i64 x.k,.int .i64 x.n,.slice x.a x.m x.c]
def itsV (xs:List Wi.Item):List Value:=(xs.map itmV).flatten
def Bye (base:Nat) (w:World) (a:Option Addr):Prop:=∀ k,At a k→k < base∨∃ cs fr,w.heap[k]?=some (.cells cs 5 fr)
structure OkX (base:Nat) (w:World) (x:Wi.Item):Prop where
  kd:x.k=1∨x.k=3
  ok:Wi.ItOq w x
  by':0 < x.m→Bye base w x.a
  m0:x.k=1→x.m=0
structure OutS (base g:Nat) (w:World) (a:Option Addr) (L:List It) (xs:List Wi.Item) (n c:Nat):Prop where
  box:Box w g 224 #[.slice a n c]
  own:Own 234 3 w base a c n (itsV xs)
  len:xs.length=n
  is:xs.map itOf=L
  ok:∀ x∈xs,OkX base w x
  bg:base≤g
theorem OkX.keep {base:Nat} {S:Nat→Prop} {w w':World} {x:Wi.Item} (h:OkX base w x) (hk:Kept S w w') (hS:0 < x.m→∀ k,At x.a k→¬ S k):OkX base w' x:=by
  refine ⟨h.kd,⟨?_,h.ok.lo,h.ok.hi⟩,fun h0 k hk2=>?_,h.m0⟩
  · exact Wi.Sq.kept (S:=S) h.ok.sl ⟨hk.os,hk.tape,hk.output,hk.size,hk.block⟩ hS
  · rcases h.by' h0 k hk2 with h1 | ⟨cs,fr,h1⟩
    · exact .inl h1
    · exact .inr ⟨cs,fr,(hk.block k (Array.getElem?_eq_some_iff.1 h1).1 (hS h0 k hk2)).trans h1⟩
theorem own_typ {t:TypeId} {c:Nat} {w:World} {base:Nat} {a:Option Addr} {cap n:Nat} {vs:List Value} (h:Own t c w base a cap n vs) {k:Nat} (hk:At a k):∃ cur,w.heap[k]?=some (.cells cur t (0,0)):=by
  obtain ⟨ad,rfl,rfl⟩:=hk
  rcases h.2 with ⟨hv,_⟩ | ⟨g,cap',cur,hv,hb,hg,_⟩
  · simp only[Value.slice.injEq] at hv;cases hv.1
  · simp only[Value.slice.injEq,Option.some.injEq] at hv;rw [hv.1];exact ⟨cur,hg⟩
theorem cells_ty {w:World} {k:Nat} {c1 c2:Array Value} {t1 t2:TypeId} {f1 f2:Nat × Nat} (h1:w.heap[k]?=some (.cells c1 t1 f1)) (h2:w.heap[k]?=some (.cells c2 t2 f2)):t1=t2:=by
  rw [h1] at h2;injection h2 with e;injection e with _ e2
theorem OutS.keep {base g:Nat} {S:Nat→Prop} {w w':World} {a:Option Addr} {L:List It} {xs:List Wi.Item} {n c:Nat} (h:OutS base g w a L xs n c) (hk:Kept S w w') (hg:¬ S g) (ha:∀ k,At a k→¬ S k) (hx:∀ x∈xs,0 < x.m→∀ k,At x.a k→¬ S k):OutS base g w' a L xs n c:=
  ⟨h.box.kept hk hg,h.own.kept hk ha,h.len,h.is,fun x hm=>(h.ok x hm).keep hk (hx x hm),h.bg⟩
theorem OutS.lt {base g:Nat} {w:World} {a:Option Addr} {L:List It} {xs:List Wi.Item} {n c:Nat} (h:OutS base g w a L xs n c) {k:Nat} (hk:k=g∨At a k):base≤k:=by
  rcases hk with rfl | hk
  · exact h.bg
  · exact h.own.base hk
theorem OkX.off {base g:Nat} {w:World} {a:Option Addr} {L:List It} {xs:List Wi.Item} {n c:Nat} (h:OutS base g w a L xs n c) {x:Wi.Item} (hx:OkX base w x) (h0:0 < x.m) {k:Nat} (hk:At x.a k):¬ (k=g∨At a k):=by
  intro e
  rcases hx.by' h0 k hk with h1 | ⟨cs,fr,h1⟩
  · have:=h.lt e;omega
  · rcases e with rfl | e
    · have:=cells_ty h1 h.box;cases this
    · obtain ⟨cur,h2⟩:=own_typ h.own e
      have:=cells_ty h1 h2;cases this
def rSink (base g:Nat) (T:List It) (ok:∀ x∈T,itOk x) (len:itsLen T≤131072):Sink where
  g:=g
  base:=base
  bad t:=t=224∨t=234∨t=5
  T:=T
  ok:=ok
  len:=len
  St w a L:=∃ xs n c,OutS base g w a L xs n c
  no:=fun ⟨xs,n,c,h⟩ hk=>⟨xs,n,c,h.keep hk (fun e=>e) (fun _ _ e=>e) (fun _ _ _ _ _ e=>e)⟩
  set:=fun {w a L k t cs} ⟨xs,n,c,h⟩ hb h1 hbk cs'=>⟨xs,n,c,h.keep (Kept.setRow w k cs') (fun e=>h1 (.inl (by
      have e1:g=k:=e
      subst e1
      exact cells_ty hb h.box))) (fun k2 hk e=>h1 (.inr (.inl (by
      have e1:k2=k:=e
      subst e1
      obtain ⟨cur,h2⟩:=own_typ h.own hk
      exact cells_ty hb h2)))) (fun x hm h0 k2 hk e=>by
      have e1:k2=k:=e
      subst e1
      rcases (h.ok x hm).by' h0 k2 hk with h2 | ⟨cs2,fr,h2⟩
      · omega
      · exact h1 (.inr (.inr (cells_ty hb h2))))⟩
  bs:=fun ⟨xs,n,c,h⟩=>Nat.le_of_lt (Nat.lt_of_le_of_lt h.bg h.box.lt)
  apart:=fun {w a L k t cs} ⟨xs,n,c,h⟩ hb h1 e=>by
    rcases e with rfl | e
    · exact h1 (.inl (cells_ty hb h.box))
    · obtain ⟨cur,h2⟩:=own_typ h.own e
      exact h1 (.inr (.inl (cells_ty hb h2)))
section
variable {base g:Nat} {T:List It} {ok:∀ x∈T,itOk x} {len:itsLen T≤131072}
end
section
variable {base g:Nat} {T:List It} {ok:∀ x∈T,itOk x} {len:itsLen T≤131072}
end
section
variable {ops:Array Oper} {rest:List Oper} {o:Oper} {a:Act} {w:World} {Q:Exit→Act→World→Prop} {K:Sink} {w0:World} {a0:Option Addr} {L:List It} {l:List (Nat × TypeId × Array Value)}
end
theorem load_sub {w:World} {t b off:Nat} {sub:List Value} (hc:∀ (j:Nat) v,sub[j]?=some v→w.cell? ⟨b,off+j,none⟩=some v) {d:TypeDesc} (hu:Tryz.prog.underlying t=some d) (hd:(match d with | .struct _ | .array _ _=>true | _=>false)=true) (hi:(Tryz.prog.info? t).map (·.size)=some sub.length) :
    (loadVar t ⟨b,off,none⟩).run Tryz.prog w=.ok (.agg sub.toArray) w:=by
  have hl:(loadCells ⟨b,off,none⟩ sub.length).run Tryz.prog w=.ok sub.toArray w:=
    run_loadCells_list (P:=Tryz.prog) w ⟨b,off,none⟩ sub (fun j v hv=>by rw [addr_add];exact hc j v hv)
  cases hq:Tryz.prog.info? t with
  | none=>simp [hq] at hi
  | some i=>
    have hs:i.size=sub.length:=by simpa [hq] using hi
    have hagg:(isAgg t).run Tryz.prog w=.ok true w:=by
      unfold isAgg
      rw [Sem.run_bind,run_underlying hu w]
      cases d <;> simp_all
    simp [loadVar,Sem.run_bind,hagg,sizeOf,typeInfo,hq,hs,hl]
section
variable {base g:Nat} {T:List It} {ok:∀ x∈T,itOk x} {len:itsLen T≤131072}
end
open Classical in
theorem cfg_ids {c:Cg} {zs:List Int} (h:cfgP c zs=true):∀ i,i < zs.length→1≤zs[i]?.getD 0∧zs[i]?.getD 0≤255:=by
  unfold cfgP Wi.cfgB at h
  rw [Bool.and_eq_true] at h
  have:=of_decide_eq_true h.1
  exact fun i hi=>(this.2 i hi).1
def encIt:It→List Int
  | .n i=>Wi.vint i.toNat
  | .b zs=>Wi.vint zs.length++zs
def encB (L:List It):List Int:=(L.map encIt).flatten
theorem putT_some {x:It} (h:itOk x) (ys:List Int):putT (some ys) x=some (ys++encIt x):=by
  cases x with
  | n i=>show Wi.putNum (some ys) i=_;unfold Wi.putNum;rw [if_neg (by have:=h.1;omega)];rfl
  | b zs=>rfl
theorem putTs_some {L:List It} (h:okL L):putTs L=some (encB L):=by
  suffices H:∀ (L:List It) (ys:List Int),okL L→L.foldl putT (some ys)=some (ys++encB L) by
    have:=H L [] h;simpa [putTs] using this
  intro L
  induction L with
  | nil=>intro ys _;simp [encB]
  | cons x r ih=>
    intro ys h
    rw [List.foldl_cons,putT_some (h x (List.mem_cons_self ..)),ih _ (fun y hy=>h y (List.mem_cons_of_mem _ hy))]
    simp [encB]
theorem encB_len {L:List It} (h:okL L):(encB L).length≤itsLen L:=by
  have h1:=putTs_len L h
  rw [putTs_some h] at h1
  exact h1
theorem encB_u8 {L:List It} (h:okL L):Wi.U8 (encB L):=by
  induction L with
  | nil=>exact Wi.U8.nil
  | cons x r ih=>
    have h1:encB (x :: r)=encIt x++encB r:=by simp [encB]
    rw [h1]
    refine Wi.U8.append ?_ (ih (fun y hy=>h y (List.mem_cons_of_mem _ hy)))
    have h2:=h x (List.mem_cons_self ..)
    cases x with
    | n i=>exact Wi.vint_u8 _
    | b zs=>exact Wi.U8.append (Wi.vint_u8 _) h2.2
structure EncO (w:World) (err:Int) (bytes:List Int) (e:Ending) (w':World):Prop where
  out:∃ s:Sl,e=.returned (.tuple #[s.v,.int .i64 err])∧RdB w' s bytes∧s.l≤131084∧Kept No w w'
def encR (b:Bool) (L:List It):List Int:=bif b then Wi.sealOf (encB L) else []
theorem RdB.nilS (w:World):RdB w slZ []:=⟨fun i hi=>absurd hi (Nat.not_lt_zero _),rfl,fun _=>rfl⟩
theorem own_rdB {w:World} {base:Nat} {a:Option Addr} {n c:Nat} {zs:List Int} (h:Wi.OwnS w base a c zs) (hn:zs.length=n):RdB w ⟨a,n,c⟩ zs:=by
  refine ⟨h.bytes,hn,fun e=>?_⟩
  rcases h.cases with ⟨_,h2⟩ | ⟨g,h1,_⟩
  · exact h2.1
  · have e:a=none:=e
    rw [e] at h1;cases h1
theorem pPut' {base g:Nat} {T:List It} {ok:∀ x∈T,itOk x} {len:itsLen T≤131072} {w:World} {a:Option Addr} {L:List It} {body:List Int} (hb:putTs L=some body) {f:FuncId} {args:Array Value} (h:Calls Tryz.prog f args w ((pSink base g T ok len).Put w a L)) :
    Calls Tryz.prog f args w (Wi.Puts w base g a (some body)):=
  h.mono (by rintro e w' ⟨rfl,a',⟨c',h1⟩,h2,h3⟩;exact ⟨rfl,a',c',by rw [← hb];exact h1,⟨h2.os,h2.tape,h2.output,h2.size,fun k hk hS=>h2.block k hk hS⟩,h3⟩)
section
variable {ops:Array Oper} {rest:List Oper} {o:Oper} {a:Act} {w:World} {Q:Exit→Act→World→Prop} {S:Nat→Prop} {w0:World} {l:List (Nat × TypeId × Array Value)}
theorem cEn {f:FuncId} {args:Array Value} {err:Int} {bytes:List Int} (hc:Calls Tryz.prog f args w (EncO w err bytes)) (HF:Hid (Fq S w0 w l))
    (h:∀ (s:Sl) w',Hid (Fq S w0 w' l)→Hid (RdB w' s bytes)→s.l≤131084→WL ops Q rest (a.put o.dst (.tuple #[s.v,.int .i64 err])) w') (hrun:(execOp a.eval o).run Tryz.prog w=.ok (.enter f args) w:=by kernel_rfl) (hw:Region.wanted o (yielded ops a.tmps)=true:=by kernel_rfl):WL ops Q (o :: rest) a w:=
  wp_callW f args hrun _ hc hw (by rintro e w' ⟨s,rfl,h1,h2,hk⟩;exact ⟨_,rfl,h s w' (HF.out.no hk) h1 h2⟩)
end
theorem jdg_ne {a b:Bool} {r:Int} (h:(a&&b)=false) (hr:r≠0):jdg a b r≠0:=by
  cases a <;> cases b <;> first | (cases h;done) | (unfold jdg;simp;try exact hr)
section
variable {base g:Nat} {T:List It} {ok:∀ x∈T,itOk x} {len:itsLen T≤131072}
end
section
variable {base g:Nat} {T:List It} {ok:∀ x∈T,itOk x} {len:itsLen T≤131072}
end
theorem Fq.sink {w0 w:World} {l:List (Nat × TypeId × Array Value)} {g:Nat} {T:List It} {ok:∀ x∈T,itOk x} {len:itsLen T≤131072} (h:Fq No w0 w (l++[(g,224,#[.slice none 0 0])])) (ht:∀ (i:Nat) g' t cs,l[i]?=some (g',t,cs)→¬ (t=224∨t=234∨t=5)) :
    Kf (rSink w0.heap.size g T ok len) w0 w none ([]++[]) l:=by
  have hl:(l++[(g,224,#[.slice none 0 0])])[l.length]?=some (g,224,#[.slice none 0 0]):=by rw [List.getElem?_append_right (Nat.le_refl _),Nat.sub_self];rfl
  have hg:w0.heap.size≤g:=(h.low _ _ _ _ hl).elim id False.elim
  have hf:=h.front
  exact ⟨hf.kept.of_no,Nat.le_refl _,⟨none,⟨[],0,0,⟨h.box _ _ _ _ hl,⟨rfl,.inl ⟨rfl,rfl⟩⟩,rfl,rfl,fun x hx=>by simp at hx,hg⟩⟩,fun k hk=>absurd hk At.none⟩,hf.box,fun i g' t cs hi=>(hf.low i g' t cs hi).elim id False.elim,hf.inj,fun i g' t cs hi=>ht i g' t cs hi⟩
section
variable {ops:Array Oper} {rest:List Oper} {o:Oper} {a:Act} {w:World} {Q:Exit→Act→World→Prop} {w0:World} {l:List (Nat × TypeId × Array Value)}
end
def stP (s:Sp):Bool:=eqS s spZ||oneS s
def insP (B:Int) (x:In):Bool:=bif x.d then eqS x.p spZ&&(eqS x.a spZ&&cmdP B x.c) else stP x.p&&heldP B x.p x.a x.c
theorem stP_t {s:Sp} (h:stP s=true):(0≤s.n∧s.n≤1099511627776)∧0≤s.c∧s.c≤255:=by
  unfold stP at h;rw [Bool.or_eq_true] at h
  rcases h with h | h
  · have:=eqS_t h;omega
  · have:=oneS_t h;omega
theorem ins_ok {B:Int} {x:In} (hB:0≤B∧B≤4096) (h:insP B x=true):okL (insIts x)∧itsLen (insIts x)≤131072:=by
  have key:((0≤x.p.n∧x.p.n≤1099511627776)∧0≤x.p.c∧x.p.c≤255)∧((0≤x.a.n∧x.a.n≤1099511627776)∧0≤x.a.c∧x.a.c≤255)∧OkC x.c:=by
    unfold insP at h;cases hd:x.d
    · rw [hd] at h
      simp only[cond_false] at h;rw [Bool.and_eq_true] at h;refine ⟨stP_t h.1,?_⟩;have h2:=h.2;unfold heldP at h2;cases ha:eqS x.a spZ
      · rw [ha] at h2
        simp only[cond_false] at h2;rw [Bool.and_eq_true,Bool.and_eq_true] at h2;have:=oneS_t h2.1;exact ⟨by omega,cmdL_ok hB h2.2.2⟩
      · rw [ha] at h2
        have:=eqS_t ha;exact ⟨by omega,cmd_z h2⟩
    · rw [hd] at h
      simp only[cond_true] at h;rw [Bool.and_eq_true,Bool.and_eq_true] at h;have:=eqS_t h.1;have:=eqS_t h.2.1;exact ⟨by omega,by omega,cmdL_ok hB h.2.2⟩
  obtain ⟨h1,h2,h3⟩:=key;obtain ⟨k1,k2⟩:=cmdIts_ok h3;unfold insIts;refine ⟨okL_app (okL_app (okL_app (okL_cons ⟨by omega,by omega⟩ (okL_cons ⟨by omega,by omega⟩ okL_nil)) (okL_cons ⟨by omega,by omega⟩ (okL_cons ⟨by omega,by omega⟩ okL_nil))) k1) (okL_cons ?_ okL_nil),?_⟩
  · cases x.d <;> exact ⟨by decide,by decide⟩
  · rw [itsLen_app,itsLen_app,itsLen_app]
    simp only[len_cons,len_nil,len_n];omega
def blkIts (x:Bl) (bs:List Int):List It:=[It.n x.s.n,It.n x.s.c]++[It.b bs]
structure BlIn (w:World) (x:Bl) (bs:List Int):Prop where
  b:RdB w x.d bs
  nb:x.d.l≤140737488351232
  u:Wi.U8 bs
theorem BlIn.no {w w':World} {x:Bl} {bs:List Int} (H:BlIn w x bs) (hk:Kept No w w'):BlIn w' x bs:=⟨H.b.no hk,H.nb,H.u⟩
structure InIn (w:World) (x:In):Prop where
  d:x=x
theorem InIn.no {w w':World} {x:In} (H:InIn w x) (hk:Kept No w w'):InIn w' x:=⟨rfl⟩
theorem blk_ok {B:Int} {x:Bl} {bs:List Int} {w:World} (hB:0≤B∧B≤4096) (hm:BlIn w x bs) (h:blkB B x bs=true):okL (blkIts x bs)∧itsLen (blkIts x bs)≤131072:=by
  unfold blkB at h;rw [Bool.and_eq_true] at h;have h0:((x.d.l:Nat):Int)=B:=eq_of_beq h.1;have hl:=hm.b.len;have h2:stP x.s=true:=by
    have h3:=h.2;unfold stP;rw [Bool.or_eq_true] at h3 ⊢
    rcases h3 with h3 | h3
    · exact .inr h3
    · rw [Bool.and_eq_true] at h3;exact .inl h3.1
  have h1:=stP_t h2;unfold blkIts;refine ⟨okL_app (okL_cons ⟨by omega,by omega⟩ (okL_cons ⟨by omega,by omega⟩ okL_nil)) (okL_cons ⟨by omega,hm.u⟩ okL_nil),?_⟩;rw [itsLen_app];simp only[len_cons,len_nil,len_n,len_b];omega
theorem bktK_ok {B rm:Int} {x:Bv} {es:List En} {ls:List La} {w:World} (hB:0≤B∧B≤4096) (hr:rm≤256) (hm:BkIn w x es ls) (h:bktP B rm x es ls=true):okL (bktIts x es ls)∧itsLen (bktIts x es ls)≤131072:=by
  obtain ⟨h1,h2⟩:=bktIts_ok hB hr hm.e.len hm.l.len h;exact ⟨h1,by omega⟩
theorem p_rightStamp (x:Sp) (w:World):Calls Tryz.prog 85 #[.agg (Sp.cells x)] w (fun e w'=>e=.returned (.bool (stP x))∧Kept No w w'):=by
  refine hidC fun C HC=>?_;have HF:Hid (Fq No w w []):=Fq.start _ _;go_enter Tryz.func85,Tryz.ntmps85;go_upto_region 0 with fail;refine Sg<|xB (Sp.cells x) HF fun g1 w2 HF=>tF<|Nl ?_;simp only[pS];go_upto_region 1 with fail;refine Sg<|lP (Sp.cs x) HF 0 0 U35 S35 (Sp.cs x) rfl<|?_;simp only[pS];cases q1:(eqS x spZ);rotate_left
  ·refine cB (p_isNone x _) q1 HF fun w6 HF=>tU<|sK<|sK<|tU<|tU<|Nl ?_;simp only[pS];go_wp2;exact lf C HC HF (by simp only[*,stP,bsq])
  refine cB (p_isNone x _) q1 HF fun w3 HF=>tF<|lP (Sp.cs x) HF 0 0 U35 S35 (Sp.cs x) rfl<|?_;simp only[pS];cases q2:(oneS x)
  ·refine cB (p_isOne x _) q2 HF fun w4 HF=>tF<|tF<|Nl ?_;simp only[pS];go_wp2;exact lf C HC HF (by simp only[*,stP,bsq])
  refine cB (p_isOne x _) q2 HF fun w5 HF=>tU<|tU<|Nl ?_;simp only[pS];go_wp2;exact lf C HC HF (by simp only[*,stP,bsq])
theorem p_rightInstance (x:In) (c:Cg) (w:World) (hb:0≤c.bl∧c.bl≤4096):Calls Tryz.prog 42 #[.agg (In.cells x),.agg (Cg.cells c)] w (fun e w'=>e=.returned (.bool (insP c.bl x))∧Kept No w w'):=by
  refine hidC fun C HC=>?_;have HB:Hid (0≤c.bl∧c.bl≤4096):=hb;clear hb;have HF:Hid (Fq No w w []):=Fq.start _ _;go_enter Tryz.func42,Tryz.ntmps42;go_upto_region 0 with fail;refine Sg<|xB (In.cells x) HF fun g1 w2 HF=>xB (Cg.cells c) HF fun g3 w4 HF=>tF<|Nl ?_;simp only[pS];go_upto_region 1 with fail;refine Sg<|tK (pg g1 13)<|lD (.bool x.d) HF 0 13 U4 rfl<|Nl ?_;simp only[pS];cases q1:(x.d)
  ·go_upto_region 3 with fail;refine Sg<|tK (pg g1 0)<|lP (Sp.cs x.p) HF 0 0 U35 S35 (In.cs x) rfl<|?_;simp only[pS];cases q2:(stP x.p)
   ·refine cB (p_rightStamp x.p _) q2 HF fun w5 HF=>tF<|sK<|sK<|sK<|sK<|sK<|sK<|sK<|sK<|tF<|tF<|Nl ?_;simp only[pS];go_wp2;exact lf C HC HF (by simp only[*,insP,bsq])
   refine cB (p_rightStamp x.p _) q2 HF fun w6 HF=>tU<|tK (pg g1 0)<|lP (Sp.cs x.p) HF 0 0 U35 S35 (In.cs x) rfl<|tK (pg g1 2)<|lP (Sp.cs x.a) HF 0 2 U35 S35 (In.cs x) rfl<|tK (pg g1 4)<|lP (Cm.cs x.c) HF 0 4 U45 S45 (In.cs x) rfl<|lP (Cg.cs c) HF 1 0 U24 S24 (Cg.cs c) rfl<|?_;simp only[pS];cases q3:(heldP c.bl x.p x.a x.c)
   ·refine cB (p_rightHeld x.p x.a x.c c _ HB) q3 HF fun w7 HF=>tF<|tF<|Nl ?_;simp only[pS];go_wp2;exact lf C HC HF (by simp only[*,insP,bsq])
   refine cB (p_rightHeld x.p x.a x.c c _ HB) q3 HF fun w8 HF=>tU<|tU<|Nl ?_;simp only[pS];go_wp2;exact lf C HC HF (by simp only[*,insP,bsq])
  go_upto_region 2 with fail;refine Sg<|tK (pg g1 0)<|lP (Sp.cs x.p) HF 0 0 U35 S35 (In.cs x) rfl<|?_;simp only[pS];cases q4:(eqS x.p spZ)
  ·refine cB (p_isNone x.p _) q4 HF fun w9 HF=>tF<|sK<|sK<|sK<|tF<|tF<|sK<|sK<|sK<|sK<|tF<|tF<|Nl ?_;simp only[pS];go_wp2;exact lf C HC HF (by simp only[*,insP,bsq])
  refine cB (p_isNone x.p _) q4 HF fun w10 HF=>tU<|tK (pg g1 2)<|lP (Sp.cs x.a) HF 0 2 U35 S35 (In.cs x) rfl<|?_;simp only[pS];cases q5:(eqS x.a spZ)
  ·refine cB (p_isNone x.a _) q5 HF fun w11 HF=>tF<|tF<|sK<|sK<|sK<|sK<|tF<|tF<|Nl ?_;simp only[pS];go_wp2;exact lf C HC HF (by simp only[*,insP,bsq])
  refine cB (p_isNone x.a _) q5 HF fun w12 HF=>tU<|tU<|tK (pg g1 4)<|lP (Cm.cs x.c) HF 0 4 U45 S45 (In.cs x) rfl<|lP (Cg.cs c) HF 1 0 U24 S24 (Cg.cs c) rfl<|?_;simp only[pS];cases q6:(cmdP c.bl x.c)
  ·refine cB (p_rightCommand x.c c _ HB) q6 HF fun w13 HF=>tF<|tF<|Nl ?_;simp only[pS];go_wp2;exact lf C HC HF (by simp only[*,insP,bsq])
  refine cB (p_rightCommand x.c c _ HB) q6 HF fun w14 HF=>tU<|tU<|Nl ?_;simp only[pS];go_wp2;exact lf C HC HF (by simp only[*,insP,bsq])
end Go.Proofs.YtgdnofacgfjaeabGreat.Md
