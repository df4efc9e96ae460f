import Derived.Test.YtofinpocigbbeaaGreatKaz
import Derived.Test.YtofinpocigbbeaaGreatKay
import Derived.Test.YtofinpocigbbeaaGreatKau
import Derived.Laws.MakeOwn
import Derived.Laws.StructEq
import Derived.Deep.OwnRows
set_option maxHeartbeats 1000000
set_option maxRecDepth 100000
set_option linter.unusedSimpArgs false
namespace Go.Proofs.YtofinpocigbbeaaGreat
open Go.Proofs.Tryz Go.RowKit
attribute [local go_sem ↓] Go.wp_at_zero Go.wp_at_succ
variable{F:Nat->Nat->Value}{S:Nat->Prop}{bv ov v:Value}{c g i:Nat}{l:List R4}{st:St}{w w' w1:World}
theorem P9(hw:Wf st)(hsb:Hg st)(id:Nat)(hid:id∈st.order)(w:World)(h:Aw w S c st bv):
  Calls prog 131 #[pj c,vj id] w (Ff S c bv st id w):=by
 cases hp:st.puts id with
 |true=>exact Pz hw hsb id hid hp w h
 |false=>exact Rh hw id hid hp w h
def BW(s:Sf):Sf:={s with now:=s.next,kept:=Cn s.next}
theorem Xb(st:St)(hi:i<st.sfs.length):stk (upd st i BW) i=cm st i:=by
 have hs:(upd st i BW).sf i=BW (st.sf i):=by rw[Bf st i BW i hi,if_pos rfl]
 have hb:∀x,(upd st i BW).isB x=st.isB x:=fun x=>by
  unfold St.isB;rw[Ct,Bf st i BW _ hi];split
  ·rename_i e;rw[<-e];rfl
  ·rfl
 have hp:(upd st i BW).puts i=st.puts i:=by
  unfold St.puts;rw[hs,hb];rfl
 unfold stk cm;rw[hp,hs];have hl:(upd (upd st i BW) i Fe).sfs=(upd st i Ph).sfs:=by
  unfold upd;apply List.ext_getElem?;intro j;simp only[List.getElem?_modify];cases st.sfs[j]?with
  |none=>rfl
  |some a=>
   by_cases e:i=j
   ·simp[e,BW,Fe,Ph]
   ·simp[e]
 show St.mk _ _ _ _=St.mk _ _ _ _;rw[hl];rfl
theorem AW.now(h:AW st)(hi:i<st.sfs.length):AW (Go.Proofs.YtofinpocigbbeaaGreat.upd st i BW):=h.upd hi (fun _=>rfl) (fun _=>rfl) ⟨(h.wf.lk i).2,(h.wf.lk i).2⟩ (fun _=>⟨rfl,rfl⟩)
theorem du:(prog.info? 4).map (fun i=>(i.zero,i.size,i.bytes))=some (some (.bool false),1,1):=by kernel_rfl
theorem Z9(a b c d e f g h:Int)(w:World):(Op.equalIn 10000 53 (.agg #[vj a,vj b,vj c,vj d]) (.agg #[vj e,vj f,vj g,vj h])).run prog w=.ok (a==e&&(b==f&&(c==g&&d==h))) w:=by
 have u3:=underlying3;rw[show(10000:Nat)=9999+1 from rfl,run_equalIn_struct w 9999 53 _ _ (by kernel_rfl) (by kernel_rfl)]
 go_simp
 by_cases h1:a=e<;>by_cases h2:b=f<;>by_cases h3:c=g<;>by_cases h4:d=h<;>simp[h1,h2,h3,h4]
structure DG(w:World)(S:Nat->Prop)(st:St)(F:Nat->Nat->Value)(i:Nat):Prop where
 rel:∀j,j<st.sfs.length->Kt (F j) (st.sf j)
 dat:∀j,j<st.sfs.length->j≠i->CD w S (F j) (st.sf j)
 pixN:AC w S (F i 4) ((st.sf i).now.w*(st.sf i).now.h) (st.sf i).now.pix
 pixX:AC w S (F i 15) ((st.sf i).next.w*(st.sf i).next.h) (st.sf i).next.pix
 hinN:Bg w S (F i 12) (st.sf i).now.hint
 hinX:Bg w S (F i 23) (st.sf i).next.hint
theorem DG.keep(h:DG w S st F i)(hk:∀g,S g->g<w.heap.size->w'.heap[g]?=w.heap[g]?):DG w' S st F i:=
 ⟨h.rel,fun j hj hne=>(h.dat j hj hne).keep hk,h.pixN.keep hk,h.pixX.keep hk,h.hinN.keep hk,h.hinX.keep hk⟩
theorem DG.below(h:DG w S st F i)(hb:uj w w'):DG w' S st F i:=h.keep fun g _ hg=>hb.block g hg
theorem DG.other(h:DG w S st F i)(hk:∀(g:Nat) (cur:Array Value) (t:TypeId),Jj t->w.heap[g]?=some (.cells cur t (0,0))->w'.heap[g]?=w.heap[g]?):DG w' S st F i:=
 ⟨h.rel,fun j hj hne=>(h.dat j hj hne).other hk,h.pixN.other fun g cur=>hk g cur _ (.inl rfl),h.pixX.other fun g cur=>hk g cur _ (.inl rfl),h.hinN.other fun g cur=>hk g cur _ (.inr (.inl rfl)),h.hinX.other fun g cur=>hk g cur _ (.inr (.inl rfl))⟩
theorem DG.full{S':Nat->Prop}(h:DG w S st F i)(hS:∀g,S g->S' g)(hk:AH w S' (F i 27) ((st.sf i).now.w*(st.sf i).now.h) (st.sf i).kept):C9 w S' st F:=
 ⟨h.rel,fun j hj=>by
  by_cases e:j=i
  ·subst e;exact⟨h.pixN.mono hS,h.pixX.mono hS,h.hinN.mono hS,h.hinX.mono hS,hk⟩
  ·exact(h.dat j hj e).mono hS⟩
theorem TT{F':Nat->Nat->Value}(hi:i<st.sfs.length)(hs:C9 w S st F)(hF:∀j,j≠i->F' j=F j)(hpk:∀(b:Nat) (cur:Array Value) (t:TypeId),Jj t->w.heap[b]?=some (.cells cur t (0,0))->w'.heap[b]?=w.heap[b]?)(hc:Kt (F' i) (BW (st.sf i)))(h4:F' i 4=F i 15)(h15:F' i 15=F i 15)(h12:F' i 12=F i 23)(h23:F' i 23=F i 23):DG w' S (upd st i BW) F' i:=by
 have hsi:(upd st i BW).sf i=BW (st.sf i):=by rw[Bf st i BW i hi,if_pos rfl]
 have hd:=(hs.dat i hi).other hpk;refine⟨fun j hj=>?_,fun j hj hne=>?_,?_,?_,?_,?_⟩
 ·rw[Ct]at hj;rw[Bf st i BW j hi];by_cases e:j=i
  ·subst e;rw[if_pos rfl];exact hc
  ·rw[if_neg e,hF j e];exact hs.rel j hj
 ·rw[Ct]at hj;rw[Bf st i BW j hi,if_neg hne,hF j hne];exact(hs.dat j hj).other hpk
 ·rw[hsi,h4];exact hd.pixX
 ·rw[hsi,h15];exact hd.pixX
 ·rw[hsi,h12];exact hd.hinX
 ·rw[hsi,h23];exact hd.hinX
theorem Ih{K:Nat}{f:Nat->Bool}(h:A2 w g K f)(hS:S g)(hK:K<=100000):AH w S (sj g K K) K f:=by
 obtain⟨cur,h1,h2,h3⟩:=h;refine⟨K,rfl,⟨by simp,.inr ⟨g,K,cur,rfl,cB _,h1,aO _,by unfold maxLen;omega,by omega,?_⟩⟩,fun b hb=>by injection hb with hb;rw[<-hb];exact hS⟩;refine List.ext_getElem? fun k=>?_;rw[List.getElem?_take];by_cases hk:k<K
 ·rw[if_pos (by omega),cQ,h3 k hk,bZ,List.getElem?_range hk];rfl
 ·rw[if_neg (by omega),cD (by simp;omega)]
theorem RG(h:A4 w S 53 4 v l.length (Ae l)):As w v l:=by
 by_cases e:l=[]
 ·subst e;obtain⟨a,c,hv⟩:=h.form;exact⟨a,c,hv,fun h=>by simp at h⟩
 ·exact AF.rects (base:=0) ⟨h.1,fun h=>absurd h e⟩
theorem AF.apartB{B:Nat->Prop}{base:Nat}(h:AF w base v l)(hlt:∀g,B g->g<base)(ho:Ac B w w'):AF w' base v l:=⟨Ai h.1 fun g hg=>ho.block g (h.1.lt g hg).2 fun hb=>by have h1:=hlt g hb;have h2:=(h.1.lt g hg).1;omega,h.2⟩
def St.rmoved(st:St)(i:Nat):Bool:=
 !decide ((cm st i).kids (st.sf i).parent=st.kids (st.sf i).parent)||((((st.sf i).now.cut != (st.sf i).next.cut)|| !((st.sf i).now.clip.1==(st.sf i).next.clip.1&&((st.sf i).now.clip.2.1==(st.sf i).next.clip.2.1&&((st.sf i).now.clip.2.2.1==(st.sf i).next.clip.2.2.1&&(st.sf i).now.clip.2.2.2==(st.sf i).next.clip.2.2.2))))||(((st.sf i).now.w != (st.sf i).next.w)||(((st.sf i).now.h != (st.sf i).next.h)||(((st.sf i).now.x != (st.sf i).next.x)||((st.sf i).now.y != (st.sf i).next.y)))))
def St.rcDam(st:St)(i:Nat):List R4:=
 if st.rmoved i=true then st.partsL i++(cm st i).partsL i else chL (BG ((cm st i).otherAt i (st.sf i).now.pix) (nrm ((cm st i).seen i)))
theorem TU(a b:List R4)(W k:Nat):Cq (a++b) W k=(Cq a W k||Cq b W k):=by
 unfold Cq AE;rw[List.any_append]
theorem Qa{Wg:World}{st1:St}{sv:Value}{F1:Nat->Nat->Value}(co cn:Array Value)(hr:B3 Wg S c st.w st.h st.sfs.length st.order bv sv ov F1)(hs:DG Wg S st1 F1 i)(hO:Ac S w Wg)(hz:Wg.heap.size=w1.heap.size)(ho:∀b,b≠g->Wg.heap[b]?=w1.heap[b]?):
  (∃F1,B3 ((Wg.alloc (.cells co 212)).alloc (.cells cn 212)) S c st.w st.h st.sfs.length st.order bv sv ov F1/\DG ((Wg.alloc (.cells co 212)).alloc (.cells cn 212)) S st1 F1 i)/\Ac S w ((Wg.alloc (.cells co 212)).alloc (.cells cn 212))/\((Wg.alloc (.cells co 212)).alloc (.cells cn 212)).heap.size=w1.heap.size+2/\Blk ((Wg.alloc (.cells co 212)).alloc (.cells cn 212)) w1.heap.size 212 co/\Blk ((Wg.alloc (.cells co 212)).alloc (.cells cn 212)) (w1.heap.size+1) 212 cn/\∀b,b<w1.heap.size->b≠g->((Wg.alloc (.cells co 212)).alloc (.cells cn 212)).heap[b]?=w1.heap[b]? :=by
 have b0:=al2 (aO Wg.heap.size) (.cells co 212) (.cells cn 212);have b1:Blk (Wg.alloc (.cells co 212)) Wg.heap.size 212 co:=aR _ _;have z1:(Wg.alloc (.cells co 212)).heap.size=w1.heap.size+1:=by simp[hz]
 have b2:Blk ((Wg.alloc (.cells co 212)).alloc (.cells cn 212)) (Wg.alloc (.cells co 212)).heap.size 212 cn:=aR _ _;rw[hz]at b1;rw[z1]at b2;exact⟨⟨F1,hr.below b0,hs.below b0⟩,hO.after b0,by simp[hz],b1.alloc _,b2,fun b hb hne=>(b0.block b (by omega)).trans (ho b hne)⟩
theorem RH{cap:Nat}(hb:uj w w1)(hr:B3 w S c st.w st.h st.sfs.length st.order bv (sj g st.sfs.length cap) ov F)(hs:C9 w S st F)(hi:i<st.sfs.length){X N:Dm}(hX:(st.sf i).next=X)(pa xa ha na:Option Addr)(pm pc xm xc hm hc nm nc:Nat)(hx:F i 15=.slice xa xm xc)(hh:F i 23=.slice ha hm hc):
  ∃W2,((((((((((((w1.setCell (jA g (i*28+2)) (vj X.w)).setCell (jA g (i*28+2+1)) (vj X.h)).setCell (jA g (i*28+2+2)) (.slice xa xm xc)).setCell (jA g (i*28+2+3)) (vj X.x)).setCell (jA g (i*28+2+4)) (vj X.y)).setCell (jA g (i*28+2+5)) (.bool X.cut)).setCell (jA g (i*28+2+6)) (vj X.clip.1)).setCell (jA g (i*28+2+7)) (vj X.clip.2.1)).setCell (jA g (i*28+2+8)) (vj X.clip.2.2.1)).setCell (jA g (i*28+2+9)) (vj X.clip.2.2.2)).setCell (jA g (i*28+2+10)) (.slice ha hm hc)).alloc (.cells #[vj N.w,vj N.h,.slice pa pm pc,vj N.x,vj N.y,.bool N.cut,vj N.clip.1,vj N.clip.2.1,vj N.clip.2.2.1,vj N.clip.2.2.2,.slice na nm nc] 212)).alloc (.cells #[vj X.w,vj X.h,.slice xa xm xc,vj X.x,vj X.y,.bool X.cut,vj X.clip.1,vj X.clip.2.1,vj X.clip.2.2.1,vj X.clip.2.2.2,.slice ha hm hc] 212)=W2/\
   (∃F1,B3 W2 S c st.w st.h st.sfs.length st.order bv (sj g st.sfs.length cap) ov F1/\DG W2 S (upd st i BW) F1 i)/\Ac S w W2/\W2.heap.size=w1.heap.size+2/\
   Blk W2 w1.heap.size 212 #[vj N.w,vj N.h,.slice pa pm pc,vj N.x,vj N.y,.bool N.cut,vj N.clip.1,vj N.clip.2.1,vj N.clip.2.2.1,vj N.clip.2.2.2,.slice na nm nc]/\
   Blk W2 (w1.heap.size+1) 212 #[vj X.w,vj X.h,.slice xa xm xc,vj X.x,vj X.y,.bool X.cut,vj X.clip.1,vj X.clip.2.1,vj X.clip.2.2.1,vj X.clip.2.2.2,.slice ha hm hc]/\∀b,b<w1.heap.size->b≠g->W2.heap[b]?=w1.heap[b]? :=by
 refine⟨_,rfl,?_⟩;have r1:=hr.below hb;have s1:=hs.below hb;obtain⟨e2,cur,hcur⟩:=r1.gType;have hr2:=((((((((((r1.set hi (show 2<28 by omega) (vj X.w)).set hi (show 3<28 by omega) (vj X.h)).set hi (show 4<28 by omega) (.slice xa xm xc)).set hi (show 5<28 by omega) (vj X.x)).set hi (show 6<28 by omega) (vj X.y)).set hi (show 7<28 by omega) (.bool X.cut)).set hi (show 8<28 by omega) (vj X.clip.1)).set hi (show 9<28 by omega) (vj X.clip.2.1)).set hi (show 10<28 by omega) (vj X.clip.2.2.1)).set hi (show 11<28 by omega) (vj X.clip.2.2.2)).set hi (show 12<28 by omega) (.slice ha hm hc);have hpk:=BB (j:=i*28+12) (u:=.slice ha hm hc) hcur (BB (j:=i*28+11) (u:=vj X.clip.2.2.2) hcur (BB (j:=i*28+10) (u:=vj X.clip.2.2.1) hcur (BB (j:=i*28+9) (u:=vj X.clip.2.1) hcur (BB (j:=i*28+8) (u:=vj X.clip.1) hcur (BB (j:=i*28+7) (u:=.bool X.cut) hcur (BB (j:=i*28+6) (u:=vj X.y) hcur (BB (j:=i*28+5) (u:=vj X.x) hcur (BB (j:=i*28+4) (u:=.slice xa xm xc) hcur (BB (j:=i*28+3) (u:=vj X.h) hcur (BB (j:=i*28+2) (u:=vj X.w) hcur (w':=w1) fun _ _ _ _ _=>rfl))))))))));have q:=s1.rel i hi;have hoth:∀b,b≠g->(((((((((((w1.setCell (jA g (i*28+2)) (vj X.w)).setCell (jA g (i*28+3)) (vj X.h)).setCell (jA g (i*28+4)) (.slice xa xm xc)).setCell (jA g (i*28+5)) (vj X.x)).setCell (jA g (i*28+6)) (vj X.y)).setCell (jA g (i*28+7)) (.bool X.cut)).setCell (jA g (i*28+8)) (vj X.clip.1)).setCell (jA g (i*28+9)) (vj X.clip.2.1)).setCell (jA g (i*28+10)) (vj X.clip.2.2.1)).setCell (jA g (i*28+11)) (vj X.clip.2.2.2)).setCell (jA g (i*28+12)) (.slice ha hm hc)).heap[b]?=w1.heap[b]? :=fun b hne=>by
  rw[aL _ (jA g (i*28+12)) b _ hne,aL _ (jA g (i*28+11)) b _ hne,aL _ (jA g (i*28+10)) b _ hne,aL _ (jA g (i*28+9)) b _ hne,aL _ (jA g (i*28+8)) b _ hne,aL _ (jA g (i*28+7)) b _ hne,aL _ (jA g (i*28+6)) b _ hne,aL _ (jA g (i*28+5)) b _ hne,aL _ (jA g (i*28+4)) b _ hne,aL _ (jA g (i*28+3)) b _ hne,aL _ (jA g (i*28+2)) b _ hne]
 have hO:Ac S w (((((((((((w1.setCell (jA g (i*28+2)) (vj X.w)).setCell (jA g (i*28+3)) (vj X.h)).setCell (jA g (i*28+4)) (.slice xa xm xc)).setCell (jA g (i*28+5)) (vj X.x)).setCell (jA g (i*28+6)) (vj X.y)).setCell (jA g (i*28+7)) (.bool X.cut)).setCell (jA g (i*28+8)) (vj X.clip.1)).setCell (jA g (i*28+9)) (vj X.clip.2.1)).setCell (jA g (i*28+10)) (vj X.clip.2.2.1)).setCell (jA g (i*28+11)) (vj X.clip.2.2.2)).setCell (jA g (i*28+12)) (.slice ha hm hc)):=by
  have h0:Ac S w w1:=Ac.below hb;exact((((((((((h0.set (.inl e2) _).set (.inl e2) _).set (.inl e2) _).set (.inl e2) _).set (.inl e2) _).set (.inl e2) _).set (.inl e2) _).set (.inl e2) _).set (.inl e2) _).set (.inl e2) _).set (.inl e2) _
 have hRef:DG (((((((((((w1.setCell (jA g (i*28+2)) (vj X.w)).setCell (jA g (i*28+3)) (vj X.h)).setCell (jA g (i*28+4)) (.slice xa xm xc)).setCell (jA g (i*28+5)) (vj X.x)).setCell (jA g (i*28+6)) (vj X.y)).setCell (jA g (i*28+7)) (.bool X.cut)).setCell (jA g (i*28+8)) (vj X.clip.1)).setCell (jA g (i*28+9)) (vj X.clip.2.1)).setCell (jA g (i*28+10)) (vj X.clip.2.2.1)).setCell (jA g (i*28+11)) (vj X.clip.2.2.2)).setCell (jA g (i*28+12)) (.slice ha hm hc)) S (upd st i BW) (upF (upF (upF (upF (upF (upF (upF (upF (upF (upF (upF F i 2 (vj X.w)) i 3 (vj X.h)) i 4 (.slice xa xm xc)) i 5 (vj X.x)) i 6 (vj X.y)) i 7 (.bool X.cut)) i 8 (vj X.clip.1)) i 9 (vj X.clip.2.1)) i 10 (vj X.clip.2.2.1)) i 11 (vj X.clip.2.2.2)) i 12 (.slice ha hm hc)) i:=TT hi s1 (fun j hj=>by simp only[D7 _ _ _ _ hj]) hpk (by
   simp only[Bx];subst hX;exact⟨q.alive,q.parent,rfl,rfl,rfl,rfl,rfl,rfl,rfl,rfl,rfl,⟨_,_,_,rfl⟩,q.xw,q.xh,q.xx,q.xy,q.xcut,q.x0,q.x1,q.x2,q.x3,q.xhint,q.ask,q.sib,q.above,q.kept⟩) (by simp only[Bx];exact hx.symm) (by simp only[Bx];rfl) (by simp only[Bx];exact hh.symm) (by simp only[Bx];rfl)
 exact Qa _ _ hr2 hRef hO (by simp) hoth
theorem TV{w:World}{S:Nat->Prop}{g K:Nat}{f:Nat->R4}(h:Bj w g K f)(hS:S g)(hK:K<=100000):AC w S (sj g K K) K f:=by
 obtain⟨cur,h1,h2,h3⟩:=h;refine⟨K,rfl,⟨by rw[BM,B9],.inr ⟨g,K,cur,rfl,cB _,h1,aO _,by unfold maxLen;omega,h2,?_⟩⟩,fun b hb=>by injection hb with hb;rw[<-hb];exact hS⟩;refine List.ext_getElem? fun q=>?_;rw[List.getElem?_take];by_cases hq:q<K*4
 ·rw[if_pos hq,cQ];have hk:q/4<K:=by omega
  obtain⟨p0,p1,p2,p3⟩:=Bk (pxL f K) (q/4) (by rw[B9];exact hk);have hg:(pxL f K)[q/4]'(by rw[B9];exact hk)=f (q/4):=by simp[pxL]
  rw[hg]at p0 p1 p2 p3;obtain⟨c0,c1,c2,c3⟩:=h3 (q/4) hk;have h4:q%4=0\/q%4=1\/q%4=2\/q%4=3:=by omega
  rcases h4 with e|e|e|e
  ·have eq:q=q/4*4:=by omega
   rw[eq,p0]
   first|exact c0|(rw[Nat.add_zero]at c0;exact c0)
  ·have eq:q=q/4*4+1:=by omega
   rw[eq,p1];exact c1
  ·have eq:q=q/4*4+2:=by omega
   rw[eq,p2];exact c2
  ·have eq:q=q/4*4+3:=by omega
   rw[eq,p3];exact c3
 ·rw[if_neg hq,cD (by rw[BM,B9];omega)]
def J8:RB:=⟨fun _=>(0,0,0,0),0,fun _=>false⟩
structure Of(w wr:World)(W H:Int)(K k:Nat)(bv:Value)(xs:List Value)(P D:Nat->Nat):Prop where
 bel:uj w wr
 scr:Blk wr w.heap.size 202 #[vj W,vj H,bv,jj,jj]
 row:wr.ownsRow (w.heap.size+1) 204 3 bv k xs
 cel:∀j,j<k->xs[j*3]?=some (sj (P j) K K)/\xs[j*3+1]?=some (vj 0)/\xs[j*3+2]?=some (sj (D j) K K)
 pix:∀j,j<k->Bj wr (P j) K (fun _=>(0,0,0,0))/\w.heap.size<P j/\P j<wr.heap.size
 dir:∀j,j<k->A2 wr (D j) K (fun _=>false)/\w.heap.size<D j/\D j<wr.heap.size
 ap:∀i j,i<k->j<k->i≠j->P i≠P j/\D i≠D j
def X6(W H:Int)(n:Nat)(w:World)(e:Ending)(w':World):Prop:=∃c bv P D,e=.returned (.tuple #[pj c,vj 0])/\w.heap.size<=c/\Aw w' (fun g=>g=c) c ⟨W,H,[],[]⟩ bv/\AG w' (fun g=>c<g/\g<w'.heap.size) bv (W.toNat*H.toNat) (List.replicate n J8) P D/\uj w w'
theorem Of.done{w wr:World}{W H:Int}{K k:Nat}{bv:Value}{xs:List Value}{P D:Nat->Nat}(h:Of w wr W H K k bv xs P D)(hk:k<=3)(hK:K<=1000)(hWH:K=W.toNat*H.toNat):X6 W H k w (.returned (.tuple #[pj w.heap.size,vj 0])) wr:=by
 refine⟨w.heap.size,bv,fun j=>sj (P j) K K,fun j=>sj (D j) K K,rfl,aO _,?_,?_,h.bel⟩
 ·exact⟨jj,jj,fun _ _=>undef,⟨h.scr,rfl,⟨[],A4.nil _ _ _ _,fun i hi=>by simp at hi⟩,A4.nil _ _ _ _⟩,fun i hi=>by simp at hi,fun i hi=>by simp at hi⟩
 ·rw[<-hWH];have hlr:(List.replicate k J8).length=k:=List.length_replicate;refine⟨⟨xs,?_,fun i hi=>?_⟩,by rw[hlr];exact hk,fun i hi=>?_,fun i hi=>?_,fun i j hi hj hne g hg hg2=>?_,fun i j hi hj hne g hg hg2=>?_⟩
  ·rw[hlr];exact⟨⟨h.row.1,h.row.2.imp (fun h=>h) fun⟨g,c,cur,e1,_,e3⟩=>⟨g,c,cur,e1,cB _,e3⟩⟩,fun g hg=>⟨by have:=(h.row.lt g hg).1;omega,(h.row.lt g hg).2⟩⟩
  ·rw[hlr]at hi;simp only[List.getElem_replicate];exact h.cel i hi
  ·rw[hlr]at hi;simp only[List.getElem_replicate];exact TV (h.pix i hi).1 (h.pix i hi).2 (by omega)
  ·rw[hlr]at hi;simp only[List.getElem_replicate];exact Ih (h.dir i hi).1 (h.dir i hi).2 (by omega)
  ·rw[hlr]at hi hj;injection hg with e1;injection hg2 with e2;exact(h.ap i j hi hj hne).1 (by simp only at e1 e2;omega)
  ·rw[hlr]at hi hj;injection hg with e1;injection hg2 with e2;exact(h.ap i j hi hj hne).2 (by simp only at e1 e2;omega)
variable{D P:Nat->Nat}{H W:Int}{K k p:Nat}{w5 w6 wr:World}{xs:List Value}
theorem Xg:(prog.info? 204).map (fun i=>(i.zero,i.size,i.bytes))=some (some (.agg #[jj,vj 0,jj]),3,56):=by kernel_rfl
theorem Ka(w:World)(a b x:Obj):(((w.alloc a).alloc b).alloc x).heap[w.heap.size+1+1]?=some x:=by
 have h9:=aR ((w.alloc a).alloc b) x;simpa using h9
theorem Eh(w:World)(a b x:Obj):(((w.alloc a).alloc b).alloc x).heap[w.heap.size+1]?=some b:=by
 have h9:=aR (w.alloc a) b;rw[Ad _ x _ (by simp)];simpa using h9
theorem EO(w:World)(a b x:Obj):(((w.alloc a).alloc b).alloc x).heap[w.heap.size]?=some a:=by
 rw[Ad _ x _ (by simp;omega),Ad _ b _ (by simp)];exact aR w a
theorem Ub(h:w.heap[p]?=some (.cells (madeCells #[.int .u8 0,.int .u8 0,.int .u8 0,.int .u8 0] (K*4)) 51)):Bj w p K (fun _=>(0,0,0,0)):=by
 obtain⟨cur,h1,h2,h3⟩:=PK w K;have h9:=aR w (.cells (madeCells #[.int .u8 0,.int .u8 0,.int .u8 0,.int .u8 0] (K*4)) 51);rw[h9]at h1;exact⟨cur,h.trans h1,h2,h3⟩
theorem Ly(h:w.heap[p]?=some (.cells (madeCells #[.bool false] K) 4)):A2 w p K (fun _=>false):=by
 obtain⟨cur,h1,h2,h3⟩:=Jt w K;have h9:=aR w (.cells (madeCells #[.bool false] K) 4);rw[h9]at h1;exact⟨cur,h.trans h1,h2,h3⟩
theorem Of.cell(h:Of w wr W H K k bv xs P D)(h5:∀b,b<wr.heap.size->w5.heap[b]?=wr.heap[b]?)(hg:w5.grownBy w6 bv.ownBlock):
  Blk w6 w.heap.size 202 #[vj W,vj H,bv,jj,jj]:=by
 have hc:=h.scr.has.lt;have e5:=h5 _ hc;have hne:some w.heap.size≠bv.ownBlock:=fun e=>by have:=(h.row.lt _ e.symm).1;omega
 have e6:=hg.block w.heap.size (Ab (e5.trans h.scr)) hne;exact e6.trans (e5.trans h.scr)
theorem Of.step(h:Of w wr W H K k bv xs P D){d g cap:Nat}
  (hb5:uj w w5) (h5:∀b,b<wr.heap.size->w5.heap[b]?=wr.heap[b]?) (_hs5:wr.heap.size<=w5.heap.size) (hgrow:w5.grownBy w6 bv.ownBlock)
  (hp0:wr.heap.size<=p) (hp:Bj w5 p K (fun _=>(0,0,0,0))) (hd0:wr.heap.size<=d) (hd:A2 w5 d K (fun _=>false))
  (hown:w6.ownsRow (w.heap.size+1) 204 3 (sj g (k+1) cap) (k+1) (xs++[sj p K K,vj 0,sj d K K])):
  Of w (w6.setCell (jA w.heap.size 2) (sj g (k+1) cap)) W H K (k+1) (sj g (k+1) cap) (xs++[sj p K K,vj 0,sj d K K]) (fun j=>if j=k then p else P j) (fun j=>if j=k then d else D j):=by
 have hB:=h.cell h5 hgrow;have hsz:=h.bel.size;have hlen:=h.row.1;have hcl:=h.scr.has.lt;have hown5:w5.ownsRow (w.heap.size+1) 204 3 bv k xs:=Ai h.row fun g hg=>h5 g (h.row.lt g hg).2;have hk:=BC (T:=204) hgrow fun g hg=>Ap hown5 hg;have hs6:w5.heap.size<=w6.heap.size:=hgrow.size;have hstay:∀(t:TypeId),t≠204->t≠202->∀(b:Nat) (cur:Array Value),w5.heap[b]?=some (.cells cur t (0,0))->(w6.setCell (jA w.heap.size 2) (sj g (k+1) cap)).heap[b]?=w5.heap[b]? :=fun t ht1 ht2 b cur hb=>by
  have e6:=hk t ht1 b cur hb;rw[aL w6 (jA w.heap.size 2) b _ (Aj (e6.trans hb) hB ht2),e6]
 have hpx:∀q,Bj w5 q K (fun _=>(0,0,0,0))->Bj (w6.setCell (jA w.heap.size 2) (sj g (k+1) cap)) q K (fun _=>(0,0,0,0)):=fun q hq=>hq.keep (by obtain⟨cur,h1,_⟩:=hq;exact hstay _ (by decide) (by decide) q cur h1);have hbo:∀q,A2 w5 q K (fun _=>false)->A2 (w6.setCell (jA w.heap.size 2) (sj g (k+1) cap)) q K (fun _=>false):=fun q hq=>hq.keep (by obtain⟨cur,h1,_⟩:=hq;exact hstay _ (by decide) (by decide) q cur h1);have hpl:p<w5.heap.size:=by obtain⟨cur,h1,_⟩:=hp;exact Ab h1
 have hdl:d<w5.heap.size:=by obtain⟨cur,h1,_⟩:=hd;exact Ab h1
 have hz:(w6.setCell (jA w.heap.size 2) (sj g (k+1) cap)).heap.size=w6.heap.size:=by simp
 refine⟨((hb5.grown hgrow (by omega) fun k hk=>by have:=(h.row.lt k hk).1;omega).setCell (aO _) _),hB.set 2 _,Ai hown fun b hb=>?_,fun j hj=>?_,fun j hj=>?_,fun j hj=>?_,fun i j hi hj hne=>?_⟩
 ·have h1:=(hown.lt b hb).1;exact aL w6 (jA w.heap.size 2) b _ (show b≠w.heap.size by omega)
 ·by_cases e:j=k
  ·subst e;rw[if_pos rfl,if_pos rfl];refine⟨?_,?_,?_⟩
   ·rw[bO (by omega),hlen,show j*3-j*3=0 by omega];rfl
   ·rw[bO (by omega),hlen,show j*3+1-j*3=1 by omega];rfl
   ·rw[bO (by omega),hlen,show j*3+2-j*3=2 by omega];rfl
  ·rw[if_neg e,if_neg e];obtain⟨a1,a2,a3⟩:=h.cel j (by omega);refine⟨?_,?_,?_⟩
   ·rw[cA (by omega)];exact a1
   ·rw[cA (by omega)];exact a2
   ·rw[cA (by omega)];exact a3
 ·by_cases e:j=k
  ·rw[if_pos e];exact⟨hpx p hp,by omega,by omega⟩
  ·rw[if_neg e];obtain⟨a1,a2,a3⟩:=h.pix j (by omega);exact⟨hpx _ (a1.keep (h5 _ a3)),a2,by omega⟩
 ·by_cases e:j=k
  ·rw[if_pos e];exact⟨hbo d hd,by omega,by omega⟩
  ·rw[if_neg e];obtain⟨a1,a2,a3⟩:=h.dir j (by omega);exact⟨hbo _ (a1.keep (h5 _ a3)),a2,by omega⟩
 ·by_cases e1:i=k
  ·by_cases e2:j=k
   ·omega
   ·rw[if_pos e1,if_neg e2,if_pos e1,if_neg e2];have h1:=(h.pix j (by omega)).2.2;have h2:=(h.dir j (by omega)).2.2;omega
  ·by_cases e2:j=k
   ·rw[if_neg e1,if_pos e2,if_neg e1,if_pos e2];have h1:=(h.pix i (by omega)).2.2;have h2:=(h.dir i (by omega)).2.2;omega
   ·rw[if_neg e1,if_neg e2,if_neg e1,if_neg e2];exact h.ap i j (by omega) (by omega) hne
theorem Uc(W H n:Int)(w:World)(hW:1<=W/\W<=24)(hH:1<=H/\H<=24)(hn:1<=n/\n<=3):
  Calls prog 81 #[vj W,vj H,vj n] w (X6 W H n.toNat w):=by
 obtain⟨i0,hi0,hz0,hz1,hz2⟩:=cW Xg;obtain⟨j0,hj0,hy0,hy1,hy2⟩:=cW Ed;obtain⟨N,hN⟩:∃N:Nat,n=N:=⟨n.toNat,by omega⟩;subst hN;obtain⟨hW0,hW1⟩:=hW;obtain⟨hH0,hH1⟩:=hH;obtain⟨hn0,hn1⟩:=hn;have hWH:0<=W*H/\W*H<=24*24:=⟨Int.mul_nonneg (by omega) (by omega),Int.mul_le_mul hW1 hH1 (by omega) (by omega)⟩;obtain⟨K,hK⟩:∃K:Nat,(K:Int)=W*H:=⟨(W*H).toNat,by omega⟩;have m1:IntKind.i64.wrap (W*H)=(K:Int):=by rw[bB];omega
 have m2:wrap64 (W*H)=(K:Int):=by unfold wrap64;omega
 have hmk1:∀w:World,(Instr.makeSlice 154 (vj (K:Int)) (vj (K:Int))).run prog w=.ok (sj w.heap.size K K) (w.alloc (.cells (madeCells #[.bool false] K) 4)):=fun w=>run_make_row' 154 4 (.bool false) 1 underlying154 du rfl .i64 .i64 K (by omega) (by omega) w;have hmk2:∀w:World,(Instr.makeSlice 44 (vj (K:Int)) (vj (K:Int))).run prog w=.ok (sj w.heap.size K K) (w.alloc (.cells (madeCells #[.int .u8 0,.int .u8 0,.int .u8 0,.int .u8 0] (K*4)) 51)):=fun w=>by
  have h9:=run_make (P:=prog) w 44 51 j0 _ underlying44 hj0 hy0 .i64 .i64 K K (by omega) (Int.le_refl _) (by rw[hy2];omega) (by omega);simp only[aX,hy1]at h9;exact h9
 have hK1:K<=1000:=by omega
 have HK:=Aa hK;have HWH:Hid (K=W.toNat*H.toNat):=by
  have e1:((W.toNat*H.toNat:Nat):Int)=W*H:=by rw[Int.natCast_mul,Int.toNat_of_nonneg (by omega),Int.toNat_of_nonneg (by omega)]
  unfold Hid;omega
 rw[aX];clear hWH hK;go_enter func81,ntmps81
 go_wp2
 go_loopg [9] N (fun gg s9 wr=>∃(k:Nat) (bv:Value) (xs:List Value) (P D:Nat->Nat),s9=vj k/\gg+k=N/\Of w wr W H K k bv xs P D)
 case atStart=>exact⟨0,jj,[],fun _=>0,fun _=>0,rfl,by omega,⟨(aN _ _).alloc (aO _) _,aR w _,bA _ _ _ _,fun j hj=>by omega,fun j hj=>by omega,fun j hj=>by omega,fun i j hi hj=>by omega⟩⟩
 case round=>
  rename World=>wr;obtain⟨k,bv,xs,P,D,rfl,hgk,hM⟩:=hrel;cases gk with
  |zero=>
   have hlt:¬(k:Int)<(N:Int):=by omega
   have HM:=Aa hM;clear hM;go_wp2
   go_ret2
   have hkN:k=N:=by omega
   subst hkN;exact HM.out.done (by omega) hK1 HWH.out
  |succ gk=>
   have hlt:(k:Int)<(N:Int):=by omega
   obtain⟨ba,bc,hbf⟩:=Al hM.row;subst hbf;have c2:wr.cell? (jA w.heap.size 2)=some (.slice ba k bc):=hM.scr.cell 2;have f2:=hM.scr.has.free 2;have hcl:=hM.scr.has.lt;have HM:=Aa hM;clear hM;have HB0:Hid (∀(w6:World) (o1 o2 o3:Obj),(((wr.alloc o1).alloc o2).alloc o3).drew.grownBy w6 (Value.slice ba k bc).ownBlock->Blk w6 w.heap.size 202 #[vj W,vj H,.slice ba k bc,jj,jj]):=fun w6 o1 o2 o3 hg=>HM.out.cell (fun b hb=>(((al1 (aO wr.heap.size) o1).alloc (by simp) o2).alloc (by simp;omega) o3).drew.block b hb) hg;have HS:Hid (∀(w6:World) (o1 o2 o3:Obj) (g cap:Nat) (p d:Nat),wr.heap.size<=p->(((wr.alloc o1).alloc o2).alloc o3).heap[p]?=some (.cells (madeCells #[.int .u8 0,.int .u8 0,.int .u8 0,.int .u8 0] (K*4)) 51)->wr.heap.size<=d->(((wr.alloc o1).alloc o2).alloc o3).heap[d]?=some (.cells (madeCells #[.bool false] K) 4)->(((wr.alloc o1).alloc o2).alloc o3).drew.grownBy w6 (Value.slice ba k bc).ownBlock->w6.ownsRow (w.heap.size+1) 204 3 (sj g (k+1) cap) (k+1) (xs++[sj p K K,vj 0,sj d K K])->∃bv' xs' P' D',bv'=sj g (k+1) cap/\Of w (w6.setCell (jA w.heap.size 2) (sj g (k+1) cap)) W H K (k+1) bv' xs' P' D'):=fun w6 o1 o2 o3 g cap p d h1 h2 h1' h2' h3 h4=>by
    have hz:=HM.out.bel.size;exact⟨_,_,_,_,rfl,HM.out.step ((((HM.out.bel.alloc hz o1).alloc (by simp;omega) o2).alloc (by simp;omega) o3).drew) (fun b hb=>(((al1 (aO wr.heap.size) o1).alloc (by simp) o2).alloc (by simp;omega) o3).drew.block b hb) (by show wr.heap.size<=(((wr.alloc o1).alloc o2).alloc o3).heap.size;simp;omega) h3 h1 (Ub h2) h1' (Ly h2') h4⟩
   have g1:∀o1,(wr.alloc o1).cell? (jA w.heap.size 2)=some (.slice ba k bc):=fun o1=>by rw[BI _ _ _ _ hcl];exact c2
   have g2:∀o1 o2,((wr.alloc o1).alloc o2).cell? (jA w.heap.size 2)=some (.slice ba k bc):=fun o1 o2=>by rw[BI _ _ _ _ (by simp;omega)];exact g1 o1
   have g3:∀o1 o2 o3,(((wr.alloc o1).alloc o2).alloc o3).cell? (jA w.heap.size 2)=some (.slice ba k bc):=fun o1 o2 o3=>by rw[BI _ _ _ _ (by simp;omega)];exact g2 o1 o2
   go_upto_region 9 with fail
   go_region_law (first|(refine step_append_lies _ (by rfl) (.tmp 43) (.tmp 53) _ (by rfl) (w.heap.size+1) 204 i0 _ 3 56 underlying199 hi0 hz0 hz1 hz2 rfl (by omega) (.slice ba k bc) k xs (by rfl) ((((HM.out.row.alloc _).alloc _).alloc _).drew) (jA (wr.heap.size+1+1) 0) 1 1 [sj wr.heap.size K K,vj 0,sj (wr.heap.size+1) K K] (by rfl) (by rfl) (bI (cs:=#[sj wr.heap.size K K,vj 0,sj (wr.heap.size+1) K K]) (t:=204) (fr:=(0,0)) (Ka wr _ _ _)) (by simp[Value.oneCell']) (by omega) (by unfold maxLen;omega) (by omega) (by simp;omega) (wr.heap.size+1+1+1) (by simp) ?_;intro gg cp w6 hown6 hgrow hat hlt10;have HB:=HB0.out w6 _ _ _ hgrow;have c26:=HB.cell 2;have f26:=HB.has.free 2;have H6:=Aa (HS.out w6 _ _ _ gg cp (wr.heap.size) (wr.heap.size+1) (by omega) (by first|exact EO wr _ _ _|exact Eh wr _ _ _) (by omega) (by first|exact EO wr _ _ _|exact Eh wr _ _ _) hgrow hown6);clear hown6 hgrow hat HB)|(refine step_append_lies _ (by rfl) (.tmp 43) (.tmp 53) _ (by rfl) (w.heap.size+1) 204 i0 _ 3 56 underlying199 hi0 hz0 hz1 hz2 rfl (by omega) (.slice ba k bc) k xs (by rfl) ((((HM.out.row.alloc _).alloc _).alloc _).drew) (jA (wr.heap.size+1+1) 0) 1 1 [sj (wr.heap.size+1) K K,vj 0,sj wr.heap.size K K] (by rfl) (by rfl) (bI (cs:=#[sj (wr.heap.size+1) K K,vj 0,sj wr.heap.size K K]) (t:=204) (fr:=(0,0)) (Ka wr _ _ _)) (by simp[Value.oneCell']) (by omega) (by unfold maxLen;omega) (by omega) (by simp;omega) (wr.heap.size+1+1+1) (by simp) ?_;intro gg cp w6 hown6 hgrow hat hlt10;have HB:=HB0.out w6 _ _ _ hgrow;have c26:=HB.cell 2;have f26:=HB.has.free 2;have H6:=Aa (HS.out w6 _ _ _ gg cp (wr.heap.size+1) (wr.heap.size) (by omega) (by first|exact EO wr _ _ _|exact Eh wr _ _ _) (by omega) (by first|exact EO wr _ _ _|exact Eh wr _ _ _) hgrow hown6);clear hown6 hgrow hat HB))
   all_goals
    go_wp2
    go_roundg gk
    case measure=>omega
    case rel=>
     obtain⟨bv',xs',P',D',_,hN⟩:=H6.out;exact⟨k+1,bv',xs',P',D',by go_num,by omega,hN⟩
def Ud(n:Int)(w:World)(e:Ending)(w':World):Prop:=e=.returned (.tuple #[.pointer none,vj n])/\uj w w'
theorem Qk(W H n:Int)(w:World)(h:W<1\/24<W\/H<1\/24<H):
  Calls prog 81 #[vj W,vj H,vj n] w (Ud 5 w):=by
 by_cases h1:W<1
 ·go_enter func81,ntmps81
  go_wp2
  go_ret2
  exact⟨rfl,aN _ _⟩
 by_cases h2:24<W
 ·go_enter func81,ntmps81
  go_wp2
  go_ret2
  exact⟨rfl,aN _ _⟩
 by_cases h3:H<1
 ·go_enter func81,ntmps81
  go_wp2
  go_ret2
  exact⟨rfl,aN _ _⟩
 have h4:24<H:=by omega
 go_enter func81,ntmps81
 go_wp2
 go_ret2
 exact⟨rfl,aN _ _⟩
theorem RT(W H n:Int)(w:World)(hW:1<=W/\W<=24)(hH:1<=H/\H<=24)(h:n<1\/3<n):
  Calls prog 81 #[vj W,vj H,vj n] w (Ud 10 w):=by
 obtain⟨hW0,hW1⟩:=hW;obtain⟨hH0,hH1⟩:=hH;have n1:¬W<1:=by omega
 have n2:¬24<W:=by omega
 have n3:¬H<1:=by omega
 have n4:¬24<H:=by omega
 by_cases h1:n<1
 ·go_enter func81,ntmps81
  go_wp2
  go_ret2
  exact⟨rfl,aN _ _⟩
 have h4:3<n:=by omega
 go_enter func81,ntmps81
 go_wp2
 go_ret2
 exact⟨rfl,aN _ _⟩
end Go.Proofs.YtofinpocigbbeaaGreat
