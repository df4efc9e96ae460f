import Derived.Test.YtofinpocigbbeaaGreatKan
import Derived.Test.YtofinpocigbbeaaGreatKbk
import Derived.Test.YtofinpocigbbeaaGreatKbj
import Derived.Test.YtofinpocigbbeaaGreatKbm
import Derived.Test.YtofinpocigbbeaaGreatKbg
import Derived.Test.YtofinpocigbbeaaGreatKbl
import Derived.Laws.MakeOwn
import Derived.Deep.OwnRows
set_option maxHeartbeats 1000000
set_option maxRecDepth 100000
set_option linter.unusedSimpArgs false
namespace Go.Proofs.YtofinpocigbbeaaGreat
open Go.Proofs.Tryz Go.RowKit
attribute [local go_sem ↓] Go.wp_at_zero Go.wp_at_succ
variable{F:Nat->Nat->Value}{S:Nat->Prop}{bv ov v:Value}{c g i:Nat}{l:List R4}{st:St}{w w' w1:World}
theorem P9(hw:Wf st)(hsb:Hg st)(id:Nat)(hid:id∈st.order)(w:World)(h:Aw w S c st bv):
  Calls prog 131 #[.pointer (some ⟨c,0,none⟩),.int .i64 id] w (Ff S c bv st id w):=by
 cases hp:st.puts id with
 |true=>exact Pz hw hsb id hid hp w h
 |false=>exact Rh hw id hid hp w h
def BW(s:Sf):Sf:={s with now:=s.next,kept:=Cn s.next}
theorem Xb(st:St)(hi:i<st.sfs.length):stk (upd st i BW) i=cm st i:=by
 have hs:(upd st i BW).sf i=BW (st.sf i):=by rw[Bf st i BW i hi,if_pos rfl]
 have hb:∀x,(upd st i BW).isB x=st.isB x:=fun x=>by
  unfold St.isB;rw[Ct,Bf st i BW _ hi];split
  ·rename_i e;rw[<-e];rfl
  ·rfl
 have hp:(upd st i BW).puts i=st.puts i:=by
  unfold St.puts;rw[hs,hb];rfl
 unfold stk cm;rw[hp,hs];have hl:(upd (upd st i BW) i Fe).sfs=(upd st i Ph).sfs:=by
  unfold upd;apply List.ext_getElem?;intro j;simp only[List.getElem?_modify];cases st.sfs[j]?with
  |none=>rfl
  |some a=>
   by_cases e:i=j
   ·simp[e,BW,Fe,Ph]
   ·simp[e]
 show St.mk _ _ _ _=St.mk _ _ _ _;rw[hl];rfl
theorem AW.now(h:AW st)(hi:i<st.sfs.length):AW (Go.Proofs.YtofinpocigbbeaaGreat.upd st i BW):=h.upd hi (fun _=>rfl) (fun _=>rfl) ⟨(h.wf.lk i).2,(h.wf.lk i).2⟩ (fun _=>⟨rfl,rfl⟩)
theorem du:(prog.info? 4).map (fun i=>(i.zero,i.size,i.bytes))=some (some (.bool false),1,1):=by kernel_rfl
theorem Z9(a b c d e f g h:Int)(w:World):(Op.equalIn 10000 53 (.agg #[.int .i64 a,.int .i64 b,.int .i64 c,.int .i64 d]) (.agg #[.int .i64 e,.int .i64 f,.int .i64 g,.int .i64 h])).run prog w=.ok (a==e&&(b==f&&(c==g&&d==h))) w:=by
 have u3:=underlying3;rw[show(10000:Nat)=9999+1 from rfl,run_equalIn_struct w 9999 53 _ _ (by kernel_rfl) (by kernel_rfl)]
 go_simp
 by_cases h1:a=e<;>by_cases h2:b=f<;>by_cases h3:c=g<;>by_cases h4:d=h<;>simp[h1,h2,h3,h4]
structure DG(w:World)(S:Nat->Prop)(st:St)(F:Nat->Nat->Value)(i:Nat):Prop where
 rel:∀j,j<st.sfs.length->Kt (F j) (st.sf j)
 dat:∀j,j<st.sfs.length->j≠i->CD w S (F j) (st.sf j)
 pixN:AC w S (F i 4) ((st.sf i).now.w*(st.sf i).now.h) (st.sf i).now.pix
 pixX:AC w S (F i 15) ((st.sf i).next.w*(st.sf i).next.h) (st.sf i).next.pix
 hinN:Bg w S (F i 12) (st.sf i).now.hint
 hinX:Bg w S (F i 23) (st.sf i).next.hint
theorem DG.keep(h:DG w S st F i)(hk:∀g,S g->g<w.heap.size->w'.heap[g]?=w.heap[g]?):DG w' S st F i:=
 ⟨h.rel,fun j hj hne=>(h.dat j hj hne).keep hk,h.pixN.keep hk,h.pixX.keep hk,h.hinN.keep hk,h.hinX.keep hk⟩
theorem DG.below(h:DG w S st F i)(hb:Below w.heap.size w w'):DG w' S st F i:=h.keep fun g _ hg=>hb.block g hg
theorem DG.other(h:DG w S st F i)(hk:∀(g:Nat) (cur:Array Value) (t:TypeId),Jj t->w.heap[g]?=some (.cells cur t (0,0))->w'.heap[g]?=w.heap[g]?):DG w' S st F i:=
 ⟨h.rel,fun j hj hne=>(h.dat j hj hne).other hk,h.pixN.other fun g cur=>hk g cur _ (.inl rfl),h.pixX.other fun g cur=>hk g cur _ (.inl rfl),h.hinN.other fun g cur=>hk g cur _ (.inr (.inl rfl)),h.hinX.other fun g cur=>hk g cur _ (.inr (.inl rfl))⟩
theorem DG.full{S':Nat->Prop}(h:DG w S st F i)(hS:∀g,S g->S' g)(hk:AH w S' (F i 27) ((st.sf i).now.w*(st.sf i).now.h) (st.sf i).kept):C9 w S' st F:=
 ⟨h.rel,fun j hj=>by
  by_cases e:j=i
  ·subst e;exact⟨h.pixN.mono hS,h.pixX.mono hS,h.hinN.mono hS,h.hinX.mono hS,hk⟩
  ·exact(h.dat j hj e).mono hS⟩
theorem TT{F':Nat->Nat->Value}(hi:i<st.sfs.length)(hs:C9 w S st F)(hF:∀j,j≠i->F' j=F j)(hpk:∀(b:Nat) (cur:Array Value) (t:TypeId),Jj t->w.heap[b]?=some (.cells cur t (0,0))->w'.heap[b]?=w.heap[b]?)(hc:Kt (F' i) (BW (st.sf i)))(h4:F' i 4=F i 15)(h15:F' i 15=F i 15)(h12:F' i 12=F i 23)(h23:F' i 23=F i 23):DG w' S (upd st i BW) F' i:=by
 have hsi:(upd st i BW).sf i=BW (st.sf i):=by rw[Bf st i BW i hi,if_pos rfl]
 have hd:=(hs.dat i hi).other hpk;refine⟨fun j hj=>?_,fun j hj hne=>?_,?_,?_,?_,?_⟩
 ·rw[Ct]at hj;rw[Bf st i BW j hi];by_cases e:j=i
  ·subst e;rw[if_pos rfl];exact hc
  ·rw[if_neg e,hF j e];exact hs.rel j hj
 ·rw[Ct]at hj;rw[Bf st i BW j hi,if_neg hne,hF j hne];exact(hs.dat j hj).other hpk
 ·rw[hsi,h4];exact hd.pixX
 ·rw[hsi,h15];exact hd.pixX
 ·rw[hsi,h12];exact hd.hinX
 ·rw[hsi,h23];exact hd.hinX
theorem Ih{K:Nat}{f:Nat->Bool}(h:A2 w g K f)(hS:S g)(hK:K<=100000):AH w S (.slice (some ⟨g,0,none⟩) K K) K f:=by
 obtain⟨cur,h1,h2,h3⟩:=h;refine⟨K,rfl,⟨by simp,.inr ⟨g,K,cur,rfl,cB _,h1,aO _,by unfold maxLen;omega,by omega,?_⟩⟩,fun b hb=>by injection hb with hb;rw[<-hb];exact hS⟩;refine List.ext_getElem? fun k=>?_;rw[List.getElem?_take];by_cases hk:k<K
 ·rw[if_pos (by omega),cQ,h3 k hk,bZ,List.getElem?_range hk];rfl
 ·rw[if_neg (by omega),cD (by simp;omega)]
theorem RG(h:A4 w S 53 4 v l.length (Ae l)):As w v l:=by
 by_cases e:l=[]
 ·subst e;obtain⟨a,c,hv⟩:=h.form;exact⟨a,c,hv,fun h=>by simp at h⟩
 ·exact AF.rects (base:=0) ⟨h.1,fun h=>absurd h e⟩
theorem AF.apartB{B:Nat->Prop}{base:Nat}(h:AF w base v l)(hlt:∀g,B g->g<base)(ho:Ac B w w'):AF w' base v l:=⟨Ai h.1 fun g hg=>ho.block g (h.1.lt g hg).2 fun hb=>by have h1:=hlt g hb;have h2:=(h.1.lt g hg).1;omega,h.2⟩
def St.rmoved(st:St)(i:Nat):Bool:=
 !decide ((cm st i).kids (st.sf i).parent=st.kids (st.sf i).parent)||((((st.sf i).now.cut != (st.sf i).next.cut)|| !((st.sf i).now.clip.1==(st.sf i).next.clip.1&&((st.sf i).now.clip.2.1==(st.sf i).next.clip.2.1&&((st.sf i).now.clip.2.2.1==(st.sf i).next.clip.2.2.1&&(st.sf i).now.clip.2.2.2==(st.sf i).next.clip.2.2.2))))||(((st.sf i).now.w != (st.sf i).next.w)||(((st.sf i).now.h != (st.sf i).next.h)||(((st.sf i).now.x != (st.sf i).next.x)||((st.sf i).now.y != (st.sf i).next.y)))))
def St.rcDam(st:St)(i:Nat):List R4:=
 if st.rmoved i=true then st.partsL i++(cm st i).partsL i else chL (BG ((cm st i).otherAt i (st.sf i).now.pix) (nrm ((cm st i).seen i)))
theorem TU(a b:List R4)(W k:Nat):Cq (a++b) W k=(Cq a W k||Cq b W k):=by
 unfold Cq AE;rw[List.any_append]
theorem Qa{Wg:World}{st1:St}{sv:Value}{F1:Nat->Nat->Value}(co cn:Array Value)(hr:B3 Wg S c st.w st.h st.sfs.length st.order bv sv ov F1)(hs:DG Wg S st1 F1 i)(hO:Ac S w Wg)(hz:Wg.heap.size=w1.heap.size)(ho:∀b,b≠g->Wg.heap[b]?=w1.heap[b]?):
  (∃F1,B3 ((Wg.alloc (.cells co 212)).alloc (.cells cn 212)) S c st.w st.h st.sfs.length st.order bv sv ov F1/\DG ((Wg.alloc (.cells co 212)).alloc (.cells cn 212)) S st1 F1 i)/\Ac S w ((Wg.alloc (.cells co 212)).alloc (.cells cn 212))/\((Wg.alloc (.cells co 212)).alloc (.cells cn 212)).heap.size=w1.heap.size+2/\Blk ((Wg.alloc (.cells co 212)).alloc (.cells cn 212)) w1.heap.size 212 co/\Blk ((Wg.alloc (.cells co 212)).alloc (.cells cn 212)) (w1.heap.size+1) 212 cn/\∀b,b<w1.heap.size->b≠g->((Wg.alloc (.cells co 212)).alloc (.cells cn 212)).heap[b]?=w1.heap[b]? :=by
 have b0:=al2 (aO Wg.heap.size) (.cells co 212) (.cells cn 212);have b1:Blk (Wg.alloc (.cells co 212)) Wg.heap.size 212 co:=aR _ _;have z1:(Wg.alloc (.cells co 212)).heap.size=w1.heap.size+1:=by simp[hz]
 have b2:Blk ((Wg.alloc (.cells co 212)).alloc (.cells cn 212)) (Wg.alloc (.cells co 212)).heap.size 212 cn:=aR _ _;rw[hz]at b1;rw[z1]at b2;exact⟨⟨F1,hr.below b0,hs.below b0⟩,hO.after b0,by simp[hz],b1.alloc _,b2,fun b hb hne=>(b0.block b (by omega)).trans (ho b hne)⟩
theorem RH{cap:Nat}(hb:Below w.heap.size w w1)(hr:B3 w S c st.w st.h st.sfs.length st.order bv (.slice (some ⟨g,0,none⟩) st.sfs.length cap) ov F)(hs:C9 w S st F)(hi:i<st.sfs.length){X N:Dm}(hX:(st.sf i).next=X)(pa xa ha na:Option Addr)(pm pc xm xc hm hc nm nc:Nat)(hx:F i 15=.slice xa xm xc)(hh:F i 23=.slice ha hm hc):
  ∃W2,((((((((((((w1.setCell ⟨g,i*28+2,none⟩ (.int .i64 X.w)).setCell ⟨g,i*28+2+1,none⟩ (.int .i64 X.h)).setCell ⟨g,i*28+2+2,none⟩ (.slice xa xm xc)).setCell ⟨g,i*28+2+3,none⟩ (.int .i64 X.x)).setCell ⟨g,i*28+2+4,none⟩ (.int .i64 X.y)).setCell ⟨g,i*28+2+5,none⟩ (.bool X.cut)).setCell ⟨g,i*28+2+6,none⟩ (.int .i64 X.clip.1)).setCell ⟨g,i*28+2+7,none⟩ (.int .i64 X.clip.2.1)).setCell ⟨g,i*28+2+8,none⟩ (.int .i64 X.clip.2.2.1)).setCell ⟨g,i*28+2+9,none⟩ (.int .i64 X.clip.2.2.2)).setCell ⟨g,i*28+2+10,none⟩ (.slice ha hm hc)).alloc (.cells #[.int .i64 N.w,.int .i64 N.h,.slice pa pm pc,.int .i64 N.x,.int .i64 N.y,.bool N.cut,.int .i64 N.clip.1,.int .i64 N.clip.2.1,.int .i64 N.clip.2.2.1,.int .i64 N.clip.2.2.2,.slice na nm nc] 212)).alloc (.cells #[.int .i64 X.w,.int .i64 X.h,.slice xa xm xc,.int .i64 X.x,.int .i64 X.y,.bool X.cut,.int .i64 X.clip.1,.int .i64 X.clip.2.1,.int .i64 X.clip.2.2.1,.int .i64 X.clip.2.2.2,.slice ha hm hc] 212)=W2/\
   (∃F1,B3 W2 S c st.w st.h st.sfs.length st.order bv (.slice (some ⟨g,0,none⟩) st.sfs.length cap) ov F1/\DG W2 S (upd st i BW) F1 i)/\Ac S w W2/\W2.heap.size=w1.heap.size+2/\
   Blk W2 w1.heap.size 212 #[.int .i64 N.w,.int .i64 N.h,.slice pa pm pc,.int .i64 N.x,.int .i64 N.y,.bool N.cut,.int .i64 N.clip.1,.int .i64 N.clip.2.1,.int .i64 N.clip.2.2.1,.int .i64 N.clip.2.2.2,.slice na nm nc]/\
   Blk W2 (w1.heap.size+1) 212 #[.int .i64 X.w,.int .i64 X.h,.slice xa xm xc,.int .i64 X.x,.int .i64 X.y,.bool X.cut,.int .i64 X.clip.1,.int .i64 X.clip.2.1,.int .i64 X.clip.2.2.1,.int .i64 X.clip.2.2.2,.slice ha hm hc]/\∀b,b<w1.heap.size->b≠g->W2.heap[b]?=w1.heap[b]? :=by
 refine⟨_,rfl,?_⟩;have r1:=hr.below hb;have s1:=hs.below hb;obtain⟨e2,cur,hcur⟩:=r1.gType;have hr2:=((((((((((r1.set hi (show 2<28 by omega) (.int .i64 X.w)).set hi (show 3<28 by omega) (.int .i64 X.h)).set hi (show 4<28 by omega) (.slice xa xm xc)).set hi (show 5<28 by omega) (.int .i64 X.x)).set hi (show 6<28 by omega) (.int .i64 X.y)).set hi (show 7<28 by omega) (.bool X.cut)).set hi (show 8<28 by omega) (.int .i64 X.clip.1)).set hi (show 9<28 by omega) (.int .i64 X.clip.2.1)).set hi (show 10<28 by omega) (.int .i64 X.clip.2.2.1)).set hi (show 11<28 by omega) (.int .i64 X.clip.2.2.2)).set hi (show 12<28 by omega) (.slice ha hm hc);have hpk:=BB (j:=i*28+12) (u:=.slice ha hm hc) hcur (BB (j:=i*28+11) (u:=.int .i64 X.clip.2.2.2) hcur (BB (j:=i*28+10) (u:=.int .i64 X.clip.2.2.1) hcur (BB (j:=i*28+9) (u:=.int .i64 X.clip.2.1) hcur (BB (j:=i*28+8) (u:=.int .i64 X.clip.1) hcur (BB (j:=i*28+7) (u:=.bool X.cut) hcur (BB (j:=i*28+6) (u:=.int .i64 X.y) hcur (BB (j:=i*28+5) (u:=.int .i64 X.x) hcur (BB (j:=i*28+4) (u:=.slice xa xm xc) hcur (BB (j:=i*28+3) (u:=.int .i64 X.h) hcur (BB (j:=i*28+2) (u:=.int .i64 X.w) hcur (w':=w1) fun _ _ _ _ _=>rfl))))))))));have q:=s1.rel i hi;have hoth:∀b,b≠g->(((((((((((w1.setCell ⟨g,i*28+2,none⟩ (.int .i64 X.w)).setCell ⟨g,i*28+3,none⟩ (.int .i64 X.h)).setCell ⟨g,i*28+4,none⟩ (.slice xa xm xc)).setCell ⟨g,i*28+5,none⟩ (.int .i64 X.x)).setCell ⟨g,i*28+6,none⟩ (.int .i64 X.y)).setCell ⟨g,i*28+7,none⟩ (.bool X.cut)).setCell ⟨g,i*28+8,none⟩ (.int .i64 X.clip.1)).setCell ⟨g,i*28+9,none⟩ (.int .i64 X.clip.2.1)).setCell ⟨g,i*28+10,none⟩ (.int .i64 X.clip.2.2.1)).setCell ⟨g,i*28+11,none⟩ (.int .i64 X.clip.2.2.2)).setCell ⟨g,i*28+12,none⟩ (.slice ha hm hc)).heap[b]?=w1.heap[b]? :=fun b hne=>by
  rw[aL _ ⟨g,i*28+12,none⟩ b _ hne,aL _ ⟨g,i*28+11,none⟩ b _ hne,aL _ ⟨g,i*28+10,none⟩ b _ hne,aL _ ⟨g,i*28+9,none⟩ b _ hne,aL _ ⟨g,i*28+8,none⟩ b _ hne,aL _ ⟨g,i*28+7,none⟩ b _ hne,aL _ ⟨g,i*28+6,none⟩ b _ hne,aL _ ⟨g,i*28+5,none⟩ b _ hne,aL _ ⟨g,i*28+4,none⟩ b _ hne,aL _ ⟨g,i*28+3,none⟩ b _ hne,aL _ ⟨g,i*28+2,none⟩ b _ hne]
 have hO:Ac S w (((((((((((w1.setCell ⟨g,i*28+2,none⟩ (.int .i64 X.w)).setCell ⟨g,i*28+3,none⟩ (.int .i64 X.h)).setCell ⟨g,i*28+4,none⟩ (.slice xa xm xc)).setCell ⟨g,i*28+5,none⟩ (.int .i64 X.x)).setCell ⟨g,i*28+6,none⟩ (.int .i64 X.y)).setCell ⟨g,i*28+7,none⟩ (.bool X.cut)).setCell ⟨g,i*28+8,none⟩ (.int .i64 X.clip.1)).setCell ⟨g,i*28+9,none⟩ (.int .i64 X.clip.2.1)).setCell ⟨g,i*28+10,none⟩ (.int .i64 X.clip.2.2.1)).setCell ⟨g,i*28+11,none⟩ (.int .i64 X.clip.2.2.2)).setCell ⟨g,i*28+12,none⟩ (.slice ha hm hc)):=by
  have h0:Ac S w w1:=Ac.below hb;exact((((((((((h0.set (.inl e2) _).set (.inl e2) _).set (.inl e2) _).set (.inl e2) _).set (.inl e2) _).set (.inl e2) _).set (.inl e2) _).set (.inl e2) _).set (.inl e2) _).set (.inl e2) _).set (.inl e2) _
 have hRef:DG (((((((((((w1.setCell ⟨g,i*28+2,none⟩ (.int .i64 X.w)).setCell ⟨g,i*28+3,none⟩ (.int .i64 X.h)).setCell ⟨g,i*28+4,none⟩ (.slice xa xm xc)).setCell ⟨g,i*28+5,none⟩ (.int .i64 X.x)).setCell ⟨g,i*28+6,none⟩ (.int .i64 X.y)).setCell ⟨g,i*28+7,none⟩ (.bool X.cut)).setCell ⟨g,i*28+8,none⟩ (.int .i64 X.clip.1)).setCell ⟨g,i*28+9,none⟩ (.int .i64 X.clip.2.1)).setCell ⟨g,i*28+10,none⟩ (.int .i64 X.clip.2.2.1)).setCell ⟨g,i*28+11,none⟩ (.int .i64 X.clip.2.2.2)).setCell ⟨g,i*28+12,none⟩ (.slice ha hm hc)) S (upd st i BW) (upF (upF (upF (upF (upF (upF (upF (upF (upF (upF (upF F i 2 (.int .i64 X.w)) i 3 (.int .i64 X.h)) i 4 (.slice xa xm xc)) i 5 (.int .i64 X.x)) i 6 (.int .i64 X.y)) i 7 (.bool X.cut)) i 8 (.int .i64 X.clip.1)) i 9 (.int .i64 X.clip.2.1)) i 10 (.int .i64 X.clip.2.2.1)) i 11 (.int .i64 X.clip.2.2.2)) i 12 (.slice ha hm hc)) i:=TT hi s1 (fun j hj=>by simp only[D7 _ _ _ _ hj]) hpk (by
   simp only[Bx];subst hX;exact⟨q.alive,q.parent,rfl,rfl,rfl,rfl,rfl,rfl,rfl,rfl,rfl,⟨_,_,_,rfl⟩,q.xw,q.xh,q.xx,q.xy,q.xcut,q.x0,q.x1,q.x2,q.x3,q.xhint,q.ask,q.sib,q.above,q.kept⟩) (by simp only[Bx];exact hx.symm) (by simp only[Bx];rfl) (by simp only[Bx];exact hh.symm) (by simp only[Bx];rfl)
 exact Qa _ _ hr2 hRef hO (by simp) hoth
theorem TV{w:World}{S:Nat->Prop}{g K:Nat}{f:Nat->R4}(h:Bj w g K f)(hS:S g)(hK:K<=100000):AC w S (.slice (some ⟨g,0,none⟩) K K) K f:=by
 obtain⟨cur,h1,h2,h3⟩:=h;refine⟨K,rfl,⟨by rw[BM,B9],.inr ⟨g,K,cur,rfl,cB _,h1,aO _,by unfold maxLen;omega,h2,?_⟩⟩,fun b hb=>by injection hb with hb;rw[<-hb];exact hS⟩;refine List.ext_getElem? fun q=>?_;rw[List.getElem?_take];by_cases hq:q<K*4
 ·rw[if_pos hq,cQ];have hk:q/4<K:=by omega
  obtain⟨p0,p1,p2,p3⟩:=Bk (pxL f K) (q/4) (by rw[B9];exact hk);have hg:(pxL f K)[q/4]'(by rw[B9];exact hk)=f (q/4):=by simp[pxL]
  rw[hg]at p0 p1 p2 p3;obtain⟨c0,c1,c2,c3⟩:=h3 (q/4) hk;have h4:q%4=0\/q%4=1\/q%4=2\/q%4=3:=by omega
  rcases h4 with e|e|e|e
  ·have eq:q=q/4*4:=by omega
   rw[eq,p0]
   first|exact c0|(rw[Nat.add_zero]at c0;exact c0)
  ·have eq:q=q/4*4+1:=by omega
   rw[eq,p1];exact c1
  ·have eq:q=q/4*4+2:=by omega
   rw[eq,p2];exact c2
  ·have eq:q=q/4*4+3:=by omega
   rw[eq,p3];exact c3
 ·rw[if_neg hq,cD (by rw[BM,B9];omega)]
def J8:RB:=⟨fun _=>(0,0,0,0),0,fun _=>false⟩
structure Of(w wr:World)(W H:Int)(K k:Nat)(bv:Value)(xs:List Value)(P D:Nat->Nat):Prop where
 bel:Below w.heap.size w wr
 scr:Blk wr w.heap.size 202 #[.int .i64 W,.int .i64 H,bv,.slice none 0 0,.slice none 0 0]
 row:wr.ownsRow (w.heap.size+1) 204 3 bv k xs
 cel:∀j,j<k->xs[j*3]?=some (.slice (some ⟨P j,0,none⟩) K K)/\xs[j*3+1]?=some (.int .i64 0)/\xs[j*3+2]?=some (.slice (some ⟨D j,0,none⟩) K K)
 pix:∀j,j<k->Bj wr (P j) K (fun _=>(0,0,0,0))/\w.heap.size<P j/\P j<wr.heap.size
 dir:∀j,j<k->A2 wr (D j) K (fun _=>false)/\w.heap.size<D j/\D j<wr.heap.size
 ap:∀i j,i<k->j<k->i≠j->P i≠P j/\D i≠D j
def X6(W H:Int)(n:Nat)(w:World)(e:Ending)(w':World):Prop:=∃c bv P D,e=.returned (.tuple #[.pointer (some ⟨c,0,none⟩),.int .i64 0])/\w.heap.size<=c/\Aw w' (fun g=>g=c) c ⟨W,H,[],[]⟩ bv/\AG w' (fun g=>c<g/\g<w'.heap.size) bv (W.toNat*H.toNat) (List.replicate n J8) P D/\Below w.heap.size w w'
theorem Of.done{w wr:World}{W H:Int}{K k:Nat}{bv:Value}{xs:List Value}{P D:Nat->Nat}(h:Of w wr W H K k bv xs P D)(hk:k<=3)(hK:K<=1000)(hWH:K=W.toNat*H.toNat):X6 W H k w (.returned (.tuple #[.pointer (some ⟨w.heap.size,0,none⟩),.int .i64 0])) wr:=by
 refine⟨w.heap.size,bv,fun j=>.slice (some ⟨P j,0,none⟩) K K,fun j=>.slice (some ⟨D j,0,none⟩) K K,rfl,aO _,?_,?_,h.bel⟩
 ·exact⟨.slice none 0 0,.slice none 0 0,fun _ _=>undef,⟨h.scr,rfl,⟨[],A4.nil _ _ _ _,fun i hi=>by simp at hi⟩,A4.nil _ _ _ _⟩,fun i hi=>by simp at hi,fun i hi=>by simp at hi⟩
 ·rw[<-hWH];have hlr:(List.replicate k J8).length=k:=List.length_replicate;refine⟨⟨xs,?_,fun i hi=>?_⟩,by rw[hlr];exact hk,fun i hi=>?_,fun i hi=>?_,fun i j hi hj hne g hg hg2=>?_,fun i j hi hj hne g hg hg2=>?_⟩
  ·rw[hlr];exact⟨⟨h.row.1,h.row.2.imp (fun h=>h) fun⟨g,c,cur,e1,_,e3⟩=>⟨g,c,cur,e1,cB _,e3⟩⟩,fun g hg=>⟨by have:=(h.row.lt g hg).1;omega,(h.row.lt g hg).2⟩⟩
  ·rw[hlr]at hi;simp only[List.getElem_replicate];exact h.cel i hi
  ·rw[hlr]at hi;simp only[List.getElem_replicate];exact TV (h.pix i hi).1 (h.pix i hi).2 (by omega)
  ·rw[hlr]at hi;simp only[List.getElem_replicate];exact Ih (h.dir i hi).1 (h.dir i hi).2 (by omega)
  ·rw[hlr]at hi hj;injection hg with e1;injection hg2 with e2;exact(h.ap i j hi hj hne).1 (by simp only at e1 e2;omega)
  ·rw[hlr]at hi hj;injection hg with e1;injection hg2 with e2;exact(h.ap i j hi hj hne).2 (by simp only at e1 e2;omega)
variable{H W x y:Int}{L:List RB}{age k n:Nat}{d:Cv}{f:Nat->R4}{q:Nat->Bool}
theorem Qf(h:0<=x/\x<W/\0<=y/\y<H):inR (0,0,W,H) x y=true:=by
 unfold inR;exact bQ (by simp only;omega)
theorem Ha(h:¬(0<=x/\x<W/\0<=y/\y<H)):inR (0,0,W,H) x y=false:=by
 unfold inR;exact cE (by simp only;omega)
theorem Xe(h:inR (0,0,W,H) x y=true):0<=x/\x<W/\0<=y/\y<H:=by
 unfold inR at h;rw[bT]at h;simp only at h;omega
structure C4(d:Cv)(L:List RB):Prop where
 len:L.length=d.bufs.length
 pix:∀i (hi:i<L.length) (hi':i<d.bufs.length),∀k,k<d.W*d.H->L[i].f k=d.bufs[i].f k
 age:∀i (hi:i<L.length) (hi':i<d.bufs.length),L[i].age=d.bufs[i].age
 dirty:∀i (hi:i<L.length) (hi':i<d.bufs.length),1<=d.bufs[i].age->d.bufs[i].age<=4->∀k,k<d.W*d.H->L[i].dirty k=d.stale d.bufs[i].age ((k%d.W:Nat):Int) ((k/d.W:Nat):Int)
theorem Fl(d:Cv)(h1:1<=age)(h4:age<=4)(x y:Int):d.stale age x y=(List.range age).any fun k=>Ay (d.back k) x y:=by
 unfold Cv.stale;rw[if_neg (by omega)]
theorem RO(d:Cv)(h:age=0\/4<age)(hW:0<d.W)(hk:k<d.W*d.H):d.stale age ((k%d.W:Nat):Int) ((k/d.W:Nat):Int)=true:=by
 unfold Cv.stale;rw[if_pos h];have h1:=Nat.mod_lt k hW;have h2:k/d.W<d.H:=Nat.div_lt_of_lt_mul hk;generalize k%d.W=a at*;generalize k/d.W=b at*;exact Qf (by omega)
theorem C4.new(W H:Nat)(gs:List Nat):C4 (Cv.new W H gs) (List.replicate gs.length J8):=by
 have hb:∀i (h:i<(Cv.new W H gs).bufs.length),(Cv.new W H gs).bufs[i].age=0/\(Cv.new W H gs).bufs[i].f=fun _=>(0,0,0,0):=fun i h=>by
  simp[Cv.new,Gj]
 refine⟨by simp[Cv.new],fun i hi hi' k _=>?_,fun i hi hi'=>?_,fun i hi hi' h1=>?_⟩
 ·rw[(hb i hi').2,List.getElem_replicate];rfl
 ·rw[(hb i hi').1,List.getElem_replicate];rfl
 ·rw[(hb i hi').1]at h1;omega
theorem VJ(h:Co d)(R:Rgn)(hk:k<4):({d with dam:=d.dam.set d.nw R}:Cv).back k=if k=0 then R else d.back k:=by
 have h1:=h.nw;have h2:=h.ln;unfold Cv.back;simp only;rw[bW];by_cases e:k=0
 ·subst e;have e1:(d.nw+4-0)%4=d.nw:=by omega
  rw[e1,if_pos rfl,if_pos rfl,if_pos (by omega)];rfl
 ·rw[if_neg (by omega),if_neg e]
theorem C4.hurt{d':Cv}{l l':List R4}{L':List RB}(h:C4 d L)(hd:Co d)(hD:PR d d' l)(hH:Db L L' (d.W*d.H) (Cq l' d.W))(he:∀x y,AE l' x y=AE l x y):C4 d' L':=by
 obtain⟨R,rfl,hR,hm⟩:=hD;have h1:=hd.nw;have hb:∀ {k:Nat},k<4->∀x y,Ay (({d with dam:=d.dam.set d.nw R}:Cv).back k) x y=(Ay (d.back k) x y||(decide (k=0)&&AE l x y)):=fun{k} hk x y=>by
  rw[VJ hd R hk];by_cases e:k=0
  ·subst e;rw[if_pos rfl,hm];have e1:d.back 0=(d.dam[d.nw]?).getD []:=by
    unfold Cv.back;rw[show(d.nw+4-0)%4=d.nw by omega]
   rw[e1];simp
  ·rw[if_neg e];simp[e]
 have hs:∀age,1<=age->age<=4->∀x y,({d with dam:=d.dam.set d.nw R}:Cv).stale age x y=(d.stale age x y||AE l x y):=fun age a1 a4 x y=>by
  rw[Fl _ a1 a4,Fl _ a1 a4,Bool.eq_iff_iff,Bool.or_eq_true,cF,cF];constructor
  ·rintro⟨k,hk,hv⟩;have hk':=cf.1 hk;rw[hb (by omega)]at hv;rw[Bool.or_eq_true,Bool.and_eq_true]at hv;rcases hv with hv|hv
   ·exact .inl ⟨k,hk,hv⟩
   ·exact .inr hv.2
  ·rintro(⟨k,hk,hv⟩|hv)
   ·have hk':=cf.1 hk;exact⟨k,hk,by rw[hb (by omega),hv];rfl⟩
   ·exact⟨0,cf.2 (by omega),by rw[hb (by omega),hv];simp⟩
 refine⟨hH.1.trans h.len,fun i hi hi' k hk=>?_,fun i hi hi'=>?_,fun i hi hi' a1 a4 k hk=>?_⟩
 ·have hi0:i<L.length:=by rw[<-hH.1];exact hi
  rw[(hH.2 i hi0 hi).1];exact h.pix i hi0 hi' k hk
 ·have hi0:i<L.length:=by rw[<-hH.1];exact hi
  rw[(hH.2 i hi0 hi).2.1];exact h.age i hi0 hi'
 ·have hi0:i<L.length:=by rw[<-hH.1];exact hi
  rw[(hH.2 i hi0 hi).2.2 k hk,h.dirty i hi0 hi' a1 a4 k hk];show _=({d with dam:=d.dam.set d.nw R}:Cv).stale _ _ _;rw[hs _ a1 a4];unfold Cq;rw[he]
def Cy(L:List RB)(i:Nat)(f:Nat->R4):List RB:=L.mapIdx fun j b=>if j=i then⟨f,1,fun _=>false⟩else{b with age:=if 0<b.age then b.age+1 else 0}
theorem Lv(h:Co d)(hk:k+1<4):d.grown.back (k+1)=d.back k:=by
 have h1:=h.nw;have h2:=h.ln;unfold Cv.back Cv.grown;simp only;rw[bW,if_neg (by omega),show((d.nw+1)%4+4-(k+1))%4=(d.nw+4-k)%4 by omega]
theorem Lw(h:Co d):d.grown.back 0=[]:=by
 have h1:=h.nw;have h2:=h.ln;unfold Cv.back Cv.grown;simp only;rw[bW,if_pos (by omega),if_pos (by rw[h2];omega)];rfl
theorem Qg(h:Co d)(h1:1<=age)(h4:age+1<=4)(x y:Int):d.grown.stale (age+1) x y=d.stale age x y:=by
 rw[Fl _ (by omega) h4,Fl _ h1 (by omega),Bool.eq_iff_iff,cF,cF];constructor
 ·rintro⟨k,hk,hv⟩;have hk':=cf.1 hk;cases k with
  |zero=>rw[Lw h]at hv;simp[Ay]at hv
  |succ k=>exact⟨k,cf.2 (by omega),by rw[Lv h (by omega)]at hv;exact hv⟩
 ·rintro⟨k,hk,hv⟩;have hk':=cf.1 hk;exact⟨k+1,cf.2 (by omega),by rw[Lv h (by omega)];exact hv⟩
theorem C4.paint(h:C4 d L)(hd:Co d)(i:Nat){f':Nat->R4}(hf:∀k,k<d.W*d.H->f' k=f k):C4 (d.painted i f) (Cy L i f'):=by
 have hl:(d.painted i f).bufs.length=d.bufs.length:=by unfold Cv.painted;simp
 have hb:∀j (hj:j<(d.painted i f).bufs.length) (hj':j<d.bufs.length),(d.painted i f).bufs[j]=if j=i then⟨d.bufs[j].g,1,f⟩else d.bufs[j].older:=fun j hj hj'=>List.getElem_mapIdx
 have hr:∀j (hj:j<(Cy L i f').length) (hj':j<L.length),(Cy L i f')[j]=if j=i then⟨f',1,fun _=>false⟩else{L[j]with age:=if 0<L[j].age then L[j].age+1 else 0} :=fun j hj hj'=>List.getElem_mapIdx
 have hst:∀age x y,(d.painted i f).stale age x y=d.grown.stale age x y:=fun age x y=>rfl;have ho:∀b:Buf,b.older.age=if 0<b.age then b.age+1 else 0:=fun b=>by
  unfold Buf.older;split
  ·rfl
  ·omega
 refine⟨by rw[hl];unfold Cy;rw[List.length_mapIdx];exact h.len,fun j hj hj' k hk=>?_,fun j hj hj'=>?_,fun j hj hj' a1 a4 k hk=>?_⟩;all_goals
  have hj1:j<L.length:=by unfold Cy at hj;simpa using hj
  have hj2:j<d.bufs.length:=by rw[hl]at hj';exact hj'
 ·rw[hb j hj' hj2,hr j hj hj1];by_cases e:j=i
  ·rw[if_pos e,if_pos e];exact hf k hk
  ·rw[if_neg e,if_neg e,Buf.older_f];exact h.pix j hj1 hj2 k hk
 ·rw[hb j hj' hj2,hr j hj hj1];by_cases e:j=i
  ·rw[if_pos e,if_pos e]
  ·rw[if_neg e,if_neg e,ho,<-h.age j hj1 hj2]
 ·rw[hst];rw[hb j hj' hj2]at a1 a4 ⊢;rw[hr j hj hj1];by_cases e:j=i
  ·rw[if_pos e,if_pos e];show false=d.grown.stale 1 _ _;rw[Fl _ (by omega) (by omega)];show false=([0].any fun k=>Ay (d.grown.back k) _ _);simp[Lw hd,Ay]
  ·rw[if_neg e]at a1 a4;rw[if_neg e,if_neg e];rw[ho]at a1 a4 ⊢;by_cases hp:0<d.bufs[j].age
   ·rw[if_pos hp]at a4 ⊢;rw[Qg hd (by omega) a4];exact h.dirty j hj1 hj2 (by omega) (by omega) k hk
   ·rw[if_neg hp]at a1;omega
theorem C4.fill(h:C4 d L)(i g:Nat)(q:Nat->Bool):C4 (d.filled i g f) (L.set i ⟨f,0,q⟩):=by
 have hl:(d.filled i g f).bufs.length=d.bufs.length:=by unfold Cv.filled;simp
 have hb:∀j (hj:j<(d.filled i g f).bufs.length) (hj':j<d.bufs.length),(d.filled i g f).bufs[j]=if i=j then⟨g,0,f⟩else d.bufs[j]:=fun j hj hj'=>List.getElem_set hj
 have hr:∀j (hj:j<(L.set i (⟨f,0,q⟩:RB)).length) (hj':j<L.length),(L.set i (⟨f,0,q⟩:RB))[j]=if i=j then⟨f,0,q⟩else L[j]:=fun j hj hj'=>by rw[List.getElem_set]
 refine⟨by rw[hl,bG];exact h.len,fun j hj hj' k hk=>?_,fun j hj hj'=>?_,fun j hj hj' a1 a4 k hk=>?_⟩;all_goals
  have hj1:j<L.length:=by simpa using hj
  have hj2:j<d.bufs.length:=by rw[hl]at hj';exact hj'
 ·rw[hb j hj' hj2,hr j hj hj1];split
  ·rfl
  ·exact h.pix j hj1 hj2 k hk
 ·rw[hb j hj' hj2,hr j hj hj1];split
  ·rfl
  ·exact h.age j hj1 hj2
 ·rw[hb j hj' hj2]at a1 a4 ⊢;rw[hr j hj hj1];by_cases e:i=j
  ·rw[if_pos e]at a1;simp at a1
  ·rw[if_neg e]at a1 a4;rw[if_neg e,if_neg e];exact h.dirty j hj1 hj2 a1 a4 k hk
def AP(n:Nat):List Int:=(List.range (n+1)).map fun(k:Nat)=>(k:Int)
theorem Bh(n:Nat):(AP n).length=n+1:=by simp[AP]
theorem Cz(h:k<=n):nth (AP n) k=k:=by
 rw[BZ _ _ (by rw[Bh];omega)];simp[AP]
theorem Dc(n:Nat):(AP n).Pairwise (· < ·):=by
 rw[cN];intro i j hi hj hij;simp only[AP,List.getElem_map,List.getElem_range];omega
theorem IV(h:n<=24):∀e∈AP n, -2000<=e/\e<=2000:=by
 intro e he;obtain⟨k,hk,rfl⟩:=List.mem_map.1 he;have:=cf.1 hk;omega
def CG(q:Nat->Bool)(n:Nat):List Bool:=(List.range n).map q
theorem T9{W H i:Nat}(hi:i<H):EZ (CG q (W*H)) W i=(List.range W).map fun x=>q (i*W+x):=by
 have hle:(i+1)*W<=W*H:=by rw[Nat.mul_comm W H];exact bU W hi
 rw[Nat.add_mul,Nat.one_mul]at hle;unfold EZ CG;refine List.ext_getElem ?_ fun x h1 h2=>?_
 ·simp;omega
 ·simp
theorem RP{W H:Nat}(x y:Int):E0 (AP W) (AP H) (CG q (W*H)) x y=(inR (0,0,(W:Int),(H:Int)) x y&&q (y.toNat*W+x.toNat)):=by
 have sF:=Dc H;have sE:=Dc W;by_cases hy0:y<0
 ·rw[Ij sF (by rw[Cz (cB _)];omega)];have:inR (0,0,(W:Int),(H:Int)) x y=false:=Ha (by omega);rw[this];rfl
 ·by_cases hy1:(H:Int)<=y
  ·rw[Gy sF (by rw[Bh,Nat.add_sub_cancel,Cz (aO _)];exact hy1)];have:inR (0,0,(W:Int),(H:Int)) x y=false:=Ha (by omega);rw[this];rfl
  ·obtain⟨Y,hY⟩:∃Y:Nat,y=(Y:Int):=⟨y.toNat,by omega⟩;subst hY;rw[Jx sF (i:=Y) (by rw[Bh];omega) (by rw[Cz (by omega)];omega) (by rw[Cz (by omega)];omega),Bh,Nat.add_sub_cancel,T9 (by omega)];have hl:((List.range W).map fun x=>q (Y*W+x)).length+1=(AP W).length:=by rw[Bh];simp
   by_cases hx0:x<0
   ·rw[Ii sE hl (by rw[Cz (cB _)];omega)];have:inR (0,0,(W:Int),(H:Int)) x (Y:Int)=false:=Ha (by omega);rw[this];rfl
   ·by_cases hx1:(W:Int)<=x
    ·rw[Gw sE hl (by rw[List.length_map,List.length_range,Cz (aO _)];exact hx1)];have:inR (0,0,(W:Int),(H:Int)) x (Y:Int)=false:=Ha (by omega);rw[this];rfl
    ·obtain⟨X,hX⟩:∃X:Nat,x=(X:Int):=⟨x.toNat,by omega⟩;subst hX;rw[Fk sE hl (k:=X) (by simp;omega) (by rw[Cz (by omega)];omega) (by rw[Cz (by omega)];omega)];have:inR (0,0,(W:Int),(H:Int)) (X:Int) (Y:Int)=true:=Qf (by omega);rw[this,aX,aX,bu,bZ,List.getElem?_range (by omega)];rfl
theorem Qh(hd:Co d)(hq:∀k,k<d.W*d.H->q k=d.stale age ((k%d.W:Nat):Int) ((k/d.W:Nat):Int)){O O':Rgn}(hO:AL O)(hm:∀x y,Ay O x y=d.stale age x y)(hG:EE (AP d.W) (AP d.H) (CG q (d.W*d.H)) ((AP d.H).length-1) O'):O'=O:=by
 refine MD hG.good hO fun x y=>?_;rw[Lr (Dc _) hG,RP,hm];cases hin:inR (0,0,(d.W:Int),(d.H:Int)) x y with
 |false=>
  rw[Bool.false_and];symm;unfold Cv.stale;split
  ·exact hin
  ·rw[cJ];intro k _ hk;unfold Cv.back at hk;rcases e:d.dam[(d.nw+4-k)%4]?with _|R
   ·rw[e]at hk;simp[Ay]at hk
   ·rw[e]at hk;have:=hd.inside R (cH e) x y hk;rw[hin]at this;cases this
 |true=>
  rw[Bool.true_and];have h:=Xe hin;obtain⟨X,hX⟩:∃X:Nat,x=(X:Int):=⟨x.toNat,by omega⟩;obtain⟨Y,hY⟩:∃Y:Nat,y=(Y:Int):=⟨y.toNat,by omega⟩;subst hX hY;have hXW:X<d.W:=by omega
  have hk:Y*d.W+X<d.W*d.H:=by
   have hle:(Y+1)*d.W<=d.W*d.H:=by rw[Nat.mul_comm d.W d.H];exact bU _ (by omega)
   rw[Nat.add_mul,Nat.one_mul]at hle;omega
  rw[aX,aX,hq _ hk,(RF hXW).1,(RF hXW).2]
theorem Ua(k:Nat):(List.range (k+1)).map (fun(i:Nat)=>Value.int .i64 (i:Int))=(List.range k).map (fun(i:Nat)=>Value.int .i64 (i:Int))++[Value.int .i64 (k:Int)]:=by
 rw[List.range_succ,cL];rfl
theorem IW(n:Nat)(hn:n<=24)(w:World):
  Calls prog 184 #[.int .i64 n] w fun e w'=>∃g cap,e=.returned (.slice (some ⟨g,0,none⟩) (n+1) cap)/\DP w' g (AP n)/\w.heap.size<=g/\g<w'.heap.size/\Below w.heap.size w w':=by
 obtain⟨i0,hi0,hz0,hz1,hz2⟩:=cW EJ;have HFin:Hid (∀(v:Value) (w':World),w'.ownsRow w.heap.size 3 1 v (n+1) ((List.range (n+1)).map fun(i:Nat)=>Value.int .i64 (i:Int))->∃g cap,v=.slice (some ⟨g,0,none⟩) (n+1) cap/\DP w' g (AP n)/\w.heap.size<=g/\g<w'.heap.size):=fun v w' ho=>by
  obtain⟨g,cap,e1,e2,e3⟩:=World.ownsRow.form ho (by omega);refine⟨g,cap,e1,fun j hj=>?_,e2,e3⟩;rw[Bh]at hj;have:=cj ho (g:=g) (by rw[e1];rfl) j (.int .i64 (j:Int)) (by rw[bZ,List.getElem?_range hj];rfl);rw[Bn]at this;rw[Cz (by omega)];exact this
 go_enter func184,ntmps184
 go_wp2
 go_loopg [3,4] (n+1) (fun gg s3 s4 wr=>∃k:Nat,s4=.int .i64 k/\gg+k=n+1/\wr.ownsRow w.heap.size 3 1 s3 k ((List.range k).map fun(i:Nat)=>Value.int .i64 (i:Int))/\Below w.heap.size w wr)
 case atStart=>exact⟨0,rfl,by omega,bA _ _ _ _,aN _ _⟩
 case round=>
  rename World=>wr;obtain⟨k,rfl,hgk,hown,hbel⟩:=hrel;obtain⟨va,vc,hvf⟩:=Al hown;subst hvf;have hsz:=hbel.size;have HO:=Aa (aK hown hbel);cases gk with
  |zero=>
   have hlt:¬(k:Int)<=(n:Int):=by omega
   have hk:k=n+1:=by omega
   subst hk;obtain⟨g,cap,hv,h1,h2,h3⟩:=HFin.out _ _ hown;have HF:=Aa (aK h1 (aK h2 h3));injection hv with hv1 _ hv3;subst hv1 hv3;clear hown hbel h1 h2 h3;go_wp2;go_ret;exact⟨g,⟨vc,rfl⟩,HF.out.1,HF.out.2.1,HF.out.2.2,HO.out.2⟩
  |succ gk=>
   have hlt:(k:Int)<=(n:Int):=by omega
   clear hown hbel
   go_wp2_with(at_builtin;refine Am (P:=prog) rfl (.tmp 10) (.tmp 12) 24 rfl w.heap.size 3 i0 _ 1 8 underlying24 hi0 hz0 hz1 hz2 rfl (by decide) (.slice va k vc) k ((List.range k).map fun(i:Nat)=>Value.int .i64 (i:Int)) rfl (HO.out.1.alloc _) (.slice (some ⟨wr.heap.size,0,none⟩) 1 1) 1 [.int .i64 k] rfl rfl (.inr ⟨_,_,rfl,bI (cs:=#[.int .i64 k]) (t:=3) (fr:=(0,0)) (aR wr _)⟩) (by simp[Value.oneCell']) (by unfold maxLen;omega) (by omega) (by simp;omega) ?_;intro v3 w3 ho3 hg3 hn3 ha3;have HB3:=Aa ((HO.out.2.alloc hsz _).grown hg3 (by simp;omega) (fun k hk=>(HO.out.1.lt k hk).1));have HO3:=Aa ho3;clear ho3 hg3 hn3 ha3)
   go_roundg gk
   case measure=>omega
   case rel=>
    refine⟨k+1,by go_num,by omega,?_,HB3.out⟩;rw[Ua];exact HO3.out
theorem SN(r:R4)(x y:Int):inR (nrm r) x y=inR r x y:=by
 unfold nrm;split
 ·rfl
 ·rename_i h
  have h2:inR r x y=false:=by
   cases e:inR r x y with
   |false=>rfl
   |true=>exact absurd (Kv e) h
  rw[h2];unfold inR;exact cE (by simp only;omega)
theorem Jy{st:St}(hw:Wf st){i:Nat}(hi:i∈st.order)(x y:Int):AE (st.partsL i) x y=AE ((st.visAll i).map st.seen) x y:=by
 rw[Bool.eq_iff_iff];unfold AE St.partsL;rw[cF,cF];constructor
 ·rintro⟨r,hr,hin⟩;obtain⟨j,hj,rfl⟩:=List.mem_map.1 hr;obtain⟨hj1,hj2⟩:=bY.1 hj;rw[SN]at hin;exact⟨st.seen j,List.mem_map.2 ⟨j,Le hw hj1 (by simpa using hj2) (Kv hin),rfl⟩,hin⟩
 ·rintro⟨r,hr,hin⟩;obtain⟨j,hj,rfl⟩:=List.mem_map.1 hr;rw[Ic]at hj;unfold St.vis at hj;obtain⟨hj1,_⟩:=bY.1 hj;have hjo:j∈st.order/\i∈st.chain j:=by
   rcases cw.1 hj1 with e|e
   ·subst e;exact⟨hi,by rw[Av hw.par];simp⟩
   ·obtain⟨h1,_,h3⟩:=(CJ hw st.sfs.length i (by omega) j).1 e;exact⟨h1,h3⟩
  exact⟨nrm (st.seen j),List.mem_map.2 ⟨j,bY.2 ⟨hjo.1,by simpa using hjo.2⟩,rfl⟩,by rw[SN];exact hin⟩
theorem Kb{step:Nat->R4->R4}(hs:∀m h,step m h=h):∀(m:Nat) (h:R4),Dy step m h=h
 |0,_=>rfl
 |m+1,h=>by
  unfold Dy;rw[hs,Kb hs m h]
theorem IY(p:Int->Int->Bool){R:R4}(h:¬Di R=true):BG p R=(0,0,0,0):=by
 have h2:R.2.2.1<=R.1\/R.2.2.2<=R.2.1:=by
  by_cases a:R.1<R.2.2.1
  ·by_cases b:R.2.1<R.2.2.2
   ·exact absurd (by unfold Di;exact bQ ⟨a,b⟩) h
   ·exact .inr (by omega)
  ·exact .inl (by omega)
 unfold BG Bc;rcases h2 with h2|h2
 ·have e:(R.2.2.1-R.1).toNat=0:=by omega
  exact Kb (fun m h=>by rw[e];rfl) _ _
 ·have e:(R.2.2.2-R.2.1).toNat=0:=by omega
  rw[e];rfl
theorem Qm(p:Int->Int->Bool)(R:R4):BG p (nrm R)=BG p R:=by
 unfold nrm;split
 ·rfl
 ·rename_i h
  rw[IY p h,IY p (by decide)]
theorem VN(h:R4)(x y:Int):AE (chL h) x y=inR h x y:=by
 unfold chL;split
 ·simp[AE]
 ·rename_i hn
  have h2:inR h x y=false:=by
   cases e:inR h x y with
   |false=>rfl
   |true=>
    refine absurd ?_ hn;unfold inR at e;have:=ck e;unfold pts;exact bQ (by omega)
  rw[h2];rfl
theorem VO(hf:AW st)(hi:i∈st.order):(cm st i).kids (st.sf i).parent=st.kids (st.sf i).parent↔(cm st i).pos i=st.pos i:=by
 have hw:=hf.wf;have hil:=hw.lt hi;have hw':=MH hw hf.sib hi;have hpar:∀k,((cm st i).sf k).parent=(st.sf k).parent:=fun k=>KM st i k hil;have hord:∀j,j∈(cm st i).order↔j∈st.order:=fun j=>(EK hw hf.sib hi).mem_iff;constructor
 ·intro h;unfold St.pos;rw[hpar,h]
 ·intro hpos;by_cases hq:st.puts i=true/\(st.sf i).parent=(st.sf i).parent
  ·have hk:i∈st.kids (st.sf i).parent:=AN.2 ⟨hi,rfl⟩;have hk':i∈(cm st i).kids (st.sf i).parent:=AN.2 ⟨(hord i).2 hi,hpar i⟩;refine PV (hw.nd.filter _) (hw'.nd.filter _) hk hk' ?_ ?_
   ·unfold St.pos at hpos;rw[hpar]at hpos;exact hpos
   ·rw[Iy hw hf.sib hi,if_pos hq];exact Ld _ _ _ _ (by simp) _
  ·rw[Iy hw hf.sib hi,if_neg hq]
theorem Ok(hf:AW st)(hi:i∈st.order):st.rmoved i=st.moved i:=by
 have hil:=hf.wf.lt hi;have hk:=VO hf hi;have hn:((cm st i).sf i).now=(st.sf i).next:=by rw[MG st i i hil,if_pos rfl];rfl
 have hd:decide ((cm st i).kids (st.sf i).parent=st.kids (st.sf i).parent)=((((cm st i).pos i:Nat):Int)==((st.pos i:Nat):Int)):=by
  rw[Bool.eq_iff_iff,decide_eq_true_iff,beq_iff_eq,hk];omega
 unfold St.rmoved St.moved NP;rw[hd,hn];generalize (st.sf i).now=N;generalize (st.sf i).next=X;rw[BEq.comm (a:=X.w),BEq.comm (a:=X.h),BEq.comm (a:=X.x),BEq.comm (a:=X.y),BEq.comm (a:=X.clip.1),BEq.comm (a:=X.clip.2.1),BEq.comm (a:=X.clip.2.2.1),BEq.comm (a:=X.clip.2.2.2),BEq.comm (a:=X.cut)];simp only[bne,Bool.not_and]
 ac_rfl
theorem Uh(hf:AW st)(hi:i∈st.order)(x y:Int):AE (st.rcDam i) x y=AE (st.cmDam i) x y:=by
 have hw':=MH hf.wf hf.sib hi;have hi':i∈(cm st i).order:=(EK hf.wf hf.sib hi).mem_iff.2 hi;unfold St.rcDam St.cmDam;rw[Ok hf hi];split
 ·rw[Lf,Lf,Jy hf.wf hi,Jy hw' hi']
 ·rw[VN,Qm];simp[AE]
end Go.Proofs.YtofinpocigbbeaaGreat
