import Derived.Test.YtofinpocigbbeaaGreatKbq
import Derived.Test.YtofinpocigbbeaaGreatKbo
set_option linter.unusedSimpArgs false
namespace Go.Proofs.YtofinpocigbbeaaGreat
open Go.RowKit Go.Proofs.Tryz
variable{B S:Nat->Prop}{D P:Nat->Value}{L:List RB}{N cap g i m:Nat}{bv v:Value}{f f':Nat->R4}{n:Int}{w w':World}
theorem AC.keepB(h:AC w S v n f)(hk:∀g,v.ownBlock=some g->w'.heap[g]?=w.heap[g]?):AC w' S v n f:=by
 obtain⟨m,h1,h2⟩:=h;exact⟨m,h1,Ai h2.1 hk,h2.2⟩
theorem AC.congr(h:AC w S v n f)(he:∀i:Nat,(i:Int)<n->f' i=f i):AC w S v n f':=by
 obtain⟨m,h1,h2⟩:=h;refine⟨m,h1,?_⟩;have:pxL f' m=pxL f m:=by
  unfold pxL;exact List.map_congr_left fun i hi=>he i (by have:=cf.1 hi;omega)
 rw[this];exact h2
theorem AH.put{k:Nat->Bool}(h:AH w S (sj g m cap) n k)(q:Nat)(b:Bool):AH (w.setCell (jA g q) (.bool b)) S (sj g m cap) n fun j=>if j=q then b else k j:=by
 obtain⟨m',h1,h2⟩:=h;have e:m'=m:=by
  obtain⟨a,c,e⟩:=h2.form;injection e with _ e _;exact e.symm
 subst e;refine⟨m',h1,?_⟩;have h3:=h2.set q (.bool b);have e2:((List.range m').map fun i=>Value.bool (k i)).set q (.bool b)=(List.range m').map fun j=>Value.bool (if j=q then b else k j):=by
  refine List.ext_getElem? fun j=>?_;rw[bW,bZ,bZ];by_cases hj:j<m'
  ·rw[List.getElem?_range hj];by_cases ej:q=j
   ·subst ej;simp[hj]
   ·rw[if_neg ej];simp only[Option.map_some];rw[if_neg (fun e=>ej e.symm)]
  ·have hn:(List.range m')[j]?=none:=cD (by simp;omega);rw[hn];by_cases ej:q=j
   ·subst ej;rw[if_pos rfl,if_neg (by simp;omega)];rfl
   ·rw[if_neg ej];rfl
 rw[e2]at h3;exact h3
theorem Oi(f:Nat->R4)(m q:Nat)(p:R4):((((Aq (pxL f m)).set (q*4) (.int .u8 p.1)).set (q*4+1) (.int .u8 p.2.1)).set (q*4+2) (.int .u8 p.2.2.1)).set (q*4+3) (.int .u8 p.2.2.2)=Aq (pxL (fun j=>if j=q then p else f j) m):=by
 refine List.ext_getElem? fun j=>?_;have hl:∀f':Nat->R4,(Aq (pxL f' m)).length=m*4:=fun f'=>by rw[BM,B9]
 by_cases hj:j<m*4
 ·have hk:j/4<m:=by omega
  have at4:∀f':Nat->R4,(Aq (pxL f' m))[j]?=some (if j%4=0 then .int .u8 (f' (j/4)).1 else if j%4=1 then .int .u8 (f' (j/4)).2.1 else if j%4=2 then .int .u8 (f' (j/4)).2.2.1 else .int .u8 (f' (j/4)).2.2.2):=fun f'=>by
   obtain⟨p0,p1,p2,p3⟩:=Bk (pxL f' m) (j/4) (by rw[B9];exact hk);have hg:(pxL f' m)[j/4]'(by rw[B9];exact hk)=f' (j/4):=by simp[pxL]
   rw[hg]at p0 p1 p2 p3;have h4:j%4=0\/j%4=1\/j%4=2\/j%4=3:=by omega
   rcases h4 with e|e|e|e
   ·have eq:j/4*4=j:=by omega
    rw[eq]at p0;rw[p0,if_pos e]
   ·have eq:j/4*4+1=j:=by omega
    rw[eq]at p1;rw[p1,if_neg (by omega),if_pos e]
   ·have eq:j/4*4+2=j:=by omega
    rw[eq]at p2;rw[p2,if_neg (by omega),if_neg (by omega),if_pos e]
   ·have eq:j/4*4+3=j:=by omega
    rw[eq]at p3;rw[p3,if_neg (by omega),if_neg (by omega),if_neg (by omega)]
  rw[at4];simp only[bW,bG,hl];by_cases e:j/4=q
  ·rw[if_pos e];have h4:j%4=0\/j%4=1\/j%4=2\/j%4=3:=by omega
   rcases h4 with e4|e4|e4|e4
   ·have e5:j=q*4:=by omega
    subst e5;rw[if_neg (by omega),if_neg (by omega),if_neg (by omega),if_pos rfl,if_pos (by omega),if_pos e4]
   ·have e5:j=q*4+1:=by omega
    subst e5;rw[if_neg (by omega),if_neg (by omega),if_pos rfl,if_pos (by omega),if_neg (by omega),if_pos e4]
   ·have e5:j=q*4+2:=by omega
    subst e5;rw[if_neg (by omega),if_pos rfl,if_pos (by omega),if_neg (by omega),if_neg (by omega),if_pos e4]
   ·have e5:j=q*4+3:=by omega
    subst e5;rw[if_pos rfl,if_pos (by omega),if_neg (by omega),if_neg (by omega),if_neg (by omega)]
  ·rw[if_neg (by omega),if_neg (by omega),if_neg (by omega),if_neg (by omega),at4,if_neg e]
 ·rw[cD (by simp only[bG,hl];omega),cD (by rw[hl];omega)]
theorem AC.put(h:AC w S (sj g m cap) n f)(q:Nat)(p:R4):AC ((((w.setCell (jA g (q*4)) (.int .u8 p.1)).setCell (jA g (q*4+1)) (.int .u8 p.2.1)).setCell (jA g (q*4+2)) (.int .u8 p.2.2.1)).setCell (jA g (q*4+3)) (.int .u8 p.2.2.2)) S (sj g m cap) n fun j=>if j=q then p else f j:=by
 obtain⟨m',h1,h2⟩:=h;have e:m'=m:=by
  obtain⟨a,c,e⟩:=h2.form;injection e with _ e _;exact e.symm
 subst e;refine⟨m',h1,?_⟩;rw[<-Oi];exact(((h2.set _ _).set _ _).set _ _).set _ _
theorem AG.pixForm(h:AG w B bv N L P D)(hN:0<N)(hi:i<L.length):∃g cap,P i=sj g N cap/\N<=cap/\B g/\g<w.heap.size/\(∃cur,w.heap[g]?=some (.cells cur 51 (0,0)))/\(∀j,w.frozen? (jA g j)=false):=by
 obtain⟨m,h1,h2⟩:=h.pix i hi;have hm:m=N:=by omega
 subst hm;obtain⟨g,cap,e1,e2,e3,e4,e5,e6⟩:=h2.open hN;exact⟨g,cap,e1,e3,e2,e4,h2.type (by rw[e1];rfl),e6⟩
theorem AG.dirForm(h:AG w B bv N L P D)(hN:0<N)(hi:i<L.length):∃g cap,D i=sj g N cap/\N<=cap/\B g/\g<w.heap.size/\(∃cur,w.heap[g]?=some (.cells cur 4 (0,0)))/\(∀j,w.frozen? (jA g j)=false):=by
 obtain⟨m,h1,h2⟩:=h.dir i hi;have hm:m=N:=by omega
 subst hm;obtain⟨g,cap,e1,e2,e3,e4,e5,e6⟩:=h2.open hN;exact⟨g,cap,e1,e3,e2,e4,h2.type (by rw[e1];rfl),e6⟩
theorem AG.rowForm(h:AG w B bv N L P D)(hn:0<L.length):∃g cap,bv=sj g L.length cap/\L.length<=cap/\B g/\g<w.heap.size/\(∃cur,w.heap[g]?=some (.cells cur 204 (0,0)))/\(∀j,w.frozen? (jA g j)=false)/\∀i (hi:i<L.length),w.cell? (jA g (i*3))=some (P i)/\w.cell? (jA g (i*3+1))=some (vj L[i].age)/\w.cell? (jA g (i*3+2))=some (D i):=by
 obtain⟨xs,h1,h2⟩:=h.row;obtain⟨g,cap,e1,e2,e3,e4,e5,e6⟩:=h1.open hn;exact⟨g,cap,e1,e3,e2,e4,h1.type (by rw[e1];rfl),e6,fun i hi=>⟨e5 _ _ (h2 i hi).1,e5 _ _ (h2 i hi).2.1,e5 _ _ (h2 i hi).2.2⟩⟩
theorem AG.put(h:AG w B bv N L P D)(hi:i<L.length){gp gd:Nat}(hP:(P i).ownBlock=some gp)(hD:(D i).ownBlock=some gd)(hk:∀g,B g->g≠gp->g≠gd->g<w.heap.size->w'.heap[g]?=w.heap[g]?){q':Nat->Bool}(hp:AC w' B (P i) N f')(hd:AH w' B (D i) N q'):AG w' B bv N (L.set i ⟨f',L[i].age,q'⟩) P D:=by
 obtain⟨cp,hcp⟩:∃cur,w.heap[gp]?=some (.cells cur 51 (0,0)):=let ⟨m,_,h2⟩:=h.pix i hi;h2.type hP
 obtain⟨cd,hcd⟩:∃cur,w.heap[gd]?=some (.cells cur 4 (0,0)):=let ⟨m,_,h2⟩:=h.dir i hi;h2.type hD
 have hs:∀j (hj:j<(L.set i ⟨f',L[i].age,q'⟩).length),(L.set i ⟨f',L[i].age,q'⟩)[j]=if i=j then⟨f',L[i].age,q'⟩else L[j]'(by simpa using hj):=fun j hj=>by rw[List.getElem_set]
 refine⟨?_,by rw[bG];exact h.few,fun j hj=>?_,fun j hj=>?_,by rw[bG];exact h.apP,by rw[bG];exact h.apD⟩
 ·obtain⟨xs,h1,h2⟩:=h.row;refine⟨xs,?_,fun j hj=>?_⟩
  ·rw[bG];refine⟨Ai h1.1 fun g hg=>?_,h1.2⟩;obtain⟨cur,hc⟩:=h1.type hg;exact hk g (h1.2 g hg) (Aj hc hcp (by decide)) (Aj hc hcd (by decide)) (aM.1 hc).1
  ·have hj2:j<L.length:=by simpa using hj
   rw[hs j hj];by_cases e:i=j
   ·subst e;rw[if_pos rfl];exact h2 i hj2
   ·rw[if_neg e];exact h2 j hj2
 ·have hj2:j<L.length:=by simpa using hj
  rw[hs j hj];by_cases e:i=j
  ·subst e;rw[if_pos rfl];exact hp
  ·rw[if_neg e];refine(h.pix j hj2).keepB fun g hg=>?_;obtain⟨m,_,h2⟩:=h.pix j hj2;obtain⟨cur,hc⟩:=h2.type hg;exact hk g (h2.2 g hg) (fun e2=>h.apP i j hi hj2 e gp hP (by rw[<-e2];exact hg)) (Aj hc hcd (by decide)) (aM.1 hc).1
 ·have hj2:j<L.length:=by simpa using hj
  rw[hs j hj];by_cases e:i=j
  ·subst e;rw[if_pos rfl];exact hd
  ·rw[if_neg e];refine(h.dir j hj2).keepB fun g hg=>?_;obtain⟨m,_,h2⟩:=h.dir j hj2;obtain⟨cur,hc⟩:=h2.type hg;exact hk g (h2.2 g hg) (Aj hc hcp (by decide)) (fun e2=>h.apD i j hi hj2 e gd hD (by rw[<-e2];exact hg)) (aM.1 hc).1
theorem AG.setAge{n:Nat}(h:AG w B (sj g n cap) N L P D)(hi:i<L.length)(a:Nat):AG (w.setCell (jA g (i*3+1)) (vj a)) B (sj g n cap) N (L.set i {L[i]with age:=a}) P D:=by
 obtain⟨xs,h1,h2⟩:=h.row;obtain⟨cur,hcur⟩:=h1.type (g:=g) rfl;have hn:n=L.length:=by
  obtain⟨a,c,e⟩:=h1.form;injection e with _ e _
 subst hn;have hk:∀(T:TypeId),T≠204->∀(b:Nat) (c:Array Value),w.heap[b]?=some (.cells c T (0,0))->(w.setCell (jA g (i*3+1)) (vj a)).heap[b]?=w.heap[b]? :=fun T hT b c hb=>aL w (jA g (i*3+1)) b _ (Aj hb hcur hT);have hs:∀j (hj:j<(L.set i {L[i]with age:=a}).length),(L.set i {L[i]with age:=a})[j]=if i=j then{L[i]with age:=a}else L[j]'(by simpa using hj):=fun j hj=>by rw[List.getElem_set]
 have hxl:=h1.len;refine⟨⟨xs.set (i*3+1) (vj a),by rw[bG];exact h1.set _ _,fun j hj=>?_⟩,by rw[bG];exact h.few,fun j hj=>?_,fun j hj=>?_,by rw[bG];exact h.apP,by rw[bG];exact h.apD⟩
 ·have hj2:j<L.length:=by simpa using hj
  obtain⟨x0,x1,x2⟩:=h2 j hj2;rw[hs j hj,bW,bW,bW,if_neg (by omega),if_neg (show¬i*3+1=j*3+2 by omega)];by_cases e:i=j
  ·subst e;rw[if_pos rfl,if_pos rfl,if_pos (by omega)];exact⟨x0,rfl,x2⟩
  ·rw[if_neg (by omega),if_neg e];exact⟨x0,x1,x2⟩
 ·have hj2:j<L.length:=by simpa using hj
  rw[hs j hj];by_cases e:i=j
  ·subst e;rw[if_pos rfl];exact(h.pix i hj2).other (hk _ (by decide))
  ·rw[if_neg e];exact(h.pix j hj2).other (hk _ (by decide))
 ·have hj2:j<L.length:=by simpa using hj
  rw[hs j hj];by_cases e:i=j
  ·subst e;rw[if_pos rfl];exact(h.dir i hj2).other (hk _ (by decide))
  ·rw[if_neg e];exact(h.dir j hj2).other (hk _ (by decide))
theorem AG.setDir{n:Nat}(h:AG w B (sj g n cap) N L P D)(hi:i<L.length){q:Nat->Bool}(hv:AH w B v N q)(hap:∀j,j<L.length->j≠i->∀b,v.ownBlock=some b->(D j).ownBlock≠some b):AG (w.setCell (jA g (i*3+2)) v) B (sj g n cap) N (L.set i {L[i]with dirty:=q}) P fun j=>if j=i then v else D j:=by
 obtain⟨xs,h1,h2⟩:=h.row;obtain⟨cur,hcur⟩:=h1.type (g:=g) rfl;have hn:n=L.length:=by
  obtain⟨a,c,e⟩:=h1.form;injection e with _ e _
 subst hn;have hk:∀(T:TypeId),T≠204->∀(b:Nat) (c:Array Value),w.heap[b]?=some (.cells c T (0,0))->(w.setCell (jA g (i*3+2)) v).heap[b]?=w.heap[b]? :=fun T hT b c hb=>aL w (jA g (i*3+2)) b _ (Aj hb hcur hT);have hs:∀j (hj:j<(L.set i {L[i]with dirty:=q}).length),(L.set i {L[i]with dirty:=q})[j]=if i=j then{L[i]with dirty:=q}else L[j]'(by simpa using hj):=fun j hj=>by rw[List.getElem_set]
 have hxl:=h1.len;refine⟨⟨xs.set (i*3+2) v,by rw[bG];exact h1.set _ _,fun j hj=>?_⟩,by rw[bG];exact h.few,fun j hj=>?_,fun j hj=>?_,by rw[bG];exact h.apP,?_⟩
 ·have hj2:j<L.length:=by simpa using hj
  obtain⟨x0,x1,x2⟩:=h2 j hj2;rw[hs j hj,bW,bW,bW,if_neg (by omega),if_neg (show¬i*3+2=j*3+1 by omega)];by_cases e:i=j
  ·subst e;rw[if_pos rfl,if_pos rfl,if_pos (by omega),if_pos rfl];exact⟨x0,x1,rfl⟩
  ·rw[if_neg e,if_neg (show¬i*3+2=j*3+2 by omega),if_neg (fun e2=>e e2.symm)];exact⟨x0,x1,x2⟩
 ·have hj2:j<L.length:=by simpa using hj
  rw[hs j hj];by_cases e:i=j
  ·subst e;rw[if_pos rfl];exact(h.pix i hj2).other (hk _ (by decide))
  ·rw[if_neg e];exact(h.pix j hj2).other (hk _ (by decide))
 ·have hj2:j<L.length:=by simpa using hj
  rw[hs j hj];by_cases e:i=j
  ·subst e;rw[if_pos rfl,if_pos rfl];exact hv.other (hk _ (by decide))
  ·rw[if_neg e,if_neg (fun e2=>e e2.symm)];exact(h.dir j hj2).other (hk _ (by decide))
 ·rw[bG];intro a b ha hb hne g' hg' hg2;by_cases ea:a=i
  ·subst ea;rw[if_pos rfl]at hg';rw[if_neg (fun e=>hne e.symm)]at hg2;exact hap b hb (fun e=>hne e.symm) g' hg' hg2
  ·rw[if_neg ea]at hg';by_cases eb:b=i
   ·subst eb;rw[if_pos rfl]at hg2;exact hap a ha ea g' hg2 hg'
   ·rw[if_neg eb]at hg2;exact h.apD a b ha hb hne g' hg' hg2
theorem AG.setPix{n:Nat}(h:AG w B (sj g n cap) N L P D)(hi:i<L.length)(hv:AC w B v N f)(hap:∀j,j<L.length->j≠i->∀b,v.ownBlock=some b->(P j).ownBlock≠some b):AG (w.setCell (jA g (i*3)) v) B (sj g n cap) N (L.set i {L[i]with f:=f}) (fun j=>if j=i then v else P j) D:=by
 obtain⟨xs,h1,h2⟩:=h.row;obtain⟨cur,hcur⟩:=h1.type (g:=g) rfl;have hn:n=L.length:=by
  obtain⟨a,c,e⟩:=h1.form;injection e with _ e _
 subst hn;have hk:∀(T:TypeId),T≠204->∀(b:Nat) (c:Array Value),w.heap[b]?=some (.cells c T (0,0))->(w.setCell (jA g (i*3)) v).heap[b]?=w.heap[b]? :=fun T hT b c hb=>aL w (jA g (i*3)) b _ (Aj hb hcur hT);have hs:∀j (hj:j<(L.set i {L[i]with f:=f}).length),(L.set i {L[i]with f:=f})[j]=if i=j then{L[i]with f:=f}else L[j]'(by simpa using hj):=fun j hj=>by rw[List.getElem_set]
 have hxl:=h1.len;refine⟨⟨xs.set (i*3) v,by rw[bG];exact h1.set _ _,fun j hj=>?_⟩,by rw[bG];exact h.few,fun j hj=>?_,fun j hj=>?_,?_,by rw[bG];exact h.apD⟩
 ·have hj2:j<L.length:=by simpa using hj
  obtain⟨x0,x1,x2⟩:=h2 j hj2;rw[hs j hj,bW,bW,bW,if_neg (show¬i*3=j*3+1 by omega),if_neg (show¬i*3=j*3+2 by omega)];by_cases e:i=j
  ·subst e;rw[if_pos rfl,if_pos rfl,if_pos (by omega),if_pos rfl];exact⟨rfl,x1,x2⟩
  ·rw[if_neg (by omega),if_neg e,if_neg (fun e2=>e e2.symm)];exact⟨x0,x1,x2⟩
 ·have hj2:j<L.length:=by simpa using hj
  rw[hs j hj];by_cases e:i=j
  ·subst e;rw[if_pos rfl,if_pos rfl];exact hv.other (hk _ (by decide))
  ·rw[if_neg e,if_neg (fun e2=>e e2.symm)];exact(h.pix j hj2).other (hk _ (by decide))
 ·have hj2:j<L.length:=by simpa using hj
  rw[hs j hj];by_cases e:i=j
  ·subst e;rw[if_pos rfl];exact(h.dir i hj2).other (hk _ (by decide))
  ·rw[if_neg e];exact(h.dir j hj2).other (hk _ (by decide))
 ·rw[bG];intro a b ha hb hne g' hg' hg2;by_cases ea:a=i
  ·subst ea;rw[if_pos rfl]at hg';rw[if_neg (fun e=>hne e.symm)]at hg2;exact hap b hb (fun e=>hne e.symm) g' hg' hg2
  ·rw[if_neg ea]at hg';by_cases eb:b=i
   ·subst eb;rw[if_pos rfl]at hg2;exact hap a ha ea g' hg2 hg'
   ·rw[if_neg eb]at hg2;exact h.apP a b ha hb hne g' hg' hg2
def RB.older(b:RB):RB:={b with age:=if 0<b.age then b.age+1 else 0}
def C5(L:List RB)(k:Nat):List RB:=L.mapIdx fun j b=>if j<k then b.older else b
theorem BH(L:List RB)(k:Nat):(C5 L k).length=L.length:=by unfold C5;rw[List.length_mapIdx]
theorem Qi(L:List RB):C5 L 0=L:=by
 refine List.ext_getElem (BH L 0) fun j h1 h2=>?_;simp[C5]
theorem DQ(L:List RB)(k j:Nat)(hj:j<L.length)(hj':j<(C5 L k).length):(C5 L k)[j]=if j<k then L[j].older else L[j]:=by simp[C5]
theorem Qj(L:List RB)(k:Nat)(hk:k<L.length):C5 L (k+1)=(C5 L k).set k L[k].older:=by
 refine List.ext_getElem (by rw[bG,BH,BH]) fun j h1 h2=>?_;have hj:j<L.length:=by rw[BH]at h1;exact h1
 rw[DQ L (k+1) j hj,List.getElem_set];by_cases e:k=j
 ·subst e;rw[if_pos (by omega),if_pos rfl]
 ·rw[if_neg e,DQ L k j hj];by_cases e2:j<k
  ·rw[if_pos (by omega),if_pos e2]
  ·rw[if_neg (by omega),if_neg e2]
theorem RR(L:List RB)(i:Nat)(f:Nat->R4)(a:Nat)(L1:List RB)(hL1:L1=L.set i ⟨f,a,fun _=>false⟩)(hl:i<(C5 L1 L1.length).length):(C5 L1 L1.length).set i { (C5 L1 L1.length)[i]with age:=1} =Cy L i f:=by
 subst hL1;refine List.ext_getElem (by rw[bG,BH,bG];unfold Cy;rw[List.length_mapIdx]) fun j h1 h2=>?_;have hj:j<L.length:=by rw[bG,BH,bG]at h1;exact h1
 rw[List.getElem_set];have hr:(Cy L i f)[j]=if j=i then⟨f,1,fun _=>false⟩else{L[j]with age:=if 0<L[j].age then L[j].age+1 else 0} :=List.getElem_mapIdx
 rw[hr];by_cases e:i=j
 ·subst e;rw[if_pos rfl,if_pos rfl,DQ _ _ _ (by simpa using hj),if_pos (by simpa using hj)];simp[RB.older]
 ·rw[if_neg e,if_neg (fun e2=>e e2.symm),DQ _ _ _ (by simpa using hj),if_pos (by simpa using hj),List.getElem_set,if_neg e];rfl
attribute [local go_sem ↓] Go.wp_at_zero Go.wp_at_succ
variable{dcap dg k:Nat}{wr:World}
def fTo(q:Nat->Bool)(pic f0:Nat->R4)(k j:Nat):R4:=if j<k/\q j=true then pic j else f0 j
def dTo(q d0:Nat->Bool)(k j:Nat):Bool:=if j<k then q j else d0 j
theorem VK{q:Nat->Bool}(pic f0:Nat->R4)(h:q k=true->False)(j:Nat):fTo q pic f0 (k+1) j=fTo q pic f0 k j:=by
 unfold fTo;by_cases e:j=k
 ·subst e;rw[if_neg (fun hh=>h hh.2),if_neg (fun hh=>h hh.2)]
 ·by_cases e2:j<k/\q j=true
  ·rw[if_pos e2,if_pos ⟨by omega,e2.2⟩]
  ·rw[if_neg e2,if_neg (fun hh=>e2 ⟨by omega,hh.2⟩)]
theorem Xf{q:Nat->Bool}(pic f0:Nat->R4)(h:q k=true)(j:Nat):fTo q pic f0 (k+1) j=if j=k then pic k else fTo q pic f0 k j:=by
 unfold fTo;by_cases e:j=k
 ·subst e;rw[if_pos ⟨by omega,h⟩,if_pos rfl]
 ·rw[if_neg e];by_cases e2:j<k/\q j=true
  ·rw[if_pos e2,if_pos ⟨by omega,e2.2⟩]
  ·rw[if_neg e2,if_neg (fun hh=>e2 ⟨by omega,hh.2⟩)]
theorem SM(q d0:Nat->Bool)(k j:Nat):dTo q d0 (k+1) j=if j=k then q k else dTo q d0 k j:=by
 unfold dTo;by_cases e:j=k
 ·subst e;rw[if_pos (by omega),if_pos rfl]
 ·rw[if_neg e];by_cases e2:j<k
  ·rw[if_pos e2,if_pos (by omega)]
  ·rw[if_neg e2,if_neg (by omega)]
structure RpM(w wr:World)(A B:Nat->Prop)(c:Nat)(st:St)(bv:Value)(N:Nat)(L:List RB)(P D:Nat->Value)(i:Nat)(b0:RB)(q:Nat->Bool)(pic:Nat->R4)(bl:Nat->Int)(k:Nat):Prop where
 ref:Aw wr A c st bv
 buf:AG wr B bv N (L.set i ⟨fTo q pic b0.f k,b0.age,dTo q b0.dirty k⟩) P D
 only:Ac B w wr
 res:Blk wr w.heap.size 35 #[jj,vj 0]
 pp:Blk wr (w.heap.size+1) 35 #[jj,vj (Az (fun j=>if q j=true then bl j else 0) k)]
def Lx(A B:Nat->Prop)(c:Nat)(st:St)(bv:Value)(W H:Nat)(L:List RB)(i:Nat)(q:Nat->Bool)(f:Nat->R4)(z:Int)(w:World)(e:Ending)(w':World):Prop:=
 ∃(rv:Value) (O:Rgn) (P D:Nat->Value),e=.returned (.tuple #[.agg #[rv,vj z],vj 0])/\AF w' w.heap.size rv (rc O)/\EE (AP W) (AP H) (CG q (W*H)) ((AP H).length-1) O/\Aw w' A c st bv/\AG w' (AA B w w') bv (W*H) (Cy L i f) P D/\Ac B w w'
theorem Blk.below{w w':World}{b:Nat}{T:TypeId}{cs:Array Value}(h:Blk w b T cs)(hb:uj w w'):Blk w' b T cs:=h.keep (hb.block b (Ab h))
section
variable{A:Nat->Prop}{c:Nat}{st:St}{b0:RB}{q:Nat->Bool}{pic:Nat->R4}{bl:Nat->Int}
theorem RpM.below{wr':World}(h:RpM w wr A B c st bv N L P D i b0 q pic bl k)(hb:uj wr wr'):RpM w wr' A B c st bv N L P D i b0 q pic bl k:=
 ⟨h.ref.keep fun g _ hg=>hb.block g hg,h.buf.keep fun g _ hg=>hb.block g hg,h.only.trans (Ac.below hb),h.res.below hb,h.pp.below hb⟩
theorem Eg(b:RB)(h:i<(L.set i b).length):(L.set i b)[i]=b:=by rw[List.getElem_set];exact if_pos rfl
theorem RpM.marked(h:RpM w wr A B c st bv N L P D i b0 q pic bl k)(hk:k<N)(hi:i<L.length)(hD:D i=sj dg N dcap):wr.cell? (jA dg k)=some (.bool (b0.dirty k))/\(wr.setCell (jA dg k) (.bool (q k))).cell? (jA dg k)=some (.bool (q k))/\B dg:=by
 have hi':i<(L.set i (⟨fTo q pic b0.f k,b0.age,dTo q b0.dirty k⟩:RB)).length:=by simpa using hi
 have hd:=h.buf.dir i hi';rw[Eg,hD]at hd;obtain⟨g9,c9,m9,e9,_,_,hB,_,hu,_⟩:=hd.at (q:=k) (by omega);injection e9 with e1 _ e3;injection e1 with e1;injection e1 with e1;subst e1;obtain⟨g8,c8,m8,e8,_,_,_,_,hv,_⟩:=(hd.put k (q k)).at (q:=k) (by omega);injection e8 with e1 _ e3;injection e1 with e1;injection e1 with e1;subst e1;rw[if_pos rfl]at hv;refine⟨?_,hv,hB⟩;rw[hu];show some (Value.bool (dTo q b0.dirty k k))=_;unfold dTo;rw[if_neg (by omega)]
theorem RpM.mark(h:RpM w wr A B c st bv N L P D i b0 q pic bl k)(hap:∀g,A g->¬B g)(hlt:∀g,B g->g<w.heap.size)(hN:0<N)(hi:i<L.length)(hD:D i=sj dg N dcap)(hq:q k=true->False):RpM w (wr.setCell (jA dg k) (.bool (q k))) A B c st bv N L P D i b0 q pic bl (k+1):=by
 have hi':i<(L.set i (⟨fTo q pic b0.f k,b0.age,dTo q b0.dirty k⟩:RB)).length:=by simpa using hi
 obtain⟨pg,pcap,hP,_,hBp,_⟩:=h.buf.pixForm hN hi';obtain⟨dg',dcap',hD',_,hBd,hdl,⟨dcur,hdt⟩,_⟩:=h.buf.dirForm hN hi';rw[hD]at hD';injection hD' with e1 _ e3;injection e1 with e1;injection e1 with e1;subst e1 e3;have hoth:∀b,b≠dg->(wr.setCell (jA dg k) (.bool (q k))).heap[b]?=wr.heap[b]? :=fun b hb=>aL wr (jA dg k) b _ hb;have hdw:=hlt dg hBd;have hp:=h.buf.pix i hi';have hd:=h.buf.dir i hi';rw[Eg]at hp hd;rw[hD]at hd;have hp2:AC (wr.setCell (jA dg k) (.bool (q k))) B (P i) N (fTo q pic b0.f (k+1)):=(hp.other fun b cur hb=>hoth b (Aj hb hdt (by decide))).congr fun j _=>VK pic b0.f hq j;have hd2:AH (wr.setCell (jA dg k) (.bool (q k))) B (sj dg N dcap) N (dTo q b0.dirty (k+1)):=(hd.put k (q k)).congr fun j _=>SM q b0.dirty k j;have hb:=h.buf.put (w':=wr.setCell (jA dg k) (.bool (q k))) hi' (gp:=pg) (gd:=dg) (by rw[hP];rfl) (by rw[hD];rfl) (fun g _ _ hg _=>hoth g hg) hp2 (by rw[hD];exact hd2);rw[Eg,List.set_set]at hb;refine⟨h.ref.keep fun g hg _=>hoth g fun e=>hap g hg (e▸hBd),hb,h.only.set (.inl hBd) _,h.res.keep (hoth _ (by omega)),?_⟩;have e:Az (fun j=>if q j=true then bl j else 0) (k+1)=Az (fun j=>if q j=true then bl j else 0) k:=by
  show _+(if q k=true then bl k else 0)=_;rw[if_neg (fun hh=>hq hh)];omega
 rw[e];exact h.pp.keep (hoth _ (by omega))
theorem RpM.paint{w5 w6:World}(h:RpM w wr A B c st bv N L P D i b0 q pic bl k)(hap:∀g,A g->¬B g)(hlt:∀g,B g->g<w.heap.size)(hA:∀g,A g->g<w.heap.size)(hN:0<N)(hi:i<L.length){pg pcap:Nat}(hD:D i=sj dg N dcap)(hP:P i=sj pg N pcap)(hq:q k=true)
  (h5:Below (wr.setCell (jA dg k) (.bool (q k))).heap.size (wr.setCell (jA dg k) (.bool (q k))) w5)
  (h6:Below w5.heap.size ((((w5.setCell (jA pg (k*4)) (.int .u8 (pic k).1)).setCell (jA pg (k*4+1)) (.int .u8 (pic k).2.1)).setCell (jA pg (k*4+2)) (.int .u8 (pic k).2.2.1)).setCell (jA pg (k*4+3)) (.int .u8 (pic k).2.2.2)) w6) (z:Int) (hz:z=Az (fun j=>if q j=true then bl j else 0) k+bl k):RpM w (w6.setCell (jA (w.heap.size+1) 1) (vj z)) A B c st bv N L P D i b0 q pic bl (k+1):=by
 have hi':i<(L.set i (⟨fTo q pic b0.f k,b0.age,dTo q b0.dirty k⟩:RB)).length:=by simpa using hi
 obtain⟨pg',pcap',hP',_,hBp,hpl,⟨pcur,hpt⟩,_⟩:=h.buf.pixForm hN hi';obtain⟨dg',dcap',hD',_,hBd,hdl,⟨dcur,hdt⟩,_⟩:=h.buf.dirForm hN hi';rw[hD]at hD';injection hD' with e1 _ e3;injection e1 with e1;injection e1 with e1;subst e1 e3;rw[hP]at hP';injection hP' with e1 _ e3;injection e1 with e1;injection e1 with e1;subst e1 e3;have hne:pg≠dg:=Aj hpt hdt (by decide);have hdw:=hlt dg hBd;have hpw:=hlt pg hBp;have hppl:=Ab h.pp;have oth1:∀b,b≠dg->(wr.setCell (jA dg k) (.bool (q k))).heap[b]?=wr.heap[b]? :=fun b hb=>aL wr (jA dg k) b _ hb;have k5:∀b,b<wr.heap.size->w5.heap[b]?=(wr.setCell (jA dg k) (.bool (q k))).heap[b]? :=fun b hb=>h5.block b (by simpa using hb);have oth2:∀b,b≠pg->((((w5.setCell (jA pg (k*4)) (.int .u8 (pic k).1)).setCell (jA pg (k*4+1)) (.int .u8 (pic k).2.1)).setCell (jA pg (k*4+2)) (.int .u8 (pic k).2.2.1)).setCell (jA pg (k*4+3)) (.int .u8 (pic k).2.2.2)).heap[b]?=w5.heap[b]? :=fun b hb=>by
  rw[aL _ (jA pg (k*4+3)) b _ hb,aL _ (jA pg (k*4+2)) b _ hb,aL _ (jA pg (k*4+1)) b _ hb,aL _ (jA pg (k*4)) b _ hb]
 have oth3:∀b,b≠w.heap.size+1->(w6.setCell (jA (w.heap.size+1) 1) (vj z)).heap[b]?=w6.heap[b]? :=fun b hb=>aL w6 (jA (w.heap.size+1) 1) b _ hb;have hs5:wr.heap.size<=w5.heap.size:=by
  have:=h5.size;simpa using this
 have all:∀b,b<wr.heap.size->b≠dg->b≠pg->b≠w.heap.size+1->(w6.setCell (jA (w.heap.size+1) 1) (vj z)).heap[b]?=wr.heap[b]? :=fun b h1 h2 h3 h4=>by rw[oth3 b h4,h6.block b (by omega),oth2 b h3,k5 b h1,oth1 b h2]
 have hp:=h.buf.pix i hi';have hd:=h.buf.dir i hi';rw[Eg]at hp hd;rw[hD]at hd;rw[hP]at hp;have hp5:AC w5 B (sj pg N pcap) N (fTo q pic b0.f k):=hp.keepB fun g hg=>by
  have:g=pg:=by simp[Value.ownBlock]at hg;exact hg.symm
  subst this;rw[k5 g hpl,oth1 g hne]
 have hp7:AC (w6.setCell (jA (w.heap.size+1) 1) (vj z)) B (sj pg N pcap) N (fTo q pic b0.f (k+1)):=by
  refine((hp5.put k (pic k)).keepB fun g hg=>?_).congr fun j hj=>?_
  ·have:g=pg:=by simp[Value.ownBlock]at hg;exact hg.symm
   subst this;rw[oth3 g (by omega),h6.block g (by omega)]
  ·exact Xf pic b0.f hq j
 have hd7:AH (w6.setCell (jA (w.heap.size+1) 1) (vj z)) B (sj dg N dcap) N (dTo q b0.dirty (k+1)):=by
  refine((hd.put k (q k)).keepB fun g hg=>?_).congr fun j hj=>?_
  ·have:g=dg:=by simp[Value.ownBlock]at hg;exact hg.symm
   subst this;rw[oth3 g (by omega),h6.block g (by omega),oth2 g (fun e=>hne e.symm),k5 g hdl]
  ·exact SM q b0.dirty k j
 have hb:=h.buf.put hi' (gp:=pg) (gd:=dg) (by rw[hP];rfl) (by rw[hD];rfl) (fun g hBg h1 h2 h3=>all g h3 h2 h1 (by have:=hlt g hBg;omega)) (by rw[hP];exact hp7) (by rw[hD];exact hd7);rw[Eg,List.set_set]at hb;have hoA:∀g,A g->g<wr.heap.size->(w6.setCell (jA (w.heap.size+1) 1) (vj z)).heap[g]?=wr.heap[g]?\/g=w.heap.size+1:=fun g hg hl=>by
  by_cases e:g=w.heap.size+1
  ·exact .inr e
  ·exact .inl (all g hl (fun e2=>hap g hg (e2▸hBd)) (fun e2=>hap g hg (e2▸hBp)) e)
 have hpp6:Blk w6 (w.heap.size+1) 35 #[jj,vj (Az (fun j=>if q j=true then bl j else 0) k)]:=h.pp.keep (by rw[h6.block _ (by omega),oth2 _ (by omega),k5 _ hppl,oth1 _ (by omega)]);refine⟨h.ref.keep fun g hg hl=>(hoA g hg hl).elim id fun e=>?_,hb,?_,h.res.keep (all _ (Ab h.res) (by omega) (by omega) (by omega)),?_⟩
 ·have:=hA g hg;omega
 ·have o5:=(h.only.set (p:=(jA dg k)) (.inl hBd) (.bool (q k))).after h5;have o6:=(((o5.set (p:=(jA pg (k*4))) (.inl hBp) (.int .u8 (pic k).1)).set (p:=(jA pg (k*4+1))) (.inl hBp) (.int .u8 (pic k).2.1)).set (p:=(jA pg (k*4+2))) (.inl hBp) (.int .u8 (pic k).2.2.1)).set (p:=(jA pg (k*4+3))) (.inl hBp) (.int .u8 (pic k).2.2.2);have h6':Below ((((w5.setCell (jA pg (k*4)) (.int .u8 (pic k).1)).setCell (jA pg (k*4+1)) (.int .u8 (pic k).2.1)).setCell (jA pg (k*4+2)) (.int .u8 (pic k).2.2.1)).setCell (jA pg (k*4+3)) (.int .u8 (pic k).2.2.2)).heap.size ((((w5.setCell (jA pg (k*4)) (.int .u8 (pic k).1)).setCell (jA pg (k*4+1)) (.int .u8 (pic k).2.1)).setCell (jA pg (k*4+2)) (.int .u8 (pic k).2.2.1)).setCell (jA pg (k*4+3)) (.int .u8 (pic k).2.2.2)) w6:=by simpa using h6
  exact(o6.after h6').set (.inr (cT _)) _
 ·have h9:=hpp6.set 1 (vj z);have e:Az (fun j=>if q j=true then bl j else 0) (k+1)=z:=by
   rw[hz];show _+(if q k=true then bl k else 0)=_;rw[if_pos hq]
  rw[e];exact h9
end
variable{u:Value}
theorem VL(k:Nat)(hk:k<=576)(w:World):(Instr.makeSlice 154 (vj (k:Int)) (vj (k:Int))).run prog w=.ok (sj w.heap.size k k) (w.alloc (.cells (madeCells #[.bool false] k) 4)):=run_make_row' 154 4 (.bool false) 1 underlying154 du rfl .i64 .i64 k (by omega) (by omega) w
theorem C6{w:World}{a b o o':Nat}(h:a≠b):(w.setCell (jA b o') u).cell? (jA a o)=w.cell? (jA a o):=aV (a:=(jA a o)) (aL w (jA b o') a u h)
theorem Ue(w:World)(o1 o2:Obj):((w.alloc o1).alloc o2).heap[w.heap.size]?=some o1/\((w.alloc o1).alloc o2).heap[w.heap.size+1]?=some o2:=by
 have e2:((w.alloc o1).alloc o2).heap[w.heap.size+1]?=some o2:=by
  have:=aR (w.alloc o1) o2;simpa using this
 refine⟨?_,e2⟩;rw[Ad (w.alloc o1) o2 w.heap.size (by simp)];exact aR w o1
structure RpN(w wr:World)(A B:Nat->Prop)(c:Nat)(st:St)(bv:Value)(N:Nat)(L':List RB)(P D:Nat->Value)(rv:Value)(z:Int)(O:Rgn):Prop where
 ref:Aw wr A c st bv
 buf:AG wr (AA B w wr) bv N L' P D
 only:Ac B w wr
 res:Blk wr w.heap.size 35 #[jj,vj 0]
 pp:Blk wr (w.heap.size+1) 35 #[rv,vj z]
 own:AF wr w.heap.size rv (rc O)
section
variable{A:Nat->Prop}{c:Nat}{st:St}{b0:RB}{q:Nat->Bool}{pic:Nat->R4}{bl:Nat->Int}{bg nb bcap:Nat}{O:Rgn}{rv:Value}{z:Int}
theorem RpN.below{wr':World}{bv:Value}(h:RpN w wr A B c st bv N L P D rv z O)(hb:uj wr wr'):RpN w wr' A B c st bv N L P D rv z O:=
 ⟨h.ref.keep fun g _ hg=>hb.block g hg,(h.buf.keep fun g _ hg=>hb.block g hg).mono fun _ hg=>hg.imp id fun hh=>⟨hh.1,aQ hh.2 hb.size⟩,h.only.trans (Ac.below hb),h.res.below hb,h.pp.below hb,⟨Ai h.own.1 fun g hg=>hb.block g (h.own.1.lt g hg).2,h.own.2⟩⟩
theorem RpM.toN{w7:World}(h:RpM w wr A B c st (sj bg nb bcap) N L P D i b0 q pic bl N)(hap:∀g,A g->¬B g)(hA:∀g,A g->g<w.heap.size)(hlt:∀g,B g->g<w.heap.size)(hN:N<=576)(hi:i<L.length)(hBb:B bg)(h7:uj wr w7)(hu:AF w7 wr.heap.size u (rc O)):
  RpN w (((w7.setCell (jA (w.heap.size+1) 0) u).setCell (jA bg (i*3+2)) (sj w7.heap.size N N)).alloc (.cells (madeCells #[.bool false] N) 4)) A B c st (sj bg nb bcap) N (L.set i ⟨fTo q pic b0.f N,b0.age,fun _=>false⟩) P (fun j=>if j=i then sj w7.heap.size N N else D j) u (Az (fun j=>if q j=true then bl j else 0) N) O:=by
 have hbw:=hlt bg hBb;have hwr:=h.only.size;have hs7:=h7.size;have hppl:=Ab h.pp;have hV1:(w7.setCell (jA (w.heap.size+1) 0) u).heap.size=w7.heap.size:=by simp
 have k1:∀b,b<wr.heap.size->b≠w.heap.size+1->(w7.setCell (jA (w.heap.size+1) 0) u).heap[b]?=wr.heap[b]? :=fun b hb hne=>by rw[aL w7 (jA (w.heap.size+1) 0) b u hne];exact h7.block b hb
 have hi':i<(L.set i (⟨fTo q pic b0.f N,b0.age,dTo q b0.dirty N⟩:RB)).length:=by rw[bG];exact hi
 obtain⟨W,hW⟩:∃W,((w7.setCell (jA (w.heap.size+1) 0) u).setCell (jA bg (i*3+2)) (sj w7.heap.size N N)).alloc (.cells (madeCells #[.bool false] N) 4)=W:=⟨_,rfl⟩;rw[hW];have hW2:((w7.setCell (jA (w.heap.size+1) 0) u).alloc (.cells (madeCells #[.bool false] N) 4)).setCell (jA bg (i*3+2)) (sj w7.heap.size N N)=W:=by rw[<-hW];exact World.setCell_alloc_past _ _ _ _ (by rw[hV1];omega)
 have hWs:W.heap.size=w7.heap.size+1:=by rw[<-hW];simp
 have h0:AG (w7.setCell (jA (w.heap.size+1) 0) u) B (sj bg nb bcap) N (L.set i ⟨fTo q pic b0.f N,b0.age,dTo q b0.dirty N⟩) P D:=h.buf.keep fun g hg hl=>k1 g hl (by have:=hlt g hg;omega);have h1:AG ((w7.setCell (jA (w.heap.size+1) 0) u).alloc (.cells (madeCells #[.bool false] N) 4)) (AA B w W) (sj bg nb bcap) N (L.set i ⟨fTo q pic b0.f N,b0.age,dTo q b0.dirty N⟩) P D:=(h0.keep fun g _ hl=>Ad _ _ g hl).mono fun g hg=>.inl hg;have hK:AH ((w7.setCell (jA (w.heap.size+1) 0) u).alloc (.cells (madeCells #[.bool false] N) 4)) (AA B w W) (sj w7.heap.size N N) N (fun _=>false):=by
  refine Ih (Ly ?_) (.inr ⟨by omega,by omega⟩) (by omega);have h9:=aR (w7.setCell (jA (w.heap.size+1) 0) u) (.cells (madeCells #[.bool false] N) 4);rw[hV1]at h9;exact h9
 have h2:=h1.setDir hi' hK fun j hj hne b hb he=>by
  have e1:b=w7.heap.size:=by simp[Value.ownBlock]at hb;exact hb.symm
  obtain⟨m,_,hr⟩:=h.buf.dir j hj;have:=hlt b (hr.2 b he);omega
 rw[hW2,Eg,List.set_set]at h2;have kW:∀b,b<wr.heap.size->b≠w.heap.size+1->b≠bg->W.heap[b]?=wr.heap[b]? :=fun b hb hne hnb=>by
  rw[<-hW,Ad _ _ b (by simp;omega),aL _ (jA bg (i*3+2)) b _ hnb];exact k1 b hb hne
 refine⟨h.ref.keep fun g hg hl=>kW g hl (by have:=hA g hg;omega) (fun e=>hap g hg (e▸hBb)),h2,?_,h.res.keep (kW _ (Ab h.res) (by omega) (by omega)),?_,?_,hu.2⟩
 ·have o7:=h.only.after h7;have:=((o7.set (p:=(jA (w.heap.size+1) 0)) (.inr (cT _)) u).set (p:=(jA bg (i*3+2))) (.inl hBb) (sj w7.heap.size N N)).alloc (.cells (madeCells #[.bool false] N) 4);rw[hW]at this;exact this
 ·have h9:Blk w7 (w.heap.size+1) 35 _:=h.pp.keep (h7.block _ hppl);have h8:=h9.set 0 u;refine Blk.keep h8 ?_;rw[<-hW,Ad _ _ _ (by simp;omega),aL _ (jA bg (i*3+2)) _ _ (show w.heap.size+1≠bg by omega)]
 ·have h9:=hu.lower hwr;refine Ai h9.1 fun g hg=>?_;have hgl:=hu.1.lt g hg;rw[<-hW,Ad _ _ _ (by simp;omega),aL _ (jA bg (i*3+2)) _ _ (show g≠bg by omega),aL _ (jA (w.heap.size+1) 0) _ _ (show g≠w.heap.size+1 by omega)]
theorem RpN.setAge(h:RpN w wr A B c st (sj bg nb bcap) N L P D rv z O)(hap:∀g,A g->¬B g)(hlt:∀g,B g->g<w.heap.size)(hBb:B bg){j:Nat}(hj:j<L.length)(a:Nat):RpN w (wr.setCell (jA bg (j*3+1)) (vj a)) A B c st (sj bg nb bcap) N (L.set j {L[j]with age:=a}) P D rv z O:=by
 have hbw:=hlt bg hBb;have k1:∀b,b≠bg->(wr.setCell (jA bg (j*3+1)) (vj a)).heap[b]?=wr.heap[b]? :=fun b hb=>aL wr (jA bg (j*3+1)) b _ hb;have hsz:(wr.setCell (jA bg (j*3+1)) (vj a)).heap.size=wr.heap.size:=by simp
 refine⟨h.ref.keep fun g hg _=>k1 g fun e=>hap g hg (e▸hBb),(h.buf.setAge hj a).mono fun g hg=>hg.imp id fun hh=>⟨hh.1,by rw[hsz];exact hh.2⟩,h.only.set (.inl hBb) _,h.res.keep (k1 _ (by omega)),h.pp.keep (k1 _ (by omega)),⟨Ai h.own.1 fun g hg=>k1 g (by have:=(h.own.1.lt g hg).1;omega),h.own.2⟩⟩
theorem RpN.done{W H:Nat}{f:Nat->R4}(hWH:W*H=N)(h:RpN w wr A B c st (sj bg nb bcap) N (Cy L i f) P D rv z O)(hG:EE (AP W) (AP H) (CG q N) ((AP H).length-1) O)(hA:∀g,A g->g<w.heap.size):Lx A B c st (sj bg nb bcap) W H L i q f z w (.returned (.tuple #[.agg #[rv,vj z],vj 0])) ((wr.setCell (jA w.heap.size 0) rv).setCell (jA w.heap.size 1) (vj z)):=by
 have k1:∀b,b≠w.heap.size->((wr.setCell (jA w.heap.size 0) rv).setCell (jA w.heap.size 1) (vj z)).heap[b]?=wr.heap[b]? :=fun b hb=>by rw[aL _ (jA w.heap.size 1) b _ hb,aL _ (jA w.heap.size 0) b _ hb]
 have hsz:((wr.setCell (jA w.heap.size 0) rv).setCell (jA w.heap.size 1) (vj z)).heap.size=wr.heap.size:=by simp
 subst hWH;refine⟨rv,O,P,D,rfl,⟨Ai h.own.1 fun g hg=>k1 g fun e=>?_,h.own.2⟩,hG,h.ref.keep fun g hg _=>k1 g (by have:=hA g hg;omega),?_,(h.only.set (.inr (aO _)) _).set (.inr (aO _)) _⟩
 ·obtain⟨cur,hc⟩:=Ap h.own.1 hg;exact Aj hc h.res (by decide) e
 ·have hb:=h.buf;have hrow:∀(g:Nat) (cur:Array Value) (T:TypeId),T≠35->wr.heap[g]?=some (.cells cur T (0,0))->((wr.setCell (jA w.heap.size 0) rv).setCell (jA w.heap.size 1) (vj z)).heap[g]?=wr.heap[g]? :=fun g cur T hT hg=>k1 g (Aj hg h.res hT);have hm:AG ((wr.setCell (jA w.heap.size 0) rv).setCell (jA w.heap.size 1) (vj z)) (AA B w wr) (sj bg nb bcap) (W*H) (Cy L i f) P D:=
   ⟨(let ⟨xs,r1,r2⟩:=hb.row;⟨xs,r1.other fun g cur hg=>hrow g cur _ (by decide) hg,r2⟩),hb.few,fun j hj=>(hb.pix j hj).other fun g cur hg=>hrow g cur _ (by decide) hg,fun j hj=>(hb.dir j hj).other fun g cur hg=>hrow g cur _ (by decide) hg,hb.apP,hb.apD⟩
  exact hm.mono fun g hg=>hg.imp id fun hh=>⟨hh.1,by rw[hsz];exact hh.2⟩
end
end Go.Proofs.YtofinpocigbbeaaGreat
