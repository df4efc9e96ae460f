import Derived.Test.YtofinpocigbbeaaGreatKbc
set_option maxHeartbeats 4000000
set_option maxRecDepth 100000
set_option linter.unusedSimpArgs false
namespace Go.Proofs.YtofinpocigbbeaaGreat
open Go.Proofs.Tryz Go.RowKit
attribute [local go_sem ↓] Go.wp_at_zero Go.wp_at_succ
theorem We{w:World}{K:Nat->Prop}{pb N n B0:Nat}{pc:Array Value}{cv:Value}{xs:List Value}{v:Value}(hB:B0<=w.heap.size)(hblk:w.heap[pb]?=some (.cells pc 69 (0,0)))(hpi:pc[1]?=some cv)(h:LJ w K cv N xs)(hK0:∀g,K g->g<B0)(hN:N<=1000000000000)(hn:n<=9000000)(hv:GF w B0 v n):
  Calls prog 87 #[.pointer (some (jA pb 1)),v] w fun e w'=>e=.returned (.tuple #[])/\(∃cv' xs',w'.heap[pb]?=some (.cells (pc.setIfInBounds 1 cv') 69 (0,0))/\LJ w' (fun g=>K g\/(B0<=g/\∃cur,w'.heap[g]?=some (.cells cur 53 (0,0)))) cv' (N+1) xs'/\(cv'.ownBlock=cv.ownBlock\/∃g,cv'.ownBlock=some g/\B0<=g))/\Ac (fun g=>g=pb\/cv.ownBlock=some g\/B0<=g) w w'/\(∀(g:Nat) (cur:Array Value) (t:TypeId),t≠53->t≠108->t≠69->w.heap[g]?=some (.cells cur t (0,0))->w'.heap[g]?=w.heap[g]?):=by
 obtain⟨i9,hi9,hy0,hy1,hy2⟩:=cW V7;have hpl:pb<w.heap.size:=Ab hblk;have hpb:=hblk;obtain⟨ca,cc,hcf⟩:=Al h.row;subst hcf;have hp:w.cell? (jA pb 1)=some (.slice ca N cc):=by rw[aP w pb 1 pc _ _ hpb];exact hpi
 have hvz:v.ownBlock≠some w.heap.size:=fun e=>by
  obtain⟨xs,h⟩:=hv;have:=(h.lt _ e).2;omega
 have HV:=Aa (aK hv hvz);have HP:=Aa (aK hpb (aK (aK h hpi) hK0));clear hv hvz hpb h hblk hpi hK0;go_enter func87,ntmps87
 go_wp2
 rename_i Qp K hK
 refine V6 (N:=N) (cv:=.slice ca N cc) (n:=n) (B0:=B0) (pb:=pb) (zb:=w.heap.size) (v:=v) (f:=fun _=>undef) ⟨hn,by simp;omega,HV.out.1.step (cY.alloc none _ _),aR w _,HV.out.2⟩ ?_;intro f w1 hs hr;refine hK _ _ ?_;clear hK K;obtain⟨g5,r1,r2,r3,e5,hg5,hc5,R1,R2,R3⟩:=hr;have hz1:w1.heap[w.heap.size]?=some (.cells (zA N) 53 (0,0)):=by rw[hs.grown.block _ (by simp) (fun e=>HV.out.2 e.symm)];exact aR w _
 have hBel:Below B0 w w1:=((aN B0 w).alloc hB _).grown hs.grown (by simp;omega) fun k hk=>by
  obtain⟨xs,h⟩:=HV.out.1;exact(h.lt k hk).1
 have hP1:w1.heap[pb]?=some (.cells pc 69 (0,0)):=by
  rw[hs.grown.block pb (aQ hpl (by simp)) (fun e=>by
   obtain⟨ys,hys⟩:=HV.out.1;obtain⟨c9,h9⟩:=Ap hys e.symm;exact Aj HP.out.1 h9 (by decide) rfl)]
  exact(Ad w _ pb hpl).trans HP.out.1
 have hS1:w.heap.size<w1.heap.size:=by have:=hs.grown.size;simp at this;omega
 have hR0:cX 53 4 w1 B0 w.heap.size v n:=⟨(HV.out.1.step (cY.alloc none _ _)).step hs,HV.out.2⟩;have hRk:∀k,k<4->∃s,#[v,r1,r2,r3][k]?=some s/\cX 53 4 w1 B0 w.heap.size s (n+k):=by
  intro k hk
  match k,hk with
  |0,_=>exact⟨v,rfl,hR0⟩
  |1,_=>exact⟨r1,rfl,R1⟩
  |2,_=>exact⟨r2,rfl,R2⟩
  |3,_=>exact⟨r3,rfl,R3⟩
 have HOth:Hid (∀(g:Nat) (cur:Array Value) (t:TypeId),t≠53->w.heap[g]?=some (.cells cur t (0,0))->w1.heap[g]?=w.heap[g]?):=fun g cur t ht hg=>by
  rw[hs.grown.block g (aQ (Ab hg) (by simp)) (fun e=>by
   obtain⟨ys,hys⟩:=HV.out.1;obtain⟨c9,h9⟩:=Ap hys e.symm;exact Aj hg h9 ht rfl)]
  exact Ad w _ g (Ab hg)
 have HRk:=Aa hRk;have HBel:=Aa hBel;have HZ:=Aa (aK hz1 hP1);have HC:=Aa hc5;have hgl:=(aM.1 hc5).1;clear hRk hBel hz1 hP1 hc5 R1 R2 R3 hR0 hs hg5;unfold frA;rw[e5];clear e5;generalize f 14=x14;generalize f 15=x15;generalize f 16=x16;generalize f 17=x17;generalize f 18=x18;generalize f 19=x19;generalize f 20=x20;generalize f 21=x21;generalize f 22=x22;generalize f 23=x23;generalize f 24=x24;generalize f 25=x25;generalize f 26=x26;generalize f 27=x27;generalize f 28=x28;generalize f 29=x29;generalize f 30=x30;clear f;go_wp2;have hzb:zA N=#[vj (-7070),vj 0,vj 0,vj (N:Int)]:=rfl
 go_loopg [6] 4 (fun g s6 wr=>∃k:Nat,s6=vj k/\g+k=4/\cZ 53 B0 w.heap.size w1 wr/\∀k' s,k'<k->#[v,r1,r2,r3][k']?=some s->dQ 4 zA N wr s)
 case atStart=>exact⟨0,rfl,rfl,cZ.refl _ _ _,fun k' s hk=>by omega⟩
 case round=>
  rename World=>wo;rename Nat=>gO;obtain⟨k,rfl,hgk,hT,hF⟩:=hrel;have HT:=Aa hT;have HF:=Aa hF;have hwl:=hT.size;have hBz:=HBel.out.size;clear hT hF;cases gO with
  |zero=>
   have hlt:¬(k:Int)<4:=by omega
   have hPo:=HT.out.other HZ.out.2 (by decide);have hBw:=HT.out.below (show B0<=w1.heap.size by omega);have hpo:wo.cell? (jA pb 1)=some (.slice ca N cc):=by rw[aP wo pb 1 pc _ _ hPo];exact HP.out.2.1.2
   have hfo:wo.frozen? (jA pb 1)=false:=by simp[World.frozen?,hPo]
   have hpl2:pb<wo.heap.size:=by omega
   have hTyp:∀(g:Nat) (cur:Array Value) (t:TypeId),t≠53->w.heap[g]?=some (.cells cur t (0,0))->wo.heap[g]?=w.heap[g]? :=fun g cur t ht hg=>by
    have e0:=HOth.out g cur t ht hg;rw[HT.out.other (e0.trans hg) ht,hg]
   have hrow:wo.ownsRow 0 108 1 (.slice ca N cc) N xs:=Ai HP.out.2.1.1.row fun g hg=>by
    obtain⟨cur,hc⟩:=Ap HP.out.2.1.1.row hg;exact hTyp g cur _ (by decide) hc
   have hb3:=HBel.out.trans hBw;have HTyp:=Aa hTyp;have HRo:=Aa (aK hrow (aK hb3 (aK hPo hBw)));have hgr:∀(o:Obj) (w4:World),(wo.alloc o).grownBy w4 (Value.slice ca N cc).ownBlock->w4.cell? (jA pb 1)=some (.slice ca N cc)/\w4.frozen? (jA pb 1)=false/\pb<w4.heap.size:=fun o w4 hg=>by
    have hk:=BC (T:=108) hg fun g hg=>Ap (HRo.out.1.alloc o) hg;have h9:(wo.alloc o).heap[pb]?=some (.cells pc 69 (0,0)):=(Ad wo o pb hpl2).trans HRo.out.2.2.1;have h8:=(hk _ (by decide) pb pc h9).trans h9;exact⟨by rw[aP w4 pb 1 pc _ _ h8];exact HP.out.2.1.2,by simp[World.frozen?,h8],Ab h8⟩
   have HGr:=Aa hgr;clear hPo hb3 hrow hgr hBw hTyp
   go_wp2_with(first
    |(at_builtin;refine Am (P:=prog) rfl (.tmp 57) (.tmp 59) 63 rfl 0 108 i9 _ 1 24 underlying63 hi9 hy0 hy1 hy2 rfl (by decide) (.slice ca N cc) N xs rfl (HRo.out.1.alloc _) (sj wo.heap.size 1 1) 1 [sj g5 4 4] rfl rfl (.inr ⟨_,_,rfl,cell_one_new _ _ _⟩) (by simp[Value.oneCell']) (by unfold maxLen;omega) (by omega) (by omega) ?_;intro v4 w4 ho4 hg4 hn4 ha4;obtain⟨va,vc,hvf⟩:=Al ho4;subst hvf;obtain⟨m3,m4,m5⟩:=HGr.out _ w4 hg4;have H4:=Aa (aK ho4 (aK hg4 ha4));clear ho4 hg4 hn4 ha4))
   obtain⟨ho4,hg4,ha4⟩:=H4.out;obtain⟨hrow,hb3,hPo,hBw⟩:=HRo.out;have hk:=BC (T:=108) hg4 fun g hg=>Ap (hrow.alloc _) hg;have h9:(wo.alloc (.cells #[sj g5 4 4] 108)).heap[pb]?=some (.cells pc 69 (0,0)):=(Ad wo _ pb hpl2).trans hPo;have h8:w4.heap[pb]?=some (.cells pc 69 (0,0)):=(hk _ (by decide) pb pc h9).trans h9;have fwd:∀(b:Nat) (cur:Array Value) (t:TypeId),t=53\/t=33->wo.heap[b]?=some (.cells cur t (0,0))->(w4.setCell (jA pb 1) (.slice va (N+1) vc)).heap[b]?=wo.heap[b]? :=fun b cur t ht hbb=>by
    have hn1:t≠108:=by rcases ht with rfl|rfl<;>decide
    have hn2:t≠69:=by rcases ht with rfl|rfl<;>decide
    have e1:=Ad wo (.cells #[sj g5 4 4] 108) b (Ab hbb);have e2:=hk t hn1 b cur (e1.trans hbb);rw[aL w4 (jA pb 1) b _ (Aj (e2.trans (e1.trans hbb)) h8 hn2),e2,e1]
   have hB:=HP.out.2.1.1;have hBp:=HP.out.2.1.2;have hp3l:1<pc.size:=(aM.1 hBp).1;have hxl:=hB.row.1;refine cV (v:=.tuple #[]) (by simp[results,results87]) rfl ⟨rfl,⟨_,bH w4 pb 1 pc _ _ h8,⟨xs++[sj g5 4 4],Ai ho4 fun g hg=>?_,fun i hi=>?_⟩,?_⟩,?_,?_⟩
   ·obtain⟨cur,hcur⟩:=Ap ho4 hg;exact aL w4 (jA pb 1) g _ (Aj hcur h8 (by decide))
   ·by_cases e:i=N
    ·subst e;refine⟨sj g5 4 4,by rw[bO (by omega),hxl];simp,g5,4,#[v,r1,r2,r3],rfl,?_,fun k hk4=>?_⟩
     ·have h7:=HT.out.other HC.out (by decide);exact(fwd g5 _ _ (.inr rfl) h7).trans h7
     ·obtain⟨s,hs,hrw⟩:=HRk.out k hk4;refine⟨s,hs,?_⟩;have hfull:=HF.out k s (by omega) hs;obtain⟨ys,y1,y2⟩:=(HT.out.row hrw).1;rcases y2 with⟨y2,y3⟩|⟨g,cap,cur,z1,z2,z3,z4,z5,z6,z7⟩
      ·exact⟨none,0,0,y2,by omega,fun h=>by omega⟩
      ·refine⟨some (jA g 0),n+k,cap,z1,by omega,fun _=>⟨g,cur,rfl,.inr ⟨z2,cur,(fwd g cur _ (.inl rfl) z3).trans z3⟩,(fwd g cur _ (.inl rfl) z3).trans z3,fun j hj o ho=>?_⟩⟩;exact(aV (fwd g cur _ (.inl rfl) z3)).trans (hfull g _ _ z1 j hj o ho)
    ·obtain⟨u,hu,hQ⟩:=hB.all i (by omega);refine⟨u,by rw[cA (by omega)];exact hu,hQ.keep (fun b hb=>.inl hb) fun b cur t ht hbb=>?_⟩;have e0:wo.heap[b]?=w.heap[b]? :=by
      rcases ht with⟨_,hk⟩|rfl
      ·exact hb3.block b (HP.out.2.2 b hk)
      ·exact HTyp.out b cur _ (by decide) hbb
     exact(fwd b cur t (ht.imp And.left id) (e0.trans hbb)).trans e0
   ·rcases ha4 with ha4|ha4
    ·exact .inl ha4
    ·exact .inr ⟨_,ha4,by simp;omega⟩
   ·have hBx:=HBel.out.trans hBw;have o1:Ac (fun g=>g=pb\/(Value.slice ca N cc).ownBlock=some g\/B0<=g) w wo:=⟨hBx.os,hBx.tape,hBx.output,hBx.size,fun g hg hs=>hBx.block g (by
     by_cases h7:B0<=g
     ·exact absurd (Or.inr (Or.inr h7)) hs
     ·omega)⟩
    exact((o1.alloc _).grown hg4 fun g hg=>.inl (.inr (.inl hg))).set (p:=(jA pb 1)) (.inl (.inl rfl)) _
   ·intro g cur t t1 t2 t3 hg;have e0:=HOth.out g cur t t1 hg;have h1:=HT.out.other (e0.trans hg) t1;have e1:=Ad wo (.cells #[sj g5 4 4] 108) g (Ab h1);have e2:=hk t t2 g cur (e1.trans h1);rw[aL w4 (jA pb 1) g _ (Aj (e2.trans (e1.trans h1)) h8 t3),e2,e1,h1,hg]
  |succ g=>
   have hlt:(k:Int)<4:=by omega
   have hk4:k<4:=by omega
   obtain⟨s,hs,hrow⟩:=HRk.out k hk4;obtain⟨m,hm⟩:∃m,n+k=m:=⟨_,rfl⟩;rw[hm]at hrow;obtain⟨xs,hxs⟩:=hrow.1;obtain⟨sa,sc,rfl⟩:=Al hxs;have hc5:wo.cell? (jA g5 k)=some (.slice sa m sc):=by rw[aP wo g5 k _ _ _ (HT.out.other HC.out (by decide))];exact hs
   have hm9:m<=9000004:=by omega
   have HRw:=Aa hrow;have HS:=Aa hs;clear hs hrow hxs hm;go_wp2
   go_loopg [7] m (fun gg s7 wr=>∃i:Nat,s7=vj i/\gg+i=m/\cZ 53 B0 w.heap.size w1 wr/\db 4 zA N wo wr/\∀j,j<i->∀b,sa=some (jA b 0)->de 4 zA N wr b j)
   case atStart=>exact⟨0,rfl,by omega,HT.out,db.refl _ _,fun j hj=>by omega⟩
   case round=>
    rename World=>wi;obtain⟨i,rfl,hgi,hT,hSt,hD⟩:=hrel;have hc6:wi.cell? (jA g5 k)=some (.slice sa m sc):=by rw[aP wi g5 k _ _ _ (hT.other HC.out (by decide))];exact HS.out
    have HTi:=Aa hT;have HDi:=Aa (aK hSt hD);have hwi:=hT.size;clear hT hc5 hSt hD;cases gk with
    |zero=>
     have hlti:¬(i:Int)<(m:Int):=by omega
     go_wp2
     go_roundg g
     case measure=>omega
     case rel=>
      refine⟨k+1,by go_num,by omega,HTi.out,fun k' s hk' hs'=>?_⟩;by_cases e:k'=k
      ·subst e;rw[HS.out]at hs';injection hs' with hs';subst hs';intro b m' c' e9 j hj;injection e9 with e1 e2 e3;subst e2;exact HDi.out.2 j (by omega) b e1
      ·exact(HF.out k' s (by omega) hs').stays HDi.out.1
    |succ g2=>
     have hlti:(i:Int)<(m:Int):=by omega
     have him:i<m:=by omega
     obtain⟨q,cap,cur,e1,hq1,hq2,hq3,hq4,hq5,hcs,hfr⟩:=(HTi.out.row HRw.out).at him;obtain⟨_,y0,c0⟩:=hcs 0 (by decide);obtain⟨_,y1,c1⟩:=hcs 1 (by decide);obtain⟨_,y2,c2⟩:=hcs 2 (by decide);obtain⟨_,y3,c3⟩:=hcs 3 (by decide);simp only[Nat.add_zero]at c0;clear hcs;injection e1 with e11 e12 e13;clear e12;subst e11 e13;have hic:i<sc:=by omega
     have hzw:wi.heap[w.heap.size]?=some (.cells (zA N) 53 (0,0)):=by rw[HTi.out.keep hS1];exact HZ.out.1
     have z0:wi.cell? (jA w.heap.size 0)=some (vj (-7070)):=by rw[aP wi _ 0 (zA N) _ _ hzw];rfl
     have z1:wi.cell? (jA w.heap.size 1)=some (vj 0):=by rw[aP wi _ 1 (zA N) _ _ hzw];rfl
     have z2:wi.cell? (jA w.heap.size 2)=some (vj 0):=by rw[aP wi _ 2 (zA N) _ _ hzw];rfl
     have z3:wi.cell? (jA w.heap.size 3)=some (vj (N:Int)):=by rw[aP wi _ 3 (zA N) _ _ hzw];rfl
     have f0:=hfr (i*4);have f1:=hfr (i*4+1);have f2:=hfr (i*4+2);have f3:=hfr (i*4+3);have hne:¬g5=q:=fun e=>by
      have h9:=HTi.out.other HC.out (by decide);rw[e,hq5]at h9;injection h9 with h9;injection h9 with _ h9;exact absurd h9 (by decide)
     have hne2:q≠g5:=fun e=>hne e.symm;have hcz:i*4+3<cur.size:=by
      rw[aP wi q _ cur _ _ hq5]at c3;exact(aM.1 c3).1
     have HQ:=Aa (aK hq5 hcz);clear hfr hzw hq5 hcz;have hk0:(0:Int)<=(k:Int):=by omega
     have hi0:(0:Int)<=(i:Int):=by omega
     go_wp2
     go_region_held3 (fun w'=>w'.cell? (jA w.heap.size 0)=some (vj (-7070))/\w'.cell? (jA w.heap.size 1)=some (vj 0)/\w'.cell? (jA w.heap.size 2)=some (vj 0)/\w'.cell? (jA w.heap.size 3)=some (vj (N:Int))/\w'.cell? (jA g5 k)=some (sj q m sc)) (go_keep) (fail)
     all_goals go_wp2
     go_roundg g2
     case measure=>omega
     case rel=>
      have hms:=dW (z:=zA) (N:=N) (i:=i) rfl HQ.out.1 HQ.out.2;refine⟨i+1,by go_num,by omega,(HTi.out.trans (cZ.set4 HQ.out.1 hq1 hq2 _ _ _ _ _ _ _ _)).drew1,HDi.out.1.trans hms.1.drew,fun j hj b hb=>?_⟩;injection hb with hb;injection hb with hb;subst hb;by_cases e:j=i
      ·subst e;exact hms.2.drew9
      ·exact(hms.1 _ _ (HDi.out.2 j (by omega) _ rfl)).drew9
def Ei(w:World)(B o n sz:Nat)(z:Nat->Array Value):Prop:=
 ∃a c,w.cell? (jA B o)=some (.slice a n c)/\(0<n->∃r,a=some (jA r 0)/\∀i,i<n->∃v,w.cell? (jA r i)=some v/\∃g c,v=sj g 4 c/\∀k,k<4->∃u,w.cell? (jA g k)=some u/\∃a m c,u=.slice a m c/\m<=1152921504606846976/\(0<m->∃b,a=some (jA b 0)/\∀j,j<m->∀o,o<sz->w.cell? (jA b (j*sz+o))=(z i)[o]?))
theorem Ao{w wr:World}(h:uj w wr){b j:Nat}{v:Value}(hc:w.cell? (jA b j)=some v):wr.cell? (jA b j)=some v:=
 (aV (h.block b (Ak hc))).trans hc
theorem Sg{B o na nb nc:Nat}(w:World)(h1:Ei w B o na 4 zA)(h2:Ei w B (o+1) nb 4 zB)(h3:Ei w B (o+2) nc 9 zV)(hna:na<=1000000000000)(hnb:nb<=1000000000000)(hnc:nc<=1000000000000):
  Calls prog 25 #[.pointer (some (jA B o))] w fun e w'=>e=.returned (.bool true)/\uj w w':=by
 obtain⟨aa,ca,c0,hqa⟩:=h1;obtain⟨ab,cb,c1,hqb⟩:=h2;obtain⟨ac,cc,c2,hqc⟩:=h3;have HQA:=Aa hqa;have HQB:=Aa hqb;have HQC:=Aa hqc;clear hqa hqb hqc;go_enter func25,ntmps25
 go_wp2
 go_loopg [3] na (fun gg s wr=>∃i:Nat,s=vj i/\gg+i=na/\uj w wr)
 case atStart=>exact⟨0,rfl,by omega,aN _ _⟩
 case round=>
 rename World=>wr;obtain⟨i,rfl,hgi,hb⟩:=hrel;have d2:=Ao hb c0;have HB:=Aa hb;clear hb;cases gk with
 |succ g1=>
  have hlt:(i:Int)<(na:Int):=by omega
  obtain⟨r,hr,hv⟩:=HQA.out (by omega);subst hr;obtain⟨v,cv,q,qc,rfl,hk⟩:=hv i (by omega);clear hv;have HK:=Aa hk;clear hk;go_wp2;clear d2
  go_loopg [4] 4 (fun gg s w1=>∃k:Nat,s=vj k/\gg+k=4/\uj w w1)
  case atStart=>exact⟨0,rfl,by omega,HB.out⟩
  case round=>
  rename World=>w1;obtain⟨k,rfl,hgk,hb1⟩:=hrel;have e2:=Ao hb1 c0;have e3:=Ao hb1 cv;have HB1:=Aa hb1;clear hb1;cases gk with
  |zero=>
   have hlt1:¬(k:Int)<4:=by omega
   go_wp2
   go_roundg g1
   case measure=>omega
   case rel=>exact⟨i+1,by go_num,by omega,HB1.out⟩
  |succ g2=>
  have hlt1:(k:Int)<4:=by omega
  obtain⟨u,cu,ma,m,mc,rfl,hm64,hmc⟩:=HK.out k (by omega);have HM:=Aa hmc;clear hmc;have e4:=Ao HB1.out cu;go_wp2;clear e2 e3 e4
  go_loopg [5] m (fun gg s w2=>∃j:Nat,s=vj j/\gg+j=m/\uj w w2)
  case atStart=>exact⟨0,rfl,by omega,HB1.out⟩
  case round=>
  rename World=>w2;obtain⟨j,rfl,hgj,hb2⟩:=hrel;have f2:=Ao hb2 c0;have f3:=Ao hb2 cv;have f4:=Ao hb2 cu;have HB2:=Aa hb2;clear hb2;cases gk with
  |zero=>
   have hlt2:¬(j:Int)<(m:Int):=by omega
   go_wp2
   go_roundg g2
   case measure=>omega
   case rel=>exact⟨k+1,by go_num,by omega,HB2.out⟩
  |succ g3=>
  have hlt2:(j:Int)<(m:Int):=by omega
  obtain⟨b,hma,hz⟩:=HM.out (by omega);subst hma;have z0:w2.cell? (jA b (j*4))=some (vj (-7070)):=Ao HB2.out ((hz j (by omega) 0 (by omega)).trans rfl);have z1:w2.cell? (jA b (j*4+1))=some (vj 0):=Ao HB2.out ((hz j (by omega) 1 (by omega)).trans rfl);have z2:w2.cell? (jA b (j*4+2))=some (vj 0):=Ao HB2.out ((hz j (by omega) 2 (by omega)).trans rfl);have z3:w2.cell? (jA b (j*4+3))=some (vj (i:Int)):=Ao HB2.out ((hz j (by omega) 3 (by omega)).trans rfl);have hs2:w.heap.size<=w2.heap.size:=HB2.out.size;clear hz;go_wp2
  go_roundg g3
  case measure=>omega
  case rel=>exact⟨j+1,by go_num,by omega,HB2.out.alloc hs2 _⟩
 |zero=>
 have hlt:¬(i:Int)<(na:Int):=by omega
 clear d2;have d0:=Ao HB.out c0;have HBp:=HB;go_wp2;clear d0 hlt hgi HB
 go_loopg [7] nb (fun gg s wr=>∃i:Nat,s=vj i/\gg+i=nb/\uj w wr)
 case atStart=>exact⟨0,rfl,by omega,HBp.out⟩
 case round=>
 rename World=>wr;obtain⟨i,rfl,hgi,hb⟩:=hrel;have d2:=Ao hb c1;have HB:=Aa hb;clear hb;cases gk with
 |succ g1=>
  have hlt:(i:Int)<(nb:Int):=by omega
  obtain⟨r,hr,hv⟩:=HQB.out (by omega);subst hr;obtain⟨v,cv,q,qc,rfl,hk⟩:=hv i (by omega);clear hv;have HK:=Aa hk;clear hk;have HMk:=Aa (Nd i (by omega));have hzz:zB i=#[.int .u8 ((i%251:Nat):Int),.int .u8 ((i/251%251:Nat):Int),.int .u8 ((i/63001%251:Nat):Int),.int .u8 77]:=rfl;obtain⟨p0,hp0⟩:∃p:Int,((i%251:Nat):Int)=p:=⟨_,rfl⟩;obtain⟨p1,hp1⟩:∃p:Int,((i/251%251:Nat):Int)=p:=⟨_,rfl⟩;obtain⟨p2,hp2⟩:∃p:Int,((i/63001%251:Nat):Int)=p:=⟨_,rfl⟩;rw[hp0,hp1,hp2]at hzz;rw[hzz]at HMk;have HZz:=Aa hzz;clear hzz hp0 hp1 hp2;have hsr:=HB.out.size
  go_upto_region 17 with(go_at_call 51;refine(HMk.out _).mono ?_;rintro e wm ⟨rfl,hbm⟩;have HBm:=Aa hbm;clear hbm)
  have hWz:uj w (wm.alloc (.cells #[.int .u8 p0,.int .u8 p1,.int .u8 p2,.int .u8 77] 51)):=(HB.out.trans (HBm.out.mono hsr)).alloc (by have:=HBm.out.size;omega) _;have hZ:Blk (wm.alloc (.cells #[.int .u8 p0,.int .u8 p1,.int .u8 p2,.int .u8 77] 51)) wm.heap.size 51 #[.int .u8 p0,.int .u8 p1,.int .u8 p2,.int .u8 77]:=aR wm _;generalize wm.alloc (.cells #[.int .u8 p0,.int .u8 p1,.int .u8 p2,.int .u8 77] 51)=Wz at*;generalize wm.heap.size=zb at*;have HWz:=Aa (aK hWz hZ);have HC9:Hid (∀V:World,uj Wz V->uj w V/\V.cell? (jA zb 0)=some (.int .u8 p0)/\V.cell? (jA zb 1)=some (.int .u8 p1)/\V.cell? (jA zb 2)=some (.int .u8 p2)/\V.cell? (jA zb 3)=some (.int .u8 77)):=fun V hV=>by
   have h9:Blk V zb 51 _:=HWz.out.2.keep (hV.block zb (Ab HWz.out.2));exact⟨HWz.out.1.trans (hV.mono HWz.out.1.size),h9.cell 0,h9.cell 1,h9.cell 2,h9.cell 3⟩
  clear d2 hWz hZ HBm;go_wp2
  go_loopg [9] 4 (fun gg s w1=>∃k:Nat,s=vj k/\gg+k=4/\uj Wz w1)
  case atStart=>exact⟨0,rfl,by omega,aN _ _⟩
  case round=>
  rename World=>w1;obtain⟨k,rfl,hgk,hb1⟩:=hrel;have e2:=Ao (HC9.out w1 hb1).1 c1;have e3:=Ao (HC9.out w1 hb1).1 cv;have HB1:=Aa hb1;clear hb1;cases gk with
  |zero=>
   have hlt1:¬(k:Int)<4:=by omega
   go_wp2
   go_roundg g1
   case measure=>omega
   case rel=>exact⟨i+1,by go_num,by omega,(HC9.out w1 HB1.out).1⟩
  |succ g2=>
  have hlt1:(k:Int)<4:=by omega
  obtain⟨u,cu,ma,m,mc,rfl,hm64,hmc⟩:=HK.out k (by omega);have HM:=Aa hmc;clear hmc;have e4:=Ao (HC9.out w1 HB1.out).1 cu;go_wp2;clear e2 e3 e4
  go_loopg [10] m (fun gg s w2=>∃j:Nat,s=vj j/\gg+j=m/\uj Wz w2)
  case atStart=>exact⟨0,rfl,by omega,HB1.out⟩
  case round=>
  rename World=>w2;obtain⟨j,rfl,hgj,hb2⟩:=hrel;obtain⟨hbw,y0,y1,y2,y3⟩:=HC9.out w2 hb2;have f2:=Ao hbw c1;have f3:=Ao hbw cv;have f4:=Ao hbw cu;have HB2:=Aa hb2;clear hb2;cases gk with
  |zero=>
   have hlt2:¬(j:Int)<(m:Int):=by omega
   clear hbw;go_wp2
   go_roundg g2
   case measure=>omega
   case rel=>exact⟨k+1,by go_num,by omega,HB2.out⟩
  |succ g3=>
  have hlt2:(j:Int)<(m:Int):=by omega
  obtain⟨b,hma,hz⟩:=HM.out (by omega);subst hma;rw[HZz.out]at hz;have z0:w2.cell? (jA b (j*4))=some (.int .u8 p0):=Ao hbw ((hz j (by omega) 0 (by omega)).trans rfl);have z1:w2.cell? (jA b (j*4+1))=some (.int .u8 p1):=Ao hbw ((hz j (by omega) 1 (by omega)).trans rfl);have z2:w2.cell? (jA b (j*4+2))=some (.int .u8 p2):=Ao hbw ((hz j (by omega) 2 (by omega)).trans rfl);have z3:w2.cell? (jA b (j*4+3))=some (.int .u8 77):=Ao hbw ((hz j (by omega) 3 (by omega)).trans rfl);have hq:=Yh p0 p1 p2 77 p0 p1 p2 77;have hj0:(0:Int)<=(j:Int):=by omega
  have hi0:(0:Int)<=(i:Int):=by omega
  have hk0:(0:Int)<=(k:Int):=by omega
  clear hz hbw
  go_upto_region 23 with fail
  go_quiet (fail)
  go_wp2
  go_roundg g3
  case measure=>omega
  case rel=>exact⟨j+1,by go_num,by omega,cS HB2.out _⟩
 |zero=>
 have hlt:¬(i:Int)<(nb:Int):=by omega
 clear d2;have d0:=Ao HB.out c1;have HBv:=HB;go_wp2;clear d0 hlt hgi HB HBp
 go_loopg [11] nc (fun gg s wr=>∃i:Nat,s=vj i/\gg+i=nc/\uj w wr)
 case atStart=>exact⟨0,rfl,by omega,HBv.out⟩
 case round=>
 rename World=>wr;obtain⟨i,rfl,hgi,hb⟩:=hrel;have d2:=Ao hb c2;have HB:=Aa hb;clear hb;cases gk with
 |succ g1=>
  have hlt:(i:Int)<(nc:Int):=by omega
  obtain⟨r,hr,hv⟩:=HQC.out (by omega);subst hr;obtain⟨v,cv,q,qc,rfl,hk⟩:=hv i (by omega);clear hv;have HK:=Aa hk;clear hk;go_wp2;clear d2
  go_loopg [12] 4 (fun gg s w1=>∃k:Nat,s=vj k/\gg+k=4/\uj w w1)
  case atStart=>exact⟨0,rfl,by omega,HB.out⟩
  case round=>
  rename World=>w1;obtain⟨k,rfl,hgk,hb1⟩:=hrel;have e2:=Ao hb1 c2;have e3:=Ao hb1 cv;have HB1:=Aa hb1;clear hb1;cases gk with
  |zero=>
   have hlt1:¬(k:Int)<4:=by omega
   go_wp2
   go_roundg g1
   case measure=>omega
   case rel=>exact⟨i+1,by go_num,by omega,HB1.out⟩
  |succ g2=>
  have hlt1:(k:Int)<4:=by omega
  obtain⟨u,cu,ma,m,mc,rfl,hm64,hmc⟩:=HK.out k (by omega);have HM:=Aa hmc;clear hmc;have e4:=Ao HB1.out cu;go_wp2;clear e2 e3 e4
  go_loopg [13] m (fun gg s w2=>∃j:Nat,s=vj j/\gg+j=m/\uj w w2)
  case atStart=>exact⟨0,rfl,by omega,HB1.out⟩
  case round=>
  rename World=>w2;obtain⟨j,rfl,hgj,hb2⟩:=hrel;have f2:=Ao hb2 c2;have f3:=Ao hb2 cv;have f4:=Ao hb2 cu;have HB2:=Aa hb2;clear hb2;cases gk with
  |zero=>
   have hlt2:¬(j:Int)<(m:Int):=by omega
   go_wp2
   go_roundg g2
   case measure=>omega
   case rel=>exact⟨k+1,by go_num,by omega,HB2.out⟩
  |succ g3=>
  have hlt2:(j:Int)<(m:Int):=by omega
  obtain⟨b,hma,hz⟩:=HM.out (by omega);subst hma;have z0:w2.cell? (jA b (j*9))=some (vj (-7070)):=Ao HB2.out ((hz j (by omega) 0 (by omega)).trans rfl);have z1:w2.cell? (jA b (j*9+1))=some (vj 0):=Ao HB2.out ((hz j (by omega) 1 (by omega)).trans rfl);have z2:w2.cell? (jA b (j*9+2))=some (vj 0):=Ao HB2.out ((hz j (by omega) 2 (by omega)).trans rfl);have z3:w2.cell? (jA b (j*9+3))=some (vj (i:Int)):=Ao HB2.out ((hz j (by omega) 3 (by omega)).trans rfl);have z4:w2.cell? (jA b (j*9+4))=some (vj 0):=Ao HB2.out ((hz j (by omega) 4 (by omega)).trans rfl);have z5:w2.cell? (jA b (j*9+5))=some (vj 0):=Ao HB2.out ((hz j (by omega) 5 (by omega)).trans rfl);have z6:w2.cell? (jA b (j*9+6))=some (vj 0):=Ao HB2.out ((hz j (by omega) 6 (by omega)).trans rfl);have z7:w2.cell? (jA b (j*9+7))=some (vj 0):=Ao HB2.out ((hz j (by omega) 7 (by omega)).trans rfl);have z8:w2.cell? (jA b (j*9+8))=some (vj 0):=Ao HB2.out ((hz j (by omega) 8 (by omega)).trans rfl);have hs2:w.heap.size<=w2.heap.size:=HB2.out.size;clear hz;go_wp2
  go_roundg g3
  case measure=>omega
  case rel=>exact⟨j+1,by go_num,by omega,HB2.out.alloc hs2 _⟩
 |zero=>
 have hlt:¬(i:Int)<(nc:Int):=by omega
 go_wp2;go_ret;exact⟨rfl,HB.out⟩
theorem dP.cells{T TyL TyC:TypeId}{d:Nat}{z:Nat->Array Value}{w:World}{K:Nat->Prop}{cv:Value}{N pb idx:Nat}{xs:List Value}{pc:Array Value}(h:dP T TyL TyC d z w K cv N xs)(hb:w.heap[pb]?=some (.cells pc 69 (0,0)))(hp:pc[idx]?=some cv):Ei w pb idx N d z:=by
 obtain⟨a,c,hf⟩:=Al h.row;refine⟨a,c,(aP w pb idx pc _ _ hb).trans (hp.trans (by rw[hf])),fun hN=>?_⟩;obtain⟨g,cap,e,_,_,_,q,_⟩:=A4.open (S:=fun _=>True) ⟨h.row,fun _ _=>trivial⟩ hN;rw[hf]at e;injection e with e1 e2 e3;subst e1;refine⟨g,rfl,fun i hi=>?_⟩;obtain⟨v,h1,h2⟩:=h.all i hi;obtain⟨g2,c2,cur,h3,h4,h5⟩:=h2;refine⟨v,q i v h1,g2,c2,h3,fun k hk=>?_⟩;obtain⟨u,h6,a,m,c,h7,h8,h9⟩:=h5 k hk;refine⟨u,(aP w g2 k cur _ _ h4).trans h6,a,m,c,h7,h8,fun hm=>?_⟩;obtain⟨b,cb,h10,_,h11,h12⟩:=h9 hm;exact⟨b,h10,fun j hj o ho=>h12 j hj o ho⟩
end Go.Proofs.YtofinpocigbbeaaGreat
