import Derived.Test.YtofinpocigbbeaaGreatKbo
set_option maxHeartbeats 4000000
set_option maxRecDepth 100000
set_option linter.unusedSimpArgs false
namespace Go.Proofs.YtofinpocigbbeaaGreat
open Go.Proofs.Tryz Go.RowKit
attribute [local go_sem ↓] Go.wp_at_zero Go.wp_at_succ
variable{B0 N:Nat}{w w':World}
theorem De.drew1{zb:Nat}(h:De B0 zb w w'):De B0 zb w w'.drew:=⟨h.os,h.tape,h.output,h.size,h.block⟩
def OD(N:Nat)(w:World)(s:Value):Prop:=∀b m c,s=.slice (some ⟨b,0,none⟩) m c->∀j,j<m->Hp N w b j
theorem OD.stays{s:Value}(h:OD N w s)(hs:DR N w w'):OD N w' s:=fun b m c e j hj=>hs b j (h b m c e j hj)
theorem Hp.drew9{g j:Nat}(h:Hp N w g j):Hp N w.drew g j:=h
theorem We{K:Nat->Prop}{pb n:Nat}{pc:Array Value}{cv:Value}{xs:List Value}{v:Value}(hB:B0<=w.heap.size)(hblk:w.heap[pb]?=some (.cells pc 69 (0,0)))(hpi:pc[1]?=some cv)(h:LJ w K cv N xs)(hK0:∀g,K g->g<B0)(hN:N<=1000000000000)(hn:n<=9000000)(hv:GF w B0 v n):
  Calls prog 87 #[.pointer (some ⟨pb,1,none⟩),v] w fun e w'=>e=.returned (.tuple #[])/\(∃cv' xs',w'.heap[pb]?=some (.cells (pc.setIfInBounds 1 cv') 69 (0,0))/\LJ w' (fun g=>K g\/(B0<=g/\∃cur,w'.heap[g]?=some (.cells cur 53 (0,0)))) cv' (N+1) xs'/\(cv'.ownBlock=cv.ownBlock\/∃g,cv'.ownBlock=some g/\B0<=g))/\Ac (fun g=>g=pb\/cv.ownBlock=some g\/B0<=g) w w'/\(∀(g:Nat) (cur:Array Value) (t:TypeId),t≠53->t≠108->t≠69->w.heap[g]?=some (.cells cur t (0,0))->w'.heap[g]?=w.heap[g]?):=by
 obtain⟨i9,hi9,hy0,hy1,hy2⟩:=cW V7;have hpl:pb<w.heap.size:=Ab hblk;have hpb:=hblk;obtain⟨ca,cc,hcf⟩:=Al h.row;subst hcf;have hp:w.cell? ⟨pb,1,none⟩=some (.slice ca N cc):=by rw[aP w pb 1 pc _ _ hpb];exact hpi
 have hvz:v.ownBlock≠some w.heap.size:=fun e=>by
  obtain⟨xs,h⟩:=hv;have:=(h.lt _ e).2;omega
 have HV:=Aa (aK hv hvz);have HP:=Aa (aK hpb (aK (aK h hpi) hK0));clear hv hvz hpb h hblk hpi hK0;go_enter func87,ntmps87
 go_wp2
 rename_i Qp K hK
 refine V6 (N:=N) (cv:=.slice ca N cc) (n:=n) (B0:=B0) (pb:=pb) (zb:=w.heap.size) (v:=v) (f:=fun _=>undef) hn (by simp;omega) (HV.out.1.step (Ci.alloc none _ _)) (aR w _) HV.out.2 ?_;intro f w1 hs hr;refine hK _ _ ?_;clear hK K;obtain⟨g5,r1,r2,r3,e5,hg5,hc5,R1,R2,R3⟩:=hr;have hz1:w1.heap[w.heap.size]?=some (.cells (zA N) 53 (0,0)):=by rw[hs.grown.block _ (by simp) (fun e=>HV.out.2 e.symm)];exact aR w _
 have hBel:Below B0 w w1:=((aN B0 w).alloc hB _).grown hs.grown (by simp;omega) fun k hk=>by
  obtain⟨xs,h⟩:=HV.out.1;exact(h.lt k hk).1
 have hP1:w1.heap[pb]?=some (.cells pc 69 (0,0)):=by
  rw[hs.grown.block pb (aQ hpl (by simp)) (fun e=>by
   obtain⟨ys,hys⟩:=HV.out.1;obtain⟨c9,h9⟩:=Ap hys e.symm;exact Aj HP.out.1 h9 (by decide) rfl)]
  exact(Ad w _ pb hpl).trans HP.out.1
 have hS1:w.heap.size<w1.heap.size:=by have:=hs.grown.size;simp at this;omega
 have hR0:DB w1 B0 w.heap.size v n:=⟨(HV.out.1.step (Ci.alloc none _ _)).step hs,HV.out.2⟩;have hRk:∀k,k<4->∃s,#[v,r1,r2,r3][k]?=some s/\DB w1 B0 w.heap.size s (n+k):=by
  intro k hk
  match k,hk with
  |0,_=>exact⟨v,rfl,hR0⟩
  |1,_=>exact⟨r1,rfl,R1⟩
  |2,_=>exact⟨r2,rfl,R2⟩
  |3,_=>exact⟨r3,rfl,R3⟩
 have HOth:Hid (∀(g:Nat) (cur:Array Value) (t:TypeId),t≠53->w.heap[g]?=some (.cells cur t (0,0))->w1.heap[g]?=w.heap[g]?):=fun g cur t ht hg=>by
  rw[hs.grown.block g (aQ (Ab hg) (by simp)) (fun e=>by
   obtain⟨ys,hys⟩:=HV.out.1;obtain⟨c9,h9⟩:=Ap hys e.symm;exact Aj hg h9 ht rfl)]
  exact Ad w _ g (Ab hg)
 have HRk:=Aa hRk;have HBel:=Aa hBel;have HZ:=Aa (aK hz1 hP1);have HC:=Aa hc5;have hgl:=(aM.1 hc5).1;clear hRk hBel hz1 hP1 hc5 R1 R2 R3 hR0 hs hg5;unfold frA;rw[e5];clear e5;generalize f 14=x14;generalize f 15=x15;generalize f 16=x16;generalize f 17=x17;generalize f 18=x18;generalize f 19=x19;generalize f 20=x20;generalize f 21=x21;generalize f 22=x22;generalize f 23=x23;generalize f 24=x24;generalize f 25=x25;generalize f 26=x26;generalize f 27=x27;generalize f 28=x28;generalize f 29=x29;generalize f 30=x30;clear f;go_wp2;have hzb:zA N=#[.int .i64 (-7070),.int .i64 0,.int .i64 0,.int .i64 (N:Int)]:=rfl
 go_loopg [6] 4 (fun g s6 wr=>∃k:Nat,s6=.int .i64 k/\g+k=4/\De B0 w.heap.size w1 wr/\∀k' s,k'<k->#[v,r1,r2,r3][k']?=some s->OD N wr s)
 case atStart=>exact⟨0,rfl,rfl,De.refl _ _ _,fun k' s hk=>by omega⟩
 case round=>
  rename World=>wo;rename Nat=>gO;obtain⟨k,rfl,hgk,hT,hF⟩:=hrel;have HT:=Aa hT;have HF:=Aa hF;have hwl:=hT.size;have hBz:=HBel.out.size;clear hT hF;cases gO with
  |zero=>
   have hlt:¬(k:Int)<4:=by omega
   have hPo:=HT.out.other HZ.out.2 (by decide);have hBw:=HT.out.below (show B0<=w1.heap.size by omega);have hpo:wo.cell? ⟨pb,1,none⟩=some (.slice ca N cc):=by rw[aP wo pb 1 pc _ _ hPo];exact HP.out.2.1.2
   have hfo:wo.frozen? ⟨pb,1,none⟩=false:=by simp[World.frozen?,hPo]
   have hpl2:pb<wo.heap.size:=by omega
   have hTyp:∀(g:Nat) (cur:Array Value) (t:TypeId),t≠53->w.heap[g]?=some (.cells cur t (0,0))->wo.heap[g]?=w.heap[g]? :=fun g cur t ht hg=>by
    have e0:=HOth.out g cur t ht hg;rw[HT.out.other (e0.trans hg) ht,hg]
   have hrow:wo.ownsRow 0 108 1 (.slice ca N cc) N xs:=Ai HP.out.2.1.1.row fun g hg=>by
    obtain⟨cur,hc⟩:=Ap HP.out.2.1.1.row hg;exact hTyp g cur _ (by decide) hc
   have hb3:=HBel.out.trans hBw;have HTyp:=Aa hTyp;have HRo:=Aa (aK hrow (aK hb3 (aK hPo hBw)));have hgr:∀(o:Obj) (w4:World),(wo.alloc o).grownBy w4 (Value.slice ca N cc).ownBlock->w4.cell? ⟨pb,1,none⟩=some (.slice ca N cc)/\w4.frozen? ⟨pb,1,none⟩=false/\pb<w4.heap.size:=fun o w4 hg=>by
    have hk:=BC (T:=108) hg fun g hg=>Ap (HRo.out.1.alloc o) hg;have h9:(wo.alloc o).heap[pb]?=some (.cells pc 69 (0,0)):=(Ad wo o pb hpl2).trans HRo.out.2.2.1;have h8:=(hk _ (by decide) pb pc h9).trans h9;exact⟨by rw[aP w4 pb 1 pc _ _ h8];exact HP.out.2.1.2,by simp[World.frozen?,h8],Ab h8⟩
   have HGr:=Aa hgr;clear hPo hb3 hrow hgr hBw hTyp
   go_wp2_with(first
    |(at_builtin;refine Am (P:=prog) rfl (.tmp 57) (.tmp 59) 63 rfl 0 108 i9 _ 1 24 underlying63 hi9 hy0 hy1 hy2 rfl (by decide) (.slice ca N cc) N xs rfl (HRo.out.1.alloc _) (.slice (some ⟨wo.heap.size,0,none⟩) 1 1) 1 [.slice (some ⟨g5,0,none⟩) 4 4] rfl rfl (.inr ⟨_,_,rfl,cell_one_new _ _ _⟩) (by simp[Value.oneCell']) (by unfold maxLen;omega) (by omega) (by omega) ?_;intro v4 w4 ho4 hg4 hn4 ha4;obtain⟨va,vc,hvf⟩:=Al ho4;subst hvf;obtain⟨m3,m4,m5⟩:=HGr.out _ w4 hg4;have H4:=Aa (aK ho4 (aK hg4 ha4));clear ho4 hg4 hn4 ha4))
   obtain⟨ho4,hg4,ha4⟩:=H4.out;obtain⟨hrow,hb3,hPo,hBw⟩:=HRo.out;have hk:=BC (T:=108) hg4 fun g hg=>Ap (hrow.alloc _) hg;have h9:(wo.alloc (.cells #[.slice (some ⟨g5,0,none⟩) 4 4] 108)).heap[pb]?=some (.cells pc 69 (0,0)):=(Ad wo _ pb hpl2).trans hPo;have h8:w4.heap[pb]?=some (.cells pc 69 (0,0)):=(hk _ (by decide) pb pc h9).trans h9;have fwd:∀(b:Nat) (cur:Array Value) (t:TypeId),t=53\/t=33->wo.heap[b]?=some (.cells cur t (0,0))->(w4.setCell ⟨pb,1,none⟩ (.slice va (N+1) vc)).heap[b]?=wo.heap[b]? :=fun b cur t ht hbb=>by
    have hn1:t≠108:=by rcases ht with rfl|rfl<;>decide
    have hn2:t≠69:=by rcases ht with rfl|rfl<;>decide
    have e1:=Ad wo (.cells #[.slice (some ⟨g5,0,none⟩) 4 4] 108) b (Ab hbb);have e2:=hk t hn1 b cur (e1.trans hbb);rw[aL w4 ⟨pb,1,none⟩ b _ (Aj (e2.trans (e1.trans hbb)) h8 hn2),e2,e1]
   have hB:=HP.out.2.1.1;have hBp:=HP.out.2.1.2;have hp3l:1<pc.size:=(aM.1 hBp).1;have hxl:=hB.row.1;refine cV (v:=.tuple #[]) (by simp[results,results87]) rfl ⟨rfl,⟨_,bH w4 pb 1 pc _ _ h8,⟨xs++[.slice (some ⟨g5,0,none⟩) 4 4],Ai ho4 fun g hg=>?_,fun i hi=>?_⟩,?_⟩,?_,?_⟩
   ·obtain⟨cur,hcur⟩:=Ap ho4 hg;exact aL w4 ⟨pb,1,none⟩ g _ (Aj hcur h8 (by decide))
   ·by_cases e:i=N
    ·subst e;refine⟨.slice (some ⟨g5,0,none⟩) 4 4,by rw[bO (by omega),hxl];simp,g5,4,#[v,r1,r2,r3],rfl,?_,fun k hk4=>?_⟩
     ·have h7:=HT.out.other HC.out (by decide);exact(fwd g5 _ _ (.inr rfl) h7).trans h7
     ·obtain⟨s,hs,hrw⟩:=HRk.out k hk4;refine⟨s,hs,?_⟩;have hfull:=HF.out k s (by omega) hs;obtain⟨ys,y1,y2⟩:=(HT.out.row hrw).1;rcases y2 with⟨y2,y3⟩|⟨g,cap,cur,z1,z2,z3,z4,z5,z6,z7⟩
      ·exact⟨none,0,0,y2,by omega,fun h=>by omega⟩
      ·refine⟨some ⟨g,0,none⟩,n+k,cap,z1,by omega,fun _=>⟨g,cur,rfl,.inr ⟨z2,cur,(fwd g cur _ (.inl rfl) z3).trans z3⟩,(fwd g cur _ (.inl rfl) z3).trans z3,fun j hj o ho=>?_⟩⟩;exact(aV (fwd g cur _ (.inl rfl) z3)).trans (hfull g _ _ z1 j hj o ho)
    ·obtain⟨u,hu,hQ⟩:=hB.all i (by omega);refine⟨u,by rw[cA (by omega)];exact hu,hQ.keep (fun b hb=>.inl hb) fun b cur t ht hbb=>?_⟩;have e0:wo.heap[b]?=w.heap[b]? :=by
      rcases ht with⟨_,hk⟩|rfl
      ·exact hb3.block b (HP.out.2.2 b hk)
      ·exact HTyp.out b cur _ (by decide) hbb
     exact(fwd b cur t (ht.imp And.left id) (e0.trans hbb)).trans e0
   ·rcases ha4 with ha4|ha4
    ·exact .inl ha4
    ·exact .inr ⟨_,ha4,by simp;omega⟩
   ·have hBx:=HBel.out.trans hBw;have o1:Ac (fun g=>g=pb\/(Value.slice ca N cc).ownBlock=some g\/B0<=g) w wo:=⟨hBx.os,hBx.tape,hBx.output,hBx.size,fun g hg hs=>hBx.block g (by
     by_cases h7:B0<=g
     ·exact absurd (Or.inr (Or.inr h7)) hs
     ·omega)⟩
    exact((o1.alloc _).grown hg4 fun g hg=>.inl (.inr (.inl hg))).set (p:=⟨pb,1,none⟩) (.inl (.inl rfl)) _
   ·intro g cur t t1 t2 t3 hg;have e0:=HOth.out g cur t t1 hg;have h1:=HT.out.other (e0.trans hg) t1;have e1:=Ad wo (.cells #[.slice (some ⟨g5,0,none⟩) 4 4] 108) g (Ab h1);have e2:=hk t t2 g cur (e1.trans h1);rw[aL w4 ⟨pb,1,none⟩ g _ (Aj (e2.trans (e1.trans h1)) h8 t3),e2,e1,h1,hg]
  |succ g=>
   have hlt:(k:Int)<4:=by omega
   have hk4:k<4:=by omega
   obtain⟨s,hs,hrow⟩:=HRk.out k hk4;obtain⟨m,hm⟩:∃m,n+k=m:=⟨_,rfl⟩;rw[hm]at hrow;obtain⟨xs,hxs⟩:=hrow.1;obtain⟨sa,sc,rfl⟩:=Al hxs;have hc5:wo.cell? ⟨g5,k,none⟩=some (.slice sa m sc):=by rw[aP wo g5 k _ _ _ (HT.out.other HC.out (by decide))];exact hs
   have hm9:m<=9000004:=by omega
   have HRw:=Aa hrow;have HS:=Aa hs;clear hs hrow hxs hm;go_wp2
   go_loopg [7] m (fun gg s7 wr=>∃i:Nat,s7=.int .i64 i/\gg+i=m/\De B0 w.heap.size w1 wr/\DR N wo wr/\∀j,j<i->∀b,sa=some ⟨b,0,none⟩->Hp N wr b j)
   case atStart=>exact⟨0,rfl,by omega,HT.out,DR.refl _ _,fun j hj=>by omega⟩
   case round=>
    rename World=>wi;obtain⟨i,rfl,hgi,hT,hSt,hD⟩:=hrel;have hc6:wi.cell? ⟨g5,k,none⟩=some (.slice sa m sc):=by rw[aP wi g5 k _ _ _ (hT.other HC.out (by decide))];exact HS.out
    have HTi:=Aa hT;have HDi:=Aa (aK hSt hD);have hwi:=hT.size;clear hT hc5 hSt hD;cases gk with
    |zero=>
     have hlti:¬(i:Int)<(m:Int):=by omega
     go_wp2
     go_roundg g
     case measure=>omega
     case rel=>
      refine⟨k+1,by go_num,by omega,HTi.out,fun k' s hk' hs'=>?_⟩;by_cases e:k'=k
      ·subst e;rw[HS.out]at hs';injection hs' with hs';subst hs';intro b m' c' e9 j hj;injection e9 with e1 e2 e3;subst e2;exact HDi.out.2 j (by omega) b e1
      ·exact(HF.out k' s (by omega) hs').stays HDi.out.1
    |succ g2=>
     have hlti:(i:Int)<(m:Int):=by omega
     have him:i<m:=by omega
     obtain⟨q,cap,cur,e1,hq1,hq2,hq3,hq4,hq5,⟨y0,c0⟩,⟨y1,c1⟩,⟨y2,c2⟩,⟨y3,c3⟩,hfr⟩:=(HTi.out.row HRw.out).open him;injection e1 with e11 e12 e13;clear e12;subst e11 e13;have hic:i<sc:=by omega
     have hzw:wi.heap[w.heap.size]?=some (.cells (zA N) 53 (0,0)):=by rw[HTi.out.keep hS1];exact HZ.out.1
     have z0:wi.cell? ⟨w.heap.size,0,none⟩=some (.int .i64 (-7070)):=by rw[aP wi _ 0 (zA N) _ _ hzw];rfl
     have z1:wi.cell? ⟨w.heap.size,1,none⟩=some (.int .i64 0):=by rw[aP wi _ 1 (zA N) _ _ hzw];rfl
     have z2:wi.cell? ⟨w.heap.size,2,none⟩=some (.int .i64 0):=by rw[aP wi _ 2 (zA N) _ _ hzw];rfl
     have z3:wi.cell? ⟨w.heap.size,3,none⟩=some (.int .i64 (N:Int)):=by rw[aP wi _ 3 (zA N) _ _ hzw];rfl
     have f0:=hfr (i*4);have f1:=hfr (i*4+1);have f2:=hfr (i*4+2);have f3:=hfr (i*4+3);have hne:¬g5=q:=fun e=>by
      have h9:=HTi.out.other HC.out (by decide);rw[e,hq5]at h9;injection h9 with h9;injection h9 with _ h9;exact absurd h9 (by decide)
     have hne2:q≠g5:=fun e=>hne e.symm;have hcz:i*4+3<cur.size:=by
      rw[aP wi q _ cur _ _ hq5]at c3;exact(aM.1 c3).1
     have HQ:=Aa (aK hq5 hcz);clear hfr hzw hq5 hcz;have hk0:(0:Int)<=(k:Int):=by omega
     have hi0:(0:Int)<=(i:Int):=by omega
     go_wp2
     go_region_held3 (fun w'=>w'.cell? ⟨w.heap.size,0,none⟩=some (.int .i64 (-7070))/\w'.cell? ⟨w.heap.size,1,none⟩=some (.int .i64 0)/\w'.cell? ⟨w.heap.size,2,none⟩=some (.int .i64 0)/\w'.cell? ⟨w.heap.size,3,none⟩=some (.int .i64 (N:Int))/\w'.cell? ⟨g5,k,none⟩=some (.slice (some ⟨q,0,none⟩) m sc)) (go_keep) (fail)
     all_goals go_wp2
     go_roundg g2
     case measure=>omega
     case rel=>
      have hms:=Uq (N:=N) (i:=i) HQ.out.1 HQ.out.2;refine⟨i+1,by go_num,by omega,(HTi.out.trans (De.set4 HQ.out.1 hq1 hq2 _ _ _ _ _ _ _ _)).drew1,HDi.out.1.trans hms.1.drew,fun j hj b hb=>?_⟩;injection hb with hb;injection hb with hb;subst hb;by_cases e:j=i
      ·subst e;exact hms.2.drew9
      ·exact(hms.1 _ _ (HDi.out.2 j (by omega) _ rfl)).drew9
variable{cs:Array Value}{f:Nat->Value}{m:Nat}{u:Option Nat}{w1:World}
variable{cv:Value}
def Mr(u:Option Nat)(w:World)(x:Value)(m:Nat)(cs:Array Value):Prop:=∃g,x=.slice (some ⟨g,0,none⟩) m m/\some g≠u/\w.heap[g]?=some (.cells cs 51 (0,0))
def DC(w:World)(B0 zb:Nat)(x:Value)(m:Nat):Prop:=FR w B0 x m/\x.ownBlock≠some zb
def M9(v:Value)(n B0 zb:Nat)(w:World)(x:Value):Prop:=∃g a b c,x=.slice (some ⟨g,0,none⟩) 4 4/\some g≠v.ownBlock/\w.heap[g]?=some (.cells #[v,a,b,c] 44 (0,0))/\DC w B0 zb a (n+1)/\DC w B0 zb b (n+2)/\DC w B0 zb c (n+3)
theorem DC.step{w:World}{B0 zb:Nat}{x:Value}(h:DC w B0 zb x m)(hs:Cj u w w'):DC w' B0 zb x m:=⟨h.1.step hs,h.2⟩
theorem Mr.step{w:World}{x:Value}(h:Mr u w x m cs)(hs:Cj u w w'):Mr u w' x m cs:=by
 obtain⟨g,h1,h2,h3⟩:=h;exact⟨g,h1,h2,by rw[hs.grown.block g (aM.1 h3).1 h2];exact h3⟩
theorem M9.step{w:World}{v x:Value}{n B0 zb:Nat}(h:M9 v n B0 zb w x)(hs:Cj v.ownBlock w w'):M9 v n B0 zb w' x:=by
 obtain⟨g,a,b,c,h1,h2,h3,h4,h5,h6⟩:=h;exact⟨g,a,b,c,h1,h2,by rw[hs.grown.block g (aM.1 h3).1 h2];exact h3,h4.step hs,h5.step hs,h6.step hs⟩
structure FxB(N:Nat)(v:Value)(n B0 zb s:Nat)(x:Value)(w:World):Prop where
 mv:s=14\/s=15\/s=19\/s=24->x=v
 ld:s=16\/s=20\/s=21\/s=25\/s=26\/s=27->x=.agg (zB N)
 b1:s=17->Mr v.ownBlock w x 1 (zB N)
 b2:s=22->Mr v.ownBlock w x 2 ((zB N)++(zB N))
 b3:s=28->Mr v.ownBlock w x 3 ((zB N)++(zB N)++(zB N))
 r1:s=18->DC w B0 zb x (n+1)
 r2:s=23->DC w B0 zb x (n+2)
 r3:s=29->DC w B0 zb x (n+3)
 rg:s=30\/s=5->M9 v n B0 zb w x
theorem FxB.step{w:World}{v x:Value}{n B0 zb s:Nat}(h:FxB N v n B0 zb s x w)(hs:Cj v.ownBlock w w'):FxB N v n B0 zb s x w':=
 ⟨h.mv,h.ld,fun e=>(h.b1 e).step hs,fun e=>(h.b2 e).step hs,fun e=>(h.b3 e).step hs,fun e=>(h.r1 e).step hs,fun e=>(h.r2 e).step hs,fun e=>(h.r3 e).step hs,fun e=>(h.rg e).step hs⟩
def FL(k:Nat):Nat:=if k=17 then 5 else k+14
def QA(N:Nat)(v:Value)(n B0 zb:Nat)(w0:World)(listed:Array Bool)(f:Nat->Value)(w:World):Prop:=
 Cj v.ownBlock w0 w/\∀k,k<18->listed[k]?=some true->FxB N v n B0 zb (FL k) (f (FL k)) w
theorem Bu{v x:Value}{n B0 zb:Nat}{w0 w:World}{listed:Array Bool}(k:Nat)(h:QA N v n B0 zb w0 listed f w)(hk:k<18)(hs:Cj v.ownBlock w w')(hx:FxB N v n B0 zb (FL k) x w'):
  QA N v n B0 zb w0 (listed.setIfInBounds k true) (fun s=>if s=FL k then x else f s) w':=by
 refine⟨h.1.trans hs,fun j hj hl=>?_⟩;by_cases e:j=k
 ·subst e;simp only[if_true];exact hx
 ·rw[bC (fun q=>e q.symm)]at hl;have hne:¬FL j=FL k:=by
   unfold FL;split<;>split<;>omega
  simp only[hne,if_false];exact(h.2 j hj hl).step hs
theorem JF:∀u∈(zB N).toList,u.oneCell'=true:=by
 intro u hu;simp only[zB,cw,List.not_mem_nil,or_false]at hu;rcases hu with rfl|rfl|rfl|rfl|rfl|rfl|rfl|rfl|rfl<;>rfl
theorem Na:∀u∈((zB N)++(zB N)).toList,u.oneCell'=true:=by
 intro u hu;rw[Array.toList_append,bV]at hu;rcases hu with h|h<;>exact JF u h
theorem QB:∀u∈((zB N)++(zB N)++(zB N)).toList,u.oneCell'=true:=by
 intro u hu;rw[Array.toList_append,bV]at hu;rcases hu with h|h
 ·exact Na u h
 ·exact JF u h
theorem V8(N:Nat):(zB N++zB N++zB N).size=3*4:=by rw[Array.size_append,Array.size_append];rfl
theorem V9(N:Nat):(zB N++zB N).size=2*4:=by rw[Array.size_append];rfl
theorem JG{v x:Value}{n B0 zb:Nat}{w:World}(ty:TypeId)(hn:n+m<=9000010)(hB:B0<=w.heap.size)(hv:FR w B0 v n)(hz:w.heap[zb]?=some (.cells (zB N) 51 (0,0)))(hvz:v.ownBlock≠some zb)(hs:Cj v.ownBlock w w1)(hx:Mr v.ownBlock w1 x m cs)(hcs:cs.size=m*4)(h1:∀u∈cs.toList,u.oneCell'=true):
  ∃r w',(Builtin.append_ #[44,44] ty #[v,x]).run prog w1=.ok r w'/\Cj v.ownBlock w1 w'/\DC w' B0 zb r (n+m):=by
 obtain⟨g,rfl,hg,hb⟩:=hx;obtain⟨r,w',hr,h2,h3,h4⟩:=Qz (hv.step hs) ty ⟨g,0,none⟩ m m cs.toList (by rw[cR,hcs]) (bI hb) h1 (by unfold maxLen;omega) (by omega) (by have:=hs.grown.size;omega);refine⟨r,w',hr,h3,h2,?_⟩;rcases h4 with h4|h4
 ·rw[h4];exact hvz
 ·rw[h4];have hzl:=(aM.1 hz).1;have:=hs.grown.size;intro e;injection e with e;omega
variable{Q:Exit->Act->World->Prop}{v x:Value}{n pb zb s:Nat}
theorem Xt(hs:s=14\/s=15\/s=19\/s=24)(h:x=v):FxB N v n B0 zb s x w:=by constructor<;>intro e<;>first|exact h|omega
theorem Ur(hs:s=16\/s=20\/s=21\/s=25\/s=26\/s=27)(h:x=.agg (zB N)):FxB N v n B0 zb s x w:=by constructor<;>intro e<;>first|exact h|omega
theorem aw(hs:s=17)(h:Mr v.ownBlock w x 1 (zB N)):FxB N v n B0 zb s x w:=by constructor<;>intro e<;>first|exact h|omega
theorem ax(hs:s=22)(h:Mr v.ownBlock w x 2 ((zB N)++(zB N))):FxB N v n B0 zb s x w:=by constructor<;>intro e<;>first|exact h|omega
theorem ay(hs:s=28)(h:Mr v.ownBlock w x 3 ((zB N)++(zB N)++(zB N))):FxB N v n B0 zb s x w:=by constructor<;>intro e<;>first|exact h|omega
theorem az(hs:s=18)(h:DC w B0 zb x (n+1)):FxB N v n B0 zb s x w:=by constructor<;>intro e<;>first|exact h|omega
theorem aA(hs:s=23)(h:DC w B0 zb x (n+2)):FxB N v n B0 zb s x w:=by constructor<;>intro e<;>first|exact h|omega
theorem aB(hs:s=29)(h:DC w B0 zb x (n+3)):FxB N v n B0 zb s x w:=by constructor<;>intro e<;>first|exact h|omega
theorem ZM(hs:s=30\/s=5)(h:M9 v n B0 zb w x):FxB N v n B0 zb s x w:=by constructor<;>intro e<;>first|exact h|omega
structure Us(N:Nat)(v:Value)(n B0 zb:Nat)(w:World):Prop where
 hn:n<=9000000
 hB:B0<=w.heap.size
 hv:FR w B0 v n
 hz:w.heap[zb]?=some (.cells (zB N) 51 (0,0))
 hvz:v.ownBlock≠some zb
theorem Us.new(C:Us N v n B0 zb w)(hs:Cj v.ownBlock w w1):some w1.heap.size≠v.ownBlock:=fun e=>by
 obtain⟨xs,h2⟩:=C.hv.step hs;have:=(h2.lt _ e.symm).2;omega
theorem Us.z1(C:Us N v n B0 zb w)(hs:Cj v.ownBlock w w1):w1.heap[zb]?=some (.cells (zB N) 51 (0,0)):=by
 rw[hs.grown.block zb (aM.1 C.hz).1 (fun e=>C.hvz e.symm)];exact C.hz
def PpB(N:Nat)(cv:Value)(Q:Exit->Act->World->Prop)(v:Value)(n B0 pb zb:Nat)(w:World)(k:Nat):Prop:=∀(w1:World) (listed:Array Bool) (f:Nat->Value) (o:Oper),Us N v n B0 zb w->QA N v n B0 zb w listed f w1->(GH Tryz.f142)[k]?=some o->(∀e∈o.after,Region.binds .any e=true->listed[e.on]?=some true)->
  wpOp prog (GH Tryz.f142) Q k (fun a' w'=>∃f',a'=frB N cv pb zb v f'/\QA N v n B0 zb w (listed.setIfInBounds k true) f' w') (frB N cv pb zb v f) w1
theorem YZ:PpB N cv Q v n B0 pb zb w 0:=by
 intro w1 listed f o C hI ho hd;have ho9:=ho;cases ho
 exact Ar (x:=v) (w':=w1) ho9 rfl rfl ⟨_,rfl,Bu 0 hI (by decide) (Cj.refl _ _) (Xt (by decide) rfl)⟩
theorem Y2:PpB N cv Q v n B0 pb zb w 1:=by
 intro w1 listed f o C hI ho hd;have ho9:=ho;cases ho
 exact Ar (x:=v) (w':=w1) ho9 rfl rfl ⟨_,rfl,Bu 1 hI (by decide) (Cj.refl _ _) (Xt (by decide) rfl)⟩
theorem Y3:PpB N cv Q v n B0 pb zb w 2:=by
 intro w1 listed f o C hI ho hd;have ho9:=ho;cases ho
 exact Ar (x:=.agg (zB N)) (w':=w1) ho9 rfl (Fq pb zb v f _ rfl w1 (C.z1 hI.1)) ⟨_,rfl,Bu 2 hI (by decide) (Cj.refl _ _) (Ur (by decide) rfl)⟩
theorem Y4:PpB N cv Q v n B0 pb zb w 3:=by
 intro w1 listed f o C hI ho hd;have ho9:=ho;cases ho
 have q2:=hI.2 2 (by decide) (hd ⟨2,_⟩ (aW.1 (bK _)) rfl);have hnew:=C.new hI.1;exact Ar ho9 rfl (YU pb zb v f _ rfl w1 (q2.ld (by decide))) ⟨_,rfl,Bu 3 hI (by decide) (Cj.alloc _ _ _) (aw (by decide) ⟨w1.heap.size,rfl,hnew,aR w1 _⟩)⟩
theorem Y5:PpB N cv Q v n B0 pb zb w 4:=by
 intro w1 listed f o C hI ho hd;have ho9:=ho;cases ho
 have q1:=hI.2 1 (by decide) (hd ⟨1,_⟩ (aW.1 (bK _)) rfl);have q3:=hI.2 3 (by decide) (hd ⟨3,_⟩ (aW.1 (bJ _ (bK _))) rfl);obtain⟨r,w2,hr,hs2,hrow⟩:=JG (cs:=(zB N)) 44 (by have:=C.hn;omega) C.hB C.hv C.hz C.hvz hI.1 (q3.b1 rfl) rfl JF;exact Ar ho9 rfl (OB (frB N cv pb zb v f) _ (.tmp 15) (.tmp 17) rfl w1 w2 v (f 17) r (q1.mv (by decide)) rfl hr) ⟨_,rfl,Bu 4 hI (by decide) hs2 (az (by decide) hrow)⟩
theorem Y6:PpB N cv Q v n B0 pb zb w 5:=by
 intro w1 listed f o C hI ho hd;have ho9:=ho;cases ho
 exact Ar (x:=v) (w':=w1) ho9 rfl rfl ⟨_,rfl,Bu 5 hI (by decide) (Cj.refl _ _) (Xt (by decide) rfl)⟩
theorem Y7:PpB N cv Q v n B0 pb zb w 6:=by
 intro w1 listed f o C hI ho hd;have ho9:=ho;cases ho
 exact Ar (x:=.agg (zB N)) (w':=w1) ho9 rfl (Fq pb zb v f _ rfl w1 (C.z1 hI.1)) ⟨_,rfl,Bu 6 hI (by decide) (Cj.refl _ _) (Ur (by decide) rfl)⟩
theorem Y8:PpB N cv Q v n B0 pb zb w 7:=by
 intro w1 listed f o C hI ho hd;have ho9:=ho;cases ho
 exact Ar (x:=.agg (zB N)) (w':=w1) ho9 rfl (Fq pb zb v f _ rfl w1 (C.z1 hI.1)) ⟨_,rfl,Bu 7 hI (by decide) (Cj.refl _ _) (Ur (by decide) rfl)⟩
theorem Y9:PpB N cv Q v n B0 pb zb w 8:=by
 intro w1 listed f o C hI ho hd;have ho9:=ho;cases ho
 have q6:=hI.2 6 (by decide) (hd ⟨6,_⟩ (aW.1 (bK _)) rfl);have q7:=hI.2 7 (by decide) (hd ⟨7,_⟩ (aW.1 (bJ _ (bK _))) rfl);have hnew:=C.new hI.1;exact Ar ho9 rfl (YV pb zb v f _ rfl w1 (q6.ld (by decide)) (q7.ld (by decide))) ⟨_,rfl,Bu 8 hI (by decide) (Cj.alloc _ _ _) (ax (by decide) ⟨w1.heap.size,rfl,hnew,aR w1 _⟩)⟩
theorem Za:PpB N cv Q v n B0 pb zb w 9:=by
 intro w1 listed f o C hI ho hd;have ho9:=ho;cases ho
 have q5:=hI.2 5 (by decide) (hd ⟨5,_⟩ (aW.1 (bK _)) rfl);have q8:=hI.2 8 (by decide) (hd ⟨8,_⟩ (aW.1 (bJ _ (bK _))) rfl);have q4:=hI.2 4 (by decide) (hd ⟨4,_⟩ (aW.1 (bJ _ (bJ _ (bK _)))) rfl);obtain⟨r,w2,hr,hs2,hrow⟩:=JG (cs:=((zB N)++(zB N))) 44 (by have:=C.hn;omega) C.hB C.hv C.hz C.hvz hI.1 (q8.b2 rfl) (V9 N) Na;exact Ar ho9 rfl (OB (frB N cv pb zb v f) _ (.tmp 19) (.tmp 22) rfl w1 w2 v (f 22) r (q5.mv (by decide)) rfl hr) ⟨_,rfl,Bu 9 hI (by decide) hs2 (aA (by decide) hrow)⟩
theorem Xu:PpB N cv Q v n B0 pb zb w 10:=by
 intro w1 listed f o C hI ho hd;have ho9:=ho;cases ho
 exact Ar (x:=v) (w':=w1) ho9 rfl rfl ⟨_,rfl,Bu 10 hI (by decide) (Cj.refl _ _) (Xt (by decide) rfl)⟩
theorem Xv:PpB N cv Q v n B0 pb zb w 11:=by
 intro w1 listed f o C hI ho hd;have ho9:=ho;cases ho
 exact Ar (x:=.agg (zB N)) (w':=w1) ho9 rfl (Fq pb zb v f _ rfl w1 (C.z1 hI.1)) ⟨_,rfl,Bu 11 hI (by decide) (Cj.refl _ _) (Ur (by decide) rfl)⟩
theorem Xw:PpB N cv Q v n B0 pb zb w 12:=by
 intro w1 listed f o C hI ho hd;have ho9:=ho;cases ho
 exact Ar (x:=.agg (zB N)) (w':=w1) ho9 rfl (Fq pb zb v f _ rfl w1 (C.z1 hI.1)) ⟨_,rfl,Bu 12 hI (by decide) (Cj.refl _ _) (Ur (by decide) rfl)⟩
theorem Xx:PpB N cv Q v n B0 pb zb w 13:=by
 intro w1 listed f o C hI ho hd;have ho9:=ho;cases ho
 exact Ar (x:=.agg (zB N)) (w':=w1) ho9 rfl (Fq pb zb v f _ rfl w1 (C.z1 hI.1)) ⟨_,rfl,Bu 13 hI (by decide) (Cj.refl _ _) (Ur (by decide) rfl)⟩
theorem Xy:PpB N cv Q v n B0 pb zb w 14:=by
 intro w1 listed f o C hI ho hd;have ho9:=ho;cases ho
 have q11:=hI.2 11 (by decide) (hd ⟨11,_⟩ (aW.1 (bK _)) rfl);have q12:=hI.2 12 (by decide) (hd ⟨12,_⟩ (aW.1 (bJ _ (bK _))) rfl);have q13:=hI.2 13 (by decide) (hd ⟨13,_⟩ (aW.1 (bJ _ (bJ _ (bK _)))) rfl);have hnew:=C.new hI.1;exact Ar ho9 rfl (YX pb zb v f _ rfl w1 (q11.ld (by decide)) (q12.ld (by decide)) (q13.ld (by decide))) ⟨_,rfl,Bu 14 hI (by decide) (Cj.alloc _ _ _) (ay (by decide) ⟨w1.heap.size,rfl,hnew,aR w1 _⟩)⟩
theorem Xz:PpB N cv Q v n B0 pb zb w 15:=by
 intro w1 listed f o C hI ho hd;have ho9:=ho;cases ho
 have q10:=hI.2 10 (by decide) (hd ⟨10,_⟩ (aW.1 (bK _)) rfl);have q14:=hI.2 14 (by decide) (hd ⟨14,_⟩ (aW.1 (bJ _ (bK _))) rfl);have q9:=hI.2 9 (by decide) (hd ⟨9,_⟩ (aW.1 (bJ _ (bJ _ (bK _)))) rfl);obtain⟨r,w2,hr,hs2,hrow⟩:=JG (cs:=((zB N)++(zB N)++(zB N))) 44 (by have:=C.hn;omega) C.hB C.hv C.hz C.hvz hI.1 (q14.b3 rfl) (V8 N) QB;exact Ar ho9 rfl (OB (frB N cv pb zb v f) _ (.tmp 24) (.tmp 28) rfl w1 w2 v (f 28) r (q10.mv (by decide)) rfl hr) ⟨_,rfl,Bu 15 hI (by decide) hs2 (aB (by decide) hrow)⟩
theorem XB:PpB N cv Q v n B0 pb zb w 16:=by
 intro w1 listed f o C hI ho hd;have ho9:=ho;cases ho
 have q0:=hI.2 0 (by decide) (hd ⟨0,_⟩ (aW.1 (bK _)) rfl);have q4:=hI.2 4 (by decide) (hd ⟨4,_⟩ (aW.1 (bJ _ (bK _))) rfl);have q9:=hI.2 9 (by decide) (hd ⟨9,_⟩ (aW.1 (bJ _ (bJ _ (bK _)))) rfl);have q15:=hI.2 15 (by decide) (hd ⟨15,_⟩ (aW.1 (bJ _ (bJ _ (bJ _ (bK _))))) rfl);have hnew:=C.new hI.1;have f0:f 14=v:=q0.mv (by decide);have R1:=q4.r1 rfl;have R2:=q9.r2 rfl;have R3:=q15.r3 rfl;obtain⟨⟨x0,hx0⟩,⟨x1,hx1⟩,⟨x2,hx2⟩,⟨x3,hx3⟩⟩:=aK (C.hv.step hI.1) (aK R1.1 (aK R2.1 R3.1));obtain⟨a0,c0,e0⟩:=Al hx0;obtain⟨a1,c1,e1⟩:=Al hx1;obtain⟨a2,c2,e2⟩:=Al hx2;obtain⟨a3,c3,e3⟩:=Al hx3;refine Ar ho9 rfl (YY pb zb v f _ rfl w1 a0 a1 a2 a3 _ _ _ _ c0 c1 c2 c3 (f0.trans e0) e1 e2 e3) ⟨_,rfl,Bu 16 hI (by decide) (Cj.alloc _ _ _) (ZM (by decide) ?_)⟩;have S:=Cj.alloc v.ownBlock w1 (.cells #[.slice a0 n c0,.slice a1 (n+1) c1,.slice a2 (n+2) c2,.slice a3 (n+3) c3] 44);refine⟨w1.heap.size,f 18,f 23,f 29,rfl,hnew,?_,R1.step S,R2.step S,R3.step S⟩;rw[aR];have g1:f 18=.slice a1 (n+1) c1:=e1;have g2:f 23=.slice a2 (n+2) c2:=e2;have g3:f 29=.slice a3 (n+3) c3:=e3;rw[g1,g2,g3,e0]
theorem XC:PpB N cv Q v n B0 pb zb w 17:=by
 intro w1 listed f o C hI ho hd;have ho9:=ho;cases ho
 have q16:=hI.2 16 (by decide) (hd ⟨16,_⟩ (aW.1 (bK _)) rfl);exact Ar (x:=f 30) (w':=w1) ho9 rfl rfl ⟨_,rfl,Bu 17 hI (by decide) (Cj.refl _ _) (ZM (by decide) (q16.rg (by decide)))⟩
theorem Wa{id:Nat}(hn:n<=9000000)(hB:B0<=w.heap.size)(hv:FR w B0 v n)(hz:w.heap[zb]?=some (.cells (zB N) 51 (0,0)))(hvz:v.ownBlock≠some zb)
  (hQ:∀f' w',Cj v.ownBlock w w'->M9 v n B0 zb w' (f' 5)->Q .normal (frB N cv pb zb v f') w'):(Code.region id (GH Tryz.f142) true).wp prog Q (frB N cv pb zb v f) w:=by
 refine E4 (by kernel_rfl) (I:=fun listed a w1=>∃f',a=frB N cv pb zb v f'/\QA N v n B0 zb w listed f' w1) Sc ⟨f,rfl,?_⟩ ?_ ?_
 ·refine⟨⟨⟨rfl,rfl,rfl,aO _,fun _ _ _=>rfl⟩,fun g cur h=>⟨cur,h,rfl⟩⟩,fun k hk hl=>?_⟩;rw[Im,Array.getElem?_replicate,if_pos hk]at hl;cases hl
 ·rintro listed a w1 i o ⟨f',rfl,hI⟩ hsz hi ho hd;rw[Im]at hi;have C:Us N v n B0 zb w:=⟨hn,hB,hv,hz,hvz⟩
  match i,hi with
  |0,_=>exact YZ _ _ _ _ C hI ho hd
  |1,_=>exact Y2 _ _ _ _ C hI ho hd
  |2,_=>exact Y3 _ _ _ _ C hI ho hd
  |3,_=>exact Y4 _ _ _ _ C hI ho hd
  |4,_=>exact Y5 _ _ _ _ C hI ho hd
  |5,_=>exact Y6 _ _ _ _ C hI ho hd
  |6,_=>exact Y7 _ _ _ _ C hI ho hd
  |7,_=>exact Y8 _ _ _ _ C hI ho hd
  |8,_=>exact Y9 _ _ _ _ C hI ho hd
  |9,_=>exact Za _ _ _ _ C hI ho hd
  |10,_=>exact Xu _ _ _ _ C hI ho hd
  |11,_=>exact Xv _ _ _ _ C hI ho hd
  |12,_=>exact Xw _ _ _ _ C hI ho hd
  |13,_=>exact Xx _ _ _ _ C hI ho hd
  |14,_=>exact Xy _ _ _ _ C hI ho hd
  |15,_=>exact Xz _ _ _ _ C hI ho hd
  |16,_=>exact XB _ _ _ _ C hI ho hd
  |17,_=>exact XC _ _ _ _ C hI ho hd
 ·rintro listed a w1 ⟨f',rfl,hI⟩ hl;exact hQ f' w1 hI.1 ((hI.2 17 (by decide) (hl 17 (by rw[Im];decide))).rg (by decide))
variable{g i:Nat}{a b c:World}{cur:Array Value}{s:Value}
structure Df(B0 zb:Nat)(w w':World):Prop where
 os:w'.os=w.os
 tape:w'.tape=w.tape
 output:w'.output=w.output
 size:w.heap.size<=w'.heap.size
 block:∀g,g<w.heap.size->w'.heap[g]?=w.heap[g]?\/(B0<=g/\g≠zb/\∃cur cur':Array Value,w.heap[g]?=some (.cells cur 51 (0,0))/\w'.heap[g]?=some (.cells cur' 51 (0,0))/\cur'.size=cur.size)
theorem Df.refl(B0 zb:Nat)(w:World):Df B0 zb w w:=⟨rfl,rfl,rfl,aO _,fun _ _=>.inl rfl⟩
theorem Df.trans(h:Df B0 zb a b)(k:Df B0 zb b c):Df B0 zb a c:=by
 refine⟨k.os.trans h.os,k.tape.trans h.tape,k.output.trans h.output,bh h.size k.size,fun g hg=>?_⟩;rcases h.block g hg with h1|⟨h1,h2,c1,c2,h3,h4,h5⟩
 ·rcases k.block g (aQ hg h.size)with k1|⟨k1,k2,d1,d2,k3,k4,k5⟩
  ·exact .inl (k1.trans h1)
  ·exact .inr ⟨k1,k2,d1,d2,by rw[<-h1];exact k3,k4,k5⟩
 ·rcases k.block g (aQ hg h.size)with k1|⟨k1,k2,d1,d2,k3,k4,k5⟩
  ·exact .inr ⟨h1,h2,c1,c2,h3,by rw[k1];exact h4,h5⟩
  ·rw[h4]at k3;injection k3 with k3;injection k3 with k3;subst k3;exact .inr ⟨h1,h2,c1,d2,h3,k4,k5.trans h5⟩
theorem Df.below(h:Df B0 zb w w')(hB:B0<=w.heap.size):Below B0 w w':=
 ⟨h.os,h.tape,h.output,h.size,fun k hk=>by
  rcases h.block k (by omega)with h1|⟨h1,_⟩
  ·exact h1
  ·omega⟩
theorem Df.drew(h:Df B0 zb w w')(n:Nat):Df B0 zb w (w'.drewN n):=⟨h.os,h.tape,h.output,h.size,h.block⟩
theorem Df.other{t:TypeId}{q:Nat×Nat}(h:Df B0 zb w w')(hg:w.heap[g]?=some (.cells cur t q))(ht:t≠51):w'.heap[g]?=some (.cells cur t q):=by
 rcases h.block g (aM.1 hg).1 with h1|⟨_,_,c1,c2,h3,_,_⟩
 ·rw[h1];exact hg
 ·rw[hg]at h3;injection h3 with h3;injection h3 with _ h3;exact absurd h3 ht
theorem Df.keep(h:Df B0 zb w w')(hg:zb<w.heap.size):w'.heap[zb]?=w.heap[zb]? :=by
 rcases h.block zb hg with h1|⟨_,h2,_⟩
 ·exact h1
 ·exact absurd rfl h2
theorem Df.row(h:Df B0 zb w w')(hs:DC w B0 zb s m):DC w' B0 zb s m:=by
 refine⟨?_,hs.2⟩;obtain⟨xs,h1,h2⟩:=hs.1;rcases h2 with h2|⟨g,cap,cur,e1,e2,e3,e4,e5,e6,e7⟩
 ·exact⟨xs,h1,.inl h2⟩
 ·have:∃cur':Array Value,w'.heap[g]?=some (.cells cur' 51 (0,0))/\cur'.size=cur.size:=by
   rcases h.block g (aM.1 e3).1 with k|⟨_,_,c1,c2,k3,k4,k5⟩
   ·exact⟨cur,by rw[k];exact e3,rfl⟩
   ·rw[e3]at k3;injection k3 with k3;injection k3 with k3;subst k3;exact⟨c2,k4,k5⟩
  obtain⟨cur',k1,k2⟩:=this;refine⟨cur'.toList.take (m*4),?_,.inr ⟨g,cap,cur',e1,e2,k1,e4,e5,by rw[k2,e6],rfl⟩⟩;rw[bR,cR,k2,e6];have:=bU 4 e4;omega
theorem Df.set(hg:w.heap[g]?=some (.cells cur 51 (0,0)))(h1:B0<=g)(h2:g≠zb)(j:Nat)(u:Value):Df B0 zb w (w.setCell ⟨g,j,none⟩ u)/\∃cur':Array Value,(w.setCell ⟨g,j,none⟩ u).heap[g]?=some (.cells cur' 51 (0,0)):=by
 refine⟨⟨rfl,rfl,rfl,by simp,fun k hk=>?_⟩,⟨_,bH w g j cur _ u hg⟩⟩;by_cases e:k=g
 ·subst e;exact .inr ⟨h1,h2,cur,_,hg,bH w k j cur _ u hg,by simp⟩
 ·exact .inl (aL w ⟨g,j,none⟩ k u e)
theorem Df.set4(hg:w.heap[g]?=some (.cells cur 51 (0,0)))(h1:B0<=g)(h2:g≠zb)(j0 j1 j2 j3:Nat)(u0 u1 u2 u3:Value):Df B0 zb w ((((w.setCell ⟨g,j0,none⟩ u0).setCell ⟨g,j1,none⟩ u1).setCell ⟨g,j2,none⟩ u2).setCell ⟨g,j3,none⟩ u3):=by
 obtain⟨t0,c0,k0⟩:=Df.set hg h1 h2 j0 u0;obtain⟨t1,c1,k1⟩:=Df.set k0 h1 h2 j1 u1;obtain⟨t2,c2,k2⟩:=Df.set k1 h1 h2 j2 u2;obtain⟨t3,c3,k3⟩:=Df.set k2 h1 h2 j3 u3;exact((t0.trans t1).trans t2).trans t3
theorem DC.open(h:DC w B0 zb s m)(hi:i<m):∃g cap cur,s=.slice (some ⟨g,0,none⟩) m cap/\B0<=g/\g≠zb/\m<=cap/\g<w.heap.size/\w.heap[g]?=some (.cells cur 51 (0,0))/\(∃q,w.cell? ⟨g,i*4,none⟩=some q)/\(∃q,w.cell? ⟨g,i*4+1,none⟩=some q)/\(∃q,w.cell? ⟨g,i*4+2,none⟩=some q)/\(∃q,w.cell? ⟨g,i*4+3,none⟩=some q)/\(∀j,w.frozen? ⟨g,j,none⟩=false):=by
 obtain⟨xs,h1,h2⟩:=h.1;rcases h2 with⟨_,h2⟩|⟨g,cap,cur,e1,e2,e3,e4,e5,e6,e7⟩
 ·omega
 ·subst e1;have hc:∀j,j<cur.size->∃q,w.cell? ⟨g,j,none⟩=some q:=fun j hj=>⟨cur[j],by rw[aP w g j cur _ _ e3];exact Array.getElem?_eq_getElem hj⟩;have hsz:i*4+3<cur.size:=by
   rw[e6];omega
  exact⟨g,cap,cur,rfl,e2,fun e=>h.2 (by rw[<-e];rfl),e4,(aM.1 e3).1,e3,hc _ (by omega),hc _ (by omega),hc _ (by omega),hc _ (by omega),fun j=>by simp[World.frozen?,e3]⟩
def Hq(N:Nat)(w:World)(g j:Nat):Prop:=∀o,o<4->w.cell? ⟨g,j*4+o,none⟩=(zB N)[o]?
def DS(N:Nat)(w w':World):Prop:=∀g j,Hq N w g j->Hq N w' g j
theorem DS.refl(N:Nat)(w:World):DS N w w:=fun _ _ h=>h
theorem DS.trans(h:DS N a b)(k:DS N b c):DS N a c:=fun g j hd=>k g j (h g j hd)
theorem DS.drew(h:DS N w w'):DS N w w'.drew:=h
theorem Ut{q:Nat}(hq:w.heap[q]?=some (.cells cur 51 (0,0)))(hsz:i*4+3<cur.size):
  DS N w ((((w.setCell ⟨q,i*4,none⟩ (.int .u8 ((N%251:Nat):Int))).setCell ⟨q,i*4+1,none⟩ (.int .u8 ((N/251%251:Nat):Int))).setCell ⟨q,i*4+2,none⟩ (.int .u8 ((N/63001%251:Nat):Int))).setCell ⟨q,i*4+3,none⟩ (.int .u8 77))/\Hq N ((((w.setCell ⟨q,i*4,none⟩ (.int .u8 ((N%251:Nat):Int))).setCell ⟨q,i*4+1,none⟩ (.int .u8 ((N/251%251:Nat):Int))).setCell ⟨q,i*4+2,none⟩ (.int .u8 ((N/63001%251:Nat):Int))).setCell ⟨q,i*4+3,none⟩ (.int .u8 77)) q i:=by
 obtain⟨W,hW⟩:∃W,((((w.setCell ⟨q,i*4,none⟩ (.int .u8 ((N%251:Nat):Int))).setCell ⟨q,i*4+1,none⟩ (.int .u8 ((N/251%251:Nat):Int))).setCell ⟨q,i*4+2,none⟩ (.int .u8 ((N/63001%251:Nat):Int))).setCell ⟨q,i*4+3,none⟩ (.int .u8 77))=W:=⟨_,rfl⟩;have hb:W.heap[q]?=some (.cells ((((cur.setIfInBounds (i*4) (.int .u8 ((N%251:Nat):Int))).setIfInBounds (i*4+1) (.int .u8 ((N/251%251:Nat):Int))).setIfInBounds (i*4+2) (.int .u8 ((N/63001%251:Nat):Int))).setIfInBounds (i*4+3) (.int .u8 77)) 51 (0,0)):=by
  rw[<-hW];exact(bH _ q (i*4+3) _ _ _ (bH _ q (i*4+2) _ _ _ (bH _ q (i*4+1) _ _ _ (bH _ q (i*4) _ _ _ hq))))
 have ho:∀k,k≠q->W.heap[k]?=w.heap[k]? :=fun k hk=>by
  rw[<-hW];rw[aL _ ⟨q,i*4+3,none⟩ k _ hk,aL _ ⟨q,i*4+2,none⟩ k _ hk,aL _ ⟨q,i*4+1,none⟩ k _ hk,aL _ ⟨q,i*4,none⟩ k _ hk]
 rw[hW];have hd:Hq N W q i:=fun o ho9=>by
  rw[aP W q _ _ _ _ hb]
  match o,ho9 with
  |0,_=>simp[zB,bN];omega
  |1,_=>simp[zB,bN];omega
  |2,_=>simp[zB,bN];omega
  |3,_=>simp[zB,bN];omega
 refine⟨fun g j h=>?_,hd⟩;by_cases e:g=q
 ·subst e;by_cases ej:j=i
  ·subst ej;exact hd
  ·intro o ho9;have h1:=h o ho9;rw[aP w g _ _ _ _ hq]at h1;rw[aP W g _ _ _ _ hb,<-h1];repeat rw[bC (by omega)]
 ·intro o ho9;rw[aV (ho g e)];exact h o ho9
theorem Wb:(prog.info? 111).map (fun i=>(i.zero,i.size,i.bytes))=some (some (.slice none 0 0),1,24):=by kernel_rfl
variable{K K':Nat->Prop}
def ZN(w:World)(K:Nat->Prop)(v:Value)(i:Nat):Prop:=
 ∃a m c,v=.slice a m c/\m<=1152921504606846976/\(0<m->∃b cur,a=some ⟨b,0,none⟩/\K b/\w.heap[b]?=some (.cells cur 51 (0,0))/\∀j,j<m->Hq i w b j)
def SW(w:World)(K:Nat->Prop)(v:Value)(i:Nat):Prop:=
 ∃g c cur,v=.slice (some ⟨g,0,none⟩) 4 c/\w.heap[g]?=some (.cells cur 44 (0,0))/\∀k,k<4->∃u,cur[k]?=some u/\ZN w K u i
theorem SW.keep{v:Value}{i:Nat}(h:SW w K v i)(hK:∀b,K b->K' b)(hk:∀(b:Nat) (cur:Array Value) (t:TypeId),(t=51/\K b)\/t=44->w.heap[b]?=some (.cells cur t (0,0))->w'.heap[b]?=w.heap[b]?):SW w' K' v i:=by
 obtain⟨g,c,cur,h1,h2,h3⟩:=h;refine⟨g,c,cur,h1,(hk g cur _ (.inr rfl) h2).trans h2,fun k hk4=>?_⟩;obtain⟨u,h4,a,m,c,h5,h6,h7⟩:=h3 k hk4;refine⟨u,h4,a,m,c,h5,h6,fun hm=>?_⟩;obtain⟨b,cur,h8,hKb,h9,h10⟩:=h7 hm;have e:=hk b cur _ (.inl ⟨rfl,hKb⟩) h9;exact⟨b,cur,h8,hK b hKb,e.trans h9,fun j hj o ho=>(aV e).trans (h10 j hj o ho)⟩
structure I7(w:World)(K:Nat->Prop)(cv:Value)(N:Nat)(xs:List Value):Prop where
 row:w.ownsRow 0 111 1 cv N xs
 all:∀i,i<N->∃v,xs[i]?=some v/\SW w K v i
theorem I7.keep{cv:Value}{N:Nat}{xs:List Value}(h:I7 w K cv N xs)(hK:∀b,K b->K' b)(hk:∀(b:Nat) (cur:Array Value) (t:TypeId),(t=51/\K b)\/t=44\/t=111->w.heap[b]?=some (.cells cur t (0,0))->w'.heap[b]?=w.heap[b]?):I7 w' K' cv N xs:=by
 refine⟨Ai h.row fun g hg=>?_,fun i hi=>?_⟩
 ·obtain⟨cur,hc⟩:=Ap h.row hg;exact hk g cur _ (.inr (.inr rfl)) hc
 ·obtain⟨v,h1,h2⟩:=h.all i hi;exact⟨v,h1,h2.keep hK fun b cur t ht hb=>hk b cur t (ht.imp id .inl) hb⟩
theorem I7.nil(w:World)(K:Nat->Prop):I7 w K (.slice none 0 0) 0 []:=⟨bA _ _ _ _,fun i hi=>by omega⟩
theorem Nd(N:Nat)(hN:N<=1000000000000)(w:World):
  Calls prog 51 #[.int .i64 N] w fun e w'=>e=.returned (.agg (zB N))/\Below w.heap.size w w':=by
 obtain⟨a,ha⟩:∃a,N%251=a:=⟨_,rfl⟩;obtain⟨q,hq⟩:∃q,N/251=q:=⟨_,rfl⟩;obtain⟨b,hb⟩:∃b,q%251=b:=⟨_,rfl⟩;obtain⟨r,hr⟩:∃r,N/63001=r:=⟨_,rfl⟩;obtain⟨c,hc⟩:∃c,r%251=c:=⟨_,rfl⟩;have hz:zB N=#[.int .u8 (a:Int),.int .u8 (b:Int),.int .u8 (c:Int),.int .u8 77]:=by
  unfold zB;rw[ha,hq,hb,hr,hc]
 rw[hz];have e1:Int.tmod (N:Int) 251=(a:Int):=by rw[<-ha];rfl
 have e2:Int.tdiv (N:Int) 251=(q:Int):=by rw[<-hq];rfl
 have e3:Int.tmod (q:Int) 251=(b:Int):=by rw[<-hb];rfl
 have e4:Int.tdiv (N:Int) 63001=(r:Int):=by rw[<-hr];rfl
 have e5:Int.tmod (r:Int) 251=(c:Int):=by rw[<-hc];rfl
 have x1:IntKind.i64.wrap (q:Int)=(q:Int):=by rw[bB];omega
 have x2:IntKind.i64.wrap (r:Int)=(r:Int):=by rw[bB];omega
 have y1:(a:Int)%256=(a:Int):=by omega
 have y2:(b:Int)%256=(b:Int):=by omega
 have y3:(c:Int)%256=(c:Int):=by omega
 clear ha hq hb hr hc hz;go_enter func51,ntmps51
 go_wp2;refine cU (v:=.agg #[.int .u8 (a:Int),.int .u8 (b:Int),.int .u8 (c:Int),.int .u8 77]) (by simp[results,results51,go_sem]) rfl ⟨rfl,al1 (aO _) _⟩
theorem Df.drew1{zb:Nat}(h:Df B0 zb w w'):Df B0 zb w w'.drew:=⟨h.os,h.tape,h.output,h.size,h.block⟩
def OE(N:Nat)(w:World)(s:Value):Prop:=∀b m c,s=.slice (some ⟨b,0,none⟩) m c->∀j,j<m->Hq N w b j
theorem OE.stays{s:Value}(h:OE N w s)(hs:DS N w w'):OE N w' s:=fun b m c e j hj=>hs b j (h b m c e j hj)
theorem Hq.drew9{g j:Nat}(h:Hq N w g j):Hq N w.drew g j:=h
theorem Wh{K:Nat->Prop}{pb n:Nat}{pc:Array Value}{cv:Value}{xs:List Value}{v:Value}(hB:B0<=w.heap.size)(hblk:w.heap[pb]?=some (.cells pc 69 (0,0)))(hpi:pc[2]?=some cv)(h:I7 w K cv N xs)(hK0:∀g,K g->g<B0)(hN:N<=1000000000000)(hn:n<=9000000)(hv:FR w B0 v n):
  Calls prog 142 #[.pointer (some ⟨pb,1,none⟩),v] w fun e w'=>e=.returned (.tuple #[])/\(∃cv' xs',w'.heap[pb]?=some (.cells (pc.setIfInBounds 2 cv') 69 (0,0))/\I7 w' (fun g=>K g\/(B0<=g/\∃cur,w'.heap[g]?=some (.cells cur 51 (0,0)))) cv' (N+1) xs'/\(cv'.ownBlock=cv.ownBlock\/∃g,cv'.ownBlock=some g/\B0<=g))/\Ac (fun g=>g=pb\/cv.ownBlock=some g\/B0<=g) w w'/\(∀(g:Nat) (cur:Array Value) (t:TypeId),t≠51->t≠111->t≠69->w.heap[g]?=some (.cells cur t (0,0))->w'.heap[g]?=w.heap[g]?):=by
 obtain⟨i9,hi9,hy0,hy1,hy2⟩:=cW Wb;have hpl:pb<w.heap.size:=Ab hblk;have hpb:=hblk;obtain⟨ca,cc,hcf⟩:=Al h.row;subst hcf;have hp:w.cell? ⟨pb,2,none⟩=some (.slice ca N cc):=by rw[aP w pb 2 pc _ _ hpb];exact hpi
 have hvz:v.ownBlock≠some w.heap.size:=fun e=>by
  obtain⟨xs,h⟩:=hv;have:=(h.lt _ e).2;omega
 have HV:=Aa (aK hv hvz);have HP:=Aa (aK hpb (aK (aK h hpi) hK0));clear hv hvz hpb h hblk hpi hK0;have HMk:=Aa (Nd N hN);have HW:Hid (∀wm:World,Below w.heap.size w wm->B0<=wm.heap.size/\pb<wm.heap.size/\wm.heap[pb]?=some (.cells pc 69 (0,0))/\FR wm B0 v n/\v.ownBlock≠some wm.heap.size/\I7 wm K (.slice ca N cc) N xs):=fun wm hm=>by
  have hsm:=hm.size;refine⟨by omega,by omega,(hm.block pb hpl).trans HP.out.1,?_,fun e=>?_,?_⟩
  ·obtain⟨ys,hys⟩:=HV.out.1;exact⟨ys,Ai hys fun g hg=>hm.block g (hys.lt g hg).2⟩
  ·obtain⟨ys,hys⟩:=HV.out.1;have:=(hys.lt _ e).2;omega
  ·exact HP.out.2.1.1.keep (fun _ hb=>hb) fun b cur t _ hbb=>hm.block b (Ab hbb)
 obtain⟨PW,hPW⟩:∃PW:World->Ending->World->Prop,PW=fun w=>fun e w'=>e=.returned (.tuple #[])/\(∃cv' xs',w'.heap[pb]?=some (.cells (pc.setIfInBounds 2 cv') 69 (0,0))/\I7 w' (fun g=>K g\/(B0<=g/\∃cur,w'.heap[g]?=some (.cells cur 51 (0,0)))) cv' (N+1) xs'/\(cv'.ownBlock=(Value.slice ca N cc).ownBlock\/∃g,cv'.ownBlock=some g/\B0<=g))/\Ac (fun g=>g=pb\/(Value.slice ca N cc).ownBlock=some g\/B0<=g) w w'/\(∀(g:Nat) (cur:Array Value) (t:TypeId),t≠51->t≠111->t≠69->w.heap[g]?=some (.cells cur t (0,0))->w'.heap[g]?=w.heap[g]?):=⟨_,rfl⟩;obtain⟨post,hpost⟩:∃p,p=PW w:=⟨_,rfl⟩;have hgoal:(fun e w'=>e=.returned (.tuple #[])/\(∃cv' xs',w'.heap[pb]?=some (.cells (pc.setIfInBounds 2 cv') 69 (0,0))/\I7 w' (fun g=>K g\/(B0<=g/\∃cur,w'.heap[g]?=some (.cells cur 51 (0,0)))) cv' (N+1) xs'/\(cv'.ownBlock=(Value.slice ca N cc).ownBlock\/∃g,cv'.ownBlock=some g/\B0<=g))/\Ac (fun g=>g=pb\/(Value.slice ca N cc).ownBlock=some g\/B0<=g) w w'/\(∀(g:Nat) (cur:Array Value) (t:TypeId),t≠51->t≠111->t≠69->w.heap[g]?=some (.cells cur t (0,0))->w'.heap[g]?=w.heap[g]?))=post:=by rw[hpost,hPW]
 rw[hgoal];have HPo:Hid (∀(wm:World) (e:Ending) (w':World),Below w.heap.size w wm->PW wm e w'->post e w'):=fun wm e w' hm h9=>by
  rw[hpost];rw[hPW]at h9 ⊢;obtain⟨h1,h2,h3,h4⟩:=h9;refine⟨h1,h2,(Ac.below hm).trans (h3.mono fun g _ hg=>.inl hg),fun g cur t t1 t2 t3 hg=>?_⟩;have e9:=hm.block g (Ab hg);rw[h4 g cur t t1 t2 t3 (e9.trans hg),e9]
 have HPW:=Aa hPW;have HPp:=Aa (aK HP.out.2.1.2 HP.out.2.2);clear hpost hgoal hPW;go_enter func142,ntmps142
 go_wp2_with(go_at_call 51;refine(HMk.out _).mono ?_;rintro e wm ⟨rfl,hbm⟩;have HBm:=Aa hbm;clear hbm;unfold zB)
 clear HV HP hp hB hpl;rename World=>w;obtain⟨hB,hpl,hpb,hv,hvz,hb⟩:=HW.out w HBm.out;have HV:=Aa (aK hv hvz);have HP:=Aa (aK hpb (aK (aK hb HPp.out.1) HPp.out.2));clear hv hvz hpb hb
 rename_i Qp K hK
 refine Wa (N:=N) (cv:=.slice ca N cc) (n:=n) (B0:=B0) (pb:=pb) (zb:=w.heap.size) (v:=v) (f:=fun _=>undef) hn (by simp;omega) (HV.out.1.step (Cj.alloc none _ _)) (aR w _) HV.out.2 ?_;intro f w1 hs hr;refine hK _ _ ?_;clear hK K;obtain⟨g5,r1,r2,r3,e5,hg5,hc5,R1,R2,R3⟩:=hr;have hz1:w1.heap[w.heap.size]?=some (.cells (zB N) 51 (0,0)):=by rw[hs.grown.block _ (by simp) (fun e=>HV.out.2 e.symm)];exact aR w _
 have hBel:Below B0 w w1:=((aN B0 w).alloc hB _).grown hs.grown (by simp;omega) fun k hk=>by
  obtain⟨xs,h⟩:=HV.out.1;exact(h.lt k hk).1
 have hP1:w1.heap[pb]?=some (.cells pc 69 (0,0)):=by
  rw[hs.grown.block pb (aQ hpl (by simp)) (fun e=>by
   obtain⟨ys,hys⟩:=HV.out.1;obtain⟨c9,h9⟩:=Ap hys e.symm;exact Aj HP.out.1 h9 (by decide) rfl)]
  exact(Ad w _ pb hpl).trans HP.out.1
 have hS1:w.heap.size<w1.heap.size:=by have:=hs.grown.size;simp at this;omega
 have hR0:DC w1 B0 w.heap.size v n:=⟨(HV.out.1.step (Cj.alloc none _ _)).step hs,HV.out.2⟩;have hRk:∀k,k<4->∃s,#[v,r1,r2,r3][k]?=some s/\DC w1 B0 w.heap.size s (n+k):=by
  intro k hk
  match k,hk with
  |0,_=>exact⟨v,rfl,hR0⟩
  |1,_=>exact⟨r1,rfl,R1⟩
  |2,_=>exact⟨r2,rfl,R2⟩
  |3,_=>exact⟨r3,rfl,R3⟩
 have HOth:Hid (∀(g:Nat) (cur:Array Value) (t:TypeId),t≠51->w.heap[g]?=some (.cells cur t (0,0))->w1.heap[g]?=w.heap[g]?):=fun g cur t ht hg=>by
  rw[hs.grown.block g (aQ (Ab hg) (by simp)) (fun e=>by
   obtain⟨ys,hys⟩:=HV.out.1;obtain⟨c9,h9⟩:=Ap hys e.symm;exact Aj hg h9 ht rfl)]
  exact Ad w _ g (Ab hg)
 have HRk:=Aa hRk;have HBel:=Aa hBel;have HZ:=Aa (aK hz1 hP1);have HC:=Aa hc5;have hgl:=(aM.1 hc5).1;clear hRk hBel hz1 hP1 hc5 R1 R2 R3 hR0 hs hg5;unfold frB;rw[e5];clear e5;generalize f 14=x14;generalize f 15=x15;generalize f 16=x16;generalize f 17=x17;generalize f 18=x18;generalize f 19=x19;generalize f 20=x20;generalize f 21=x21;generalize f 22=x22;generalize f 23=x23;generalize f 24=x24;generalize f 25=x25;generalize f 26=x26;generalize f 27=x27;generalize f 28=x28;generalize f 29=x29;generalize f 30=x30;clear f;go_wp2;have hzb:zB N=#[.int .u8 ((N%251:Nat):Int),.int .u8 ((N/251%251:Nat):Int),.int .u8 ((N/63001%251:Nat):Int),.int .u8 77]:=rfl
 go_loopg [6] 4 (fun g s6 wr=>∃k:Nat,s6=.int .i64 k/\g+k=4/\Df B0 w.heap.size w1 wr/\∀k' s,k'<k->#[v,r1,r2,r3][k']?=some s->OE N wr s)
 case atStart=>exact⟨0,rfl,rfl,Df.refl _ _ _,fun k' s hk=>by omega⟩
 case round=>
  rename World=>wo;rename Nat=>gO;obtain⟨k,rfl,hgk,hT,hF⟩:=hrel;have HT:=Aa hT;have HF:=Aa hF;have hwl:=hT.size;have hBz:=HBel.out.size;clear hT hF;cases gO with
  |zero=>
   have hlt:¬(k:Int)<4:=by omega
   have hPo:=HT.out.other HZ.out.2 (by decide);have hBw:=HT.out.below (show B0<=w1.heap.size by omega);have hpo:wo.cell? ⟨pb,2,none⟩=some (.slice ca N cc):=by rw[aP wo pb 2 pc _ _ hPo];exact HP.out.2.1.2
   have hfo:wo.frozen? ⟨pb,2,none⟩=false:=by simp[World.frozen?,hPo]
   have hpl2:pb<wo.heap.size:=by omega
   have hTyp:∀(g:Nat) (cur:Array Value) (t:TypeId),t≠51->w.heap[g]?=some (.cells cur t (0,0))->wo.heap[g]?=w.heap[g]? :=fun g cur t ht hg=>by
    have e0:=HOth.out g cur t ht hg;rw[HT.out.other (e0.trans hg) ht,hg]
   have hrow:wo.ownsRow 0 111 1 (.slice ca N cc) N xs:=Ai HP.out.2.1.1.row fun g hg=>by
    obtain⟨cur,hc⟩:=Ap HP.out.2.1.1.row hg;exact hTyp g cur _ (by decide) hc
   have hb3:=HBel.out.trans hBw;have HTyp:=Aa hTyp;have HRo:=Aa (aK hrow (aK hb3 (aK hPo hBw)));have hgr:∀(o:Obj) (w4:World),(wo.alloc o).grownBy w4 (Value.slice ca N cc).ownBlock->w4.cell? ⟨pb,2,none⟩=some (.slice ca N cc)/\w4.frozen? ⟨pb,2,none⟩=false/\pb<w4.heap.size:=fun o w4 hg=>by
    have hk:=BC (T:=111) hg fun g hg=>Ap (HRo.out.1.alloc o) hg;have h9:(wo.alloc o).heap[pb]?=some (.cells pc 69 (0,0)):=(Ad wo o pb hpl2).trans HRo.out.2.2.1;have h8:=(hk _ (by decide) pb pc h9).trans h9;exact⟨by rw[aP w4 pb 2 pc _ _ h8];exact HP.out.2.1.2,by simp[World.frozen?,h8],Ab h8⟩
   have HGr:=Aa hgr;clear hPo hb3 hrow hgr hBw hTyp
   go_wp2_with(first
    |(at_builtin;refine Am (P:=prog) rfl (.tmp 57) (.tmp 59) 64 rfl 0 111 i9 _ 1 24 underlying64 hi9 hy0 hy1 hy2 rfl (by decide) (.slice ca N cc) N xs rfl (HRo.out.1.alloc _) (.slice (some ⟨wo.heap.size,0,none⟩) 1 1) 1 [.slice (some ⟨g5,0,none⟩) 4 4] rfl rfl (.inr ⟨_,_,rfl,cell_one_new _ _ _⟩) (by simp[Value.oneCell']) (by unfold maxLen;omega) (by omega) (by omega) ?_;intro v4 w4 ho4 hg4 hn4 ha4;obtain⟨va,vc,hvf⟩:=Al ho4;subst hvf;obtain⟨m3,m4,m5⟩:=HGr.out _ w4 hg4;have H4:=Aa (aK ho4 (aK hg4 ha4));clear ho4 hg4 hn4 ha4))
   obtain⟨ho4,hg4,ha4⟩:=H4.out;obtain⟨hrow,hb3,hPo,hBw⟩:=HRo.out;have hk:=BC (T:=111) hg4 fun g hg=>Ap (hrow.alloc _) hg;have h9:(wo.alloc (.cells #[.slice (some ⟨g5,0,none⟩) 4 4] 111)).heap[pb]?=some (.cells pc 69 (0,0)):=(Ad wo _ pb hpl2).trans hPo;have h8:w4.heap[pb]?=some (.cells pc 69 (0,0)):=(hk _ (by decide) pb pc h9).trans h9;have fwd:∀(b:Nat) (cur:Array Value) (t:TypeId),t=51\/t=44->wo.heap[b]?=some (.cells cur t (0,0))->(w4.setCell ⟨pb,2,none⟩ (.slice va (N+1) vc)).heap[b]?=wo.heap[b]? :=fun b cur t ht hbb=>by
    have hn1:t≠111:=by rcases ht with rfl|rfl<;>decide
    have hn2:t≠69:=by rcases ht with rfl|rfl<;>decide
    have e1:=Ad wo (.cells #[.slice (some ⟨g5,0,none⟩) 4 4] 111) b (Ab hbb);have e2:=hk t hn1 b cur (e1.trans hbb);rw[aL w4 ⟨pb,2,none⟩ b _ (Aj (e2.trans (e1.trans hbb)) h8 hn2),e2,e1]
   have hB:=HP.out.2.1.1;have hBp:=HP.out.2.1.2;have hp3l:2<pc.size:=(aM.1 hBp).1;have hxl:=hB.row.1;refine cV (v:=.tuple #[]) (by simp[results,results142]) rfl (HPo.out w _ _ HBm.out ?_);rw[HPW.out];refine⟨rfl,⟨_,xs++[.slice (some ⟨g5,0,none⟩) 4 4],bH w4 pb 2 pc _ _ h8,⟨Ai ho4 fun g hg=>?_,fun i hi=>?_⟩,?_⟩,?_,?_⟩
   ·obtain⟨cur,hcur⟩:=Ap ho4 hg;exact aL w4 ⟨pb,2,none⟩ g _ (Aj hcur h8 (by decide))
   ·by_cases e:i=N
    ·subst e;refine⟨.slice (some ⟨g5,0,none⟩) 4 4,by rw[bO (by omega),hxl];simp,g5,4,#[v,r1,r2,r3],rfl,?_,fun k hk4=>?_⟩
     ·have h7:=HT.out.other HC.out (by decide);exact(fwd g5 _ _ (.inr rfl) h7).trans h7
     ·obtain⟨s,hs,hrw⟩:=HRk.out k hk4;refine⟨s,hs,?_⟩;have hfull:=HF.out k s (by omega) hs;obtain⟨ys,y1,y2⟩:=(HT.out.row hrw).1;rcases y2 with⟨y2,y3⟩|⟨g,cap,cur,z1,z2,z3,z4,z5,z6,z7⟩
      ·exact⟨none,0,0,y2,by omega,fun h=>by omega⟩
      ·refine⟨some ⟨g,0,none⟩,n+k,cap,z1,by omega,fun _=>⟨g,cur,rfl,.inr ⟨z2,cur,(fwd g cur _ (.inl rfl) z3).trans z3⟩,(fwd g cur _ (.inl rfl) z3).trans z3,fun j hj o ho=>?_⟩⟩;exact(aV (fwd g cur _ (.inl rfl) z3)).trans (hfull g _ _ z1 j hj o ho)
    ·obtain⟨u,hu,hQ⟩:=hB.all i (by omega);refine⟨u,by rw[cA (by omega)];exact hu,hQ.keep (fun b hb=>.inl hb) fun b cur t ht hbb=>?_⟩;have e0:wo.heap[b]?=w.heap[b]? :=by
      rcases ht with⟨_,hk⟩|rfl
      ·exact hb3.block b (HP.out.2.2 b hk)
      ·exact HTyp.out b cur _ (by decide) hbb
     exact(fwd b cur t (ht.imp And.left id) (e0.trans hbb)).trans e0
   ·rcases ha4 with ha4|ha4
    ·exact .inl ha4
    ·exact .inr ⟨_,ha4,by simp;omega⟩
   ·have hBx:=HBel.out.trans hBw;have o1:Ac (fun g=>g=pb\/(Value.slice ca N cc).ownBlock=some g\/B0<=g) w wo:=⟨hBx.os,hBx.tape,hBx.output,hBx.size,fun g hg hs=>hBx.block g (by
     by_cases h7:B0<=g
     ·exact absurd (Or.inr (Or.inr h7)) hs
     ·omega)⟩
    exact((o1.alloc _).grown hg4 fun g hg=>.inl (.inr (.inl hg))).set (p:=⟨pb,2,none⟩) (.inl (.inl rfl)) _
   ·intro g cur t t1 t2 t3 hg;have e0:=HOth.out g cur t t1 hg;have h1:=HT.out.other (e0.trans hg) t1;have e1:=Ad wo (.cells #[.slice (some ⟨g5,0,none⟩) 4 4] 111) g (Ab h1);have e2:=hk t t2 g cur (e1.trans h1);rw[aL w4 ⟨pb,2,none⟩ g _ (Aj (e2.trans (e1.trans h1)) h8 t3),e2,e1,h1,hg]
  |succ g=>
   have hlt:(k:Int)<4:=by omega
   have hk4:k<4:=by omega
   obtain⟨s,hs,hrow⟩:=HRk.out k hk4;obtain⟨m,hm⟩:∃m,n+k=m:=⟨_,rfl⟩;rw[hm]at hrow;obtain⟨xs,hxs⟩:=hrow.1;obtain⟨sa,sc,rfl⟩:=Al hxs;have hc5:wo.cell? ⟨g5,k,none⟩=some (.slice sa m sc):=by rw[aP wo g5 k _ _ _ (HT.out.other HC.out (by decide))];exact hs
   have hm9:m<=9000004:=by omega
   have HRw:=Aa hrow;have HS:=Aa hs;clear hs hrow hxs hm;go_wp2
   go_loopg [7] m (fun gg s7 wr=>∃i:Nat,s7=.int .i64 i/\gg+i=m/\Df B0 w.heap.size w1 wr/\DS N wo wr/\∀j,j<i->∀b,sa=some ⟨b,0,none⟩->Hq N wr b j)
   case atStart=>exact⟨0,rfl,by omega,HT.out,DS.refl _ _,fun j hj=>by omega⟩
   case round=>
    rename World=>wi;obtain⟨i,rfl,hgi,hT,hSt,hD⟩:=hrel;have hc6:wi.cell? ⟨g5,k,none⟩=some (.slice sa m sc):=by rw[aP wi g5 k _ _ _ (hT.other HC.out (by decide))];exact HS.out
    have HTi:=Aa hT;have HDi:=Aa (aK hSt hD);have hwi:=hT.size;clear hT hc5 hSt hD;cases gk with
    |zero=>
     have hlti:¬(i:Int)<(m:Int):=by omega
     go_wp2
     go_roundg g
     case measure=>omega
     case rel=>
      refine⟨k+1,by go_num,by omega,HTi.out,fun k' s hk' hs'=>?_⟩;by_cases e:k'=k
      ·subst e;rw[HS.out]at hs';injection hs' with hs';subst hs';intro b m' c' e9 j hj;injection e9 with e1 e2 e3;subst e2;exact HDi.out.2 j (by omega) b e1
      ·exact(HF.out k' s (by omega) hs').stays HDi.out.1
    |succ g2=>
     have hlti:(i:Int)<(m:Int):=by omega
     have him:i<m:=by omega
     obtain⟨q,cap,cur,e1,hq1,hq2,hq3,hq4,hq5,⟨y0,c0⟩,⟨y1,c1⟩,⟨y2,c2⟩,⟨y3,c3⟩,hfr⟩:=(HTi.out.row HRw.out).open him;injection e1 with e11 e12 e13;clear e12;subst e11 e13;have hic:i<sc:=by omega
     have hzw:wi.heap[w.heap.size]?=some (.cells (zB N) 51 (0,0)):=by rw[HTi.out.keep hS1];exact HZ.out.1
     have z0:wi.cell? ⟨w.heap.size,0,none⟩=some (.int .u8 ((N%251:Nat):Int)):=by rw[aP wi _ 0 (zB N) _ _ hzw];rfl
     have z1:wi.cell? ⟨w.heap.size,1,none⟩=some (.int .u8 ((N/251%251:Nat):Int)):=by rw[aP wi _ 1 (zB N) _ _ hzw];rfl
     have z2:wi.cell? ⟨w.heap.size,2,none⟩=some (.int .u8 ((N/63001%251:Nat):Int)):=by rw[aP wi _ 2 (zB N) _ _ hzw];rfl
     have z3:wi.cell? ⟨w.heap.size,3,none⟩=some (.int .u8 77):=by rw[aP wi _ 3 (zB N) _ _ hzw];rfl
     have f0:=hfr (i*4);have f1:=hfr (i*4+1);have f2:=hfr (i*4+2);have f3:=hfr (i*4+3);have hne:¬g5=q:=fun e=>by
      have h9:=HTi.out.other HC.out (by decide);rw[e,hq5]at h9;injection h9 with h9;injection h9 with _ h9;exact absurd h9 (by decide)
     have hne2:q≠g5:=fun e=>hne e.symm;have hcz:i*4+3<cur.size:=by
      rw[aP wi q _ cur _ _ hq5]at c3;exact(aM.1 c3).1
     have HQ:=Aa (aK hq5 hcz);clear hfr hzw hq5 hcz;have hk0:(0:Int)<=(k:Int):=by omega
     have hi0:(0:Int)<=(i:Int):=by omega
     go_wp2
     go_region_held3 (fun w'=>w'.cell? ⟨w.heap.size,0,none⟩=some (.int .u8 ((N%251:Nat):Int))/\w'.cell? ⟨w.heap.size,1,none⟩=some (.int .u8 ((N/251%251:Nat):Int))/\w'.cell? ⟨w.heap.size,2,none⟩=some (.int .u8 ((N/63001%251:Nat):Int))/\w'.cell? ⟨w.heap.size,3,none⟩=some (.int .u8 77)/\w'.cell? ⟨g5,k,none⟩=some (.slice (some ⟨q,0,none⟩) m sc)) (go_keep) (fail)
     all_goals go_wp2
     go_roundg g2
     case measure=>omega
     case rel=>
      have hms:=Ut (N:=N) (i:=i) HQ.out.1 HQ.out.2;refine⟨i+1,by go_num,by omega,(HTi.out.trans (Df.set4 HQ.out.1 hq1 hq2 _ _ _ _ _ _ _ _)).drew1,HDi.out.1.trans hms.1.drew,fun j hj b hb=>?_⟩;injection hb with hb;injection hb with hb;subst hb;by_cases e:j=i
      ·subst e;exact hms.2.drew9
      ·exact(hms.1 _ _ (HDi.out.2 j (by omega) _ rfl)).drew9
def Ei(w:World)(B o n sz:Nat)(z:Nat->Array Value):Prop:=
 ∃a c,w.cell? ⟨B,o,none⟩=some (.slice a n c)/\(0<n->∃r,a=some ⟨r,0,none⟩/\∀i,i<n->∃v,w.cell? ⟨r,i,none⟩=some v/\∃g c,v=.slice (some ⟨g,0,none⟩) 4 c/\∀k,k<4->∃u,w.cell? ⟨g,k,none⟩=some u/\∃a m c,u=.slice a m c/\m<=1152921504606846976/\(0<m->∃b,a=some ⟨b,0,none⟩/\∀j,j<m->∀o,o<sz->w.cell? ⟨b,j*sz+o,none⟩=(z i)[o]?))
theorem Ao{w wr:World}(h:Below w.heap.size w wr){b j:Nat}{v:Value}(hc:w.cell? ⟨b,j,none⟩=some v):wr.cell? ⟨b,j,none⟩=some v:=
 (aV (h.block b (Ak hc))).trans hc
theorem Sg{B o na nb nc:Nat}(w:World)(h1:Ei w B o na 4 zA)(h2:Ei w B (o+1) nb 4 zB)(h3:Ei w B (o+2) nc 9 zV)(hna:na<=1000000000000)(hnb:nb<=1000000000000)(hnc:nc<=1000000000000):
  Calls prog 25 #[.pointer (some ⟨B,o,none⟩)] w fun e w'=>e=.returned (.bool true)/\Below w.heap.size w w':=by
 obtain⟨aa,ca,c0,hqa⟩:=h1;obtain⟨ab,cb,c1,hqb⟩:=h2;obtain⟨ac,cc,c2,hqc⟩:=h3;have HQA:=Aa hqa;have HQB:=Aa hqb;have HQC:=Aa hqc;clear hqa hqb hqc;go_enter func25,ntmps25
 go_wp2
 go_loopg [3] na (fun gg s wr=>∃i:Nat,s=.int .i64 i/\gg+i=na/\Below w.heap.size w wr)
 case atStart=>exact⟨0,rfl,by omega,aN _ _⟩
 case round=>
 rename World=>wr;obtain⟨i,rfl,hgi,hb⟩:=hrel;have d2:=Ao hb c0;have HB:=Aa hb;clear hb;cases gk with
 |succ g1=>
  have hlt:(i:Int)<(na:Int):=by omega
  obtain⟨r,hr,hv⟩:=HQA.out (by omega);subst hr;obtain⟨v,cv,q,qc,rfl,hk⟩:=hv i (by omega);clear hv;have HK:=Aa hk;clear hk;go_wp2;clear d2
  go_loopg [4] 4 (fun gg s w1=>∃k:Nat,s=.int .i64 k/\gg+k=4/\Below w.heap.size w w1)
  case atStart=>exact⟨0,rfl,by omega,HB.out⟩
  case round=>
  rename World=>w1;obtain⟨k,rfl,hgk,hb1⟩:=hrel;have e2:=Ao hb1 c0;have e3:=Ao hb1 cv;have HB1:=Aa hb1;clear hb1;cases gk with
  |zero=>
   have hlt1:¬(k:Int)<4:=by omega
   go_wp2
   go_roundg g1
   case measure=>omega
   case rel=>exact⟨i+1,by go_num,by omega,HB1.out⟩
  |succ g2=>
  have hlt1:(k:Int)<4:=by omega
  obtain⟨u,cu,ma,m,mc,rfl,hm64,hmc⟩:=HK.out k (by omega);have HM:=Aa hmc;clear hmc;have e4:=Ao HB1.out cu;go_wp2;clear e2 e3 e4
  go_loopg [5] m (fun gg s w2=>∃j:Nat,s=.int .i64 j/\gg+j=m/\Below w.heap.size w w2)
  case atStart=>exact⟨0,rfl,by omega,HB1.out⟩
  case round=>
  rename World=>w2;obtain⟨j,rfl,hgj,hb2⟩:=hrel;have f2:=Ao hb2 c0;have f3:=Ao hb2 cv;have f4:=Ao hb2 cu;have HB2:=Aa hb2;clear hb2;cases gk with
  |zero=>
   have hlt2:¬(j:Int)<(m:Int):=by omega
   go_wp2
   go_roundg g2
   case measure=>omega
   case rel=>exact⟨k+1,by go_num,by omega,HB2.out⟩
  |succ g3=>
  have hlt2:(j:Int)<(m:Int):=by omega
  obtain⟨b,hma,hz⟩:=HM.out (by omega);subst hma;have z0:w2.cell? ⟨b,j*4,none⟩=some (.int .i64 (-7070)):=Ao HB2.out ((hz j (by omega) 0 (by omega)).trans rfl);have z1:w2.cell? ⟨b,j*4+1,none⟩=some (.int .i64 0):=Ao HB2.out ((hz j (by omega) 1 (by omega)).trans rfl);have z2:w2.cell? ⟨b,j*4+2,none⟩=some (.int .i64 0):=Ao HB2.out ((hz j (by omega) 2 (by omega)).trans rfl);have z3:w2.cell? ⟨b,j*4+3,none⟩=some (.int .i64 (i:Int)):=Ao HB2.out ((hz j (by omega) 3 (by omega)).trans rfl);have hs2:w.heap.size<=w2.heap.size:=HB2.out.size;clear hz;go_wp2
  go_roundg g3
  case measure=>omega
  case rel=>exact⟨j+1,by go_num,by omega,HB2.out.alloc hs2 _⟩
 |zero=>
 have hlt:¬(i:Int)<(na:Int):=by omega
 clear d2;have d0:=Ao HB.out c0;have HBp:=HB;go_wp2;clear d0 hlt hgi HB
 go_loopg [7] nb (fun gg s wr=>∃i:Nat,s=.int .i64 i/\gg+i=nb/\Below w.heap.size w wr)
 case atStart=>exact⟨0,rfl,by omega,HBp.out⟩
 case round=>
 rename World=>wr;obtain⟨i,rfl,hgi,hb⟩:=hrel;have d2:=Ao hb c1;have HB:=Aa hb;clear hb;cases gk with
 |succ g1=>
  have hlt:(i:Int)<(nb:Int):=by omega
  obtain⟨r,hr,hv⟩:=HQB.out (by omega);subst hr;obtain⟨v,cv,q,qc,rfl,hk⟩:=hv i (by omega);clear hv;have HK:=Aa hk;clear hk;have HMk:=Aa (Nd i (by omega));have hzz:zB i=#[.int .u8 ((i%251:Nat):Int),.int .u8 ((i/251%251:Nat):Int),.int .u8 ((i/63001%251:Nat):Int),.int .u8 77]:=rfl;obtain⟨p0,hp0⟩:∃p:Int,((i%251:Nat):Int)=p:=⟨_,rfl⟩;obtain⟨p1,hp1⟩:∃p:Int,((i/251%251:Nat):Int)=p:=⟨_,rfl⟩;obtain⟨p2,hp2⟩:∃p:Int,((i/63001%251:Nat):Int)=p:=⟨_,rfl⟩;rw[hp0,hp1,hp2]at hzz;rw[hzz]at HMk;have HZz:=Aa hzz;clear hzz hp0 hp1 hp2;have hsr:=HB.out.size
  go_upto_region 17 with(go_at_call 51;refine(HMk.out _).mono ?_;rintro e wm ⟨rfl,hbm⟩;have HBm:=Aa hbm;clear hbm)
  have hWz:Below w.heap.size w (wm.alloc (.cells #[.int .u8 p0,.int .u8 p1,.int .u8 p2,.int .u8 77] 51)):=(HB.out.trans (HBm.out.mono hsr)).alloc (by have:=HBm.out.size;omega) _;have hZ:Blk (wm.alloc (.cells #[.int .u8 p0,.int .u8 p1,.int .u8 p2,.int .u8 77] 51)) wm.heap.size 51 #[.int .u8 p0,.int .u8 p1,.int .u8 p2,.int .u8 77]:=aR wm _;generalize wm.alloc (.cells #[.int .u8 p0,.int .u8 p1,.int .u8 p2,.int .u8 77] 51)=Wz at*;generalize wm.heap.size=zb at*;have HWz:=Aa (aK hWz hZ);have HC9:Hid (∀V:World,Below Wz.heap.size Wz V->Below w.heap.size w V/\V.cell? ⟨zb,0,none⟩=some (.int .u8 p0)/\V.cell? ⟨zb,1,none⟩=some (.int .u8 p1)/\V.cell? ⟨zb,2,none⟩=some (.int .u8 p2)/\V.cell? ⟨zb,3,none⟩=some (.int .u8 77)):=fun V hV=>by
   have h9:Blk V zb 51 _:=HWz.out.2.keep (hV.block zb (Ab HWz.out.2));exact⟨HWz.out.1.trans (hV.mono HWz.out.1.size),h9.cell 0,h9.cell 1,h9.cell 2,h9.cell 3⟩
  clear d2 hWz hZ HBm;go_wp2
  go_loopg [9] 4 (fun gg s w1=>∃k:Nat,s=.int .i64 k/\gg+k=4/\Below Wz.heap.size Wz w1)
  case atStart=>exact⟨0,rfl,by omega,aN _ _⟩
  case round=>
  rename World=>w1;obtain⟨k,rfl,hgk,hb1⟩:=hrel;have e2:=Ao (HC9.out w1 hb1).1 c1;have e3:=Ao (HC9.out w1 hb1).1 cv;have HB1:=Aa hb1;clear hb1;cases gk with
  |zero=>
   have hlt1:¬(k:Int)<4:=by omega
   go_wp2
   go_roundg g1
   case measure=>omega
   case rel=>exact⟨i+1,by go_num,by omega,(HC9.out w1 HB1.out).1⟩
  |succ g2=>
  have hlt1:(k:Int)<4:=by omega
  obtain⟨u,cu,ma,m,mc,rfl,hm64,hmc⟩:=HK.out k (by omega);have HM:=Aa hmc;clear hmc;have e4:=Ao (HC9.out w1 HB1.out).1 cu;go_wp2;clear e2 e3 e4
  go_loopg [10] m (fun gg s w2=>∃j:Nat,s=.int .i64 j/\gg+j=m/\Below Wz.heap.size Wz w2)
  case atStart=>exact⟨0,rfl,by omega,HB1.out⟩
  case round=>
  rename World=>w2;obtain⟨j,rfl,hgj,hb2⟩:=hrel;obtain⟨hbw,y0,y1,y2,y3⟩:=HC9.out w2 hb2;have f2:=Ao hbw c1;have f3:=Ao hbw cv;have f4:=Ao hbw cu;have HB2:=Aa hb2;clear hb2;cases gk with
  |zero=>
   have hlt2:¬(j:Int)<(m:Int):=by omega
   clear hbw;go_wp2
   go_roundg g2
   case measure=>omega
   case rel=>exact⟨k+1,by go_num,by omega,HB2.out⟩
  |succ g3=>
  have hlt2:(j:Int)<(m:Int):=by omega
  obtain⟨b,hma,hz⟩:=HM.out (by omega);subst hma;rw[HZz.out]at hz;have z0:w2.cell? ⟨b,j*4,none⟩=some (.int .u8 p0):=Ao hbw ((hz j (by omega) 0 (by omega)).trans rfl);have z1:w2.cell? ⟨b,j*4+1,none⟩=some (.int .u8 p1):=Ao hbw ((hz j (by omega) 1 (by omega)).trans rfl);have z2:w2.cell? ⟨b,j*4+2,none⟩=some (.int .u8 p2):=Ao hbw ((hz j (by omega) 2 (by omega)).trans rfl);have z3:w2.cell? ⟨b,j*4+3,none⟩=some (.int .u8 77):=Ao hbw ((hz j (by omega) 3 (by omega)).trans rfl);have hq:=Yh p0 p1 p2 77 p0 p1 p2 77;have hj0:(0:Int)<=(j:Int):=by omega
  have hi0:(0:Int)<=(i:Int):=by omega
  have hk0:(0:Int)<=(k:Int):=by omega
  clear hz hbw
  go_upto_region 23 with fail
  go_quiet (fail)
  go_wp2
  go_roundg g3
  case measure=>omega
  case rel=>exact⟨j+1,by go_num,by omega,cS HB2.out _⟩
 |zero=>
 have hlt:¬(i:Int)<(nb:Int):=by omega
 clear d2;have d0:=Ao HB.out c1;have HBv:=HB;go_wp2;clear d0 hlt hgi HB HBp
 go_loopg [11] nc (fun gg s wr=>∃i:Nat,s=.int .i64 i/\gg+i=nc/\Below w.heap.size w wr)
 case atStart=>exact⟨0,rfl,by omega,HBv.out⟩
 case round=>
 rename World=>wr;obtain⟨i,rfl,hgi,hb⟩:=hrel;have d2:=Ao hb c2;have HB:=Aa hb;clear hb;cases gk with
 |succ g1=>
  have hlt:(i:Int)<(nc:Int):=by omega
  obtain⟨r,hr,hv⟩:=HQC.out (by omega);subst hr;obtain⟨v,cv,q,qc,rfl,hk⟩:=hv i (by omega);clear hv;have HK:=Aa hk;clear hk;go_wp2;clear d2
  go_loopg [12] 4 (fun gg s w1=>∃k:Nat,s=.int .i64 k/\gg+k=4/\Below w.heap.size w w1)
  case atStart=>exact⟨0,rfl,by omega,HB.out⟩
  case round=>
  rename World=>w1;obtain⟨k,rfl,hgk,hb1⟩:=hrel;have e2:=Ao hb1 c2;have e3:=Ao hb1 cv;have HB1:=Aa hb1;clear hb1;cases gk with
  |zero=>
   have hlt1:¬(k:Int)<4:=by omega
   go_wp2
   go_roundg g1
   case measure=>omega
   case rel=>exact⟨i+1,by go_num,by omega,HB1.out⟩
  |succ g2=>
  have hlt1:(k:Int)<4:=by omega
  obtain⟨u,cu,ma,m,mc,rfl,hm64,hmc⟩:=HK.out k (by omega);have HM:=Aa hmc;clear hmc;have e4:=Ao HB1.out cu;go_wp2;clear e2 e3 e4
  go_loopg [13] m (fun gg s w2=>∃j:Nat,s=.int .i64 j/\gg+j=m/\Below w.heap.size w w2)
  case atStart=>exact⟨0,rfl,by omega,HB1.out⟩
  case round=>
  rename World=>w2;obtain⟨j,rfl,hgj,hb2⟩:=hrel;have f2:=Ao hb2 c2;have f3:=Ao hb2 cv;have f4:=Ao hb2 cu;have HB2:=Aa hb2;clear hb2;cases gk with
  |zero=>
   have hlt2:¬(j:Int)<(m:Int):=by omega
   go_wp2
   go_roundg g2
   case measure=>omega
   case rel=>exact⟨k+1,by go_num,by omega,HB2.out⟩
  |succ g3=>
  have hlt2:(j:Int)<(m:Int):=by omega
  obtain⟨b,hma,hz⟩:=HM.out (by omega);subst hma;have z0:w2.cell? ⟨b,j*9,none⟩=some (.int .i64 (-7070)):=Ao HB2.out ((hz j (by omega) 0 (by omega)).trans rfl);have z1:w2.cell? ⟨b,j*9+1,none⟩=some (.int .i64 0):=Ao HB2.out ((hz j (by omega) 1 (by omega)).trans rfl);have z2:w2.cell? ⟨b,j*9+2,none⟩=some (.int .i64 0):=Ao HB2.out ((hz j (by omega) 2 (by omega)).trans rfl);have z3:w2.cell? ⟨b,j*9+3,none⟩=some (.int .i64 (i:Int)):=Ao HB2.out ((hz j (by omega) 3 (by omega)).trans rfl);have z4:w2.cell? ⟨b,j*9+4,none⟩=some (.int .i64 0):=Ao HB2.out ((hz j (by omega) 4 (by omega)).trans rfl);have z5:w2.cell? ⟨b,j*9+5,none⟩=some (.int .i64 0):=Ao HB2.out ((hz j (by omega) 5 (by omega)).trans rfl);have z6:w2.cell? ⟨b,j*9+6,none⟩=some (.int .i64 0):=Ao HB2.out ((hz j (by omega) 6 (by omega)).trans rfl);have z7:w2.cell? ⟨b,j*9+7,none⟩=some (.int .i64 0):=Ao HB2.out ((hz j (by omega) 7 (by omega)).trans rfl);have z8:w2.cell? ⟨b,j*9+8,none⟩=some (.int .i64 0):=Ao HB2.out ((hz j (by omega) 8 (by omega)).trans rfl);have hs2:w.heap.size<=w2.heap.size:=HB2.out.size;clear hz;go_wp2
  go_roundg g3
  case measure=>omega
  case rel=>exact⟨j+1,by go_num,by omega,HB2.out.alloc hs2 _⟩
 |zero=>
 have hlt:¬(i:Int)<(nc:Int):=by omega
 go_wp2;go_ret;exact⟨rfl,HB.out⟩
variable{idx:Nat}{pc:Array Value}{xs:List Value}
theorem LJ.cells(h:LJ w K cv N xs)(hb:w.heap[pb]?=some (.cells pc 69 (0,0)))(hp:pc[idx]?=some cv):Ei w pb idx N 4 zA:=by
 obtain⟨a,c,hf⟩:=Al h.row;refine⟨a,c,(aP w pb idx pc _ _ hb).trans (hp.trans (by rw[hf])),fun hN=>?_⟩;obtain⟨g,cap,e,_,_,_,q,_⟩:=A4.open (S:=fun _=>True) ⟨h.row,fun _ _=>trivial⟩ hN;rw[hf]at e;injection e with e1 e2 e3;subst e1;refine⟨g,rfl,fun i hi=>?_⟩;obtain⟨v,h1,h2⟩:=h.all i hi;obtain⟨g2,c2,cur,h3,h4,h5⟩:=h2;refine⟨v,q i v h1,g2,c2,h3,fun k hk=>?_⟩;obtain⟨u,h6,a,m,c,h7,h8,h9⟩:=h5 k hk;refine⟨u,(aP w g2 k cur _ _ h4).trans h6,a,m,c,h7,h8,fun hm=>?_⟩;obtain⟨b,cb,h10,_,h11,h12⟩:=h9 hm;exact⟨b,h10,fun j hj o ho=>h12 j hj o ho⟩
theorem I7.cells(h:I7 w K cv N xs)(hb:w.heap[pb]?=some (.cells pc 69 (0,0)))(hp:pc[idx]?=some cv):Ei w pb idx N 4 zB:=by
 obtain⟨a,c,hf⟩:=Al h.row;refine⟨a,c,(aP w pb idx pc _ _ hb).trans (hp.trans (by rw[hf])),fun hN=>?_⟩;obtain⟨g,cap,e,_,_,_,q,_⟩:=A4.open (S:=fun _=>True) ⟨h.row,fun _ _=>trivial⟩ hN;rw[hf]at e;injection e with e1 e2 e3;subst e1;refine⟨g,rfl,fun i hi=>?_⟩;obtain⟨v,h1,h2⟩:=h.all i hi;obtain⟨g2,c2,cur,h3,h4,h5⟩:=h2;refine⟨v,q i v h1,g2,c2,h3,fun k hk=>?_⟩;obtain⟨u,h6,a,m,c,h7,h8,h9⟩:=h5 k hk;refine⟨u,(aP w g2 k cur _ _ h4).trans h6,a,m,c,h7,h8,fun hm=>?_⟩;obtain⟨b,cb,h10,_,h11,h12⟩:=h9 hm;exact⟨b,h10,fun j hj o ho=>h12 j hj o ho⟩
theorem LK.cells(h:LK w K cv N xs)(hb:w.heap[pb]?=some (.cells pc 69 (0,0)))(hp:pc[idx]?=some cv):Ei w pb idx N 9 zV:=by
 obtain⟨a,c,hf⟩:=Al h.row;refine⟨a,c,(aP w pb idx pc _ _ hb).trans (hp.trans (by rw[hf])),fun hN=>?_⟩;obtain⟨g,cap,e,_,_,_,q,_⟩:=A4.open (S:=fun _=>True) ⟨h.row,fun _ _=>trivial⟩ hN;rw[hf]at e;injection e with e1 e2 e3;subst e1;refine⟨g,rfl,fun i hi=>?_⟩;obtain⟨v,h1,h2⟩:=h.all i hi;obtain⟨g2,c2,cur,h3,h4,h5⟩:=h2;refine⟨v,q i v h1,g2,c2,h3,fun k hk=>?_⟩;obtain⟨u,h6,a,m,c,h7,h8,h9⟩:=h5 k hk;refine⟨u,(aP w g2 k cur _ _ h4).trans h6,a,m,c,h7,h8,fun hm=>?_⟩;obtain⟨b,cb,h10,_,h11,h12⟩:=h9 hm;exact⟨b,h10,fun j hj o ho=>h12 j hj o ho⟩
end Go.Proofs.YtofinpocigbbeaaGreat
