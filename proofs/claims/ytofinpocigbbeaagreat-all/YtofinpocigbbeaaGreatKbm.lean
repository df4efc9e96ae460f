import Derived.Test.YtofinpocigbbeaaGreatKbl
set_option maxHeartbeats 2000000
set_option maxRecDepth 100000
set_option linter.unusedSimpArgs false
namespace Go.Proofs.YtofinpocigbbeaaGreat
open Go.Proofs.Tryz Go.RowKit
attribute [local go_sem ↓] Go.wp_at_zero Go.wp_at_succ
variable{G:Int->Nat->Value}{blk:Int->Nat}{d:Cv}{sc:Nat}{st:St}{w:World}
theorem Hm(hsc:w.cell? (jA sc 0)=some (pj (blk (-1))))(h:∀V:World,uj w V->Gi V st G blk (-1)):
  Calls prog 41 #[pj sc] w fun e w'=>∃a n c,e=.returned (.agg #[.slice a n c])/\EH w' w.heap.size (.slice a n c) st G (st.visAll (-1))/\uj w w':=by
 obtain⟨pb,hpb⟩:∃pb,blk (-1)=pb:=⟨_,rfl⟩;obtain⟨n,hn⟩:∃n,(st.visAll (-1)).length=n:=⟨_,rfl⟩;have HL:Hid (∀V:World,uj w V->Calls prog 80 #[pj pb,jj] V fun e w'=>∃a c,e=.returned (.slice a n c)/\EH w' V.heap.size (.slice a n c) st G (st.visAll (-1))/\uj V w'):=fun V hV=>by
  have:=h V hV;unfold Gi at this;rw[hpb]at this;refine this.mono ?_;rintro e w' ⟨v,rfl,h1,h2⟩;obtain⟨a,c,hv⟩:=Al h1;rw[hn]at hv;subst hv;exact⟨a,c,rfl,h1,h2⟩
 have hscl:=Ak hsc;have hscn:¬sc=w.heap.size:=Nat.ne_of_lt hscl;rw[hpb]at hsc;clear h hpb hn;go_enter func41,ntmps41
 go_wp2_with(go_at_call 80;refine(HL.out _ ((aN _ _).alloc (aO _) _)).mono ?_;rintro e w1 ⟨va,vc,rfl,h1,h2⟩;have hbk:Blk w1 w.heap.size 95 #[jj]:=(h2.block w.heap.size (by simp)).trans (aR w _);have c0:=hbk.cell 0;have f0:=hbk.has.free 0;simp only[br,bj]at c0;have H1:=Aa (aK h1 (aK h2 hbk));clear h1 h2 hbk)
 obtain⟨h1,h2,h3⟩:=H1.out;have hs2:w.heap.size+1<=w1.heap.size:=by have:=h2.size;simpa using this
 have h4:=h3.set 0 (.slice va n vc);have e0:(w1.setCell (jA w.heap.size 0) (.slice va n vc)).cell? (jA w.heap.size 0)=some (.slice va n vc):=h4.cell 0;exact cU (v:=.agg #[.slice va n vc]) (by simp[results,results41,go_sem,e0]) rfl ⟨va,n,vc,rfl,by
  unfold EH at h1 ⊢;have h5:w1.ownsRow w.heap.size 158 15 (.slice va n vc) (st.visAll (-1)).length ((st.visAll (-1)).flatMap (Id st G)):=⟨h1.1,h1.2.imp id fun⟨g,cap,cur,e1,e2,e3⟩=>⟨g,cap,cur,e1,by simp at e2;omega,e3⟩⟩;refine Ai h5 fun g hg=>aL w1 (jA w.heap.size 0) g _ ?_;have:=(h1.lt g hg).1;simp at this;show g≠w.heap.size;omega,(((aN _ _).alloc (aO _) _).trans (h2.mono (by simp))).setCell (aO _) _⟩
theorem LC(hd:Co d)(i:Nat)(f:Nat->R4):Co (d.painted i f):=by
 have hag:∀(j:Nat) (b:Buf),(d.painted i f).bufs[j]?=some b->∃a,d.bufs[j]?=some a/\b.g=a.g/\b.age<=d.old+1:=fun j b hb=>by
  have hb:(d.bufs.mapIdx fun j b=>if j=i then(⟨b.g,1,f⟩:Buf)else b.older)[j]?=some b:=hb;rw[List.getElem?_mapIdx]at hb;obtain⟨a,ha,rfl⟩:=Option.map_eq_some_iff.1 hb;have:=hd.age a (cH ha);refine⟨a,ha,?_,?_⟩
  ·split
   ·rfl
   ·unfold Buf.older;split<;>rfl
  ·split
   ·show 1<=d.old+1;omega
   ·unfold Buf.older;split<;>(try simp only)<;>omega
 refine⟨hd.w1,hd.h1,?_,?_,?_,fun R hR=>?_,fun b hb=>?_,fun R hR x y hm=>?_,fun j k a b hj hk e=>?_⟩
 ·show 1<=(d.bufs.mapIdx _).length/\(d.bufs.mapIdx _).length<=3;rw[List.length_mapIdx];exact hd.n
 ·show(d.nw+1)%4<4;omega
 ·show(d.dam.set _ _).length=4;rw[bG];exact hd.ln
 ·rcases List.mem_or_eq_of_mem_set hR with hR|rfl
  ·exact hd.good R hR
  ·exact C7
 ·obtain⟨j,hj⟩:=bM.1 hb;obtain⟨a,_,_,h3⟩:=hag j b hj;exact h3
 ·rcases List.mem_or_eq_of_mem_set hR with hR|rfl
  ·exact hd.inside R hR x y hm
  ·simp[Ay]at hm
 ·obtain⟨a',h1,h2,_⟩:=hag j a hj;obtain⟨b',h3,h4,_⟩:=hag k b hk;exact hd.apart j k a' b' h1 h3 (by rw[<-h2,<-h4];exact e)
theorem Da.paint{w1:World}{A B:Nat->Prop}{x:Nat}(hw:Wf st){c:Nat}(h:Da w A B x st d c){mp:Nat}(hr:AR w A x st (BE c) sc mp blk G)(hold:d.old<=4611686018427387904)(hb1:uj w w1)(la:Option Addr)(ln lc:Nat)(hL:EH w1 w.heap.size (.slice la ln lc) st G (st.visAll (-1)))(i:Nat)(hi:i<d.bufs.length)(V0:World)(hV0:uj w1 V0):
  Calls prog 40 #[pj c,vj i,.agg #[.slice la ln lc]] V0 fun e w'=>∃(rv:Value) (O:Rgn),e=.returned (.agg #[rv,vj (DX (fun x y=>(st.picL (st.visAll (-1)) x y).2) (rc O) (rc O).length)])/\AL O/\(∀x y,Ay O x y=d.stale d.bufs[i].age x y)/\AF w' w.heap.size rv (rc O)/\
   Da w' A B x st (d.painted i (BA d.W (rc O) (fun x y=>(st.picL (st.visAll (-1)) x y).1) d.bufs[i].f)) c/\Ac B V0 w':=by
 have hd:=h.ok;have hW:=hd.w1;have hH:=hd.h1;have hbV:uj w V0:=hb1.trans (hV0.mono hb1.size);have hm:=h.keep hbV.size fun g _ hg=>hbV.block g hg;obtain⟨bv,rg,dv,hc⟩:=hm.cv;have hpos:0<d.bufs.length:=by omega
 obtain⟨bg,cap,rfl,hbgS,_⟩:=hc.row.open hpos;have hgB:B d.bufs[i].g:=(hc.pix _ (aZ hi)).1;have hLV:EH V0 w.heap.size (.slice la ln lc) st G (st.visAll (-1)):=Ai hL fun g hg=>hV0.block g (hL.lt g hg).2;obtain⟨pcur,hpc,_⟩:=(hc.pix _ (aZ hi)).2;have hlen:=Cg hw (CC st);refine(Rg hc hm.lb hd hold i hi la ln lc (fun x y=>(st.picL (st.visAll (-1)) x y).1) (fun x y=>(st.picL (st.visAll (-1)) x y).2) (fun x y=>?_) (fun V x y hV hx hy=>?_)).mono ?_
 ·have:=Oa st x y (st.unh (st.visAll (-1)) x y);have hu:(st.unh (st.visAll (-1)) x y).length<=(st.visAll (-1)).length:=by
   unfold St.unh;rw[cC];omega
  unfold St.picL;omega
 ·have hrV:AR V A _ st (BE c) sc mp blk G:=(hr.below hbV).keep fun g hg hl=>hV.block g hl fun e=>h.ap g hg (e▸hgB);have hLV2:EH V w.heap.size (.slice la ln lc) st G (st.visAll (-1)):=Ai hLV fun g hg=>by
   obtain⟨cur,hcur⟩:=Ap hLV hg;refine hV.block g (hLV.lt g hg).2 fun e=>?_;rw[e]at hcur;have:=hcur.symm.trans hpc;simp at this
  refine TO hw hLV2.at (fun j hj=>?_) (by omega) x y (by omega) (by omega);have hjo:=K1 hw (CC st) hj;have dd:=hrV.data j hjo;exact⟨hw.lt hjo,dd.pix.keepS (fun _ _=>trivial) fun _ _ _ _=>rfl,dd.kept.keepS (fun _ _=>trivial) fun _ _ _ _=>rfl⟩
 ·rintro e w' ⟨rv,O,rfl,hG,hM,hrv,⟨dv',hc'⟩,ho⟩;have hsz:=hbV.size;have hs3:=ho.size;have hoB:∀g,CvS c bg rg g\/g=d.bufs[i].g->B g:=fun g hg=>by
   rcases hg with(rfl|rfl|rfl)|rfl
   ·exact hc.own
   ·exact hbgS
   ·exact hc.rown
   ·exact hgB
  refine⟨rv,O,rfl,hG,hM,hrv.lower hsz,⟨?_,⟨_,rg,dv',hc'⟩,LC hd i _,h.dw,h.dh,fun g hg=>aQ (hm.la g hg) hs3,fun g hg=>aQ (hm.lb g hg) hs3,h.ap⟩,ho.mono fun g _ hg=>hoB g hg⟩;exact hm.pane.keep fun g hg hl=>ho.block g hl fun e=>h.ap g hg (hoB g e)
variable{A B S:Nat->Prop}{c x:Nat}
theorem Da.cells(h:Da w A B x st d c):w.cell? (jA x 1)=some (pj c)/\x<w.heap.size:=by
 obtain⟨sc,mp,blk,G,hr⟩:=h.pane;exact⟨hr.scrCells.2.1,hr.scrCells.2.2⟩
theorem Da.has(h:Da w A B x st d c)(i:Int)(V:World)(hV:uj w V):Calls prog 39 #[pj c,vj i] V fun e w'=>e=.returned (.bool (decide (0<=i/\i<d.bufs.length)))/\w'=V:=by
 have hm:=h.keep hV.size fun g _ hg=>hV.block g hg;obtain⟨bv,rg,dv,hc⟩:=hm.cv;have:=h.ok.n;obtain⟨bg,cap,rfl,_⟩:=hc.row.open (by omega);exact WK hc i
theorem MX{w':World}{b:Nat}(hne:¬x=b){u v:Value}(h:w'.cell? (jA x 0)=some u/\w'.cell? (jA x 1)=some v)(p q:Value):((w'.setCell (jA b 0) p).setCell (jA b 1) q).cell? (jA x 0)=some u/\((w'.setCell (jA b 0) p).setCell (jA b 1) q).cell? (jA x 1)=some v:=by
 have e:((w'.setCell (jA b 0) p).setCell (jA b 1) q).heap[x]?=w'.heap[x]? :=by
  rw[aL _ (jA b 1) x _ hne,aL _ (jA b 0) x _ hne]
 rw[aV (w:=w') (a:=(jA x 0)) e,aV (w:=w') (a:=(jA x 1)) e];exact h
def ae(w:World)(e:Ending)(w':World):Prop:=e=.returned (.tuple #[.agg #[jj,vj 0],vj 10])/\uj w w'
theorem Oy(i:Int)(hi:¬(0<=i/\i<d.bufs.length))(w:World)(h:AO w S x st d):
  Calls prog 14 #[pj x,vj i] w (ae w):=by
 obtain⟨A,B,c,h1,h2,h3⟩:=h;obtain⟨x1,xl⟩:=h1.cells;have hxn:¬x=w.heap.size:=Nat.ne_of_lt xl;have HH:=Aa (h1.has i);have hdc:decide (0<=i/\i<d.bufs.length)=false:=cE hi;rw[hdc]at HH;clear h1 h2 h3 hi hdc;go_enter func14,ntmps14
 go_wp2_with(go_at_call 39;refine(HH.out _ ((aN _ _).alloc (aO _) _)).mono ?_;rintro e w1 ⟨rfl,hw1⟩;replace hw1:=hw1.symm;subst hw1)
 exact cU (v:=.tuple #[.agg #[jj,vj 0],vj 10]) (by simp[results,results14,go_sem]) rfl ⟨rfl,(aN _ _).alloc (aO _) _⟩
def VR(d:Cv)(i:Nat)(w:World)(e:Ending)(w':World):Prop:=
 ∃(hi:i<d.bufs.length) (v:Value),e=.returned (.tuple #[v,vj d.bufs[i].age,vj 0])/\w'.ownsRow w.heap.size 51 4 v (d.W*d.H) (Aq (pxL d.bufs[i].f (d.W*d.H)))/\v≠jj/\uj w w'
theorem R6(i:Nat)(hi:i<d.bufs.length)(w:World)(h:AO w S x st d):
  Calls prog 31 #[pj x,vj i] w (VR d i w):=by
 obtain⟨A,B,c,h1,h2,h3⟩:=h;obtain⟨x1,xl⟩:=h1.cells;have HH:=Aa (h1.has i w (aN _ _));have hdc:decide (0<=(i:Int)/\(i:Int)<d.bufs.length)=true:=bQ (by omega);rw[hdc]at HH;obtain⟨bv,rg,dv,hc⟩:=h1.cv;have hn3:=h1.ok.n;obtain⟨bg,cap,rfl,_⟩:=hc.row.open (by omega);obtain⟨n,hn⟩:∃n,d.W*d.H=n:=⟨_,rfl⟩;obtain⟨ag,hag⟩:∃ag,d.bufs[i].age=ag:=⟨_,rfl⟩;have HL:Hid (Calls prog 65 #[pj c,vj i] w fun e w'=>∃a q,e=.returned (.tuple #[.slice a n q,vj ag])/\VR d i w (.returned (.tuple #[.slice a n q,vj ag,vj 0])) w'):=by
  refine(Vj hc h1.ok i hi).mono ?_;rintro e w' ⟨v,rfl,ho,hv,hb⟩;obtain⟨a,q,hvf⟩:=Al ho;rw[hn]at hvf;subst hvf;rw[<-hag];exact⟨a,q,rfl,hi,_,rfl,ho,hv,hb⟩
 clear h1 h2 h3 hc hdc hn hag hi hn3;go_enter func31,ntmps31
 go_wp2_with(first
  |(go_at_call 39;refine HH.out.mono ?_;rintro e w1 ⟨rfl,hw1⟩;replace hw1:=hw1.symm;subst hw1)
  |(go_at_call 65;refine HL.out.mono ?_;rintro e w1 ⟨a,q,rfl,hp⟩;have HP:=Aa hp;clear hp))
 exact cU (v:=.tuple #[.slice a n q,vj ag,vj 0]) (by simp[results,results31,go_sem]) rfl HP.out
theorem Uj(hd:Co d)(i g:Nat)(f:Nat->R4)(hg:∀b∈d.bufs,b.g≠g):Co (d.filled i g f):=by
 refine⟨hd.w1,hd.h1,?_,hd.nw,hd.ln,hd.good,fun b hb=>?_,hd.inside,fun j k a b hj hk e=>?_⟩
 ·show 1<=(d.bufs.set _ _).length/\(d.bufs.set _ _).length<=3;rw[bG];exact hd.n
 ·rcases List.mem_or_eq_of_mem_set hb with hb|rfl
  ·exact hd.age b hb
  ·exact cB _
 ·have hj:(d.bufs.set i ⟨g,0,f⟩)[j]?=some a:=hj;have hk:(d.bufs.set i ⟨g,0,f⟩)[k]?=some b:=hk;rw[bW]at hj hk;by_cases ej:i=j<;>by_cases ek:i=k
  ·omega
  ·rw[if_neg ek]at hk;rw[if_pos ej]at hj;split at hj
   ·injection hj with hj;subst hj;exact absurd e.symm (hg b (cH hk))
   ·cases hj
  ·rw[if_neg ej]at hj;rw[if_pos ek]at hk;split at hk
   ·injection hk with hk;subst hk;exact absurd e (hg a (cH hj))
   ·cases hk
  ·rw[if_neg ej]at hj;rw[if_neg ek]at hk;exact hd.apart j k a b hj hk e
def VS(S:Nat->Prop)(x:Nat)(st:St)(d:Cv)(i:Nat)(l:List R4)(w:World)(e:Ending)(w':World):Prop:=
 e=.returned (vj 0)/\(∃g,AO w' (AA S w w') x st (d.filled i g fun k=>l.getD k (0,0,0,0)))/\Ac S w w'
theorem Mp(i:Nat)(hi:i<d.bufs.length)(l:List R4)(v:Value)(w:World)(h:AO w S x st d)(hv:Bb w v l)(hl:l.length=d.W*d.H):
  Calls prog 16 #[pj x,vj i,v] w (VS S x st d i l w):=by
 obtain⟨A,B,c,h1,h2,h3⟩:=h;obtain⟨x1,xl⟩:=h1.cells;have HH:=Aa (h1.has i w (aN _ _));have hdc:decide (0<=(i:Int)/\(i:Int)<d.bufs.length)=true:=bQ (by omega);rw[hdc]at HH;have hn3:=h1.ok.n;have hW:=h1.ok.w1;have hH:=h1.ok.h1;have hN:d.W*d.H<=576:=bh (cI hW.2 hH.2) (by omega);obtain⟨n,hn⟩:∃n,d.W*d.H=n:=⟨_,rfl⟩;obtain⟨va,vc,hvf,_⟩:=id hv;have HX:Hid (∀V:World,uj w V->V.cell? (jA x 1)=some (pj c)):=fun V hV=>(h1.keep hV.size fun g _ hg=>hV.block g hg).cells.1;have HP:Hid (∀V:World,uj w V->Calls prog 42 #[pj c] V fun e w'=>e=.returned (vj (n:Int))/\uj w w'):=fun V hV=>by
  obtain⟨bv,rg,dv,hc⟩:=(h1.keep hV.size fun g _ hg=>hV.block g hg).cv;have:=K5 hc h1.ok;rw[hn]at this;exact this.mono fun e w' ⟨q1,q2⟩=>⟨q1,hV.trans (q2.mono hV.size)⟩
 have HF:Hid (∀V:World,uj w V->Calls prog 43 #[pj c,vj i,v] V fun e w'=>e=.returned (.tuple #[])/\VS S x st d i l w (.returned (vj 0)) w'):=fun V hV=>by
  have hm:=h1.keep hV.size fun g _ hg=>hV.block g hg;obtain⟨bv,rg,dv,hc⟩:=hm.cv;obtain⟨bg,cap,rfl,hbgS,_⟩:=hc.row.open (by omega);refine(Vk hc h1.ok i hi l v (hv.below hV) hl).mono ?_;rintro e w' ⟨rfl,g,hg1,hg2,hc',ho⟩;have hs1:=hV.size;have hs2:=ho.size;refine⟨rfl,rfl,⟨g,A,AA B V w',c,⟨hm.pane.keep fun b hb hl=>ho.block b hl fun e=>h1.ap b hb (e▸hbgS),⟨_,rg,dv,hc'⟩,Uj h1.ok i g _ (fun b hb e=>?_),h1.dw,h1.dh,fun b hb=>aQ (hm.la b hb) hs2,fun b hb=>?_,fun b hb hb2=>?_⟩,fun b hb=>.inl (h2 b hb),fun b hb=>?_⟩,(Ac.below hV).trans (ho.mono fun b _ hb=>.inl (by rw[hb];exact h3 bg hbgS))⟩
  ·have:=hm.lb b.g (hc.pix b hb).1;omega
  ·rcases hb with hb|hb
   ·exact aQ (hm.lb b hb) hs2
   ·exact hb.2
  ·rcases hb2 with hb2|hb2
   ·exact h1.ap b hb hb2
   ·have:=hm.la b hb;omega
  ·rcases hb with hb|hb
   ·exact .inl (h3 b hb)
   ·exact .inr ⟨by omega,hb.2⟩
 rw[hl,hn]at hvf;have hn9:n<=576:=by omega
 have hnn:((n:Int) != (n:Int))=false:=by simp
 have hi3:(i:Int)<3:=by omega
 clear h1 h2 h3 hdc hn hi hn3 hv hl hN hW hH;subst hvf;go_enter func16,ntmps16
 go_wp2_with(first
  |(go_at_call 39;refine HH.out.mono ?_;rintro e w1 ⟨rfl,hw1⟩;replace hw1:=hw1.symm;subst hw1)
  |(go_at_call 42;refine(HP.out _ (aN _ _)).mono ?_;rintro e w1 ⟨rfl,hb⟩;have y1:=HX.out w1 hb;have HB:=Aa hb;clear hb)
  |(go_at_call 43;refine(HF.out _ HB.out).mono ?_;rintro e w2 ⟨rfl,hp⟩;have HG:=Aa hp;clear hp))
 go_ret;exact HG.out
theorem Qn(B na ca:Nat)(aa:Option Addr)(w:World)(h0:w.cell? (jA B 0)=some (.slice aa na ca))(hna:na<=maxLen)(h:20<na):
  Calls prog 71 #[sj B 1 1] w fun e w'=>e=.returned (vj 2)/\w'=w:=by
 unfold maxLen at hna;have g1:(20:Int)<(na:Int):=by omega
 go_enter func71,ntmps71
 go_wp2;refine wp_loop_rounds 2 ?_;rw[rounds_succ];go_wp2;go_ret;exact⟨rfl,rfl⟩
theorem RX(B:Nat)(la:List (Int×Int×Int×Int))(va:Value)(w:World)(h0:w.cell? (jA B 0)=some va)(ha:As w va la)(hla:la.length<=20):
  Calls prog 71 #[sj B 1 1] w fun e w'=>e=.returned (vj (if la.all AU=true then 0 else 3))/\uj w w':=by
 have HA:=Aa ha;obtain⟨aa,ca,rfl,_⟩:=ha;obtain⟨res,hres⟩:∃r:Int,(if la.all AU=true then 0 else 3)=r:=⟨_,rfl⟩;rw[hres];have HRes:=Aa hres;clear hres;have hB:=Ak h0;obtain⟨na,hna⟩:∃n,la.length=n:=⟨_,rfl⟩;rw[hna]at h0 hla;have HN:=Aa hna;clear hna;have g0:¬(20:Int)<(na:Int):=by omega
 go_enter func71,ntmps71
 go_wp2;refine wp_loop_rounds 2 ?_;rw[rounds_succ];go_wp2;rw[rounds_succ];go_wp2
 go_loopg [21] 1 (fun g s21 wr=>∃k:Nat,s21=vj k/\g+k=1/\(1<=k->la.all AU=true)/\uj w wr)
 case atStart=>exact⟨0,rfl,by omega,fun h=>by omega,aN _ _⟩
 case round=>
  rename World=>wo;rename Nat=>gO;obtain⟨k,rfl,hgk,ok1,hbel⟩:=hrel;cases gO with
  |zero=>
   have hk:k=1:=by omega
   subst hk;have HE:=Aa (aK (ok1 (by omega)) hbel);clear ok1 hbel;go_wp2;go_ret;refine⟨CI ?_,HE.out.2⟩;rw[<-HRes.out,if_pos HE.out.1]
  |succ g=>
   have hk0:k=0:=by omega
   subst hk0;obtain⟨l,n,x,c,hcell,hl,hn,hn20,hsel,hno⟩:∃(l:List (Int×Int×Int×Int)) (n:Nat) (x:Option Addr) (c:Nat),wo.cell? (jA B 0)=some (.slice x n c)/\As w (.slice x n c) l/\l.length=n/\n<=20/\(l.all AU=true->la.all AU=true)/\(l.all AU=false->res=3):=by
    refine⟨la,na,aa,ca,(hbel.cell hB).trans h0,by rw[<-HN.out];exact HA.out,HN.out,hla,fun h=>h,fun h=>?_⟩;rw[<-HRes.out,if_neg];rw[h];simp
   have hzB:=Ak hcell;have HX:=Aa (aK hl (aK hn (aK hsel (aK hno hbel))));clear hl hn hsel hno hbel ok1;go_wp2
   go_loopg [27] n (fun gg s27 wr=>∃q:Nat,s27=vj q/\gg+q=n/\(∀r∈l.take q,AU r=true)/\uj w wr)
   case atStart=>exact⟨0,rfl,by omega,fun r hr=>by simp at hr,HX.out.2.2.2.2⟩
   case round=>
    obtain⟨q,rfl,hgq,hfit,hbr⟩:=hrel;cases gk with
    |zero=>
     have hq:¬(q:Int)<(n:Int):=by omega
     have HY:=Aa (aK hfit hbr);clear hfit hbr;go_wp2
     go_roundg g
     case measure=>omega
     case rel=>
      have hall:l.all AU=true:=by
       rw[cG];have:=HY.out.1;rw[bw (by have:=HX.out.2.1;omega)]at this;exact this
      have hs:=HX.out.2.2.1 hall;exact⟨1,by go_num,by omega,fun _=>hs,HY.out.2⟩
    |succ gq=>
     have hq:(q:Int)<(n:Int):=by omega
     have hqn:q<n:=by omega
     have hql:q<l.length:=by have:=HX.out.2.1;omega
     obtain⟨x',c',hx',hcs⟩:=HX.out.1;have hx2:x=x':=by simp at hx';exact hx'.1
     subst hx2;obtain⟨b,off,rfl,hct⟩:=hcs (by omega);obtain⟨c1,c2,c3,c4⟩:=hct q hql;have hbl:=Ak c1;obtain⟨⟨x0,y0,x1,y1⟩,hr⟩:∃r,l[q]=r:=⟨_,rfl⟩;rw[hr]at c1 c2 c3 c4;simp only at c1 c2 c3 c4;replace c1:=(hbr.cell hbl).trans c1;replace c2:=(hbr.cell hbl).trans c2;replace c3:=(hbr.cell hbl).trans c3;replace c4:=(hbr.cell hbl).trans c4;have hzb:=Ak c1;have hwr:=hbr.size;have hM:=fun W=>Hx x0 y0 x1 y1 W;obtain⟨p,hp⟩:∃p,AU (x0,y0,x1,y1)=p:=⟨_,rfl⟩;rw[hp]at hM;have HY:=Aa (aK hfit (aK hbr (aK hr hp)));clear hfit hbr hr hp hcs hct hx';cases p with
     |true=>
      go_wp2_with(go_at_call 68;refine(hM _).mono ?_;rintro e w' ⟨rfl,rfl⟩)
      go_roundg gq
      case measure=>omega
      case rel=>
       obtain⟨hfit,hbr,hr,hp⟩:=HY.out;refine⟨q+1,by go_num,by omega,fun r hr'=>?_,(hbr.alloc hwr _).alloc (by simp;omega) _⟩;rw[bn hql,hr]at hr';simp at hr';rcases hr' with h|h
       ·exact hfit r h
       ·subst h;exact hp
     |false=>
      go_wp2_with(go_at_call 68;refine(hM _).mono ?_;rintro e w' ⟨rfl,rfl⟩)
      go_ret;obtain⟨hfit,hbr,hr,hp⟩:=HY.out;refine⟨CI ?_,(hbr.alloc hwr _).alloc (by simp;omega) _⟩;refine(HX.out.2.2.2.1 ?_).symm;rw[List.all_eq_false];exact⟨l[q],aZ hql,by rw[hr,hp];simp⟩
theorem Ol(g:Nat)(pa:Option Addr)(pm pk:Nat)(F:Nat->Value)(w:World)(h:B4 w g F):
  Calls prog 72 #[pj g,.agg #[.slice pa pm pk]] w fun e w'=>e=.returned (.tuple #[])/\
   w'=(w.setCell (jA g 24) (.slice pa pm pk)).alloc (.cells #[.slice pa pm pk] 136):=by
 have c24:=h.cell 24 (by omega);have f24:=h.free 24;obtain⟨cur,h1,h2,h3⟩:=h;have hlt:g<w.heap.size:=(aM.1 h1).1;have hgn:¬g=w.heap.size:=by omega
 clear h1 h2 h3;go_enter func72,ntmps72
 go_wp2_with fail
 exact cV (v:=.tuple #[]) (by simp[results,results72]) rfl ⟨rfl,rfl⟩
theorem Om(hw:Wf st)(id:Int)(l:List R4)(v:Value)(w:World){bv:Value}(h:AX w S x st bv)(hv:As w v l)(hlen:l.length<=maxLen):
  Calls prog 37 #[pj x,vj id,v] w (Bl S x bv (BV st id l.length (l.all AU) (AE l)) w):=by
 have hB:=AV hw id;have HE:=Aa (fun(er:Int) (W:World) (hW:uj w W)=>Bl.same (er:=er) h hW);obtain⟨va,vc,hvf⟩:=hv.form;have HV:=Aa hv;obtain⟨sc,mp,blk,G,h⟩:=h;obtain⟨x0,x1,xl⟩:=h.scrCells;unfold BE at x0;have hxn:¬x=w.heap.size:=Nat.ne_of_lt xl;unfold BV;obtain⟨t,ht⟩:∃t,st.isB id=t:=⟨_,rfl⟩;rw[ht]at hB ⊢;cases t with
 |false=>
  rw[if_neg (by simp)];have HS:=Aa (Cc h id (Gg hw ht));clear hB h hvf ht hv;go_enter func37,ntmps37
  go_wp2_with(go_at_call 58;refine HS.out.mono ?_;rintro e w' ⟨rfl,hw'⟩;replace hw':=hw'.symm;subst hw')
  go_ret;exact HE.out 6 _ (aN _ _)
 |true=>
  rw[if_pos rfl];obtain⟨i,rfl,hio⟩:=hB.1 rfl;have hil:=hw.lt hio;rw[aX];have HS:=Aa (Cd h i hio);have kl:=(h.at (Af hio)).2.2;obtain⟨n,hn⟩:∃n,l.length=n:=⟨_,rfl⟩;have hlen2:=hlen;unfold maxLen at hlen2;rw[hn]at hvf hlen hlen2 ⊢;have hA0:uj w (w.alloc (.cells #[v] 33)):=(aN _ _).alloc (aO _) _;by_cases hmany:20<n
  ·rw[if_pos hmany];have HC:Hid (Calls prog 71 #[sj w.heap.size 1 1] (w.alloc (.cells #[v] 33)) fun e w'=>e=.returned (vj 2)/\w'=w.alloc (.cells #[v] 33)):=Qn _ n vc va _ (by rw[aP _ _ 0 _ _ _ (aR w _),hvf];rfl) hlen hmany;have HEn:=Aa (HE.out 2 _ hA0);clear hB h HE hA0 hv;subst hvf;go_enter func37,ntmps37
   go_wp2_with(first
    |(go_at_call 58;refine HS.out.mono ?_;rintro e w' ⟨rfl,hw'⟩;replace hw':=hw'.symm;subst hw')
    |(go_at_call 71;refine HC.out.mono ?_;rintro e w' ⟨rfl,hw'⟩;subst hw'))
   go_ret;exact HEn.out
  ·rw[if_neg hmany];have hv0:As (w.alloc (.cells #[v] 33)) v l:=hv.below hA0;have hc0:(w.alloc (.cells #[v] 33)).cell? (jA w.heap.size 0)=some v:=aP _ _ 0 _ _ _ (aR w _);have hck:=RX w.heap.size l v _ hc0 hv0 (by omega);obtain⟨ok,hok⟩:∃ok,l.all AU=ok:=⟨_,rfl⟩;rw[hok]at hck ⊢;cases ok with
   |false=>
    rw[if_neg (by simp)];rw[if_neg (by simp)]at hck;have HC:Hid (Calls prog 71 #[sj w.heap.size 1 1] (w.alloc (.cells #[v] 33)) fun e w'=>e=.returned (vj 3)/\uj w w'):=hck.mono fun e w' ⟨h1,h2⟩=>⟨h1,hA0.trans (h2.mono hA0.size)⟩;clear hB h hA0 hv hv0 hc0 hck;subst hvf;go_enter func37,ntmps37
    go_wp2_with(first
     |(go_at_call 58;refine HS.out.mono ?_;rintro e w' ⟨rfl,hw'⟩;replace hw':=hw'.symm;subst hw')
     |(go_at_call 71;refine HC.out.mono ?_;rintro e w1 ⟨rfl,hb⟩;have HB:=Aa hb;clear hb))
    go_ret;exact HE.out 3 _ HB.out
   |true=>
    rw[if_pos rfl];rw[if_pos rfl]at hck;have HC:Hid (Calls prog 71 #[sj w.heap.size 1 1] (w.alloc (.cells #[v] 33)) fun e w'=>e=.returned (vj 0)/\uj w w'):=hck.mono fun e w' ⟨h1,h2⟩=>⟨h1,hA0.trans (h2.mono hA0.size)⟩;have HOf:Hid (∀V:World,uj w V->Calls prog 73 #[v] V fun e w'=>∃a m c,e=.returned (.agg #[.slice a m c])/\Calls prog 72 #[pj (blk i),.agg #[.slice a m c]] w' fun e w3=>e=.returned (.tuple #[])/\Bl S x bv (0,upd st i (Jn (AE l))) w (.returned (vj 0)) w3):=fun V hV=>by
     refine(of_out l v V (hv.below hV) (by omega) (fun r hr=>cG.1 hok r hr)).mono ?_;rintro e w' ⟨u,O,rfl,hO,hG,hM,hb'⟩;obtain⟨a,m,c,rfl⟩:=hO.bands.form;have hbw:uj w w':=hV.trans (hb'.mono hV.size);refine⟨a,m,c,rfl,(Ol (blk i) a m c (G i) w' ((h.below hbw).srf i (Af hio))).mono ?_⟩;rintro e w3 ⟨rfl,rfl⟩;have hs1:=hV.size;have hs2:=hb'.size;have h:=(h.below hbw).mono (S':=AA S w w') fun _ hg=>.inl hg;have hs:B4 w' (blk i) (G i):=h.srf i (Af hio);have q:=(h.cells i (Af hio)).nat;have q2:=q.next;have d:=h.data i hio;have ho:S (blk i):=by
      rcases h.own.2.2.2 i (Af hio)with ho|ho
      ·exact ho
      ·omega
     have hr:=h.upd (w':=w'.setCell (jA (blk i) 24) (.slice a m c)) (gf:=Jn (AE l)) hio hil (fun _=>rfl) (fun g hg hne=>by rw[setOther 24 _ g hg hne]) (hs.set 24 _) rfl (Dk.upd hil ⟨q.num,q.par,⟨q.now.w,q.now.h,q.now.pix,q.now.x,q.now.y,q.now.c0,q.now.c1,q.now.c2,q.now.c3,q.now.cut,q.now.hint⟩,⟨q2.w,q2.h,q2.pix,q2.x,q2.y,q2.c0,q2.c1,q2.c2,q2.c3,q2.cut,⟨_,_,_,rfl⟩⟩,q.stk,q.kep⟩) ⟨d.pix,d.hint,d.npix,⟨O,D4.of_out hO fun g h1 h2=>.inr ⟨by omega,h2⟩,hG,hM⟩,d.kw,d.kh,d.kept⟩;refine⟨rfl,rfl,⟨sc,mp,blk,_,(hr.below (al1 (aO _) _)).mono fun g hg=>?_⟩,(((Ac.below hbw).set (.inl ho) _)).alloc _⟩;rcases hg with hg|⟨hg1,hg2⟩
     ·exact .inl hg
     ·exact .inr ⟨hg1,by simp;omega⟩
    obtain⟨gb,hgb⟩:∃gb,blk i=gb:=⟨_,rfl⟩;rw[hgb]at HOf HS;clear hB h hA0 hv hv0 hc0 hck HE HV hgb kl;subst hvf;go_enter func37,ntmps37
    go_wp2_with(first
     |(go_at_call 58;refine HS.out.mono ?_;rintro e w' ⟨rfl,hw'⟩;replace hw':=hw'.symm;subst hw')
     |(go_at_call 71;refine HC.out.mono ?_;rintro e w1 ⟨rfl,hb⟩;have HB:=Aa hb;clear hb)
     |(go_at_call 73;refine(HOf.out _ HB.out).mono ?_;rintro e w2 ⟨oa,om,oc,rfl,hq⟩;have HQ:=Aa hq;clear hq)
     |(go_at_call 72;refine HQ.out.mono ?_;rintro e w3 ⟨rfl,hp⟩;have HP:=Aa hp;clear hp))
    go_ret;exact HP.out
theorem GC(st:St)(id:Int)(n:Nat)(ok:Bool)(f:Int->Int->Bool):(BV st id n ok f).2.w=st.w/\(BV st id n ok f).2.h=st.h:=by
 unfold BV;(repeat' split)<;>exact⟨rfl,rfl⟩
theorem On{d:Cv}(hw:Wf st)(id:Int)(l:List R4)(v:Value)(w:World)(h:AO w S x st d)(hv:As w v l)(hlen:l.length<=maxLen):
  Calls prog 37 #[pj x,vj id,v] w (EM S x d (BV st id l.length (l.all AU) (AE l)) w):=by
 obtain⟨A,B,c,h1,h2,h3⟩:=h;exact(Om hw id l v w h1.pane hv hlen).mono fun e w' hp=>h1.post h2 h3 (GC ..) hp
variable{L ids:List Int}{lv s2:Value}{vb:Nat}{w' wr:World}
def St.stays(st:St)(ids:List Int):List Int:=ids.filter fun i=>st.isB i
theorem AW.new{W H:Int}(hW:1<=W/\W<=24)(hH:1<=H/\H<=24):AW ⟨W,H,[],[]⟩:=by
 have e:∀i,St.sf ⟨W,H,[],[]⟩ i=sf0:=fun i=>rfl;refine⟨⟨fun i=>?_,List.nodup_nil,fun i=>?_,fun i hi=>(by cases hi),(by simp),(by simp),hW,hH,fun i=>?_⟩,fun i hi=>(by cases hi)⟩
 ·rw[e];unfold sf0;simp;omega
 ·simp
 ·rw[e];exact⟨Ix,Ix⟩
theorem Eo(h:AW st)(p:Int):AW (Bo st p).2.2:=by
 unfold Bo;split
 ·rename_i hp
  split
  ·rename_i hl
   refine h.make (hp.imp id fun hb=>?_) hl.1 hl.2;exact(AV h.wf p).1 hb
  ·exact h
 ·exact h
theorem I0(h:AW st)(id:Int):AW (AM st id).2:=by
 unfold AM;split
 ·exact h.rm _
 ·exact h
theorem CU(h:AW st){id:Int}(hb:st.isB id=true):id.toNat∈st.order/\id.toNat<st.sfs.length/\id=(id.toNat:Int):=by
 obtain⟨i,rfl,hi⟩:=(AV h.wf id).1 hb;exact⟨by simpa using hi,by simpa using h.wf.lt hi,by simp⟩
theorem GD(h:AW st)(id:Int):AW (AZ st id).2:=by
 unfold AZ;split
 ·rename_i hb
  exact h.cm (CU h hb).1
 ·exact h
theorem EP(h:AW st)(id x y:Int):AW (Bp st id x y).2:=by
 unfold Bp;split
 ·rename_i hb
  split
  ·rename_i hx
   have q:=(h.wf.lk id.toNat).2;exact h.upd (CU h hb).2.1 (fun _=>rfl) (fun _=>rfl) ⟨(h.wf.lk _).1,⟨q.w,q.h,⟨hx.1,hx.2.1⟩,⟨hx.2.2.1,hx.2.2.2⟩,q.c0,q.c1,q.c2,q.c3,q.pix⟩⟩ (fun _=>⟨rfl,rfl⟩)
  ·exact h
 ·exact h
theorem MY(h:AW st)(id:Int)(r:R4):AW (Dj st id r (AU r)).2:=by
 unfold Dj;split
 ·rename_i hb
  split
  ·rename_i hx
   unfold AU at hx;have hx:=ck hx;have q:=(h.wf.lk id.toNat).2;refine h.upd (CU h hb).2.1 (fun _=>rfl) (fun _=>rfl) ⟨(h.wf.lk _).1,⟨q.w,q.h,q.x,q.y,?_,?_,?_,?_,q.pix⟩⟩ (fun _=>⟨rfl,rfl⟩)<;>(simp only[Jm];omega)
  ·exact h
 ·exact h
theorem Kc(h:AW st)(id:Int):AW (BU st id).2:=by
 unfold BU;split
 ·rename_i hb
  have q:=(h.wf.lk id.toNat).2;refine h.upd (CU h hb).2.1 (fun _=>rfl) (fun _=>rfl) ⟨(h.wf.lk _).1,⟨q.w,q.h,q.x,q.y,?_,?_,?_,?_,q.pix⟩⟩ (fun _=>⟨rfl,rfl⟩)<;>simp[Fh]
 ·exact h
def MZ(l:List R4):Prop:=∀r∈l,(0<=r.1/\0<=r.2.1/\0<=r.2.2.1/\r.2.2.2<=255)
theorem Kd(h:AW st)(id a b:Int)(l:List R4)(hl:MZ l):AW (BJ st id a b l.length (l.all Ef) fun k=>l.getD k (0,0,0,0)).2:=by
 unfold BJ;split
 ·rename_i hb
  split
  ·rename_i hx
   split
   ·rename_i hy
    have q:=(h.wf.lk id.toNat).2;refine h.upd (CU h hb).2.1 (fun _=>rfl) (fun _=>rfl) ⟨(h.wf.lk _).1,⟨⟨hx.1,hx.2.1⟩,⟨hx.2.2.1,hx.2.2.2⟩,q.x,q.y,q.c0,q.c1,q.c2,q.c3,fun k hk=>?_⟩⟩ (fun _=>⟨rfl,rfl⟩);have hk2:k<l.length:=by
     have e:((k:Int))<a*b:=hk;have:=hy.1;omega
    show JS (l.getD k (0,0,0,0));rw[bu,aU hk2];have h1:=hl _ (aZ hk2);have h2:=cG.1 hy.2 _ (aZ hk2);unfold Ef FU at h2;have h2:=ck h2;simp only[Option.getD_some];unfold JS;omega
   ·exact h
  ·exact h
 ·exact h
theorem LE(h:AW st)(id sb:Int)(b:Bool):AW (Cw st id sb b).2:=by
 unfold Cw;split
 ·rename_i hb
  split
  ·rename_i hx
   obtain⟨_,h2,h3⟩:=CU h hb.1;obtain⟨g1,_,g3⟩:=CU h hb.2;have:=h.stack h2 g1 (by omega) hx.2 b;rw[<-g3]at this;exact this
  ·exact h
 ·exact h
theorem M4(h:AW st)(id:Int)(n:Nat)(ok:Bool)(f:Int->Int->Bool):AW (BV st id n ok f).2:=by
 unfold BV;split
 ·rename_i hb
  split
  ·exact h
  ·split
   ·have q:=(h.wf.lk id.toNat).2;exact h.upd (CU h hb).2.1 (fun _=>rfl) (fun _=>rfl) ⟨(h.wf.lk _).1,⟨q.w,q.h,q.x,q.y,q.c0,q.c1,q.c2,q.c3,q.pix⟩⟩ (fun _=>⟨rfl,rfl⟩)
   ·exact h
 ·exact h
theorem UB(i:Int)(hi:¬(0<=i/\i<d.bufs.length))(w:World)(h:AO w S x st d):
  Calls prog 31 #[pj x,vj i] w fun e w'=>e=.returned (.tuple #[jj,vj 0,vj 10])/\uj w w':=by
 obtain⟨A,B,c,h1,h2,h3⟩:=h;obtain⟨x1,xl⟩:=h1.cells;have HH:=Aa (h1.has i w (aN _ _));have hdc:decide (0<=i/\i<d.bufs.length)=false:=cE hi;rw[hdc]at HH;clear h1 h2 h3 hi hdc;go_enter func31,ntmps31
 go_wp2_with(go_at_call 39;refine HH.out.mono ?_;rintro e w1 ⟨rfl,hw1⟩;replace hw1:=hw1.symm;subst hw1)
 exact cU (v:=.tuple #[jj,vj 0,vj 10]) (by simp[results,results31,go_sem]) rfl ⟨rfl,aN _ _⟩
theorem ON(i:Int)(hi:¬(0<=i/\i<d.bufs.length))(v:Value)(w:World)(h:AO w S x st d):
  Calls prog 16 #[pj x,vj i,v] w fun e w'=>e=.returned (vj 10)/\uj w w':=by
 obtain⟨A,B,c,h1,h2,h3⟩:=h;obtain⟨x1,xl⟩:=h1.cells;have HH:=Aa (h1.has i w (aN _ _));have hdc:decide (0<=i/\i<d.bufs.length)=false:=cE hi;rw[hdc]at HH;clear h1 h2 h3 hi hdc;go_enter func16,ntmps16
 go_wp2_with(go_at_call 39;refine HH.out.mono ?_;rintro e w1 ⟨rfl,hw1⟩;replace hw1:=hw1.symm;subst hw1)
 go_ret;exact⟨rfl,aN _ _⟩
theorem Mu(i:Nat)(hi:i<d.bufs.length)(va:Option Addr)(vn vc:Nat)(hv:vn≠d.W*d.H)(w:World)(h:AO w S x st d):
  Calls prog 16 #[pj x,vj i,.slice va vn vc] w fun e w'=>e=.returned (vj 4)/\uj w w':=by
 obtain⟨A,B,c,h1,h2,h3⟩:=h;obtain⟨x1,xl⟩:=h1.cells;have HH:=Aa (h1.has i w (aN _ _));have hdc:decide (0<=(i:Int)/\(i:Int)<d.bufs.length)=true:=bQ (by omega);rw[hdc]at HH;obtain⟨n,hn⟩:∃n,d.W*d.H=n:=⟨_,rfl⟩;have HX:Hid (∀V:World,uj w V->V.cell? (jA x 1)=some (pj c)):=fun V hV=>(h1.keep hV.size fun g _ hg=>hV.block g hg).cells.1;have HP:Hid (∀V:World,uj w V->Calls prog 42 #[pj c] V fun e w'=>e=.returned (vj (n:Int))/\uj w w'):=fun V hV=>by
  obtain⟨bv,rg,dv,hc⟩:=(h1.keep hV.size fun g _ hg=>hV.block g hg).cv;have:=K5 hc h1.ok;rw[hn]at this;exact this.mono fun e w' ⟨q1,q2⟩=>⟨q1,hV.trans (q2.mono hV.size)⟩
 rw[hn]at hv;have hne:¬(vn:Int)=(n:Int):=fun e=>hv (Int.ofNat_inj.1 e);have hne2:((vn:Int) != (n:Int))=true:=bne_iff_ne.2 hne;clear h1 h2 h3 hdc hn hi hv;go_enter func16,ntmps16
 go_wp2_with(first
  |(go_at_call 39;refine HH.out.mono ?_;rintro e w1 ⟨rfl,hw1⟩;replace hw1:=hw1.symm;subst hw1)
  |(go_at_call 42;refine(HP.out _ (aN _ _)).mono ?_;rintro e w1 ⟨rfl,hb⟩;have y1:=HX.out w1 hb;have HB:=Aa hb;clear hb))
 go_ret;exact⟨rfl,HB.out⟩
def ST(S:Nat->Prop)(x:Nat)(st:St)(d:Cv)(i:Nat)(w:World)(e:Ending)(w':World):Prop:=
 ∃(hi:i<d.bufs.length) (rv:Value) (O:Rgn),e=.returned (.tuple #[.agg #[rv,vj (DX (fun x y=>(st.picL (st.visAll (-1)) x y).2) (rc O) (rc O).length)],vj 0])/\AL O/\(∀x y,Ay O x y=d.stale d.bufs[i].age x y)/\AF w' w.heap.size rv (rc O)/\
  AO w' S x st (d.painted i (BA d.W (rc O) (fun x y=>(st.picL (st.visAll (-1)) x y).1) d.bufs[i].f))/\Ac S w w'
theorem LI{S:Nat->Prop}{x:Nat}{st:St}(hw:Wf st){d:Cv}(i:Nat)(hi:i<d.bufs.length)(hold:d.old<=4611686018427387904)(w:World)(h:AO w S x st d):
  Calls prog 14 #[pj x,vj i] w (ST S x st d i w):=by
 obtain⟨A,B,c,h1,h2,h3⟩:=h;obtain⟨x1,xl⟩:=h1.cells;have hxn:¬x=w.heap.size:=Nat.ne_of_lt xl;have hn3:=h1.ok.n;have hi3:(i:Int)<3:=by omega
 obtain⟨sc,mp,blk,G,hr⟩:=h1.pane;have HH:=Aa (h1.has i);have hdc:decide (0<=(i:Int)/\(i:Int)<d.bufs.length)=true:=bQ (by omega);rw[hdc]at HH;have HX:Hid (∀V:World,uj w V->V.cell? (jA x 0)=some (pj sc)/\V.cell? (jA x 1)=some (pj c)):=fun V hV=>let q:=(hr.below hV).scrCells;⟨q.1,q.2.1⟩
 obtain⟨W0,hW0⟩:∃W0,W0=w.alloc (.cells #[jj,vj 0] 35):=⟨_,rfl⟩;have hB0:uj w W0:=by rw[hW0];exact(aN _ _).alloc (aO _) _
 have hk0:Blk W0 w.heap.size 35 #[jj,vj 0]:=by rw[hW0];exact aR w _
 have HP:Hid (∀V:World,uj W0 V->Calls prog 41 #[pj sc] V fun e w1=>∃a n q,e=.returned (.agg #[.slice a n q])/\(uj W0 w1)/\∀V2:World,uj w1 V2->Calls prog 40 #[pj c,vj i,.agg #[.slice a n q]] V2 fun e w'=>∃(ra:Option Addr) (rn rq:Nat) (z:Int),e=.returned (.agg #[.slice ra rn rq,vj z])/\(w'.cell? (jA x 0)=some (pj sc)/\w'.cell? (jA x 1)=some (pj c))/\(Blk w' w.heap.size 35 #[jj,vj 0])/\
   ∀w2:World,w'.heap.size<=w2.heap.size->Ac (fun g=>g=w.heap.size) w' w2->ST S x st d i w (.returned (.tuple #[.agg #[.slice ra rn rq,vj z],vj 0])) w2):=fun V hV=>by
  have hbV:uj w V:=hB0.trans (hV.mono hB0.size);refine(Hm (st:=st) (G:=G) (blk:=blk) (hr.below hbV).sceCells.1 fun V2 hV2=>((hr.below hbV).below hV2).lays hw (CC st)).mono ?_;rintro e w1 ⟨a,n,q,rfl,hL,hb1⟩;have hb01:uj W0 w1:=hV.trans (hb1.mono hV.size);have hs:=hbV.size;refine⟨a,n,q,rfl,hb01,fun V2 hV2=>?_⟩;have hL':EH w1 w.heap.size (.slice a n q) st G (st.visAll (-1)):=⟨hL.1,hL.2.imp id fun⟨g,cap,cur,e1,e2,e3⟩=>⟨g,cap,cur,e1,by omega,e3⟩⟩;refine(h1.paint hw hr hold (hbV.trans (hb1.mono hs)) a n q hL' i hi V2 hV2).mono ?_;rintro e w' ⟨rv,O,rfl,hG,hM,hrv,hfm,ho⟩;obtain⟨ra,rq,hrf⟩:=hrv.form;subst hrf;have hbV2:uj W0 V2:=hb01.trans (hV2.mono hb01.size);have hbw2:uj w V2:=hB0.trans (hbV2.mono hB0.size);have hnB:∀g,w.heap.size<=g->¬B g:=fun g hg hb=>by have:=h1.lb g hb;omega
  have hkB:Blk w' w.heap.size 35 #[jj,vj 0]:=by
   have e1:Blk V2 w.heap.size 35 #[jj,vj 0]:=hk0.keep (hbV2.block _ (Ab hk0));exact e1.keep (ho.block _ (Ab e1) (hnB _ (aO _)))
  refine⟨ra,_,rq,_,rfl,?_,hkB,fun w2 hsz hk2=>?_⟩
  ·have k:=(hr.below hbw2).scrCells;have ex:w'.heap[x]?=V2.heap[x]? :=ho.block x k.2.2 fun hb=>h1.ap x hr.own.1 hb;rw[aV (w:=V2) (a:=(jA x 0)) ex,aV (w:=V2) (a:=(jA x 1)) ex];exact⟨k.1,k.2.1⟩
  ·have hs2:=hbw2.size;have hs3:=ho.size;have hOw:Ac S w w':=(Ac.below hbw2).trans (ho.mono fun g _ hg=>.inl (h3 g hg));refine⟨hi,_,O,rfl,hG,hM,⟨Ai hrv.1 fun g hg=>hk2.block g (hrv.1.lt g hg).2 fun e2=>?_,hrv.2⟩,⟨A,B,c,hfm.keep hsz fun g hg hl=>hk2.block g hl fun e2=>?_,h2,h3⟩,hOw.trans (hk2.mono fun g _ hg=>?_)⟩
   ·obtain⟨cur,hcur⟩:=Ap hrv.1 hg;rw[e2]at hcur;have:=hcur.symm.trans hkB;simp at this
   ·have:g<w.heap.size:=hg.elim (h1.la g) (h1.lb g);omega
   ·rw[hg];exact .inr ⟨aO _,Ab hkB⟩
 have HE0:Hid (uj W0 W0):=aN _ _;have hb0:=hB0;rw[hW0]at HP HE0 hb0;have hx1n:x<w.heap.size:=xl;clear h1 h2 h3 hr hdc hW0 hB0 hk0 hold hi hn3;go_enter func14,ntmps14
 go_upto_region 3 with(go_at_call 39;refine(HH.out _ ((aN _ _).alloc (aO _) _)).mono ?_;rintro e w1 ⟨rfl,hw1⟩;replace hw1:=hw1.symm;subst hw1)
 clear x1
 go_region_held3 (fun w'=>w'.cell? (jA x 0)=some (pj sc)/\w'.cell? (jA x 1)=some (pj c))
  (first
   |(refine HX.out _ ?_;(repeat(first|with_reducible exact aN _ _|with_reducible exact HB1.out|with_reducible refine bD ?_ |with_reducible refine bS ?_ (by first|omega|(simp<;>omega)) _));done)
   |exact HZ.out
   |exact HZ2.out _ _
   |fail)
  (first
   |(go_at_call 41;refine(HP.out _ ?_).mono ?_;(repeat(first|with_reducible exact aN _ _|with_reducible refine bD ?_));rintro e w1 ⟨pa,pn,pq,rfl,hb1,hpt⟩;have HB1:=Aa (hb0.trans (hb1.mono hb0.size));have HPt:=Aa hpt;clear hb1 hpt)
   |(go_at_call 40;refine(HPt.out _ ?_).mono ?_;(repeat(first|with_reducible exact aN _ _|with_reducible refine bD ?_));rintro e w2 ⟨ra,rn,rq,z,rfl,hz,hbk,hen⟩;have HZ:=Aa hz;have HZ2:=Aa (MX hxn hz);have HK:=Aa hbk;have c0:=hbk.cell 0;have c1:=hbk.cell 1;have f0:=hbk.has.free 0;have f1:=hbk.has.free 1;simp only[br,bj,bt]at c0 c1;have HN:=Aa hen;clear hen hz hbk)
   |fail)
 all_goals go_wp2_with fail
 all_goals
  have hk:=HK.out;have h4:=(hk.set 0 (.slice ra rn rq)).set 1 (vj z);have e0:((w2.setCell (jA w.heap.size 0) (.slice ra rn rq)).setCell (jA w.heap.size 1) (vj z)).cell? (jA w.heap.size 0)=some (.slice ra rn rq):=h4.cell 0;have e1:((w2.setCell (jA w.heap.size 0) (.slice ra rn rq)).setCell (jA w.heap.size 1) (vj z)).cell? (jA w.heap.size 1)=some (vj z):=h4.cell 1;exact cU (v:=.tuple #[.agg #[.slice ra rn rq,vj z],vj 0]) (by simp[results,results14,go_sem,e0,e1]) rfl (HN.out _ (by simp) (by refine Ac.set (Ac.set (Ac.refl _ _) (.inl ?_) _) (.inl ?_) _<;>rfl))
variable{O:Rgn}{age i k:Nat}{st':St}{x y:Int}
theorem I2(hf:AW st)(id x y:Int):BY st (Bp st id x y).2:=by
 unfold Bp;split
 ·rename_i hb
  split
  ·exact BY.upd (CU hf hb).2.1 (fun _=>rfl) (fun _=>rfl) fun _=>rfl
  ·exact BY.refl _
 ·exact BY.refl _
theorem I3(hf:AW st)(id:Int)(r:R4)(ok:Bool):BY st (Dj st id r ok).2:=by
 unfold Dj;split
 ·rename_i hb
  split
  ·exact BY.upd (CU hf hb).2.1 (fun _=>rfl) (fun _=>rfl) fun _=>rfl
  ·exact BY.refl _
 ·exact BY.refl _
theorem FJ(hf:AW st)(id:Int):BY st (BU st id).2:=by
 unfold BU;split
 ·rename_i hb
  exact BY.upd (CU hf hb).2.1 (fun _=>rfl) (fun _=>rfl) fun _=>rfl
 ·exact BY.refl _
theorem I4(hf:AW st)(id:Int)(n:Nat)(ok:Bool)(f:Int->Int->Bool):BY st (BV st id n ok f).2:=by
 unfold BV;split
 ·rename_i hb
  split
  ·exact BY.refl _
  ·split
   ·exact BY.upd (CU hf hb).2.1 (fun _=>rfl) (fun _=>rfl) fun _=>rfl
   ·exact BY.refl _
 ·exact BY.refl _
theorem Hb(hf:AW st)(id s:Int)(b:Bool):BY st (Cw st id s b).2:=by
 unfold Cw;split
 ·rename_i hb
  split
  ·exact BY.upd (CU hf hb.1).2.1 (fun _=>rfl) (fun _=>rfl) fun _=>rfl
  ·exact BY.refl _
 ·exact BY.refl _
theorem BY.keptOk(h:BY st st')(hk:CF st):CF st':=fun i k e=>by
 rw[h.kept]at e;rw[h.now];exact hk i k e
theorem JB(hk:CF st)(p:Int):CF (Bo st p).2.2:=by
 unfold Bo;split
 ·split
  ·intro i k e;rw[Dt]at e ⊢;split at e
   ·cases e
   ·rename_i h;rw[if_neg h];exact hk i k e
  ·exact hk
 ·exact hk
theorem GE(hf:AW st)(hk:CF st)(id:Int):CF (AZ st id).2:=by
 unfold AZ;split
 ·rename_i hb
  intro i k e;simp only at e ⊢;rw[MG st _ i (CU hf hb).2.1]at e ⊢;split at e
  ·rename_i h
   rw[if_pos h];have e2:Cn (st.sf id.toNat).next k=true:=e;unfold Cn at e2;rw[Bool.and_eq_true]at e2;exact ck e2.2
  ·rename_i h;rw[if_neg h];exact hk i k e
 ·exact hk
theorem I5(hf:AW st)(hk:CF st)(id:Int):CF (AM st id).2:=by
 unfold AM;split
 ·intro i k e;simp only at e ⊢;rw[Hf st hf.wf]at e ⊢;split at e
  ·rename_i h;rw[if_pos h];exact hk i k e
  ·rename_i h;rw[if_neg h];exact hk i k e
 ·exact hk
end Go.Proofs.YtofinpocigbbeaaGreat
