import Derived.Test.YtofinpocigbbeaaGreatKbb
import Derived.Test.YtofinpocigbbeaaGreatKbl
import Derived.Test.YtofinpocigbbeaaGreatKau
import Derived.StillTailTactics
set_option maxHeartbeats 2000000
set_option maxRecDepth 100000
set_option linter.unusedSimpArgs false
namespace Go.Proofs.YtofinpocigbbeaaGreat
open Go.Proofs.Tryz Go.RowKit
attribute [local go_sem ↓] Go.wp_at_zero Go.wp_at_succ
variable{L:List Nat}{base:Nat}{st:St}{v:Value}{w:World}
theorem DO.at(h:DO w base v st L){k:Nat}(hk:k<L.length):∃g cap,v=sj g L.length cap/\L.length<=cap/\g<w.heap.size/\(∀o u,(C3 st L[k])[o]?=some u->w.cell? (jA g (k*9+o))=some u)/\∃cur,w.heap[g]?=some (.cells cur 59 (0,0)):=by
 obtain⟨g,cap,e1,_,hg⟩:=World.ownsRow.form h (by omega);have hc:=A7 (by have h9:=h;unfold DO at h9;rw[e1]at h9;exact h9);refine⟨g,cap,e1,hc,hg,fun o u hu=>?_,Ap h (k:=g) (by rw[e1];rfl)⟩;have ho:o<9:=(bL.1 hu).1;have:=cj h (g:=g) (by rw[e1];rfl) (k*9+o) u (by
  have key:∀(L:List Nat) (k:Nat) (hk:k<L.length),(L.flatMap (C3 st))[k*9+o]?=(C3 st L[k])[o]? :=by
   intro L;induction L with
   |nil=>intro k hk;simp at hk
   |cons a L ih=>
    intro k hk;rw[ce];have hl:(C3 st a).length=9:=rfl;cases k with
    |zero=>rw[cA (by rw[hl];omega)];simp
    |succ k=>
     rw[bO (by rw[hl];omega),hl,show(k+1)*9+o-9=k*9+o by omega];exact ih k (by simpa using hk)
  rw[key L k hk];exact hu)
 rw[Bn]at this;exact this
theorem DO.keep{w':World}(h:DO w base v st L)(hk:∀g,v.ownBlock=some g->w'.heap[g]?=w.heap[g]?):DO w' base v st L:=Ai h hk
theorem Lk{S:Nat->Prop}{c:Nat}{bv:Value}(hw:Wf st)(x y:Int)(hx:0<=x/\x<=100)(hy:0<=y/\y<=100)(w:World)(h:Aw w S c st bv):
  Calls prog 182 #[pj c,vj x,vj y] w fun e w'=>e=.returned (.agg (Ch (st.picU x y (st.visAll (-1))).1))/\uj w w':=by
 have HVw:Hid (∀V:World,uj w V->Calls prog 93 #[pj c] V (CZ st V)):=fun V hV=>FA hw V (h.keep fun g _ hg=>hV.block g hg);have hDl:=Fz hw (st:=st) (p:= -1) (by omega);rw[Lg];obtain⟨U,hU⟩:∃U,st.vis (st.dfs (-1))=U:=⟨_,rfl⟩;have hUo:∀j∈U,j∈st.order:=fun j hj=>by
  rw[<-hU]at hj;exact Ee hw (p:= -1) (by omega) ((bY.1 hj).1)
 have hUn:U.length<=12:=by
  rw[<-hU];exact bh (ci _ _) hDl
 obtain⟨n,hln⟩:∃n,U.length=n:=⟨_,rfl⟩;have HN:=Aa hln;have HUU:=Aa hU;rw[hU];have HH:Hid (∀(k:Nat) (hk:k<U.length),inR (st.seen U[k]) x y=true->∃(sg sn scap pg pm pcap:Nat) (YW:Int),(∀V:World,uj w V->V.cell? (jA c 3)=some (sj sg sn scap)/\V.cell? (jA sg (U[k]*28+4))=some (sj pg pm pcap)/\V.cell? (jA pg (st.ixAt U[k] x y*4))=some (.int .u8 ((st.sf U[k]).now.pix (st.ixAt U[k] x y)).1)/\V.cell? (jA pg (st.ixAt U[k] x y*4+1))=some (.int .u8 ((st.sf U[k]).now.pix (st.ixAt U[k] x y)).2.1)/\V.cell? (jA pg (st.ixAt U[k] x y*4+2))=some (.int .u8 ((st.sf U[k]).now.pix (st.ixAt U[k] x y)).2.2.1)/\V.cell? (jA pg (st.ixAt U[k] x y*4+3))=some (.int .u8 ((st.sf U[k]).now.pix (st.ixAt U[k] x y)).2.2.2))/\U[k]<sn/\sn<=scap/\st.ixAt U[k] x y<pm/\pm<=pcap/\c<w.heap.size/\sg<w.heap.size/\pg<w.heap.size/\Gq ((st.sf U[k]).now.pix (st.ixAt U[k] x y))/\(y-st.py U[k])*(st.sf U[k]).now.w=YW/\0<=YW/\YW<=576/\((st.ixAt U[k] x y:Nat):Int)=YW+(x-st.px U[k])/\0<=y-st.py U[k]/\y-st.py U[k]<24/\0<=x-st.px U[k]/\x-st.px U[k]<24/\sn<=100):=fun k hk hin=>by
  obtain⟨j,hj⟩:∃j,U[k]=j:=⟨_,rfl⟩;have hjo:j∈st.order:=by rw[<-hj];exact hUo _ (aZ hk)
  rw[hj]at hin ⊢;have hjl:=hw.lt hjo;have hmd:=hw.made;obtain⟨sv,ov,F,hr,hs⟩:=h;obtain⟨k0,k1,k2,k3,k4,kf,kl⟩:=hr.cells;obtain⟨sg,scap,es,_,hscap,hsgl,scs,_⟩:=hr.at (by omega);subst es;have hR:=hs.rel j hjl;have hix:=G5 hw hin;have lk:=(hw.lk j).1;have hwh:=Int.mul_nonneg lk.w.1 lk.h.1;have hnn:((st.sf j).now.n:Int)=(st.sf j).now.w*(st.sf j).now.h:=by unfold Dm.n;omega
  obtain⟨pg,pcap,pm,hp,hpm,hpc,hpl,q0,q1,q2,q3⟩:=(hs.pixN j hjl).at (k:=st.ixAt j x y) (by omega);have d4:=scs j hjl 4 (by omega);rw[hp]at d4;obtain⟨i1,i2,i3,i4,i5,i6,i7,i8,i9⟩:=P1 hw hin;exact⟨sg,_,scap,pg,pm,pcap,_,fun V hV=>⟨(hV.cell (p:=(jA c 3)) kl).trans k3,(hV.cell (p:=(jA sg (j*28+4))) hsgl).trans d4,(hV.cell (p:=(jA pg _)) hpl).trans q0,(hV.cell (p:=(jA pg _)) hpl).trans q1,(hV.cell (p:=(jA pg _)) hpl).trans q2,(hV.cell (p:=(jA pg _)) hpl).trans q3⟩,hjl,hscap,by omega,hpc,kl,hsgl,hpl,(lk.pix _ (by omega)).byte,rfl,i8,i9,i1,i2,i3,i4,i5,by omega⟩
 have HPlim:Hid (∀k (hk:k<U.length),(-100000<=st.px U[k]/\st.px U[k]<=100000)/\(-100000<=st.py U[k]/\st.py U[k]<=100000)):=fun k hk=>by
  have hjl:=hw.lt (hUo _ (aZ hk));have pl:=EU hw (U[k]:Int) (by omega);omega
 have HOk:=Aa (Oa st x y);have hx0:=hx.1;have hx1:=hx.2;have hy0:=hy.1;have hy1:=hy.2;rw[hln]at hUn;obtain⟨hcl,hcT⟩:c<w.heap.size/\∃cur,w.heap[c]?=some (.cells cur 202 (0,0)):=by
  obtain⟨sv,ov,F,hr,hs⟩:=h;exact⟨(aM.1 hr.scr).1,_,hr.scr⟩
 clear h hln hU hUo hx hy hDl hcT;go_enter func182,ntmps182
 have HA1:Hid (AtM w ((w.alloc (.cells #[.int .u8 0,.int .u8 0,.int .u8 0,.int .u8 0] 51)).alloc (.cells #[.int .u8 0,.int .u8 0,.int .u8 0,.int .u8 255] 51)) w.heap.size (w.heap.size+1) (0,0,0,255)):=by
  refine⟨al2 (aO _) _ _,Ax.alloc (Ax.new w _ _) _,?_,aO _,by omega⟩;have e:(w.alloc (.cells #[.int .u8 0,.int .u8 0,.int .u8 0,.int .u8 0] 51)).heap.size=w.heap.size+1:=by simp
  rw[<-e];exact aR _ _
 go_wp2_with(go_at_call 93;refine(HVw.out _ HA1.out.bel).mono ?_;rintro e w2 ⟨u,rfl,hu,hb2⟩;have HM2:=Aa (HA1.out.below hb2);rw[HUU.out]at hu;obtain⟨ua,uc,huf⟩:=Al hu;rw[HN.out]at huf;subst huf;have HU2:=Aa hu;clear hb2 hu)
 have HU0:Hid (DO w2 0 (.slice ua n uc) st U):=⟨HU2.out.1,HU2.out.2.imp id fun⟨g,cap,cur,e1,_,e3⟩=>⟨g,cap,cur,e1,cB _,e3⟩⟩
 go_loopg [9] n (fun gg s9 wr=>∃k:Nat,s9=vj k/\gg+k=n/\AtM w wr w.heap.size (w.heap.size+1) (st.picU x y (U.take k)).1/\DO wr 0 (.slice ua n uc) st U)
 case atStart=>exact⟨0,rfl,by omega,HM2.out,HU0.out⟩
 case round=>
  rename World=>wr;obtain⟨k,rfl,hgk,hAt,hla⟩:=hrel;obtain⟨o1,o2,o3⟩:=HOk.out (U.take k);have HP:=Aa (aK hAt hla);obtain⟨P,hP⟩:∃P,(st.picU x y (U.take k)).1=P:=⟨_,rfl⟩;rw[hP]at o1 HP hAt;have p0:wr.cell? (jA (w.heap.size+1) 0)=some (.int .u8 P.1):=hAt.out.cell 0;have p1:wr.cell? (jA (w.heap.size+1) 1)=some (.int .u8 P.2.1):=hAt.out.cell 1;have p2:wr.cell? (jA (w.heap.size+1) 2)=some (.int .u8 P.2.2.1):=hAt.out.cell 2;have p3:wr.cell? (jA (w.heap.size+1) 3)=some (.int .u8 P.2.2.2):=hAt.out.cell 3;have hol:=Ak p0;have hrl:=hAt.res.lt;have HPe:=Aa hP;clear hP o2 o3;cases gk with
  |zero=>
   have hlt:¬(k:Int)<(n:Int):=by omega
   obtain⟨⟨q0,r0⟩,⟨q1,r1⟩,⟨q2,r2⟩,⟨q3,r3⟩⟩:=aK (hAt.res.cell 0 (by omega)) (aK (hAt.res.cell 1 (by omega)) (aK (hAt.res.cell 2 (by omega)) (hAt.res.cell 3 (by omega))));have z0:=hAt.res.free 0;have z1:=hAt.res.free 1;have z2:=hAt.res.free 2;have z3:=hAt.res.free 3;have HF:Hid (Value.agg #[.int .u8 P.1,.int .u8 P.2.1,.int .u8 P.2.2.1,.int .u8 P.2.2.2]=.agg (Ch (st.picU x y U).1)):=by
    unfold Hid;have hfull:U.take k=U:=bw (by have:=HN.out;omega);have:=HPe.out;rw[hfull]at this;rw[this];rfl
   have HBl:Hid (∀u0 u1 u2 u3,uj w ((((wr.setCell (jA w.heap.size 0) u0).setCell (jA w.heap.size 1) u1).setCell (jA w.heap.size 2) u2).setCell (jA w.heap.size 3) u3)):=fun u0 u1 u2 u3=>CO hAt.bel (by omega) _ _ _ _;clear hAt hla
   go_wp2_with fail
   refine cU (v:=.agg #[.int .u8 P.1,.int .u8 P.2.1,.int .u8 P.2.2.1,.int .u8 P.2.2.2]) (by simp[results,results182,go_sem,r0,r1,r2,r3]) rfl ⟨congrArg Ending.returned HF.out,HBl.out _ _ _ _⟩
  |succ gk=>
   have hlt:(k:Int)<(n:Int):=by omega
   have hkU:k<U.length:=by have:=HN.out;omega
   obtain⟨vg,vcap,hvf,hvc,hvl,hvcs,vcur,hvt⟩:=hla.at hkU;rw[HN.out]at hvf hvc;injection hvf with hv1 hv2 hv3;subst hv1 hv3;have hnx:=MN (st:=st) (x:=x) (y:=y) hkU;have hHk:=HH.out k hkU;have hPl:=HPlim.out k hkU;have v0:=hvcs 0 _ rfl;have v1:=hvcs 1 _ rfl;have v2:=hvcs 2 _ rfl;have v3:=hvcs 3 _ rfl;have v5:=hvcs 5 _ rfl;have v6:=hvcs 6 _ rfl;have v7:=hvcs 7 _ rfl;have v8:=hvcs 8 _ rfl;rw[Nat.add_zero]at v0;obtain⟨j,hj⟩:∃j,U[k]=j:=⟨_,rfl⟩;rw[hj]at hnx hHk hPl v0 v1 v2 v3 v5 v6 v7 v8;unfold St.lay1 at hnx;obtain⟨R,hR⟩:∃R,st.seen j=R:=⟨_,rfl⟩;rw[hR]at hnx hHk v5 v6 v7 v8;obtain⟨q,hq⟩:∃q,st.ixAt j x y=q:=⟨_,rfl⟩;obtain⟨Q,hQ⟩:∃Q,(st.sf j).now.pix q=Q:=⟨_,rfl⟩;rw[hq,hQ]at hnx hHk;obtain⟨PX,hPX⟩:∃p,st.px j=p:=⟨_,rfl⟩;obtain⟨PY,hPY⟩:∃p,st.py j=p:=⟨_,rfl⟩;obtain⟨NW,hNW⟩:∃p,(st.sf j).now.w=p:=⟨_,rfl⟩;rw[hPX]at hHk hPl v1;rw[hPY]at hHk hPl v2;rw[hNW]at hHk v3;have HHas:Hid (∀V:World,Blk V wr.heap.size 53 #[vj R.1,vj R.2.1,vj R.2.2.1,vj R.2.2.2]->Calls prog 122 #[sj wr.heap.size 1 1,vj x,vj y] V fun e w'=>e=.returned (.bool (inR R x y))/\w'=V):=fun V hV=>by
    have:=DK [R] (sj wr.heap.size 1 1) x y V ⟨_,_,rfl,fun _=>⟨_,_,rfl,fun i hi=>by
     have:i=0:=by simp at hi;exact hi
     subst this;exact⟨hV.cell 0,hV.cell 1,hV.cell 2,hV.cell 3⟩⟩⟩ (by simp[maxLen])
    rw[show AE [R] x y=inR R x y by simp[AE]]at this;exact this
   obtain⟨t,ht⟩:∃t,inR R x y=t:=⟨_,rfl⟩;rw[ht]at HHas hnx hHk;have HNx:=Aa hnx;have hkc:k<uc:=by omega
   have hvl1:=hvl;clear hnx hR hq hQ hPX hPY hNW ht hj hvcs hAt HH HPlim HVw;have hvo:vg≠w.heap.size+1:=Aj hvt HP.out.1.out (by decide);cases t with
   |false=>
    rw[if_neg (by simp)]at HNx
    go_wp2_with(go_at_call 122;refine(HHas.out _ (aR wr _)).mono ?_;rintro e w' ⟨rfl,hw'⟩;replace hw':=hw'.symm;subst hw')
    go_roundg gk
    case measure=>omega
    case rel=>
     refine⟨k+1,by go_num,by omega,?_,HP.out.2.keep fun g hg=>Ad wr _ g (HP.out.2.lt g hg).2⟩;rw[HNx.out,HPe.out];exact HP.out.1.below (al1 (aO _) _)
   |true=>
    rw[if_pos rfl]at HNx;obtain⟨sg,sn,scap,pg,pm,pcap,YW,hcells,b1,b2,b3,b4,b5,b6,b7,hQb,b8,b9,b10,b11,b12,b13,b14,b15,b16⟩:=hHk rfl;have HF:Hid (∀V:World,(∀g,g<wr.heap.size->g≠w.heap.size+1->V.heap[g]?=wr.heap[g]?)->V.cell? (jA c 3)=some (sj sg sn scap)/\V.cell? (jA vg (k*9))=some (vj (j:Int))/\V.cell? (jA vg (k*9+1))=some (vj PX)/\V.cell? (jA vg (k*9+2))=some (vj PY)/\V.cell? (jA vg (k*9+3))=some (vj NW)/\V.cell? (jA sg (j*28+4))=some (sj pg pm pcap)/\V.cell? (jA pg (q*4))=some (.int .u8 Q.1)/\V.cell? (jA pg (q*4+1))=some (.int .u8 Q.2.1)/\V.cell? (jA pg (q*4+2))=some (.int .u8 Q.2.2.1)/\V.cell? (jA pg (q*4+3))=some (.int .u8 Q.2.2.2)):=fun V hV=>by
     have hsz:=HP.out.1.bel.size;obtain⟨d1,d2,d3,d4,d5,d6⟩:=hcells wr HP.out.1.bel;have e:∀b o,b<wr.heap.size->b≠w.heap.size+1->V.cell? (jA b o)=wr.cell? (jA b o):=fun b o h1 h2=>aV (a:=(jA b o)) (hV b h1 h2);exact⟨(e _ _ (by omega) (by omega)).trans d1,(e _ _ hvl hvo).trans v0,(e _ _ hvl hvo).trans v1,(e _ _ hvl hvo).trans v2,(e _ _ hvl hvo).trans v3,(e _ _ (by omega) (by omega)).trans d2,(e _ _ (by omega) (by omega)).trans d3,(e _ _ (by omega) (by omega)).trans d4,(e _ _ (by omega) (by omega)).trans d5,(e _ _ (by omega) (by omega)).trans d6⟩
    have HLd:=Aa (fun V=>Px Q.1 Q.2.1 Q.2.2.1 Q.2.2.2 P.1 P.2.1 P.2.2.1 P.2.2.2 V hQb.1 hQb.2.1 hQb.2.2.1 hQb.2.2.2 o1.1 o1.2.1 o1.2.2.1 o1.2.2.2);have x1:IntKind.i64.wrap (y-PY)=y-PY:=by rw[bB];omega
    have x2:IntKind.i64.wrap ((y-PY)*NW)=YW:=by rw[bB];omega
    have x3:IntKind.i64.wrap (YW+x)=YW+x:=by rw[bB];omega
    have x4:IntKind.i64.wrap (YW+x-PX)=(q:Int):=by rw[bB];omega
    have hjn:(j:Int)<(sn:Int):=by omega
    have hj0:(0:Int)<=(j:Int):=by omega
    have hjc:j<scap:=by omega
    have hqm:(q:Int)<(pm:Int):=by omega
    have hq0:(0:Int)<=(q:Int):=by omega
    have hqc:q<pcap:=by omega
    have HSt:Hid (∀V:World,uj wr V->AtM w ((((V.setCell (jA (w.heap.size+1) 0) (.int .u8 (mix Q.1 P.1 Q.2.2.2))).setCell (jA (w.heap.size+1) 1) (.int .u8 (mix Q.2.1 P.2.1 Q.2.2.2))).setCell (jA (w.heap.size+1) 2) (.int .u8 (mix Q.2.2.1 P.2.2.1 Q.2.2.2))).setCell (jA (w.heap.size+1) 3) (.int .u8 (mix Q.2.2.2 P.2.2.2 Q.2.2.2))) w.heap.size (w.heap.size+1) (Gp Q P)/\DO ((((V.setCell (jA (w.heap.size+1) 0) (.int .u8 (mix Q.1 P.1 Q.2.2.2))).setCell (jA (w.heap.size+1) 1) (.int .u8 (mix Q.2.1 P.2.1 Q.2.2.2))).setCell (jA (w.heap.size+1) 2) (.int .u8 (mix Q.2.2.1 P.2.2.1 Q.2.2.2))).setCell (jA (w.heap.size+1) 3) (.int .u8 (mix Q.2.2.2 P.2.2.2 Q.2.2.2))) 0 (sj vg n uc) st U):=fun V hV=>by
     have h1:=HP.out.1.below hV;refine⟨h1.store (Gp Q P),HP.out.2.keep fun g hg=>?_⟩;have hgv:g=vg:=by simp[Value.ownBlock]at hg;exact hg.symm
     rw[hgv];exact(Cu hvo _ _ _ _).trans (hV.block vg hvl)
    have HCe:Hid (∀V:World,uj wr V->V.cell? (jA (w.heap.size+1) 0)=some (.int .u8 P.1)/\V.cell? (jA (w.heap.size+1) 1)=some (.int .u8 P.2.1)/\V.cell? (jA (w.heap.size+1) 2)=some (.int .u8 P.2.2.1)/\V.cell? (jA (w.heap.size+1) 3)=some (.int .u8 P.2.2.2)/\(∀j,V.frozen? (jA (w.heap.size+1) j)=false)/\w.heap.size+1<V.heap.size):=fun V hV=>⟨(hV.cell (p:=(jA (w.heap.size+1) 0)) hol).trans p0,(hV.cell (p:=(jA (w.heap.size+1) 1)) hol).trans p1,(hV.cell (p:=(jA (w.heap.size+1) 2)) hol).trans p2,(hV.cell (p:=(jA (w.heap.size+1) 3)) hol).trans p3,fun j=>(HP.out.1.below hV).out.has.free j,aQ hol hV.size⟩;clear hcells b8 b9 b10 b11 b12 b13 b14 b15 hHk hPl hQb o1 HN HUU HU0 HU2 HM2 HA1 HOk
    go_upto_region 8 with(go_at_call 122;refine(HHas.out _ (aR wr _)).mono ?_;rintro e w' ⟨rfl,hw'⟩;replace hw':=hw'.symm;subst hw')
    have hb1:uj wr (wr.alloc (.cells #[vj R.1,vj R.2.1,vj R.2.2.1,vj R.2.2.2] 53)):=al1 (aO _) _;generalize wr.alloc (.cells #[vj R.1,vj R.2.1,vj R.2.2.1,vj R.2.2.2] 53)=W1 at*;obtain⟨s0,s1,s2,s3,sf,sl⟩:=HCe.out W1 hb1;obtain⟨g1,g2,g3,g4,g5,g6,g7,g8,g9,g10⟩:=HF.out W1 fun g hg _=>hb1.block g hg;have HB1:=Aa hb1;clear hb1 sf p0 p1 p2 p3 v0 v1 v2 v3 v5 v6 v7 v8 HHas
    go_still_tail 37,(by kernel_rfl)
    go_wp2_with(go_at_call 178;refine(HLd.out _).mono ?_;rintro e w5 ⟨rfl,hb5⟩;have HB5:=Aa (HB1.out.drew.trans (hb5.mono HB1.out.drew.size));obtain⟨t0,t1,t2,t3,tf,tl⟩:=HCe.out w5 HB5.out;have f0:=tf 0;have f1:=tf 1;have f2:=tf 2;have f3:=tf 3;clear hb5 tf)
    go_roundg gk
    case measure=>omega
    case rel=>
     refine⟨k+1,by go_num,by omega,?_,(HSt.out _ HB5.out).2⟩;have hov:(st.picU x y (U.take (k+1))).1=Gp Q P:=by rw[HNx.out,HPe.out]
     rw[hov];exact(HSt.out _ HB5.out).1
theorem Mc{S:Nat->Prop}{c:Nat}{st:St}{bv:Value}(hw:Wf st)(x y:Int)(hx:0<=x/\x<=100)(hy:0<=y/\y<=100)(w:World)(h:Aw w S c st bv):
  Calls prog 183 #[pj c,vj x,vj y] w fun e w'=>e=.returned (vj (st.picL (st.visAll (-1)) x y).2)/\uj w w':=by
 have HVw:Hid (Calls prog 93 #[pj c] w (CZ st w)):=FA hw w h;have hDl:=Fz hw (st:=st) (p:= -1) (by omega);rw[Lg,P2];obtain⟨U,hU⟩:∃U,st.vis (st.dfs (-1))=U:=⟨_,rfl⟩;have hUo:∀j∈U,j∈st.order:=fun j hj=>by
  rw[<-hU]at hj;exact Ee hw (p:= -1) (by omega) ((bY.1 hj).1)
 have hUn:U.length<=12:=by
  rw[<-hU];exact bh (ci _ _) hDl
 obtain⟨n,hln⟩:∃n,U.length=n:=⟨_,rfl⟩;have HN:=Aa hln;have HUU:=Aa hU;rw[hU];have HH:Hid (∀(k:Nat) (hk:k<U.length),inR (st.seen U[k]) x y=true->∃(sg sn scap pg pm pcap:Nat) (YW:Int),(∀V:World,uj w V->V.cell? (jA c 3)=some (sj sg sn scap)/\V.cell? (jA sg (U[k]*28+27))=some (sj pg pm pcap)/\V.cell? (jA pg (st.ixAt U[k] x y))=some (.bool (st.hidesAt x y U[k])))/\U[k]<sn/\sn<=scap/\st.ixAt U[k] x y<pm/\pm<=pcap/\(y-st.py U[k])*(st.sf U[k]).now.w=YW/\0<=YW/\YW<=576/\((st.ixAt U[k] x y:Nat):Int)=YW+(x-st.px U[k])/\0<=y-st.py U[k]/\y-st.py U[k]<24/\0<=x-st.px U[k]/\x-st.px U[k]<24/\sn<=100):=fun k hk hin=>by
  obtain⟨j,hj⟩:∃j,U[k]=j:=⟨_,rfl⟩;have hjo:j∈st.order:=by rw[<-hj];exact hUo _ (aZ hk)
  rw[hj]at hin ⊢;have hjl:=hw.lt hjo;have hmd:=hw.made;obtain⟨sv,ov,F,hr,hs⟩:=h;obtain⟨k0,k1,k2,k3,k4,kf,kl⟩:=hr.cells;obtain⟨sg,scap,es,_,hscap,hsgl,scs,_⟩:=hr.at (by omega);subst es;have hix:=G5 hw hin;have lk:=(hw.lk j).1;have hwh:=Int.mul_nonneg lk.w.1 lk.h.1;have hnn:((st.sf j).now.n:Int)=(st.sf j).now.w*(st.sf j).now.h:=by unfold Dm.n;omega
  obtain⟨pg,pcap,pm,hp,hpm,hpc,_,hpl,q0,_⟩:=(hs.dat j hjl).kept.at (q:=st.ixAt j x y) (by omega);have d4:=scs j hjl 27 (by omega);rw[hp]at d4;have hh:st.hidesAt x y j=(st.sf j).kept (st.ixAt j x y):=by unfold St.hidesAt;rw[hin];rfl
  rw[hh];obtain⟨i1,i2,i3,i4,i5,i6,i7,i8,i9⟩:=P1 hw hin;exact⟨sg,_,scap,pg,pm,pcap,_,fun V hV=>⟨(hV.cell (p:=(jA c 3)) kl).trans k3,(hV.cell (p:=(jA sg (j*28+27))) hsgl).trans d4,(hV.cell (p:=(jA pg _)) hpl).trans q0⟩,hjl,hscap,by omega,hpc,rfl,i8,i9,i1,i2,i3,i4,i5,by omega⟩
 have HPlim:Hid (∀k (hk:k<U.length),(-100000<=st.px U[k]/\st.px U[k]<=100000)/\(-100000<=st.py U[k]/\st.py U[k]<=100000)):=fun k hk=>by
  have hjl:=hw.lt (hUo _ (aZ hk));have pl:=EU hw (U[k]:Int) (by omega);omega
 have hx0:=hx.1;have hx1:=hx.2;have hy0:=hy.1;have hy1:=hy.2;rw[hln]at hUn;have hcl:c<w.heap.size:=by
  obtain⟨sv,ov,F,hr,hs⟩:=h;exact(aM.1 hr.scr).1
 clear h hln hU hUo hx hy hDl;go_enter func183,ntmps183
 go_wp2_with(go_at_call 93;refine HVw.out.mono ?_;rintro e w2 ⟨u,rfl,hu,hb2⟩;rw[HUU.out]at hu;obtain⟨ua,uc,huf⟩:=Al hu;rw[HN.out]at huf;subst huf;have HU2:=Aa hu;have HB2:=Aa hb2;clear hb2 hu)
 go_loopg [7,9] n (fun gg s7 s9 wr=>∃m:Nat,s7=vj m/\m=st.cnt x y (U.drop gg)/\s9=vj ((gg:Int)-1)/\gg<=n/\(∀j (hj:j<U.length),gg<=j->st.hidesAt x y U[j]=false)/\uj w2 wr)
 case atStart=>exact⟨0,rfl,by rw[List.drop_of_length_le (by have:=HN.out;omega)];rfl,by go_num,aO _,fun j hj h=>by have:=HN.out;omega,aN _ _⟩
 case round=>
  rename World=>wr;obtain⟨m,rfl,hm,rfl,hgn,hno,hbel⟩:=hrel;have hml:m<=12:=by
   rw[hm];have:=SK st x y (U.drop gk);rw[cC,HN.out]at this;omega
  have HM:=Aa (aK hm (aK hno hbel));clear hm hno;cases gk with
  |zero=>
   have hlt:¬(0:Int)<=((0:Nat):Int)-1:=by omega
   clear hbel;go_wp2;go_ret;refine⟨CI ?_,HB2.out.trans (HM.out.2.2.mono HB2.out.size)⟩;have h9:=HM.out.1;rw[List.drop_zero]at h9;rw[h9,Vy fun j hj=>HM.out.2.1 j hj (cB _)]
  |succ gk=>
   have hg1:((gk+1:Nat):Int)-1=(gk:Int):=by omega
   have hkU:gk<U.length:=by have:=HN.out;omega
   obtain⟨vg,vcap,hvf,hvc,hvl,hvcs,vcur,hvt⟩:=(HU2.out.keep (w':=wr) fun g hg=>hbel.block g (HU2.out.lt g hg).2).at hkU;rw[HN.out]at hvf hvc;injection hvf with hv1 hv2 hv3;subst hv1 hv3;have hdr:U.drop gk=U[gk]::U.drop (gk+1):=List.drop_eq_getElem_cons hkU;have hcn:=TQ st x y U[gk] (U.drop (gk+1));rw[<-hdr,<-HM.out.1]at hcn;have hHk:=HH.out gk hkU;have hPl:=HPlim.out gk hkU;have v0:=hvcs 0 _ rfl;have v1:=hvcs 1 _ rfl;have v2:=hvcs 2 _ rfl;have v3:=hvcs 3 _ rfl;have v5:=hvcs 5 _ rfl;have v6:=hvcs 6 _ rfl;have v7:=hvcs 7 _ rfl;have v8:=hvcs 8 _ rfl;rw[Nat.add_zero]at v0;have HHit:Hid (st.hidesAt x y U[gk]=true->st.unh U x y=U.drop gk):=fun h0=>Xa hkU h0 fun j hj h1=>HM.out.2.1 j hj (by omega);have HNo:Hid (st.hidesAt x y U[gk]=false->∀j (hj:j<U.length),gk<=j->st.hidesAt x y U[j]=false):=fun h0 j hj h1=>by
    by_cases e:j=gk
    ·subst e;exact h0
    ·exact HM.out.2.1 j hj (by omega)
   have hout:inR (st.seen U[gk]) x y=false->st.hidesAt x y U[gk]=false:=fun h0=>by unfold St.hidesAt;rw[h0];rfl
   obtain⟨j,hj⟩:∃j,U[gk]=j:=⟨_,rfl⟩;rw[hj]at hcn hHk hPl v0 v1 v2 v3 v5 v6 v7 v8 HHit HNo hout;obtain⟨R,hR⟩:∃R,st.seen j=R:=⟨_,rfl⟩;rw[hR]at hcn hHk v5 v6 v7 v8 hout;obtain⟨q,hq⟩:∃q,st.ixAt j x y=q:=⟨_,rfl⟩;rw[hq]at hHk;obtain⟨PX,hPX⟩:∃p,st.px j=p:=⟨_,rfl⟩;obtain⟨PY,hPY⟩:∃p,st.py j=p:=⟨_,rfl⟩;obtain⟨NW,hNW⟩:∃p,(st.sf j).now.w=p:=⟨_,rfl⟩;rw[hPX]at hHk hPl v1;rw[hPY]at hHk hPl v2;rw[hNW]at hHk v3;have HHas:Hid (∀V:World,Blk V wr.heap.size 53 #[vj R.1,vj R.2.1,vj R.2.2.1,vj R.2.2.2]->Calls prog 122 #[sj wr.heap.size 1 1,vj x,vj y] V fun e w'=>e=.returned (.bool (inR R x y))/\w'=V):=fun V hV=>by
    have:=DK [R] (sj wr.heap.size 1 1) x y V ⟨_,_,rfl,fun _=>⟨_,_,rfl,fun i hi=>by
     have:i=0:=by simp at hi;exact hi
     subst this;exact⟨hV.cell 0,hV.cell 1,hV.cell 2,hV.cell 3⟩⟩⟩ (by simp[maxLen])
    rw[show AE [R] x y=inR R x y by simp[AE]]at this;exact this
   obtain⟨t,ht⟩:∃t,inR R x y=t:=⟨_,rfl⟩;rw[ht]at HHas hcn hHk;have hkc:gk<uc:=by omega
   have hk0:(0:Int)<=(gk:Int):=by omega
   have hkn:(gk:Int)<(n:Int):=by omega
   have hs2:=HB2.out.size;have hs3:=hbel.size;rw[hg1];cases t with
   |false=>
    have HNo2:=Aa (HNo.out (hout ht));rw[if_neg (by simp),Nat.zero_add]at hcn;have HCn:=Aa hcn;clear hcn hR hq hPX hPY hNW ht hj hvcs hHk HH HPlim HVw hout hdr HHit HNo hbel
    go_wp2_with(go_at_call 122;refine(HHas.out _ (aR wr _)).mono ?_;rintro e w' ⟨rfl,hw'⟩;replace hw':=hw'.symm;subst hw')
    go_roundg gk
    case measure=>omega
    case rel=>exact⟨m,rfl,HCn.out.symm,by go_num,by omega,HNo2.out,HM.out.2.2.alloc hs3 _⟩
   |true=>
    rw[if_pos rfl]at hcn;have HCn:=Aa hcn;obtain⟨sg,sn,scap,pg,pm,pcap,YW,hcells,b1,b2,b3,b4,b8,b9,b10,b11,b12,b13,b14,b15,b16⟩:=hHk rfl;obtain⟨hd,hhd⟩:∃t,st.hidesAt x y j=t:=⟨_,rfl⟩;have hbw:uj w (wr.alloc (.cells #[vj R.1,vj R.2.1,vj R.2.2.1,vj R.2.2.2] 53)):=(HB2.out.trans (hbel.mono hs2)).alloc (by omega) _;obtain⟨g1,g2,g3⟩:=hcells _ hbw;rw[hhd]at g3 HHit HNo;have x1:IntKind.i64.wrap (y-PY)=y-PY:=by rw[bB];omega
    have x2:IntKind.i64.wrap ((y-PY)*NW)=YW:=by rw[bB];omega
    have x3:IntKind.i64.wrap (YW+x)=YW+x:=by rw[bB];omega
    have x4:IntKind.i64.wrap (YW+x-PX)=(q:Int):=by rw[bB];omega
    have hjn:(j:Int)<(sn:Int):=by omega
    have hj0:(0:Int)<=(j:Int):=by omega
    have hjc:j<scap:=by omega
    have hqm:(q:Int)<(pm:Int):=by omega
    have hq0:(0:Int)<=(q:Int):=by omega
    have hqc:q<pcap:=by omega
    have e0:=(BI wr (.cells #[vj R.1,vj R.2.1,vj R.2.2.1,vj R.2.2.2] 53) vg (gk*9) hvl).trans v0;have e1:=(BI wr (.cells #[vj R.1,vj R.2.1,vj R.2.2.1,vj R.2.2.2] 53) vg (gk*9+1) hvl).trans v1;have e2:=(BI wr (.cells #[vj R.1,vj R.2.1,vj R.2.2.1,vj R.2.2.2] 53) vg (gk*9+2) hvl).trans v2;have e3:=(BI wr (.cells #[vj R.1,vj R.2.1,vj R.2.2.1,vj R.2.2.2] 53) vg (gk*9+3) hvl).trans v3;have HB9:=Aa (aK hbw (HM.out.2.2.alloc hs3 (.cells #[vj R.1,vj R.2.1,vj R.2.2.1,vj R.2.2.2] 53)));clear hcn hR hq hPX hPY hNW ht hj hvcs hHk HH HPlim HVw hout hdr hcells hbel hbw hhd b8 b9 b10 b11 b12 b13 b14 b15 hPl
    go_upto_region 9 with(go_at_call 122;refine(HHas.out _ (aR wr _)).mono ?_;rintro e w' ⟨rfl,hw'⟩;replace hw':=hw'.symm;subst hw')
    clear v0 v1 v2 v3 v5 v6 v7 v8;generalize wr.alloc (.cells #[vj R.1,vj R.2.1,vj R.2.2.1,vj R.2.2.2] 53)=W1 at*;cases hd with
    |true=>
     go_quiet (fail)
     go_wp2_with fail
     go_ret;refine⟨CI ?_,?_⟩
     ·rw[HHit.out trivial,HCn.out];go_num
     ·exact cS HB9.out.1 _
    |false=>
     go_quiet (fail)
     go_wp2_with fail
     go_roundg gk
     case measure=>omega
     case rel=>exact⟨m+1,by go_num,by rw[HCn.out];omega,by go_num,by omega,HNo.out trivial,cS HB9.out.2 _⟩
end Go.Proofs.YtofinpocigbbeaaGreat
