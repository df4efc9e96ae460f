import Derived.Test.YtofinpocigbbeaaGreatKau
set_option maxHeartbeats 2000000
set_option maxRecDepth 100000
set_option linter.unusedSimpArgs false
namespace Go.Proofs.YtofinpocigbbeaaGreat
open Go.Proofs.Tryz Go.RowKit
attribute [local go_sem ↓] Go.wp_at_zero Go.wp_at_succ
variable{E:List Nat}{S:Nat->Prop}{base:Nat}{st:St}{v:Value}{w:World}
def Hl(F:Nat->Nat->Value)(L:List Nat):Nat->Nat->Value:=fun j=>if j∈L then(fun o=>if o=0 then .bool false else F j o)else F j
theorem Uf(F:Nat->Nat->Value):Hl F []=F:=by
 funext j
 unfold Hl;simp
theorem RW(F:Nat->Nat->Value)(L:List Nat)(i:Nat):upF (Hl F L) i 0 (.bool false)=Hl F (L++[i]):=by
 funext j o
 unfold upF Hl;by_cases e:j=i<;>by_cases h:j∈L<;>by_cases e2:o=0<;>simp_all
theorem Ug{w2:World}{S':Nat->Prop}{F:Nat->Nat->Value}(hw:Wf st)(h:C9 w S st F)(hS:∀g,S g->S' g)(hk:∀(b:Nat) (cur:Array Value) (t:TypeId),Jj t->w.heap[b]?=some (.cells cur t (0,0))->w2.heap[b]?=w.heap[b]?)(id:Nat):C9 w2 S' (rm st id) (Hl F (st.gone id)):=by
 refine⟨fun j hj=>?_,fun j hj=>?_⟩
 ·rw[H8]at hj;rw[Hf st hw];unfold Hl;have q:=h.rel j hj;by_cases e:j∈st.gone id
  ·rw[if_pos e,if_pos e];exact⟨rfl,q.parent,q.nw,q.nh,q.nx,q.ny,q.ncut,q.n0,q.n1,q.n2,q.n3,q.nhint,q.xw,q.xh,q.xx,q.xy,q.xcut,q.x0,q.x1,q.x2,q.x3,q.xhint,q.ask,q.sib,q.above,q.kept⟩
  ·rw[if_neg e,if_neg e];exact q
 ·rw[H8]at hj;rw[Hf st hw];unfold Hl;have q:=((h.dat j hj).mono hS).other hk;by_cases e:j∈st.gone id
  ·rw[if_pos e,if_pos e];exact⟨q.pixN,q.pixX,q.hinN,q.hinX,q.kept⟩
  ·rw[if_neg e,if_neg e];exact q
theorem Ca.at(h:Ca w base v E){i:Nat}(hi:i<E.length):∃g c,v=sj g E.length c/\E.length<=c/\g<w.heap.size/\w.cell? (jA g i)=some (vj (E[i]:Int)):=by
 obtain⟨g,c,hv,_,hl⟩:=World.ownsRow.form h (by omega);have cs:=cj h (g:=g) (by rw[hv];rfl) i (vj (E[i]:Int)) (by rw[bZ,aU hi];rfl);rw[Bn]at cs;refine⟨g,c,hv,?_,hl,cs⟩;have h9:=h;unfold Ca at h9;rw[hv]at h9;exact A7 h9
theorem Ca.keep{w':World}(h:Ca w base v E)(hk:∀g,v.ownBlock=some g->w'.heap[g]?=w.heap[g]?):Ca w' base v E:=Ai h hk
theorem Ca.rowS(h:Ca w base v E)(hS:∀g,v.ownBlock=some g->S g):A4 w S 3 1 v E.length (E.map fun(i:Nat)=>vj (i:Int)):=
 ⟨⟨h.1,h.2.imp (fun h=>h) fun⟨g,c,cur,e1,_,e3⟩=>⟨g,c,cur,e1,cB _,e3⟩⟩,hS⟩
theorem Fm(P:Nat->Bool){l:List Nat}{k:Nat}(hk:k<l.length):(l.take (k+1)).filter P=(l.take k).filter P++if P l[k]=true then [l[k]]else []:=by
 rw[bn hk,List.filter_append,ch];rfl
theorem LB{B:Nat->Prop}{c:Nat}{bv:Value}(hw:Wf st)(id:Int)(w:World)(h:Aw w S c st bv)(hap:∀g,S g->¬B g)(hlt:∀g,B g->g<w.heap.size)(Wn Hn:Nat)(hWn:st.w=Wn)(hHn:st.h=Hn){L:List RB}{P D:Nat->Value}(hBf:AG w B bv (Wn*Hn) L P D):
  Calls prog 90 #[pj c,vj id] w (Gs S B c bv (Wn*Hn) L P D (AM st id).1 (AM st id).2 (if st.isB id=true then Cq (st.partsL id.toNat) Wn else fun _=>false) w):=by
 have hIs:=D6 (S:=S) (c:=c) (st:=st) (bv:=bv) id w h hw.made;have hB:=AV hw id;have HE6:=Aa (Gs.same (er:=6) h hBf (aN _ _));unfold AM;obtain⟨t,ht⟩:∃t,st.isB id=t:=⟨_,rfl⟩;rw[ht]at hIs hB ⊢;clear ht;cases t with
 |false=>
  rw[if_neg (by simp),if_neg (by simp)];clear hB h hBf hap hlt;go_enter func90,ntmps90
  go_wp2_with(go_at_call 127;refine hIs.mono ?_;rintro e w' ⟨rfl,hw'⟩;replace hw':=hw'.symm;subst hw')
  go_ret;exact HE6.out
 |true=>
  rw[if_pos rfl,if_pos rfl];obtain⟨i,rfl,hio⟩:=hB.1 rfl;rw[aX];have HR:=Aa h;have HPa:=Aa (Jl hw i w h);have HHu:Hid (∀(W:World) (v:Value),uj w W->AF W w.heap.size v (st.partsL i)->Calls prog 128 #[pj c,v] W fun e w'=>e=.returned (.tuple #[])/\∃L',EA W w' B bv (Wn*Hn) L L' P D fun _ k=>Cq (st.partsL i) Wn k):=fun W v hW hv=>P4 hw _ v W (h.keep fun g _ hg=>hW.block g hg) hap Wn Hn hWn hHn (hBf.keep fun g _ hg=>hW.block g hg) hv.rects (fun wr ho=>(hv.apart hlt ho).rects) (by have:=Ia hw i;omega);have HAp:=Aa hap;have HLt:=Aa hlt;obtain⟨m,hm⟩:∃n,st.order.length=n:=⟨_,rfl⟩;have hm12:=hw.len;rw[hm]at hm12;have HI:=Aa hIs;have HHm:=Aa hm;clear hIs hB HE6 h hm hap hlt hBf;go_enter func90,ntmps90
  go_wp2_with(first
   |(go_at_call 127;refine HI.out.mono ?_;rintro e w' ⟨rfl,hw'⟩;replace hw':=hw'.symm;subst hw')
   |(go_at_call 129;refine HPa.out.mono ?_;rintro e w1 ⟨v1,rfl,hv1,hb1⟩;have H1:=Aa (aK hv1 hb1);clear hv1 hb1)
   |(go_at_call 128;refine(HHu.out _ _ H1.out.2 H1.out.1).mono ?_;rintro e w2 ⟨rfl,L2,ht2⟩;have H2:=Aa ht2;clear ht2))
  have HR2:=Aa ((HR.out.keep fun g _ hg=>H1.out.2.block g hg).apart HAp.out H2.out.only);have HO2:Hid (Ac S w2 w2):=Ac.refl _ _;have HZ2:Hid (w.heap.size<=w2.heap.size/\Ac (fun g=>S g\/B g) w w2):=⟨bh H1.out.2.size H2.out.only.size,(Ac.below H1.out.2).trans (H2.out.only.mono fun g _ hg=>.inl (.inr hg))⟩;obtain⟨sv,ov,F,hr,hs⟩:=HR2.out;obtain⟨k0,k1,k2,k3,k4,kf,kl⟩:=hr.cells;obtain⟨oa,ocap,hov⟩:=hr.ovForm;subst hov;rw[HHm.out]at k4;have f4:=kf 4;have HH:=Aa (aK hr hs);clear hr hs kf k0 k1 k2
  go_loopg [6,7,8] m (fun gg s6 s7 s8 wr=>∃k:Nat,s8=vj k/\gg+k=m/\Ca wr w2.heap.size s6 ((st.order.take k).filter fun(o:Nat)=> !(st.chain o).contains i)/\Ca wr w2.heap.size s7 ((st.order.take k).filter fun(o:Nat)=>(st.chain o).contains i)/\(∀g,s6.ownBlock=some g->s7.ownBlock≠some g)/\uj w2 wr)
  case atStart=>exact⟨0,rfl,by omega,bA _ _ _ _,bA _ _ _ _,fun g hg=>by simp[Value.ownBlock]at hg,aN _ _⟩
  case round=>
   rename World=>wr;obtain⟨k,rfl,hgk,hol,hog,hdis,hbel⟩:=hrel;obtain⟨la,lc,hlf⟩:=Al hol;obtain⟨ga,gc,hgf⟩:=Al hog;obtain⟨nL,hnL⟩:∃x,((st.order.take k).filter fun(o:Nat)=> !(st.chain o).contains i).length=x:=⟨_,rfl⟩;obtain⟨nG,hnG⟩:∃x,((st.order.take k).filter fun(o:Nat)=>(st.chain o).contains i).length=x:=⟨_,rfl⟩;rw[hnL]at hlf;rw[hnG]at hgf;subst hlf hgf;have hsz:=hbel.size;have v4:=(hbel.cell (p:=(jA c 4)) kl).trans k4;have v3:=(hbel.cell (p:=(jA c 3)) kl).trans k3;have vf:=(hbel.frozen (p:=(jA c 4)) kl).trans f4;have hbL:nL<=12:=by
    have h1:=ci (fun(o:Nat)=> !(st.chain o).contains i) (st.order.take k);rw[bR]at h1;have h2:=HHm.out;omega
   have hbG:nG<=12:=by
    have h1:=ci (fun(o:Nat)=>(st.chain o).contains i) (st.order.take k);rw[bR]at h1;have h2:=HHm.out;omega
   cases gk with
   |zero=>
    have hlt:¬(k:Int)<(m:Int):=by omega
    have hfull:st.order.take k=st.order:=bw (by have:=HHm.out;omega);rw[hfull]at hol hog hnL hnG;have hrr:=HH.out.1.below hbel;have hsr:=HH.out.2.below hbel;have hS:∀g,S g->AA S w2 wr g:=fun _ h=>AI h;have hz2:=HO2.out.size;have r3:=hrr.setOrd (S':=AA S w2 wr) (ov':=.slice la nL lc) (ord':=(rm st i).order) hS (Ca.rowS (E:=(rm st i).order) hol fun g hg=>.inr ⟨by have:=(hol.lt g hg).1;omega,(hol.lt g hg).2⟩);have hsS:=hsr.setC (S':=AA S w2 wr) (j:=4) (u:=.slice la nL lc) hS hrr.scr;have hO3:Ac S w2 (wr.setCell (jA c 4) (.slice la nL lc)):=(HO2.out.after hbel).set (p:=(jA c 4)) (.inl hrr.own) _;have hog3:Ca (wr.setCell (jA c 4) (.slice la nL lc)) w2.heap.size (.slice ga nG gc) (st.gone i):=Ca.keep hog fun b hb=>aL wr (jA c 4) b _ (by have h1:=(hog.lt b hb).1;show b≠c;omega);have hz3:(wr.setCell (jA c 4) (.slice la nL lc)).heap.size=wr.heap.size:=by simp
    obtain⟨sg,scap,es,hSg,hsc,hsgl,_,_⟩:=hrr.at (show 0<st.sfs.length from by have:=hw.lt hio;omega);rw[es]at r3;have H3:=Aa (aK r3 (aK hsS (aK hO3 hog3)));have hnG2:(st.gone i).length=nG:=hnG;have HNG:=Aa hnG2;clear r3 hsS hO3 hog3 hol hog hrr hsr hdis hnL hnG hnG2 hbel
    go_upto_region 15 with fail
    generalize wr.setCell (jA c 4) (.slice la nL lc)=w3 at*;go_wp2
    go_loopg [10] nG (fun gg s10 wq=>∃j:Nat,s10=vj j/\gg+j=nG/\B3 wq (AA S w2 wr) c st.w st.h st.sfs.length (rm st i).order bv (sj sg st.sfs.length scap) (.slice la nL lc) (Hl F ((st.gone i).take j))/\C2 (AA S w2 wr) 214 w3 wq)
    case atStart=>exact⟨0,rfl,by omega,by rw[List.take_zero,Uf];exact H3.out.1,C2.refl _ _ _⟩
    case round=>
     rename World=>wq;obtain⟨j,rfl,hgj,hrq,htq⟩:=hrel;obtain⟨q0,q1,q2,q3,q4,qf,ql⟩:=hrq.cells;have hogq:Ca wq w2.heap.size (.slice ga nG gc) (st.gone i):=Ca.keep H3.out.2.2.2 fun b hb=>by
      obtain⟨cc,hc⟩:=Ap H3.out.2.2.2 hb;exact htq.other hc (by decide)
     cases gk with
     |zero=>
      have hlt2:¬(j:Int)<(nG:Int):=by omega
      have HQ:=Aa (aK hrq htq);clear hrq htq;go_wp2;go_ret;have hfg:(st.gone i).take j=st.gone i:=bw (by have:=HNG.out;omega);have hr9:=HQ.out.1;rw[hfg]at hr9;have hzq:=HQ.out.2.size;have hRk:Aw wq (AA S w2 wq) c (rm st i) bv/\Ac S w2 wq:=by
       refine⟨Aw.mono (S:=AA S w2 wr) ⟨sj sg (rm st i).sfs.length scap,.slice la nL lc,Hl F (st.gone i),by rw[<-H8 st i]at hr9;exact hr9,?_⟩ (fun g hg=>?_),?_⟩
       ·have h8:=Ug (S':=AA S w2 wr) (w2:=wq) hw H3.out.2.1 (fun _ h=>h) (fun b cur t ht hb=>HQ.out.2.other hb (Du ht).1) i;exact h8
       ·rcases hg with hg|hg
        ·exact .inl hg
        ·exact .inr ⟨hg.1,by omega⟩
       ·refine H3.out.2.2.1.trans ((HQ.out.2.only).mono fun g hg hs9=>?_);rcases hs9 with hs9|hs9
        ·exact .inl hs9
        ·exact .inr ⟨hs9.1,by omega⟩
      refine⟨rfl,hRk.1.mono fun g hg=>?_,⟨L2,H2.out.bufs.apart HAp.out hRk.2,H2.out.hurtB⟩,HZ2.out.2.trans (hRk.2.mono fun g _ hg=>.inl (.inl hg))⟩;rcases hg with hg|hg
      ·exact .inl hg
      ·exact .inr ⟨by have:=HZ2.out.1;omega,hg.2⟩
     |succ gj=>
      have hlt2:(j:Int)<(nG:Int):=by omega
      have hjG:j<(st.gone i).length:=by have:=HNG.out;omega
      obtain⟨gg9,gc9,eg,hgcap,_,cg⟩:=hogq.at hjG;rw[HNG.out]at eg hgcap;injection eg with eg1 eg2 eg3;subst eg1 eg3;obtain⟨d,hd⟩:∃d,(st.gone i)[j]=d:=⟨_,rfl⟩;rw[hd]at cg;have hdl:d<st.sfs.length:=by rw[<-hd];exact hw.lt (Ds.1 (aZ hjG)).1
      obtain⟨sg2,sc2,es2,_,hsc2,_,ec,ef⟩:=hrq.at (by omega);injection es2 with es21 es22 es23;injection es21 with es21;injection es21 with es21;subst es21 es23;have cd:=ec d hdl 0 (by omega);have fd:=ef (d*28);rw[Nat.add_zero]at cd;have hrq2:=hrq.set hdl (show 0<28 by omega) (.bool false);rw[RW,Nat.add_zero]at hrq2;obtain⟨hSg2,cur,hcur⟩:=hrq.gType;have htq2:=htq.trans (C2.set hcur hSg2 (d*28) (.bool false));have e9:(st.gone i).take j++[d]=(st.gone i).take (j+1):=by rw[bn hjG,hd]
      rw[e9]at hrq2;obtain⟨nS,hnS⟩:∃x,st.sfs.length=x:=⟨_,rfl⟩;rw[hnS]at q3 hsc2 hdl;have hmd:=hw.made;rw[hnS]at hmd;have hdI:(d:Int)<(nS:Int):=by omega
      have hd0:(0:Int)<=(d:Int):=by omega
      have hj0:(0:Int)<=(j:Int):=by omega
      have hdc:d<scap:=by omega
      have hjc:j<gc:=by omega
      have HQ:=Aa (aK hrq2 htq2);clear hrq htq hrq2 htq2 hogq ec ef hcur e9 hd hnS hjG
      go_upto_region 18 with fail
      go_region
      all_goals
       go_wp2
       go_roundg gj
       case measure=>omega
       case rel=>exact⟨j+1,by go_num,by omega,HQ.out.1.keep (w':=(wq.setCell (jA sg (d*28)) (.bool false)).drew) (fun _ _ _=>rfl),HQ.out.2.drew⟩
   |succ gk=>
    have hlt:(k:Int)<(m:Int):=by omega
    have hkL:k<st.order.length:=by have:=HHm.out;omega
    obtain⟨og,oc,eo,_,hoc,ogl,ocs⟩:=HH.out.1.ordAt (by omega);rw[HHm.out]at hoc eo;injection eo with eo1 eo2 eo3;subst eo1 eo3;have co:=(hbel.cell (p:=(jA og k)) ogl).trans (ocs k hkL);obtain⟨j,hj⟩:∃j,st.order[k]=j:=⟨_,rfl⟩;rw[hj]at co;have hjl:j<st.sfs.length:=by rw[<-hj];exact hw.lt (aZ hkL)
    have hOn:=U4 (S:=S) (c:=c) (st:=st) (bv:=bv) j i wr (HR2.out.keep fun g _ hg=>hbel.block g hg) hw hjl;have HN1:=Aa (Fm (fun(o:Nat)=> !(st.chain o).contains i) hkL);have HN2:=Aa (Fm (fun(o:Nat)=>(st.chain o).contains i) hkL);obtain⟨t,ht⟩:∃t,(st.chain j).contains i=t:=⟨_,rfl⟩;rw[hj]at HN1 HN2;simp only[ht]at HN1 HN2;rw[ht]at hOn;have hkc:k<ocap:=by omega
    have HO:=Aa (aK hol (aK hog (aK hdis (aK hbel (aK hnL hnG)))));have HOn:=Aa hOn;clear hol hog hdis hbel hnL hnG ocs eo2 hkL hj hjl ht hOn;cases t with
    |true=>
     go_wp2_with(first
      |(go_at_call 130;refine HOn.out.mono ?_;rintro e w' ⟨rfl,hw'⟩;replace hw':=hw'.symm;subst hw')
      |(at_builtin;refine Cx rfl (.tmp 41) (.tmp 49) rfl w2.heap.size _ _ rfl (HO.out.2.1.alloc _) wr.heap.size j rfl (aR wr _) (by rw[HO.out.2.2.2.2.2];omega) (by simp;omega) ?_;intro v5 w5 ho5 hg5 ha5;have HB5:=Aa ((HO.out.2.2.2.1.alloc hsz _).grown hg5 (by simp;omega) (fun k hk=>(HO.out.2.1.lt k hk).1));have H5:=Aa (aK ho5 (aK hg5 ha5));clear ho5 hg5 ha5))
     go_roundg gk
     case measure=>omega
     case rel=>
      have hk9:∀g,(Value.slice la nL lc).ownBlock=some g->w5.heap[g]?=wr.heap[g]? :=fun g hg=>by
       have h1:=HO.out.1.lt g hg;rw[H5.out.2.1.block g (by simp;omega) (fun e=>HO.out.2.2.1 g hg e.symm)];exact Ad wr _ g h1.2
      refine⟨k+1,by go_num,by omega,?_,?_,fun g hg e=>?_,HB5.out⟩
      ·have e9:(st.order.take (k+1)).filter (fun(o:Nat)=> !(st.chain o).contains i)=(st.order.take k).filter fun(o:Nat)=> !(st.chain o).contains i:=by rw[HN1.out];simp
       rw[e9];exact HO.out.1.keep hk9
      ·have e9:(st.order.take (k+1)).filter (fun(o:Nat)=>(st.chain o).contains i)=(st.order.take k).filter (fun(o:Nat)=>(st.chain o).contains i)++[j]:=by rw[HN2.out];simp
       rw[e9];exact H5.out.1
      ·rcases H5.out.2.2 with h|h
       ·rw[h]at e;exact HO.out.2.2.1 g hg e
       ·rw[h]at e;have h1:=(HO.out.1.lt g hg).2;simp at e;omega
    |false=>
     go_wp2_with(first
      |(go_at_call 130;refine HOn.out.mono ?_;rintro e w' ⟨rfl,hw'⟩;replace hw':=hw'.symm;subst hw')
      |(at_builtin;refine Cx rfl (.tmp 51) (.tmp 59) rfl w2.heap.size _ _ rfl (HO.out.1.alloc _) wr.heap.size j rfl (aR wr _) (by rw[HO.out.2.2.2.2.1];omega) (by simp;omega) ?_;intro v5 w5 ho5 hg5 ha5;have HB5:=Aa ((HO.out.2.2.2.1.alloc hsz _).grown hg5 (by simp;omega) (fun k hk=>(HO.out.1.lt k hk).1));have H5:=Aa (aK ho5 (aK hg5 ha5));clear ho5 hg5 ha5))
     go_roundg gk
     case measure=>omega
     case rel=>
      have hk9:∀g,(Value.slice ga nG gc).ownBlock=some g->w5.heap[g]?=wr.heap[g]? :=fun g hg=>by
       have h1:=HO.out.2.1.lt g hg;rw[H5.out.2.1.block g (by simp;omega) (fun e=>HO.out.2.2.1 g e.symm hg)];exact Ad wr _ g h1.2
      refine⟨k+1,by go_num,by omega,?_,?_,fun g hg e=>?_,HB5.out⟩
      ·have e9:(st.order.take (k+1)).filter (fun(o:Nat)=> !(st.chain o).contains i)=(st.order.take k).filter (fun(o:Nat)=> !(st.chain o).contains i)++[j]:=by rw[HN1.out];simp
       rw[e9];exact H5.out.1
      ·have e9:(st.order.take (k+1)).filter (fun(o:Nat)=>(st.chain o).contains i)=(st.order.take k).filter fun(o:Nat)=>(st.chain o).contains i:=by rw[HN2.out];simp
       rw[e9];exact HO.out.2.1.keep hk9
      ·rcases H5.out.2.2 with h|h
       ·rw[h]at hg;exact HO.out.2.2.1 g hg e
       ·rw[h]at hg;have h1:=(HO.out.2.1.lt g e).2;simp at hg;omega
end Go.Proofs.YtofinpocigbbeaaGreat
