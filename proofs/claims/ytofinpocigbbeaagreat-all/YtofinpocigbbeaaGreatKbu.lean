import Derived.Test.YtofinpocigbbeaaGreatKbr
set_option maxHeartbeats 16000000
set_option maxRecDepth 100000
set_option linter.unusedSimpArgs false
namespace Go.Proofs.YtofinpocigbbeaaGreat
open Go.Proofs.Tryz Go.RowKit
attribute [local go_sem ↓] Go.wp_at_zero Go.wp_at_succ
theorem IX{a n:Nat}(h:a<n)(hn:n<=24):0<=(a:Int)/\(a:Int)<=100:=by omega
def GA(a:Nat):Bool:=decide (a=0\/4<a)
theorem GB{A B:Nat->Prop}{c:Nat}{st:St}{bv:Value}(hw:Wf st)(w:World)(h:Aw w A c st bv)(hap:∀g,A g->¬B g)(hA:∀g,A g->g<w.heap.size)(hlt:∀g,B g->g<w.heap.size)(Wn Hn:Nat)(hWn:st.w=Wn)(hHn:st.h=Hn){L:List RB}{P D:Nat->Value}(hB:AG w B bv (Wn*Hn) L P D)(i:Nat)(hi:i<L.length)(hag:∀j (hj:j<L.length),L[j].age<=4611686018427387904)(q:Nat->Bool)(hq:∀k,k<Wn*Hn->q k=(L[i].dirty k||GA L[i].age)):
  Calls prog 139 #[pj c,vj i] w (Lx A B c st bv Wn Hn L i q (fTo q (fun k=>(st.picU ((k%Wn:Nat):Int) ((k/Wn:Nat):Int) (st.visAll (-1))).1) L[i].f (Wn*Hn)) (Az (fun j=>if q j=true then(st.picL (st.visAll (-1)) ((j%Wn:Nat):Int) ((j/Wn:Nat):Int)).2 else 0) (Wn*Hn)) w):=by
 have hww:=hw.ww;have hhh:=hw.hh;rw[hWn]at hww;rw[hHn]at hhh;obtain⟨N,hN⟩:∃N,Wn*Hn=N:=⟨_,rfl⟩;have hN0:0<N:=by rw[<-hN];exact Nat.mul_pos (by omega) (by omega)
 have hN1:N<=576:=by rw[<-hN];exact cI (show Wn<=24 by omega) (show Hn<=24 by omega)
 obtain⟨b0,hb0⟩:∃b,L[i]=b:=⟨_,rfl⟩;obtain⟨pic,hpic⟩:∃p:Nat->R4,p=fun k=>(st.picU ((k%Wn:Nat):Int) ((k/Wn:Nat):Int) (st.visAll (-1))).1:=⟨_,rfl⟩;obtain⟨bl,hbl⟩:∃p:Nat->Int,p=fun j=>(st.picL (st.visAll (-1)) ((j%Wn:Nat):Int) ((j/Wn:Nat):Int)).2:=⟨_,rfl⟩;have hb1:∀k,0<=bl k/\bl k<=1000:=fun k=>by
  rw[hbl];show 0<=(st.picL (st.visAll (-1)) _ _).2/\(st.picL (st.visAll (-1)) _ _).2<=1000;rw[P2];have h1:=SK st ((k%Wn:Nat):Int) ((k/Wn:Nat):Int) (st.unh (st.visAll (-1)) ((k%Wn:Nat):Int) ((k/Wn:Nat):Int));have h2:(st.unh (st.visAll (-1)) ((k%Wn:Nat):Int) ((k/Wn:Nat):Int)).length<=(st.visAll (-1)).length:=by
   unfold St.unh;rw[cC];omega
  have h3:=Cg hw (CC st);generalize st.cnt ((k%Wn:Nat):Int) ((k/Wn:Nat):Int) (st.unh (st.visAll (-1)) ((k%Wn:Nat):Int) ((k/Wn:Nat):Int))=z at*;generalize (st.unh (st.visAll (-1)) ((k%Wn:Nat):Int) ((k/Wn:Nat):Int)).length=z2 at*;omega
 have hP:∀(V:World) (k:Nat),k<N->Aw V A c st bv->Calls prog 182 #[pj c,vj ((k%Wn:Nat):Int),vj ((k/Wn:Nat):Int)] V fun e w'=>e=.returned (.agg (Ch (pic k)))/\uj V w':=fun V k hk hV=>by
  subst hpic;have h1:=Nat.mod_lt k (show 0<Wn by omega);have h2:k/Wn<Hn:=Nat.div_lt_of_lt_mul (by rw[hN];exact hk);exact Lk hw ((k%Wn:Nat):Int) ((k/Wn:Nat):Int) (IX h1 (by omega)) (IX h2 (by omega)) V hV
 have hBl:∀(V:World) (k:Nat),k<N->Aw V A c st bv->Calls prog 183 #[pj c,vj ((k%Wn:Nat):Int),vj ((k/Wn:Nat):Int)] V fun e w'=>e=.returned (vj (bl k))/\uj V w':=fun V k hk hV=>by
  subst hbl;have h1:=Nat.mod_lt k (show 0<Wn by omega);have h2:k/Wn<Hn:=Nat.div_lt_of_lt_mul (by rw[hN];exact hk);exact Mc hw ((k%Wn:Nat):Int) ((k/Wn:Nat):Int) (IX h1 (by omega)) (IX h2 (by omega)) V hV
 rw[hb0]at hq ⊢;rw[hN]at hq hB ⊢;have hfin:Lx A B c st bv Wn Hn L i q (fTo q pic b0.f N) (Az (fun j=>if q j=true then bl j else 0) N) w=Lx A B c st bv Wn Hn L i q (fTo q (fun k=>(st.picU ((k%Wn:Nat):Int) ((k/Wn:Nat):Int) (st.visAll (-1))).1) b0.f N) (Az (fun j=>if q j=true then(st.picL (st.visAll (-1)) ((j%Wn:Nat):Int) ((j/Wn:Nat):Int)).2 else 0) N) w:=by rw[hpic,hbl]
 rw[<-hfin];obtain⟨post,hpost⟩:∃p,p=Lx A B c st bv Wn Hn L i q (fTo q pic b0.f N) (Az (fun j=>if q j=true then bl j else 0) N) w:=⟨_,rfl⟩;rw[<-hpost];obtain⟨bg,bcap,hbv,hbc,hBb,hbgl,hbt,hbfr,hbcs⟩:=hB.rowForm (by omega);obtain⟨nb,hnb⟩:∃nb,L.length=nb:=⟨_,rfl⟩;have hfew:=hB.few;rw[hnb]at hbv hbc hfew;obtain⟨pg,pcap,hPi,hpc,hBp,hpl,hpt,_⟩:=hB.pixForm hN0 hi;obtain⟨dg,dcap,hDi,hdc,hBd,hdl,hdt,_⟩:=hB.dirForm hN0 hi;have hlen:∀b:RB,(L.set i b).length=nb:=fun b=>by rw[bG];exact hnb
 have HC:Hid (∀(V:World) (k:Nat),RpM w V A B c st bv N L P D i b0 q pic bl k->V.cell? (jA c 0)=some (vj Wn)/\V.cell? (jA c 1)=some (vj Hn)/\V.cell? (jA c 2)=some (sj bg nb bcap)/\c<V.heap.size/\V.cell? (jA bg (i*3))=some (sj pg N pcap)/\V.cell? (jA bg (i*3+1))=some (vj b0.age)/\V.cell? (jA bg (i*3+2))=some (sj dg N dcap)/\(∀j,V.frozen? (jA bg j)=false)/\(∀j,V.frozen? (jA dg j)=false)/\(∀j,V.frozen? (jA pg j)=false)):=fun V k hM=>by
  obtain⟨sv,ov,F,hr,hs⟩:=hM.ref;rw[hWn,hHn,hbv]at hr;obtain⟨k0,k1,k2,k3,k4,kf,kl⟩:=hr.cells;have hi':i<(L.set i (⟨fTo q pic b0.f k,b0.age,dTo q b0.dirty k⟩:RB)).length:=by rw[bG];exact hi
  obtain⟨bg',bcap',hbv',_,_,_,_,hfr,hcs⟩:=hM.buf.rowForm (by rw[bG];omega);rw[hbv]at hbv';injection hbv' with e1 _ e3;injection e1 with e1;injection e1 with e1;subst e1;obtain⟨x0,x1,x2⟩:=hcs i hi';rw[hPi]at x0;rw[hDi]at x2;rw[Eg]at x1;obtain⟨pg',pcap',hP',_,_,_,_,pf⟩:=hM.buf.pixForm hN0 hi';obtain⟨dg',dcap',hD',_,_,_,_,df⟩:=hM.buf.dirForm hN0 hi';rw[hPi]at hP';rw[hDi]at hD';injection hP' with e1 _ e3;injection e1 with e1;injection e1 with e1;subst e1;injection hD' with e1 _ e3;injection e1 with e1;injection e1 with e1;subst e1;exact⟨k0,k1,k2,kl,x0,x1,x2,hfr,df,pf⟩
 have HM0:Hid (RpM w ((w.alloc (.cells #[jj,vj 0] 35)).alloc (.cells #[jj,vj 0] 35)) A B c st bv N L P D i b0 q pic bl 0):=by
  have hbel:uj w ((w.alloc (.cells #[jj,vj 0] 35)).alloc (.cells #[jj,vj 0] 35)):=al2 (aO _) _ _;have e1:fTo q pic b0.f 0=b0.f:=funext fun j=>by unfold fTo;rw[if_neg (fun hh=>absurd hh.1 (by omega))]
  have e2:dTo q b0.dirty 0=b0.dirty:=funext fun j=>by unfold dTo;rw[if_neg (by omega)]
  have e3:L.set i ⟨b0.f,b0.age,b0.dirty⟩=L:=by
   have:(⟨b0.f,b0.age,b0.dirty⟩:RB)=L[i]:=by rw[hb0]
   rw[this];exact List.set_getElem_self hi
  have hbx:=Ue w (.cells #[jj,vj 0] 35) (.cells #[jj,vj 0] 35);refine⟨h.keep fun g _ hg=>hbel.block g hg,?_,Ac.below hbel,hbx.1,hbx.2⟩;rw[e1,e2,e3];exact hB.keep fun g _ hg=>hbel.block g hg
 have hbg3:bg≠dg:=by
  obtain⟨c1,h1⟩:=hbt;obtain⟨c2,h2⟩:=hdt;exact Aj h1 h2 (by decide)
 have HPD:Hid (pg≠dg):=by
  obtain⟨c1,h1⟩:=hpt;obtain⟨c2,h2⟩:=hdt;exact Aj h1 h2 (by decide)
 have hbg4:bg≠pg:=by
  obtain⟨c1,h1⟩:=hbt;obtain⟨c2,h2⟩:=hpt;exact Aj h1 h2 (by decide)
 obtain⟨sv,ov,F,hr,hs⟩:=id h;rw[hWn,hHn,hbv]at hr;obtain⟨k0,k1,k2,k3,k4,kf,kl⟩:=hr.cells;have hcB:¬B c:=hap c hr.own;have hcd:c≠dg:=fun e=>hcB (e▸hBd);have hcp:c≠pg:=fun e=>hcB (e▸hBp);have hcb:c≠bg:=fun e=>hcB (e▸hBb);obtain⟨y0,y1,y2⟩:=hbcs i hi;rw[hPi]at y0;rw[hDi]at y2;rw[hb0]at y1;have hage:b0.age<=4611686018427387904:=by rw[<-hb0];exact hag i hi
 obtain⟨full,hfu⟩:∃t,GA b0.age=t:=⟨_,rfl⟩;rw[hfu]at hq;have hin:(i:Int)<(nb:Int):=by omega
 have hi0:(0:Int)<=(i:Int):=by omega
 have hi00:¬(i:Int)<0:=by omega
 have hinn:¬(nb:Int)<=(i:Int):=by omega
 have hib:i<bcap:=by omega
 have hi3:i<nb:=by omega
 have HK:=Aa (aK hap (aK hA (aK hlt (aK hi (aK hPi (aK hDi hag))))));have HPic:=Aa hP;have HBlo:=Aa hBl;have HQ:=Aa hq;have HPost:=Aa hpost;have hBpl:=hlt pg hBp;have hBdl:=hlt dg hBd;have hBbl:=hlt bg hBb;subst hbv;have HBl1:=Aa hb1;clear hr hs kf k3 k4 hB hbcs hbfr hbt hpt hdt hP hBl hpic hbl hfin hq hpost hag hap hA hlt h hb0 hPi hDi hb1;go_enter func139,ntmps139
 go_upto_region 5 with fail
 have hW0:w.heap.size<=((w.alloc (.cells #[jj,vj 0] 35)).alloc (.cells #[jj,vj 0] 35)).heap.size:=by simp;omega
 have z1:((w.alloc (.cells #[jj,vj 0] 35)).alloc (.cells #[jj,vj 0] 35)).cell? (jA bg (i*3+1))=some (vj b0.age):=(HC.out _ 0 HM0.out).2.2.2.2.2.1;generalize (w.alloc (.cells #[jj,vj 0] 35)).alloc (.cells #[jj,vj 0] 35)=W0 at*
 go_cut [8] (fun s8 wx=>s8=.bool full/\wx=W0)
 case first=>
  obtain⟨ag,hag⟩:∃a,b0.age=a:=⟨_,rfl⟩;rw[hag]at z1 hfu hage;unfold GA at hfu;by_cases e0:ag=0
  ·have e1:(ag:Int)=0:=by omega
   have e2:full=true:=by rw[<-hfu];simp[e0]
   subst e2;clear hfu;go_wp2;all_goals go_meet
   all_goals exact⟨rfl,rfl⟩
  ·have e1:¬(ag:Int)=0:=by omega
   by_cases e4:4<ag
   ·have e5:(4:Int)<(ag:Int):=by omega
    have e2:full=true:=by rw[<-hfu];simp[e4]
    subst e2;clear hfu;go_wp2;all_goals go_meet
    all_goals exact⟨rfl,rfl⟩
   ·have e5:¬(4:Int)<(ag:Int):=by omega
    have e2:full=false:=by rw[<-hfu];simp[e0,e4]
    subst e2;clear hfu;go_wp2;all_goals go_meet
    all_goals exact⟨congrArg Value.bool (by simpa using e1),rfl⟩
 case rest=>
  obtain⟨rfl,hwx⟩:=hcut;replace hwx:=hwx.symm;subst hwx;clear z1 y0 y1 y2 k0 k1 k2
  go_wp2_with fail
  go_loopg [9] N (fun gg s9 wr=>∃k:Nat,s9=vj k/\gg+k=N/\Hid (RpM w wr A B c st (sj bg nb bcap) N L P D i b0 q pic bl k))
  case atStart=>exact⟨0,rfl,by omega,HM0.out⟩
  case round=>
   rename World=>wr;obtain⟨k,rfl,hgk,HM⟩:=hrel;obtain⟨k0,k1,k2,kl',y0,y1,y2,bfr,dfr,pfr⟩:=HC.out wr k HM.out;have hszr:=HM.out.only.size;cases gk with
   |zero=>
    have hlt:¬(k:Int)<(N:Int):=by omega
    have hkN:k=N:=by omega
    subst hkN;have hMr:(∀V,uj wr V->V.cell? (jA c 0)=some (vj Wn)/\V.cell? (jA c 1)=some (vj Hn)/\V.cell? (jA bg (i*3+2))=some (sj dg k dcap)):=fun V hV=>⟨(hV.cell (p:=(jA c 0)) kl').trans k0,(hV.cell (p:=(jA c 1)) kl').trans k1,(hV.cell (p:=(jA bg (i*3+2))) (show bg<wr.heap.size by omega)).trans y2⟩;have HMr:=Aa hMr;have HEx:Hid (∀V:World,Calls prog 184 #[vj Wn] V fun e w'=>∃g cap,e=.returned (sj g (Wn+1) cap)/\(∀V',uj w' V'->DP V' g (AP Wn))/\uj V w'):=fun V=>(IW Wn (by omega) V).mono fun e w' ⟨g,cap,h1,h2,h3,h4,h5⟩=>⟨g,cap,h1,fun V' hV'=>h2.below hV',h5⟩;have HEy:Hid (∀V:World,Calls prog 184 #[vj Hn] V fun e w'=>∃g cap,e=.returned (sj g (Hn+1) cap)/\(∀V',uj w' V'->DP V' g (AP Hn))/\uj V w'):=fun V=>(IW Hn (by omega) V).mono fun e w' ⟨g,cap,h1,h2,h3,h4,h5⟩=>⟨g,cap,h1,fun V' hV'=>h2.below hV',h5⟩;have HPl:Hid (∀(V:World) (gx cx gy cy:Nat),uj wr V->DP V gx (AP Wn)->DP V gy (AP Hn)->Calls prog 124 #[sj gx (Wn+1) cx,sj gy (Hn+1) cy,sj dg k dcap] V fun e w'=>∃ra rn rq O,e=.returned (.slice ra rn rq)/\AF w' wr.heap.size (.slice ra rn rq) (rc O)/\EE (AP Wn) (AP Hn) (CG q k) ((AP Hn).length-1) O/\uj wr w'):=fun V gx cx gy cy hV hx hy=>by
     have hi':i<(L.set i (⟨fTo q pic b0.f k,b0.age,dTo q b0.dirty k⟩:RB)).length:=by rw[bG];exact HK.out.2.2.2.1
     obtain⟨m,hm,hrow⟩:=HM.out.buf.dir i hi';have hmk:m=k:=by omega
     subst hmk;rw[Eg,HK.out.2.2.2.2.2.1]at hrow;have hOw:Mh V 0 (sj dg m dcap) (CG q m):=by
      have hI:(List.range m).map (fun i=>Value.bool (dTo q b0.dirty m i))=(CG q m).map Value.bool:=by
       unfold CG;rw[List.map_map];exact List.map_congr_left fun j hj=>by
        show Value.bool (dTo q b0.dirty m j)=Value.bool (q j);unfold dTo;rw[if_pos (cf.1 hj)]
      have hlen:(CG q m).length=m:=by simp[CG]
      refine⟨?_,fun h9=>?_⟩
      ·rw[hlen,<-hI];exact Ai hrow.1 fun g hg=>hV.block g (hrow.1.lt g hg).2
      ·rw[h9]at hlen;simp at hlen;omega
     have h9:=Lu (AP Wn) (AP Hn) (CG q m) gx cx gy cy (sj dg m dcap) V hx hy hOw (Dc _) (Dc _) (IV (by omega)) (IV (by omega)) (by rw[Bh];omega) (by rw[Bh];omega) (by rw[Bh];omega) (by rw[Bh];omega) (by rw[Bh,Bh];simp[CG];rw[<-hN];exact Nat.mul_comm _ _);rw[Bh,Bh]at h9;refine h9.mono ?_;rintro e w' ⟨u,O,rfl,hO,hG,hb⟩;obtain⟨ra,rq,hf⟩:=hO.form;subst hf;exact⟨ra,_,rq,O,rfl,hO.lower hV.size,hG,hV.trans (hb.mono hV.size)⟩
    have hpp:=HM.out.pp;have HPp:Hid (∀V,uj wr V->(∃u,V.cell? (jA (w.heap.size+1) 0)=some u)/\V.frozen? (jA (w.heap.size+1) 0)=false/\w.heap.size+1<V.heap.size):=fun V hV=>by
     have h9:Blk V (w.heap.size+1) 35 _:=hpp.keep (hV.block _ (Ab hpp));exact⟨⟨_,h9.cell 0⟩,h9.has.free 0,Ab h9⟩
    have HBf:=Aa bfr;clear hMr hpp bfr dfr pfr
    go_upto_region 13 with fail
    go_cut [] (fun wx=>Hid (∃w7 n7 ra rn rq O,uj wr w7/\AF w7 wr.heap.size (.slice ra rn rq) (rc O)/\EE (AP Wn) (AP Hn) (CG q k) ((AP Hn).length-1) O/\wx=(w7.setCell (jA (w.heap.size+1) 0) (.slice ra rn rq)).drewN n7))
    case first=>
     go_region_held3 (fun w'=>w'.cell? (jA c 0)=some (vj Wn)/\w'.cell? (jA c 1)=some (vj Hn)/\w'.cell? (jA bg (i*3+2))=some (sj dg k dcap))
      (first
       |with_reducible exact HMr.out _ (aN _ _).drew
       |exact HMr.out _ ((aN wr.heap.size wr).drew.trans HBX.out)
       |exact HMr.out _ ((aN wr.heap.size wr).drew.trans HBY.out)
       |exact HMr.out _ (((aN wr.heap.size wr).drew.trans HBX.out).trans (HBY.out.mono HBX.out.size))
       |exact HMr.out _ (((aN wr.heap.size wr).drew.trans HBY.out).trans (HBX.out.mono HBY.out.size))
       |exact HMr.out _ H7.out.2.2
       |(obtain⟨a1,a2,a3⟩:=HMr.out _ H7.out.2.2;exact⟨(C6 (by omega)).trans a1,(C6 (by omega)).trans a2,(C6 (by omega)).trans a3⟩)
       |fail)
      (first
       |(go_at_call 184;with_reducible refine(HEx.out _).mono ?_;rintro e wx1 ⟨gx,cx,rfl,hix,hbx⟩;have HIX:=Aa hix;have HBX:=Aa hbx;clear hix hbx)
       |(go_at_call 184;with_reducible refine(HEy.out _).mono ?_;rintro e wy1 ⟨gy,cy,rfl,hiy,hby⟩;have HIY:=Aa hiy;have HBY:=Aa hby;clear hiy hby)
       |(go_at_call 124;refine(HPl.out wy1 gx cx gy cy (((aN wr.heap.size wr).drew.trans HBX.out).trans (HBY.out.mono HBX.out.size)) (HIX.out _ HBY.out) (HIY.out _ (aN _ _))).mono ?_;rintro e w7 ⟨ra,rn,rq,O,rfl,hO,hG,hb7⟩;have H7:=Aa (aK hO (aK hG hb7));obtain⟨⟨u9,p9⟩,pf9,pl9⟩:=HPp.out w7 hb7;clear hO hG hb7)
       |(go_at_call 124;refine(HPl.out wx1 gx cx gy cy (((aN wr.heap.size wr).drew.trans HBY.out).trans (HBX.out.mono HBY.out.size)) (HIX.out _ (aN _ _)) (HIY.out _ HBX.out)).mono ?_;rintro e w7 ⟨ra,rn,rq,O,rfl,hO,hG,hb7⟩;have H7:=Aa (aK hO (aK hG hb7));obtain⟨⟨u9,p9⟩,pf9,pl9⟩:=HPp.out w7 hb7;clear hO hG hb7)
       |fail)
     all_goals go_wp2_with fail
     all_goals go_meet
     all_goals exact⟨w7,0,ra,rn,rq,O,H7.out.2.2,H7.out.1,H7.out.2.1,rfl⟩
    case rest=>
     obtain⟨w7,n7,ra,rn,rq,O,hb7,hO,hG,hwc⟩:=hcut.out;clear hcut;have hs7:=hb7.size;have e7:∀b,b<wr.heap.size->b≠w.heap.size+1->wc.heap[b]?=wr.heap[b]? :=fun b hb hne=>by
      rw[hwc];show(w7.setCell (jA (w.heap.size+1) 0) (.slice ra rn rq)).heap[b]?=_;rw[aL w7 (jA (w.heap.size+1) 0) b _ hne];exact hb7.block b hb
     have c7:∀b o,b<wr.heap.size->b≠w.heap.size+1->wc.cell? (jA b o)=wr.cell? (jA b o):=fun b o hb hne=>aV (a:=(jA b o)) (e7 b hb hne);have t0:=(c7 c 0 kl' (by omega)).trans k0;have t1:=(c7 c 1 kl' (by omega)).trans k1;have t2:=(c7 bg (i*3+2) (by omega) (by omega)).trans y2;have tf:wc.frozen? (jA bg (i*3+2))=false:=(World.frozen?_of_block (a:=(jA bg (i*3+2))) (e7 bg (by omega) (by omega))).trans (HBf.out _);have hbc9:bg<wc.heap.size:=by
      have:wc.heap.size=w7.heap.size:=by rw[hwc];simp
      omega
     have hWH:(Wn:Int)*(Hn:Int)=(k:Int):=by rw[<-hN];simp
     have m1:IntKind.i64.wrap ((Wn:Int)*(Hn:Int))=(k:Int):=by rw[bB];omega
     have m2:wrap64 ((Wn:Int)*(Hn:Int))=(k:Int):=by unfold wrap64;omega
     have hmk1:=fun w=>VL k (by omega) w;have HW7:=Aa (aK hb7 (aK hO (aK hG hwc)));clear hb7 hO hG hwc e7 c7 k0 k1 k2 y0 y1 y2 hWH
     go_upto_region 14 with fail
     go_region
     have HN0:Hid (RpN w (((wc.setCell (jA bg (i*3+2)) (sj wc.heap.size k k)).alloc (.cells (madeCells #[.bool false] k) 4)).drew) A B c st (sj bg nb bcap) k (L.set i ⟨fTo q pic b0.f k,b0.age,fun _=>false⟩) P (fun j=>if j=i then sj w7.heap.size k k else D j) (.slice ra rn rq) (Az (fun j=>if q j=true then bl j else 0) k) O):=by
      have h9:=HM.out.toN HK.out.1 HK.out.2.1 HK.out.2.2.1 hN1 HK.out.2.2.2.1 hBb HW7.out.1 HW7.out.2.1;have hsz:wc.heap.size=w7.heap.size:=by rw[HW7.out.2.2.2];simp
      rw[hsz];refine h9.below ?_;rw[HW7.out.2.2.2];exact⟨rfl,rfl,rfl,aO _,fun _ _=>rfl⟩
     generalize ((wc.setCell (jA bg (i*3+2)) (sj wc.heap.size k k)).alloc (.cells (madeCells #[.bool false] k) 4)).drew=W9 at*;have HG:=Aa HW7.out.2.2.1;clear t0 t1 t2 tf m1 m2 hmk1 HMr HPl HEx HEy HPp HW7 HBf;obtain⟨L1,hL1⟩:∃L1,L.set i (⟨fTo q pic b0.f k,b0.age,fun _=>false⟩:RB)=L1:=⟨_,rfl⟩;have hl1:L1.length=nb:=by rw[<-hL1];exact hlen _
     have hag1:∀j (hj:j<L1.length),L1[j].age<=4611686018427387904:=fun j hj=>by
      subst hL1;rw[List.getElem_set];split
      ·exact hage
      ·exact HK.out.2.2.2.2.2.2 j (by simpa using hj)
     rw[hL1]at HN0;have HL1:=Aa (aK hL1 (aK hl1 hag1));obtain⟨D1,hD1⟩:∃D1:Nat->Value,(fun j=>if j=i then sj w7.heap.size k k else D j)=D1:=⟨_,rfl⟩;rw[hD1]at HN0;obtain⟨zt,hzt⟩:∃z,Az (fun j=>if q j=true then bl j else 0) k=z:=⟨_,rfl⟩;rw[hzt]at HN0;have HZt:=Aa hzt;clear hD1 hL1 hl1 hag1 hzt;have HC2:Hid (∀(V:World) (La:List RB),La.length=nb->RpN w V A B c st (sj bg nb bcap) k La P D1 (.slice ra rn rq) zt O->V.cell? (jA c 2)=some (sj bg nb bcap)/\(∀j (hj:j<La.length),V.cell? (jA bg (j*3+1))=some (vj La[j].age))/\(∀j,V.frozen? (jA bg j)=false)/\w.heap.size+1<V.heap.size):=fun V La hla hV=>by
      obtain⟨sv,ov,F,hr,hs⟩:=hV.ref;obtain⟨k0,k1,k2,k3,k4,kf,kl⟩:=hr.cells;obtain⟨bg',bcap',hbv',_,_,_,_,hfr,hcs⟩:=hV.buf.rowForm (by omega);injection hbv' with e1 _ e3;injection e1 with e1;injection e1 with e1;subst e1;exact⟨k2,fun j hj=>(hcs j hj).2.1,hfr,Ab hV.pp⟩
     go_wp2_with fail
     go_loopg [10] nb (fun gg s10 wr=>∃j:Nat,s10=vj j/\gg+j=nb/\Hid (RpN w wr A B c st (sj bg nb bcap) k (C5 L1 j) P D1 (.slice ra rn rq) zt O))
     case atStart=>exact⟨0,rfl,by omega,by rw[Qi];exact HN0.out⟩
     case round=>
      rename World=>wl;rename Nat=>gl;obtain⟨j,rfl,hgj,HMl⟩:=hrel;obtain⟨l2,lag,lfr,lsz⟩:=HC2.out wl _ (by rw[BH];exact HL1.out.2.1) HMl.out;cases gl with
      |zero=>
       have hltj:¬(j:Int)<(nb:Int):=by omega
       have HJn:Hid (j=L1.length):=by have:=HL1.out.2.1;unfold Hid;omega
       have hiL:i<L1.length:=by have:=HL1.out.2.1;omega
       have ca:=lag i (by rw[BH];exact hiL);have fa:=lfr (i*3+1);have HNx:Hid (RpN w (wl.setCell (jA bg (i*3+1)) (vj 1)) A B c st (sj bg nb bcap) k (Cy L i (fTo q pic b0.f k)) P D1 (.slice ra rn rq) zt O):=by
        have hm:=HMl.out;rw[HJn.out]at hm;have h9:=hm.setAge HK.out.1 HK.out.2.2.1 hBb (j:=i) (by rw[BH];exact hiL) 1;have e:=RR L i (fTo q pic b0.f k) b0.age L1 HL1.out.1.symm (by rw[BH];exact hiL);rw[e]at h9;exact h9
       have p9:=HNx.out.pp;have r9:=HNx.out.res;have p0:=p9.cell 0;have p1:=p9.cell 1;have r0:=r9.cell 0;have r1:=r9.cell 1;have rf0:=r9.has.free 0;have rf1:=r9.has.free 1;have rl:=Ab r9;simp only[br,bj,bt]at p0 p1 r0 r1;have h4:=(r9.set 0 (.slice ra rn rq)).set 1 (vj zt);have q0:(((wl.setCell (jA bg (i*3+1)) (vj 1)).setCell (jA w.heap.size 0) (.slice ra rn rq)).setCell (jA w.heap.size 1) (vj zt)).cell? (jA w.heap.size 0)=some (.slice ra rn rq):=h4.cell 0;have q1:(((wl.setCell (jA bg (i*3+1)) (vj 1)).setCell (jA w.heap.size 0) (.slice ra rn rq)).setCell (jA w.heap.size 1) (vj zt)).cell? (jA w.heap.size 1)=some (vj zt):=h4.cell 1;have HFin:Hid (post (.returned (.tuple #[.agg #[.slice ra rn rq,vj zt],vj 0])) (((wl.setCell (jA bg (i*3+1)) (vj 1)).setCell (jA w.heap.size 0) (.slice ra rn rq)).setCell (jA w.heap.size 1) (vj zt))):=by
        unfold Hid;rw[HPost.out,HZt.out];exact HNx.out.done hN HG.out HK.out.2.1
       clear lag lfr h4 p9 r9
       go_upto_region 21 with fail
       generalize wl.setCell (jA bg (i*3+1)) (vj 1)=Wf at*;clear l2 ca fa HNx HMl HC2 HN0 HG HL1 HZt HM HPic HBlo HQ HPost HBl1 HK HC HM0 HPD hage hbg3 hbg4 hcd hcp hcb hiL HJn hBb hbgl hbc hfew hBp hpl hBd hdl hlen hpc hdc
       go_wp2_with fail
       exact cU (v:=.tuple #[.agg #[.slice ra rn rq,vj zt],vj 0]) (by simp[results,results139,go_sem,q0,q1]) rfl HFin.out
      |succ gl=>
       have hltj:(j:Int)<(nb:Int):=by omega
       have hjb:j<bcap:=by omega
       have hj0:(0:Int)<=(j:Int):=by omega
       have hjL:j<L1.length:=by have:=HL1.out.2.1;omega
       have ca:=lag j (by rw[BH];exact hjL);rw[DQ L1 j j hjL,if_neg (by omega)]at ca;have fa:=lfr (j*3+1);have hga:=HL1.out.2.2 j hjL;obtain⟨a,ha⟩:∃a,L1[j].age=a:=⟨_,rfl⟩;rw[ha]at ca hga;have hnx:=Qj L1 j hjL;have hold:L1[j].older= {L1[j]with age:=if 0<a then a+1 else 0} :=by unfold RB.older;rw[ha]
       have HNx:Hid (0<a->RpN w (wl.setCell (jA bg (j*3+1)) (vj ((a:Int)+1))) A B c st (sj bg nb bcap) k (C5 L1 (j+1)) P D1 (.slice ra rn rq) zt O):=fun hpos=>by
        have h9:=HMl.out.setAge HK.out.1 HK.out.2.2.1 hBb (j:=j) (by rw[BH];exact hjL) (a+1);rw[DQ L1 j j hjL,if_neg (by omega)]at h9;rw[hnx,hold,if_pos hpos];exact h9
       have HSm:Hid (¬0<a->C5 L1 (j+1)=C5 L1 j):=fun hz=>by
        have ha0:L1[j].age=0:=by omega
        rw[hnx,hold,if_neg hz,<-ha0];refine List.ext_getElem (by rw[bG]) fun m h1 h2=>?_;rw[List.getElem_set];split
        ·rename_i e
         subst e;rw[DQ L1 j j hjL,if_neg (by omega)]
        ·rfl
       clear hnx hold ha lag lfr;by_cases hpos:0<a
       ·have hp1:(0:Int)<(a:Int):=by omega
        have xa:IntKind.i64.wrap ((a:Int)+1)=(a:Int)+1:=by rw[bB];omega
        go_wp2_with fail
        go_roundg gl
        case measure=>omega
        case rel=>exact⟨j+1,by go_num,by omega,HNx.out hpos⟩
       ·have hp1:¬(0:Int)<(a:Int):=by omega
        go_wp2_with fail
        go_roundg gl
        case measure=>omega
        case rel=>exact⟨j+1,by go_num,by omega,by rw[HSm.out hpos];exact HMl.out⟩
   |succ gk=>
    have hlt:(k:Int)<(N:Int):=by omega
    have hkN:k<N:=by omega
    have hk0:(0:Int)<=(k:Int):=by omega
    have hkd:k<dcap:=by omega
    have hkp:k<pcap:=by omega
    obtain⟨dk,hdk⟩:∃t,b0.dirty k=t:=⟨_,rfl⟩;have hqk:=HQ.out k hkN;rw[hdk]at hqk;obtain⟨cdk,hmd,hBd9⟩:=HM.out.marked hkN HK.out.2.2.2.1 HK.out.2.2.2.2.2.1;rw[hdk]at cdk;have fdk:=dfr k;clear hdk;have HQk:=Aa hqk;clear hqk
    go_upto_region 9 with fail
    go_cut [] (fun wx=>Hid (∃n9,wx=(wr.setCell (jA dg k) (.bool (q k))).drewN n9))
    case first=>
     cases dk with
     |true=>
      go_still_tail 16,(by kernel_rfl)
      go_wp2_with fail
      go_meet
      rw[HQk.out];exact⟨1,rfl⟩
     |false=>
      go_still_tail 16,(by kernel_rfl)
      go_wp2_with fail
      go_meet
      rw[HQk.out];exact⟨1,rfl⟩
    case rest=>
     obtain⟨n9,hwc⟩:=hcut.out;subst hwc;clear hcut;have hdt:∀b,b≠dg->((wr.setCell (jA dg k) (.bool (q k))).drewN n9).heap[b]?=wr.heap[b]? :=fun b hb=>aL wr (jA dg k) b _ hb;have hdc9:∀b o,b≠dg->((wr.setCell (jA dg k) (.bool (q k))).drewN n9).cell? (jA b o)=wr.cell? (jA b o):=fun b o hb=>aV (a:=(jA b o)) (hdt b hb);have m0:=(hdc9 bg (i*3) hbg3).trans y0;have m2:=(hdc9 bg (i*3+2) hbg3).trans y2;have mc:=(hdc9 c 0 hcd).trans k0;have md:((wr.setCell (jA dg k) (.bool (q k))).drewN n9).cell? (jA dg k)=some (.bool (q k)):=hmd;have hpp:=HM.out.pp;have hppl:=Ab hpp;have mp1:((wr.setCell (jA dg k) (.bool (q k))).drewN n9).cell? (jA (w.heap.size+1) 1)=some (vj (Az (fun j=>if q j=true then bl j else 0) k)):=(hdc9 _ 1 (by omega)).trans (hpp.cell 1);have hRef:Aw ((wr.setCell (jA dg k) (.bool (q k))).drewN n9) A c st (sj bg nb bcap):=HM.out.ref.keep fun g hg _=>hdt g fun e=>HK.out.1 g hg (e▸hBd9);have hsm:((wr.setCell (jA dg k) (.bool (q k))).drewN n9).heap.size=wr.heap.size:=by simp
     clear y0 y1 y2 k0 k1 k2 cdk fdk hdc9 hmd;generalize hWm:((wr.setCell (jA dg k) (.bool (q k))).drewN n9)=Wm at*;have HWm:=Aa hWm;clear hWm;obtain⟨qk,hqk⟩:∃t,q k=t:=⟨_,rfl⟩;rw[hqk]at md;have hqk9:=Aa hqk;cases qk with
     |false=>
      have hf9:q k=true->False:=fun h9=>by rw[hqk]at h9;cases h9
      have HNx:=Aa (HM.out.mark HK.out.1 HK.out.2.2.1 hN0 HK.out.2.2.2.1 HK.out.2.2.2.2.2.1 hf9);clear hqk hf9 hRef hdt hpp
      go_wp2_with fail
      go_roundg gk
      case measure=>omega
      case rel=>exact⟨k+1,by go_num,by omega,by rw[<-HWm.out];exact HNx.out.below (cS (aN _ _) _)⟩
     |true=>
      obtain⟨X,hX⟩:∃X:Nat,k%Wn=X:=⟨_,rfl⟩;obtain⟨Y,hY⟩:∃Y:Nat,k/Wn=Y:=⟨_,rfl⟩;have hPk:=fun V hV=>HPic.out V k hkN hV;have hBk:=fun V hV=>HBlo.out V k hkN hV;have hY1:Y<=k:=by rw[<-hY];exact Nat.div_le_self _ _
      have hmod:Int.tmod (k:Int) (Wn:Int)=(X:Int):=by rw[<-hX];rfl
      have hdiv:Int.tdiv (k:Int) (Wn:Int)=(Y:Int):=by rw[<-hY];rfl
      have hwy:IntKind.i64.wrap (Y:Int)=(Y:Int):=by rw[bB];omega
      rw[hX,hY]at hPk hBk;have hWn0:¬(Wn:Int)=0:=by omega
      have hWn00:¬Wn=0:=by omega
      have HPk:=Aa hPk;have HBk:=Aa hBk;have HRef:=Aa hRef;have HDt:=Aa hdt;obtain⟨sk,hsk⟩:∃z,Az (fun j=>if q j=true then bl j else 0) k=z:=⟨_,rfl⟩;rw[hsk]at mp1;have HSk:=Aa hsk;have hbk:=HBl1.out k;obtain⟨bk,hbk9⟩:∃z,bl k=z:=⟨_,rfl⟩;rw[hbk9]at hbk HBk;have HBk9:=Aa hbk9;have hskb:0<=sk/\sk<=576000:=by
       have:=CQ (fun j=>if q j=true then bl j else 0) 1000 (by omega) k fun j _=>by
        have:=HBl1.out j;split<;>omega
       rw[hsk]at this;have h9:(k:Int)*1000<=576000:=by omega
       omega
      clear hqk hX hY hPk hBk hRef hdt hsk hbk9;have HS:Hid (∀V:World,(∀g,g<wr.heap.size->g≠pg->V.heap[g]?=Wm.heap[g]?)->V.cell? (jA bg (i*3))=some (sj pg N pcap)/\V.cell? (jA c 0)=some (vj Wn)):=fun V hV=>⟨(aV (a:=(jA bg (i*3))) (hV bg (by omega) hbg4)).trans m0,(aV (a:=(jA c 0)) (hV c (by omega) hcp)).trans mc⟩
      go_upto_region 11 with fail
      have HPs:Hid (∀V:World,V.heap=Wm.heap->Aw V A c st (sj bg nb bcap)):=fun V hV=>HRef.out.keep fun g _ _=>by rw[hV]
      have HPx:Hid (∀V:World,uj Wm V->(∃u,V.cell? (jA pg (k*4))=some u)/\(∃u,V.cell? (jA pg (k*4+1))=some u)/\(∃u,V.cell? (jA pg (k*4+2))=some u)/\(∃u,V.cell? (jA pg (k*4+3))=some u)/\(∀j,V.frozen? (jA pg j)=false)/\pg<V.heap.size):=fun V hV=>by
       have hi':i<(L.set i (⟨fTo q pic b0.f k,b0.age,dTo q b0.dirty k⟩:RB)).length:=by rw[bG];exact HK.out.2.2.2.1
       obtain⟨g9,c9,m9,e9,_,_,hgl,x0,x1,x2,x3⟩:=(HM.out.buf.pix i hi').at (k:=k) (by omega);rw[HK.out.2.2.2.2.1]at e9;injection e9 with e1 _ e3;injection e1 with e1;injection e1 with e1;subst e1;have hpd:pg≠dg:=HPD.out;have e:V.heap[pg]?=wr.heap[pg]? :=by rw[hV.block pg (by omega),<-HWm.out];exact aL wr (jA dg k) pg _ hpd
       exact⟨⟨_,(aV (a:=(jA pg _)) e).trans x0⟩,⟨_,(aV (a:=(jA pg _)) e).trans x1⟩,⟨_,(aV (a:=(jA pg _)) e).trans x2⟩,⟨_,(aV (a:=(jA pg _)) e).trans x3⟩,fun j=>(World.frozen?_of_block (a:=(jA pg j)) e).trans (pfr j),aQ (by omega) hV.size⟩
      clear m0 m2 mc md mp1;unfold Ch at HPk
      go_cut [] (fun wx=>Hid (∃w5 n5,uj Wm w5/\wx=((((w5.setCell (jA pg (k*4)) (.int .u8 (pic k).1)).setCell (jA pg (k*4+1)) (.int .u8 (pic k).2.1)).setCell (jA pg (k*4+2)) (.int .u8 (pic k).2.2.1)).setCell (jA pg (k*4+3)) (.int .u8 (pic k).2.2.2)).drewN n5))
      case first=>
       go_region_held3 (fun w'=>w'.cell? (jA bg (i*3))=some (sj pg N pcap)/\w'.cell? (jA c 0)=some (vj Wn))
        (first
         |exact HS.out _ (fun g _ _=>rfl)
         |exact HS.out _ (fun g hg _=>H5.out.block g (by omega))
         |exact HS.out _ (fun g hg hne=>by rw[aL _ (jA pg (k*4+3)) g _ hne,aL _ (jA pg (k*4+2)) g _ hne,aL _ (jA pg (k*4+1)) g _ hne,aL _ (jA pg (k*4)) g _ hne];exact H5.out.block g (by omega))
         |fail)
        (first
         |(go_at_call 182;refine(HPk.out Wm.drew (HPs.out Wm.drew rfl)).mono ?_;rintro e w5 ⟨rfl,hb5⟩;have hb5':uj Wm w5:=((aN Wm.heap.size Wm).drew.trans hb5);have H5:=Aa hb5';obtain⟨⟨u0,p0⟩,⟨u1,p1⟩,⟨u2,p2⟩,⟨u3,p3⟩,pf,hpl5⟩:=HPx.out w5 hb5';have pf0:=pf (k*4);have pf1:=pf (k*4+1);have pf2:=pf (k*4+2);have pf3:=pf (k*4+3);clear hb5 hb5' pf)
         |fail)
       all_goals go_wp2_with fail
       all_goals go_meet
       all_goals exact⟨w5,0,H5.out,rfl⟩
      case rest=>
       obtain⟨w5,n5,hb5,hwc⟩:=hcut.out;clear hcut;have hs5:=hb5.size;have e5:∀b,b<wr.heap.size->b≠pg->wc.heap[b]?=Wm.heap[b]? :=fun b hb hne=>by
        rw[hwc];show((((w5.setCell (jA pg (k*4)) (.int .u8 (pic k).1)).setCell (jA pg (k*4+1)) (.int .u8 (pic k).2.1)).setCell (jA pg (k*4+2)) (.int .u8 (pic k).2.2.1)).setCell (jA pg (k*4+3)) (.int .u8 (pic k).2.2.2)).heap[b]?=_;rw[aL _ (jA pg (k*4+3)) b _ hne,aL _ (jA pg (k*4+2)) b _ hne,aL _ (jA pg (k*4+1)) b _ hne,aL _ (jA pg (k*4)) b _ hne];exact hb5.block b (by omega)
       have hRc:Aw wc A c st (sj bg nb bcap):=HRef.out.keep fun g hg hl=>e5 g (by omega) fun e=>HK.out.1 g hg (e▸hBp);have hcsz:wr.heap.size<=wc.heap.size:=by rw[hwc];simp;omega
       have mc:=(HS.out wc e5).2;have hblk:Blk wc (w.heap.size+1) 35 #[jj,vj sk]:=by
        have h9:Blk wc (w.heap.size+1) 35 _:=hpp.keep ((e5 (w.heap.size+1) hppl (show w.heap.size+1≠pg by omega)).trans (by rw[<-HWm.out];exact aL wr (jA dg k) (w.heap.size+1) _ (show w.heap.size+1≠dg by omega)));rw[HSk.out]at h9;exact h9
       have HBc:Hid (∀V:World,uj wc V->V.cell? (jA c 0)=some (vj Wn)/\V.cell? (jA (w.heap.size+1) 1)=some (vj sk)/\V.frozen? (jA (w.heap.size+1) 1)=false/\w.heap.size+1<V.heap.size):=fun V hV=>by
        have h9:=hblk.below hV;exact⟨(hV.cell (p:=(jA c 0)) (show c<wc.heap.size by omega)).trans mc,h9.cell 1,h9.has.free 1,Ab h9⟩
       have HRc:Hid (∀V:World,V.heap=wc.heap->Aw V A c st (sj bg nb bcap)):=fun V hV=>hRc.keep fun g _ _=>by rw[hV]
       have HW5:=Aa (aK hb5 hwc);have xa:IntKind.i64.wrap (sk+bk)=sk+bk:=by rw[bB];omega
       obtain⟨c0,c1,c2,c3⟩:=HBc.out wc (aN _ _);clear hwc hRc hblk mc e5 hpp;have HNx:Hid (∀w6:World,uj wc w6->RpM w (w6.setCell (jA (w.heap.size+1) 1) (vj (sk+bk))) A B c st (sj bg nb bcap) N L P D i b0 q pic bl (k+1)):=fun w6 hb6=>by
        have h5:=HW5.out.1;have hwc5:=HW5.out.2;have hWm9:=HWm.out;refine HM.out.paint (w5:=w5) (w6:=w6) HK.out.1 HK.out.2.2.1 HK.out.2.1 hN0 HK.out.2.2.2.1 HK.out.2.2.2.2.2.1 HK.out.2.2.2.2.1 hqk9.out ?_ ?_ (sk+bk) ?_
        ·have e:Below (wr.setCell (jA dg k) (.bool (q k))).heap.size (wr.setCell (jA dg k) (.bool (q k))) Wm:=by rw[<-hWm9];exact cS (aN _ _) _
         refine e.trans (h5.mono ?_);rw[<-hWm9];exact aO _
        ·have hsz:w5.heap.size=wc.heap.size:=by rw[hwc5];simp
         rw[hsz];have e:Below wc.heap.size ((((w5.setCell (jA pg (k*4)) (.int .u8 (pic k).1)).setCell (jA pg (k*4+1)) (.int .u8 (pic k).2.1)).setCell (jA pg (k*4+2)) (.int .u8 (pic k).2.2.1)).setCell (jA pg (k*4+3)) (.int .u8 (pic k).2.2.2)) wc:=by
          have e9:=cS (aN wc.heap.size ((((w5.setCell (jA pg (k*4)) (.int .u8 (pic k).1)).setCell (jA pg (k*4+1)) (.int .u8 (pic k).2.1)).setCell (jA pg (k*4+2)) (.int .u8 (pic k).2.2.1)).setCell (jA pg (k*4+3)) (.int .u8 (pic k).2.2.2))) n5;rw[<-hwc5]at e9;exact e9
         exact e.trans hb6
        ·rw[HSk.out,HBk9.out]
       go_upto_region 12 with fail
       go_region_with (first
        |(go_at_call 183;refine(HBk.out wc.drew (HRc.out wc.drew rfl)).mono ?_;rintro e w6 ⟨rfl,hb6⟩;have hb6':uj wc w6:=((aN wc.heap.size wc).drew.trans hb6);have H6:=Aa hb6';obtain⟨d0,d1,d2,d3⟩:=HBc.out w6 hb6';clear hb6 hb6'))
       all_goals go_wp2_with fail
       all_goals go_roundg gk
       all_goals(first|omega|skip)
       all_goals exact⟨k+1,by go_num,by omega,(HNx.out w6 H6.out)⟩
end Go.Proofs.YtofinpocigbbeaaGreat
