import Derived.Test.YtofinpocigbbeaaGreatKbs
import Derived.Test.YtofinpocigbbeaaGreatKbn
set_option maxHeartbeats 2000000
set_option maxRecDepth 100000
set_option linter.unusedSimpArgs false
namespace Go.Proofs.YtofinpocigbbeaaGreat
open Go.Proofs.Tryz Go.RowKit
attribute [local go_sem ↓] Go.wp_at_zero Go.wp_at_succ
theorem Mc{S:Nat->Prop}{c:Nat}{st:St}{bv:Value}(hw:Wf st)(x y:Int)(hx:0<=x/\x<=100)(hy:0<=y/\y<=100)(w:World)(h:Aw w S c st bv):
  Calls prog 183 #[.pointer (some ⟨c,0,none⟩),.int .i64 x,.int .i64 y] w fun e w'=>e=.returned (.int .i64 (st.picL (st.visAll (-1)) x y).2)/\Below w.heap.size w w':=by
 have HVw:Hid (Calls prog 93 #[.pointer (some ⟨c,0,none⟩)] w (CZ st w)):=FA hw w h;have hDl:=Fz hw (st:=st) (p:= -1) (by omega);rw[Lg,P2];obtain⟨U,hU⟩:∃U,st.vis (st.dfs (-1))=U:=⟨_,rfl⟩;have hUo:∀j∈U,j∈st.order:=fun j hj=>by
  rw[<-hU]at hj;exact Ee hw (p:= -1) (by omega) ((bY.1 hj).1)
 have hUn:U.length<=12:=by
  rw[<-hU];exact bh (ci _ _) hDl
 obtain⟨n,hln⟩:∃n,U.length=n:=⟨_,rfl⟩;have HN:=Aa hln;have HUU:=Aa hU;rw[hU];have HH:Hid (∀(k:Nat) (hk:k<U.length),inR (st.seen U[k]) x y=true->∃(sg sn scap pg pm pcap:Nat) (YW:Int),(∀V:World,Below w.heap.size w V->V.cell? ⟨c,3,none⟩=some (.slice (some ⟨sg,0,none⟩) sn scap)/\V.cell? ⟨sg,U[k]*28+27,none⟩=some (.slice (some ⟨pg,0,none⟩) pm pcap)/\V.cell? ⟨pg,st.ixAt U[k] x y,none⟩=some (.bool (st.hidesAt x y U[k])))/\U[k]<sn/\sn<=scap/\st.ixAt U[k] x y<pm/\pm<=pcap/\(y-st.py U[k])*(st.sf U[k]).now.w=YW/\0<=YW/\YW<=576/\((st.ixAt U[k] x y:Nat):Int)=YW+(x-st.px U[k])/\0<=y-st.py U[k]/\y-st.py U[k]<24/\0<=x-st.px U[k]/\x-st.px U[k]<24/\sn<=100):=fun k hk hin=>by
  obtain⟨j,hj⟩:∃j,U[k]=j:=⟨_,rfl⟩;have hjo:j∈st.order:=by rw[<-hj];exact hUo _ (aZ hk)
  rw[hj]at hin ⊢;have hjl:=hw.lt hjo;have hmd:=hw.made;obtain⟨sv,ov,F,hr,hs⟩:=h;obtain⟨k0,k1,k2,k3,k4,kf,kl⟩:=hr.cells;obtain⟨sg,scap,es,_,hscap,hsgl,scs,_⟩:=hr.at (by omega);subst es;have hix:=G5 hw hin;have lk:=(hw.lk j).1;have hwh:=Int.mul_nonneg lk.w.1 lk.h.1;have hnn:((st.sf j).now.n:Int)=(st.sf j).now.w*(st.sf j).now.h:=by unfold Dm.n;omega
  obtain⟨pg,pcap,pm,hp,hpm,hpc,_,hpl,q0,_⟩:=(hs.dat j hjl).kept.at (q:=st.ixAt j x y) (by omega);have d4:=scs j hjl 27 (by omega);rw[hp]at d4;have hh:st.hidesAt x y j=(st.sf j).kept (st.ixAt j x y):=by unfold St.hidesAt;rw[hin];rfl
  rw[hh];obtain⟨i1,i2,i3,i4,i5,i6,i7,i8,i9⟩:=P1 hw hin;exact⟨sg,_,scap,pg,pm,pcap,_,fun V hV=>⟨(hV.cell (p:=⟨c,3,none⟩) kl).trans k3,(hV.cell (p:=⟨sg,j*28+27,none⟩) hsgl).trans d4,(hV.cell (p:=⟨pg,_,none⟩) hpl).trans q0⟩,hjl,hscap,by omega,hpc,rfl,i8,i9,i1,i2,i3,i4,i5,by omega⟩
 have HPlim:Hid (∀k (hk:k<U.length),(-100000<=st.px U[k]/\st.px U[k]<=100000)/\(-100000<=st.py U[k]/\st.py U[k]<=100000)):=fun k hk=>by
  have hjl:=hw.lt (hUo _ (aZ hk));have pl:=EU hw (U[k]:Int) (by omega);omega
 have hx0:=hx.1;have hx1:=hx.2;have hy0:=hy.1;have hy1:=hy.2;rw[hln]at hUn;have hcl:c<w.heap.size:=by
  obtain⟨sv,ov,F,hr,hs⟩:=h;exact(aM.1 hr.scr).1
 clear h hln hU hUo hx hy hDl;go_enter func183,ntmps183
 go_wp2_with(go_at_call 93;refine HVw.out.mono ?_;rintro e w2 ⟨u,rfl,hu,hb2⟩;rw[HUU.out]at hu;obtain⟨ua,uc,huf⟩:=Al hu;rw[HN.out]at huf;subst huf;have HU2:=Aa hu;have HB2:=Aa hb2;clear hb2 hu)
 go_loopg [7,9] n (fun gg s7 s9 wr=>∃m:Nat,s7=.int .i64 m/\m=st.cnt x y (U.drop gg)/\s9=.int .i64 ((gg:Int)-1)/\gg<=n/\(∀j (hj:j<U.length),gg<=j->st.hidesAt x y U[j]=false)/\Below w2.heap.size w2 wr)
 case atStart=>exact⟨0,rfl,by rw[List.drop_of_length_le (by have:=HN.out;omega)];rfl,by go_num,aO _,fun j hj h=>by have:=HN.out;omega,aN _ _⟩
 case round=>
  rename World=>wr;obtain⟨m,rfl,hm,rfl,hgn,hno,hbel⟩:=hrel;have hml:m<=12:=by
   rw[hm];have:=SK st x y (U.drop gk);rw[cC,HN.out]at this;omega
  have HM:=Aa (aK hm (aK hno hbel));clear hm hno;cases gk with
  |zero=>
   have hlt:¬(0:Int)<=((0:Nat):Int)-1:=by omega
   clear hbel;go_wp2;go_ret;refine⟨CI ?_,HB2.out.trans (HM.out.2.2.mono HB2.out.size)⟩;have h9:=HM.out.1;rw[List.drop_zero]at h9;rw[h9,Vy fun j hj=>HM.out.2.1 j hj (cB _)]
  |succ gk=>
   have hg1:((gk+1:Nat):Int)-1=(gk:Int):=by omega
   have hkU:gk<U.length:=by have:=HN.out;omega
   obtain⟨vg,vcap,hvf,hvc,hvl,hvcs,vcur,hvt⟩:=(HU2.out.keep (w':=wr) fun g hg=>hbel.block g (HU2.out.lt g hg).2).at hkU;rw[HN.out]at hvf hvc;injection hvf with hv1 hv2 hv3;subst hv1 hv3;have hdr:U.drop gk=U[gk]::U.drop (gk+1):=List.drop_eq_getElem_cons hkU;have hcn:=TQ st x y U[gk] (U.drop (gk+1));rw[<-hdr,<-HM.out.1]at hcn;have hHk:=HH.out gk hkU;have hPl:=HPlim.out gk hkU;have v0:=hvcs 0 _ rfl;have v1:=hvcs 1 _ rfl;have v2:=hvcs 2 _ rfl;have v3:=hvcs 3 _ rfl;have v5:=hvcs 5 _ rfl;have v6:=hvcs 6 _ rfl;have v7:=hvcs 7 _ rfl;have v8:=hvcs 8 _ rfl;rw[Nat.add_zero]at v0;have HHit:Hid (st.hidesAt x y U[gk]=true->st.unh U x y=U.drop gk):=fun h0=>Xa hkU h0 fun j hj h1=>HM.out.2.1 j hj (by omega);have HNo:Hid (st.hidesAt x y U[gk]=false->∀j (hj:j<U.length),gk<=j->st.hidesAt x y U[j]=false):=fun h0 j hj h1=>by
    by_cases e:j=gk
    ·subst e;exact h0
    ·exact HM.out.2.1 j hj (by omega)
   have hout:inR (st.seen U[gk]) x y=false->st.hidesAt x y U[gk]=false:=fun h0=>by unfold St.hidesAt;rw[h0];rfl
   obtain⟨j,hj⟩:∃j,U[gk]=j:=⟨_,rfl⟩;rw[hj]at hcn hHk hPl v0 v1 v2 v3 v5 v6 v7 v8 HHit HNo hout;obtain⟨R,hR⟩:∃R,st.seen j=R:=⟨_,rfl⟩;rw[hR]at hcn hHk v5 v6 v7 v8 hout;obtain⟨q,hq⟩:∃q,st.ixAt j x y=q:=⟨_,rfl⟩;rw[hq]at hHk;obtain⟨PX,hPX⟩:∃p,st.px j=p:=⟨_,rfl⟩;obtain⟨PY,hPY⟩:∃p,st.py j=p:=⟨_,rfl⟩;obtain⟨NW,hNW⟩:∃p,(st.sf j).now.w=p:=⟨_,rfl⟩;rw[hPX]at hHk hPl v1;rw[hPY]at hHk hPl v2;rw[hNW]at hHk v3;have HHas:Hid (∀V:World,Blk V wr.heap.size 53 #[.int .i64 R.1,.int .i64 R.2.1,.int .i64 R.2.2.1,.int .i64 R.2.2.2]->Calls prog 122 #[.slice (some ⟨wr.heap.size,0,none⟩) 1 1,.int .i64 x,.int .i64 y] V fun e w'=>e=.returned (.bool (inR R x y))/\w'=V):=fun V hV=>by
    have:=DK [R] (.slice (some ⟨wr.heap.size,0,none⟩) 1 1) x y V ⟨_,_,rfl,fun _=>⟨_,_,rfl,fun i hi=>by
     have:i=0:=by simp at hi;exact hi
     subst this;exact⟨hV.cell 0,hV.cell 1,hV.cell 2,hV.cell 3⟩⟩⟩ (by simp[maxLen])
    rw[show AE [R] x y=inR R x y by simp[AE]]at this;exact this
   obtain⟨t,ht⟩:∃t,inR R x y=t:=⟨_,rfl⟩;rw[ht]at HHas hcn hHk;have hkc:gk<uc:=by omega
   have hk0:(0:Int)<=(gk:Int):=by omega
   have hkn:(gk:Int)<(n:Int):=by omega
   have hs2:=HB2.out.size;have hs3:=hbel.size;rw[hg1];cases t with
   |false=>
    have HNo2:=Aa (HNo.out (hout ht));rw[if_neg (by simp),Nat.zero_add]at hcn;have HCn:=Aa hcn;clear hcn hR hq hPX hPY hNW ht hj hvcs hHk HH HPlim HVw hout hdr HHit HNo hbel
    go_wp2_with(go_at_call 122;refine(HHas.out _ (aR wr _)).mono ?_;rintro e w' ⟨rfl,hw'⟩;replace hw':=hw'.symm;subst hw')
    go_roundg gk
    case measure=>omega
    case rel=>exact⟨m,rfl,HCn.out.symm,by go_num,by omega,HNo2.out,HM.out.2.2.alloc hs3 _⟩
   |true=>
    rw[if_pos rfl]at hcn;have HCn:=Aa hcn;obtain⟨sg,sn,scap,pg,pm,pcap,YW,hcells,b1,b2,b3,b4,b8,b9,b10,b11,b12,b13,b14,b15,b16⟩:=hHk rfl;obtain⟨hd,hhd⟩:∃t,st.hidesAt x y j=t:=⟨_,rfl⟩;have hbw:Below w.heap.size w (wr.alloc (.cells #[.int .i64 R.1,.int .i64 R.2.1,.int .i64 R.2.2.1,.int .i64 R.2.2.2] 53)):=(HB2.out.trans (hbel.mono hs2)).alloc (by omega) _;obtain⟨g1,g2,g3⟩:=hcells _ hbw;rw[hhd]at g3 HHit HNo;have x1:IntKind.i64.wrap (y-PY)=y-PY:=by rw[bB];omega
    have x2:IntKind.i64.wrap ((y-PY)*NW)=YW:=by rw[bB];omega
    have x3:IntKind.i64.wrap (YW+x)=YW+x:=by rw[bB];omega
    have x4:IntKind.i64.wrap (YW+x-PX)=(q:Int):=by rw[bB];omega
    have hjn:(j:Int)<(sn:Int):=by omega
    have hj0:(0:Int)<=(j:Int):=by omega
    have hjc:j<scap:=by omega
    have hqm:(q:Int)<(pm:Int):=by omega
    have hq0:(0:Int)<=(q:Int):=by omega
    have hqc:q<pcap:=by omega
    have e0:=(BI wr (.cells #[.int .i64 R.1,.int .i64 R.2.1,.int .i64 R.2.2.1,.int .i64 R.2.2.2] 53) vg (gk*9) hvl).trans v0;have e1:=(BI wr (.cells #[.int .i64 R.1,.int .i64 R.2.1,.int .i64 R.2.2.1,.int .i64 R.2.2.2] 53) vg (gk*9+1) hvl).trans v1;have e2:=(BI wr (.cells #[.int .i64 R.1,.int .i64 R.2.1,.int .i64 R.2.2.1,.int .i64 R.2.2.2] 53) vg (gk*9+2) hvl).trans v2;have e3:=(BI wr (.cells #[.int .i64 R.1,.int .i64 R.2.1,.int .i64 R.2.2.1,.int .i64 R.2.2.2] 53) vg (gk*9+3) hvl).trans v3;have HB9:=Aa (aK hbw (HM.out.2.2.alloc hs3 (.cells #[.int .i64 R.1,.int .i64 R.2.1,.int .i64 R.2.2.1,.int .i64 R.2.2.2] 53)));clear hcn hR hq hPX hPY hNW ht hj hvcs hHk HH HPlim HVw hout hdr hcells hbel hbw hhd b8 b9 b10 b11 b12 b13 b14 b15 hPl
    go_upto_region 9 with(go_at_call 122;refine(HHas.out _ (aR wr _)).mono ?_;rintro e w' ⟨rfl,hw'⟩;replace hw':=hw'.symm;subst hw')
    clear v0 v1 v2 v3 v5 v6 v7 v8;generalize wr.alloc (.cells #[.int .i64 R.1,.int .i64 R.2.1,.int .i64 R.2.2.1,.int .i64 R.2.2.2] 53)=W1 at*;cases hd with
    |true=>
     go_quiet (fail)
     go_wp2_with fail
     go_ret;refine⟨CI ?_,?_⟩
     ·rw[HHit.out trivial,HCn.out];go_num
     ·exact cS HB9.out.1 _
    |false=>
     go_quiet (fail)
     go_wp2_with fail
     go_roundg gk
     case measure=>omega
     case rel=>exact⟨m+1,by go_num,by rw[HCn.out];omega,by go_num,by omega,HNo.out trivial,cS HB9.out.2 _⟩
variable{B S:Nat->Prop}{D P:Nat->Value}{L:List RB}{N cap g i m:Nat}{bv v:Value}{f f':Nat->R4}{n:Int}{w w':World}
theorem AC.keepB(h:AC w S v n f)(hk:∀g,v.ownBlock=some g->w'.heap[g]?=w.heap[g]?):AC w' S v n f:=by
 obtain⟨m,h1,h2⟩:=h;exact⟨m,h1,Ai h2.1 hk,h2.2⟩
theorem AC.congr(h:AC w S v n f)(he:∀i:Nat,(i:Int)<n->f' i=f i):AC w S v n f':=by
 obtain⟨m,h1,h2⟩:=h;refine⟨m,h1,?_⟩;have:pxL f' m=pxL f m:=by
  unfold pxL;exact List.map_congr_left fun i hi=>he i (by have:=cf.1 hi;omega)
 rw[this];exact h2
theorem AH.put{k:Nat->Bool}(h:AH w S (.slice (some ⟨g,0,none⟩) m cap) n k)(q:Nat)(b:Bool):AH (w.setCell ⟨g,q,none⟩ (.bool b)) S (.slice (some ⟨g,0,none⟩) m cap) n fun j=>if j=q then b else k j:=by
 obtain⟨m',h1,h2⟩:=h;have e:m'=m:=by
  obtain⟨a,c,e⟩:=h2.form;injection e with _ e _;exact e.symm
 subst e;refine⟨m',h1,?_⟩;have h3:=h2.set q (.bool b);have e2:((List.range m').map fun i=>Value.bool (k i)).set q (.bool b)=(List.range m').map fun j=>Value.bool (if j=q then b else k j):=by
  refine List.ext_getElem? fun j=>?_;rw[bW,bZ,bZ];by_cases hj:j<m'
  ·rw[List.getElem?_range hj];by_cases ej:q=j
   ·subst ej;simp[hj]
   ·rw[if_neg ej];simp only[Option.map_some];rw[if_neg (fun e=>ej e.symm)]
  ·have hn:(List.range m')[j]?=none:=cD (by simp;omega);rw[hn];by_cases ej:q=j
   ·subst ej;rw[if_pos rfl,if_neg (by simp;omega)];rfl
   ·rw[if_neg ej];rfl
 rw[e2]at h3;exact h3
theorem Oi(f:Nat->R4)(m q:Nat)(p:R4):((((Aq (pxL f m)).set (q*4) (.int .u8 p.1)).set (q*4+1) (.int .u8 p.2.1)).set (q*4+2) (.int .u8 p.2.2.1)).set (q*4+3) (.int .u8 p.2.2.2)=Aq (pxL (fun j=>if j=q then p else f j) m):=by
 refine List.ext_getElem? fun j=>?_;have hl:∀f':Nat->R4,(Aq (pxL f' m)).length=m*4:=fun f'=>by rw[BM,B9]
 by_cases hj:j<m*4
 ·have hk:j/4<m:=by omega
  have at4:∀f':Nat->R4,(Aq (pxL f' m))[j]?=some (if j%4=0 then .int .u8 (f' (j/4)).1 else if j%4=1 then .int .u8 (f' (j/4)).2.1 else if j%4=2 then .int .u8 (f' (j/4)).2.2.1 else .int .u8 (f' (j/4)).2.2.2):=fun f'=>by
   obtain⟨p0,p1,p2,p3⟩:=Bk (pxL f' m) (j/4) (by rw[B9];exact hk);have hg:(pxL f' m)[j/4]'(by rw[B9];exact hk)=f' (j/4):=by simp[pxL]
   rw[hg]at p0 p1 p2 p3;have h4:j%4=0\/j%4=1\/j%4=2\/j%4=3:=by omega
   rcases h4 with e|e|e|e
   ·have eq:j/4*4=j:=by omega
    rw[eq]at p0;rw[p0,if_pos e]
   ·have eq:j/4*4+1=j:=by omega
    rw[eq]at p1;rw[p1,if_neg (by omega),if_pos e]
   ·have eq:j/4*4+2=j:=by omega
    rw[eq]at p2;rw[p2,if_neg (by omega),if_neg (by omega),if_pos e]
   ·have eq:j/4*4+3=j:=by omega
    rw[eq]at p3;rw[p3,if_neg (by omega),if_neg (by omega),if_neg (by omega)]
  rw[at4];simp only[bW,bG,hl];by_cases e:j/4=q
  ·rw[if_pos e];have h4:j%4=0\/j%4=1\/j%4=2\/j%4=3:=by omega
   rcases h4 with e4|e4|e4|e4
   ·have e5:j=q*4:=by omega
    subst e5;rw[if_neg (by omega),if_neg (by omega),if_neg (by omega),if_pos rfl,if_pos (by omega),if_pos e4]
   ·have e5:j=q*4+1:=by omega
    subst e5;rw[if_neg (by omega),if_neg (by omega),if_pos rfl,if_pos (by omega),if_neg (by omega),if_pos e4]
   ·have e5:j=q*4+2:=by omega
    subst e5;rw[if_neg (by omega),if_pos rfl,if_pos (by omega),if_neg (by omega),if_neg (by omega),if_pos e4]
   ·have e5:j=q*4+3:=by omega
    subst e5;rw[if_pos rfl,if_pos (by omega),if_neg (by omega),if_neg (by omega),if_neg (by omega)]
  ·rw[if_neg (by omega),if_neg (by omega),if_neg (by omega),if_neg (by omega),at4,if_neg e]
 ·rw[cD (by simp only[bG,hl];omega),cD (by rw[hl];omega)]
theorem AC.put(h:AC w S (.slice (some ⟨g,0,none⟩) m cap) n f)(q:Nat)(p:R4):AC ((((w.setCell ⟨g,q*4,none⟩ (.int .u8 p.1)).setCell ⟨g,q*4+1,none⟩ (.int .u8 p.2.1)).setCell ⟨g,q*4+2,none⟩ (.int .u8 p.2.2.1)).setCell ⟨g,q*4+3,none⟩ (.int .u8 p.2.2.2)) S (.slice (some ⟨g,0,none⟩) m cap) n fun j=>if j=q then p else f j:=by
 obtain⟨m',h1,h2⟩:=h;have e:m'=m:=by
  obtain⟨a,c,e⟩:=h2.form;injection e with _ e _;exact e.symm
 subst e;refine⟨m',h1,?_⟩;rw[<-Oi];exact(((h2.set _ _).set _ _).set _ _).set _ _
theorem AG.pixForm(h:AG w B bv N L P D)(hN:0<N)(hi:i<L.length):∃g cap,P i=.slice (some ⟨g,0,none⟩) N cap/\N<=cap/\B g/\g<w.heap.size/\(∃cur,w.heap[g]?=some (.cells cur 51 (0,0)))/\(∀j,w.frozen? ⟨g,j,none⟩=false):=by
 obtain⟨m,h1,h2⟩:=h.pix i hi;have hm:m=N:=by omega
 subst hm;obtain⟨g,cap,e1,e2,e3,e4,e5,e6⟩:=h2.open hN;exact⟨g,cap,e1,e3,e2,e4,h2.type (by rw[e1];rfl),e6⟩
theorem AG.dirForm(h:AG w B bv N L P D)(hN:0<N)(hi:i<L.length):∃g cap,D i=.slice (some ⟨g,0,none⟩) N cap/\N<=cap/\B g/\g<w.heap.size/\(∃cur,w.heap[g]?=some (.cells cur 4 (0,0)))/\(∀j,w.frozen? ⟨g,j,none⟩=false):=by
 obtain⟨m,h1,h2⟩:=h.dir i hi;have hm:m=N:=by omega
 subst hm;obtain⟨g,cap,e1,e2,e3,e4,e5,e6⟩:=h2.open hN;exact⟨g,cap,e1,e3,e2,e4,h2.type (by rw[e1];rfl),e6⟩
theorem AG.rowForm(h:AG w B bv N L P D)(hn:0<L.length):∃g cap,bv=.slice (some ⟨g,0,none⟩) L.length cap/\L.length<=cap/\B g/\g<w.heap.size/\(∃cur,w.heap[g]?=some (.cells cur 204 (0,0)))/\(∀j,w.frozen? ⟨g,j,none⟩=false)/\∀i (hi:i<L.length),w.cell? ⟨g,i*3,none⟩=some (P i)/\w.cell? ⟨g,i*3+1,none⟩=some (.int .i64 L[i].age)/\w.cell? ⟨g,i*3+2,none⟩=some (D i):=by
 obtain⟨xs,h1,h2⟩:=h.row;obtain⟨g,cap,e1,e2,e3,e4,e5,e6⟩:=h1.open hn;exact⟨g,cap,e1,e3,e2,e4,h1.type (by rw[e1];rfl),e6,fun i hi=>⟨e5 _ _ (h2 i hi).1,e5 _ _ (h2 i hi).2.1,e5 _ _ (h2 i hi).2.2⟩⟩
theorem AG.put(h:AG w B bv N L P D)(hi:i<L.length){gp gd:Nat}(hP:(P i).ownBlock=some gp)(hD:(D i).ownBlock=some gd)(hk:∀g,B g->g≠gp->g≠gd->g<w.heap.size->w'.heap[g]?=w.heap[g]?){q':Nat->Bool}(hp:AC w' B (P i) N f')(hd:AH w' B (D i) N q'):AG w' B bv N (L.set i ⟨f',L[i].age,q'⟩) P D:=by
 obtain⟨cp,hcp⟩:∃cur,w.heap[gp]?=some (.cells cur 51 (0,0)):=let ⟨m,_,h2⟩:=h.pix i hi;h2.type hP
 obtain⟨cd,hcd⟩:∃cur,w.heap[gd]?=some (.cells cur 4 (0,0)):=let ⟨m,_,h2⟩:=h.dir i hi;h2.type hD
 have hs:∀j (hj:j<(L.set i ⟨f',L[i].age,q'⟩).length),(L.set i ⟨f',L[i].age,q'⟩)[j]=if i=j then⟨f',L[i].age,q'⟩else L[j]'(by simpa using hj):=fun j hj=>by rw[List.getElem_set]
 refine⟨?_,by rw[bG];exact h.few,fun j hj=>?_,fun j hj=>?_,by rw[bG];exact h.apP,by rw[bG];exact h.apD⟩
 ·obtain⟨xs,h1,h2⟩:=h.row;refine⟨xs,?_,fun j hj=>?_⟩
  ·rw[bG];refine⟨Ai h1.1 fun g hg=>?_,h1.2⟩;obtain⟨cur,hc⟩:=h1.type hg;exact hk g (h1.2 g hg) (Aj hc hcp (by decide)) (Aj hc hcd (by decide)) (aM.1 hc).1
  ·have hj2:j<L.length:=by simpa using hj
   rw[hs j hj];by_cases e:i=j
   ·subst e;rw[if_pos rfl];exact h2 i hj2
   ·rw[if_neg e];exact h2 j hj2
 ·have hj2:j<L.length:=by simpa using hj
  rw[hs j hj];by_cases e:i=j
  ·subst e;rw[if_pos rfl];exact hp
  ·rw[if_neg e];refine(h.pix j hj2).keepB fun g hg=>?_;obtain⟨m,_,h2⟩:=h.pix j hj2;obtain⟨cur,hc⟩:=h2.type hg;exact hk g (h2.2 g hg) (fun e2=>h.apP i j hi hj2 e gp hP (by rw[<-e2];exact hg)) (Aj hc hcd (by decide)) (aM.1 hc).1
 ·have hj2:j<L.length:=by simpa using hj
  rw[hs j hj];by_cases e:i=j
  ·subst e;rw[if_pos rfl];exact hd
  ·rw[if_neg e];refine(h.dir j hj2).keepB fun g hg=>?_;obtain⟨m,_,h2⟩:=h.dir j hj2;obtain⟨cur,hc⟩:=h2.type hg;exact hk g (h2.2 g hg) (Aj hc hcp (by decide)) (fun e2=>h.apD i j hi hj2 e gd hD (by rw[<-e2];exact hg)) (aM.1 hc).1
theorem AG.setAge{n:Nat}(h:AG w B (.slice (some ⟨g,0,none⟩) n cap) N L P D)(hi:i<L.length)(a:Nat):AG (w.setCell ⟨g,i*3+1,none⟩ (.int .i64 a)) B (.slice (some ⟨g,0,none⟩) n cap) N (L.set i {L[i]with age:=a}) P D:=by
 obtain⟨xs,h1,h2⟩:=h.row;obtain⟨cur,hcur⟩:=h1.type (g:=g) rfl;have hn:n=L.length:=by
  obtain⟨a,c,e⟩:=h1.form;injection e with _ e _
 subst hn;have hk:∀(T:TypeId),T≠204->∀(b:Nat) (c:Array Value),w.heap[b]?=some (.cells c T (0,0))->(w.setCell ⟨g,i*3+1,none⟩ (.int .i64 a)).heap[b]?=w.heap[b]? :=fun T hT b c hb=>aL w ⟨g,i*3+1,none⟩ b _ (Aj hb hcur hT);have hs:∀j (hj:j<(L.set i {L[i]with age:=a}).length),(L.set i {L[i]with age:=a})[j]=if i=j then{L[i]with age:=a}else L[j]'(by simpa using hj):=fun j hj=>by rw[List.getElem_set]
 have hxl:=h1.len;refine⟨⟨xs.set (i*3+1) (.int .i64 a),by rw[bG];exact h1.set _ _,fun j hj=>?_⟩,by rw[bG];exact h.few,fun j hj=>?_,fun j hj=>?_,by rw[bG];exact h.apP,by rw[bG];exact h.apD⟩
 ·have hj2:j<L.length:=by simpa using hj
  obtain⟨x0,x1,x2⟩:=h2 j hj2;rw[hs j hj,bW,bW,bW,if_neg (by omega),if_neg (show¬i*3+1=j*3+2 by omega)];by_cases e:i=j
  ·subst e;rw[if_pos rfl,if_pos rfl,if_pos (by omega)];exact⟨x0,rfl,x2⟩
  ·rw[if_neg (by omega),if_neg e];exact⟨x0,x1,x2⟩
 ·have hj2:j<L.length:=by simpa using hj
  rw[hs j hj];by_cases e:i=j
  ·subst e;rw[if_pos rfl];exact(h.pix i hj2).other (hk _ (by decide))
  ·rw[if_neg e];exact(h.pix j hj2).other (hk _ (by decide))
 ·have hj2:j<L.length:=by simpa using hj
  rw[hs j hj];by_cases e:i=j
  ·subst e;rw[if_pos rfl];exact(h.dir i hj2).other (hk _ (by decide))
  ·rw[if_neg e];exact(h.dir j hj2).other (hk _ (by decide))
theorem AG.setDir{n:Nat}(h:AG w B (.slice (some ⟨g,0,none⟩) n cap) N L P D)(hi:i<L.length){q:Nat->Bool}(hv:AH w B v N q)(hap:∀j,j<L.length->j≠i->∀b,v.ownBlock=some b->(D j).ownBlock≠some b):AG (w.setCell ⟨g,i*3+2,none⟩ v) B (.slice (some ⟨g,0,none⟩) n cap) N (L.set i {L[i]with dirty:=q}) P fun j=>if j=i then v else D j:=by
 obtain⟨xs,h1,h2⟩:=h.row;obtain⟨cur,hcur⟩:=h1.type (g:=g) rfl;have hn:n=L.length:=by
  obtain⟨a,c,e⟩:=h1.form;injection e with _ e _
 subst hn;have hk:∀(T:TypeId),T≠204->∀(b:Nat) (c:Array Value),w.heap[b]?=some (.cells c T (0,0))->(w.setCell ⟨g,i*3+2,none⟩ v).heap[b]?=w.heap[b]? :=fun T hT b c hb=>aL w ⟨g,i*3+2,none⟩ b _ (Aj hb hcur hT);have hs:∀j (hj:j<(L.set i {L[i]with dirty:=q}).length),(L.set i {L[i]with dirty:=q})[j]=if i=j then{L[i]with dirty:=q}else L[j]'(by simpa using hj):=fun j hj=>by rw[List.getElem_set]
 have hxl:=h1.len;refine⟨⟨xs.set (i*3+2) v,by rw[bG];exact h1.set _ _,fun j hj=>?_⟩,by rw[bG];exact h.few,fun j hj=>?_,fun j hj=>?_,by rw[bG];exact h.apP,?_⟩
 ·have hj2:j<L.length:=by simpa using hj
  obtain⟨x0,x1,x2⟩:=h2 j hj2;rw[hs j hj,bW,bW,bW,if_neg (by omega),if_neg (show¬i*3+2=j*3+1 by omega)];by_cases e:i=j
  ·subst e;rw[if_pos rfl,if_pos rfl,if_pos (by omega),if_pos rfl];exact⟨x0,x1,rfl⟩
  ·rw[if_neg e,if_neg (show¬i*3+2=j*3+2 by omega),if_neg (fun e2=>e e2.symm)];exact⟨x0,x1,x2⟩
 ·have hj2:j<L.length:=by simpa using hj
  rw[hs j hj];by_cases e:i=j
  ·subst e;rw[if_pos rfl];exact(h.pix i hj2).other (hk _ (by decide))
  ·rw[if_neg e];exact(h.pix j hj2).other (hk _ (by decide))
 ·have hj2:j<L.length:=by simpa using hj
  rw[hs j hj];by_cases e:i=j
  ·subst e;rw[if_pos rfl,if_pos rfl];exact hv.other (hk _ (by decide))
  ·rw[if_neg e,if_neg (fun e2=>e e2.symm)];exact(h.dir j hj2).other (hk _ (by decide))
 ·rw[bG];intro a b ha hb hne g' hg' hg2;by_cases ea:a=i
  ·subst ea;rw[if_pos rfl]at hg';rw[if_neg (fun e=>hne e.symm)]at hg2;exact hap b hb (fun e=>hne e.symm) g' hg' hg2
  ·rw[if_neg ea]at hg';by_cases eb:b=i
   ·subst eb;rw[if_pos rfl]at hg2;exact hap a ha ea g' hg2 hg'
   ·rw[if_neg eb]at hg2;exact h.apD a b ha hb hne g' hg' hg2
theorem AG.setPix{n:Nat}(h:AG w B (.slice (some ⟨g,0,none⟩) n cap) N L P D)(hi:i<L.length)(hv:AC w B v N f)(hap:∀j,j<L.length->j≠i->∀b,v.ownBlock=some b->(P j).ownBlock≠some b):AG (w.setCell ⟨g,i*3,none⟩ v) B (.slice (some ⟨g,0,none⟩) n cap) N (L.set i {L[i]with f:=f}) (fun j=>if j=i then v else P j) D:=by
 obtain⟨xs,h1,h2⟩:=h.row;obtain⟨cur,hcur⟩:=h1.type (g:=g) rfl;have hn:n=L.length:=by
  obtain⟨a,c,e⟩:=h1.form;injection e with _ e _
 subst hn;have hk:∀(T:TypeId),T≠204->∀(b:Nat) (c:Array Value),w.heap[b]?=some (.cells c T (0,0))->(w.setCell ⟨g,i*3,none⟩ v).heap[b]?=w.heap[b]? :=fun T hT b c hb=>aL w ⟨g,i*3,none⟩ b _ (Aj hb hcur hT);have hs:∀j (hj:j<(L.set i {L[i]with f:=f}).length),(L.set i {L[i]with f:=f})[j]=if i=j then{L[i]with f:=f}else L[j]'(by simpa using hj):=fun j hj=>by rw[List.getElem_set]
 have hxl:=h1.len;refine⟨⟨xs.set (i*3) v,by rw[bG];exact h1.set _ _,fun j hj=>?_⟩,by rw[bG];exact h.few,fun j hj=>?_,fun j hj=>?_,?_,by rw[bG];exact h.apD⟩
 ·have hj2:j<L.length:=by simpa using hj
  obtain⟨x0,x1,x2⟩:=h2 j hj2;rw[hs j hj,bW,bW,bW,if_neg (show¬i*3=j*3+1 by omega),if_neg (show¬i*3=j*3+2 by omega)];by_cases e:i=j
  ·subst e;rw[if_pos rfl,if_pos rfl,if_pos (by omega),if_pos rfl];exact⟨rfl,x1,x2⟩
  ·rw[if_neg (by omega),if_neg e,if_neg (fun e2=>e e2.symm)];exact⟨x0,x1,x2⟩
 ·have hj2:j<L.length:=by simpa using hj
  rw[hs j hj];by_cases e:i=j
  ·subst e;rw[if_pos rfl,if_pos rfl];exact hv.other (hk _ (by decide))
  ·rw[if_neg e,if_neg (fun e2=>e e2.symm)];exact(h.pix j hj2).other (hk _ (by decide))
 ·have hj2:j<L.length:=by simpa using hj
  rw[hs j hj];by_cases e:i=j
  ·subst e;rw[if_pos rfl];exact(h.dir i hj2).other (hk _ (by decide))
  ·rw[if_neg e];exact(h.dir j hj2).other (hk _ (by decide))
 ·rw[bG];intro a b ha hb hne g' hg' hg2;by_cases ea:a=i
  ·subst ea;rw[if_pos rfl]at hg';rw[if_neg (fun e=>hne e.symm)]at hg2;exact hap b hb (fun e=>hne e.symm) g' hg' hg2
  ·rw[if_neg ea]at hg';by_cases eb:b=i
   ·subst eb;rw[if_pos rfl]at hg2;exact hap a ha ea g' hg2 hg'
   ·rw[if_neg eb]at hg2;exact h.apP a b ha hb hne g' hg' hg2
def RB.older(b:RB):RB:={b with age:=if 0<b.age then b.age+1 else 0}
def C5(L:List RB)(k:Nat):List RB:=L.mapIdx fun j b=>if j<k then b.older else b
theorem BH(L:List RB)(k:Nat):(C5 L k).length=L.length:=by unfold C5;rw[List.length_mapIdx]
theorem Qi(L:List RB):C5 L 0=L:=by
 refine List.ext_getElem (BH L 0) fun j h1 h2=>?_;simp[C5]
theorem DQ(L:List RB)(k j:Nat)(hj:j<L.length)(hj':j<(C5 L k).length):(C5 L k)[j]=if j<k then L[j].older else L[j]:=by simp[C5]
theorem Qj(L:List RB)(k:Nat)(hk:k<L.length):C5 L (k+1)=(C5 L k).set k L[k].older:=by
 refine List.ext_getElem (by rw[bG,BH,BH]) fun j h1 h2=>?_;have hj:j<L.length:=by rw[BH]at h1;exact h1
 rw[DQ L (k+1) j hj,List.getElem_set];by_cases e:k=j
 ·subst e;rw[if_pos (by omega),if_pos rfl]
 ·rw[if_neg e,DQ L k j hj];by_cases e2:j<k
  ·rw[if_pos (by omega),if_pos e2]
  ·rw[if_neg (by omega),if_neg e2]
theorem RR(L:List RB)(i:Nat)(f:Nat->R4)(a:Nat)(L1:List RB)(hL1:L1=L.set i ⟨f,a,fun _=>false⟩)(hl:i<(C5 L1 L1.length).length):(C5 L1 L1.length).set i { (C5 L1 L1.length)[i]with age:=1} =Cy L i f:=by
 subst hL1;refine List.ext_getElem (by rw[bG,BH,bG];unfold Cy;rw[List.length_mapIdx]) fun j h1 h2=>?_;have hj:j<L.length:=by rw[bG,BH,bG]at h1;exact h1
 rw[List.getElem_set];have hr:(Cy L i f)[j]=if j=i then⟨f,1,fun _=>false⟩else{L[j]with age:=if 0<L[j].age then L[j].age+1 else 0} :=List.getElem_mapIdx
 rw[hr];by_cases e:i=j
 ·subst e;rw[if_pos rfl,if_pos rfl,DQ _ _ _ (by simpa using hj),if_pos (by simpa using hj)];simp[RB.older]
 ·rw[if_neg e,if_neg (fun e2=>e e2.symm),DQ _ _ _ (by simpa using hj),if_pos (by simpa using hj),List.getElem_set,if_neg e];rfl
end Go.Proofs.YtofinpocigbbeaaGreat
