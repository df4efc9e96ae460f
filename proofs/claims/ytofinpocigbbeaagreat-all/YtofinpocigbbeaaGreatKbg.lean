import Derived.Test.YtofinpocigbbeaaGreatKaw
set_option maxHeartbeats 4000000
set_option maxRecDepth 100000
set_option linter.unusedSimpArgs false
namespace Go.Proofs.YtofinpocigbbeaaGreat
open Go.Proofs.Tryz Go.RowKit
attribute [local go_sem ↓] Go.wp_at_zero Go.wp_at_succ
variable{ob rb:Nat}{p:R4}{st:St}{w0 wr:World}
def Gp(s d:R4):R4:=(mix s.1 d.1 s.2.2.2,mix s.2.1 d.2.1 s.2.2.2,mix s.2.2.1 d.2.2.1 s.2.2.2,mix s.2.2.2 d.2.2.2 s.2.2.2)
def Gq(p:R4):Prop:=(0<=p.1/\p.1<=255)/\(0<=p.2.1/\p.2.1<=255)/\(0<=p.2.2.1/\p.2.2.1<=255)/\(0<=p.2.2.2/\p.2.2.2<=255)
theorem RE(s d:R4):Gq (Gp s d):=by
 unfold Gp Gq mix;simp only;omega
theorem JS.byte(h:JS p):Gq p:=by
 unfold JS at h;unfold Gq;omega
def St.lay1(st:St)(x y:Int)(a:R4×Int)(i:Nat):R4×Int:=if inR (st.seen i) x y=true then(Gp ((st.sf i).now.pix (st.ixAt i x y)) a.1,a.2+1)else a
def St.picU(st:St)(x y:Int)(U:List Nat):R4×Int:=U.foldl (st.lay1 x y) ((0,0,0,255),0)
def St.picL(st:St)(L:List Nat)(x y:Int):R4×Int:=st.picU x y (st.unh L x y)
theorem MN{x y:Int}{U:List Nat}{k:Nat}(hk:k<U.length):st.picU x y (U.take (k+1))=st.lay1 x y (st.picU x y (U.take k)) U[k]:=by
 unfold St.picU;rw[bn hk,List.foldl_append];rfl
theorem Oa(st:St)(x y:Int)(U:List Nat):Gq (st.picU x y U).1/\0<=(st.picU x y U).2/\(st.picU x y U).2<=U.length:=by
 have key:∀(U:List Nat) (a:R4×Int),Gq a.1->0<=a.2->Gq (U.foldl (st.lay1 x y) a).1/\0<=(U.foldl (st.lay1 x y) a).2/\(U.foldl (st.lay1 x y) a).2<=a.2+U.length:=by
  intro U;induction U with
  |nil=>intro a h1 h2;exact⟨h1,h2,by simp⟩
  |cons i U ih=>
   intro a h1 h2;rw[List.foldl_cons];have h3:Gq (st.lay1 x y a i).1/\0<=(st.lay1 x y a i).2/\(st.lay1 x y a i).2<=a.2+1:=by
    unfold St.lay1;split
    ·exact⟨RE _ _,by simp only;omega,by simp only;omega⟩
    ·exact⟨h1,h2,by omega⟩
   obtain⟨q1,q2,q3⟩:=ih _ h3.1 h3.2.1;exact⟨q1,q2,by rw[List.length_cons];omega⟩
 have:=key U ((0,0,0,255),0) (by unfold Gq;simp) (by simp);unfold St.picU;simp only[Int.zero_add]at this;exact this
theorem WZ(p:R4)(i:Nat)(a:Int):(Ch p)[i]?≠some (vj a):=by
 unfold Ch
 match i with
 |0=>simp
 |1=>simp
 |2=>simp
 |3=>simp
 |i+4=>simp
structure AtM(w0 wr:World)(rb ob:Nat)(p:R4):Prop where
 bel:uj w0 wr
 res:Ax wr rb 51 4
 out:Blk wr ob 51 (Ch p)
 lo:w0.heap.size<=rb/\rb<ob
theorem AtM.below{wx:World}(h:AtM w0 wr rb ob p)(hb:uj wr wx):AtM w0 wx rb ob p:=
 ⟨h.bel.trans (hb.mono h.bel.size),h.res.keep (hb.block _ h.res.lt),h.out.keep (hb.block _ (Ab h.out)),h.lo⟩
theorem AtM.store(h:AtM w0 wr rb ob p)(q:R4):AtM w0 ((((wr.setCell (jA ob 0) (.int .u8 q.1)).setCell (jA ob 1) (.int .u8 q.2.1)).setCell (jA ob 2) (.int .u8 q.2.2.1)).setCell (jA ob 3) (.int .u8 q.2.2.2)) rb ob q:=by
 have hl:=h.lo;refine⟨CO h.bel (by omega) _ _ _ _,h.res.keep (Cu (by omega) _ _ _ _),?_,h.lo⟩;have:=h.out.has;exact Ax.four (w:=wr) (b:=ob) (T:=51) this _ _ _ _
theorem TO{w:World}(hw:Wf st){G:Int->Nat->Value}{L:List Nat}{v:Value}(h:Ey w v st G L)(hd:∀i∈L,i<st.sfs.length/\Vn w st G i)(hn:L.length<=1000)(x y:Int)(hx:0<=x/\x<=100)(hy:0<=y/\y<=100):
  Calls prog 115 #[.agg #[v],vj x,vj y] w fun e w'=>e=.returned (.tuple #[.agg (Ch (st.picL L x y).1),vj (st.picL L x y).2])/\uj w w':=by
 have HU:Hid (∀V:World,uj w V->Calls prog 169 #[.agg #[v],vj x,vj y] V fun e w'=>∃v',e=.returned v'/\Ey w' v' st G (st.unh L x y)/\uj V w'):=fun V hV=>NS hw (h.below hV) (fun i hi=>⟨(hd i hi).1,(hd i hi).2.below hV⟩) hn x y hx hy;have hUL:∀i∈st.unh L x y,i∈L:=fun i hi=>List.mem_of_mem_drop hi;have hUn:(st.unh L x y).length<=1000:=by unfold St.unh;rw[cC];omega
 obtain⟨va,vc,rfl,_⟩:=h;obtain⟨U,hU⟩:∃U,st.unh L x y=U:=⟨_,rfl⟩;have hpl:st.picL L x y=st.picU x y U:=by unfold St.picL;rw[hU]
 rw[hpl];rw[hU]at HU hUL hUn;obtain⟨n,hln⟩:∃n,U.length=n:=⟨_,rfl⟩;have HN:=Aa hln;have HH:Hid (∀(k:Nat) (hk:k<U.length),∃(z0 z1 z2 z3 z4:Int) (R:R4) (W H:Nat) (pa:Option Addr) (m:Nat) (z7 z8:Int) (ka:Option Addr) (km kk:Nat),(Id st G U[k]).toArray=Js z0 z1 z2 z3 z4 R W H pa m m z7 z8 ka km kk/\R=st.seen U[k]/\(-100000<=z1/\z1<=100000)/\(-100000<=z2/\z2<=100000)/\
   (inR R x y=true->∃X Y:Nat,x-z1=X/\y-z2=Y/\∀V:World,uj w V->Calls prog 162 #[.agg #[vj W,vj H,.slice pa m m],vj X,vj Y] V fun e w'=>e=.returned (.agg (Ch ((st.sf U[k]).now.pix (st.ixAt U[k] x y))))/\uj V w')/\(inR R x y=true->Gq ((st.sf U[k]).now.pix (st.ixAt U[k] x y)))):=fun k hk=>by
  obtain⟨hil,hld⟩:=hd U[k] (hUL _ (aZ hk));obtain⟨i,hi⟩:∃i,U[k]=i:=⟨_,rfl⟩;rw[hi]at hil hld ⊢;obtain⟨pa,e5,hpx⟩:=hld.pix;obtain⟨ka,e30,_⟩:=hld.kept;have lk:=(hw.lk i).1;obtain⟨W,hW⟩:∃W:Nat,(st.sf i).now.w=(W:Int):=⟨(st.sf i).now.w.toNat,by have:=lk.w;omega⟩;obtain⟨H,hH⟩:∃H:Nat,(st.sf i).now.h=(H:Int):=⟨(st.sf i).now.h.toNat,by have:=lk.h;omega⟩;have hnn:(st.sf i).now.n=W*H:=by unfold Dm.n;rw[hW,hH,<-Int.natCast_mul,aX]
  have pl:=EU hw (i:Int) (by omega);refine⟨i,st.px i,st.py i,W,H,st.seen i,W,H,pa,(st.sf i).now.n,W,H,ka,(st.sf i).now.n,(st.sf i).now.n,?_,rfl,by omega,by omega,fun hin=>?_,fun hin=>?_⟩
  ·unfold Id Js;rw[e5,e30,hW,hH]
  ·have h1:=G1 hin;have hix:=G5 hw hin;refine⟨(x-st.px i).toNat,(y-st.py i).toNat,by omega,by omega,fun V hV=>?_⟩;obtain⟨g,rfl,_,hg⟩:=hpx (by omega);obtain⟨cur,q1,q2⟩:=hg;have lw:=lk.w;have lh:=lk.h;refine FE W H (st.sf i).now.n g _ _ (st.ixAt i x y) (by omega) (by omega) ?_ hix ?_ _ V ⟨cur,(hV.block g (Ab q1)).trans q1,q2⟩
   ·unfold St.ixAt;rw[hW,aX]
   ·rw[hnn];exact bh (cI (show W<=24 by omega) (show H<=24 by omega)) (by omega)
  ·refine(lk.pix _ ?_).byte;have hix:=G5 hw hin;rw[hnn]at hix;rw[hW,hH,<-Int.natCast_mul];omega
 have HB:=Aa (TH);have HOk:=Aa (Oa st x y);have hx0:=hx.1;have hx1:=hx.2;have hy0:=hy.1;have hy1:=hy.2;rw[hln]at hUn;obtain⟨ln,hll⟩:∃ln,L.length=ln:=⟨_,rfl⟩;rw[hll]at HU hn ⊢;clear hd hln hU hpl hUL hx hy hll;unfold Ch at HB;go_enter func115,ntmps115
 have HA1:Hid (∀w1:World,Below ((w.alloc (.cells #[.slice va ln vc] 95)).alloc (.cells #[.int .u8 0,.int .u8 0,.int .u8 0,.int .u8 0] 51)).heap.size ((w.alloc (.cells #[.slice va ln vc] 95)).alloc (.cells #[.int .u8 0,.int .u8 0,.int .u8 0,.int .u8 0] 51)) w1->AtM w (w1.alloc (.cells #[.int .u8 0,.int .u8 0,.int .u8 0,.int .u8 255] 51)) (w.heap.size+1) w1.heap.size (0,0,0,255)/\(w1.alloc (.cells #[.int .u8 0,.int .u8 0,.int .u8 0,.int .u8 255] 51)).cell? (jA w.heap.size 0)=some (.slice va ln vc)/\w.heap.size+2<=w1.heap.size):=fun w1 hb=>by
  have hs:=hb.size;simp at hs;have q1:uj w w1:=(al2 (aO _) _ _).trans (hb.mono (by simp;omega));refine⟨⟨q1.alloc q1.size _,?_,aR w1 _,by omega,by omega⟩,?_,by omega⟩
  ·refine Ax.alloc (Ax.keep ?_ (hb.block _ (by simp))) _;have:=Ax.new (w.alloc (.cells #[.slice va ln vc] 95)) #[.int .u8 0,.int .u8 0,.int .u8 0,.int .u8 0] 51;simpa using this
  ·rw[BI w1 _ _ _ (by omega),hb.cell (p:=(jA w.heap.size 0)) (by simp;omega),BI _ _ _ _ (by simp),aP _ _ _ _ _ _ (aR w _)];rfl
 go_wp2_with(first
  |(go_at_call 168;refine(HB.out _).mono ?_;rintro e w1 ⟨rfl,hb⟩;obtain⟨hA,hpc,hw1⟩:=HA1.out w1 hb;have HM:=Aa hA;clear hb hA)
  |(go_at_call 169;refine(HU.out _ HM.out.bel).mono ?_;rintro e w2 ⟨u,rfl,hu,hb2⟩;have HM2:=Aa (HM.out.below hb2);have HU2:=Aa hu;obtain⟨ua,uc,huf,_⟩:=hu;rw[HN.out]at huf;subst huf;clear hb2))
 go_loopg [9,18] n (fun gg s9 s18 wr=>∃k:Nat,s18=vj k/\gg+k=n/\s9=vj (st.picU x y (U.take k)).2/\AtM w wr (w.heap.size+1) w1.heap.size (st.picU x y (U.take k)).1/\Ey wr (.slice ua n uc) st G U)
 case atStart=>exact⟨0,rfl,by omega,rfl,HM2.out,by rw[<-HN.out];rw[<-HN.out]at HU2;exact HU2.out⟩
 case round=>
  rename World=>wr;obtain⟨k,rfl,hgk,rfl,hAt,hla⟩:=hrel;obtain⟨o1,o2,o3⟩:=HOk.out (U.take k);have hlt0:(U.take k).length<=n:=by rw[bR];have:=HN.out;omega
  have HP:=Aa (aK hAt hla);obtain⟨P,hP⟩:∃P,st.picU x y (U.take k)=P:=⟨_,rfl⟩;rw[hP]at o1 o2 o3 HP hAt ⊢;have p0:wr.cell? (jA w1.heap.size 0)=some (.int .u8 P.1.1):=hAt.out.cell 0;have p1:wr.cell? (jA w1.heap.size 1)=some (.int .u8 P.1.2.1):=hAt.out.cell 1;have p2:wr.cell? (jA w1.heap.size 2)=some (.int .u8 P.1.2.2.1):=hAt.out.cell 2;have p3:wr.cell? (jA w1.heap.size 3)=some (.int .u8 P.1.2.2.2):=hAt.out.cell 3;have hol:=Ak p0;have hrl:=hAt.res.lt;have HPe:=Aa hP;clear hP;cases gk with
  |zero=>
   have hlt:¬(k:Int)<(n:Int):=by omega
   obtain⟨⟨q0,r0⟩,⟨q1,r1⟩,⟨q2,r2⟩,⟨q3,r3⟩⟩:=aK (hAt.res.cell 0 (by omega)) (aK (hAt.res.cell 1 (by omega)) (aK (hAt.res.cell 2 (by omega)) (hAt.res.cell 3 (by omega))));have z0:=hAt.res.free 0;have z1:=hAt.res.free 1;have z2:=hAt.res.free 2;have z3:=hAt.res.free 3;have HF:Hid (Value.tuple #[.agg #[.int .u8 P.1.1,.int .u8 P.1.2.1,.int .u8 P.1.2.2.1,.int .u8 P.1.2.2.2],vj P.2]=.tuple #[.agg (Ch (st.picU x y U).1),vj (st.picU x y U).2]):=by
    unfold Hid;have hfull:U.take k=U:=bw (by have:=HN.out;omega);have:=HPe.out;rw[hfull]at this;rw[this];rfl
   have HBl:Hid (∀u0 u1 u2 u3,uj w ((((wr.setCell (jA (w.heap.size+1) 0) u0).setCell (jA (w.heap.size+1) 1) u1).setCell (jA (w.heap.size+1) 2) u2).setCell (jA (w.heap.size+1) 3) u3)):=fun u0 u1 u2 u3=>CO hAt.bel (by omega) _ _ _ _;clear hAt hla
   go_wp2_with fail
   refine cU (v:=.tuple #[.agg #[.int .u8 P.1.1,.int .u8 P.1.2.1,.int .u8 P.1.2.2.1,.int .u8 P.1.2.2.2],vj P.2]) (by simp[results,results115,go_sem,r0,r1,r2,r3]) rfl ⟨congrArg Ending.returned HF.out,HBl.out _ _ _ _⟩
  |succ gk=>
   have hlt:(k:Int)<(n:Int):=by omega
   have hkU:k<U.length:=by have:=HN.out;omega
   obtain⟨a',c',hv',hcs⟩:=hla;injection hv' with e1 e2 e3;subst e1 e3;clear e2;obtain⟨hlc,b,off,ha,hcell⟩:=hcs (by omega);subst ha;have hc:=hcell k hkU;obtain⟨z0,z1,z2,z3,z4,R,W,H,pa,m,z7,z8,ka,km,kk,hlv,hR,hz1,hz2,hgr,hby⟩:=HH.out k hkU;have hc2:∀j u,(Js z0 z1 z2 z3 z4 R W H pa m m z7 z8 ka km kk)[j]?=some u->wr.cell? (jA b (off+k*15+j))=some u:=fun j u hu=>hc j u (by rw[<-hlv]at hu;simpa using hu);have HHas:=Aa (K6 z0 z1 z2 z3 z4 R W H pa m m z7 z8 ka km kk x y);unfold Js at hc2 HHas;have c0:=hc2 0 _ rfl;have c1:=hc2 1 _ rfl;have c2:=hc2 2 _ rfl;have c3:=hc2 3 _ rfl;have c4:=hc2 4 _ rfl;have c5:=hc2 5 _ rfl;have c6:=hc2 6 _ rfl;have c7:=hc2 7 _ rfl;have c8:=hc2 8 _ rfl;have c9:=hc2 9 _ rfl;have c10:=hc2 10 _ rfl;have c11:=hc2 11 _ rfl;have c12:=hc2 12 _ rfl;have c13:=hc2 13 _ rfl;have c14:=hc2 14 _ rfl;rw[Nat.add_zero]at c0;have hbl:=Ak c0;have hkc:k<uc:=by have:=HN.out;omega
   have hnx:=MN (st:=st) (x:=x) (y:=y) hkU;rw[HPe.out]at hnx;unfold St.lay1 at hnx;rw[<-hR]at hnx;obtain⟨Q,hQ⟩:∃Q,(st.sf U[k]).now.pix (st.ixAt U[k] x y)=Q:=⟨_,rfl⟩;rw[hQ]at hnx hgr hby;obtain⟨t,ht⟩:∃t,inR R x y=t:=⟨_,rfl⟩;rw[ht]at HHas hnx hgr hby;have HNx:=Aa hnx;have hPb:P.2<=1000:=by omega
   clear hcs hcell hc hc2 hlv hR hnx hQ HH HU HB hAt ht;cases t with
   |false=>
    rw[if_neg (by simp)]at HNx
    go_wp2_with(go_at_call 170;refine(HHas.out _).mono ?_;rintro e w5 ⟨rfl,hb5⟩;have HB5:=Aa ((al1 (aO wr.heap.size) _).trans (hb5.mono (by simp)));clear hb5)
    go_roundg gk
    case measure=>omega
    case rel=>
     refine⟨k+1,by go_num,by omega,by rw[HNx.out],?_,HP.out.2.below HB5.out⟩;rw[HNx.out];exact HP.out.1.below HB5.out
   |true=>
    rw[if_pos rfl]at HNx;obtain⟨X,Y,hX,hY,hcall⟩:=hgr rfl;have HG:Hid (∀V:World,uj wr V->Calls prog 162 #[.agg #[vj W,vj H,.slice pa m m],vj (x-z1),vj (y-z2)] V fun e w'=>e=.returned (.agg (Ch Q))/\uj V w'):=fun V hV=>by
     rw[hX,hY];exact hcall V (HP.out.1.bel.trans (hV.mono HP.out.1.bel.size))
    have hQb:=hby rfl;have HOv:=Aa (fun V=>Pw Q.1 Q.2.1 Q.2.2.1 Q.2.2.2 P.1.1 P.1.2.1 P.1.2.2.1 P.1.2.2.2 V hQb.2.2.2 o1.1 o1.2.1 o1.2.2.1 o1.2.2.2);unfold Ch at HG;have HS:Hid (∀V:World,uj wr V->AtM w ((((V.setCell (jA w1.heap.size 0) (.int .u8 (mix Q.1 P.1.1 Q.2.2.2))).setCell (jA w1.heap.size 1) (.int .u8 (mix Q.2.1 P.1.2.1 Q.2.2.2))).setCell (jA w1.heap.size 2) (.int .u8 (mix Q.2.2.1 P.1.2.2.1 Q.2.2.2))).setCell (jA w1.heap.size 3) (.int .u8 (mix Q.2.2.2 P.1.2.2.2 Q.2.2.2))) (w.heap.size+1) w1.heap.size (Gp Q P.1)/\Ey ((((V.setCell (jA w1.heap.size 0) (.int .u8 (mix Q.1 P.1.1 Q.2.2.2))).setCell (jA w1.heap.size 1) (.int .u8 (mix Q.2.1 P.1.2.1 Q.2.2.2))).setCell (jA w1.heap.size 2) (.int .u8 (mix Q.2.2.1 P.1.2.2.1 Q.2.2.2))).setCell (jA w1.heap.size 3) (.int .u8 (mix Q.2.2.2 P.1.2.2.2 Q.2.2.2))) (.slice (some (jA b off)) n uc) st G U):=fun V hV=>by
     have h1:=HP.out.1.below hV;refine⟨h1.store (Gp Q P.1),?_⟩;obtain⟨a',c',hv',hcs⟩:=HP.out.2.below hV;refine⟨a',c',hv',fun hl=>?_⟩;obtain⟨g1,b',off',g2,g3⟩:=hcs hl;refine⟨g1,b',off',g2,fun k' hk' j u hu=>?_⟩;have g4:=g3 k' hk' j u hu;have hne:b'≠w1.heap.size:=fun e=>by
      subst e;have g5:=g3 k' hk' 0 _ rfl;rw[h1.out.cell]at g5;exact WZ _ _ _ g5
     exact(aV (a:=(jA b' (off'+k'*15+j))) (Cu hne _ _ _ _)).trans g4
    have HCe:Hid (∀V:World,uj wr V->V.cell? (jA w1.heap.size 0)=some (.int .u8 P.1.1)/\V.cell? (jA w1.heap.size 1)=some (.int .u8 P.1.2.1)/\V.cell? (jA w1.heap.size 2)=some (.int .u8 P.1.2.2.1)/\V.cell? (jA w1.heap.size 3)=some (.int .u8 P.1.2.2.2)/\(∀j,V.frozen? (jA w1.heap.size j)=false)/\w1.heap.size<V.heap.size):=fun V hV=>⟨(hV.cell (p:=(jA w1.heap.size 0)) hol).trans p0,(hV.cell (p:=(jA w1.heap.size 1)) hol).trans p1,(hV.cell (p:=(jA w1.heap.size 2)) hol).trans p2,(hV.cell (p:=(jA w1.heap.size 3)) hol).trans p3,fun j=>(HP.out.1.below hV).out.has.free j,aQ hol hV.size⟩;have HLb:Hid (∀V:World,Below (wr.alloc (.cells #[vj z0,vj z1,vj z2,vj z3,vj z4,vj R.1,vj R.2.1,vj R.2.2.1,vj R.2.2.2,vj W,vj H,.slice pa m m,vj z7,vj z8,.slice ka km kk] 158)).heap.size (wr.alloc (.cells #[vj z0,vj z1,vj z2,vj z3,vj z4,vj R.1,vj R.2.1,vj R.2.2.1,vj R.2.2.2,vj W,vj H,.slice pa m m,vj z7,vj z8,.slice ka km kk] 158)) V->V.cell? (jA wr.heap.size 1)=some (vj z1)/\V.cell? (jA wr.heap.size 2)=some (vj z2)/\V.cell? (jA wr.heap.size 9)=some (vj W)/\V.cell? (jA wr.heap.size 10)=some (vj H)/\V.cell? (jA wr.heap.size 11)=some (.slice pa m m)/\uj wr V/\wr.heap.size<V.heap.size):=fun V hV=>by
     have q:=(hV.block wr.heap.size (by simp)).trans (aR wr _);exact⟨aP _ _ 1 _ _ _ q,aP _ _ 2 _ _ _ q,aP _ _ 9 _ _ _ q,aP _ _ 10 _ _ _ q,aP _ _ 11 _ _ _ q,(al1 (aO wr.heap.size) _).trans (hV.mono (by simp)),Ab q⟩
    clear hcall hgr hby HP hX hY
    go_upto_region 6 with(go_at_call 170;refine(HHas.out _).mono ?_;rintro e w5 ⟨rfl,hb5⟩;obtain⟨d1,d2,d9,d10,d11,hb,hl5⟩:=HLb.out w5 hb5;obtain⟨s0,s1,s2,s3,sf,sl⟩:=HCe.out w5 hb;have HB5:=Aa hb;clear hb hb5 sf)
    have hwx:IntKind.i64.wrap (x-z1)=x-z1:=by rw[bB];omega
    have hwy:IntKind.i64.wrap (y-z2)=y-z2:=by rw[bB];omega
    have HG5:Hid (∀V:World,uj w5 V->Calls prog 162 #[.agg #[vj W,vj H,.slice pa m m],vj (x-z1),vj (y-z2)] V fun e w'=>e=.returned (.agg #[.int .u8 Q.1,.int .u8 Q.2.1,.int .u8 Q.2.2.1,.int .u8 Q.2.2.2])/\uj w5 w'):=fun V hV=>(HG.out V (HB5.out.trans (hV.mono HB5.out.size))).mono fun e w' ⟨q1,q2⟩=>⟨q1,hV.trans (q2.mono hV.size)⟩;have HOv5:Hid (∀V:World,uj w5 V->Calls prog 171 #[.agg #[.int .u8 Q.1,.int .u8 Q.2.1,.int .u8 Q.2.2.1,.int .u8 Q.2.2.2],.agg #[.int .u8 P.1.1,.int .u8 P.1.2.1,.int .u8 P.1.2.2.1,.int .u8 P.1.2.2.2]] V fun e w'=>e=.returned (.agg #[.int .u8 (mix Q.1 P.1.1 Q.2.2.2),.int .u8 (mix Q.2.1 P.1.2.1 Q.2.2.2),.int .u8 (mix Q.2.2.1 P.1.2.2.1 Q.2.2.2),.int .u8 (mix Q.2.2.2 P.1.2.2.2 Q.2.2.2)])/\uj w5 w'):=fun V hV=>(HOv.out V).mono fun e w' ⟨q1,q2⟩=>⟨q1,hV.trans (q2.mono hV.size)⟩;have HC5:Hid (∀V:World,uj w5 V->V.cell? (jA w1.heap.size 0)=some (.int .u8 P.1.1)/\V.cell? (jA w1.heap.size 1)=some (.int .u8 P.1.2.1)/\V.cell? (jA w1.heap.size 2)=some (.int .u8 P.1.2.2.1)/\V.cell? (jA w1.heap.size 3)=some (.int .u8 P.1.2.2.2)/\(∀j,V.frozen? (jA w1.heap.size j)=false)/\w1.heap.size<V.heap.size):=fun V hV=>HCe.out V (HB5.out.trans (hV.mono HB5.out.size));have FS0:Hid (∀V:World,uj w5 V->V.cell? (jA wr.heap.size 1)=some (vj z1)/\V.cell? (jA wr.heap.size 2)=some (vj z2)/\V.cell? (jA wr.heap.size 9)=some (vj W)/\V.cell? (jA wr.heap.size 10)=some (vj H)/\V.cell? (jA wr.heap.size 11)=some (.slice pa m m)):=fun V hV=>⟨(hV.cell (p:=(jA wr.heap.size 1)) hl5).trans d1,(hV.cell (p:=(jA wr.heap.size 2)) hl5).trans d2,(hV.cell (p:=(jA wr.heap.size 9)) hl5).trans d9,(hV.cell (p:=(jA wr.heap.size 10)) hl5).trans d10,(hV.cell (p:=(jA wr.heap.size 11)) hl5).trans d11⟩;have FS4:Hid (∀V:World,uj w5 V->∀u0 u1 u2 u3:Value,((((V.setCell (jA w1.heap.size 0) u0).setCell (jA w1.heap.size 1) u1).setCell (jA w1.heap.size 2) u2).setCell (jA w1.heap.size 3) u3).cell? (jA wr.heap.size 1)=some (vj z1)/\((((V.setCell (jA w1.heap.size 0) u0).setCell (jA w1.heap.size 1) u1).setCell (jA w1.heap.size 2) u2).setCell (jA w1.heap.size 3) u3).cell? (jA wr.heap.size 2)=some (vj z2)/\((((V.setCell (jA w1.heap.size 0) u0).setCell (jA w1.heap.size 1) u1).setCell (jA w1.heap.size 2) u2).setCell (jA w1.heap.size 3) u3).cell? (jA wr.heap.size 9)=some (vj W)/\((((V.setCell (jA w1.heap.size 0) u0).setCell (jA w1.heap.size 1) u1).setCell (jA w1.heap.size 2) u2).setCell (jA w1.heap.size 3) u3).cell? (jA wr.heap.size 10)=some (vj H)/\((((V.setCell (jA w1.heap.size 0) u0).setCell (jA w1.heap.size 1) u1).setCell (jA w1.heap.size 2) u2).setCell (jA w1.heap.size 3) u3).cell? (jA wr.heap.size 11)=some (.slice pa m m)):=fun V hV u0 u1 u2 u3=>by
     obtain⟨y1,y2,y9,y10,y11⟩:=FS0.out V hV;have hne:wr.heap.size≠w1.heap.size:=by omega
     have e:∀j,((((V.setCell (jA w1.heap.size 0) u0).setCell (jA w1.heap.size 1) u1).setCell (jA w1.heap.size 2) u2).setCell (jA w1.heap.size 3) u3).cell? (jA wr.heap.size j)=V.cell? (jA wr.heap.size j):=fun j=>aV (a:=(jA wr.heap.size j)) (Cu hne _ _ _ _);exact⟨(e 1).trans y1,(e 2).trans y2,(e 9).trans y9,(e 10).trans y10,(e 11).trans y11⟩
    go_cut [] (fun wx=>Hid (AtM w wx (w.heap.size+1) w1.heap.size (Gp Q P.1)/\Ey wx (.slice (some (jA b off)) n uc) st G U))
    case first=>
     clear c0 c1 c2 c3 c4 c5 c6 c7 c8 c9 c10 c11 c12 c13 c14 p0 p1 p2 p3 HLb HCe HHas HOk HNx HPe HM HM2 HU2 HA1 HG HOv FS0 FS4 HN hw
     go_region_with (first
      |(go_at_call 162;refine(HG5.out _ ?_).mono ?_;(repeat(first|exact aN _ _|refine bD ?_));rintro e w6 ⟨rfl,hb6⟩;have HB6:=Aa hb6;obtain⟨t0,t1,t2,t3,tf,tl⟩:=HC5.out w6 HB6.out;clear hb6 tf s0 s1 s2 s3 d1 d2 d9 d10 d11 hl5 sl)
      |(go_at_call 171;refine(HOv5.out _ ?_).mono ?_;(repeat(first|exact HB6.out|refine bD ?_));rintro e w7 ⟨rfl,hb7⟩;have HB7:=Aa hb7;obtain⟨v0,v1,v2,v3,vf,vl⟩:=HC5.out w7 HB7.out;have f0:=vf 0;have f1:=vf 1;have f2:=vf 2;have f3:=vf 3;clear hb7 vf t0 t1 t2 t3 tl))
     all_goals go_wp2_with fail
     all_goals go_meet
     all_goals exact HS.out _ (HB5.out.trans (HB7.out.mono HB5.out.size))
    case rest=>
     have HM3:=hcut;clear hcut c0 c1 c2 c3 c4 c5 c6 c7 c8 c9 c10 c11 c12 c13 c14 p0 p1 p2 p3 d1 d2 d9 d10 d11 s0 s1 s2 s3 HG5 HOv5 HC5 FS0 FS4
     go_wp2_with fail
     go_roundg gk
     case measure=>omega
     case rel=>
      refine⟨k+1,by go_num,by omega,by rw[HNx.out],?_,HM3.out.2⟩;rw[HNx.out];exact HM3.out.1
end Go.Proofs.YtofinpocigbbeaaGreat
