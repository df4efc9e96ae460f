import Derived.Test.YtofinpocigbbeaaGreatKat
import Derived.Test.YtofinpocigbbeaaGreatKax
set_option maxHeartbeats 2000000
set_option maxRecDepth 100000
set_option linter.unusedSimpArgs false
namespace Go.Proofs.YtofinpocigbbeaaGreat
open Go.Proofs.Tryz Go.RowKit
attribute [local go_sem ↓] Go.wp_at_zero Go.wp_at_succ
variable{R h hh:R4}{W0 wr:World}{any:Bool}{b:Nat}{p:Int->Int->Bool}{x y:Int}
structure ChM(W0 wr:World)(b:Nat)(h:R4):Prop where
 gr:W0.grownBy wr (some b)
 out:Blk wr b 53 (r4C h)
theorem ChM.grSet(h:W0.grownBy wr (some b))(i:Nat)(u:Value):W0.grownBy (wr.setCell (jA b i) u) (some b):=
 ⟨h.os,h.tape,h.output,by have:=h.size;simpa using this,fun k hk hne=>by
  rw[aL wr (jA b i) k _ (fun e=>hne (by rw[e]))];exact h.block k hk hne⟩
def up4(h:R4):Nat->Int->R4
 |0,x=>(x,h.2.1,h.2.2.1,h.2.2.2)
 |1,x=>(h.1,x,h.2.2.1,h.2.2.2)
 |2,x=>(h.1,h.2.1,x,h.2.2.2)
 |_,x=>(h.1,h.2.1,h.2.2.1,x)
theorem ChM.set(k:ChM W0 wr b h)(i:Nat)(hi:i<4)(x:Int):ChM W0 (wr.setCell (jA b i) (vj x)) b (up4 h i x):=by
 refine⟨ChM.grSet k.gr _ _,?_⟩;have:=k.out.set i (vj x)
 match i,hi with
 |0,_=>exact this
 |1,_=>exact this
 |2,_=>exact this
 |3,_=>exact this
theorem ChM.alloc(h:ChM W0 wr b hh)(o:Obj):ChM W0 (wr.alloc o) b hh:=
 ⟨⟨h.gr.os,h.gr.tape,h.gr.output,by have:=h.gr.size;simp;omega,fun k hk hne=>by
  rw[Ad wr o k (by have:=h.gr.size;omega)];exact h.gr.block k hk hne⟩,h.out.alloc o⟩
theorem ChM.drewN(h:ChM W0 wr b hh)(n:Nat):ChM W0 (wr.drewN n) b hh:=⟨⟨h.gr.os,h.gr.tape,h.gr.output,h.gr.size,h.gr.block⟩,h.out⟩
structure ChV(p:Int->Int->Bool)(R:R4)(y x:Int)(any:Bool)(h:R4):Prop where
 is:h=otherRow p R.1 y (x-R.1).toNat (Bc p R (y-R.2.1).toNat)
 anyE:any=pts h
 zero:any=false->h=(0,0,0,0)
 top:any=true->h.2.1<=y/\h.2.2.2<=y+1
theorem ChV.start(p:Int->Int->Bool)(R:R4):ChV p R R.2.1 R.1 false (0,0,0,0):=⟨by simp[otherRow,Bc,Dy],rfl,fun _=>rfl,fun h=>by cases h⟩
theorem ChV.same(k:ChV p R y x any h)(hx:R.1<=x)(hp:p x y=false):ChV p R y (x+1) any h:=by
 refine⟨?_,k.anyE,k.zero,k.top⟩;have e:(x+1-R.1).toNat=(x-R.1).toNat+1:=by omega
 have e2:R.1+((x-R.1).toNat:Int)=x:=by omega
 rw[e];unfold otherRow Dy;rw[e2,if_neg (by rw[hp];simp)];exact k.is
theorem ChV.more(k:ChV p R y x any h)(hx:R.1<=x)(hp:p x y=true){h':R4}(he:h'=Fi h (x,y,x+1,y+1)):ChV p R y (x+1) true h':=by
 have e:(x+1-R.1).toNat=(x-R.1).toNat+1:=by omega
 have e2:R.1+((x-R.1).toNat:Int)=x:=by omega
 have hq:pts (x,y,x+1,y+1)=true:=by unfold pts;exact bQ (by simp only;omega)
 have hin:inR h' x y=true:=by
  rw[he];have:inR (x,y,x+1,y+1) x y=true:=by unfold inR;exact bQ (by simp only;omega)
  unfold inR at this ⊢;have:=ck this;refine bQ ?_;unfold Fi pts;split
  ·rw[if_pos (bQ (by simp only;omega))];simp only;omega
  ·simp only;omega
 refine⟨?_,?_,(fun h=>by cases h),fun _=>?_⟩
 ·rw[he,e];unfold otherRow Dy;rw[e2,if_pos hp];have:=k.is;unfold otherRow at this;rw[this]
 ·symm;unfold pts;unfold inR at hin;have:=ck hin;exact bQ (by omega)
 ·rw[he];cases any with
  |false=>
   rw[k.zero rfl];unfold Fi pts;simp
  |true=>
   have h1:=k.top rfl;have h2:pts h=true:=k.anyE.symm;unfold Fi;rw[h2,hq];simp only[if_true];omega
theorem ChV.row(k:ChV p R y x any h)(hx:x=R.2.2.1)(hx1:R.1<=x)(hy:R.2.1<=y):ChV p R (y+1) R.1 any h:=by
 refine⟨?_,k.anyE,k.zero,fun h=>by have:=k.top h;omega⟩;have e:(y+1-R.2.1).toNat=(y-R.2.1).toNat+1:=by omega
 have e2:R.2.1+((y-R.2.1).toNat:Int)=y:=by omega
 have:=k.is;rw[this];subst hx;rw[e]
 conv=>rhs;unfold otherRow Bc
 simp only[Int.sub_self,Int.toNat_zero];show _=Dy _ ((y-R.2.1).toNat+1) _;unfold Dy;rw[e2];rfl
theorem ChV.done(k:ChV p R y x any h)(hx:x=R.1)(hy:y=R.2.2.2):h=BG p R:=by
 rw[k.is];subst hx hy;simp only[Int.sub_self,Int.toNat_zero];rfl
theorem TS(x y:Int):(x,y,x+1,y+1)=Fi (0,0,0,0) (x,y,x+1,y+1):=by
 unfold Fi pts;simp
theorem IQ{o0 o1 o2 o3 a b:Int}(h:pts (o0,o1,o2,o3)=true)(ht:o1<=y/\o3<=y+1)(ha:x<o0/\a=x\/o0<=x/\a=o0)(hb:o2<x+1/\b=x+1\/x+1<=o2/\b=o2):(a,o1,b,y+1)=Fi (o0,o1,o2,o3) (x,y,x+1,y+1):=by
 have hz2:pts (x,y,x+1,y+1)=true:=by unfold pts;exact bQ (by simp only;omega)
 unfold Fi;rw[h,hz2];simp only[if_true,Prod.mk.injEq];omega
def chL(h:R4):List R4:=if pts h=true then [h]else []
theorem Z8(w:World)(a b x y:Int)(t:Bool)(c0 c1 c2 c3:Int)(pa:Option Addr)(pm pc:Nat)(qa:Option Addr)(qm qc:Nat)(r:R4):
  let W0:=((w.alloc (.cells #[vj r.1,vj r.2.1,vj r.2.2.1,vj r.2.2.2] 53)).alloc (.cells #[vj a,vj b,.slice pa pm pc,vj x,vj y,.bool t,vj c0,vj c1,vj c2,vj c3,.slice qa qm qc] 212)).alloc (.cells #[vj 0,vj 0,vj 0,vj 0] 53)
  uj w W0/\W0.heap.size=w.heap.size+3/\W0.cell? (jA w.heap.size 0)=some (vj r.1)/\W0.cell? (jA w.heap.size 1)=some (vj r.2.1)/\W0.cell? (jA w.heap.size 2)=some (vj r.2.2.1)/\W0.cell? (jA w.heap.size 3)=some (vj r.2.2.2)/\W0.cell? (jA (w.heap.size+1) 0)=some (vj a)/\W0.cell? (jA (w.heap.size+1) 2)=some (.slice pa pm pc)/\Blk W0 (w.heap.size+2) 53 (r4C (0,0,0,0)):=by
 intro W0;have z1:(w.alloc (.cells #[vj r.1,vj r.2.1,vj r.2.2.1,vj r.2.2.2] 53)).heap.size=w.heap.size+1:=by simp
 have b1:Blk (w.alloc (.cells #[vj r.1,vj r.2.1,vj r.2.2.1,vj r.2.2.2] 53)) w.heap.size 53 #[vj r.1,vj r.2.1,vj r.2.2.1,vj r.2.2.2]:=aR w _;have hb1:=(aN w.heap.size w).alloc (aO _) (.cells #[vj r.1,vj r.2.1,vj r.2.2.1,vj r.2.2.2] 53);unfold W0;generalize w.alloc (.cells #[vj r.1,vj r.2.1,vj r.2.2.1,vj r.2.2.2] 53)=W1 at*;have b2:Blk (W1.alloc (.cells #[vj a,vj b,.slice pa pm pc,vj x,vj y,.bool t,vj c0,vj c1,vj c2,vj c3,.slice qa qm qc] 212)) W1.heap.size 212 #[vj a,vj b,.slice pa pm pc,vj x,vj y,.bool t,vj c0,vj c1,vj c2,vj c3,.slice qa qm qc]:=aR W1 _;have b1':=b1.alloc (.cells #[vj a,vj b,.slice pa pm pc,vj x,vj y,.bool t,vj c0,vj c1,vj c2,vj c3,.slice qa qm qc] 212);have z2:(W1.alloc (.cells #[vj a,vj b,.slice pa pm pc,vj x,vj y,.bool t,vj c0,vj c1,vj c2,vj c3,.slice qa qm qc] 212)).heap.size=W1.heap.size+1:=by simp
 have hb2:=hb1.alloc (by omega) (.cells #[vj a,vj b,.slice pa pm pc,vj x,vj y,.bool t,vj c0,vj c1,vj c2,vj c3,.slice qa qm qc] 212);generalize W1.alloc (.cells #[vj a,vj b,.slice pa pm pc,vj x,vj y,.bool t,vj c0,vj c1,vj c2,vj c3,.slice qa qm qc] 212)=W2 at*;rw[z1]at b2 z2;have b3:Blk (W2.alloc (.cells #[vj 0,vj 0,vj 0,vj 0] 53)) W2.heap.size 53 (r4C (0,0,0,0)):=aR W2 _;rw[z2]at b3;have b1'':=b1'.alloc (.cells #[vj 0,vj 0,vj 0,vj 0] 53);have b2':=b2.alloc (.cells #[vj 0,vj 0,vj 0,vj 0] 53);exact⟨hb2.alloc (by omega) _,by simp[z2],b1''.cell 0,b1''.cell 1,b1''.cell 2,b1''.cell 3,b2'.cell 0,b2'.cell 2,b3⟩
theorem P8{S S':Nat->Prop}{c:Nat}{st:St}{bv:Value}(hw:Wf st)(id:Nat)(hid:id<st.sfs.length)(vo:Value)(w:World)(h:Aw w S c st bv){fo:Nat->R4}(hold:AC w S' vo ((st.sf id).now.w*(st.sf id).now.h) fo):
  Calls prog 132 #[pj c,vj id,vo] w (En (chL (BG (st.otherAt id fo) (nrm (st.seen id)))) w):=by
 have hSeen:=KT id w h hw hid;have hPl:=fun(W:World) (hW:uj w W)=>Jk (S:=S) (c:=c) (st:=st) (bv:=bv) id W (h.keep fun g _ hg=>hW.block g hg) hw hid;obtain⟨sv,ov,F,hr,hs⟩:=h;obtain⟨k0,k1,k2,k3,k4,kf,kl⟩:=hr.cells;obtain⟨g,cap,e1,e2,e3,e4,e5,e6⟩:=hr.at (by omega);subst e1;obtain⟨n,hn⟩:∃n,st.sfs.length=n:=⟨_,rfl⟩;have hmd:=hw.made;have hidn:id<n:=by omega
 rw[hn]at k3 e3 hmd;have hR:=hs.rel id hid;have c2:=e5 id hid 2 (by omega);have c3:=e5 id hid 3 (by omega);have c4:=e5 id hid 4 (by omega);have c5:=e5 id hid 5 (by omega);have c6:=e5 id hid 6 (by omega);have c7:=e5 id hid 7 (by omega);have c8:=e5 id hid 8 (by omega);have c9:=e5 id hid 9 (by omega);have c10:=e5 id hid 10 (by omega);have c11:=e5 id hid 11 (by omega);have c12:=e5 id hid 12 (by omega);obtain⟨pa,pm,pc,hpx,_⟩:=(hs.pixN id hid).form;have hpix:=hs.pixN id hid;rw[hpx]at hpix;rw[hR.nw]at c2;rw[hR.nh]at c3;rw[hpx]at c4;rw[hR.nx]at c5;rw[hR.ny]at c6;rw[hR.ncut]at c7;rw[hR.n0]at c8;rw[hR.n1]at c9;rw[hR.n2]at c10;rw[hR.n3]at c11;obtain⟨qa,qm,qc,hqx⟩:=hR.nhint;rw[hqx]at c12;have lk:=(hw.lk id).1;have pl:=EU hw id (by omega);obtain⟨r,hr0⟩:∃r,nrm (st.seen id)=r:=⟨_,rfl⟩;have hbox:=Vb hr0;rw[hr0]at hSeen;unfold r4C at hSeen;have lw:=lk.w;have lh:=lk.h;obtain⟨PX,hPX⟩:∃p,st.px id=p:=⟨_,rfl⟩;obtain⟨PY,hPY⟩:∃p,st.py id=p:=⟨_,rfl⟩;rw[hPX,hPY]at pl hbox hPl;obtain⟨oa,om,oc,hof,_⟩:=hold.form;subst hof;obtain⟨pd,hpd⟩:∃q,st.otherAt id fo=q:=⟨_,rfl⟩;have hix:∀(x y:Int) (kk:Nat),0<=y-PY->0<=x-PX->(kk:Int)=(y-PY)*(st.sf id).now.w+(x-PX)->pd x y=K7 (fo kk) ((st.sf id).now.pix kk):=by
  intro x y kk hy hx hk;have e:st.ixAt id x y=kk:=by
   unfold St.ixAt;rw[hPX,hPY];have e1:(((y-PY).toNat*(st.sf id).now.w.toNat:Nat):Int)=(y-PY)*(st.sf id).now.w:=by
    rw[Int.natCast_mul,Int.toNat_of_nonneg hy,Int.toNat_of_nonneg (by omega)]
   omega
  rw[<-hpd];unfold St.otherAt;rw[e]
 rw[hpd];rw[hr0];clear hpd;generalize (st.sf id).now=N at*;have HS:=Aa hSeen;have HP:=Aa hPl;have HX:=Aa (aK hpix hold);have HIX:=Aa hix;have hicap:id<cap:=by omega
 have hbx:r=(0,0,0,0)\/(r.1<r.2.2.1/\r.2.1<r.2.2.2/\PX<=r.1/\r.2.2.1<=PX+N.w/\PY<=r.2.1/\r.2.2.2<=PY+N.h):=hbox;have hle:r.2.1<=r.2.2.2/\r.1<=r.2.2.1:=by
  rcases hbx with h|h
  ·rw[h];exact⟨Int.le_refl _,Int.le_refl _⟩
  ·omega
 have HBox:=Aa hbx;have hlim: -100000<=r.1/\r.1<=100000/\-100000<=r.2.1/\r.2.1<=100000/\-100000<=r.2.2.1/\r.2.2.1<=100000/\-100000<=r.2.2.2/\r.2.2.2<=100000:=by
  rcases hbx with h|h
  ·rw[h];simp
  ·omega
 clear hr hs kf hn e5 e6 hR hpx lk hr0 hSeen hPl hpix hold hbox hbx hix;go_enter func132,ntmps132
 go_wp2_with(first
  |(go_at_call 134;refine HS.out.mono ?_;rintro e w1 ⟨rfl,hb1⟩;have HB1:=Aa hb1;have hs1:=hb1.size;have kl1:c<w1.heap.size:=(by omega);have hg1:g<w1.heap.size:=(by omega);have t3:=(hb1.cell (p:=(jA c 3)) kl).trans k3;have t:=(fun o=>hb1.cell (p:=(jA g (id*28+o))) e4);have c2:=(t 2).trans c2;have c3:=(t 3).trans c3;have c4:=(t 4).trans c4;have c5:=(t 5).trans c5;have c6:=(t 6).trans c6;have c7:=(t 7).trans c7;have c8:=(t 8).trans c8;have c9:=(t 9).trans c9;have c10:=(t 10).trans c10;have c11:=(t 11).trans c11;have c12:=(t 12).trans c12;clear t hb1)
  |(go_at_call 135;refine(HP.out _ (HB1.out.alloc hs1 _)).mono ?_;rintro e w' ⟨rfl,hw'⟩;replace hw':=hw'.symm;subst hw'))
 have F0:=Z8 w1 N.w N.h N.x N.y N.cut N.clip.1 N.clip.2.1 N.clip.2.2.1 N.clip.2.2.2 pa pm pc qa qm qc r;generalize ((w1.alloc (.cells #[vj r.1,vj r.2.1,vj r.2.2.1,vj r.2.2.2] 53)).alloc (.cells #[vj N.w,vj N.h,.slice pa pm pc,vj N.x,vj N.y,.bool N.cut,vj N.clip.1,vj N.clip.2.1,vj N.clip.2.2.1,vj N.clip.2.2.2,.slice qa qm qc] 212)).alloc (.cells #[vj 0,vj 0,vj 0,vj 0] 53)=W0 at*;obtain⟨f1,f2,f3,f4,f5,f6,f7,f8,f9⟩:=F0;have HC:Hid (∀W hh,ChM W0 W (w1.heap.size+2) hh->W.cell? (jA w1.heap.size 0)=some (vj r.1)/\W.cell? (jA w1.heap.size 1)=some (vj r.2.1)/\W.cell? (jA w1.heap.size 2)=some (vj r.2.2.1)/\W.cell? (jA w1.heap.size 3)=some (vj r.2.2.2)/\W.cell? (jA (w1.heap.size+1) 0)=some (vj N.w)/\W.cell? (jA (w1.heap.size+1) 2)=some (.slice pa pm pc)/\AC W S (.slice pa pm pc) (N.w*N.h) N.pix/\AC W S' (.slice oa om oc) (N.w*N.h) fo):=by
  intro W hh hW;have hb:∀k,k<w1.heap.size+2->W.heap[k]?=W0.heap[k]? :=fun k hk=>hW.gr.block k (by omega) (by simp;omega);have hk2:∀k,k<w.heap.size->W.heap[k]?=w.heap[k]? :=fun k hk=>by rw[hb k (by omega),f1.block k (by omega),HB1.out.block k hk]
  have cc:∀(b j:Nat),b<w1.heap.size+2->W.cell? (jA b j)=W0.cell? (jA b j):=fun b j hb2=>aV (a:=(jA b j)) (hb b hb2);have pk:∀ {Q:Nat->Prop} {v:Value} {z:Int} {f:Nat->R4},AC w Q v z f->AC W Q v z f:=fun{Q v z f} hq=>hq.other fun b cur hc=>hk2 b (aM.1 hc).1;exact⟨(cc _ _ (by omega)).trans f3,(cc _ _ (by omega)).trans f4,(cc _ _ (by omega)).trans f5,(cc _ _ (by omega)).trans f6,(cc _ _ (by omega)).trans f7,(cc _ _ (by omega)).trans f8,pk HX.out.1,pk HX.out.2⟩
 have hM0:ChM W0 W0 (w1.heap.size+2) (0,0,0,0):=⟨⟨rfl,rfl,rfl,aO _,fun _ _ _=>rfl⟩,f9⟩;have HFin:Hid (∀W hh,ChM W0 W (w1.heap.size+2) hh->uj w W):=by
  intro W hh hW;have h1:uj w W0:=HB1.out.trans (f1.mono hs1);exact h1.grown hW.gr h1.size fun k hk=>by cases hk;omega
 have HM0:=Aa hM0;clear hM0 f1 f3 f4 f5 f6 f7 f8 f9 c2 c3 c4 c5 c6 c7 c8 c9 c10 c11 c12 t3 k0 k1 k2 k3 k4
 go_loopg [12,13] (r.2.2.2-r.2.1).toNat (fun gg s12 s13 wr=>∃(any:Bool) (y:Int) (hh:R4),s12=.bool any/\s13=vj y/\r.2.1<=y/\(gg:Int)+y=r.2.2.2/\ChM W0 wr (w1.heap.size+2) hh/\ChV pd r y r.1 any hh)
 case atStart=>exact⟨false,r.2.1,(0,0,0,0),rfl,rfl,by omega,by omega,HM0.out,ChV.start pd r⟩
 case round=>
  rename World=>wo;rename Nat=>gO;obtain⟨any,y,⟨o0,o1,o2,o3⟩,rfl,rfl,hy1,hy2,hM,hV⟩:=hrel;obtain⟨q0,q1,q2,q3,q4,q5,q6,q7⟩:=HC.out wo _ hM;have HMo:=Aa hM;have hso:=hM.gr.size;cases gO with
  |zero=>
   have hlt:¬y<r.2.2.2:=by omega
   have p0:=hM.out.cell 0;have p1:=hM.out.cell 1;have p2:=hM.out.cell 2;have p3:=hM.out.cell 3;simp only[r4C]at p0 p1 p2 p3;have hdn:(o0,o1,o2,o3)=BG pd r:=hV.done rfl (by omega);have HAny:=Aa hV.anyE;have HDn:=Aa hdn;clear hdn hV;clear hM q6 q7;cases any with
   |false=>
    go_wp2;go_ret;show En (chL (BG pd r)) w _ _;rw[<-HDn.out];unfold chL;rw[<-HAny.out];exact⟨_,rfl,⟨bA _ _ _ _,fun _=>rfl⟩,HFin.out _ _ HMo.out⟩
   |true=>
    go_wp2;go_ret;show En (chL (BG pd r)) w _ _;rw[<-HDn.out];unfold chL;rw[<-HAny.out];refine⟨_,rfl,⟨⟨rfl,.inr ⟨wo.heap.size,1,_,rfl,?_,aR wo _,aO _,by unfold maxLen;omega,rfl,rfl⟩⟩,fun h=>by simp at h⟩,(HFin.out _ _ HMo.out).alloc (HFin.out _ _ HMo.out).size _⟩;exact(HFin.out _ _ HMo.out).size
  |succ gO=>
   have hlt:y<r.2.2.2:=by omega
   have HVo:=Aa hV;clear hM q6 q7 hV;go_wp2
   go_loopg [12,14] (r.2.2.1-r.1).toNat (fun gg s12 s14 wr=>∃(any:Bool) (x:Int) (hh:R4),s12=.bool any/\s14=vj x/\r.1<=x/\(gg:Int)+x=r.2.2.1/\ChM W0 wr (w1.heap.size+2) hh/\ChV pd r y x any hh)
   case atStart=>exact⟨any,r.1,(o0,o1,o2,o3),rfl,rfl,by omega,by omega,HMo.out,HVo.out⟩
   case round=>
    rename World=>wi;clear HVo HMo o0 o1 o2 o3;obtain⟨any2,x,⟨o0,o1,o2,o3⟩,rfl,rfl,hx1,hx2,hM,hV⟩:=hrel;clear q0 q1 q2 q3 q4 q5;obtain⟨q0,q1,q2,q3,q4,q5,q6,q7⟩:=HC.out wi _ hM;have HMi:=Aa hM;have hsi:=hM.gr.size;have HVi:=Aa hV;have p0:=hM.out.cell 0;have p1:=hM.out.cell 1;have p2:=hM.out.cell 2;have p3:=hM.out.cell 3;simp only[r4C]at p0 p1 p2 p3;clear hV;have v0:=hM.out.has.free 0;have v1:=hM.out.has.free 1;have v2:=hM.out.has.free 2;have v3:=hM.out.has.free 3;cases gk with
    |zero=>
     have hltx:¬x<r.2.2.1:=by omega
     clear hM q6 q7;have w8:IntKind.i64.wrap (y+1)=y+1:=by rw[bB];omega
     go_wp2
     go_roundg gO
     case measure=>omega
     case rel=>exact⟨any2,y+1,(o0,o1,o2,o3),rfl,rfl,by omega,by omega,HMi.out,HVi.out.row (by omega) hx1 hy1⟩
    |succ gi=>
     have hltx:x<r.2.2.1:=by omega
     have hb9:PX<=r.1/\r.2.2.1<=PX+N.w/\PY<=r.2.1/\r.2.2.2<=PY+N.h:=by
      rcases HBox.out with h|h
      ·rw[h]at hlt hltx hy1;simp at hlt hltx hy1;omega
      ·omega
     have hat:=Yi (W:=N.w) (H:=N.h) (x:=x-PX) (y:=y-PY) (by omega) (by omega);have hWH:N.w*N.h<=24*24:=Int.mul_le_mul (by omega) (by omega) (by omega) (by omega);obtain⟨yW,hyW⟩:∃z,(y-PY)*N.w=z:=⟨_,rfl⟩;rw[hyW]at hat;obtain⟨kk,hkk⟩:∃k:Nat,(k:Int)=yW+(x-PX):=⟨(yW+(x-PX)).toNat,by omega⟩;have w1':IntKind.i64.wrap (y-PY)=y-PY:=by rw[bB];omega
     have w2':IntKind.i64.wrap ((y-PY)*N.w)=yW:=by rw[bB];omega
     have w3':IntKind.i64.wrap (yW+x)=yW+x:=by rw[bB];omega
     have w4':IntKind.i64.wrap (yW+x-PX)=(kk:Int):=by rw[bB];omega
     have hkW:(kk:Int)<N.w*N.h:=by omega
     have hpk:=HIX.out x y kk (by omega) (by omega) (by rw[hyW];exact hkk);obtain⟨pg,pcap,pm',ep,hpm,hpc,_,m1,m2,m3,m4⟩:=q6.at hkW;obtain⟨og,ocap,om',eo,hom,hoc,_,n1,n2,n3,n4⟩:=q7.at hkW;generalize N.pix kk=pA at hpk m1 m2 m3 m4;generalize fo kk=pB at hpk n1 n2 n3 n4;obtain⟨a1,a2,a3,a4⟩:=pA;obtain⟨b1,b2,b3,b4⟩:=pB;simp only at m1 m2 m3 m4 n1 n2 n3 n4;injection ep with ep1 ep2 ep3;injection eo with eo1 eo2 eo3;subst ep1 ep3 eo1 eo3;have hk1:(kk:Int)<(pm:Int):=by omega
     have hk2:(kk:Int)<(om:Int):=by omega
     have hk3:kk<pc:=by omega
     have hk4:kk<oc:=by omega
     have hk0:(0:Int)<=(kk:Int):=by omega
     have w5:IntKind.i64.wrap (x+1)=x+1:=by rw[bB];omega
     have w6:IntKind.i64.wrap (y+1)=y+1:=by rw[bB];omega
     have heq:=Yh a1 a2 a3 a4 b1 b2 b3 b4;obtain⟨t,ht⟩:∃t,(a1==b1&&(a2==b2&&(a3==b3&&a4==b4)))=t:=⟨_,rfl⟩;rw[ht]at heq;have hpt:pd x y= !t:=by
      rw[hpk,<-ht];unfold K7;simp only;rw[BEq.comm (a:=a1) (b:=b1),BEq.comm (a:=a2) (b:=b2),BEq.comm (a:=a3) (b:=b3),BEq.comm (a:=a4) (b:=b4)]
     have HPt:=Aa hpt;clear hM q6 q7 hpk hpt ht hyW hkk hat hWH hpm hom hkW ep2 eo2 hpc hoc;cases t with
     |true=>
      go_upto_region 13 with fail
      go_quiet (fail)
      go_wp2
      go_roundg gi
      case measure=>omega
      case rel=>exact⟨any2,x+1,(o0,o1,o2,o3),rfl,rfl,by omega,by omega,HMi.out.drewN _,HVi.out.same hx1 HPt.out⟩
     |false=>
      go_upto_region 13 with fail
      go_quiet (fail)
      have hMz:=HMi.out.drewN nq;clear p0 p1 p2 p3 v0 v1 v2 v3;generalize wi.drewN nq=wz at*;have p0:=hMz.out.cell 0;have p1:=hMz.out.cell 1;have p2:=hMz.out.cell 2;have p3:=hMz.out.cell 3;simp only[r4C]at p0 p1 p2 p3;have v0:=hMz.out.has.free 0;have v1:=hMz.out.has.free 1;have v2:=hMz.out.has.free 2;have v3:=hMz.out.has.free 3;have hzs:=hMz.gr.size;have pl0:¬w1.heap.size+2=wz.heap.size:=by omega
      have pl1:w1.heap.size+2<wz.heap.size:=by omega
      have HMz:=Aa hMz;clear hMz q0 q1 q2 q3 q4 q5 m1 m2 m3 m4 n1 n2 n3 n4 heq;cases any2 with
      |false=>
       go_wp2
       go_roundg gi
       case measure=>omega
       case rel=>
        have hq:=(((((HMz.out.set 0 (by decide) x).set 1 (by decide) y).set 2 (by decide) (x+1)).set 3 (by decide) (y+1)).set 3 (by decide) (y+1)).alloc (Obj.cells #[Value.int IntKind.i64 x,Value.int IntKind.i64 y,Value.int IntKind.i64 (x+1),Value.int IntKind.i64 (y+1)] 53);refine⟨true,x+1,_,rfl,rfl,?_,?_,hq,HVi.out.more hx1 HPt.out ?_⟩
        ·omega
        ·omega
        ·rw[HVi.out.zero rfl];exact TS x y
      |true=>
       by_cases hc0:x<o0
       ·by_cases hc2:o2<x+1
        ·go_wp2
         go_roundg gi
         case measure=>omega
         case rel=>
          have hq:=(((HMz.out.set 0 (by decide) x).set 2 (by decide) (x+1)).set 3 (by decide) (y+1)).alloc (Obj.cells #[Value.int IntKind.i64 x,Value.int IntKind.i64 y,Value.int IntKind.i64 (x+1),Value.int IntKind.i64 (y+1)] 53);refine⟨true,x+1,_,rfl,rfl,?_,?_,hq,HVi.out.more hx1 HPt.out ?_⟩
          ·omega
          ·omega
          ·exact IQ HVi.out.anyE.symm (HVi.out.top rfl) (.inl ⟨hc0,rfl⟩) (.inl ⟨hc2,rfl⟩)
        ·go_wp2
         go_roundg gi
         case measure=>omega
         case rel=>
          have hq:=((HMz.out.set 0 (by decide) x).set 3 (by decide) (y+1)).alloc (Obj.cells #[Value.int IntKind.i64 x,Value.int IntKind.i64 y,Value.int IntKind.i64 (x+1),Value.int IntKind.i64 (y+1)] 53);refine⟨true,x+1,_,rfl,rfl,?_,?_,hq,HVi.out.more hx1 HPt.out ?_⟩
          ·omega
          ·omega
          ·exact IQ HVi.out.anyE.symm (HVi.out.top rfl) (.inl ⟨hc0,rfl⟩) (.inr ⟨hc2,rfl⟩)
       ·by_cases hc2:o2<x+1
        ·go_wp2
         go_roundg gi
         case measure=>omega
         case rel=>
          have hq:=((HMz.out.set 2 (by decide) (x+1)).set 3 (by decide) (y+1)).alloc (Obj.cells #[Value.int IntKind.i64 x,Value.int IntKind.i64 y,Value.int IntKind.i64 (x+1),Value.int IntKind.i64 (y+1)] 53);refine⟨true,x+1,_,rfl,rfl,?_,?_,hq,HVi.out.more hx1 HPt.out ?_⟩
          ·omega
          ·omega
          ·exact IQ HVi.out.anyE.symm (HVi.out.top rfl) (.inr ⟨hc0,rfl⟩) (.inl ⟨hc2,rfl⟩)
        ·go_wp2
         go_roundg gi
         case measure=>omega
         case rel=>
          have hq:=(HMz.out.set 3 (by decide) (y+1)).alloc (Obj.cells #[Value.int IntKind.i64 x,Value.int IntKind.i64 y,Value.int IntKind.i64 (x+1),Value.int IntKind.i64 (y+1)] 53);refine⟨true,x+1,_,rfl,rfl,?_,?_,hq,HVi.out.more hx1 HPt.out ?_⟩
          ·omega
          ·omega
          ·exact IQ HVi.out.anyE.symm (HVi.out.top rfl) (.inr ⟨hc0,rfl⟩) (.inr ⟨hc2,rfl⟩)
end Go.Proofs.YtofinpocigbbeaaGreat
