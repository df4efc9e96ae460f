import Derived.Test.YtofinpocigbbeaaGreatKav
import Derived.Test.YtofinpocigbbeaaGreatKaw
set_option maxHeartbeats 4000000
set_option maxRecDepth 100000
set_option linter.unusedSimpArgs false
namespace Go.Proofs.YtofinpocigbbeaaGreat
open Go.Proofs.Tryz Go.RowKit
attribute [local go_sem ↓] Go.wp_at_zero Go.wp_at_succ
variable{H W n vb:Nat}{h:R4}{vc:Array Value}{w wr:World}
def Dy(step:Nat->R4->R4):Nat->R4->R4
 |0,h=>h
 |m+1,h=>step m (Dy step m h)
def otherRow(p:Int->Int->Bool)(x0 y:Int)(m:Nat)(h:R4):R4:=Dy (fun a h=>if p (x0+a) y=true then Fi h (x0+a,y,x0+a+1,y+1)else h) m h
def Bc(p:Int->Int->Bool)(R:R4)(m:Nat):R4:=Dy (fun b h=>otherRow p R.1 (R.2.1+b) (R.2.2.1-R.1).toNat h) m (0,0,0,0)
def BG(p:Int->Int->Bool)(R:R4):R4:=Bc p R (R.2.2.2-R.2.1).toNat
def K7(a b:R4):Bool:= !(a.1==b.1&&(a.2.1==b.2.1&&(a.2.2.1==b.2.2.1&&a.2.2.2==b.2.2.2)))
def St.otherAt(st:St)(i:Nat)(old:Nat->R4)(x y:Int):Bool:=K7 (old (st.ixAt i x y)) ((st.sf i).now.pix (st.ixAt i x y))
theorem MM(st:St):∀l:List Nat,0<=(st.openL l).1/\0<=(st.openL l).2.1/\(st.openL l).2.2.1<=st.w/\(st.openL l).2.2.2<=st.h
 | []=>by unfold St.openL;simp
 |i::l=>by
  have h:=MM st l;unfold St.openL St.cutBy;split
  ·unfold BX;simp only;omega
  ·exact h
theorem K8(st:St)(i:Nat):0<=(st.seen i).1/\0<=(st.seen i).2.1/\(st.seen i).2.2.1<=st.w/\(st.seen i).2.2.2<=st.h:=by
 have h:=MM st (st.chain i);unfold St.seen BX;simp only;omega
structure OtM(w wr:World)(W H n:Nat)(oa:Option Addr)(vb:Nat)(vc:Array Value)(h:R4):Prop where
 bel:uj w wr
 was:Blk wr w.heap.size 122 #[vj W,vj H,.slice oa n n]
 res:Ax wr (w.heap.size+1) 53 4
 hul:Blk wr (w.heap.size+1+1) 53 #[vj h.1,vj h.2.1,vj h.2.2.1,vj h.2.2.2]
 vw:Blk wr vb 59 vc
 vlo:w.heap.size+1+1<vb
theorem OtM.below{wx:World}{oa:Option Addr}(k:OtM w wr W H n oa vb vc h)(hb:uj wr wx):OtM w wx W H n oa vb vc h:=
 ⟨k.bel.trans (hb.mono k.bel.size),k.was.keep (hb.block _ (Ab k.was)),k.res.keep (hb.block _ k.res.lt),k.hul.keep (hb.block _ (Ab k.hul)),k.vw.keep (hb.block _ (Ab k.vw)),k.vlo⟩
theorem OtM.store{oa:Option Addr}(k:OtM w wr W H n oa vb vc h)(q:R4):OtM w ((((wr.setCell (jA (w.heap.size+1+1) 0) (vj q.1)).setCell (jA (w.heap.size+1+1) 1) (vj q.2.1)).setCell (jA (w.heap.size+1+1) 2) (vj q.2.2.1)).setCell (jA (w.heap.size+1+1) 3) (vj q.2.2.2)) W H n oa vb vc q:=by
 have hl:=k.vlo;refine⟨CO k.bel (by omega) _ _ _ _,k.was.keep (Cu (by omega) _ _ _ _),k.res.keep (Cu (by omega) _ _ _ _),?_,k.vw.keep (Cu (by omega) _ _ _ _),k.vlo⟩;have:=k.hul.has;exact Ax.four (w:=wr) (b:=w.heap.size+1+1) (T:=53) this _ _ _ _
set_option linter.unusedSimpArgs false in
theorem Kj{S:Nat->Prop}{x:Nat}{st:St}(hw:Wf st){bv:Value}{sc mp:Nat}{blk:Int->Nat}{G:Int->Nat->Value}(h:AR w S x st bv sc mp blk G)(i:Nat)(hi:i∈st.order)(oa:Option Addr)(old:Nat->R4)
  (ho:0<(st.sf i).now.n->∃g,oa=some (jA g 0)/\Bj w g (st.sf i).now.n old):
  Calls prog 109 #[pj (blk i),.agg #[vj (st.sf i).now.w,vj (st.sf i).now.h,.slice oa (st.sf i).now.n (st.sf i).now.n]] w fun e w'=>e=.returned (.agg (r4C (BG (st.otherAt i old) (st.seen i))))/\uj w w':=by
 have hil:=hw.lt hi;obtain⟨kc,kf,kl⟩:=h.at (Af hi);have q:=(h.cells i (Af hi)).nat;have d:=h.data i hi;have lk:=(hw.lk i).1;have lw:=lk.w;have lh:=lk.h;obtain⟨W,hW⟩:∃W:Nat,(st.sf i).now.w=(W:Int):=⟨(st.sf i).now.w.toNat,by omega⟩;obtain⟨H,hH⟩:∃H:Nat,(st.sf i).now.h=(H:Int):=⟨(st.sf i).now.h.toNat,by omega⟩;have hnn:(st.sf i).now.n=W*H:=by unfold Dm.n;rw[hW,hH,<-Int.natCast_mul,aX]
 obtain⟨pa,e5,hpx⟩:=d.pix;have pl:=EU hw (i:Int) (by omega);have hscr:=K8 st i;have hww:=hw.ww;have hhh:=hw.hh;have HView:=Aa (fun V hV=>PB hw h (i:Int) (Af hi) V hV);have hvc:KX st (i:Int)=#[vj (i:Int),vj (st.px i),vj (st.py i),vj W,vj H,vj (st.seen i).1,vj (st.seen i).2.1,vj (st.seen i).2.2.1,vj (st.seen i).2.2.2]:=by
  rw[Tz];unfold C3;rw[hW,hH]
 rw[hvc]at HView;have hG:∀V:World,uj w V->V.cell? (jA (blk i) 3)=some (vj W)/\V.cell? (jA (blk i) 4)=some (vj H)/\V.cell? (jA (blk i) 5)=some (.slice pa (st.sf i).now.n (st.sf i).now.n)/\blk i<V.heap.size:=fun V hV=>by
  have hc:∀o,o<31->V.cell? (jA (blk i) o)=some (G i o):=fun o ho=>(hV.cell (p:=(jA (blk i) o)) kl).trans (kc o ho);exact⟨by rw[hc 3 (by omega),show G i 3=_ from q.now.w,hW],by rw[hc 4 (by omega),show G i 4=_ from q.now.h,hH],by rw[hc 5 (by omega),e5],aQ kl hV.size⟩
 have HG:=Aa hG;have HPx:Hid (∀(X Y:Int),inR (st.seen i) X Y=true->∃(K xx yy:Nat) (og pg:Nat),X-st.px i=xx/\Y-st.py i=yy/\oa=some (jA og 0)/\pa=some (jA pg 0)/\st.ixAt i X Y=K/\(∀V:World,uj w V->Calls prog 162 #[.agg #[vj W,vj H,sj og (st.sf i).now.n (st.sf i).now.n],vj (X-st.px i),vj (Y-st.py i)] V fun e w'=>e=.returned (.agg (Ch (old K)))/\uj V w')/\(∀V:World,uj w V->Calls prog 162 #[.agg #[vj W,vj H,sj pg (st.sf i).now.n (st.sf i).now.n],vj (X-st.px i),vj (Y-st.py i)] V fun e w'=>e=.returned (.agg (Ch ((st.sf i).now.pix K)))/\uj V w')):=fun X Y hin=>by
  have h1:=G1 hin;have hix:=G5 hw hin;obtain⟨og,hog,hof⟩:=ho (by omega);obtain⟨pg,hpg,_,hpf⟩:=hpx (by omega);rw[hW]at h1;rw[hH]at h1;have hn2:(st.sf i).now.n<=576:=by
   rw[hnn];exact bh (cI (show W<=24 by omega) (show H<=24 by omega)) (by omega)
  have hK:(Y-st.py i).toNat*W+(X-st.px i).toNat=st.ixAt i X Y:=by
   unfold St.ixAt;rw[hW,aX]
  refine⟨st.ixAt i X Y,(X-st.px i).toNat,(Y-st.py i).toNat,og,pg,by omega,by omega,hog,hpg,rfl,fun V hV=>?_,fun V hV=>?_⟩
  ·rw[show X-st.px i=(((X-st.px i).toNat:Nat):Int) by omega,show Y-st.py i=(((Y-st.py i).toNat:Nat):Int) by omega];exact FE W H _ og _ _ _ (by omega) (by omega) hK hix hn2 old V (hof.keep (hV.block og hof.has.lt))
  ·rw[show X-st.px i=(((X-st.px i).toNat:Nat):Int) by omega,show Y-st.py i=(((Y-st.py i).toNat:Nat):Int) by omega];exact FE W H _ pg _ _ _ (by omega) (by omega) hK hix hn2 _ V (hpf.keep (hV.block pg hpf.has.lt))
 have HH:=Aa (fun(a b:R4) (V:World)=>Vm a b V);unfold r4C at HH;have hpd:∀(X Y:Int) (K:Nat),st.ixAt i X Y=K->st.otherAt i old X Y=K7 (old K) ((st.sf i).now.pix K):=fun X Y K e=>by unfold St.otherAt;rw[e]
 have HPd:=Aa hpd;obtain⟨pd,hpdE⟩:∃pd,st.otherAt i old=pd:=⟨_,rfl⟩;rw[hpdE]at HPd ⊢;obtain⟨R,hR⟩:∃R,st.seen i=R:=⟨_,rfl⟩;rw[hR]at HView hscr HPx ⊢;obtain⟨zx,hzx⟩:∃z,st.px (i:Int)=z:=⟨_,rfl⟩;obtain⟨zy,hzy⟩:∃z,st.py (i:Int)=z:=⟨_,rfl⟩;rw[hzx,hzy]at HView HPx pl;obtain⟨n,hnE⟩:∃n,(st.sf i).now.n=n:=⟨_,rfl⟩;rw[hnE]at HG HPx ⊢;obtain⟨N,hN⟩:∃N,(st.sf i).now.pix=N:=⟨_,rfl⟩;rw[hN]at HPx HPd;obtain⟨gb,hgb⟩:∃gb,blk (i:Int)=gb:=⟨_,rfl⟩;rw[hgb]at HView HG kl ⊢;rw[hW,hH];obtain⟨hs0,hs1,hs2,hs3⟩:=hscr;have hX1:R.2.2.1<=24:=by omega
 have hY1:R.2.2.2<=24:=by omega
 clear h kc kf q d lk hpx e5 hvc hpd hpdE hR hzx hzy hnE hN hgb hG ho hw hww hhh hs2 hs3 hnn hil;go_enter func109,ntmps109
 have HA0:Hid (∀w1:World,Below (((w.alloc (.cells #[vj W,vj H,.slice oa n n] 122)).alloc (.cells #[vj 0,vj 0,vj 0,vj 0] 53)).alloc (.cells #[vj 0,vj 0,vj 0,vj 0] 53)).heap.size (((w.alloc (.cells #[vj W,vj H,.slice oa n n] 122)).alloc (.cells #[vj 0,vj 0,vj 0,vj 0] 53)).alloc (.cells #[vj 0,vj 0,vj 0,vj 0] 53)) w1->∀vc:Array Value,OtM w (w1.alloc (.cells vc 59)) W H n oa w1.heap.size vc (0,0,0,0)):=fun w1 hb vc=>by
  have hs:=hb.size;simp at hs;have q1:uj w w1:=(al3 (aO _) _ _ _).trans (hb.mono (by simp;omega));refine⟨q1.alloc q1.size _,?_,?_,?_,aR w1 _,by omega⟩
  ·refine(Ad _ _ _ (by omega)).trans ((hb.block _ (by simp;omega)).trans ?_);exact(Ad _ _ _ (by simp;omega)).trans ((Ad _ _ _ (by simp)).trans (aR w _))
  ·have:=Ax.new (w.alloc (.cells #[vj W,vj H,.slice oa n n] 122)) #[vj 0,vj 0,vj 0,vj 0] 53;rw[show(w.alloc (.cells #[vj W,vj H,.slice oa n n] 122)).heap.size=w.heap.size+1 by simp]at this;exact((this.alloc _).keep (hb.block _ (by simp))).alloc _
  ·refine(Ad _ _ _ (by omega)).trans ((hb.block _ (by simp)).trans ?_);have:=aR ((w.alloc (.cells #[vj W,vj H,.slice oa n n] 122)).alloc (.cells #[vj 0,vj 0,vj 0,vj 0] 53)) (.cells #[vj 0,vj 0,vj 0,vj 0] 53);rw[show((w.alloc (.cells #[vj W,vj H,.slice oa n n] 122)).alloc (.cells #[vj 0,vj 0,vj 0,vj 0] 53)).heap.size=w.heap.size+1+1 by simp]at this;exact this
 have HA3:=Aa (fun o1 o2 o3=>al3 (aO w.heap.size) o1 o2 o3)
 go_wp2_with(go_at_call 118;refine(HView.out _ (HA3.out _ _ _)).mono ?_;rintro e w1 ⟨rfl,hb⟩;have HM:=Aa (HA0.out w1 hb);have hw1:w.heap.size+1+1<w1.heap.size:=(by(have:=hb.size;simp at this;omega));clear hb)
 have HQ:=Aa X4
 go_loopg [7] (R.2.2.2-R.2.1).toNat (fun gg s7 wr=>∃(b:Nat) (Y:Int),s7=vj Y/\Y=R.2.1+b/\gg+b=(R.2.2.2-R.2.1).toNat/\Hid (OtM w wr W H n oa w1.heap.size #[vj (i:Int),vj zx,vj zy,vj W,vj H,vj R.1,vj R.2.1,vj R.2.2.1,vj R.2.2.2] (Bc pd R b)))
 case atStart=>exact⟨0,R.2.1,rfl,by simp,by omega,HM.out _⟩
 case round=>
  rename World=>wm;rename Nat=>gm;obtain⟨b,Y,rfl,hY',hgb',HJ⟩:=hrel;have HYe:=Aa hY';have v8:wm.cell? (jA w1.heap.size 8)=some (vj R.2.2.2):=HJ.out.vw.cell 8;have v5:wm.cell? (jA w1.heap.size 5)=some (vj R.1):=HJ.out.vw.cell 5;have hvl:=Ak v8;cases gm with
  |zero=>
   have hlt:¬Y<R.2.2.2:=by omega
   clear hY';have h0:wm.cell? (jA (w.heap.size+1+1) 0)=some (vj (Bc pd R b).1):=HJ.out.hul.cell 0;have h1:wm.cell? (jA (w.heap.size+1+1) 1)=some (vj (Bc pd R b).2.1):=HJ.out.hul.cell 1;have h2:wm.cell? (jA (w.heap.size+1+1) 2)=some (vj (Bc pd R b).2.2.1):=HJ.out.hul.cell 2;have h3:wm.cell? (jA (w.heap.size+1+1) 3)=some (vj (Bc pd R b).2.2.2):=HJ.out.hul.cell 3;have hhl:=Ak h0;obtain⟨⟨q0,r0⟩,⟨q1,r1⟩,⟨q2,r2⟩,⟨q3,r3⟩⟩:=aK (HJ.out.res.cell 0 (by omega)) (aK (HJ.out.res.cell 1 (by omega)) (aK (HJ.out.res.cell 2 (by omega)) (HJ.out.res.cell 3 (by omega))));have z0:=HJ.out.res.free 0;have z1:=HJ.out.res.free 1;have z2:=HJ.out.res.free 2;have z3:=HJ.out.res.free 3;have hbe:b=(R.2.2.2-R.2.1).toNat:=by omega
   have HE:Hid (Bc pd R b=BG pd R):=by unfold Hid BG;rw[hbe]
   obtain⟨T,hT⟩:∃T,Bc pd R b=T:=⟨_,rfl⟩;rw[hT]at h0 h1 h2 h3 HE;have HBl:Hid (∀u0 u1 u2 u3,uj w ((((wm.setCell (jA (w.heap.size+1) 0) u0).setCell (jA (w.heap.size+1) 1) u1).setCell (jA (w.heap.size+1) 2) u2).setCell (jA (w.heap.size+1) 3) u3)):=fun u0 u1 u2 u3=>CO HJ.out.bel (by omega) _ _ _ _;clear hT hbe hgb'
   go_wp2_with fail
   refine cU (v:=.agg #[vj T.1,vj T.2.1,vj T.2.2.1,vj T.2.2.2]) (by simp[results,results109,go_sem,r0,r1,r2,r3]) rfl ⟨?_,HBl.out _ _ _ _⟩;rw[<-HE.out];rfl
  |succ gm=>
   have hlt:Y<R.2.2.2:=by omega
   have hYb:0<=Y/\Y<24/\R.2.1<=Y:=by omega
   clear hY'
   go_wp2_with fail
   go_loopg [8] (R.2.2.1-R.1).toNat (fun gg s8 wr=>∃(a:Nat) (X:Int),s8=vj X/\X=R.1+a/\gg+a=(R.2.2.1-R.1).toNat/\Hid (OtM w wr W H n oa w1.heap.size #[vj (i:Int),vj zx,vj zy,vj W,vj H,vj R.1,vj R.2.1,vj R.2.2.1,vj R.2.2.2] (otherRow pd R.1 Y a (Bc pd R b))))
   case atStart=>exact⟨0,R.1,rfl,by simp,by omega,HJ.out⟩
   case round=>
    rename World=>wi;rename Nat=>gi;obtain⟨a,X,rfl,hX',hga,HX⟩:=hrel;have HXe:=Aa hX';have u7:wi.cell? (jA w1.heap.size 7)=some (vj R.2.2.1):=HX.out.vw.cell 7;have hul:=Ak u7;cases gi with
    |zero=>
     have hltX:¬X<R.2.2.1:=by omega
     clear hX'
     go_wp2_with fail
     go_roundg gm
     case measure=>omega
     case rel=>
      refine⟨b+1,Y+1,by go_num,by have:=HYe.out;omega,by omega,?_⟩;have e:Bc pd R (b+1)=otherRow pd R.1 Y a (Bc pd R b):=by
       show otherRow pd R.1 (R.2.1+b) (R.2.2.1-R.1).toNat (Bc pd R b)=_;rw[<-HYe.out,show(R.2.2.1-R.1).toNat=a by omega]
      rw[e];exact HX.out
    |succ gi=>
     have hltX:X<R.2.2.1:=by omega
     have hXb:0<=X/\X<24/\R.1<=X:=by omega
     clear hX';have hin:inR R X Y=true:=by
      unfold inR;simp only[bT];omega
     obtain⟨K,xx,yy,og,pg,hxx,hyy,rfl,rfl,hK,hA1,hA2⟩:=HPx.out X Y hin;have hwx:IntKind.i64.wrap (X-zx)=X-zx:=by rw[bB];omega
     have hwy:IntKind.i64.wrap (Y-zy)=Y-zy:=by rw[bB];omega
     have hdf:=HPd.out X Y K hK;have hnx:otherRow pd R.1 Y (a+1) (Bc pd R b)=if pd X Y=true then Fi (otherRow pd R.1 Y a (Bc pd R b)) (X,Y,X+1,Y+1)else otherRow pd R.1 Y a (Bc pd R b):=by
      show(if pd (R.1+a) Y=true then Fi (otherRow pd R.1 Y a (Bc pd R b)) (R.1+a,Y,R.1+a+1,Y+1)else otherRow pd R.1 Y a (Bc pd R b))=_;rw[<-HXe.out]
     obtain⟨t,ht⟩:∃t,pd X Y=t:=⟨_,rfl⟩;rw[ht]at hnx hdf;have HNx:=Aa hnx;obtain⟨Q1,hQ1⟩:∃Q,old K=Q:=⟨_,rfl⟩;obtain⟨Q2,hQ2⟩:∃Q,N K=Q:=⟨_,rfl⟩;rw[hQ1]at hA1 hdf;rw[hQ2]at hA2 hdf;have hq:∀V:World,(Op.equalIn 10000 51 (.agg #[.int .u8 Q1.1,.int .u8 Q1.2.1,.int .u8 Q1.2.2.1,.int .u8 Q1.2.2.2]) (.agg #[.int .u8 Q2.1,.int .u8 Q2.2.1,.int .u8 Q2.2.2.1,.int .u8 Q2.2.2.2])).run prog V=.ok (!t) V:=fun V=>by
      rw[HQ.out,hdf];unfold K7;rw[Bool.not_not]
     obtain⟨hc3,hc4,hc5,hgl⟩:=HG.out wi HX.out.bel;have FcS:Hid (∀V:World,uj wi V->V.cell? (jA w.heap.size 0)=some (vj W)/\V.cell? (jA w.heap.size 1)=some (vj H)/\V.cell? (jA w.heap.size 2)=some (sj og n n)/\V.cell? (jA w1.heap.size 1)=some (vj zx)/\V.cell? (jA w1.heap.size 2)=some (vj zy)/\V.cell? (jA gb 3)=some (vj W)/\V.cell? (jA gb 4)=some (vj H)/\V.cell? (jA gb 5)=some (sj pg n n)):=fun V hV=>by
      have k:=HX.out.below hV;obtain⟨y3,y4,y5,_⟩:=HG.out V k.bel;exact⟨k.was.cell 0,k.was.cell 1,k.was.cell 2,k.vw.cell 1,k.vw.cell 2,y3,y4,y5⟩
     obtain⟨s0,s1,s2,s3,s4,s5,s6,s7⟩:=FcS.out wi (aN _ _);have hl0:=Ak s0;have HA1:Hid (∀V:World,uj wi V->Calls prog 162 #[.agg #[vj W,vj H,sj og n n],vj (X-zx),vj (Y-zy)] V fun e w'=>e=.returned (.agg #[.int .u8 Q1.1,.int .u8 Q1.2.1,.int .u8 Q1.2.2.1,.int .u8 Q1.2.2.2])/\uj wi w'):=fun V hV=>(hA1 V (HX.out.below hV).bel).mono fun e w' ⟨h1,h2⟩=>⟨h1,hV.trans (h2.mono hV.size)⟩;have HA2:Hid (∀V:World,uj wi V->Calls prog 162 #[.agg #[vj W,vj H,sj pg n n],vj (X-zx),vj (Y-zy)] V fun e w'=>e=.returned (.agg #[.int .u8 Q2.1,.int .u8 Q2.2.1,.int .u8 Q2.2.2.1,.int .u8 Q2.2.2.2])/\uj wi w'):=fun V hV=>(hA2 V (HX.out.below hV).bel).mono fun e w' ⟨h1,h2⟩=>⟨h1,hV.trans (h2.mono hV.size)⟩;obtain⟨T,hT⟩:∃T,otherRow pd R.1 Y a (Bc pd R b)=T:=⟨_,rfl⟩;rw[hT]at HX HNx;clear hnx hA1 hA2 hK hdf hQ1 hQ2 ht hin hT hxx hyy
     go_upto_region 9 with fail
     go_cut [55] (fun s55 wx=>s55=.bool t/\Hid (uj wi wx))
     case first=>
      go_region_held3 (fun w'=>w'.cell? (jA w.heap.size 0)=some (vj W)/\w'.cell? (jA w.heap.size 1)=some (vj H)/\w'.cell? (jA w.heap.size 2)=some (sj og n n)/\w'.cell? (jA w1.heap.size 1)=some (vj zx)/\w'.cell? (jA w1.heap.size 2)=some (vj zy)/\w'.cell? (jA gb 3)=some (vj W)/\w'.cell? (jA gb 4)=some (vj H)/\w'.cell? (jA gb 5)=some (sj pg n n))
       (first
        |(refine FcS.out _ ?_;(repeat(first|with_reducible exact aN _ _|with_reducible exact HB5.out|with_reducible exact HB6.out|with_reducible refine bD ?_));done)
        |fail)
       (first
        |(go_at_call_of 162 (Value.agg #[vj (W:Int),vj (H:Int),sj og n n]);refine(HA1.out _ ?_).mono ?_;(repeat(first|with_reducible exact aN _ _|with_reducible exact HB6.out|with_reducible refine bD ?_));rintro e w5 ⟨rfl,hb⟩;have HB5:=Aa hb;clear hb)
        |(go_at_call_of 162 (Value.agg #[vj (W:Int),vj (H:Int),sj pg n n]);refine(HA2.out _ ?_).mono ?_;(repeat(first|with_reducible exact aN _ _|with_reducible exact HB5.out|with_reducible refine bD ?_));rintro e w6 ⟨rfl,hb⟩;have HB6:=Aa hb;clear hb)
        |fail)
      all_goals go_wp2_with fail
      all_goals go_meet
      all_goals first
       |exact⟨by simp,HB6.out⟩
       |exact⟨by simp,HB5.out⟩
     case rest=>
      obtain⟨rfl,HZ⟩:=hcut;have HM2:=Aa (HX.out.below HZ.out);clear s0 s1 s2 s3 s4 s5 s6 s7 hc3 hc4 hc5 hgl hl0 HA1 HA2 FcS hq u7 hul;cases t with
      |false=>
       rw[if_neg (by simp)]at HNx
       go_wp2_with fail
       go_roundg gi
       case measure=>omega
       case rel=>
        refine⟨a+1,X+1,by go_num,by have:=HXe.out;omega,by omega,?_⟩;rw[HNx.out];exact HM2.out
      |true=>
       rw[if_pos rfl]at HNx;have h0:=HM2.out.hul.cell 0;have h1:=HM2.out.hul.cell 1;have h2:=HM2.out.hul.cell 2;have h3:=HM2.out.hul.cell 3;simp only[br,bj,bt]at h0 h1 h2 h3;have hhl:=Ak h0;have HCe:Hid (∀V:World,uj wc V->V.cell? (jA (w.heap.size+1+1) 0)=some (vj T.1)/\V.cell? (jA (w.heap.size+1+1) 1)=some (vj T.2.1)/\V.cell? (jA (w.heap.size+1+1) 2)=some (vj T.2.2.1)/\V.cell? (jA (w.heap.size+1+1) 3)=some (vj T.2.2.2)/\(∀j,V.frozen? (jA (w.heap.size+1+1) j)=false)):=fun V hV=>by
        have k:=(HM2.out.below hV).hul;exact⟨k.cell 0,k.cell 1,k.cell 2,k.cell 3,fun j=>k.has.free j⟩
       have HH2:=Aa (HH.out T (X,Y,X+1,Y+1));simp only at HH2;obtain⟨U,hU⟩:∃U,Fi T (X,Y,X+1,Y+1)=U:=⟨_,rfl⟩;rw[hU]at HH2 HNx
       go_wp2_with(go_at_call 164;refine(HH2.out _).mono ?_;rintro e w8 ⟨rfl,hb8⟩;obtain⟨m0,m1,m2,m3,mf⟩:=HCe.out w8 hb8;have f0:=mf 0;have f1:=mf 1;have f2:=mf 2;have f3:=mf 3;have HB8:=Aa hb8;clear hb8 mf)
       go_roundg gi
       case measure=>omega
       case rel=>
        refine⟨a+1,X+1,by go_num,by have:=HXe.out;omega,by omega,?_⟩;rw[HNx.out];exact(HM2.out.below HB8.out).store U
end Go.Proofs.YtofinpocigbbeaaGreat
