import Derived.Test.YtofinpocigbbeaaGreatKas
set_option maxHeartbeats 4000000
set_option maxRecDepth 100000
set_option linter.unusedSimpArgs false
namespace Go.Proofs.YtofinpocigbbeaaGreat
open Go.Proofs.Tryz Go.RowKit
attribute [local go_sem ↓] Go.wp_at_zero Go.wp_at_succ
def bP(b:Bool):R4:=(if b=true then 1 else 0,0,0,0)
def pB(r:R4):Bool:=decide (r.1=1)
theorem SI(b:Bool):pB (bP b)=b:=by cases b<;>rfl
def MkF(w:World)(g n:Nat)(F:Nat->R4):Prop:=A2 w g n fun k=>pB (F k)
def SJ(W H:Nat)(pv:Value)(x y:Int)(c:R4)(b:Bool)(hv:Value):Array Value:=#[vj W,vj H,pv,vj x,vj y,vj c.1,vj c.2.1,vj c.2.2.1,vj c.2.2.2,.bool b,hv]
theorem WV(u:World)(o:Obj)(n:Nat)(h:u.heap.size=n):(u.alloc o).heap[n]?=some o:=by subst h;exact aR u o
structure KpM(w V:World)(g n W H:Nat)(pa:Option Addr)(x y:Int)(c:R4)(b:Bool)(ha:Option Addr)(hm hk:Nat)(mb:Nat)(lv:Value)(l:List R4)(f:Nat->R4):Prop where
 bel:uj w V
 box:Blk V w.heap.size 169 (SJ W H (.slice pa n n) x y c b (.slice ha hm hk))
 res:Ax V (w.heap.size+1) 156 3
 mrk:Blk V mb 156 #[vj W,vj H,sj g n n]
 mlo:w.heap.size+1<mb
 rects:AF V w.heap.size lv l
 pix:0<n->∃pg,pa=some (jA pg 0)/\Bj V pg n f
 glo:w.heap.size<=g/\g<V.heap.size
theorem KpM.keep{w V wr:World}{g n W H:Nat}{pa:Option Addr}{x y:Int}{c:R4}{b:Bool}{ha:Option Addr}{hm hk:Nat}{mb:Nat}{lv:Value}{l:List R4}{f:Nat->R4}(h:KpM w V g n W H pa x y c b ha hm hk mb lv l f)(hg:∃cur,V.heap[g]?=some (.cells cur 4 (0,0)))(ho:Ac (fun b=>b=g) V wr):KpM w wr g n W H pa x y c b ha hm hk mb lv l f:=by
 obtain⟨gc,hgc⟩:=hg;have hne:∀(q:Nat) (cur:Array Value) (t:TypeId),t≠4->V.heap[q]?=some (.cells cur t (0,0))->wr.heap[q]?=V.heap[q]? :=fun q cur t ht e=>ho.block q (Ab e) fun e2=>by
  subst e2;have:=hgc.symm.trans e;simp at this;exact ht this.2.symm
 refine⟨⟨ho.os.trans h.bel.os,ho.tape.trans h.bel.tape,ho.output.trans h.bel.output,bh h.bel.size ho.size,fun q hq=>(ho.block q (aQ hq h.bel.size) (by have:=h.glo;omega)).trans (h.bel.block q hq)⟩,h.box.keep (hne _ _ 169 (by decide) h.box),?_,h.mrk.keep (hne _ _ 156 (by decide) h.mrk),h.mlo,⟨Ai h.rects.1 fun q hq=>?_,h.rects.2⟩,fun hn=>?_,h.glo.1,aQ h.glo.2 ho.size⟩
 ·obtain⟨cur,q1,q2⟩:=h.res;exact⟨cur,(hne _ _ 156 (by decide) q1).trans q1,q2⟩
 ·obtain⟨cur,e⟩:=Ap h.rects.1 hq;exact hne q cur 53 (by decide) e
 ·obtain⟨pg,e1,cur,e2,e3⟩:=h.pix hn;exact⟨pg,e1,cur,(hne pg cur 51 (by decide) e2).trans e2,e3⟩
theorem NV(W H n:Nat)(pa:Option Addr)(x y:Int)(c:R4)(b:Bool)(ha:Option Addr)(hm hk:Nat)(f:Nat->R4)(ht:Int->Int->Bool)(R:Rgn)(w:World)(hW:W<=24)(hH:H<=24)(hn:W*H=n)(hp:0<n->∃pg,pa=some (jA pg 0)/\Bj w pg n f)(hR:AJ w (.slice ha hm hk) R)(hG:AL R)(hm2:∀x y,Ay R x y=ht x y):
  Calls prog 107 #[.agg (SJ W H (.slice pa n n) x y c b (.slice ha hm hk))] w fun e w'=>∃g,e=.returned (.agg #[vj W,vj H,sj g n n])/\A2 w' g n (fun k=>ht ((k:Int)%W) ((k:Int)/W)&&decide ((f k).2.2.2=255))/\w.heap.size<=g/\uj w w':=by
 have hn2:n<=576:=by rw[<-hn];exact bh (cI hW hH) (by omega)
 have hWH:(W:Int)*(H:Int)=(n:Int):=by rw[<-hn];simp
 have HNw:Hid (∀V:World,Calls prog 159 #[vj W,vj H] V fun e w'=>∃g,e=.returned (.agg #[vj W,vj H,sj g n n])/\A2 w' g n (fun _=>false)/\V.heap.size<=g/\uj V w'):=fun V=>NT W H n hWH hn2 V;have HOf:Hid (∀(V:World) (B:Nat),V.heap[B]?=some (.cells #[vj 0,vj 0,vj W,vj H] 53 (0,0))->Calls prog 73 #[sj B 1 1] V fun e w'=>∃a m c' O,e=.returned (.agg #[.slice a m c'])/\AJ w' (.slice a m c') O/\AL O/\(∀x y,Ay O x y=inR (0,0,(W:Int),(H:Int)) x y)/\uj V w'):=fun V B hB=>by
  refine(KF [(0,0,(W:Int),(H:Int))] _ V ⟨_,1,rfl,fun _=>⟨B,0,rfl,fun k hk=>?_⟩⟩ (by simp) (fun r hr=>?_)).mono ?_
  ·have hk0:k=0:=by simpa using hk
   subst hk0;exact⟨aP V B 0 _ _ _ hB,aP V B 1 _ _ _ hB,aP V B 2 _ _ _ hB,aP V B 3 _ _ _ hB⟩
  ·simp at hr;subst hr;unfold AU;simp;omega
  ·rintro e w' ⟨u,O,rfl,q2,q3,q4,q5⟩;obtain⟨a,m,c',rfl⟩:=q2.form;exact⟨a,m,c',O,rfl,q2,q3,fun x y=>by rw[q4];simp[AE],q5⟩
 have HCm:Hid (∀(V:World) (u:Value) (O:Rgn),uj w V->AJ V u O->AL O->Calls prog 103 #[vj 1,.agg #[.slice ha hm hk],.agg #[u]] V fun e w'=>∃a m c' O',e=.returned (.agg #[.slice a m c'])/\AJ w' (.slice a m c') O'/\AL O'/\(∀x y,Ay O' x y=(ht x y&&Ay O x y))/\uj V w'):=fun V u O hV hu hO=>(EI 1 R O _ _ V hG hO (hR.below hV) hu).mono fun e w' ⟨v2,O',q1,q2,q3,q4,q5⟩=>by
  obtain⟨a,m,c',rfl⟩:=q2.bands.form;exact⟨a,m,c',O',q1,q2.bands,q3,fun x y=>by rw[q4,hm2];rfl,q5⟩
 have HRc:Hid (∀(V:World) (u:Value) (O:Rgn),AJ V u O->AL O->Calls prog 77 #[.agg #[u]] V fun e w'=>∃v,e=.returned v/\AF w' V.heap.size v (rc O)/\uj V w'):=fun V u O hu hO=>Je O u V hu hO;have HP:=Aa hp;clear hp hR hG hm2 hWH;unfold SJ;go_enter func107,ntmps107
 go_upto_region 1 with fail
 have HZ:Hid (uj w ((w.alloc (.cells #[vj W,vj H,.slice pa n n,vj x,vj y,vj c.1,vj c.2.1,vj c.2.2.1,vj c.2.2.2,.bool b,.slice ha hm hk] 169)).alloc (.cells #[vj 0,vj 0,jj] 156))/\Blk ((w.alloc (.cells #[vj W,vj H,.slice pa n n,vj x,vj y,vj c.1,vj c.2.1,vj c.2.2.1,vj c.2.2.2,.bool b,.slice ha hm hk] 169)).alloc (.cells #[vj 0,vj 0,jj] 156)) w.heap.size 169 #[vj W,vj H,.slice pa n n,vj x,vj y,vj c.1,vj c.2.1,vj c.2.2.1,vj c.2.2.2,.bool b,.slice ha hm hk]/\Ax ((w.alloc (.cells #[vj W,vj H,.slice pa n n,vj x,vj y,vj c.1,vj c.2.1,vj c.2.2.1,vj c.2.2.2,.bool b,.slice ha hm hk] 169)).alloc (.cells #[vj 0,vj 0,jj] 156)) (w.heap.size+1) 156 3):=by
  refine⟨al2 (aO _) _ _,(Ad _ _ _ (by simp)).trans (aR w _),?_⟩;have:=Ax.new (w.alloc (.cells #[vj W,vj H,.slice pa n n,vj x,vj y,vj c.1,vj c.2.1,vj c.2.2.1,vj c.2.2.2,.bool b,.slice ha hm hk] 169)) #[vj 0,vj 0,jj] 156;simpa using this
 generalize ((w.alloc (.cells #[vj W,vj H,.slice pa n n,vj x,vj y,vj c.1,vj c.2.1,vj c.2.2.1,vj c.2.2.2,.bool b,.slice ha hm hk] 169)).alloc (.cells #[vj 0,vj 0,jj] 156))=V0 at*;have HBX:Hid (∀V:World,uj V0 V->V.cell? (jA w.heap.size 0)=some (vj W)/\V.cell? (jA w.heap.size 1)=some (vj H)/\V.cell? (jA w.heap.size 2)=some (.slice pa n n)):=fun V hV=>by
  have q:Blk V w.heap.size 169 _:=HZ.out.2.1.keep (hV.block _ (Ab HZ.out.2.1));exact⟨q.cell 0,q.cell 1,q.cell 2⟩
 have HHN:Hid (∀V:World,uj V0 V->V.cell? (jA w.heap.size 10)=some (.slice ha hm hk)/\w.heap.size<V.heap.size):=fun V hV=>by
  have q:Blk V w.heap.size 169 _:=HZ.out.2.1.keep (hV.block _ (Ab HZ.out.2.1));exact⟨q.cell 10,Ab q⟩
 have HW2:Hid (∀V:World,uj V0 V->Calls prog 157 #[.agg #[vj W,vj H,.slice pa n n]] V fun e w'=>e=.returned (vj W)/\uj V0 w'):=fun V hV=>(Jq _ _ _ V).mono fun e w' ⟨h1,h2⟩=>⟨h1,by rw[h2];exact hV.alloc hV.size _⟩;have HH2:Hid (∀V:World,uj V0 V->Calls prog 158 #[.agg #[vj W,vj H,.slice pa n n]] V fun e w'=>e=.returned (vj H)/\uj V0 w'):=fun V hV=>(Ib _ _ _ V).mono fun e w' ⟨h1,h2⟩=>⟨h1,by rw[h2];exact hV.alloc hV.size _⟩;obtain⟨x0,x1,x2⟩:=HBX.out V0 (aN _ _)
 go_cut [3,4] (fun s3 s4 wx=>s3=vj W/\s4=vj H/\Hid (uj V0 wx))
 case first=>
  go_region_held3 (fun w'=>w'.cell? (jA w.heap.size 0)=some (vj W)/\w'.cell? (jA w.heap.size 1)=some (vj H)/\w'.cell? (jA w.heap.size 2)=some (.slice pa n n))
   (first
    |(refine HBX.out _ ?_;(repeat(first|with_reducible exact aN _ _|with_reducible exact HB2.out|with_reducible exact HB3.out|with_reducible refine bD ?_));done)
    |fail)
   (first
    |(go_at_call 157;refine(HW2.out _ ?_).mono ?_;(repeat(first|with_reducible exact aN _ _|with_reducible exact HB3.out|with_reducible refine bD ?_));rintro e w2 ⟨rfl,hb⟩;have HB2:=Aa hb;clear hb)
    |(go_at_call 158;refine(HH2.out _ ?_).mono ?_;(repeat(first|with_reducible exact aN _ _|with_reducible exact HB2.out|with_reducible refine bD ?_));rintro e w3 ⟨rfl,hb⟩;have HB3:=Aa hb;clear hb)
    |fail)
  all_goals go_wp2_with fail
  all_goals go_meet
  all_goals first
   |exact⟨rfl,rfl,HB3.out⟩
   |exact⟨rfl,rfl,HB2.out⟩
 case rest=>
  obtain⟨rfl,rfl,HV1⟩:=hcut;clear x0 x1 x2 HW2 HH2;have HK:Hid (∀(w1 w2 w3 w4:World) (g:Nat) (rb:Obj) (gb:Value) (O O':Rgn) (lv:Value),A2 w1 g n (fun _=>false)->wc.heap.size<=g->uj wc w1->Below ((w1.alloc (.cells #[vj W,vj H,sj g n n] 156)).alloc rb).heap.size ((w1.alloc (.cells #[vj W,vj H,sj g n n] 156)).alloc rb) w2->Below (w2.alloc (.cells #[gb] 136)).heap.size (w2.alloc (.cells #[gb] 136)) w3->uj w3 w4->AF w4 w3.heap.size lv (rc O')->KpM w w4 g n W H pa x y c b ha hm hk w1.heap.size lv (rc O') f/\A2 w4 g n (fun _=>false)):=fun w1 w2 w3 w4 g rb gb O O' lv hbf hgl b1 b2 b3 b4 ho=>by
   have c1:uj V0 w1:=HV1.out.trans (b1.mono HV1.out.size);have a2:uj w1 w2:=(al2 (aO _) _ _).trans (b2.mono (by simp;omega));have a3:uj w1 w3:=(a2.alloc a2.size _).trans (b3.mono (by have:=a2.size;simp;omega));have a4:uj w1 w4:=a3.trans (b4.mono a3.size);have c4:uj V0 w4:=c1.trans (a4.mono c1.size);have hV0:=HZ.out.1.size;have hv1:=HV1.out.size;have hb0:=Ab HZ.out.2.1;have hr0:=HZ.out.2.2.lt;have hs1:=b1.size;have hs3:=a3.size;refine⟨⟨HZ.out.1.trans (c4.mono HZ.out.1.size),HZ.out.2.1.keep (c4.block _ hb0),HZ.out.2.2.keep (c4.block _ hr0),?_,by omega,ho.lower (by omega),fun hn0=>?_,by omega,?_⟩,hbf.keep (a4.block g hbf.has.lt)⟩
   ·have q:((w1.alloc (.cells #[vj W,vj H,sj g n n] 156)).alloc rb).heap[w1.heap.size]?=some (.cells #[vj W,vj H,sj g n n] 156 (0,0)):=(Ad _ _ _ (by simp)).trans (aR w1 _);have q2:=(b2.block _ (Ab q)).trans q;have q3:=(b3.block _ (aQ (Ab q2) (by simp))).trans ((Ad w2 _ _ (Ab q2)).trans q2);exact(b4.block _ (Ab q3)).trans q3
   ·obtain⟨pg,e1,e2⟩:=HP.out hn0;exact⟨pg,e1,e2.keep ((HZ.out.1.trans (c4.mono HZ.out.1.size)).block pg e2.has.lt)⟩
   ·exact aQ hbf.has.lt a4.size
  have HHc:=Aa (HHN.out wc HV1.out)
  go_wp2_with(first
   |(go_at_call 159;refine(HNw.out _).mono ?_;rintro e w1 ⟨g,rfl,hg1,hg2,hb1⟩;have H1:=Aa (aK hg1 (aK hg2 hb1));clear hg1 hg2 hb1)
   |(go_at_call 73;refine(HOf.out _ _ (WV _ _ _ (by simp))).mono ?_;rintro e w2 ⟨ua,un,uc,O,rfl,q1,q2,q3,b2⟩;have hB2:=HV1.out.trans ((H1.out.2.2.trans ((al2 (aO _) _ _).trans (b2.mono (by simp;omega)) |>.mono H1.out.2.2.size)).mono HV1.out.size);obtain⟨hc10,hwl2⟩:=HHN.out w2 hB2;have H2:=Aa (aK q1 (aK q2 (aK q3 (aK b2 hB2))));clear q1 q2 q3 b2 hB2)
   |(go_at_call 103;refine(HCm.out _ _ O (HZ.out.1.trans (((H2.out.2.2.2.2).alloc (H2.out.2.2.2.2).size _).mono HZ.out.1.size)) (H2.out.1.below (al1 (aO _) _)) H2.out.2.1).mono ?_;rintro e w3 ⟨va3,vn3,vc3,O',rfl,q1,q2,q3,b3⟩;have H3:=Aa (aK q1 (aK q2 (aK q3 b3)));clear q1 q2 q3 b3)
   |(go_at_call 77;refine(HRc.out _ _ O' H3.out.1 H3.out.2.1).mono ?_;rintro e w4 ⟨lv,rfl,q1,b4⟩;obtain⟨la,lc,hlf⟩:=q1.form;obtain⟨m,hlm⟩:∃m,(rc O').length=m:=⟨_,rfl⟩;rw[hlm]at hlf;subst hlf;have HLM0:=Aa hlm;have H4:=Aa (aK q1 b4);clear q1 b4 hlm))
  have hL:=HK.out w1 w2 w3 w4 g _ _ O O' (.slice la m lc) H1.out.1 H1.out.2.1 H1.out.2.2 H2.out.2.2.2.1 H3.out.2.2.2 H4.out.2 H4.out.1;have hG':=H3.out.2.1;have hmem:∀x y,Ay O' x y=(ht x y&&inR (0,0,(W:Int),(H:Int)) x y):=fun x y=>by rw[H3.out.2.2.1,H2.out.2.2.1]
  obtain⟨l,hl⟩:∃l,rc O'=l:=⟨_,rfl⟩;have hlm:=HLM0.out;rw[hl]at hL hlm;have HOn:Hid (∀r∈l,Fc W H r):=fun r hr=>by
   rw[<-hl]at hr;refine U3 hG' (fun x y hxy=>?_) hr;rw[hmem,Bool.and_eq_true]at hxy;exact hxy.2
  have hlen:l.length<=100000000:=by
   have:=Nz hG' O'.length;rw[List.take_length,hl]at this;have h2:=hG'.len;have:O'.length*2001<=9000*2001:=bU _ (by omega);omega
  have HFin:Hid (∀k,k<n->pB (BA W l (fun x y=>bP (decide ((f (y*W+x)).2.2.2=255))) (fun _=>bP false) k)=(ht ((k:Int)%W) ((k:Int)/W)&&decide ((f k).2.2.2=255))):=fun k hk=>by
   have hW0:0<W:=by
    rcases Nat.eq_zero_or_pos W with e|e
    ·rw[e,Nat.zero_mul]at hn;omega
    ·exact e
   have hkm:k/W<H:=by
    rw[Nat.div_lt_iff_lt_mul hW0,Nat.mul_comm];omega
   have hkw:=Nat.mod_lt k hW0;have e0:k/W*W+k%W=k:=by have:=Nat.div_add_mod k W;rw[Nat.mul_comm]at this;exact this
   unfold BA;rw[<-hl,KQ,hmem];have hin:inR (0,0,(W:Int),(H:Int)) ((k%W:Nat):Int) ((k/W:Nat):Int)=true:=by
    unfold inR;simp only[bT];generalize k/W=q1 at*;generalize k%W=q2 at*;omega
   rw[hin,Bool.and_true,show((k%W:Nat):Int)=(k:Int)%(W:Int)from rfl,show((k/W:Nat):Int)=(k:Int)/(W:Int)from rfl];cases ht ((k:Int)%W) ((k:Int)/W)with
   |true=>simp[SI,e0]
   |false=>simp[SI]
  rw[hlm]at hlen;clear HLM0;have HLM:=Aa hlm;obtain⟨pic,hpic⟩:∃pic:Nat->Nat->R4,pic=fun x y=>bP (decide ((f (y*W+x)).2.2.2=255)):=⟨_,rfl⟩;rw[<-hpic]at HFin;have HPic:=Aa hpic;have hg4:∃cur,w4.heap[g]?=some (.cells cur 4 (0,0)):=let ⟨cur,e,_⟩:=hL.2;⟨cur,e⟩
  have HS:Hid (∀V:World,Ac (fun b=>b=g) w4 V->KpM w V g n W H pa x y c b ha hm hk w1.heap.size (.slice la m lc) l f):=fun V hV=>hL.1.keep hg4 hV;have HSt:Hid (MkF w4 g n (BA W (l.take 0) pic fun _=>bP false)):=hL.2.congr fun k _=>by rw[JX,SI]
  clear hL hl hmem hG' hlm hpic hg4 HK H1 H2 H3 H4 HRc HCm HOf HNw HBX HHN HZ HP HV1 HHc hc10 hwl2
  go_loopg [31] m (fun gg s31 wr=>∃k:Nat,s31=vj k/\gg+k=m/\Hid (MkF wr g n (BA W (l.take k) pic fun _=>bP false)/\Ac (fun b=>b=g) w4 wr))
  case atStart=>exact⟨0,rfl,by omega,HSt.out,Ac.refl _ _⟩
  case round=>
   rename World=>wo;rename Nat=>gO;obtain⟨k,rfl,hgk,HI⟩:=hrel;have hM:=HS.out wo HI.out.2;cases gO with
   |zero=>
    have hlt:¬(k:Int)<(m:Int):=by omega
    have k0:wo.cell? (jA w1.heap.size 0)=some (vj W):=hM.mrk.cell 0;have k1:wo.cell? (jA w1.heap.size 1)=some (vj H):=hM.mrk.cell 1;have k2:wo.cell? (jA w1.heap.size 2)=some (sj g n n):=hM.mrk.cell 2;have hml:=Ak k0;obtain⟨⟨q0,r0⟩,⟨q1,r1⟩,⟨q2,r2⟩⟩:=aK (hM.res.cell 0 (by omega)) (aK (hM.res.cell 1 (by omega)) (hM.res.cell 2 (by omega)));have z0:=hM.res.free 0;have z1:=hM.res.free 1;have z2:=hM.res.free 2;have hne:g≠w.heap.size+1:=fun e=>by
     obtain⟨cur,e1,_⟩:=HI.out.1;obtain⟨cur2,e2,_⟩:=hM.res;rw[e]at e1;have:=e1.symm.trans e2;simp at this
    have HE:Hid (∀u0 u1 u2,A2 (((wo.setCell (jA (w.heap.size+1) 0) u0).setCell (jA (w.heap.size+1) 1) u1).setCell (jA (w.heap.size+1) 2) u2) g n (fun k=>ht ((k:Int)%W) ((k:Int)/W)&&decide ((f k).2.2.2=255))/\w.heap.size<=g/\uj w (((wo.setCell (jA (w.heap.size+1) 0) u0).setCell (jA (w.heap.size+1) 1) u1).setCell (jA (w.heap.size+1) 2) u2)):=fun u0 u1 u2=>by
     refine⟨?_,hM.glo.1,((hM.bel.setCell (by show w.heap.size<=w.heap.size+1;omega) _).setCell (by show w.heap.size<=w.heap.size+1;omega) _).setCell (by show w.heap.size<=w.heap.size+1;omega) _⟩;have hfull:l.take k=l:=bw (by have:=HLM.out;omega);have h1:=HI.out.1;rw[hfull]at h1;refine A2.congr ?_ HFin.out;refine A2.keep h1 ?_;rw[aL _ (jA (w.heap.size+1) 2) g _ hne,aL _ (jA (w.heap.size+1) 1) g _ hne,aL _ (jA (w.heap.size+1) 0) g _ hne]
    clear hM
    go_wp2_with fail
    refine cU (v:=.agg #[vj W,vj H,sj g n n]) (by simp[results,results107,go_sem,r0,r1,r2]) rfl ⟨g,rfl,HE.out _ _ _⟩
   |succ gO=>
    have hlt:(k:Int)<(m:Int):=by omega
    have hkl:k<l.length:=by have:=HLM.out;omega
    obtain⟨x0,y0,x1,y1,hr,hx1,hx2,hy1,hy2⟩:=(HOn.out l[k] (aZ hkl)).nats;obtain⟨a',c',hv',hcs⟩:=hM.rects.rects;injection hv' with e1 e2 e3;subst e1 e3;clear e2;obtain⟨rb,off,ha',hct⟩:=hcs (by omega);subst ha';obtain⟨c1,c2,c3,c4⟩:=hct k hkl;rw[hr]at c1 c2 c3 c4;simp only at c1 c2 c3 c4;have hrl:=Ak c1;have hcap:m<=lc:=by
     have:=hM.rects.1.2;rcases this with⟨e,_⟩|⟨g',cap',cur',e,_,_,e4,_⟩
     ·cases e
     ·injection e with _ _ e3;have h2:=HLM.out;omega
    have hklc:k<lc:=by omega
    have HR:=Aa hr;have HB2:Hid (Ac (fun b=>b=g) w4 (wo.alloc (.cells #[vj x0,vj y0,vj x1,vj y1] 53))/\Blk (wo.alloc (.cells #[vj x0,vj y0,vj x1,vj y1] 53)) wo.heap.size 53 #[vj x0,vj y0,vj x1,vj y1]/\MkF (wo.alloc (.cells #[vj x0,vj y0,vj x1,vj y1] 53)) g n (BL W x0 y0 x1 y1 pic (BA W (l.take k) pic fun _=>bP false) y0 x0)/\g<wo.heap.size):=by
     refine⟨HI.out.2.alloc _,aR wo _,?_,hM.glo.2⟩;refine A2.congr (A2.keep HI.out.1 (Ad wo _ g hM.glo.2)) fun j _=>?_;rw[<-Hh]
    clear hM hcs hct hr
    go_wp2_with fail
    generalize hVR:wo.alloc (.cells #[vj x0,vj y0,vj x1,vj y1] 53)=V3 at*;clear hVR c1 c2 c3 c4;obtain⟨qb,hqb⟩:∃qb,wo.heap.size=qb:=⟨_,rfl⟩;rw[hqb]at HB2 ⊢;have hgq:g≠qb:=by have:=HB2.out.2.2.2;omega
    clear hqb;obtain⟨P0,hP0⟩:∃P0,(BA W (l.take k) pic fun _=>bP false)=P0:=⟨_,rfl⟩;rw[hP0]at HB2;have HP0:=Aa hP0;clear hP0;have HQ:Hid (∀V:World,Ac (fun b=>b=g) V3 V->Ac (fun b=>b=g) w4 V/\Blk V qb 53 #[vj x0,vj y0,vj x1,vj y1]):=fun V hV=>⟨HB2.out.1.trans (hV.mono fun b _ hb=>.inl hb),HB2.out.2.1.keep (hV.block qb (Ab HB2.out.2.1) fun e=>hgq e.symm)⟩
    go_loopg [9] (y1-y0) (fun gg s9 wr=>∃(j Y:Nat),s9=vj Y/\Y=y0+j/\gg+j=y1-y0/\Hid (MkF wr g n (BL W x0 y0 x1 y1 pic P0 Y x0)/\Ac (fun b=>b=g) V3 wr))
    case atStart=>exact⟨0,y0,rfl,rfl,by omega,HB2.out.2.2.1,Ac.refl _ _⟩
    case round=>
     rename World=>wm;rename Nat=>gm;obtain⟨j,Y,rfl,hY',hgj,HJ⟩:=hrel;have hYb:y0<=Y/\Y<=y1:=by omega
     have HYe:=Aa hY';clear hY';have q3:wm.cell? (jA qb 3)=some (vj y1):=(HQ.out wm HJ.out.2).2.cell 3;have q0:wm.cell? (jA qb 0)=some (vj x0):=(HQ.out wm HJ.out.2).2.cell 0;have hql:=Ak q3;cases gm with
     |zero=>
      have hltY:¬(Y:Int)<(y1:Int):=by have:=HYe.out;omega
      go_wp2_with fail
      go_roundg gO
      case measure=>omega
      case rel=>
       refine⟨k+1,by go_num,by omega,?_,(HQ.out wm HJ.out.2).1⟩;refine A2.congr HJ.out.1 fun q _=>?_;rw[JU W x0 y0 x1 y1 pic P0 Y x0 (by omega),<-HP0.out,JY W l pic _ k hkl x0 y0 x1 y1 HR.out]
     |succ gm=>
      have hltY:(Y:Int)<(y1:Int):=by have:=HYe.out;omega
      have hYy:Y<y1:=by omega
      go_wp2_with fail
      go_loopg [10] (x1-x0) (fun gg s10 wr=>∃(i X:Nat),s10=vj X/\X=x0+i/\gg+i=x1-x0/\Hid (MkF wr g n (BL W x0 y0 x1 y1 pic P0 Y X)/\Ac (fun b=>b=g) V3 wr))
      case atStart=>exact⟨0,x0,rfl,rfl,by omega,HJ.out⟩
      case round=>
       rename World=>wi;rename Nat=>gi;obtain⟨i,X,rfl,hX',hgi,HX⟩:=hrel;have hXb:x0<=X/\X<=x1:=by omega
       have HXe:=Aa hX';clear hX';have p2:wi.cell? (jA qb 2)=some (vj x1):=(HQ.out wi HX.out.2).2.cell 2;have hpl:=Ak p2;cases gi with
       |zero=>
        have hltX:¬(X:Int)<(x1:Int):=by have:=HXe.out;omega
        go_wp2_with fail
        go_roundg gm
        case measure=>omega
        case rel=>
         refine⟨j+1,Y+1,by go_num,by have:=HYe.out;omega,by omega,?_,HX.out.2⟩;exact A2.congr HX.out.1 fun q _=>by rw[JT W x0 y0 x1 y1 pic P0 Y X (by omega)]
       |succ gi=>
        have hltX:(X:Int)<(x1:Int):=by have:=HXe.out;omega
        have hXx:X<x1:=by omega
        have hKn:Y*W+X<n:=by
         have e1:(Y+1)*W<=H*W:=bU W (by omega);have e2:(Y+1)*W=Y*W+W:=Nat.succ_mul Y W;have e3:H*W=n:=by rw[Nat.mul_comm];exact hn
         omega
        have hM:=HS.out wi (HQ.out wi HX.out.2).1;have FcS:Hid (∀V:World,Ac (fun b=>b=g) wi V->V.cell? (jA w1.heap.size 0)=some (vj W)/\V.cell? (jA w1.heap.size 1)=some (vj H)/\V.cell? (jA w1.heap.size 2)=some (sj g n n)/\V.cell? (jA w.heap.size 0)=some (vj W)/\V.cell? (jA w.heap.size 1)=some (vj H)/\V.cell? (jA w.heap.size 2)=some (.slice pa n n)):=fun V hV=>by
         have hM:=HS.out V ((HQ.out wi HX.out.2).1.trans (hV.mono fun b _ hb=>.inl hb));exact⟨hM.mrk.cell 0,hM.mrk.cell 1,hM.mrk.cell 2,hM.box.cell 0,hM.box.cell 1,hM.box.cell 2⟩
        obtain⟨s0,s1,s2,s3,s4,s5⟩:=FcS.out wi (Ac.refl _ _);have hmb:=Ak s0;have hnb:=Ak s3;obtain⟨pg,rfl,hpf⟩:=hM.pix (by omega);have HAt:Hid (∀V:World,uj wi V->Calls prog 162 #[.agg #[vj W,vj H,sj pg n n],vj X,vj Y] V fun e w'=>e=.returned (.agg (Ch (f (Y*W+X))))/\uj wi w'):=fun V hV=>(FE W H n pg X Y _ hW (by omega) rfl hKn hn2 f V (hpf.keep (hV.block pg hpf.has.lt))).mono fun e w' ⟨h1,h2⟩=>⟨h1,hV.trans (h2.mono hV.size)⟩;have HSo:Hid (∀V:World,uj wi V->Calls prog 161 #[.agg (Ch (f (Y*W+X)))] V fun e w'=>e=.returned (.bool (decide ((f (Y*W+X)).2.2.2=255)))/\uj wi w'):=fun V hV=>(TK _ V).mono fun e w' ⟨h1,h2⟩=>⟨h1,hV.trans (h2.mono hV.size)⟩;have HSe:Hid (∀V:World,uj wi V->Calls prog 160 #[.agg #[vj W,vj H,sj g n n],vj X,vj Y,.bool (decide ((f (Y*W+X)).2.2.2=255))] V fun e w'=>e=.returned (.tuple #[])/\Hid (MkF w' g n (BL W x0 y0 x1 y1 pic P0 Y (X+1))/\Ac (fun b=>b=g) V3 w')/\Ac (fun b=>b=g) wi w'):=fun V hV=>by
         have hgl:=hM.glo.2;have hk:=A2.keep HX.out.1 (hV.block g hgl);refine(NU W H n g X Y (Y*W+X) hW (by omega) rfl hKn hn2 _ _ V hk).mono fun e w' ⟨h1,h2,h3⟩=>⟨h1,⟨h2.congr fun q _=>?_,(HX.out.2.after hV).trans (h3.mono fun b _ hb=>.inl hb)⟩,(Ac.below hV).trans (h3.mono fun b _ hb=>.inl hb)⟩;have:=JV W x0 y0 x1 y1 pic P0 Y X (by omega) (by omega) (by omega) q;rw[<-this];by_cases e:q=Y*W+X
         ·rw[if_pos e,if_pos e,HPic.out,SI]
         ·rw[if_neg e,if_neg e]
        unfold Ch at HAt HSo;generalize f (Y*W+X)=Q at HAt HSo HSe;generalize decide (Q.2.2.2=255)=tb at HSo HSe;clear hM hpf
        go_upto_region 13 with fail
        go_region_held3 (fun w'=>w'.cell? (jA w1.heap.size 0)=some (vj W)/\w'.cell? (jA w1.heap.size 1)=some (vj H)/\w'.cell? (jA w1.heap.size 2)=some (sj g n n)/\w'.cell? (jA w.heap.size 0)=some (vj W)/\w'.cell? (jA w.heap.size 1)=some (vj H)/\w'.cell? (jA w.heap.size 2)=some (sj pg n n))
         (first
          |with_reducible exact FcS.out _ H7.out.2
          |with_reducible exact FcS.out _ (Ac.below HB6.out)
          |with_reducible exact FcS.out _ (Ac.below HB5.out)
          |with_reducible exact FcS.out _ (Ac.refl _ _)
          |with_reducible exact FcS.out _ (Ac.refl _ _).drew
          |fail)
         (first
          |(go_at_call 162;refine(HAt.out _ ?_).mono ?_;(repeat(first|exact aN _ _|refine bD ?_));rintro e w5 ⟨rfl,hb5⟩;have HB5:=Aa hb5;clear hb5)
          |(go_at_call 161;refine(HSo.out _ HB5.out).mono ?_;rintro e w6 ⟨rfl,hb6⟩;have HB6:=Aa hb6;clear hb6)
          |(go_at_call 160;refine(HSe.out _ HB6.out).mono ?_;rintro e w7 ⟨rfl,h7,h8⟩;have H7:=Aa (aK h7 h8);clear h7 h8)
          |fail)
        all_goals
         clear s0 s1 s2 s3 s4 s5 q0 q3
         go_wp2_with fail
         go_roundg gi
         case measure=>omega
         case rel=>exact⟨i+1,X+1,by go_num,by have:=HXe.out;omega,by omega,H7.out.1.out⟩
end Go.Proofs.YtofinpocigbbeaaGreat
