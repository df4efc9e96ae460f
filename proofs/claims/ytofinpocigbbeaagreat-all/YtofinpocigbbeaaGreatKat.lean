import Derived.Test.YtofinpocigbbeaaGreatKak
set_option maxHeartbeats 4000000
set_option maxRecDepth 100000
set_option linter.unusedSimpArgs false
namespace Go.Proofs.YtofinpocigbbeaaGreat
open Go.Proofs.Tryz Go.RowKit
attribute [local go_sem ↓] Go.wp_at_zero Go.wp_at_succ
variable{a b c d e f g h x0 x1 y0 y1:Int}
theorem Pi(q0:x0=max a e)(q1:y0=max b f)(q2:x1=min c g)(q3:y1=min d h)(l1:x0<x1)(l2:y0<y1):nrm (BX (a,b,c,d) (e,f,g,h))=(x0,y0,x1,y1):=by
 unfold nrm Di BX;simp only;rw[<-q0,<-q1,<-q2,<-q3,if_pos (by simp;omega)]
theorem Pj(q0:x0=max a e)(q1:y0=max b f)(q2:x1=min c g)(q3:y1=min d h)(l1:x1<=x0\/y1<=y0):nrm (BX (a,b,c,d) (e,f,g,h))=(0,0,0,0):=by
 unfold nrm Di BX;simp only;rw[<-q0,<-q1,<-q2,<-q3,if_neg (by simp;omega)]
theorem Pk{p:R4}(h:p=(a,b,c,d)):Ending.returned (.agg #[vj a,vj b,vj c,vj d])=.returned (.agg #[vj p.1,vj p.2.1,vj p.2.2.1,vj p.2.2.2]):=by rw[h]
theorem KN(a b c d e f g h:Int)(w:World):
  Calls prog 180 #[.agg #[vj a,vj b,vj c,vj d],.agg #[vj e,vj f,vj g,vj h]] w fun en w'=>en=.returned (.agg #[vj (nrm (BX (a,b,c,d) (e,f,g,h))).1,vj (nrm (BX (a,b,c,d) (e,f,g,h))).2.1,vj (nrm (BX (a,b,c,d) (e,f,g,h))).2.2.1,vj (nrm (BX (a,b,c,d) (e,f,g,h))).2.2.2])/\∃o1 o2 o3,w'=((w.alloc o1).alloc o2).alloc o3:=by
 have HS:Hid (∀x0 y0 x1 y1:Int,x0=max a e->y0=max b f->x1=min c g->y1=min d h->x0<x1->y0<y1->nrm (BX (a,b,c,d) (e,f,g,h))=(x0,y0,x1,y1)):=fun _ _ _ _ q0 q1 q2 q3=>Pi q0 q1 q2 q3;have HN:Hid (∀x0 y0 x1 y1:Int,x0=max a e->y0=max b f->x1=min c g->y1=min d h->x1<=x0\/y1<=y0->nrm (BX (a,b,c,d) (e,f,g,h))=(0,0,0,0)):=fun _ _ _ _ q0 q1 q2 q3=>Pj q0 q1 q2 q3;generalize nrm (BX (a,b,c,d) (e,f,g,h))=p at*;go_enter func180,ntmps180
 go_wp2;all_goals
  go_returns
  first
   |exact⟨Pk (HS.out _ _ _ _ (by omega) (by omega) (by omega) (by omega) (by omega) (by omega)),_,_,_,rfl⟩
   |exact⟨Pk (HN.out (max a e) (max b f) (min c g) (min d h) rfl rfl rfl rfl (by omega)),_,_,_,rfl⟩
variable{F:Nat->Nat->Value}{H W:Int}{S S':Nat->Prop}{bv ov sv v:Value}{c n:Nat}{f:Nat->R4}{h:Int->Int->Bool}{k:Nat->Bool}{ord:List Nat}{s:Sf}{st:St}{w w':World}
structure Kt(F:Nat->Value)(s:Sf):Prop where
 alive:F 0=.bool s.alive
 parent:F 1=vj s.parent
 nw:F 2=vj s.now.w
 nh:F 3=vj s.now.h
 nx:F 5=vj s.now.x
 ny:F 6=vj s.now.y
 ncut:F 7=.bool s.now.cut
 n0:F 8=vj s.now.clip.1
 n1:F 9=vj s.now.clip.2.1
 n2:F 10=vj s.now.clip.2.2.1
 n3:F 11=vj s.now.clip.2.2.2
 nhint:∃a m c,F 12=.slice a m c
 xw:F 13=vj s.next.w
 xh:F 14=vj s.next.h
 xx:F 16=vj s.next.x
 xy:F 17=vj s.next.y
 xcut:F 18=.bool s.next.cut
 x0:F 19=vj s.next.clip.1
 x1:F 20=vj s.next.clip.2.1
 x2:F 21=vj s.next.clip.2.2.1
 x3:F 22=vj s.next.clip.2.2.2
 xhint:∃a m c,F 23=.slice a m c
 ask:F 24=.bool s.ask
 sib:F 25=vj s.sib
 above:F 26=.bool s.above
 kept:∃a m c,F 27=.slice a m c
def AC(w:World)(S:Nat->Prop)(v:Value)(n:Int)(f:Nat->R4):Prop:=∃m:Nat,(m:Int)=n/\A4 w S 51 4 v m (Aq (pxL f m))
theorem AC.mono{n:Int}(h:AC w S v n f)(hS:∀g,S g->S' g):AC w S' v n f:=by
 obtain⟨m,h1,h2⟩:=h;exact⟨m,h1,h2.mono hS⟩
theorem AC.other{n:Int}(h:AC w S v n f)(hk:∀(g:Nat) (cur:Array Value),w.heap[g]?=some (.cells cur 51 (0,0))->w'.heap[g]?=w.heap[g]?):AC w' S v n f:=by
 obtain⟨m,h1,h2⟩:=h;exact⟨m,h1,h2.other hk⟩
theorem AC.nil(w:World)(S:Nat->Prop)(f:Nat->R4):AC w S (jj) 0 f:=⟨0,rfl,A4.nil _ _ _ _⟩
theorem AC.form{n:Int}(h:AC w S v n f):∃a m c,v=.slice a m c/\(m:Int)=n:=by
 obtain⟨m,h1,h2⟩:=h;obtain⟨a,c,e⟩:=h2.form;exact⟨a,m,c,e,h1⟩
def Bg(w:World)(S:Nat->Prop)(v:Value)(h:Int->Int->Bool):Prop:=∃l:List R4,A4 w S 53 4 v l.length (Ae l)/\l.length<=20/\∀x y,AE l x y=h x y
theorem Bg.mono(k:Bg w S v h)(hS:∀g,S g->S' g):Bg w S' v h:=by
 obtain⟨l,h1,h2⟩:=k;exact⟨l,h1.mono hS,h2⟩
theorem Bg.other(k:Bg w S v h)(hk:∀(g:Nat) (cur:Array Value),w.heap[g]?=some (.cells cur 53 (0,0))->w'.heap[g]?=w.heap[g]?):Bg w' S v h:=by
 obtain⟨l,h1,h2⟩:=k;exact⟨l,h1.other hk,h2⟩
theorem Bg.nil(w:World)(S:Nat->Prop):Bg w S (jj) fun _ _=>false:=⟨[],A4.nil _ _ _ _,by simp,fun _ _=>rfl⟩
theorem Bg.form(k:Bg w S v h):∃a m c,v=.slice a m c:=by
 obtain⟨l,h1,_⟩:=k;obtain⟨a,c,e⟩:=h1.form;exact⟨a,_,c,e⟩
def AH(w:World)(S:Nat->Prop)(v:Value)(n:Int)(k:Nat->Bool):Prop:=∃m:Nat,(m:Int)=n/\A4 w S 4 1 v m ((List.range m).map fun i=>.bool (k i))
theorem AH.mono{n:Int}(h:AH w S v n k)(hS:∀g,S g->S' g):AH w S' v n k:=by
 obtain⟨m,h1,h2⟩:=h;exact⟨m,h1,h2.mono hS⟩
theorem AH.other{n:Int}(h:AH w S v n k)(hk:∀(g:Nat) (cur:Array Value),w.heap[g]?=some (.cells cur 4 (0,0))->w'.heap[g]?=w.heap[g]?):AH w' S v n k:=by
 obtain⟨m,h1,h2⟩:=h;exact⟨m,h1,h2.other hk⟩
theorem AH.nil(w:World)(S:Nat->Prop)(k:Nat->Bool):AH w S (jj) 0 k:=⟨0,rfl,A4.nil _ _ _ _⟩
structure B3(w:World)(S:Nat->Prop)(c:Nat)(W H:Int)(n:Nat)(ord:List Nat)(bv sv ov:Value)(F:Nat->Nat->Value):Prop where
 scr:w.heap[c]?=some (.cells #[vj W,vj H,bv,sv,ov] 202 (0,0))
 own:S c
 sfs:∃xs,A4 w S 214 28 sv n xs/\∀i,i<n->∀o,o<28->xs[i*28+o]?=some (F i o)
 ord:A4 w S 3 1 ov ord.length (ord.map fun(i:Nat)=>vj (i:Int))
structure CD(w:World)(S:Nat->Prop)(F:Nat->Value)(s:Sf):Prop where
 pixN:AC w S (F 4) (s.now.w*s.now.h) s.now.pix
 pixX:AC w S (F 15) (s.next.w*s.next.h) s.next.pix
 hinN:Bg w S (F 12) s.now.hint
 hinX:Bg w S (F 23) s.next.hint
 kept:AH w S (F 27) (s.now.w*s.now.h) s.kept
def Jj(t:TypeId):Prop:=t=51\/t=53\/t=4
theorem CD.mono{F:Nat->Value}(h:CD w S F s)(hS:∀g,S g->S' g):CD w S' F s:=⟨h.pixN.mono hS,h.pixX.mono hS,h.hinN.mono hS,h.hinX.mono hS,h.kept.mono hS⟩
theorem CD.other{F:Nat->Value}(h:CD w S F s)(hk:∀(g:Nat) (cur:Array Value) (t:TypeId),Jj t->w.heap[g]?=some (.cells cur t (0,0))->w'.heap[g]?=w.heap[g]?):CD w' S F s:=
 ⟨h.pixN.other fun g cur=>hk g cur _ (.inl rfl),h.pixX.other fun g cur=>hk g cur _ (.inl rfl),h.hinN.other fun g cur=>hk g cur _ (.inr (.inl rfl)),h.hinX.other fun g cur=>hk g cur _ (.inr (.inl rfl)),h.kept.other fun g cur=>hk g cur _ (.inr (.inr rfl))⟩
theorem CD.turn{F F':Nat->Value}{s':Sf}(h:CD w S F s)(h4:F' 4=F 4)(h15:F' 15=F 15)(h12:F' 12=F 12)(h23:F' 23=F 23)(h27:F' 27=F 27)(hn:s'.now.w=s.now.w/\s'.now.h=s.now.h/\s'.now.pix=s.now.pix/\s'.now.hint=s.now.hint)(hx:s'.next.w=s.next.w/\s'.next.h=s.next.h/\s'.next.pix=s.next.pix/\s'.next.hint=s.next.hint)(hk:s'.kept=s.kept):CD w S F' s':=by
 obtain⟨n1,n2,n3,n4⟩:=hn;obtain⟨x1,x2,x3,x4⟩:=hx;refine⟨?_,?_,?_,?_,?_⟩
 ·rw[h4,n1,n2,n3];exact h.pixN
 ·rw[h15,x1,x2,x3];exact h.pixX
 ·rw[h12,n4];exact h.hinN
 ·rw[h23,x4];exact h.hinX
 ·rw[h27,n1,n2,hk];exact h.kept
structure C9(w:World)(S:Nat->Prop)(st:St)(F:Nat->Nat->Value):Prop where
 rel:∀i,i<st.sfs.length->Kt (F i) (st.sf i)
 dat:∀i,i<st.sfs.length->CD w S (F i) (st.sf i)
theorem C9.pixN(h:C9 w S st F)(i:Nat)(hi:i<st.sfs.length):AC w S (F i 4) ((st.sf i).now.w*(st.sf i).now.h) (st.sf i).now.pix:=(h.dat i hi).pixN
theorem C9.pixX(h:C9 w S st F)(i:Nat)(hi:i<st.sfs.length):AC w S (F i 15) ((st.sf i).next.w*(st.sf i).next.h) (st.sf i).next.pix:=(h.dat i hi).pixX
def Aw(w:World)(S:Nat->Prop)(c:Nat)(st:St)(bv:Value):Prop:=∃sv ov F,B3 w S c st.w st.h st.sfs.length st.order bv sv ov F/\C9 w S st F
theorem B3.mono(h:B3 w S c W H n ord bv sv ov F)(hS:∀g,S g->S' g):B3 w S' c W H n ord bv sv ov F:=by
 obtain⟨h1,h2,⟨xs,h3,h4⟩,h5⟩:=h;exact⟨h1,hS _ h2,⟨xs,h3.mono hS,h4⟩,h5.mono hS⟩
theorem C9.mono(h:C9 w S st F)(hS:∀g,S g->S' g):C9 w S' st F:=⟨h.rel,fun i hi=>(h.dat i hi).mono hS⟩
theorem Aw.mono(h:Aw w S c st bv)(hS:∀g,S g->S' g):Aw w S' c st bv:=by
 obtain⟨sv,ov,F,h1,h2⟩:=h;exact⟨sv,ov,F,h1.mono hS,h2.mono hS⟩
theorem B3.keep(h:B3 w S c W H n ord bv sv ov F)(hk:∀g,S g->g<w.heap.size->w'.heap[g]?=w.heap[g]?):B3 w' S c W H n ord bv sv ov F:=by
 obtain⟨h1,h2,⟨xs,h3,h4⟩,h5⟩:=h;exact⟨by rw[hk c h2 (aM.1 h1).1];exact h1,h2,⟨xs,h3.keep hk,h4⟩,h5.keep hk⟩
theorem AC.keep{n:Int}(h:AC w S v n f)(hk:∀g,S g->g<w.heap.size->w'.heap[g]?=w.heap[g]?):AC w' S v n f:=by
 obtain⟨m,h1,h2⟩:=h;exact⟨m,h1,h2.keep hk⟩
theorem Bg.keep(k:Bg w S v h)(hk:∀g,S g->g<w.heap.size->w'.heap[g]?=w.heap[g]?):Bg w' S v h:=by
 obtain⟨l,h1,h2⟩:=k;exact⟨l,h1.keep hk,h2⟩
theorem AH.keep{n:Int}(h:AH w S v n k)(hk:∀g,S g->g<w.heap.size->w'.heap[g]?=w.heap[g]?):AH w' S v n k:=by
 obtain⟨m,h1,h2⟩:=h;exact⟨m,h1,h2.keep hk⟩
theorem CD.keep{F:Nat->Value}(h:CD w S F s)(hk:∀g,S g->g<w.heap.size->w'.heap[g]?=w.heap[g]?):CD w' S F s:=⟨h.pixN.keep hk,h.pixX.keep hk,h.hinN.keep hk,h.hinX.keep hk,h.kept.keep hk⟩
theorem C9.keep(h:C9 w S st F)(hk:∀g,S g->g<w.heap.size->w'.heap[g]?=w.heap[g]?):C9 w' S st F:=⟨h.rel,fun i hi=>(h.dat i hi).keep hk⟩
theorem Aw.keep(h:Aw w S c st bv)(hk:∀g,S g->g<w.heap.size->w'.heap[g]?=w.heap[g]?):Aw w' S c st bv:=by
 obtain⟨sv,ov,F,h1,h2⟩:=h;exact⟨sv,ov,F,h1.keep hk,h2.keep hk⟩
theorem B3.below(h:B3 w S c W H n ord bv sv ov F)(hb:uj w w'):B3 w' S c W H n ord bv sv ov F:=h.keep fun g _ hg=>hb.block g hg
theorem C9.below(h:C9 w S st F)(hb:uj w w'):C9 w' S st F:=h.keep fun g _ hg=>hb.block g hg
theorem B3.cells(h:B3 w S c W H n ord bv sv ov F):
  w.cell? (jA c 0)=some (vj W)/\w.cell? (jA c 1)=some (vj H)/\w.cell? (jA c 2)=some bv/\w.cell? (jA c 3)=some sv/\w.cell? (jA c 4)=some ov/\(∀j,w.frozen? (jA c j)=false)/\c<w.heap.size:=by
 refine⟨?_,?_,?_,?_,?_,fun j=>by simp[World.frozen?,h.scr],(aM.1 h.scr).1⟩<;>(rw[aP w c _ _ _ _ h.scr];rfl)
theorem B3.svForm(h:B3 w S c W H n ord bv sv ov F):∃a cap,sv=.slice a n cap:=by
 obtain⟨xs,h1,_⟩:=h.sfs;exact h1.form
theorem B3.at(h:B3 w S c W H n ord bv sv ov F)(hn:0<n):
  ∃g cap,sv=sj g n cap/\S g/\n<=cap/\g<w.heap.size/\(∀i,i<n->∀o,o<28->w.cell? (jA g (i*28+o))=some (F i o))/\∀j,w.frozen? (jA g j)=false:=by
 obtain⟨xs,h1,h2⟩:=h.sfs;obtain⟨g,cap,e1,e2,e3,e4,e5,e6⟩:=h1.open hn;exact⟨g,cap,e1,e2,e3,e4,fun i hi o ho=>e5 _ _ (h2 i hi o ho),e6⟩
theorem B3.ovForm(h:B3 w S c W H n ord bv sv ov F):∃a cap,ov=.slice a ord.length cap:=h.ord.form
theorem B3.ordAt(h:B3 w S c W H n ord bv sv ov F)(hn:0<ord.length):
  ∃g cap,ov=sj g ord.length cap/\S g/\ord.length<=cap/\g<w.heap.size/\∀i (hi:i<ord.length),w.cell? (jA g i)=some (vj (ord[i]:Int)):=by
 obtain⟨g,cap,e1,e2,e3,e4,e5,_⟩:=h.ord.open hn;exact⟨g,cap,e1,e2,e3,e4,fun i hi=>e5 i _ (by rw[bZ,aU hi];rfl)⟩
theorem D6(id:Int)(w:World)(h:Aw w S c st bv)(hm:st.sfs.length<=60):
  Calls prog 127 #[pj c,vj id] w fun e w'=>e=.returned (.bool (st.isB id))/\w'=w:=by
 obtain⟨sv,ov,F,hr,hs⟩:=h;obtain⟨k0,k1,k2,k3,k4,kf,kl⟩:=hr.cells;obtain⟨sa,scap,hsv⟩:=hr.svForm;subst hsv;obtain⟨n,hn⟩:∃n,st.sfs.length=n:=⟨_,rfl⟩;by_cases h1:0<=id
 ·by_cases h2:id<n
  ·obtain⟨g,cap,e1,e2,e3,e4,e5,e6⟩:=hr.at (by omega);obtain⟨i,rfl⟩:∃i:Nat,id=i:=⟨id.toNat,by omega⟩;have hin:i<n:=by omega
   have hi:i<st.sfs.length:=by omega
   have c0:=e5 i hi 0 (by omega);rw[(hs.rel i hi).alive,Nat.add_zero]at c0;have hres:st.isB i=(st.sf i).alive:=by
    unfold St.isB;simp[hi]
   rw[hres];injection e1 with e11 e12 e13;subst e11 e13;rw[hn]at k3 hm e3;have hcap:i<scap:=by omega
   have HH:=Aa (aK hr (aK hs hn));clear hr hs e5 e6 kf hres hi hn e12;generalize (st.sf i).alive=al at*;go_enter func127,ntmps127
   go_wp2;go_ret;exact⟨rfl,rfl⟩
  ·have hres:st.isB id=false:=by
    unfold St.isB;have:¬(0<=id/\id<(st.sfs.length:Int)):=by omega
    simp[this]
   rw[hres];rw[hn]at k3 hm;clear hr hs kf hres hn;go_enter func127,ntmps127
   go_wp2;go_ret;exact⟨rfl,rfl⟩
 ·have hres:st.isB id=false:=by
   unfold St.isB;have:¬(0<=id/\id<(st.sfs.length:Int)):=by omega
   simp[this]
  rw[hres];rw[hn]at k3 hm;clear hr hs kf hres hn;go_enter func127,ntmps127
  go_wp2;go_ret;exact⟨rfl,rfl⟩
theorem U4(id:Nat)(o:Nat)(w:World)(h:Aw w S c st bv)(hw:Wf st)(hid:id<st.sfs.length):
  Calls prog 130 #[pj c,vj id,vj o] w fun e w'=>e=.returned (.bool ((st.chain id).contains o))/\w'=w:=by
 obtain⟨sv,ov,F,hr,hs⟩:=h;obtain⟨k0,k1,k2,k3,k4,kf,kl⟩:=hr.cells;obtain⟨g,cap,e1,e2,e3,e4,e5,e6⟩:=hr.at (by omega);subst e1;obtain⟨n,hn⟩:∃n,st.sfs.length=n:=⟨_,rfl⟩;obtain⟨res,hres⟩:∃b,(st.chain id).contains o=b:=⟨_,rfl⟩;rw[hres];have hmd:=hw.made;rw[hn]at k3 e3 hmd hid;have HH:=Aa (aK hr (aK hs (aK hn (aK hw hres))));have HE:=Aa e5;clear hr hs kf hn e5 e6 hw hres;go_enter func130,ntmps130
 go_wp2
 go_loopg [1] (id+1) (fun gg s1 wr=>∃k:Int,s1=vj k/\-1<=k/\k<gg/\gg<=id+1/\(st.chain k).contains o=res/\wr=w)
 case atStart=>exact⟨id,rfl,by omega,by omega,by omega,HH.out.2.2.2.2,rfl⟩
 case round=>
  obtain⟨k,rfl,hk1,hk2,hk4,hk3,rfl⟩:=hrel;have HK:=Aa hk3;clear hk3;by_cases h0:k= -1
  ·subst h0;go_wp2;go_ret;refine⟨Cm ?_,rfl⟩;rw[<-HK.out,A6 st (by omega)];rfl
  ·obtain⟨i,rfl⟩:∃i:Nat,k=i:=⟨k.toNat,by omega⟩;have hi:i<st.sfs.length:=by have:=HH.out.2.2.1;omega
   have c1:=HE.out i hi 1 (by omega);rw[(HH.out.2.1.rel i hi).parent]at c1;have hp:=HH.out.2.2.2.1.par i;have HC:=Aa (Av HH.out.2.2.2.1.par i);obtain⟨p,hpp⟩:∃p,(st.sf i).parent=p:=⟨_,rfl⟩;rw[hpp]at c1 hp HC;have hicap:i<cap:=by omega
   have hneg:¬(i:Int)= -1:=by omega
   by_cases ho:(i:Int)=(o:Int)
   ·have HO:=Aa ho;go_wp2;go_ret;refine⟨Cm ?_,rfl⟩;rw[<-HK.out,HC.out,show o=i by have:=HO.out;omega];simp
   ·have HO:=Aa ho;have hgk:gk=i+1+(gk-i-1):=by omega
    obtain⟨d,hd⟩:∃d,gk-i-1=d:=⟨_,rfl⟩;rw[hd]at hgk;clear hd hi hpp;go_wp2
    go_roundg i
    case measure=>omega
    case rel=>
     refine⟨p,rfl,hp.1,hp.2,by omega,?_,rfl⟩;rw[<-HK.out,HC.out,List.contains_cons];have:(o==i)=false:=by have:=HO.out;simp;omega
     rw[this,Bool.false_or]
theorem Jk(id:Nat)(w:World)(h:Aw w S c st bv)(hw:Wf st)(hid:id<st.sfs.length):
  Calls prog 135 #[pj c,vj id] w fun e w'=>e=.returned (.tuple #[vj (st.px id),vj (st.py id)])/\w'=w:=by
 obtain⟨sv,ov,F,hr,hs⟩:=h;obtain⟨k0,k1,k2,k3,k4,kf,kl⟩:=hr.cells;obtain⟨g,cap,e1,e2,e3,e4,e5,e6⟩:=hr.at (by omega);subst e1;obtain⟨n,hn⟩:∃n,st.sfs.length=n:=⟨_,rfl⟩;obtain⟨rx,hrx⟩:∃b,st.px id=b:=⟨_,rfl⟩;obtain⟨ry,hry⟩:∃b,st.py id=b:=⟨_,rfl⟩;rw[hrx,hry];have hmd:=hw.made;rw[hn]at k3 e3 hmd hid;have HH:=Aa (aK hr (aK hs (aK hn (aK hw (aK hrx hry)))));have HE:=Aa e5;clear hr hs kf hn e5 e6 hw hrx hry;go_enter func135,ntmps135
 go_wp2
 go_loopg [1,6,7] (id+1) (fun gg s1 s6 s7 wr=>∃(k x y:Int),s1=vj k/\s6=vj x/\s7=vj y/\-1<=k/\k<gg/\gg<=id+1/\x+st.px k=rx/\y+st.py k=ry/\(-60000+1000*k<=x/\x<=60000-1000*k/\-60000+1000*k<=y/\y<=60000-1000*k)/\wr=w)
 case atStart=>exact⟨id,0,0,rfl,rfl,rfl,by omega,by omega,by omega,by rw[HH.out.2.2.2.2.1];omega,by rw[HH.out.2.2.2.2.2];omega,by omega,rfl⟩
 case round=>
  obtain⟨k,x,y,rfl,rfl,rfl,hk1,hk2,hk4,hk5,hk6,hk7,rfl⟩:=hrel;by_cases h0:k= -1
  ·subst h0;rw[KH st (by omega)]at hk5;rw[KI st (by omega)]at hk6;have hx:x=rx:=by omega
   have hy:y=ry:=by omega
   clear hk5 hk6;subst hx hy;go_wp2
   go_ret2
   exact⟨rfl,rfl⟩
  ·obtain⟨i,rfl⟩:∃i:Nat,k=i:=⟨k.toNat,by omega⟩;have hi:i<st.sfs.length:=by have:=HH.out.2.2.1;omega
   have c1:=HE.out i hi 1 (by omega);have c5:=HE.out i hi 5 (by omega);have c6:=HE.out i hi 6 (by omega);rw[(HH.out.2.1.rel i hi).parent]at c1;rw[(HH.out.2.1.rel i hi).nx]at c5;rw[(HH.out.2.1.rel i hi).ny]at c6;have hp:=HH.out.2.2.2.1.par i;have bx:=(HH.out.2.2.2.1.lk i).1.x;have bz:=(HH.out.2.2.2.1.lk i).1.y;have sx:=Kr HH.out.2.2.2.1.par i;have sy:=Ks HH.out.2.2.2.1.par i;obtain⟨p,hpp⟩:∃p,(st.sf i).parent=p:=⟨_,rfl⟩;obtain⟨dx,hdx⟩:∃p,(st.sf i).now.x=p:=⟨_,rfl⟩;obtain⟨dy,hdy⟩:∃p,(st.sf i).now.y=p:=⟨_,rfl⟩;rw[hpp]at c1 hp sx sy;rw[hdx]at c5 bx sx;rw[hdy]at c6 bz sy;have HX:=Aa (aK sx sy);have HK:=Aa (aK hk5 hk6);have hicap:i<cap:=by omega
   have hneg:¬(i:Int)= -1:=by omega
   have w1:IntKind.i64.wrap (x+dx)=x+dx:=by rw[bB];omega
   have w2:IntKind.i64.wrap (y+dy)=y+dy:=by rw[bB];omega
   clear hi hpp hdx hdy sx sy hk5 hk6;go_wp2
   go_roundg i
   case measure=>omega
   case rel=>
    have h1:=HX.out.1;have h2:=HX.out.2;have h3:=HK.out.1;have h4:=HK.out.2;exact⟨p,x+dx,y+dy,rfl,rfl,rfl,hp.1,hp.2,by omega,by omega,by omega,by omega,rfl⟩
theorem MI(a b c d x y:Int)(w:World)(h0: -100000<=a/\a<=100000)(h1: -100000<=b/\b<=100000)(h2: -100000<=c/\c<=100000)(h3: -100000<=d/\d<=100000)(hx: -100000<=x/\x<=100000)(hy: -100000<=y/\y<=100000):
  Calls prog 181 #[.agg #[vj a,vj b,vj c,vj d],vj x,vj y] w fun e w'=>e=.returned (.agg #[vj (a+x),vj (b+y),vj (c+x),vj (d+y)])/\∃o1 o2,w'=(w.alloc o1).alloc o2:=by
 go_enter func181,ntmps181
 go_wp2
 go_returns
 exact⟨rfl,_,_,rfl⟩
variable{r:R4}{rb:Nat}
structure Fd(w wx:World)(rb:Nat)(r:R4):Prop where
 bel:uj w wx
 r:Blk wx rb 53 (r4C r)
 lo:w.heap.size+2<=rb
 res:Ax wx w.heap.size 53 4
 n:Ax wx (w.heap.size+1) 212 11
theorem Yf(w:World)(a b x y:Int)(t:Bool)(c0 c1 c2 c3:Int)(pa:Option Addr)(pm pc:Nat)(qa:Option Addr)(qm qc:Nat):
  uj w ((w.alloc (.cells #[vj 0,vj 0,vj 0,vj 0] 53)).alloc (.cells #[vj a,vj b,.slice pa pm pc,vj x,vj y,.bool t,vj c0,vj c1,vj c2,vj c3,.slice qa qm qc] 212))/\
  ((w.alloc (.cells #[vj 0,vj 0,vj 0,vj 0] 53)).alloc (.cells #[vj a,vj b,.slice pa pm pc,vj x,vj y,.bool t,vj c0,vj c1,vj c2,vj c3,.slice qa qm qc] 212)).heap.size=w.heap.size+2/\
  ((w.alloc (.cells #[vj 0,vj 0,vj 0,vj 0] 53)).alloc (.cells #[vj a,vj b,.slice pa pm pc,vj x,vj y,.bool t,vj c0,vj c1,vj c2,vj c3,.slice qa qm qc] 212)).cell? (jA (w.heap.size+1) 0)=some (vj a)/\
  ((w.alloc (.cells #[vj 0,vj 0,vj 0,vj 0] 53)).alloc (.cells #[vj a,vj b,.slice pa pm pc,vj x,vj y,.bool t,vj c0,vj c1,vj c2,vj c3,.slice qa qm qc] 212)).cell? (jA (w.heap.size+1) 1)=some (vj b)/\
  Ax ((w.alloc (.cells #[vj 0,vj 0,vj 0,vj 0] 53)).alloc (.cells #[vj a,vj b,.slice pa pm pc,vj x,vj y,.bool t,vj c0,vj c1,vj c2,vj c3,.slice qa qm qc] 212)) w.heap.size 53 4/\
  Ax ((w.alloc (.cells #[vj 0,vj 0,vj 0,vj 0] 53)).alloc (.cells #[vj a,vj b,.slice pa pm pc,vj x,vj y,.bool t,vj c0,vj c1,vj c2,vj c3,.slice qa qm qc] 212)) (w.heap.size+1) 212 11:=by
 have z:(w.alloc (.cells #[vj 0,vj 0,vj 0,vj 0] 53)).heap.size=w.heap.size+1:=by simp
 have n1:=Ax.new w #[vj 0,vj 0,vj 0,vj 0] 53;have b1:=(aN w.heap.size w).alloc (aO _) (.cells #[vj 0,vj 0,vj 0,vj 0] 53);have n1':Ax (w.alloc (.cells #[vj 0,vj 0,vj 0,vj 0] 53)) w.heap.size 53 4:=n1;clear n1;generalize w.alloc (.cells #[vj 0,vj 0,vj 0,vj 0] 53)=W1 at*;rw[<-z];have hb:=aR W1 (.cells #[vj a,vj b,.slice pa pm pc,vj x,vj y,.bool t,vj c0,vj c1,vj c2,vj c3,.slice qa qm qc] 212);exact⟨b1.alloc (by omega) _,by simp[z],aP _ _ 0 _ _ _ hb,aP _ _ 1 _ _ _ hb,n1'.alloc _,⟨_,hb,rfl⟩⟩
theorem Fd.next{wn wz:World}{r':R4}(h:Fd w wn rb r)(hz:uj wn wz):Fd w ((((wz.setCell (jA rb 0) (vj r'.1)).setCell (jA rb 1) (vj r'.2.1)).setCell (jA rb 2) (vj r'.2.2.1)).setCell (jA rb 3) (vj r'.2.2.2)) rb r':=by
 have hlo:=h.lo;have h1:=h.bel.size;have hr:Ax wz rb 53 4:=h.r.has.keep (hz.block rb h.r.has.lt);have hn:=h.n.keep (hz.block _ h.n.lt);have hs:=h.res.keep (hz.block _ h.res.lt);exact⟨CO (h.bel.trans (hz.mono h1)) (by omega) _ _ _ _,hr.four _ _ _ _,hlo,hs.keep (Cu (by omega) _ _ _ _),hn.keep (Cu (by omega) _ _ _ _)⟩
theorem Fd.store{wr:World}(h:Fd w wr rb r)(u0 u1 u2 u3 u4 u5 u6 u7 u8 u9 u10:Value):∃wn,(((((((((((wr.setCell (jA (w.heap.size+1) 0) u0).setCell (jA (w.heap.size+1) 1) u1).setCell (jA (w.heap.size+1) 2) u2).setCell (jA (w.heap.size+1) 3) u3).setCell (jA (w.heap.size+1) 4) u4).setCell (jA (w.heap.size+1) 5) u5).setCell (jA (w.heap.size+1) 6) u6).setCell (jA (w.heap.size+1) 7) u7).setCell (jA (w.heap.size+1) 8) u8).setCell (jA (w.heap.size+1) 9) u9).setCell (jA (w.heap.size+1) 10) u10)=wn/\Fd w wn rb r/\Blk wn (w.heap.size+1) 212 #[u0,u1,u2,u3,u4,u5,u6,u7,u8,u9,u10]:=by
 have hlo:=h.lo;have e:=h.n.eleven u0 u1 u2 u3 u4 u5 u6 u7 u8 u9 u10;refine⟨_,rfl,⟨NA h.bel (by omega) _ _ _ _ _ _ _ _ _ _ _,?_,h.lo,h.res.keep (Iz (by omega) _ _ _ _ _ _ _ _ _ _ _),e.has⟩,e⟩;exact(Iz (by omega) _ _ _ _ _ _ _ _ _ _ _).trans h.r
theorem Fd.of{W0 W1 wx:World}(h0:uj w W0/\Ax W0 w.heap.size 53 4/\Ax W0 (w.heap.size+1) 212 11)(hz:W0.heap.size=w.heap.size+2)(h1:uj W0 W1)(h2:Below (W1.heap.size+1) (W1.alloc (.cells (r4C r) 53)) wx)(hrb:rb=W1.heap.size):Fd w wx rb r:=by
 have z1:=h1.size;have z2:(W1.alloc (.cells (r4C r) 53)).heap.size=W1.heap.size+1:=by simp
 have hk:∀k,k<W0.heap.size->wx.heap[k]?=W0.heap[k]? :=fun k hk=>by
  rw[h2.block k (by omega),Ad W1 _ k (by omega),h1.block k hk]
 subst hrb;refine⟨?_,?_,by omega,h0.2.1.keep (hk _ (by omega)),h0.2.2.keep (hk _ (by omega))⟩
 ·have b1:=h0.1.trans (h1.mono (by omega));exact(b1.alloc (by omega) _).trans (h2.mono (by omega))
 ·exact(h2.block W1.heap.size (by omega)).trans (aR W1 _)
theorem KT{S:Nat->Prop}{c:Nat}{st:St}{bv:Value}(id:Nat)(w:World)(h:Aw w S c st bv)(hw:Wf st)(hid:id<st.sfs.length):
  Calls prog 134 #[pj c,vj id] w fun e w'=>e=.returned (.agg (r4C (nrm (st.seen id))))/\uj w w':=by
 have HR:=Aa h;have HP:=Aa (fun(i:Nat) (hi:i<st.sfs.length) (W:World) (hW:uj w W)=>Jk (S:=S) (c:=c) (st:=st) i W (h.keep fun g _ hg=>hW.block g hg) hw hi);obtain⟨sv,ov,F,hr,hs⟩:=h;obtain⟨k0,k1,k2,k3,k4,kf,kl⟩:=hr.cells;obtain⟨g,cap,e1,e2,e3,e4,e5,e6⟩:=hr.at (by omega);subst e1;have hsr:=UY st id;obtain⟨n,hn⟩:∃n,st.sfs.length=n:=⟨_,rfl⟩;obtain⟨res,hres⟩:∃b,nrm (st.seen id)=b:=⟨_,rfl⟩;rw[hres]at hsr;rw[hres];have hmd:=hw.made;rw[hn]at k3 e3 hmd hid;have HH:=Aa (aK hr (aK hs (aK hn (aK hw hsr))));have HE:=Aa e5;have HC:Hid (∀W,uj w W->W.cell? (jA c 0)=some (vj st.w)/\W.cell? (jA c 1)=some (vj st.h)/\W.cell? (jA c 3)=some (sj g n cap)):=fun W hW=>⟨(hW.cell (p:=(jA c 0)) kl).trans k0,(hW.cell (p:=(jA c 1)) kl).trans k1,(hW.cell (p:=(jA c 3)) kl).trans k3⟩;have hiL:id<st.sfs.length:=by omega
 have hR:=hs.rel id hiL;have c2:=e5 id hiL 2 (by omega);have c3:=e5 id hiL 3 (by omega);have c4:=e5 id hiL 4 (by omega);have c5:=e5 id hiL 5 (by omega);have c6:=e5 id hiL 6 (by omega);have c7:=e5 id hiL 7 (by omega);have c8:=e5 id hiL 8 (by omega);have c9:=e5 id hiL 9 (by omega);have c10:=e5 id hiL 10 (by omega);have c11:=e5 id hiL 11 (by omega);have c12:=e5 id hiL 12 (by omega);obtain⟨pa,pm,pc,hpx,_⟩:=(hs.pixN id hiL).form;rw[hR.nw]at c2;rw[hR.nh]at c3;rw[hpx]at c4;rw[hR.nx]at c5;rw[hR.ny]at c6;rw[hR.ncut]at c7;rw[hR.n0]at c8;rw[hR.n1]at c9;rw[hR.n2]at c10;rw[hR.n3]at c11;obtain⟨qa,qm,qc,hqx⟩:=hR.nhint;rw[hqx]at c12;have lk:=(hw.lk id).1;have pl:=EU hw id (by omega);have HB0:Hid (st.buf id=(0+st.px id,0+st.py id,(st.sf id).now.w+st.px id,(st.sf id).now.h+st.py id)):=rfl;obtain⟨PX,hPX⟩:∃p,st.px id=p:=⟨_,rfl⟩;obtain⟨PY,hPY⟩:∃p,st.py id=p:=⟨_,rfl⟩;rw[hPX,hPY]at pl HB0;have lw:=lk.w;have lh:=lk.h;have HPX:=Aa (aK hPX hPY);have hicap:id<cap:=by omega
 generalize (st.sf id).now=N at*;clear hr hs kf hn e5 e6 hw hsr hR hpx hqx hres lk hiL;have hMv:∃M0 M1 M2 M3:Int,(0+PX,0+PY,N.w+PX,N.h+PY)=(M0,M1,M2,M3)/\∀W,Calls prog 181 #[.agg #[vj 0,vj 0,vj N.w,vj N.h],vj PX,vj PY] W fun e w'=>e=.returned (.agg #[vj M0,vj M1,vj M2,vj M3])/\∃o1 o2,w'=(W.alloc o1).alloc o2:=
  ⟨_,_,_,_,rfl,fun W=>MI 0 0 N.w N.h PX PY W (by omega) (by omega) (by omega) (by omega) (by omega) (by omega)⟩
 obtain⟨M0,M1,M2,M3,hMe,hMv⟩:=hMv;have hSh:∃r:R4,nrm (BX (0,0,st.w,st.h) (M0,M1,M2,M3))=r/\∀W,Calls prog 180 #[.agg #[vj 0,vj 0,vj st.w,vj st.h],.agg #[vj M0,vj M1,vj M2,vj M3]] W fun en w'=>en=.returned (.agg #[vj r.1,vj r.2.1,vj r.2.2.1,vj r.2.2.2])/\∃o1 o2 o3,w'=((W.alloc o1).alloc o2).alloc o3:=⟨_,rfl,fun W=>KN _ _ _ _ _ _ _ _ W⟩;obtain⟨r0,hr0,hSh⟩:=hSh;have HR0:Hid (nrm (BX (0,0,st.w,st.h) (st.buf id))=r0):=by rw[HB0.out,hMe];exact hr0
 clear hr0 hMe;go_enter func134,ntmps134
 go_upto_region 3 with(go_at_call 135;refine(HP.out id (by have:=HH.out.2.2.1;omega) _ ?_).mono ?_;exact(aN _ _).alloc (aO _) _;rintro e w' ⟨rfl,hw'⟩;replace hw':=hw'.symm;subst hw')
 have F0:=Yf w N.w N.h N.x N.y N.cut N.clip.1 N.clip.2.1 N.clip.2.2.1 N.clip.2.2.2 pa pm pc qa qm qc;generalize (w.alloc (.cells #[vj 0,vj 0,vj 0,vj 0] 53)).alloc (.cells #[vj N.w,vj N.h,.slice pa pm pc,vj N.x,vj N.y,.bool N.cut,vj N.clip.1,vj N.clip.2.1,vj N.clip.2.2.1,vj N.clip.2.2.2,.slice qa qm qc] 212)=W0 at*;obtain⟨f1,f2,f3,f4,f5,f6⟩:=F0;have FC:Hid (∀W,uj W0 W->W.cell? (jA c 0)=some (vj st.w)/\W.cell? (jA c 1)=some (vj st.h)/\W.cell? (jA (w.heap.size+1) 0)=some (vj N.w)/\W.cell? (jA (w.heap.size+1) 1)=some (vj N.h)):=fun W hW=>
  ⟨(HC.out W (f1.trans (hW.mono (by omega)))).1,(HC.out W (f1.trans (hW.mono (by omega)))).2.1,(hW.cell (p:=(jA (w.heap.size+1) 0)) (by show w.heap.size+1<W0.heap.size;omega)).trans f3,(hW.cell (p:=(jA (w.heap.size+1) 1)) (by show w.heap.size+1<W0.heap.size;omega)).trans f4⟩
 have g0:=(FC.out W0 (aN _ _)).1;have g1:=(FC.out W0 (aN _ _)).2.1;clear k0 k1 c2 c3 c4 c5 c6 c7 c8 c9 c10 c11 c12;have FM:=Aa (aK f1 (aK f5 f6));clear f1 f5 f6
 go_cut [8] (fun s8 wx=>∃rb,s8=pj rb/\Fd w wx rb r0)
 case first=>
  go_region_held3 (fun w'=>w'.cell? (jA c 0)=some (vj st.w)/\w'.cell? (jA c 1)=some (vj st.h)/\w'.cell? (jA (w.heap.size+1) 0)=some (vj N.w)/\w'.cell? (jA (w.heap.size+1) 1)=some (vj N.h))
   (first
    |(refine FC.out _ ?_;(repeat(first|exact aN _ _|refine bD ?_ |refine bS ?_ (by first|omega|(simp<;>omega)) _))))
   (first
    |(go_at_call 181;refine(hMv _).mono ?_;rintro e w' ⟨rfl,o1,o2,rfl⟩)
    |(go_at_call 180;refine(hSh _).mono ?_;rintro e w' ⟨rfl,o3,o4,o5,rfl⟩)
    |fail)
  all_goals go_wp2_with fail
  all_goals go_meet
  all_goals
   first
    |exact⟨_,rfl,Fd.of (W1:=((((W0.alloc o1).alloc o2).alloc o3).alloc o4).alloc o5) FM.out f2 (al5 (aO _) o1 o2 o3 o4 o5) (aN _ _).drew (by simp[f2])⟩
    |exact⟨_,rfl,Fd.of (W1:=(W0.alloc o1).alloc o2) FM.out f2 (al2 (aO _) o1 o2) (al3 (by simp) o3 o4 o5).drew (by simp[f2])⟩
    |exact⟨_,rfl,Fd.of (W1:=W0) FM.out f2 (aN _ W0) (al5 (by simp) o1 o2 o3 o4 o5).drew f2.symm⟩
 case rest=>
  obtain⟨rb,rfl,hM⟩:=hcut;clear hMv hSh g0 g1 f3 f4;have HM:=Aa hM;clear hM;go_wp2
  go_loopg [1,5,6] (id+1) (fun gg s1 s5 s6 wr=>∃(k x y:Int) (r:R4),s1=vj k/\s5=vj x/\s6=vj y/\-1<=k/\k<gg/\gg<=id+1/\(st.chain k).foldl st.cutN r=res/\Fd w wr rb r)
  case atStart=>exact⟨id,PX,PY,r0,rfl,rfl,rfl,by omega,by omega,by omega,by rw[<-HR0.out];exact HH.out.2.2.2.2,HM.out⟩
  case round=>
   rename World=>wr;obtain⟨k,x,y,r,rfl,rfl,rfl,hk1,hk2,hk3,hk4,hM⟩:=hrel;have HK:=Aa hk4;have HMr:=Aa hM;have r0c:=(hM.r.cell 0);have r1c:=(hM.r.cell 1);have r2c:=(hM.r.cell 2);have r3c:=(hM.r.cell 3);simp only[r4C,br,bj,bt]at r0c r1c r2c r3c;have hlo:=hM.lo;have hbz:=hM.bel.size;by_cases h0:k= -1
   ·subst h0;obtain⟨q0,p0⟩:=hM.res.cell 0 (by omega);obtain⟨q1,p1⟩:=hM.res.cell 1 (by omega);obtain⟨q2,p2⟩:=hM.res.cell 2 (by omega);obtain⟨q3,p3⟩:=hM.res.cell 3 (by omega);have z0:=hM.res.free 0;have z1:=hM.res.free 1;have z2:=hM.res.free 2;have z3:=hM.res.free 3;have hrr:r=res:=by rw[<-hk4,A6 st (by omega)];rfl
    have HB:=Aa (aK hM.bel hM.res);clear hM hk4;subst hrr;go_wp2;have b4:=HB.out.2.four (vj r.1) (vj r.2.1) (vj r.2.2.1) (vj r.2.2.2);have b5:=CO HB.out.1 (aO _) (vj r.1) (vj r.2.1) (vj r.2.2.1) (vj r.2.2.2);generalize (((wr.setCell (jA w.heap.size 0) (vj r.1)).setCell (jA w.heap.size 1) (vj r.2.1)).setCell (jA w.heap.size 2) (vj r.2.2.1)).setCell (jA w.heap.size 3) (vj r.2.2.2)=wz at*;have d0:wz.cell? (jA w.heap.size 0)=some (vj r.1):=b4.cell 0;have d1:wz.cell? (jA w.heap.size 1)=some (vj r.2.1):=b4.cell 1;have d2:wz.cell? (jA w.heap.size 2)=some (vj r.2.2.1):=b4.cell 2;have d3:wz.cell? (jA w.heap.size 3)=some (vj r.2.2.2):=b4.cell 3;have HB5:=Aa b5;clear b5 b4;exact cU (v:=.agg (r4C r)) (by simp[results,results134,go_sem,d0,d1,d2,d3,r4C]) rfl ⟨rfl,HB5.out⟩
   ·obtain⟨i,rfl⟩:∃i:Nat,k=i:=⟨k.toNat,by omega⟩;have hi:i<st.sfs.length:=by have:=HH.out.2.2.1;omega
    have hR:=HH.out.2.1.rel i hi;have lk:=(HH.out.2.2.2.1.lk i).1;have pl2:=EU HH.out.2.2.2.1 i (by omega);have hp:=HH.out.2.2.2.1.par i;have hcs:∀o,o<28->wr.cell? (jA g (i*28+o))=some (F i o):=fun o ho=>(hM.bel.cell (p:=(jA g (i*28+o))) e4).trans (HE.out i hi o ho);have k3':=(HC.out wr hM.bel).2.2;have c1:=hcs 1 (by omega);have c2:=hcs 2 (by omega);have c3:=hcs 3 (by omega);have c4:=hcs 4 (by omega);have c5:=hcs 5 (by omega);have c6:=hcs 6 (by omega);have c7:=hcs 7 (by omega);have c8:=hcs 8 (by omega);have c9:=hcs 9 (by omega);have c10:=hcs 10 (by omega);have c11:=hcs 11 (by omega);have c12:=hcs 12 (by omega);obtain⟨pa2,pm2,pc2,hpx2,_⟩:=(HH.out.2.1.pixN i hi).form;rw[hR.parent]at c1;rw[hR.nw]at c2;rw[hR.nh]at c3;rw[hpx2]at c4;rw[hR.nx]at c5;rw[hR.ny]at c6;rw[hR.ncut]at c7;rw[hR.n0]at c8;rw[hR.n1]at c9;rw[hR.n2]at c10;rw[hR.n3]at c11;obtain⟨qa2,qm2,qc2,hqx2⟩:=hR.nhint;rw[hqx2]at c12;have HSt:=Aa (Av HH.out.2.2.2.1.par i);have HCt:Hid (st.cutN r i=if(st.sf i).now.cut=true then nrm (BX r (mv (st.sf i).now.clip (st.px i) (st.py i)))else r):=rfl;have HPc:=Aa (HP.out i hi);obtain⟨QX,hQX⟩:∃p,st.px i=p:=⟨_,rfl⟩;obtain⟨QY,hQY⟩:∃p,st.py i=p:=⟨_,rfl⟩;obtain⟨P,hPar⟩:∃p,(st.sf i).parent=p:=⟨_,rfl⟩;rw[hQX,hQY]at pl2 HCt HPc;rw[hPar]at c1 hp HSt;obtain⟨⟨a0,a1,a2,a3⟩,hcl⟩:∃p,(st.sf i).now.clip=p:=⟨_,rfl⟩;have l0:=lk.c0;have l1:=lk.c1;have l2:=lk.c2;have l3:=lk.c3;rw[hcl]at c8 c9 c10 c11 HCt l0 l1 l2 l3;simp only at c8 c9 c10 c11 l0 l1 l2 l3;obtain⟨tc,htc⟩:∃p,(st.sf i).now.cut=p:=⟨_,rfl⟩;rw[htc]at c7 HCt;obtain⟨qq,hqq⟩:∃q:Nat->Value,∀j,j<11->wr.cell? (jA (w.heap.size+1) j)=some (q j):=⟨fun j=>(wr.cell? (jA (w.heap.size+1) j)).getD undef,fun j hj=>by obtain⟨q,hq⟩:=hM.n.cell j hj;show _=some ((wr.cell? (jA (w.heap.size+1) j)).getD undef);rw[hq];rfl⟩;have t0:=hqq 0 (by omega);have t1:=hqq 1 (by omega);have t2:=hqq 2 (by omega);have t3:=hqq 3 (by omega);have t4:=hqq 4 (by omega);have t5:=hqq 5 (by omega);have t6:=hqq 6 (by omega);have t7:=hqq 7 (by omega);have t8:=hqq 8 (by omega);have t9:=hqq 9 (by omega);have t10:=hqq 10 (by omega);have z0:=hM.n.free 0;have z1:=hM.n.free 1;have z2:=hM.n.free 2;have z3:=hM.n.free 3;have z4:=hM.n.free 4;have z5:=hM.n.free 5;have z6:=hM.n.free 6;have z7:=hM.n.free 7;have z8:=hM.n.free 8;have z9:=hM.n.free 9;have z10:=hM.n.free 10;generalize (st.sf i).now=NI at*;have hicap2:i<cap:=by omega
    have hneg:¬(i:Int)= -1:=by omega
    clear hM hk4 hR hpx2 hqq hcs hQX hQY hPar hcl htc lk
    go_upto_region 7 with(go_at_call 135;refine(HPc.out _ HMr.out.bel).mono ?_;rintro e w' ⟨rfl,hw'⟩;replace hw':=hw'.symm;subst hw')
    obtain⟨wn,hwn,hMn,hBn⟩:=HMr.out.store (vj NI.w) (vj NI.h) (.slice pa2 pm2 pc2) (vj NI.x) (vj NI.y) (.bool tc) (vj a0) (vj a1) (vj a2) (vj a3) (.slice qa2 qm2 qc2);rw[hwn];clear hwn;have b5:wn.cell? (jA (w.heap.size+1) 5)=some (.bool tc):=hBn.cell 5;have b6:wn.cell? (jA (w.heap.size+1) 6)=some (vj a0):=hBn.cell 6;have b7:wn.cell? (jA (w.heap.size+1) 7)=some (vj a1):=hBn.cell 7;have b8:wn.cell? (jA (w.heap.size+1) 8)=some (vj a2):=hBn.cell 8;have b9:wn.cell? (jA (w.heap.size+1) 9)=some (vj a3):=hBn.cell 9;have y3:=(HC.out wn hMn.bel).2.2;have y1:wn.cell? (jA g (i*28+1))=some (vj P):=by
     rw[hMn.bel.cell (p:=(jA g (i*28+1))) e4,<-HMr.out.bel.cell (p:=(jA g (i*28+1))) e4];exact c1
    have s0:wn.cell? (jA rb 0)=some (vj r.1):=hMn.r.cell 0;have s1:wn.cell? (jA rb 1)=some (vj r.2.1):=hMn.r.cell 1;have s2:wn.cell? (jA rb 2)=some (vj r.2.2.1):=hMn.r.cell 2;have s3:wn.cell? (jA rb 3)=some (vj r.2.2.2):=hMn.r.cell 3;have v0:=hMn.r.has.free 0;have v1:=hMn.r.has.free 1;have v2:=hMn.r.has.free 2;have v3:=hMn.r.has.free 3;have hgr:¬g=rb:=by omega
    have hcr:¬c=rb:=by omega
    have HMn:=Aa hMn;have hsn:=hMn.bel.size;clear hMn hBn t0 t1 t2 t3 t4 t5 t6 t7 t8 t9 t10 z0 z1 z2 z3 z4 z5 z6 z7 z8 z9 z10 c1 c2 c3 c4 c5 c6 c7 c8 c9 c10 c11 c12 k3' r0c r1c r2c r3c;cases tc with
    |false=>
     go_wp2
     go_roundg i
     case measure=>omega
     case rel=>
      refine⟨P,QX,QY,r,rfl,rfl,rfl,hp.1,hp.2,by omega,?_,HMn.out⟩;have h9:=HK.out;rw[HSt.out,List.foldl_cons,HCt.out,if_neg (by simp)]at h9;exact h9
    |true=>
     have hMv:∃M0 M1 M2 M3:Int,mv (a0,a1,a2,a3) QX QY=(M0,M1,M2,M3)/\∀W,Calls prog 181 #[.agg #[vj a0,vj a1,vj a2,vj a3],vj QX,vj QY] W fun e w'=>e=.returned (.agg #[vj M0,vj M1,vj M2,vj M3])/\∃o1 o2,w'=(W.alloc o1).alloc o2:=
      ⟨_,_,_,_,rfl,fun W=>MI a0 a1 a2 a3 QX QY W (by omega) (by omega) (by omega) (by omega) (by omega) (by omega)⟩
     obtain⟨M0,M1,M2,M3,hMe,hMv⟩:=hMv;have hSh:∃r':R4,nrm (BX r (M0,M1,M2,M3))=r'/\∀W,Calls prog 180 #[.agg #[vj r.1,vj r.2.1,vj r.2.2.1,vj r.2.2.2],.agg #[vj M0,vj M1,vj M2,vj M3]] W fun en w'=>en=.returned (.agg #[vj r'.1,vj r'.2.1,vj r'.2.2.1,vj r'.2.2.2])/\∃o1 o2 o3,w'=((W.alloc o1).alloc o2).alloc o3:=⟨_,rfl,fun W=>KN _ _ _ _ _ _ _ _ W⟩;obtain⟨r',hr',hSh⟩:=hSh;have HR':Hid (st.cutN r i=r'):=by unfold Hid;rw[HCt.out,if_pos rfl,hMe];exact hr'
     have FcS:Hid (∀w',uj wn w'->w'.cell? (jA rb 0)=some (vj r.1)/\w'.cell? (jA rb 1)=some (vj r.2.1)/\w'.cell? (jA rb 2)=some (vj r.2.2.1)/\w'.cell? (jA rb 3)=some (vj r.2.2.2)/\w'.cell? (jA (w.heap.size+1) 6)=some (vj a0)/\w'.cell? (jA (w.heap.size+1) 7)=some (vj a1)/\w'.cell? (jA (w.heap.size+1) 8)=some (vj a2)/\w'.cell? (jA (w.heap.size+1) 9)=some (vj a3)):=fun W hW=>by
      have q1:=HMn.out.r.has.lt;have q2:=HMn.out.n.lt;exact⟨(hW.cell (p:=(jA rb 0)) q1).trans s0,(hW.cell (p:=(jA rb 1)) q1).trans s1,(hW.cell (p:=(jA rb 2)) q1).trans s2,(hW.cell (p:=(jA rb 3)) q1).trans s3,(hW.cell (p:=(jA (w.heap.size+1) 6)) q2).trans b6,(hW.cell (p:=(jA (w.heap.size+1) 7)) q2).trans b7,(hW.cell (p:=(jA (w.heap.size+1) 8)) q2).trans b8,(hW.cell (p:=(jA (w.heap.size+1) 9)) q2).trans b9⟩
     have FY:Hid (∀w',uj wn w'->w'.cell? (jA c 3)=some (sj g n cap)/\w'.cell? (jA g (i*28+1))=some (vj P)/\w'.cell? (jA rb 0)=some (vj r.1)/\w'.cell? (jA rb 1)=some (vj r.2.1)/\w'.cell? (jA rb 2)=some (vj r.2.2.1)/\w'.cell? (jA rb 3)=some (vj r.2.2.2)/\w'.frozen? (jA rb 0)=false/\w'.frozen? (jA rb 1)=false/\w'.frozen? (jA rb 2)=false/\w'.frozen? (jA rb 3)=false):=fun W hW=>by
      have q1:=HMn.out.r.has.lt;have q3:Ax W rb 53 4:=HMn.out.r.has.keep (hW.block rb q1);exact⟨(hW.cell (p:=(jA c 3)) (by show c<wn.heap.size;omega)).trans y3,(hW.cell (p:=(jA g (i*28+1))) (by show g<wn.heap.size;omega)).trans y1,(hW.cell (p:=(jA rb 0)) q1).trans s0,(hW.cell (p:=(jA rb 1)) q1).trans s1,(hW.cell (p:=(jA rb 2)) q1).trans s2,(hW.cell (p:=(jA rb 3)) q1).trans s3,q3.free 0,q3.free 1,q3.free 2,q3.free 3⟩
     clear hr' hMe
     go_upto_region 8 with fail
     go_region_with (first
       |(go_at_call 181;refine(hMv _).mono ?_;rintro e w5 ⟨rfl,o1,o2,he5⟩;have B5:Hid (uj wn w5):=(by rw[he5];exact Z5 (aO _) o1 o2);clear he5;obtain⟨p0,p1,p2,p3,p4,p5,p6,p7⟩:=FcS.out w5 B5.out)
       |(go_at_call 180;refine(hSh _).mono ?_;rintro e w6 ⟨rfl,o3,o4,o5,he6⟩;have B6:Hid (uj wn w6):=(by rw[he6];exact B5.out.trans (al3 B5.out.size o3 o4 o5));clear he6;obtain⟨f1,f2',f3,f4,f5,f6,f7,f8,f9,f10⟩:=FY.out w6 B6.out))
     all_goals
      go_wp2
      go_roundg i
      case measure=>omega
      case rel=>
       refine⟨P,QX,QY,r',rfl,rfl,rfl,hp.1,hp.2,by omega,?_,HMn.out.next B6.out⟩;have h9:=HK.out;rw[HSt.out,List.foldl_cons,HR'.out]at h9;exact h9
def Ca(w:World)(base:Nat)(v:Value)(E:List Nat):Prop:=w.ownsRow base 3 1 v E.length (E.map fun(i:Nat)=>vj (i:Int))
theorem Ca.src{w:World}{base:Nat}{v:Value}{E:List Nat}(h:Ca w base v E):(v=jj/\E.length=0)\/∃ad c,v=.slice (some ad) E.length c/\∀j u,(E.map fun(i:Nat)=>vj (i:Int))[j]?=some u->w.cell? (ad.add j)=some u:=by
 rcases h.2 with⟨h1,h2⟩|⟨g,cap,cur,e1,_⟩
 ·exact .inl ⟨h1,h2⟩
 ·subst e1;exact .inr ⟨(jA g 0),cap,rfl,fun j u hu=>h.cells (g:=g) rfl j u hu⟩
theorem Pt(L:List Nat):∀u∈L.map (fun(i:Nat)=>vj (i:Int)),u.oneCell'=true:=by
 intro u hu;rw[List.mem_map]at hu;obtain⟨x,_,rfl⟩:=hu;rfl
theorem Tu{S:Nat->Prop}{c:Nat}{st:St}{bv:Value}(hw:Wf st):∀(fuel:Nat) (p:Int) (w:World), -1<=p->st.need p<=fuel->Aw w S c st bv->
  Calls prog 133 #[pj c,vj p] w fun e w'=>∃v,e=.returned v/\Ca w' w.heap.size v (st.dfs p)/\uj w w':=by
 intro fuel;induction fuel with
 |zero=>intro p w _ h _;unfold St.need at h;omega
 |succ fuel ih=>
  intro p w hp hf h;obtain⟨i0,hi0,hz0,hz1,hz2⟩:=cW EJ;have HR:=Aa h;obtain⟨sv,ov,F,hr,hs⟩:=h;obtain⟨k0,k1,k2,k3,k4,kf,kl⟩:=hr.cells;obtain⟨sa,scap,hsv⟩:=hr.svForm;obtain⟨oa,ocap,hov⟩:=hr.ovForm;subst hsv hov;obtain⟨n,hn⟩:∃n,st.sfs.length=n:=⟨_,rfl⟩;obtain⟨m,hm⟩:∃m,st.order.length=m:=⟨_,rfl⟩;have hm12:=hw.len;have hn60:=hw.made;rw[hm]at hm12 k4;rw[hn]at hn60 k3;have HH:=Aa (aK hr (aK hs (aK hn (aK hm hw))));have HIH:=Aa ih;have HF:=Aa hf;clear hr hs kf hn hm ih hf;go_enter func133,ntmps133
  go_wp2
  go_loopg [5,6] m (fun gg s5 s6 wr=>∃k:Nat,s6=vj k/\gg+k=m/\Ca wr w.heap.size s5 (st.upto p k)/\uj w wr)
  case atStart=>exact⟨0,rfl,by omega,bA _ _ _ _,aN _ _⟩
  case round=>
   rename World=>wr;obtain⟨k,rfl,hgk,hown,hbel⟩:=hrel;obtain⟨va,vc,hvf⟩:=Al hown;obtain⟨nL,hnL⟩:∃nL,(st.upto p k).length=nL:=⟨_,rfl⟩;rw[hnL]at hvf;subst hvf;have hsz:=hbel.size;have y3:=(hbel.cell (p:=(jA c 3)) kl).trans k3;have y4:=(hbel.cell (p:=(jA c 4)) kl).trans k4;cases gk with
   |zero=>
    have hlt:¬(k:Int)<(m:Int):=by omega
    have HO:=Aa (aK hown hbel);clear hown hbel;go_wp2;go_ret;refine⟨_,rfl,?_,HO.out.2⟩;rw[<-Ps HH.out.2.2.2.2 hp (show st.order.length<=k by have:=HH.out.2.2.2.1;omega)];exact HO.out.1
   |succ gk=>
    have hlt:(k:Int)<(m:Int):=by omega
    have hkm:k<m:=by omega
    have hkL:k<st.order.length:=by have:=HH.out.2.2.2.1;omega
    obtain⟨og,oc,eo,_,hoc,ogl,ocs⟩:=HH.out.1.ordAt (by omega);rw[HH.out.2.2.2.1]at hoc;injection eo with eo1 eo2 eo3;subst eo1 eo3;have co:=(hbel.cell (p:=(jA og k)) ogl).trans (ocs k hkL);obtain⟨j,hj⟩:∃j,st.order[k]=j:=⟨_,rfl⟩;have hjo:j∈st.order:=by rw[<-hj];exact aZ hkL
    have hjl:=HH.out.2.2.2.2.lt hjo;obtain⟨sg,sc,es,_,hscap,sgl,scs,_⟩:=HH.out.1.at (by omega);injection es with es1 es2 es3;subst es1 es3;have c1:=(hbel.cell (p:=(jA sg (j*28+1))) sgl).trans (scs j hjl 1 (by omega));rw[(HH.out.2.1.rel j hjl).parent]at c1;rw[hj]at co;obtain⟨q,hq⟩:∃q,(st.sf j).parent=q:=⟨_,rfl⟩;rw[hq]at c1;have hjn:j<n:=by have:=HH.out.2.2.1;omega
    have hjc:j<scap:=by have:=HH.out.2.2.1;omega
    have HN:=Aa (MJ (st:=st) (p:=p) hkL);rw[hj,hq]at HN;have HU:=Aa (U5 HH.out.2.2.2.2 hp k);have HO:=Aa (aK hown (aK hbel (aK hjo hq)));have hkc:k<ocap:=by omega
    have hnL12:nL<=12:=by have:=HU.out;omega
    have HNL:=Aa hnL;clear hown hbel hj hjo hq ocs scs hnL eo2 es2 hjl hkL;by_cases hpq:q=p
    ·have HD:=Aa (Fz HH.out.2.2.2.2 (st:=st) (p:=j) (by omega));obtain⟨nD,hnD⟩:∃nD,(st.dfs j).length=nD:=⟨_,rfl⟩;have hnD12:nD<=12:=by have:=HD.out;omega
     have HND:=Aa hnD;have HNE:Hid (st.need j<=fuel):=by have h1:=KU HH.out.2.2.2.2 hp HO.out.2.2.1 (HO.out.2.2.2.trans hpq);have h2:=HF.out;unfold Hid;omega
     rw[hpq]at c1 HN;clear hnD
     go_wp2_with(first
      |(go_at_call 133;refine(HIH.out j _ (by omega) HNE.out (HR.out.keep fun g _ hg=>HB3.out.block g hg)).mono ?_;rintro e w5 ⟨v5,rfl,hv5,hb5⟩;have H5:=Aa (aK hv5 hb5);have hs5:=hb5.size;clear hv5 hb5)
      |(at_builtin;refine Am (P:=prog) rfl (.tmp 34) (.tmp 36) 24 rfl w.heap.size 3 i0 _ 1 8 underlying24 hi0 hz0 hz1 hz2 rfl (by decide) (.slice va nL vc) nL ((st.upto p k).map fun(i:Nat)=>vj (i:Int)) rfl ?_ (sj wr.heap.size 1 1) 1 [vj j] rfl rfl (.inr ⟨_,_,rfl,bI (cs:=#[vj j]) (t:=3) (fr:=(0,0)) (aR wr _)⟩) (by simp[Value.oneCell']) (by unfold maxLen;omega) (by omega) (by simp;omega) ?_;exact(by have h9:=HO.out.1;unfold Ca at h9;rw[HNL.out]at h9;exact h9.alloc _);intro v3 w3 ho3 hg3 hn3 ha3;have HB3:=Aa ((HO.out.2.1.alloc hsz _).grown hg3 (by simp;omega) (fun k hk=>(HO.out.1.lt k hk).1));have hs3:w.heap.size<=w3.heap.size:=HB3.out.size;have HO3:=Aa ho3;clear ho3 hg3 hn3 ha3)
      |(at_builtin;refine Am (P:=prog) rfl (.tmp 38) (.tmp 41) 24 rfl w.heap.size 3 i0 _ 1 8 underlying24 hi0 hz0 hz1 hz2 rfl (by decide) v3 (nL+1) ((st.upto p k).map (fun(i:Nat)=>vj (i:Int))++[vj j]) rfl ?_ v5 nD ((st.dfs j).map fun(i:Nat)=>vj (i:Int)) rfl ?_ ?_ (Pt _) (by unfold maxLen;omega) (by omega) (by omega) ?_;exact Ai HO3.out (fun g hg=>H5.out.2.block g (HO3.out.lt g hg).2);(rw[List.length_map,HND.out,Nat.mul_one]);exact(by have h9:=H5.out.1.src;rw[HND.out]at h9;exact h9);intro v6 w6 ho6 hg6 hn6 ha6;have HB6:=Aa ((HB3.out.trans (H5.out.2.mono hs3)).grown hg6 (by omega) (fun k hk=>(HO3.out.lt k hk).1));have HO6:=Aa ho6;clear ho6 hg6 hn6 ha6))
     go_roundg gk
     case measure=>omega
     case rel=>
      refine⟨k+1,by go_num,by omega,?_,HB6.out⟩;have e1:st.upto p (k+1)=st.upto p k++(j::st.dfs j):=by rw[HN.out];simp
      unfold Ca;rw[e1];have e2:(st.upto p k++(j::st.dfs j)).length=nL+1+nD:=by rw[aY,List.length_cons,HNL.out,HND.out];omega
      have e3:(st.upto p k++(j::st.dfs j)).map (fun(i:Nat)=>vj (i:Int))=(st.upto p k).map (fun(i:Nat)=>vj (i:Int))++[vj j]++(st.dfs j).map (fun(i:Nat)=>vj (i:Int)):=by simp
      rw[e2,e3];exact HO6.out
    ·go_wp2_with fail
     go_roundg gk
     case measure=>omega
     case rel=>
      refine⟨k+1,by go_num,by omega,?_,HO.out.2.1⟩;rw[HN.out,if_neg hpq,List.append_nil];exact HO.out.1
def En(l:List R4)(w:World)(e:Ending)(w':World):Prop:=∃v,e=.returned v/\AF w' w.heap.size v l/\uj w w'
def St.partsTo(st:St)(id k:Nat):List R4:=((st.order.take k).filter fun(j:Nat)=>(st.chain j).contains id).map fun j=>nrm (st.seen j)
def St.partsL(st:St)(id:Nat):List R4:=(st.order.filter fun(j:Nat)=>(st.chain j).contains id).map fun j=>nrm (st.seen j)
theorem NF{id k:Nat}(hk:k<st.order.length):st.partsTo id (k+1)=st.partsTo id k++if(st.chain st.order[k]).contains id=true then [nrm (st.seen st.order[k])]else []:=by
 unfold St.partsTo;rw[bn hk,List.filter_append,cL,ch];congr 1
 split<;>rfl
theorem Pu(st:St)(id k:Nat):(st.partsTo id k).length<=k:=by
 unfold St.partsTo;rw[List.length_map];refine bh (ci _ _) ?_;rw[bR];omega
theorem Ia(hw:Wf st)(id:Nat):(st.partsL id).length<=12:=by
 unfold St.partsL;rw[List.length_map];exact bh (ci _ _) hw.len
theorem Jl{S:Nat->Prop}{c:Nat}{bv:Value}(hw:Wf st)(id:Nat)(w:World)(h:Aw w S c st bv):
  Calls prog 129 #[pj c,vj id] w (En (st.partsL id) w):=by
 obtain⟨i0,hi0,hz0,hz1,hz2⟩:=cW C8;have HR:=Aa h;obtain⟨sv,ov,F,hr,hs⟩:=h;obtain⟨k0,k1,k2,k3,k4,kf,kl⟩:=hr.cells;obtain⟨oa,ocap,hov⟩:=hr.ovForm;subst hov;obtain⟨m,hm⟩:∃m,st.order.length=m:=⟨_,rfl⟩;have hm12:=hw.len;rw[hm]at hm12 k4;have HH:=Aa (aK hr (aK hm hw));clear hr hs kf hm;go_enter func129,ntmps129
 go_wp2
 go_loopg [5,6] m (fun gg s5 s6 wr=>∃k:Nat,s6=vj k/\gg+k=m/\AF wr w.heap.size s5 (st.partsTo id k)/\uj w wr)
 case atStart=>exact⟨0,rfl,by omega,⟨bA _ _ _ _,fun _=>rfl⟩,aN _ _⟩
 case round=>
  rename World=>wr;obtain⟨k,rfl,hgk,hown,hbel⟩:=hrel;have hlk:=Pu st id k;have HL0:Hid (st.partsTo id k=st.partsTo id k):=rfl;obtain⟨l,hl⟩:∃l,st.partsTo id k=l:=⟨_,rfl⟩;rw[hl]at hown hlk;have HLk:=Aa hl;clear hl HL0;obtain⟨va,vc,hvf⟩:=Al hown.1;obtain⟨nL,hnL⟩:∃nL,l.length=nL:=⟨_,rfl⟩;rw[hnL]at hvf hlk;subst hvf;have hsz:=hbel.size;have y4:=(hbel.cell (p:=(jA c 4)) kl).trans k4;have HNL:=Aa hnL;clear hnL;cases gk with
  |zero=>
   have hlt:¬(k:Int)<(m:Int):=by omega
   have HO:=Aa (aK hown hbel);clear hown hbel;go_wp2;go_ret;have hfull:st.partsL id=l:=by
    rw[<-HLk.out];unfold St.partsL St.partsTo;rw[bw (by have:=HH.out.2.1;omega)]
   rw[hfull];exact⟨_,rfl,HO.out.1,HO.out.2⟩
  |succ gk=>
   have hlt:(k:Int)<(m:Int):=by omega
   have hkL:k<st.order.length:=by have:=HH.out.2.1;omega
   obtain⟨og,oc,eo,_,hoc,ogl,ocs⟩:=HH.out.1.ordAt (by omega);rw[HH.out.2.1]at hoc;injection eo with eo1 eo2 eo3;subst eo1 eo3;have co:=(hbel.cell (p:=(jA og k)) ogl).trans (ocs k hkL);obtain⟨j,hj⟩:∃j,st.order[k]=j:=⟨_,rfl⟩;have hjl:j<st.sfs.length:=by rw[<-hj];exact HH.out.2.2.lt (aZ hkL)
   rw[hj]at co;have HO:=Aa (aK hown (aK hbel hjl));have hkc:k<ocap:=by omega
   obtain⟨t,ht⟩:∃t,(st.chain j).contains id=t:=⟨_,rfl⟩;have HOn:Hid (∀W,uj w W->Calls prog 130 #[pj c,vj j,vj id] W fun e w'=>e=.returned (.bool t)/\w'=W):=fun W hW=>by
    rw[<-ht];exact U4 j id W (HR.out.keep fun g _ hg=>hW.block g hg) HH.out.2.2 hjl
   obtain⟨r,hr⟩:∃r,nrm (st.seen j)=r:=⟨_,rfl⟩;have HNx:Hid (st.partsTo id (k+1)=l++if t=true then [r]else []):=by rw[Hid,NF hkL,HLk.out,hj,ht,hr]
   have HSn:Hid (∀W,uj w W->Calls prog 134 #[pj c,vj j] W fun e w'=>e=.returned (.agg #[vj r.1,vj r.2.1,vj r.2.2.1,vj r.2.2.2])/\uj W w'):=fun W hW=>by
    rw[<-hr];exact KT j W (HR.out.keep fun g _ hg=>hW.block g hg) HH.out.2.2 hjl
   clear hown hbel hj hjl ocs eo2 hkL ht hr;cases t with
   |false=>
    go_wp2_with(go_at_call 130;refine(HOn.out _ HO.out.2.1).mono ?_;rintro e w' ⟨rfl,hw'⟩;replace hw':=hw'.symm;subst hw')
    go_roundg gk
    case measure=>omega
    case rel=>exact⟨k+1,by go_num,by omega,by rw[HNx.out,if_neg (by simp),List.append_nil];exact HO.out.1,HO.out.2.1⟩
   |true=>
    go_wp2_with(first
     |(go_at_call 130;refine(HOn.out _ HO.out.2.1).mono ?_;rintro e w' ⟨rfl,hw'⟩;replace hw':=hw'.symm;subst hw')
     |(go_at_call 134;refine(HSn.out _ HO.out.2.1).mono ?_;rintro e w5 ⟨rfl,hb5⟩;have H5:=Aa hb5;have hs5:=hb5.size;clear hb5)
     |(at_builtin;refine Am (P:=prog) rfl (.tmp 28) (.tmp 38) 33 rfl w.heap.size 53 i0 _ 4 32 underlying33 hi0 hz0 hz1 hz2 rfl (by decide) (.slice va nL vc) nL (Ae l) rfl ?_ (sj w5.heap.size 1 1) 1 [vj r.1,vj r.2.1,vj r.2.2.1,vj r.2.2.2] rfl rfl (.inr ⟨_,_,rfl,bI (cs:=#[vj r.1,vj r.2.1,vj r.2.2.1,vj r.2.2.2]) (t:=53) (fr:=(0,0)) (aR w5 _)⟩) (by simp[Value.oneCell']) (by unfold maxLen;omega) (by omega) (by simp;omega) ?_;exact(by have h9:=Ai HO.out.1.1 (fun g hg=>H5.out.block g (HO.out.1.1.lt g hg).2);rw[HNL.out]at h9;exact h9.alloc _);intro v6 w6 ho6 hg6 hn6 ha6;have HB6:=Aa (((HO.out.2.1.trans (H5.out.mono hsz)).alloc (by omega) _).grown hg6 (by simp;omega) (fun k hk=>(HO.out.1.1.lt k hk).1));have HO6:=Aa (aK ho6 hn6);clear ho6 hg6 hn6 ha6))
    go_roundg gk
    case measure=>omega
    case rel=>
     refine⟨k+1,by go_num,by omega,?_,HB6.out⟩;rw[HNx.out,if_pos (by simp)];refine⟨?_,fun h=>by simp at h⟩;have h9:=HO6.out.1;rw[aY,HNL.out,AD];exact h9
theorem U6{W H x y:Nat}(hx:x<W)(hy:y<H):y*W+x<W*H:=by
 have h1:(y+1)*W<=H*W:=bU W hy;rw[Nat.add_mul,Nat.one_mul,Nat.mul_comm H W]at h1;omega
variable{cap g j:Nat}
def upF(F:Nat->Nat->Value)(i o:Nat)(u:Value):Nat->Nat->Value:=fun j=>if j=i then(fun p=>if p=o then u else F i p)else F j
theorem Bx(F:Nat->Nat->Value)(i o:Nat)(u:Value):upF F i o u i=fun p=>if p=o then u else F i p:=by unfold upF;rw[if_pos rfl]
theorem D7(F:Nat->Nat->Value)(i o:Nat)(u:Value)(h:j≠i):upF F i o u j=F j:=by unfold upF;rw[if_neg h]
theorem Aj{a b:Nat}{ca cb:Array Value}{ta tb:TypeId}(h1:w.heap[a]?=some (.cells ca ta (0,0)))(h2:w.heap[b]?=some (.cells cb tb (0,0)))(h:ta≠tb):a≠b:=by
 intro e;rw[e,h2]at h1;injection h1 with h1;injection h1 with _ h1;exact h h1.symm
theorem B3.set(h:B3 w S c W H n ord bv (sj g n cap) ov F){i o:Nat}(hi:i<n)(ho:o<28)(u:Value):
  B3 (w.setCell (jA g (i*28+o)) u) S c W H n ord bv (sj g n cap) ov (upF F i o u):=by
 obtain⟨h1,h2,⟨xs,h3,h4⟩,h5⟩:=h;obtain⟨cg,hg⟩:=h3.type (g:=g) rfl;have hk:∀(T:TypeId),T≠214->∀(b:Nat) (cur:Array Value),w.heap[b]?=some (.cells cur T (0,0))->(w.setCell (jA g (i*28+o)) u).heap[b]?=w.heap[b]? :=fun T hT b cur hb=>aL w (jA g (i*28+o)) b u (Aj hb hg hT);have hl:=h3.len;refine⟨(hk _ (by decide) c _ h1).trans h1,h2,⟨_,h3.set _ u,fun j hj p hp=>?_⟩,h5.other (hk _ (by decide))⟩
 ·rw[bW];by_cases e:i*28+o=j*28+p
  ·have e1:j=i:=by omega
   have e2:p=o:=by omega
   subst e1 e2;rw[if_pos rfl,if_pos (by omega),Bx];simp
  ·rw[if_neg e,h4 j hj p hp];by_cases e1:j=i
   ·subst e1;rw[Bx];show some (F j p)=some (if p=o then u else F j p);rw[if_neg (by omega)]
   ·rw[D7 _ _ _ _ e1]
theorem B3.gType(h:B3 w S c W H n ord bv (sj g n cap) ov F):S g/\∃cur:Array Value,w.heap[g]?=some (.cells cur 214 (0,0)):=by
 obtain⟨xs,h3,h4⟩:=h.sfs;exact⟨h3.2 g rfl,h3.type (g:=g) rfl⟩
theorem Du{t:TypeId}(h:Jj t):t≠214/\t≠202/\t≠3/\t≠212/\t≠204:=by
 rcases h with rfl|rfl|rfl<;>decide
theorem CD.setOther{F:Nat->Value}{s:Sf}{cur:Array Value}{u:Value}(h:CD w S F s)(hg:w.heap[g]?=some (.cells cur 214 (0,0))):CD (w.setCell (jA g j) u) S F s:=
 h.other fun b _ _ ht hb=>aL w (jA g j) b u (Aj hb hg (Du ht).1)
theorem IC{st:St}(hw:Wf st)(p:Int)(w:World)(h:Aw w S c st bv):
  Calls prog 179 #[pj c,vj p] w fun e w'=>∃v,e=.returned v/\Ca w' w.heap.size v (st.kids p)/\uj w w':=by
 obtain⟨i0,hi0,hz0,hz1,hz2⟩:=cW EJ;obtain⟨sv,ov,F,hr,hs⟩:=h;obtain⟨k0,k1,k2,k3,k4,kf,kl⟩:=hr.cells;obtain⟨sa,scap,hsv⟩:=hr.svForm;obtain⟨oa,ocap,hov⟩:=hr.ovForm;subst hsv hov;obtain⟨n,hn⟩:∃n,st.sfs.length=n:=⟨_,rfl⟩;obtain⟨m,hm⟩:∃m,st.order.length=m:=⟨_,rfl⟩;have hm12:=hw.len;have hn60:=hw.made;rw[hm]at hm12 k4;rw[hn]at hn60 k3;have HH:=Aa (aK hr (aK hs (aK hn (aK hm hw))));clear hr hs kf hn hm;go_enter func179,ntmps179
 go_wp2
 go_loopg [5,6] m (fun gg s5 s6 wr=>∃k:Nat,s6=vj k/\gg+k=m/\Ca wr w.heap.size s5 ((st.order.take k).filter fun i=>decide ((st.sf i).parent=p))/\uj w wr)
 case atStart=>exact⟨0,rfl,by omega,bA _ _ _ _,aN _ _⟩
 case round=>
  rename World=>wr;obtain⟨k,rfl,hgk,hown,hbel⟩:=hrel;obtain⟨va,vc,hvf⟩:=Al hown;obtain⟨nL,hnL⟩:∃nL,((st.order.take k).filter fun i=>decide ((st.sf i).parent=p)).length=nL:=⟨_,rfl⟩;rw[hnL]at hvf;subst hvf;have hsz:=hbel.size;have y3:=(hbel.cell (p:=(jA c 3)) kl).trans k3;have y4:=(hbel.cell (p:=(jA c 4)) kl).trans k4;cases gk with
  |zero=>
   have hlt:¬(k:Int)<(m:Int):=by omega
   have HO:=Aa (aK hown hbel);clear hown hbel;go_wp2;go_ret;refine⟨_,rfl,?_,HO.out.2⟩;have h9:=HO.out.1;rw[bw (by have:=HH.out.2.2.2.1;omega)]at h9;exact h9
  |succ gk=>
   have hlt:(k:Int)<(m:Int):=by omega
   have hkm:k<m:=by omega
   have hkL:k<st.order.length:=by have:=HH.out.2.2.2.1;omega
   obtain⟨og,oc,eo,_,hoc,ogl,ocs⟩:=HH.out.1.ordAt (by omega);rw[HH.out.2.2.2.1]at hoc;injection eo with eo1 eo2 eo3;subst eo1 eo3;have co:=(hbel.cell (p:=(jA og k)) ogl).trans (ocs k hkL);obtain⟨j,hj⟩:∃j,st.order[k]=j:=⟨_,rfl⟩;have hjo:j∈st.order:=by rw[<-hj];exact aZ hkL
   have hjl:=HH.out.2.2.2.2.lt hjo;obtain⟨sg,sc,es,_,hscap,sgl,scs,_⟩:=HH.out.1.at (by omega);injection es with es1 es2 es3;subst es1 es3;have c1:=(hbel.cell (p:=(jA sg (j*28+1))) sgl).trans (scs j hjl 1 (by omega));rw[(HH.out.2.1.rel j hjl).parent]at c1;rw[hj]at co;obtain⟨q,hq⟩:∃q,(st.sf j).parent=q:=⟨_,rfl⟩;rw[hq]at c1;have hjn:(j:Int)<(n:Int):=by have:=HH.out.2.2.1;omega
   have hjn2:j<n:=by have:=HH.out.2.2.1;omega
   have hj0:(0:Int)<=(j:Int):=by omega
   have hk0:(0:Int)<=(k:Int):=by omega
   have hjc:j<scap:=by have:=HH.out.2.2.1;omega
   have HN:Hid ((st.order.take (k+1)).filter (fun i=>decide ((st.sf i).parent=p))=(st.order.take k).filter (fun i=>decide ((st.sf i).parent=p))++if q=p then [j]else []):=by
    unfold Hid;rw[bn hkL,List.filter_append,hj,ch,hq];by_cases e:q=p
    ·rw[if_pos (by simpa using e),if_pos e];rfl
    ·rw[if_neg (by simpa using e),if_neg e];rfl
   have hnL12:nL<=12:=by
    have h1:=ci (fun i=>decide ((st.sf i).parent=p)) (st.order.take k);rw[bR]at h1;have h2:=HH.out.2.2.2.1;omega
   have HO:=Aa (aK hown hbel);have hkc:k<ocap:=by omega
   have HNL:=Aa hnL;clear hown hbel hj hjo hq ocs scs hnL eo2 es2 hjl hkL;by_cases hpq:q=p
   ·rw[hpq]at c1 HN
    go_upto_region 5 with fail
    go_quiet (fail)
    go_wp2_with(at_builtin;refine Am (P:=prog) rfl (.tmp 32) (.tmp 40) 24 rfl w.heap.size 3 i0 _ 1 8 underlying24 hi0 hz0 hz1 hz2 rfl (by decide) (.slice va nL vc) nL (((st.order.take k).filter fun i=>decide ((st.sf i).parent=p)).map fun(i:Nat)=>vj (i:Int)) rfl ?_ (sj wr.heap.size 1 1) 1 [vj j] rfl rfl (.inr ⟨_,_,rfl,bI (cs:=#[vj j]) (t:=3) (fr:=(0,0)) (aR wr _)⟩) (by simp[Value.oneCell']) (by unfold maxLen;omega) (by omega) (by simp;omega) ?_;exact(by have h9:=HO.out.1;unfold Ca at h9;rw[HNL.out]at h9;exact h9.alloc _);intro v3 w3 ho3 hg3 hn3 ha3;have HB3:=Aa (((cS HO.out.2 _).alloc hsz _).grown hg3 (by simp;omega) (fun k hk=>(HO.out.1.lt k hk).1));have HO3:=Aa ho3;clear ho3 hg3 hn3 ha3)
    go_roundg gk
    case measure=>omega
    case rel=>
     refine⟨k+1,by go_num,by omega,?_,HB3.out⟩;have e1:=HN.out;rw[if_pos trivial]at e1;unfold Ca;rw[e1,aY,HNL.out,cL];exact HO3.out
   ·go_upto_region 5 with fail
    go_quiet (fail)
    go_wp2
    go_roundg gk
    case measure=>omega
    case rel=>
     refine⟨k+1,by go_num,by omega,?_,cS HO.out.2 _⟩;rw[HN.out,if_neg hpq,List.append_nil];exact HO.out.1
variable{id:Nat}{cur:Array Value}
theorem Ca.alloc{base:Nat}{v:Value}{E:List Nat}(h:Ca w base v E)(o:Obj):Ca (w.alloc o) base v E:=World.ownsRow.alloc h o
theorem Cb{ops:Array Oper}{rest:List Oper}{o:Oper}{a:Act}{Q:Exit->Act->World->Prop}(hgd:o.guard=none)(s x:Operand)
  (ho:o.op=.call {callee:=.builtin .append,args:=#[s,x],argTypes:=#[24,24] }) (base:Nat) (v:Value) (E:List Nat) (hs:a.eval s=v) (hown:Ca w base v E) (b j:Nat) (hx:a.eval x=sj b 1 1)
  (hb:w.heap[b]?=some (.cells #[vj (j:Int)] 3 (0,0))) (hl:E.length<=1000) (hbase:base<=w.heap.size)
  (h:∀v' w',Ca w' base v' (E++[j])->w.grownBy w' v.ownBlock->wpList prog ops Q rest (a.put o.dst v') w'):wpList prog ops Q (o::rest) a w:=by
 obtain⟨i0,hi0,hz0,hz1,hz2⟩:=cW EJ;refine Am (P:=prog) hgd s x 24 ho base 3 i0 _ 1 8 underlying24 hi0 hz0 hz1 hz2 rfl (by decide) v E.length (E.map fun(i:Nat)=>vj (i:Int)) hs hown _ 1 [vj j] hx rfl (.inr ⟨_,_,rfl,bI (cs:=#[vj j]) (t:=3) (fr:=(0,0)) hb⟩) (by simp[Value.oneCell']) (by unfold maxLen;omega) (by omega) hbase ?_;intro v' w' h1 h2 _ _;refine h v' w' ?_ h2;unfold Ca;rw[aY,cL];exact h1
def Fe(s:Sf):Sf:={s with ask:=false}
def stk(st:St)(id:Nat):St:=
 {upd st id Fe with order:=if st.puts id=true then rsL st.order id (st.sf id).sib.toNat (st.sf id).above else st.order}
def Ff(S:Nat->Prop)(c:Nat)(bv:Value)(st:St)(id:Nat)(w:World)(e:Ending)(w':World):Prop:=∃b:Bool,e=.returned (.bool b)/\Aw w' (AA S w w') c (stk st id) bv/\Ac S w w'/\(∀(b:Nat) (cur:Array Value) (t:TypeId),Jj t->w.heap[b]?=some (.cells cur t (0,0))->w'.heap[b]?=w.heap[b]?)/\b= !decide ((stk st id).kids (st.sf id).parent=st.kids (st.sf id).parent)
theorem C9.ask(h:C9 w S st F){g:Nat}(hid:id<st.sfs.length)(hg:w.heap[g]?=some (.cells cur 214 (0,0))):C9 (w.setCell (jA g (id*28+24)) (.bool false)) S (upd st id Fe) (upF F id 24 (.bool false)):=by
 refine⟨fun i hi=>?_,fun i hi=>?_⟩
 ·rw[Ct]at hi;rw[Bf st id Fe i hid];by_cases e:i=id
  ·subst e;rw[if_pos rfl,Bx];have q:=h.rel i hi;exact⟨q.alive,q.parent,q.nw,q.nh,q.nx,q.ny,q.ncut,q.n0,q.n1,q.n2,q.n3,q.nhint,q.xw,q.xh,q.xx,q.xy,q.xcut,q.x0,q.x1,q.x2,q.x3,q.xhint,rfl,q.sib,q.above,q.kept⟩
  ·rw[if_neg e,D7 _ _ _ _ e];exact h.rel i hi
 ·rw[Ct]at hi;have q:=(h.dat i hi).setOther (j:=id*28+24) (u:=.bool false) hg;rw[Bf st id Fe i hid];by_cases e:i=id
  ·subst e;rw[if_pos rfl,Bx];exact q.turn rfl rfl rfl rfl rfl ⟨rfl,rfl,rfl,rfl⟩ ⟨rfl,rfl,rfl,rfl⟩ rfl
  ·rw[if_neg e,D7 _ _ _ _ e];exact q
theorem B3.setOrd{W H:Int}{n:Nat}{ord ord':List Nat}{sv ov ov':Value}(h:B3 w S c W H n ord bv sv ov F)(hS:∀g,S g->S' g)(ho:A4 w S' 3 1 ov' ord'.length (ord'.map fun(i:Nat)=>vj (i:Int))):B3 (w.setCell (jA c 4) ov') S' c W H n ord' bv sv ov' F:=by
 obtain⟨h1,h2,⟨xs,h3,h4⟩,h5⟩:=h;have hk:∀(T:TypeId),T≠202->∀(b:Nat) (cur:Array Value),w.heap[b]?=some (.cells cur T (0,0))->(w.setCell (jA c 4) ov').heap[b]?=w.heap[b]? :=fun T hT b cur hb=>aL w (jA c 4) b ov' (Aj hb h1 hT);refine⟨bH w c 4 _ _ ov' h1,hS _ h2,⟨xs,(h3.mono hS).other (hk _ (by decide)),h4⟩,ho.other (hk _ (by decide))⟩
theorem C9.setC(h:C9 w S st F)(hS:∀g,S g->S' g){j:Nat}{u:Value}(hc:w.heap[c]?=some (.cells cur 202 (0,0))):C9 (w.setCell (jA c j) u) S' st F:=
 ⟨h.rel,fun i hi=>((h.dat i hi).mono hS).other fun b _ _ ht hb=>aL w (jA c j) b u (Aj hb hc (Du ht).2.1)⟩
theorem U8{l:List Nat}{k:Nat}(hk:k<l.length)(id sib:Nat)(above:Bool):rsL (l.take (k+1)) id sib above=rsL (l.take k) id sib above++((if l[k]=sib/\above=false then [id]else [])++((if l[k]≠id then [l[k]]else [])++(if l[k]=sib/\above=true then [id]else []))):=by
 unfold rsL;rw[bn hk,cM];simp
theorem WL(id sib:Nat)(above:Bool):∀l:List Nat,(rsL l id sib above).length<=2*l.length:=by
 intro l;induction l with
 |nil=>simp[rsL]
 |cons a l ih=>
  unfold rsL at*;rw[ce,aY,List.length_cons];have:((if a=sib/\above=false then [id]else [])++((if a≠id then [a]else [])++(if a=sib/\above=true then [id]else []))).length<=2:=by
   split<;>split<;>split<;>simp_all
  omega
theorem U9(h:st.puts id=false):stk st id=upd st id Fe:=by
 unfold stk;rw[h];rfl
theorem Rh(hw:Wf st)(id:Nat)(hid:id∈st.order)(hp:st.puts id=false)(w:World)(h:Aw w S c st bv):
  Calls prog 131 #[pj c,vj id] w (Ff S c bv st id w):=by
 have hil:=hw.lt hid;have hIs:=fun(W:World) (hW:W=w)=>D6 (S:=S) (c:=c) (st:=st) (bv:=bv) (st.sf id).sib W (by rw[hW];exact h) hw.made;obtain⟨sv,ov,F,hr,hs⟩:=h;obtain⟨k0,k1,k2,k3,k4,kf,kl⟩:=hr.cells;obtain⟨g,cap,e1,e2,e3,e4,e5,e6⟩:=hr.at (by omega);subst e1;have c24:=e5 id hil 24 (by omega);have c25:=e5 id hil 25 (by omega);rw[(hs.rel id hil).ask]at c24;rw[(hs.rel id hil).sib]at c25;have f24:=e6 (id*28+24);obtain⟨n,hn⟩:∃n,st.sfs.length=n:=⟨_,rfl⟩;have hmd:=hw.made;rw[hn]at k3 e3 hmd;have hin:id<n:=by omega
 have hcap:id<cap:=by omega
 obtain⟨_,cur,hcur⟩:=hr.gType;have HFin:Hid (Ff S c bv st id w (.returned (.bool false)) (w.setCell (jA g (id*28+24)) (.bool false))):=by
  refine⟨false,rfl,?_,(Ac.refl S w).set (.inl e2) _,fun b _ _ ht hb=>aL w (jA g (id*28+24)) b _ (Aj hb hcur (Du ht).1),by rw[U9 hp,(B7 (g:=Fe) hil (fun _=>rfl)).kids];simp⟩;rw[U9 hp];refine Aw.mono ?_ (fun b hb=>AI hb);exact⟨_,ov,_,by have h9:=hr.set hil (show 24<28 by omega) (.bool false);rw[<-Ct st id Fe]at h9;exact h9,hs.ask hil hcur⟩
 unfold St.puts at hp;generalize (st.sf id).sib=sb at*;generalize (st.sf id).ask=ak at*;obtain⟨t,ht⟩:∃t,st.isB sb=t:=⟨_,rfl⟩;rw[ht]at hIs hp;clear hr hs kf hn e5 e6 ht hcur hil;have HIs:=Aa hIs;clear hIs;cases ak<;>cases t<;>simp at hp
 all_goals
  go_enter func131,ntmps131
  go_wp2_with(go_at_call 127;refine(HIs.out _ rfl).mono ?_;rintro e w' ⟨rfl,hw'⟩;replace hw':=hw'.symm;subst hw')
  go_ret;exact HFin.out
theorem Yg(st:St)(id j:Nat)(hi:id<st.sfs.length):(stk st id).sf j=if j=id then Fe (st.sf id)else st.sf j:=Bf st id Fe j hi
theorem Py(hw:Wf st)(hs:Hg st)(hid:id∈st.order):(stk st id).order.Perm st.order:=EK hw hs hid
theorem Va(hw:Wf st)(hs:Hg st)(hid:id∈st.order):Wf (stk st id):=by
 have hi:=hw.lt hid;have hP:=Py hw hs hid;have hu:=Hz (g:=Fe) hw hi (fun _=>rfl) (fun _=>rfl) ⟨(hw.lk id).1,(hw.lk id).2⟩;refine⟨hu.par,hP.nodup_iff.2 hw.nd,fun j=>?_,fun j hj p hp=>?_,?_,hu.made,hw.ww,hw.hh,hu.lk⟩
 ·rw[hP.mem_iff];exact hu.mem j
 ·rw[hP.mem_iff]at hj ⊢;exact hu.up j hj p hp
 ·rw[hP.length_eq];exact hw.len
theorem NG(hw:Wf st)(hs:Hg st)(hid:id∈st.order)(p:Int):((stk st id).kids p).length=(st.kids p).length:=by
 have hP:=(Py hw hs hid).filter fun i=>decide (((stk st id).sf i).parent=p);have e:(fun i=>decide (((stk st id).sf i).parent=p))=fun i=>decide ((st.sf i).parent=p):=by
  funext i
  rw[Yg st id i (hw.lt hid)];split
  ·rename_i e;subst e;rfl
  ·rfl
 unfold St.kids;rw[hP.length_eq,e]
theorem Pz{S:Nat->Prop}{c:Nat}{bv:Value}(hw:Wf st)(hsb:Hg st)(id:Nat)(hid:id∈st.order)(hp:st.puts id=true)(w:World)(h:Aw w S c st bv):
  Calls prog 131 #[pj c,vj id] w (Ff S c bv st id w):=by
 have hil:=hw.lt hid;obtain⟨sb,hsib,hsne,hsin,hspar⟩:=KL hw hsb hid hp;have hIs:=D6 (S:=S) (c:=c) (st:=st) (bv:=bv) (st.sf id).sib w h hw.made;have hput:(st.sf id).ask=true/\st.isB (st.sf id).sib=true:=by unfold St.puts at hp;rwa [Bool.and_eq_true]at hp
 rw[hput.2,hsib]at hIs;obtain⟨sv,ov,F,hr,hs⟩:=h;obtain⟨k0,k1,k2,k3,k4,kf,kl⟩:=hr.cells;obtain⟨g,cap,e1,e2,e3,e4,e5,e6⟩:=hr.at (by omega);subst e1;obtain⟨oa,ocap,hov⟩:=hr.ovForm;subst hov;have c1:=e5 id hil 1 (by omega);have c24:=e5 id hil 24 (by omega);have c25:=e5 id hil 25 (by omega);have c26:=e5 id hil 26 (by omega);rw[(hs.rel id hil).parent]at c1;rw[(hs.rel id hil).ask,hput.1]at c24;rw[(hs.rel id hil).sib,hsib]at c25;rw[(hs.rel id hil).above]at c26;have f24:=e6 (id*28+24);have f4:=kf 4;obtain⟨n,hn⟩:∃n,st.sfs.length=n:=⟨_,rfl⟩;obtain⟨m,hm⟩:∃m,st.order.length=m:=⟨_,rfl⟩;have hmd:=hw.made;have hm12:=hw.len;rw[hn]at k3 e3 hmd;rw[hm]at k4 hm12;have hin:id<n:=by omega
 have hcap:id<cap:=by omega
 obtain⟨_,cur,hcur⟩:=hr.gType;have hr1:=hr.set hil (show 24<28 by omega) (.bool false);have hs1:=hs.ask hil hcur;have hw1:Wf (upd st id Fe):=Hz (g:=Fe) hw hil (fun _=>rfl) (fun _=>rfl) ⟨(hw.lk id).1,(hw.lk id).2⟩;have ho1:Ac S w (w.setCell (jA g (id*28+24)) (.bool false)):=(Ac.refl S w).set (.inl e2) _;have hne:¬c=g:=Aj hr.scr hcur (by decide);have q3:(w.setCell (jA g (id*28+24)) (.bool false)).cell? (jA c 3)=some (sj g n cap):=(aV (aL w (jA g (id*28+24)) c _ hne)).trans k3;have q4:(w.setCell (jA g (id*28+24)) (.bool false)).cell? (jA c 4)=some (.slice oa m ocap):=(aV (aL w (jA g (id*28+24)) c _ hne)).trans k4;have hz1:(w.setCell (jA g (id*28+24)) (.bool false)).heap.size=w.heap.size:=by simp
 have hcg:∀o,o<28->o≠24->(w.setCell (jA g (id*28+24)) (.bool false)).cell? (jA g (id*28+o))=some (F id o):=fun o ho hne2=>by
  obtain⟨g2,cap2,a1,a2,a3,a4,a5,a6⟩:=hr1.at (by omega);injection a1 with a11 a12 a13;injection a11 with a11;injection a11 with a11;subst a11;rw[a5 id hil o ho,Bx];show some (if o=24 then _ else F id o)=_;rw[if_neg hne2]
 have y1:=(hcg 1 (by omega) (by omega)).trans ((e5 id hil 1 (by omega)).symm.trans c1);have y25:=(hcg 25 (by omega) (by omega)).trans ((e5 id hil 25 (by omega)).symm.trans c25);have y26:=(hcg 26 (by omega) (by omega)).trans ((e5 id hil 26 (by omega)).symm.trans c26);have hR1:Aw (w.setCell (jA g (id*28+24)) (.bool false)) S c (upd st id Fe) bv:=⟨_,_,_,by have h9:=hr1;rw[<-Ct st id Fe]at h9;exact h9,hs1⟩;have HStk:Hid (∀(wr:World) (v:Value) (B:Nat),Below w.heap.size (w.setCell (jA g (id*28+24)) (.bool false)) wr->w.heap.size<=B->Ca wr B v (rsL st.order id sb (st.sf id).above)->Aw (wr.setCell (jA c 4) v) (AA S w wr) c (stk st id) bv/\Ac S w (wr.setCell (jA c 4) v)/\∀(b:Nat) (cb:Array Value) (t:TypeId),Jj t->w.heap[b]?=some (.cells cb t (0,0))->(wr.setCell (jA c 4) v).heap[b]?=w.heap[b]?):=by
  intro wr v B hb hB hv;have hb2:Below (w.setCell (jA g (id*28+24)) (.bool false)).heap.size (w.setCell (jA g (id*28+24)) (.bool false)) wr:=by rw[hz1];exact hb
  have r2:=hr1.below hb2;have s2:=hs1.below hb2;have eo:(stk st id).order=rsL st.order id sb (st.sf id).above:=by
   show(if st.puts id=true then rsL st.order id (st.sf id).sib.toNat (st.sf id).above else st.order)=_;rw[if_pos hp,hsib,aX]
  refine⟨⟨sj g (upd st id Fe).sfs.length cap,v,upF F id 24 (.bool false),?_,?_⟩,?_,fun b cb t9 ht9 hb9=>?_⟩
  ·have r3:=r2.setOrd (S':=AA S w wr) (ov':=v) (ord':=(stk st id).order) (fun b hb=>AI hb) ⟨by rw[eo];exact⟨hv.1,hv.2.imp (fun h=>h) fun⟨g,c,cur,e1,e2,e3⟩=>⟨g,c,cur,e1,cB _,e3⟩⟩,fun b hb=>.inr ⟨by have:=(hv.lt b hb).1;omega,(hv.lt b hb).2⟩⟩;rw[<-Ct st id Fe]at r3;exact r3
  ·have s3:=s2.setC (S':=AA S w wr) (j:=4) (u:=v) (fun b hb=>AI hb) r2.scr;exact⟨s3.rel,s3.dat⟩
  ·exact(ho1.after hb2).set (.inl hr.own) _
  ·have hbl:=(aM.1 hb9).1;rw[aL wr (jA c 4) b v (Aj hb9 hr.scr (Du ht9).2.1),hb2.block b (by omega),aL w (jA g (id*28+24)) b _ (Aj hb9 hcur (Du ht9).1)]
 have HK:=Aa (aK hw1 (aK (Va hw hsb hid) (aK hn (aK hm (aK hw (NG hw hsb hid (st.sf id).parent))))));have HW:=Aa (aK hr1 (aK ho1 hR1));have HKd:Hid ((upd st id Fe).kids (st.sf id).parent=st.kids (st.sf id).parent):=(B7 (g:=Fe) hil (fun _=>rfl)).kids _;have hKl:(st.kids (st.sf id).parent).length<=12:=bh (ci _ _) hw.len;obtain⟨P,hP⟩:∃P,(st.sf id).parent=P:=⟨_,rfl⟩;obtain⟨ab,hab⟩:∃b,(st.sf id).above=b:=⟨_,rfl⟩;have HPP:=Aa hP;rw[hP]at y1 HK HKd hKl;rw[hab]at y26 HStk;have f4':(w.setCell (jA g (id*28+24)) (.bool false)).frozen? (jA c 4)=false:=by rw[World.frozen?_of_block (aL w (jA g (id*28+24)) c _ hne)];exact f4
 have hIsW:=Aa hIs;clear hr hs kf hn hm e5 e6 hcur hr1 hs1 hw1 ho1 hR1 hcg hP hab hIs k4 hput hp hspar f4;go_enter func131,ntmps131
 go_upto_region 7 with(go_at_call 127;refine hIsW.out.mono ?_;rintro e w' ⟨rfl,hw'⟩;replace hw':=hw'.symm;subst hw')
 clear c1 c24 c25 c26 f24 k3;generalize w.setCell (jA g (id*28+24)) (.bool false)=w1 at*;have kl1:c<w1.heap.size:=by omega
 have hg1:g<w1.heap.size:=by omega
 go_wp2_with(go_at_call 179;refine(IC HK.out.1 P _ HW.out.2.2).mono ?_;rintro e w2 ⟨vb,rfl,hvb,hb2⟩;have H2:=Aa (aK hvb hb2);have hs2:=hb2.size;clear hvb hb2)
 have z3:=(H2.out.2.cell (p:=(jA c 3)) kl1).trans q3;have z4:=(H2.out.2.cell (p:=(jA c 4)) kl1).trans q4;have x1:=(H2.out.2.cell (p:=(jA g (id*28+1))) hg1).trans y1;have x25:=(H2.out.2.cell (p:=(jA g (id*28+25))) hg1).trans y25;have x26:=(H2.out.2.cell (p:=(jA g (id*28+26))) hg1).trans y26;have xf:=(H2.out.2.frozen (p:=(jA c 4)) kl1).trans f4';clear q3 q4 y1 y25 y26 f4' k0 k1 k2
 go_loopg [8,9] m (fun gg s8 s9 wr=>∃k:Nat,s9=vj k/\gg+k=m/\Ca wr w2.heap.size s8 (rsL (st.order.take k) id sb ab)/\uj w2 wr)
 case atStart=>exact⟨0,rfl,by omega,bA _ _ _ _,aN _ _⟩
 case round=>
  rename World=>wr;obtain⟨k,rfl,hgk,hown,hbel⟩:=hrel;obtain⟨la,lc,hlf⟩:=Al hown;obtain⟨nL,hnL⟩:∃nL,(rsL (st.order.take k) id sb ab).length=nL:=⟨_,rfl⟩;rw[hnL]at hlf;subst hlf;have hsz:=hbel.size;have v3:=(hbel.cell (p:=(jA c 3)) (by show c<w2.heap.size;omega)).trans z3;have v4:=(hbel.cell (p:=(jA c 4)) (by show c<w2.heap.size;omega)).trans z4;have v1:=(hbel.cell (p:=(jA g (id*28+1))) (by show g<w2.heap.size;omega)).trans x1;have v25:=(hbel.cell (p:=(jA g (id*28+25))) (by show g<w2.heap.size;omega)).trans x25;have v26:=(hbel.cell (p:=(jA g (id*28+26))) (by show g<w2.heap.size;omega)).trans x26;have vf:=(hbel.frozen (p:=(jA c 4)) (by show c<w2.heap.size;omega)).trans xf;have HO:=Aa (aK hown (aK hbel hnL));cases gk with
  |zero=>
   have hlt:¬(k:Int)<(m:Int):=by omega
   have hfull:st.order.take k=st.order:=bw (by have:=HK.out.2.2.2.1;omega);rw[hfull]at hown;obtain⟨R3,O3,P3⟩:=HStk.out wr _ w2.heap.size ((H2.out.2.mono (by omega)).trans (hbel.mono (by omega))) (by omega) hown;have hc3:∀(u:Value),(wr.setCell (jA c 4) u).cell? (jA g (id*28+1))=some (vj P):=fun u=>(aV (aL wr (jA c 4) g u (fun e=>hne e.symm))).trans v1;have hsz3:∀(u:Value),(wr.setCell (jA c 4) u).heap.size=wr.heap.size:=fun u=>by simp
   have hvb3:∀(u:Value),Ca (wr.setCell (jA c 4) u) w1.heap.size vb (st.kids P):=fun u=>by
    have h8:=H2.out.1;rw[HKd.out]at h8;refine Ai h8 fun b hb=>?_;have h9:=h8.lt b hb;rw[aL wr (jA c 4) b u (show b≠c by omega)];exact hbel.block b h9.2
   have h31:=hc3 (.slice la nL lc);have hs31:=hsz3 (.slice la nL lc);have hv31:=hvb3 (.slice la nL lc);clear hc3 hsz3 hvb3 hown hbel hnL;have H3:=Aa (aK R3 (aK O3 (aK hv31 P3)));clear R3 O3 hv31 P3
   go_upto_region 20 with fail
   generalize wr.setCell (jA c 4) (.slice la nL lc)=w3 at*
   go_wp2_with(go_at_call 179;refine(IC HK.out.2.1 P _ H3.out.1).mono ?_;rintro e w4 ⟨va,rfl,hva,hb4⟩;have H4:=Aa (aK hva hb4);have hs4:=hb4.size;clear hva hb4)
   obtain⟨nK,hnK⟩:∃nK,(st.kids P).length=nK:=⟨_,rfl⟩;obtain⟨ba,bc,hbf⟩:=Al H3.out.2.2.1;obtain⟨aa,ac,haf⟩:=Al H4.out.1;rw[HK.out.2.2.2.2.2,hnK]at haf;rw[hnK]at hbf hKl;have HV:=Aa (aK hbf (aK haf hnK));subst hbf haf;clear hnK;go_wp2
   go_loopg [12] nK (fun gg s12 wq=>∃i:Nat,s12=vj i/\gg+i=nK/\(∃nq,wq=w4.drewN nq)/\Hid (∀j,j<i->(st.kids P)[j]?=((stk st id).kids P)[j]?))
   case atStart=>exact⟨0,rfl,by omega,⟨0,rfl⟩,fun j hj=>by omega⟩
   case round=>
    obtain⟨i,rfl,hgi,⟨n0,rfl⟩,HSm⟩:=hrel;have HFin:Hid (∀(b:Bool) (W:World),uj w4 W->b=(!decide ((stk st id).kids P=st.kids P))->Ff S c bv st id w (.returned (.bool b)) W):=fun b W hW hbe=>by
     refine⟨b,rfl,?_,(H3.out.2.1.after H4.out.2).after hW,fun x cx tx htx hx=>?_,by rw[HPP.out];exact hbe⟩
     rotate_left
     ·have hxl:=(aM.1 hx).1;have h7:w.heap.size<=w3.heap.size:=by omega
      rw[hW.block x (by omega),H4.out.2.block x (by omega),H3.out.2.2.2 x cx tx htx hx]
     refine((H3.out.1.keep (w':=W) fun g _ hg=>(hW.block g (by omega)).trans (H4.out.2.block g hg))).mono fun g hg=>?_;have h8:=hW.size;rcases hg with hg|hg
     ·exact .inl hg
     ·exact .inr ⟨hg.1,by omega⟩
    cases gk with
    |zero=>
     have hlti:¬(i:Int)<(nK:Int):=by omega
     go_wp2;go_ret;refine HFin.out false _ (cS (aN _ _) _) ?_;have hke:(stk st id).kids P=st.kids P:=by
      refine List.ext_getElem? fun j=>?_;by_cases hj:j<i
      ·exact(HSm.out j hj).symm
      ·have l1:=HK.out.2.2.2.2.2;have l2:=HV.out.2.2;rw[cD (by omega),cD (by omega)]
     rw[hke];simp
    |succ gi=>
     have hlti:(i:Int)<(nK:Int):=by omega
     have hin2:i<nK:=by omega
     have hiK:i<(st.kids P).length:=by rw[HV.out.2.2];exact hin2
     have hiA:i<((stk st id).kids P).length:=by rw[HK.out.2.2.2.2.2];exact hiK
     have hbo:=Ai H3.out.2.2.1 (w':=w4) fun b hb=>H4.out.2.block b (H3.out.2.2.1.lt b hb).2;have hbp:0<(st.kids P).length:=by omega
     have hap:0<((stk st id).kids P).length:=by omega
     obtain⟨bg,bcc,hbe,_,_⟩:=hbo.form hbp;obtain⟨ag,acc,hae,_,_⟩:=H4.out.1.form hap;have bcs:=hbo.cells (g:=bg) (by rw[hbe];rfl) i (vj ((st.kids P)[i]:Int)) (by rw[bZ,aU hiK];rfl);have acs:=H4.out.1.cells (g:=ag) (by rw[hae];rfl) i (vj (((stk st id).kids P)[i]:Int)) (by rw[bZ,aU hiA];rfl);have bcap:=A7 (by rw[hbe]at hbo;exact hbo);have acap:=A7 (by have h9:=H4.out.1;unfold Ca at h9;rw[hae]at h9;exact h9);rw[Bn]at bcs acs;injection hbe with b1 b2 b3;injection hae with a1 a2 a3;subst b1 b3 a1 a3;have hib:i<bc:=by omega
     have hia:i<ac:=by omega
     have HSi:Hid ((st.kids P)[i]?=some ((st.kids P)[i])/\((stk st id).kids P)[i]?=some (((stk st id).kids P)[i])):=⟨aU hiK,aU hiA⟩;generalize (st.kids P)[i]=kb at*;generalize ((stk st id).kids P)[i]=ka at*;have hi0:(0:Int)<=(i:Int):=by omega
     clear hbo bcap acap b2 a2 hiK hiA hbp hap;by_cases hkk:(kb:Int)=(ka:Int)
     ·rw[hkk]at bcs
      go_upto_region 24 with fail
      go_quiet (fail)
      go_wp2
      go_roundg gi
      case measure=>omega
      case rel=>
       refine⟨i+1,by go_num,by omega,⟨_,rfl⟩,fun j hj=>?_⟩;by_cases e:j=i
       ·subst e;rw[HSi.out.1,HSi.out.2];congr 1
        omega
       ·exact HSm.out j (by omega)
     ·go_upto_region 24 with fail
      go_quiet (fail)
      go_wp2;go_ret;refine HFin.out true _ (cS (cS (aN _ _) _) _) ?_;have hke:¬(stk st id).kids P=st.kids P:=fun e=>by
       have h1:=HSi.out.1;rw[<-e,HSi.out.2]at h1;injection h1 with h1;omega
      simp[hke]
  |succ gk=>
   have hlt:(k:Int)<(m:Int):=by omega
   have hkL:k<st.order.length:=by have:=HK.out.2.2.2.1;omega
   obtain⟨og,oc,eo,_,hoc,ogl,ocs⟩:=HW.out.1.ordAt (by omega);rw[HK.out.2.2.2.1]at hoc;injection eo with eo1 eo2 eo3;subst eo1 eo3;have co:=(hbel.cell (p:=(jA og k)) (by show og<w2.heap.size;omega)).trans ((H2.out.2.cell (p:=(jA og k)) ogl).trans (ocs k hkL));obtain⟨j,hj⟩:∃j,st.order[k]=j:=⟨_,rfl⟩;rw[hj]at co;have HN:=Aa (U8 hkL id sb ab);rw[hj]at HN;have hkc:k<ocap:=by omega
   have hnL24:nL<=24:=by
    have h1:=WL id sb ab (st.order.take k);rw[bR,hnL]at h1;have h2:=HK.out.2.2.2.1;omega
   have HNL:Hid ((rsL (st.order.take k) id sb ab).length=nL):=hnL;clear hown hbel ocs eo2 hkL hj hnL;by_cases hji:j=id
   ·subst hji;have hjs:¬(j:Int)=(sb:Int):=by omega
    go_wp2_with fail
    go_roundg gk
    case measure=>omega
    case rel=>
     refine⟨k+1,by go_num,by omega,?_,HO.out.2.1⟩;have e9:rsL (st.order.take (k+1)) j sb ab=rsL (st.order.take k) j sb ab:=by
      rw[HN.out];have:¬j=sb:=by omega
      simp[this]
     rw[e9];exact HO.out.1
   ·have hjI:¬(j:Int)=(id:Int):=by omega
    by_cases hjs:j=sb
    ·subst hjs;cases ab with
     |false=>
      go_wp2_with(first
       |(at_builtin;refine Cb rfl (.tmp 75) (.tmp 77) rfl w2.heap.size _ _ rfl (HO.out.1.alloc _) wr.heap.size id rfl (aR wr _) (by rw[HNL.out];omega) (by simp;omega) ?_;intro v5 w5 ho5 hg5;have HB5:=Aa ((HO.out.2.1.alloc hsz _).grown hg5 (by simp;omega) (fun k hk=>(HO.out.1.lt k hk).1));have H5:=Aa ho5;have hs5:w2.heap.size<=w5.heap.size:=HB5.out.size;have t1:=(HB5.out.cell (p:=(jA g (id*28+25))) (by show g<w2.heap.size;omega)).trans x25;clear ho5 hg5)
       |(at_builtin;refine Cb rfl (.tmp 82) (.tmp 84) rfl w2.heap.size _ _ rfl (H5.out.alloc _) w5.heap.size j rfl (aR w5 _) (by rw[aY,HNL.out];simp;omega) (by simp;omega) ?_;intro v6 w6 ho6 hg6;have HB6:=Aa ((HB5.out.alloc hs5 _).grown hg6 (by simp;omega) (fun k hk=>(H5.out.lt k hk).1));have H6:=Aa ho6;have u1:=(HB6.out.cell (p:=(jA g (id*28+25))) (by show g<w2.heap.size;omega)).trans x25;have u2:=(HB6.out.cell (p:=(jA g (id*28+26))) (by show g<w2.heap.size;omega)).trans x26;clear ho6 hg6))
      go_roundg gk
      case measure=>omega
      case rel=>
       refine⟨k+1,by go_num,by omega,?_,HB6.out⟩;have e9:rsL (st.order.take (k+1)) id j false=rsL (st.order.take k) id j false++[id]++[j]:=by
        rw[HN.out];simp[hji]
       rw[e9];exact H6.out
     |true=>
      go_wp2_with(first
       |(at_builtin;refine Cb rfl (.tmp 82) (.tmp 84) rfl w2.heap.size _ _ rfl (HO.out.1.alloc _) wr.heap.size j rfl (aR wr _) (by rw[HNL.out];omega) (by simp;omega) ?_;intro v5 w5 ho5 hg5;have HB5:=Aa ((HO.out.2.1.alloc hsz _).grown hg5 (by simp;omega) (fun k hk=>(HO.out.1.lt k hk).1));have H5:=Aa ho5;have hs5:w2.heap.size<=w5.heap.size:=HB5.out.size;have t1:=(HB5.out.cell (p:=(jA g (id*28+25))) (by show g<w2.heap.size;omega)).trans x25;have t2:=(HB5.out.cell (p:=(jA g (id*28+26))) (by show g<w2.heap.size;omega)).trans x26;clear ho5 hg5)
       |(at_builtin;refine Cb rfl (.tmp 98) (.tmp 100) rfl w2.heap.size _ _ rfl (H5.out.alloc _) w5.heap.size id rfl (aR w5 _) (by rw[aY,HNL.out];simp;omega) (by simp;omega) ?_;intro v6 w6 ho6 hg6;have HB6:=Aa ((HB5.out.alloc hs5 _).grown hg6 (by simp;omega) (fun k hk=>(H5.out.lt k hk).1));have H6:=Aa ho6;clear ho6 hg6))
      go_roundg gk
      case measure=>omega
      case rel=>
       refine⟨k+1,by go_num,by omega,?_,HB6.out⟩;have e9:rsL (st.order.take (k+1)) id j true=rsL (st.order.take k) id j true++[j]++[id]:=by
        rw[HN.out];simp[hji]
       rw[e9];exact H6.out
    ·have hjsI:¬(j:Int)=(sb:Int):=by omega
     go_wp2_with(at_builtin;refine Cb rfl (.tmp 82) (.tmp 84) rfl w2.heap.size _ _ rfl (HO.out.1.alloc _) wr.heap.size j rfl (aR wr _) (by rw[HNL.out];omega) (by simp;omega) ?_;intro v5 w5 ho5 hg5;have HB5:=Aa ((HO.out.2.1.alloc hsz _).grown hg5 (by simp;omega) (fun k hk=>(HO.out.1.lt k hk).1));have H5:=Aa ho5;have t1:=(HB5.out.cell (p:=(jA g (id*28+25))) (by show g<w2.heap.size;omega)).trans x25;clear ho5 hg5)
     go_roundg gk
     case measure=>omega
     case rel=>
      refine⟨k+1,by go_num,by omega,?_,HB5.out⟩;have e9:rsL (st.order.take (k+1)) id sb ab=rsL (st.order.take k) id sb ab++[j]:=by
       rw[HN.out];simp[hji,hjs]
      rw[e9];exact H5.out
def Br(S:Nat->Prop)(c:Nat)(bv:Value)(p:Int×St)(w:World)(e:Ending)(w':World):Prop:=e=.returned (vj p.1)/\Aw w' (AA S w w') c p.2 bv/\Ac S w w'
theorem Br.same{er:Int}(h:Aw w S c st bv)(hb:uj w w'):Br S c bv (er,st) w (.returned (vj er)) w':=
 ⟨rfl,(h.keep fun g _ hg=>hb.block g hg).mono fun _ hg=>AI hg,Ac.below hb⟩
theorem Aw.of_upd{S':Nat->Prop}{sv ov:Value}{F F':Nat->Nat->Value}{i:Nat}{gf:Sf->Sf}(hr:B3 w' S' c st.w st.h st.sfs.length st.order bv sv ov F')(hi:i<st.sfs.length)(hs:C9 w S st F)(hF:∀j,j≠i->F' j=F j)
  (hS:∀g,S g->S' g) (hpk:∀(b:Nat) (cur:Array Value) (t:TypeId),Jj t->w.heap[b]?=some (.cells cur t (0,0))->w'.heap[b]?=w.heap[b]?) (hc:Kt (F' i) (gf (st.sf i))) (hD:CD w' S' (F' i) (gf (st.sf i))):Aw w' S' c (upd st i gf) bv:=by
 refine⟨sv,ov,F',by have h9:=hr;rw[<-Ct st i gf]at h9;exact h9,fun j hj=>?_,fun j hj=>?_⟩
 ·rw[Ct]at hj;rw[Bf st i gf j hi];by_cases e:j=i
  ·subst e;rw[if_pos rfl];exact hc
  ·rw[if_neg e,hF j e];exact hs.rel j hj
 ·rw[Ct]at hj;rw[Bf st i gf j hi];by_cases e:j=i
  ·subst e;rw[if_pos rfl];exact hD
  ·rw[if_neg e,hF j e];exact((hs.dat j hj).mono hS).other hpk
theorem BB{g j:Nat}{u:Value}{cur:Array Value}(hg:w.heap[g]?=some (.cells cur 214 (0,0)))(h:∀(b:Nat) (c:Array Value) (t:TypeId),Jj t->w.heap[b]?=some (.cells c t (0,0))->w'.heap[b]?=w.heap[b]?):∀(b:Nat) (c:Array Value) (t:TypeId),Jj t->w.heap[b]?=some (.cells c t (0,0))->(w'.setCell (jA g j) u).heap[b]?=w.heap[b]? :=fun b c t ht hb=>by
 rw[aL w' (jA g j) b u (Aj hb hg (Du ht).1)];exact h b c t ht hb
theorem Md(hw:Wf st)(id x y:Int)(w:World)(h:Aw w S c st bv):
  Calls prog 144 #[pj c,vj id,vj x,vj y] w (Br S c bv (Bp st id x y) w):=by
 have hIs:=D6 (S:=S) (c:=c) (st:=st) (bv:=bv) id w h hw.made;have hB:=AV hw id;have HE6:=Aa (Br.same (er:=6) h (aN _ _));have HE7:=Aa (Br.same (er:=7) h (aN _ _));unfold Bp;obtain⟨t,ht⟩:∃t,st.isB id=t:=⟨_,rfl⟩;rw[ht]at hIs hB ⊢;cases t with
 |false=>
  rw[if_neg (by simp)];clear hB h;go_enter func144,ntmps144
  go_wp2_with(go_at_call 127;refine hIs.mono ?_;rintro e w' ⟨rfl,hw'⟩;replace hw':=hw'.symm;subst hw')
  go_ret;exact HE6.out
 |true=>
  rw[if_pos rfl];obtain⟨i,rfl,hio⟩:=hB.1 rfl;have hil:=hw.lt hio;rw[aX];obtain⟨sv,ov,F,hr,hs⟩:=h;obtain⟨k0,k1,k2,k3,k4,kf,kl⟩:=hr.cells;obtain⟨g,cap,e1,e2,e3,e4,e5,e6⟩:=hr.at (by omega);subst e1;have c16:=e5 i hil 16 (by omega);have c17:=e5 i hil 17 (by omega);have f16:=e6 (i*28+16);have f17:=e6 (i*28+17);obtain⟨_,cur,hcur⟩:=hr.gType;have hne:¬c=g:=Aj hr.scr hcur (by decide);have hne2:g≠c:=fun e=>hne e.symm;have HOk:Hid (-1000<=x/\x<=1000/\-1000<=y/\y<=1000->Br S c bv (0,upd st i (Hi x y)) w (.returned (vj 0)) ((w.setCell (jA g (i*28+16)) (vj x)).setCell (jA g (i*28+17)) (vj y))):=fun _=>by
   have hr2:=(hr.set hil (show 16<28 by omega) (vj x)).set hil (show 17<28 by omega) (vj y);have hpk:=BB (j:=i*28+17) (u:=vj y) hcur (BB (j:=i*28+16) (u:=vj x) hcur (w':=w) fun _ _ _ _ _=>rfl);have q:=hs.rel i hil;refine⟨rfl,Aw.mono (Aw.of_upd hr2 hil hs (fun j hj=>by rw[D7 _ _ _ _ hj,D7 _ _ _ _ hj]) (fun _ h=>h) hpk ?_ ?_) (fun _ h=>AI h),((Ac.refl S w).set (.inl e2) _).set (.inl e2) _⟩
   ·simp only[Bx];exact⟨q.alive,q.parent,q.nw,q.nh,q.nx,q.ny,q.ncut,q.n0,q.n1,q.n2,q.n3,q.nhint,q.xw,q.xh,rfl,rfl,q.xcut,q.x0,q.x1,q.x2,q.x3,q.xhint,q.ask,q.sib,q.above,q.kept⟩
   ·simp only[Bx];exact((hs.dat i hil).other hpk).turn rfl rfl rfl rfl rfl ⟨rfl,rfl,rfl,rfl⟩ ⟨rfl,rfl,rfl,rfl⟩ rfl
  obtain⟨n,hn⟩:∃n,st.sfs.length=n:=⟨_,rfl⟩;have hmd:=hw.made;rw[hn]at k3 e3 hmd;have hin:i<n:=by omega
  have hcap:i<cap:=by omega
  have HIf:Hid (∀(P:Ending->World->Prop) (Q:Int×St->Prop),True):=fun _ _=>trivial;have HPost:Hid (∀e w',(-1000<=x/\x<=1000/\-1000<=y/\y<=1000->Br S c bv (0,upd st i (Hi x y)) w e w')->(¬(-1000<=x/\x<=1000/\-1000<=y/\y<=1000)->Br S c bv (7,st) w e w')->Br S c bv (if-1000<=x/\x<=1000/\-1000<=y/\y<=1000 then(0,upd st i (Hi x y))else(7,st)) w e w'):=fun e w' h1 h2=>by
   split
   ·rename_i h;exact h1 h
   ·rename_i h;exact h2 h
  obtain⟨post,hpost⟩:∃P,P=Br S c bv (if-1000<=x/\x<=1000/\-1000<=y/\y<=1000 then(0,upd st i (Hi x y))else(7,st)) w:=⟨_,rfl⟩;rw[<-hpost]at HPost ⊢;clear hr hs kf hn e5 e6 hcur hil hB HIf hpost HE6;go_enter func144,ntmps144
  go_wp2_with(go_at_call 127;refine hIs.mono ?_;rintro e w' ⟨rfl,hw'⟩;replace hw':=hw'.symm;subst hw')
  all_goals
   try go_ret
   refine HPost.out _ _ (fun hyes=>?_) (fun hno=>?_)
   ·first
     |exact HOk.out hyes
     |(exfalso;omega)
   ·first
     |exact HE7.out
     |(exfalso;omega)
theorem Aw.clip{w2:World}{ov:Value}{F:Nat->Nat->Value}{g cap i:Nat}(hb:uj w w2)(hr:B3 w2 S c st.w st.h st.sfs.length st.order bv (sj g st.sfs.length cap) ov F)(hs:C9 w2 S st F)(hi:i<st.sfs.length)(t:Bool)(a0 a1 a2 a3:Int)(gf:Sf->Sf)(hg:gf (st.sf i)= {st.sf i with next:={ (st.sf i).next with cut:=t,clip:=(a0,a1,a2,a3) } }):
  Br S c bv (0,upd st i gf) w (.returned (vj 0)) (((((w2.setCell (jA g (i*28+18)) (.bool t)).setCell (jA g (i*28+19)) (vj a0)).setCell (jA g (i*28+20)) (vj a1)).setCell (jA g (i*28+21)) (vj a2)).setCell (jA g (i*28+22)) (vj a3)):=by
 obtain⟨e2,cur,hcur⟩:=hr.gType;have hr2:=((((hr.set hi (show 18<28 by omega) (.bool t)).set hi (show 19<28 by omega) (vj a0)).set hi (show 20<28 by omega) (vj a1)).set hi (show 21<28 by omega) (vj a2)).set hi (show 22<28 by omega) (vj a3);have hpk:=BB (j:=i*28+22) (u:=vj a3) hcur (BB (j:=i*28+21) (u:=vj a2) hcur (BB (j:=i*28+20) (u:=vj a1) hcur (BB (j:=i*28+19) (u:=vj a0) hcur (BB (j:=i*28+18) (u:=.bool t) hcur (w':=w2) fun _ _ _ _ _=>rfl))));have q:=hs.rel i hi;refine⟨rfl,Aw.mono (Aw.of_upd hr2 hi hs (fun j hj=>by simp only[D7 _ _ _ _ hj]) (fun _ h=>h) hpk ?_ ?_) (fun _ h=>AI h),?_⟩
 ·rw[hg];simp only[Bx];exact⟨q.alive,q.parent,q.nw,q.nh,q.nx,q.ny,q.ncut,q.n0,q.n1,q.n2,q.n3,q.nhint,q.xw,q.xh,q.xx,q.xy,rfl,rfl,rfl,rfl,rfl,q.xhint,q.ask,q.sib,q.above,q.kept⟩
 ·rw[hg];simp only[Bx];exact((hs.dat i hi).other hpk).turn rfl rfl rfl rfl rfl ⟨rfl,rfl,rfl,rfl⟩ ⟨rfl,rfl,rfl,rfl⟩ rfl
 ·have h0:Ac S w w2:=Ac.below hb;exact((((h0.set (.inl e2) _).set (.inl e2) _).set (.inl e2) _).set (.inl e2) _).set (.inl e2) _
theorem Br.drew{p:Int×St}{w':World}{e:Ending}(h:Br S c bv p w e w'):Br S c bv p w e w'.drew:=⟨h.1,h.2.1.keep fun _ _ _=>rfl,h.2.2.drew⟩
theorem Me(hw:Wf st)(id:Int)(w:World)(h:Aw w S c st bv):
  Calls prog 146 #[pj c,vj id] w (Br S c bv (BU st id) w):=by
 have hIs:=D6 (S:=S) (c:=c) (st:=st) (bv:=bv) id w h hw.made;have hB:=AV hw id;have HE6:=Aa (Br.same (er:=6) h (aN _ _));unfold BU;obtain⟨t,ht⟩:∃t,st.isB id=t:=⟨_,rfl⟩;rw[ht]at hIs hB ⊢;cases t with
 |false=>
  rw[if_neg (by simp)];clear hB h;go_enter func146,ntmps146
  go_wp2_with(go_at_call 127;refine hIs.mono ?_;rintro e w' ⟨rfl,hw'⟩;replace hw':=hw'.symm;subst hw')
  go_ret;exact HE6.out
 |true=>
  rw[if_pos rfl];obtain⟨i,rfl,hio⟩:=hB.1 rfl;have hil:=hw.lt hio;rw[aX];obtain⟨sv,ov,F,hr,hs⟩:=h;obtain⟨k0,k1,k2,k3,k4,kf,kl⟩:=hr.cells;obtain⟨g,cap,e1,e2,e3,e4,e5,e6⟩:=hr.at (by omega);subst e1;have c18:=e5 i hil 18 (by omega);have c19:=e5 i hil 19 (by omega);have c20:=e5 i hil 20 (by omega);have c21:=e5 i hil 21 (by omega);have c22:=e5 i hil 22 (by omega);have f18:=e6 (i*28+18);have f19:=e6 (i*28+19);have f20:=e6 (i*28+20);have f21:=e6 (i*28+21);have f22:=e6 (i*28+22);obtain⟨_,cur,hcur⟩:=hr.gType;have hne:¬c=g:=Aj hr.scr hcur (by decide);have hne2:g≠c:=fun e=>hne e.symm;have HOk:=Aa (Aw.clip (aN _ _) hr hs hil false 0 0 0 0 Fh rfl);obtain⟨n,hn⟩:∃n,st.sfs.length=n:=⟨_,rfl⟩;have hmd:=hw.made;rw[hn]at k3 e3 hmd;have hin:i<n:=by omega
  have hcap:i<cap:=by omega
  clear hr hs kf hn e5 e6 hcur hil hB HE6;go_enter func146,ntmps146
  go_wp2_with(go_at_call 127;refine hIs.mono ?_;rintro e w' ⟨rfl,hw'⟩;replace hw':=hw'.symm;subst hw')
  go_ret;exact HOk.out
theorem P5(hw:Wf st)(id a0 a1 a2 a3:Int)(w:World)(h:Aw w S c st bv):
  Calls prog 145 #[pj c,vj id,.agg #[vj a0,vj a1,vj a2,vj a3]] w (Br S c bv (Dj st id (a0,a1,a2,a3) (AU (a0,a1,a2,a3))) w):=by
 have hb0:=fun o=>al1 (aO w.heap.size) o;have HIs:=Aa (fun W (hW:uj w W)=>D6 (S:=S) (c:=c) (st:=st) (bv:=bv) id W (h.keep fun g _ hg=>hW.block g hg) hw.made);have hB:=AV hw id;have HE:=Aa (fun er W (hW:uj w W)=>Br.same (er:=er) h hW);have HFt:=Aa (fun W=>JR a0 a1 a2 a3 W);unfold Dj;obtain⟨t,ht⟩:∃t,st.isB id=t:=⟨_,rfl⟩;obtain⟨ft,hft⟩:∃t,AU (a0,a1,a2,a3)=t:=⟨_,rfl⟩;rw[ht]at HIs hB ⊢;rw[hft]at HFt ⊢;clear ht hft;cases t with
 |false=>
  rw[if_neg (by simp)];clear hB h;go_enter func145,ntmps145
  go_wp2_with(go_at_call 127;refine(HIs.out _ (hb0 _)).mono ?_;rintro e w' ⟨rfl,hw'⟩;replace hw':=hw'.symm;subst hw')
  go_ret;exact HE.out 6 _ (hb0 _)
 |true=>
  rw[if_pos rfl];obtain⟨i,rfl,hio⟩:=hB.1 rfl;have hil:=hw.lt hio;rw[aX];cases ft with
  |false=>
   rw[if_neg (by simp)];clear hB h hil hio;go_enter func145,ntmps145
   go_wp2_with(first
    |(go_at_call 127;refine(HIs.out _ (hb0 _)).mono ?_;rintro e w' ⟨rfl,hw'⟩;replace hw':=hw'.symm;subst hw')
    |(go_at_call 174;refine(HFt.out _).mono ?_;rintro e w2 ⟨rfl,hb2⟩;have HB2:=Aa ((hb0 _).trans (hb2.mono (by simp)));clear hb2))
   go_ret;exact HE.out 3 _ HB2.out
  |true=>
   rw[if_pos rfl];obtain⟨sv,ov,F,hr,hs⟩:=h;obtain⟨g,cap,e1,e2,e3,e4,e5,e6⟩:=hr.at (by omega);subst e1;obtain⟨_,cur,hcur⟩:=hr.gType;have hne:¬c=g:=Aj hr.scr hcur (by decide);have hne2:g≠c:=fun e=>hne e.symm;have hcl:=(aM.1 hr.scr).1;have HOk:Hid (∀w2,uj w w2->Br S c bv (0,upd st i (Jm (a0,a1,a2,a3))) w (.returned (vj 0)) (((((w2.setCell (jA g (i*28+18)) (.bool true)).setCell (jA g (i*28+19)) (vj a0)).setCell (jA g (i*28+20)) (vj a1)).setCell (jA g (i*28+21)) (vj a2)).setCell (jA g (i*28+22)) (vj a3))):=fun w2 hb=>Aw.clip hb (hr.below hb) (hs.below hb) hil true a0 a1 a2 a3 (Jm (a0,a1,a2,a3)) rfl;obtain⟨n,hn⟩:∃n,st.sfs.length=n:=⟨_,rfl⟩;have hmd:=hw.made;have HC:Hid (∀W,uj w W->W.cell? (jA c 3)=some (sj g n cap)/\(∀o,o<28->W.cell? (jA g (i*28+o))=some (F i o))/\∀j,W.frozen? (jA g j)=false):=fun W hW=>by
    have r2:=hr.below hW;obtain⟨k0,k1,k2,k3,k4,kf,kl⟩:=r2.cells;obtain⟨g',cap',q1,q2,q3,q4,q5,q6⟩:=r2.at (by omega);injection q1 with q11 q12 q13;injection q11 with q11;injection q11 with q11;subst q11;rw[hn]at k3;exact⟨k3,fun o ho=>q5 i hil o ho,q6⟩
   rw[hn]at e3 hmd;have hin:i<n:=by omega
   have hcap:i<cap:=by omega
   clear hr hs hn e5 e6 hcur hil hB HE;go_enter func145,ntmps145
   go_upto_region 7 with(first
    |(go_at_call 127;refine(HIs.out _ (hb0 _)).mono ?_;rintro e w' ⟨rfl,hw'⟩;replace hw':=hw'.symm;subst hw')
    |(go_at_call 174;refine(HFt.out _).mono ?_;rintro e w2 ⟨rfl,hb2⟩;have HR2:=Aa (hb2.block w.heap.size (by simp));have HB2:=Aa ((hb0 _).trans (hb2.mono (by simp)));have hs2:=hb2.size;clear hb2))
   obtain⟨k3,kc,kf⟩:=HC.out w2 HB2.out;have c18:=kc 18 (by omega);have c19:=kc 19 (by omega);have c20:=kc 20 (by omega);have c21:=kc 21 (by omega);have c22:=kc 22 (by omega);have f18:=kf (i*28+18);have f19:=kf (i*28+19);have f20:=kf (i*28+20);have f21:=kf (i*28+21);have f22:=kf (i*28+22);have hbr:Blk w2 w.heap.size 53 #[vj a0,vj a1,vj a2,vj a3]:=HR2.out.trans (aR w _);have r0:w2.cell? (jA w.heap.size 0)=some (vj a0):=hbr.cell 0;have r1:w2.cell? (jA w.heap.size 1)=some (vj a1):=hbr.cell 1;have r2:w2.cell? (jA w.heap.size 2)=some (vj a2):=hbr.cell 2;have r3:w2.cell? (jA w.heap.size 3)=some (vj a3):=hbr.cell 3;have hgr:g≠w.heap.size:=by omega
   have hgr2:¬w.heap.size=g:=by omega
   clear kc kf hbr
   go_upto_region 8 with fail
   go_region
   all_goals
    go_wp2;go_ret;exact(HOk.out w2 HB2.out).drew
theorem Br.drewN{p:Int×St}{w w':World}{e:Ending}(h:Br S c bv p w e w')(n:Nat):Br S c bv p w e (w'.drewN n):=⟨h.1,h.2.1.keep fun _ _ _=>rfl,h.2.2.drewN n⟩
theorem Od{st:St}(hw:Wf st)(id sb:Int)(ab:Bool)(w:World)(h:Aw w S c st bv):
  Calls prog 148 #[pj c,vj id,vj sb,.bool ab] w (Br S c bv (Cw st id sb ab) w):=by
 have hI1:=D6 (S:=S) (c:=c) (st:=st) (bv:=bv) id w h hw.made;have hI2:=D6 (S:=S) (c:=c) (st:=st) (bv:=bv) sb w h hw.made;have hB1:=AV hw id;have hB2:=AV hw sb;have HE:=Aa (fun er W (hW:uj w W)=>Br.same (er:=er) h hW);unfold Cw;obtain⟨t1,ht1⟩:∃t,st.isB id=t:=⟨_,rfl⟩;obtain⟨t2,ht2⟩:∃t,st.isB sb=t:=⟨_,rfl⟩;rw[ht1]at hI1 hB1 ⊢;rw[ht2]at hI2 hB2 ⊢;have htt:id=sb->t1=t2:=fun e=>by rw[<-ht1,<-ht2,e]
 clear ht1 ht2;by_cases hbo:t1=true/\t2=true
 ·rw[if_pos hbo];obtain⟨rfl,rfl⟩:=hbo;obtain⟨i,rfl,hio⟩:=hB1.1 rfl;obtain⟨s,rfl,hso⟩:=hB2.1 rfl;have hil:=hw.lt hio;have hsl:=hw.lt hso;rw[aX,aX];obtain⟨sv,ov,F,hr,hs⟩:=h;obtain⟨k0,k1,k2,k3,k4,kf,kl⟩:=hr.cells;obtain⟨g,cap,e1,e2,e3,e4,e5,e6⟩:=hr.at (by omega);subst e1;have c1:=e5 i hil 1 (by omega);have d1:=e5 s hsl 1 (by omega);rw[(hs.rel i hil).parent]at c1;rw[(hs.rel s hsl).parent]at d1;have c24:=e5 i hil 24 (by omega);have c25:=e5 i hil 25 (by omega);have c26:=e5 i hil 26 (by omega);have f24:=e6 (i*28+24);have f25:=e6 (i*28+25);have f26:=e6 (i*28+26);obtain⟨_,cur,hcur⟩:=hr.gType;have hne:¬c=g:=Aj hr.scr hcur (by decide);have hne2:g≠c:=fun e=>hne e.symm;have HOk:Hid (∀n:Nat,Br S c bv (0,upd st i (GU s ab)) w (.returned (vj 0)) ((((w.drewN n).setCell (jA g (i*28+24)) (.bool true)).setCell (jA g (i*28+25)) (vj s)).setCell (jA g (i*28+26)) (.bool ab))):=fun n=>by
   have hb:uj w (w.drewN n):=cS (aN _ _) n;have hr':=hr.below hb;have hs':=hs.below hb;have hcur':(w.drewN n).heap[g]?=some (.cells cur 214 (0,0)):=hcur;have hr2:=((hr'.set hil (show 24<28 by omega) (.bool true)).set hil (show 25<28 by omega) (vj s)).set hil (show 26<28 by omega) (.bool ab);have hpk:=BB (j:=i*28+26) (u:=.bool ab) hcur' (BB (j:=i*28+25) (u:=vj s) hcur' (BB (j:=i*28+24) (u:=.bool true) hcur' (w':=w.drewN n) fun _ _ _ _ _=>rfl));have q:=hs'.rel i hil;refine⟨rfl,Aw.mono (Aw.of_upd hr2 hil hs' (fun j hj=>by simp only[D7 _ _ _ _ hj]) (fun _ h=>h) hpk ?_ ?_) (fun _ h=>AI h),(((Ac.below hb).set (.inl e2) _).set (.inl e2) _).set (.inl e2) _⟩
   ·simp only[Bx];exact⟨q.alive,q.parent,q.nw,q.nh,q.nx,q.ny,q.ncut,q.n0,q.n1,q.n2,q.n3,q.nhint,q.xw,q.xh,q.xx,q.xy,q.xcut,q.x0,q.x1,q.x2,q.x3,q.xhint,rfl,rfl,rfl,q.kept⟩
   ·simp only[Bx];exact((hs'.dat i hil).other hpk).turn rfl rfl rfl rfl rfl ⟨rfl,rfl,rfl,rfl⟩ ⟨rfl,rfl,rfl,rfl⟩ rfl
  obtain⟨n,hn⟩:∃n,st.sfs.length=n:=⟨_,rfl⟩;have hmd:=hw.made;rw[hn]at k3 e3 hmd;have hin:i<n:=by omega
  have hsn:s<n:=by omega
  have hcap:i<cap:=by omega
  have hscap:s<cap:=by omega
  have hinI:(i:Int)<(n:Int):=by omega
  have hsnI:(s:Int)<(n:Int):=by omega
  have hi0:(0:Int)<=(i:Int):=by omega
  have hs0:(0:Int)<=(s:Int):=by omega
  have HI1:=Aa hI1;have HI2:=Aa hI2;clear hr hs kf hn e5 e6 hcur hil hsl hB1 hB2 hI1 hI2;by_cases his:(i:Int)=(s:Int)
  ·rw[if_neg (fun hh=>hh.1 his)];have hdec:decide ((i:Int)=(s:Int))=true:=by simpa using his
   have hbeq:((i:Int)==(s:Int))=true:=by simpa using his
   go_enter func148,ntmps148
   go_upto_region 5 with(first
    |(go_at_call_of 127 (vj (i:Int));refine HI1.out.mono ?_;rintro e w' ⟨rfl,hw'⟩;replace hw':=hw'.symm;subst hw')
    |(go_at_call 127;refine HI2.out.mono ?_;rintro e w' ⟨rfl,hw'⟩;replace hw':=hw'.symm;subst hw'))
   go_quiet (fail)
   go_wp2;go_ret;exact HE.out 8 _ (cS (aN _ _) _)
  ·have hdec:decide ((i:Int)=(s:Int))=false:=by simpa using his
   have hbeq:((i:Int)==(s:Int))=false:=by simpa using his
   by_cases hpp:(st.sf i).parent=(st.sf s).parent
   ·rw[if_pos ⟨his,hpp⟩];rw[<-hpp]at d1;generalize (st.sf i).parent=P at*;go_enter func148,ntmps148
    go_upto_region 5 with(first
     |(go_at_call_of 127 (vj (i:Int));refine HI1.out.mono ?_;rintro e w' ⟨rfl,hw'⟩;replace hw':=hw'.symm;subst hw')
     |(go_at_call 127;refine HI2.out.mono ?_;rintro e w' ⟨rfl,hw'⟩;replace hw':=hw'.symm;subst hw'))
    go_quiet (fail)
    go_wp2;go_ret;exact HOk.out _
   ·rw[if_neg (fun hh=>hpp hh.2)];generalize (st.sf i).parent=P at*;generalize (st.sf s).parent=Q at*;go_enter func148,ntmps148
    go_upto_region 5 with(first
     |(go_at_call_of 127 (vj (i:Int));refine HI1.out.mono ?_;rintro e w' ⟨rfl,hw'⟩;replace hw':=hw'.symm;subst hw')
     |(go_at_call 127;refine HI2.out.mono ?_;rintro e w' ⟨rfl,hw'⟩;replace hw':=hw'.symm;subst hw'))
    go_quiet (fail)
    go_wp2;go_ret;exact HE.out 8 _ (cS (aN _ _) _)
 ·rw[if_neg hbo];have HI1:=Aa hI1;have HI2:=Aa hI2;clear hB1 hB2 hI1 hI2 h;by_cases hii:id=sb
  ·have h2:=htt hii;subst hii;subst h2;cases t1<;>simp at hbo
   all_goals
    go_enter func148,ntmps148
    go_wp2_with(go_at_call 127;refine HI1.out.mono ?_;rintro e w' ⟨rfl,hw'⟩;replace hw':=hw'.symm;subst hw')
    go_ret;exact HE.out 6 _ (aN _ _)
  ·cases t1<;>cases t2<;>simp at hbo
   all_goals
    go_enter func148,ntmps148
    go_wp2_with(first
     |(go_at_call_of 127 (vj id);refine HI1.out.mono ?_;rintro e w' ⟨rfl,hw'⟩;replace hw':=hw'.symm;subst hw')
     |(go_at_call_of 127 (vj sb);refine HI2.out.mono ?_;rintro e w' ⟨rfl,hw'⟩;replace hw':=hw'.symm;subst hw'))
    go_ret;exact HE.out 6 _ (aN _ _)
variable{ov' sv':Value}{w2:World}
theorem Cx{ops:Array Oper}{rest:List Oper}{o:Oper}{a:Act}{Q:Exit->Act->World->Prop}(hgd:o.guard=none)(s x:Operand)
  (ho:o.op=.call {callee:=.builtin .append,args:=#[s,x],argTypes:=#[24,24] }) (base:Nat) (v:Value) (E:List Nat) (hs:a.eval s=v) (hown:Ca w base v E) (b j:Nat) (hx:a.eval x=sj b 1 1)
  (hb:w.heap[b]?=some (.cells #[vj (j:Int)] 3 (0,0))) (hl:E.length<=1000) (hbase:base<=w.heap.size)
  (h:∀v' w',Ca w' base v' (E++[j])->w.grownBy w' v.ownBlock->(v'.ownBlock=v.ownBlock\/v'.ownBlock=some w.heap.size)->wpList prog ops Q rest (a.put o.dst v') w'):wpList prog ops Q (o::rest) a w:=by
 obtain⟨i0,hi0,hz0,hz1,hz2⟩:=cW EJ;refine Am (P:=prog) hgd s x 24 ho base 3 i0 _ 1 8 underlying24 hi0 hz0 hz1 hz2 rfl (by decide) v E.length (E.map fun(i:Nat)=>vj (i:Int)) hs hown _ 1 [vj j] hx rfl (.inr ⟨_,_,rfl,bI (cs:=#[vj j]) (t:=3) (fr:=(0,0)) hb⟩) (by simp[Value.oneCell']) (by unfold maxLen;omega) (by omega) hbase ?_;intro v' w' h1 h2 _ h3;refine h v' w' ?_ h2 h3;unfold Ca;rw[aY,cL];exact h1
def VA(S:Nat->Prop)(c:Nat)(bv:Value)(p:Int×Int×St)(w:World)(e:Ending)(w':World):Prop:=e=.returned (.tuple #[vj p.1,vj p.2.1])/\Aw w' (AA S w w') c p.2.2 bv/\Ac S w w'
theorem BC{u:Option Nat}{T:TypeId}(hg:w.grownBy w2 u)(hu:∀g,u=some g->∃cur,w.heap[g]?=some (.cells cur T (0,0))):∀(t:TypeId),t≠T->∀(b:Nat) (cur:Array Value),w.heap[b]?=some (.cells cur t (0,0))->w2.heap[b]?=w.heap[b]? :=fun t ht b cur hb=>by
 refine hg.block b (aM.1 hb).1 fun e=>?_;obtain⟨c2,h2⟩:=hu b e.symm;exact Aj hb h2 ht rfl
theorem B3.newOrd{ord':List Nat}(h:B3 w S c W H n ord bv sv ov F)(hS:∀g,S g->S' g)(hk:∀(t:TypeId),t≠3->∀(b:Nat) (cur:Array Value),w.heap[b]?=some (.cells cur t (0,0))->w2.heap[b]?=w.heap[b]?)(ho:A4 w2 S' 3 1 ov' ord'.length (ord'.map fun(i:Nat)=>vj (i:Int))):B3 (w2.setCell (jA c 4) ov') S' c W H n ord' bv sv ov' F:=by
 obtain⟨h1,h2,⟨xs,h3,h4⟩,h5⟩:=h;have hc2:w2.heap[c]?=some (.cells #[vj W,vj H,bv,sv,ov] 202 (0,0)):=(hk _ (by decide) c _ h1).trans h1;have hk2:∀(T:TypeId),T≠202->∀(b:Nat) (cur:Array Value),w2.heap[b]?=some (.cells cur T (0,0))->(w2.setCell (jA c 4) ov').heap[b]?=w2.heap[b]? :=fun T hT b cur hb=>aL w2 (jA c 4) b ov' (Aj hb hc2 hT);refine⟨bH w2 c 4 _ _ ov' hc2,hS _ h2,⟨xs,((h3.mono hS).other (hk _ (by decide))).other (hk2 _ (by decide)),h4⟩,ho.other (hk2 _ (by decide))⟩
theorem B3.newSfs{n':Nat}{F':Nat->Nat->Value}(h:B3 w S c W H n ord bv sv ov F)(hS:∀g,S g->S' g)(hk:∀(t:TypeId),t≠214->∀(b:Nat) (cur:Array Value),w.heap[b]?=some (.cells cur t (0,0))->w2.heap[b]?=w.heap[b]?)(ho:∃xs,A4 w2 S' 214 28 sv' n' xs/\∀i,i<n'->∀o,o<28->xs[i*28+o]?=some (F' i o)):B3 (w2.setCell (jA c 3) sv') S' c W H n' ord bv sv' ov F':=by
 obtain⟨h1,h2,⟨xs,h3,h4⟩,h5⟩:=h;obtain⟨zs,z1,z2⟩:=ho;have hc2:w2.heap[c]?=some (.cells #[vj W,vj H,bv,sv,ov] 202 (0,0)):=(hk _ (by decide) c _ h1).trans h1;have hk2:∀(T:TypeId),T≠202->∀(b:Nat) (cur:Array Value),w2.heap[b]?=some (.cells cur T (0,0))->(w2.setCell (jA c 3) sv').heap[b]?=w2.heap[b]? :=fun T hT b cur hb=>aL w2 (jA c 3) b sv' (Aj hb hc2 hT);refine⟨bH w2 c 3 _ _ sv' hc2,hS _ h2,⟨zs,z1.other (hk2 _ (by decide)),z2⟩,((h5.mono hS).other (hk _ (by decide))).other (hk2 _ (by decide))⟩
def CT(p:Int):List Value:=[.bool true,vj p,vj 0,vj 0,jj,vj 0,vj 0,.bool false,vj 0,vj 0,vj 0,vj 0,jj,vj 0,vj 0,jj,vj 0,vj 0,.bool false,vj 0,vj 0,vj 0,vj 0,jj,.bool false,vj 0,.bool false,jj]
theorem VB:(prog.info? 214).map (fun i=>(i.zero,i.size,i.bytes))=some (some (.agg #[.bool false,vj 0,vj 0,vj 0,jj,vj 0,vj 0,.bool false,vj 0,vj 0,vj 0,vj 0,jj,vj 0,vj 0,jj,vj 0,vj 0,.bool false,vj 0,vj 0,vj 0,vj 0,jj,.bool false,vj 0,.bool false,jj]),28,304):=by kernel_rfl
def MQ(F:Nat->Nat->Value)(n:Nat)(p:Int):Nat->Nat->Value:=fun j=>if j=n then(fun o=>(CT p).getD o undef)else F j
theorem TR(h:C9 w S st F)(hS:∀g,S g->S' g)(hk:∀(b:Nat) (cur:Array Value) (t:TypeId),Jj t->w.heap[b]?=some (.cells cur t (0,0))->w2.heap[b]?=w.heap[b]?)(p:Int):C9 w2 S' (mk st p) (MQ F st.sfs.length p):=by
 refine⟨fun j hj=>?_,fun j hj=>?_⟩
 ·rw[Ga]at hj;rw[Dt];unfold MQ;by_cases e:j=st.sfs.length
  ·rw[if_pos e,if_pos e];exact⟨rfl,rfl,rfl,rfl,rfl,rfl,rfl,rfl,rfl,rfl,rfl,⟨_,_,_,rfl⟩,rfl,rfl,rfl,rfl,rfl,rfl,rfl,rfl,rfl,⟨_,_,_,rfl⟩,rfl,rfl,rfl,⟨_,_,_,rfl⟩⟩
  ·rw[if_neg e,if_neg e];exact h.rel j (by omega)
 ·rw[Ga]at hj;rw[Dt];unfold MQ;by_cases e:j=st.sfs.length
  ·rw[if_pos e,if_pos e];exact⟨AC.nil _ _ _,AC.nil _ _ _,Bg.nil _ _,Bg.nil _ _,AH.nil _ _ _⟩
  ·rw[if_neg e,if_neg e];exact((h.dat j (by omega)).mono hS).other hk
theorem VC{w1:World}{p:Int}{xs:List Value}(hr:B3 w S c st.w st.h st.sfs.length st.order bv sv ov F)(hs:C9 w S st F)(o1:Obj)
  (hg1:(w.alloc o1).grownBy w1 sv.ownBlock) (hv1:w1.ownsRow 0 214 28 sv' (st.sfs.length+1) (xs++CT p)) (hx:A4 w S 214 28 sv st.sfs.length xs) (hxF:∀i,i<st.sfs.length->∀o,o<28->xs[i*28+o]?=some (F i o)) (hl1:sv'.ownBlock=sv.ownBlock\/sv'.ownBlock=some (w.heap.size+1)) (o2:Obj)
  (hg2:((w1.setCell (jA c 3) sv').alloc o2).grownBy w2 ov.ownBlock) (hv2:w2.ownsRow 0 3 1 ov' (st.order.length+1) ((st.order.map fun(i:Nat)=>vj (i:Int))++[vj (st.sfs.length:Int)])) (hl2:ov'.ownBlock=ov.ownBlock\/ov'.ownBlock=some (w1.heap.size+1)):
  Aw (w2.setCell (jA c 4) ov') (AA S w w2) c (mk st p) bv/\Ac S w (w2.setCell (jA c 4) ov'):=by
 have z1:=hg1.size;have z2:=hg2.size;have z0:(w.alloc o1).heap.size=w.heap.size+1:=by simp
 have z3:((w1.setCell (jA c 3) sv').alloc o2).heap.size=w1.heap.size+1:=by simp
 have hS:∀g,S g->AA S w w2 g:=fun _ h=>AI h;have ha:=hr.below (al1 (aO _) o1);have hxa:A4 (w.alloc o1) S 214 28 sv st.sfs.length xs:=hx.keep fun g _ hg=>Ad w o1 g hg;have hk1:=BC (T:=214) hg1 fun g hg=>hxa.type hg;have hlen:=hx.len;have r1:=ha.newSfs (w2:=w1) (S':=AA S w w2) (sv':=sv') (n':=st.sfs.length+1) (F':=MQ F st.sfs.length p) hS hk1 ⟨xs++CT p,⟨hv1,fun g hg=>by
   have hlt:=(hv1.lt g hg).2;rcases hl1 with h|h
   ·rw[h]at hg;exact .inl (hx.2 g hg)
   ·rw[h]at hg;cases hg;exact .inr ⟨by omega,by omega⟩⟩,fun i hi o ho=>by
  unfold MQ;by_cases e:i=st.sfs.length
  ·subst e;rw[if_pos rfl,bO (by omega),hlen,show st.sfs.length*28+o-st.sfs.length*28=o by omega];have:o<(CT p).length:=ho;rw[bu,aU this];rfl
  ·rw[if_neg e,cA (by omega)];exact hxF i (by omega) o ho⟩
 have hc1:w1.heap[c]?=(w.alloc o1).heap[c]? :=hk1 _ (by decide) c _ ha.scr;have r2:=r1.below (al1 (aO _) o2);have hk2:=BC (T:=3) hg2 fun g hg=>r2.ord.type hg;have r3:=r2.newOrd (w2:=w2) (S':=AA S w w2) (ov':=ov') (ord':=(mk st p).order) (fun _ h=>h) hk2 ⟨by
   show w2.ownsRow 0 _ 1 ov' (st.order++[st.sfs.length]).length ((st.order++[st.sfs.length]).map _);rw[aY,cL];exact hv2,fun g hg=>by
   have hlt:=(hv2.lt g hg).2;rcases hl2 with h|h
   ·rw[h]at hg;exact .inl (hr.ord.2 g hg)
   ·rw[h]at hg;cases hg;exact .inr ⟨by omega,by omega⟩⟩
 have hpk:∀(b:Nat) (cur:Array Value) (t:TypeId),Jj t->w.heap[b]?=some (.cells cur t (0,0))->(w2.setCell (jA c 4) ov').heap[b]?=w.heap[b]? :=fun b cur t ht hb=>by
  have hbl:=(aM.1 hb).1;have hbc:b≠c:=Aj hb hr.scr (Du ht).2.1;have q1:(w.alloc o1).heap[b]?=w.heap[b]? :=Ad w o1 b hbl;have q2:=hk1 _ (Du ht).1 b cur (q1.trans hb);have q3:(w1.setCell (jA c 3) sv').heap[b]?=w1.heap[b]? :=aL w1 (jA c 3) b sv' hbc;have q4:((w1.setCell (jA c 3) sv').alloc o2).heap[b]?=(w1.setCell (jA c 3) sv').heap[b]? :=Ad _ o2 b (by simp;omega);have q5:=hk2 t (Du ht).2.2.1 b cur (q4.trans (q3.trans (q2.trans (q1.trans hb))));rw[aL w2 (jA c 4) b ov' hbc,q5,q4,q3,q2,q1]
 refine⟨⟨sv',ov',MQ F st.sfs.length p,?_,TR hs hS hpk p⟩,?_⟩
 ·have h9:=r3;rw[<-Ga st p]at h9;exact h9
 ·have a1:Ac S w w1:=((Ac.refl S w).alloc o1).grown hg1 fun g hg=>.inl (hx.2 g hg);have a2:Ac S w w2:=((a1.set (p:=(jA c 3)) (.inl hr.own) sv').alloc o2).grown hg2 fun g hg=>.inl (hr.ord.2 g hg);exact a2.set (p:=(jA c 4)) (.inl hr.own) ov'
theorem P6(hw:Wf st)(p:Int)(w:World)(h:Aw w S c st bv):
  Calls prog 89 #[pj c,vj p] w (VA S c bv (Bo st p) w):=by
 obtain⟨i0,hi0,hz0,hz1,hz2⟩:=cW EJ;obtain⟨j0,hj0,hy0,hy1,hy2⟩:=cW VB;have hIs:=D6 (S:=S) (c:=c) (st:=st) (bv:=bv) p w h hw.made;have HSame:Hid (∀a b:Int,VA S c bv (a,b,st) w (.returned (.tuple #[vj a,vj b])) w):=fun a b=>⟨rfl,h.mono fun _ hg=>AI hg,Ac.refl _ _⟩;unfold Bo;obtain⟨t,ht⟩:∃t,st.isB p=t:=⟨_,rfl⟩;rw[ht]at hIs ⊢;clear ht;obtain⟨sv,ov,F,hr,hs⟩:=h;obtain⟨k0,k1,k2,k3,k4,kf,kl⟩:=hr.cells;obtain⟨sa,scap,hsv⟩:=hr.svForm;obtain⟨oa,ocap,hov⟩:=hr.ovForm;subst hsv hov;obtain⟨n,hn⟩:∃n,st.sfs.length=n:=⟨_,rfl⟩;obtain⟨m,hm⟩:∃n,st.order.length=n:=⟨_,rfl⟩;have hmd:=hw.made;have hm12:=hw.len;have f3:=kf 3;have f4:=kf 4;rw[hn]at k3 hmd;rw[hm]at k4 hm12;have HIs:=Aa hIs;have HH:=Aa (aK hr (aK hs (aK hn hm)));clear hr hs kf hIs;by_cases hp:p= -1\/t=true
 ·rw[if_pos hp];have hcond:¬(p≠-1/\t=false):=by rintro⟨h1,h2⟩;rcases hp with h|h;exact h1 h;rw[h2]at h;cases h
  by_cases hfull:m<12/\n<60
  ·rw[if_pos (by rw[hn,hm];exact hfull)];obtain⟨hm2,hn2⟩:=hfull;obtain⟨xs,hx,hxF⟩:=HH.out.1.sfs;have HX:=Aa (aK hx hxF);have HK1:Hid (∀(o:Obj) (w1:World),(w.alloc o).grownBy w1 (Value.slice sa n scap).ownBlock->w1.cell? (jA c 3)=some (.slice sa n scap)/\w1.cell? (jA c 4)=some (.slice oa m ocap)/\w1.frozen? (jA c 3)=false/\w1.frozen? (jA c 4)=false/\c<w1.heap.size/\(∀(v:Value) (o2:Obj),Ca ((w1.setCell (jA c 3) v).alloc o2) 0 (.slice oa m ocap) st.order)/\∀(v:Value) (o2:Obj) (w2:World),((w1.setCell (jA c 3) v).alloc o2).grownBy w2 (Value.slice oa m ocap).ownBlock->w2.cell? (jA c 4)=some (.slice oa m ocap)/\w2.frozen? (jA c 4)=false):=by
    intro o w1 hg;have hxa:A4 (w.alloc o) S 214 28 (.slice sa n scap) n xs:=(by have h9:=HX.out.1;rw[HH.out.2.2.1]at h9;exact h9.keep fun g _ hg=>Ad w o g hg);have hk1:=BC (T:=214) hg fun g hg=>hxa.type hg;have hra:=HH.out.1.below (al1 (aO _) o);have hc:=(hk1 _ (by decide) c _ hra.scr).trans hra.scr;have hord:=hra.ord.other (hk1 _ (by decide));have hsc:Ax w1 c 202 5:=⟨_,hc,rfl⟩;rw[HH.out.2.2.1,HH.out.2.2.2]at hc;have h8:∀(v:Value) (o2:Obj),Ca ((w1.setCell (jA c 3) v).alloc o2) 0 (.slice oa m ocap) st.order:=fun v o2=>by
     have h8:=(hord.other (w':=w1.setCell (jA c 3) v) fun b cur hb=>aL w1 (jA c 3) b v (Aj hb hc (by decide))).1;rw[HH.out.2.2.2]at h8;unfold Ca;rw[HH.out.2.2.2];exact h8.alloc o2
    refine⟨(aP w1 c 3 _ _ _ hc).trans rfl,(aP w1 c 4 _ _ _ hc).trans rfl,hsc.free 3,hsc.free 4,hsc.lt,h8,fun v o2 w2 hg2=>?_⟩;have hk2:=BC (T:=3) hg2 fun g hg=>Ap (h8 v o2) hg;have hb1:Blk w1 c 202 #[vj st.w,vj st.h,bv,.slice sa n scap,.slice oa m ocap]:=hc;have hb2:=(hb1.set 3 v).alloc o2;have hb3:Blk w2 c _ _:=(hk2 _ (by decide) c _ hb2).trans hb2;exact⟨hb3.cell 4,hb3.has.free 4⟩
   have HMd:Hid (∀(w1 w2:World) (sv' ov':Value) (o1 o2:Obj),(w.alloc o1).grownBy w1 (Value.slice sa n scap).ownBlock->w1.ownsRow 0 214 28 sv' (n+1) (xs++CT p)->(sv'.ownBlock=(Value.slice sa n scap).ownBlock\/sv'.ownBlock=some (w.alloc o1).heap.size)->((w1.setCell (jA c 3) sv').alloc o2).grownBy w2 (Value.slice oa m ocap).ownBlock->Ca w2 0 ov' (st.order++[n])->(ov'.ownBlock=(Value.slice oa m ocap).ownBlock\/ov'.ownBlock=some ((w1.setCell (jA c 3) sv').alloc o2).heap.size)->VA S c bv ((n:Int),0,mk st p) w (.returned (.tuple #[vj (n:Int),vj 0])) (w2.setCell (jA c 4) ov')):=by
    intro w1 w2 sv' ov' o1 o2 a1 a2 a3 a4 a5 a6;have hr:=HH.out.1;have hs:=HH.out.2.1;have e1:=HH.out.2.2.1;have e2:=HH.out.2.2.2;subst e1 e2;obtain⟨q1,q2⟩:=VC (p:=p) hr hs o1 a1 a2 HX.out.1 HX.out.2 (by simpa using a3) o2 a4 (by unfold Ca at a5;rw[aY,cL]at a5;exact a5) (by simpa using a6);refine⟨rfl,q1.mono fun g hg=>?_,q2⟩;rcases hg with hg|hg
    ·exact .inl hg
    ·exact .inr ⟨hg.1,by simpa using hg.2⟩
   have hm1:st.order.length<=1000:=by rw[hm];omega
   have hone:∀u∈CT p,u.oneCell'=true:=by
    intro u hu;simp only[CT,cw,List.not_mem_nil,or_false]at hu;rcases hu with rfl|rfl|rfl|rfl|rfl|rfl|rfl|rfl|rfl|rfl|rfl|rfl|rfl|rfl|rfl|rfl|rfl|rfl|rfl|rfl|rfl|rfl|rfl|rfl|rfl|rfl|rfl|rfl<;>rfl
   have HOne:=Aa hone;have HRow:Hid (∀o,(w.alloc o).ownsRow 0 214 28 (.slice sa n scap) n xs):=fun o=>by
    have h9:=HX.out.1.1;rw[HH.out.2.2.1]at h9;exact h9.alloc o
   have hml:(m:Int)<12:=by omega
   have hnl:(n:Int)<60:=by omega
   rw[hn];clear hx hxF hn hm hone;by_cases hp1:p= -1
   ·subst hp1;go_enter func89,ntmps89
    go_wp2_with(first
     |(go_at_call 127;refine HIs.out.mono ?_;rintro e w' ⟨rfl,hw'⟩;replace hw':=hw'.symm;subst hw')
     |(at_builtin;refine Am (P:=prog) rfl (.tmp 40) (.tmp 43) 200 rfl 0 214 j0 _ 28 304 underlying200 hj0 hy0 hy1 hy2 rfl (by decide) (.slice sa n scap) n xs rfl (HRow.out _) (sj w.heap.size 1 1) 1 (CT (-1)) rfl rfl (.inr ⟨_,_,rfl,bI (cs:=(CT (-1)).toArray) (t:=214) (fr:=(0,0)) (aR w _)⟩) HOne.out (by unfold maxLen;omega) (by omega) (by omega) ?_;intro v1 w1 ho1 hg1 hn1 ha1;obtain⟨va,vc,hvf⟩:=Al ho1;subst hvf;obtain⟨y3,y4,z3,z4,ycl,yo,yc⟩:=HK1.out _ w1 hg1;have H1:=Aa (aK ho1 (aK hg1 (aK ha1 (aK yo yc))));clear ho1 hg1 hn1 ha1 yo yc)
     |(at_builtin;refine Cx rfl (.tmp 51) (.tmp 53) rfl 0 _ st.order rfl (H1.out.2.2.2.1 _ _) w1.heap.size n rfl (by have h9:=aR (w1.setCell (jA c 3) (.slice va (n+1) vc)) (.cells #[vj (n:Int)] 3);simpa using h9) hm1 (by omega) ?_;intro v2 w2 ho2 hg2 ha2;obtain⟨vb,vd,hvf⟩:=Al ho2;obtain⟨mm,hmm⟩:∃k,(st.order++[n]).length=k:=⟨_,rfl⟩;rw[hmm]at hvf;subst hvf;clear hmm;obtain⟨x4,u4⟩:=H1.out.2.2.2.2 _ _ w2 hg2;have H2:=Aa (aK ho2 (aK hg2 ha2));clear ho2 hg2 ha2))
    go_ret2
    exact HMd.out w1 w2 _ _ _ _ H1.out.2.1 H1.out.1 H1.out.2.2.1 H2.out.2.1 H2.out.1 H2.out.2.2
   ·have htt:t=true:=by rcases hp with h|h;exact absurd h hp1;exact h
    subst htt;go_enter func89,ntmps89
    go_wp2_with(first
     |(go_at_call 127;refine HIs.out.mono ?_;rintro e w' ⟨rfl,hw'⟩;replace hw':=hw'.symm;subst hw')
     |(at_builtin;refine Am (P:=prog) rfl (.tmp 40) (.tmp 43) 200 rfl 0 214 j0 _ 28 304 underlying200 hj0 hy0 hy1 hy2 rfl (by decide) (.slice sa n scap) n xs rfl (HRow.out _) (sj w.heap.size 1 1) 1 (CT p) rfl rfl (.inr ⟨_,_,rfl,bI (cs:=(CT p).toArray) (t:=214) (fr:=(0,0)) (aR w _)⟩) HOne.out (by unfold maxLen;omega) (by omega) (by omega) ?_;intro v1 w1 ho1 hg1 hn1 ha1;obtain⟨va,vc,hvf⟩:=Al ho1;subst hvf;obtain⟨y3,y4,z3,z4,ycl,yo,yc⟩:=HK1.out _ w1 hg1;have H1:=Aa (aK ho1 (aK hg1 (aK ha1 (aK yo yc))));clear ho1 hg1 hn1 ha1 yo yc)
     |(at_builtin;refine Cx rfl (.tmp 51) (.tmp 53) rfl 0 _ st.order rfl (H1.out.2.2.2.1 _ _) w1.heap.size n rfl (by have h9:=aR (w1.setCell (jA c 3) (.slice va (n+1) vc)) (.cells #[vj (n:Int)] 3);simpa using h9) hm1 (by omega) ?_;intro v2 w2 ho2 hg2 ha2;obtain⟨vb,vd,hvf⟩:=Al ho2;obtain⟨mm,hmm⟩:∃k,(st.order++[n]).length=k:=⟨_,rfl⟩;rw[hmm]at hvf;subst hvf;clear hmm;obtain⟨x4,u4⟩:=H1.out.2.2.2.2 _ _ w2 hg2;have H2:=Aa (aK ho2 (aK hg2 ha2));clear ho2 hg2 ha2))
    all_goals
     go_ret2
     exact HMd.out w1 w2 _ _ _ _ H1.out.2.1 H1.out.1 H1.out.2.2.1 H2.out.2.1 H2.out.1 H2.out.2.2
  ·rw[if_neg (by rw[hn,hm];exact hfull)];rcases hp with hp|hp
   ·subst hp;by_cases hm3:(m:Int)<12
    ·have hn3:¬(n:Int)<60:=by omega
     go_enter func89,ntmps89
     go_wp2_with(go_at_call 127;refine HIs.out.mono ?_;rintro e w' ⟨rfl,hw'⟩;replace hw':=hw'.symm;subst hw')
     go_ret2
     exact HSame.out 0 9
    ·go_enter func89,ntmps89
     go_wp2_with(go_at_call 127;refine HIs.out.mono ?_;rintro e w' ⟨rfl,hw'⟩;replace hw':=hw'.symm;subst hw')
     go_ret2
     exact HSame.out 0 9
   ·subst hp;by_cases hm3:(m:Int)<12
    ·have hn3:¬(n:Int)<60:=by omega
     go_enter func89,ntmps89
     go_wp2_with(go_at_call 127;refine HIs.out.mono ?_;rintro e w' ⟨rfl,hw'⟩;replace hw':=hw'.symm;subst hw')
     all_goals
      go_ret2
      exact HSame.out 0 9
    ·go_enter func89,ntmps89
     go_wp2_with(go_at_call 127;refine HIs.out.mono ?_;rintro e w' ⟨rfl,hw'⟩;replace hw':=hw'.symm;subst hw')
     all_goals
      go_ret2
      exact HSame.out 0 9
 ·rw[if_neg hp];have h1:¬p= -1:=fun e=>hp (.inl e);cases t with
  |true=>exact absurd (.inr rfl) hp
  |false=>
   go_enter func89,ntmps89
   go_wp2_with(go_at_call 127;refine HIs.out.mono ?_;rintro e w' ⟨rfl,hw'⟩;replace hw':=hw'.symm;subst hw')
   go_ret2
   exact HSame.out 0 6
variable{T:TypeId}{b k:Nat}
theorem Yh(a b c d e f g h:Int)(w:World):(Op.equalIn 10000 51 (.agg #[.int .u8 a,.int .u8 b,.int .u8 c,.int .u8 d]) (.agg #[.int .u8 e,.int .u8 f,.int .u8 g,.int .u8 h])).run prog w=.ok (a==e&&(b==f&&(c==g&&d==h))) w:=by
 have u3:=underlying5;have a3:=Tryz.isAgg5;have z3:=Tryz.sizeOf5;rw[show(10000:Nat)=9999+1 from rfl,Op.equalIn];simp only[Sem.run_bind,run_underlying underlying51,Result.andThen_ok];simp only[Std.Legacy.Range.forIn_eq_forIn_range',Std.Legacy.Range.size,Nat.sub_zero,Nat.add_sub_cancel,Nat.div_one,List.range'_succ,List.range'_zero,List.forIn_cons,List.forIn_nil]
 go_simp
 by_cases h1:a=e<;>by_cases h2:b=f<;>by_cases h3:c=g<;>by_cases h4:d=h<;>simp[h1,h2,h3,h4]
theorem Vb{st:St}{id:Nat}(h:nrm (st.seen id)=r):(r=(0,0,0,0))\/(r.1<r.2.2.1/\r.2.1<r.2.2.2/\st.px id<=r.1/\r.2.2.1<=st.px id+(st.sf id).now.w/\st.py id<=r.2.1/\r.2.2.2<=st.py id+(st.sf id).now.h):=by
 unfold nrm at h;split at h
 ·rename_i hc
  right;subst h;unfold Di at hc;simp only[bT]at hc;refine⟨hc.1,hc.2,?_⟩;unfold St.seen BX St.buf mv;simp only;omega
 ·exact .inl h.symm
theorem Yi{W H x y:Int}(hx:0<=x/\x<W)(hy:0<=y/\y<H):0<=y*W+x/\y*W+x<W*H:=by
 have h1:(y+1)*W<=H*W:=Int.mul_le_mul_of_nonneg_right (by omega) (by omega);have h2:0<=y*W:=Int.mul_nonneg (by omega) (by omega);rw[Int.add_mul,Int.one_mul,Int.mul_comm H W]at h1;omega
theorem AC.at{S:Nat->Prop}{v:Value}{n:Int}{f:Nat->R4}(h:AC w S v n f)(hk:(k:Int)<n):∃g cap m,v=sj g m cap/\(m:Int)=n/\m<=cap/\g<w.heap.size/\w.cell? (jA g (k*4))=some (.int .u8 (f k).1)/\w.cell? (jA g (k*4+1))=some (.int .u8 (f k).2.1)/\w.cell? (jA g (k*4+2))=some (.int .u8 (f k).2.2.1)/\w.cell? (jA g (k*4+3))=some (.int .u8 (f k).2.2.2):=by
 obtain⟨m,h1,h2⟩:=h;obtain⟨g,cap,e1,e2,e3,e4,e5,_⟩:=h2.open (by omega);have hl:(pxL f m).length=m:=B9 _ _;obtain⟨p0,p1,p2,p3⟩:=Bk (pxL f m) k (by rw[hl];omega);have hg:(pxL f m)[k]'(by rw[hl];omega)=f k:=by simp[pxL]
 rw[hg]at p0 p1 p2 p3;exact⟨g,cap,m,e1,h1,e3,e4,e5 _ _ p0,e5 _ _ p1,e5 _ _ p2,e5 _ _ p3⟩
theorem Sk(l:List R4)(u v:Value)(w:World)(hu:Bb w u l)(hv:Bb w v l)(hl:l.length<=9000000):
  Calls prog 141 #[u,v] w fun e w'=>e=.returned (.bool true)/\∃nq,w'=w.drewN nq:=by
 obtain⟨ua,uc,rfl,hcu⟩:=hu;obtain⟨va,vc,rfl,hcv⟩:=hv;have HU:=Aa (aK hcu hcv);obtain⟨n,hn⟩:∃n,l.length=n:=⟨_,rfl⟩;rw[hn]at hl;rw[hn];have HN:=Aa hn;clear hcu hcv hn;go_enter func141,ntmps141
 go_wp2
 go_loopg [5] n (fun g s5 wr=>∃i:Nat,s5=vj i/\g+i=n/\∃nq,wr=w.drewN nq)
 case atStart=>exact⟨0,rfl,by omega,0,rfl⟩
 case round=>
  obtain⟨i,rfl,hgi,n0,rfl⟩:=hrel;cases gk with
  |zero=>
   have hlt:¬(i:Int)<(n:Int):=by omega
   go_wp2;go_ret;exact⟨rfl,n0,rfl⟩
  |succ g=>
   have hlt:(i:Int)<(n:Int):=by omega
   have hin:i<n:=by omega
   have hil:i<l.length:=by rw[HN.out];exact hin
   obtain⟨lu,b1,o1,rfl,h1⟩:=HU.out.1 (by have:=HN.out;omega);obtain⟨lv,b2,o2,rfl,h2⟩:=HU.out.2 (by have:=HN.out;omega);obtain⟨q1,q2,q3,q4⟩:=h1 i hil;obtain⟨r1,r2,r3,r4⟩:=h2 i hil;obtain⟨⟨a,b,c,d⟩,hr⟩:∃r,l[i]=r:=⟨_,rfl⟩;rw[hr]at q1 q2 q3 q4 r1 r2 r3 r4;simp only at q1 q2 q3 q4 r1 r2 r3 r4;have hq:=Yh a b c d a b c d;have hiu:i<uc:=by have:=HN.out;omega
   have hiv:i<vc:=by have:=HN.out;omega
   have hi0:(0:Int)<=(i:Int):=by omega
   clear hr h1 h2;go_wp2;go_quiet (fail)
   go_wp2
   go_roundg g
   case measure=>omega
   case rel=>exact⟨i+1,by go_num,by omega,_,rfl⟩
end Go.Proofs.YtofinpocigbbeaaGreat
