import Derived.Test.YtofinpocigbbeaaGreatKal
import Derived.Test.YtofinpocigbbeaaGreatKah
import Derived.Test.YtofinpocigbbeaaGreatKaj
import Derived.Lib.Overlaps
set_option maxHeartbeats 1000000
set_option maxRecDepth 100000
set_option linter.unusedSimpArgs false
namespace Go.Proofs.YtofinpocigbbeaaGreat
open Go.RowKit Go.Proofs.Tryz
variable{S':Nat->Prop}{f:Int->Int->Bool}{i:Nat}{p:Int}{s:Sf}{v:Value}{w':World}
def BN(st:St)(p:Int):Prop:=p= -1\/∃i:Nat,p=i/\i∈st.order
def BE(b:Nat):Value:=pj b
def A9(st:St)(p:Int):Dm:=if p= -1 then⟨0,0,0,0,true,(0,0,st.w,st.h),fun _=>(0,0,0,0),fun _ _=>false⟩else(st.sf p.toNat).now
structure GV(G:Nat->Value)(k:Nat)(l:Dm):Prop where
 w:G k=vj l.w
 h:G (k+1)=vj l.h
 pix:∃a m c,G (k+2)=.slice a m c
 x:G (k+3)=vj l.x
 y:G (k+4)=vj l.y
 c0:G (k+5)=vj l.clip.1
 c1:G (k+6)=vj l.clip.2.1
 c2:G (k+7)=vj l.clip.2.2.1
 c3:G (k+8)=vj l.clip.2.2.2
 cut:G (k+9)=.bool l.cut
 hint:∃a m c,G (k+10)=.slice a m c
structure Dv(blk:Int->Nat)(st:St)(p:Int)(G:Nat->Value):Prop where
 num:G 0=vj p
 par:G 1=if p= -1 then .pointer none else BE (blk (st.sf p.toNat).parent)
 now:GV G 3 (A9 st p)
 next:∃l,GV G 14 l/\(p≠-1->l=(st.sf p.toNat).next)
 stk:∃(t:Bool) (z:Int) (b:Bool),G 25=.bool t/\G 26=vj z/\G 27=.bool b/\(p≠-1->t=(st.sf p.toNat).ask/\(t=true->z=(st.sf p.toNat).sib/\b=(st.sf p.toNat).above))
 kep:∃kw kh a m c,G 28=vj kw/\G 29=vj kh/\G 30=.slice a m c
def Jo(w:World)(S:Nat->Prop)(v:Value)(n:Nat)(f:Nat->R4):Prop:=
 ∃a,v=.slice a n n/\(0<n->∃g,a=some (jA g 0)/\S g/\Bj w g n f)
def A2(w:World)(g n:Nat)(f:Nat->Bool):Prop:=
 ∃cur:Array Value,w.heap[g]?=some (.cells cur 4 (0,0))/\cur.size=n/\∀k,k<n->cur[k]?=some (.bool (f k))
def Gc(w:World)(S:Nat->Prop)(v:Value)(n:Nat)(f:Nat->Bool):Prop:=
 ∃a,v=.slice a n n/\(0<n->∃g,a=some (jA g 0)/\S g/\A2 w g n f)
def Ew(w:World)(S:Nat->Prop)(v:Value)(f:Int->Int->Bool):Prop:=∃R,D4 w S v R/\AL R/\∀x y,Ay R x y=f x y
def Dm.n(l:Dm):Nat:=(l.w*l.h).toNat
structure SfD(w:World)(S:Nat->Prop)(G:Nat->Value)(s:Sf):Prop where
 pix:Jo w S (G 5) s.now.n s.now.pix
 hint:Ew w S (G 13) s.now.hint
 npix:Jo w S (G 16) s.next.n s.next.pix
 nhint:Ew w S (G 24) s.next.hint
 kw:G 28=vj s.now.w
 kh:G 29=vj s.now.h
 kept:Gc w S (G 30) s.now.n s.kept
def Dw(t:TypeId):Prop:=t=51\/t=4\/t=192\/t=194
def Bq(w w':World):Prop:=∀(g:Nat) (cur:Array Value) (t:TypeId),Dw t->w.heap[g]?=some (.cells cur t (0,0))->w'.heap[g]?=w.heap[g]?
theorem Bq.below{w:World}(h:uj w w'):Bq w w':=fun g _ _ _ hg=>h.block g (Ab hg)
theorem Bq.trans{a b c:World}(h:Bq a b)(k:Bq b c):Bq a c:=fun g cur t ht hg=>by
 have e:=h g cur t ht hg;exact(k g cur t ht (e.trans hg)).trans e
theorem Bq.r{w:World}(h:Bq w w'):CB w w':=fun g cur t ht hg=>h g cur t (.inr (.inr ht)) hg
theorem Bq.refl(w:World):Bq w w:=fun _ _ _ _ _=>rfl
theorem Jo.keepS{w:World}{S:Nat->Prop}{n:Nat}{f:Nat->R4}(h:Jo w S v n f)(hS:∀g,S g->S' g)(hk:∀g cur,S g->w.heap[g]?=some (.cells cur 51 (0,0))->w'.heap[g]?=w.heap[g]?):Jo w' S' v n f:=by
 obtain⟨a,h1,h2⟩:=h;refine⟨a,h1,fun hn=>?_⟩;obtain⟨g,g1,g2,cur,g3,g4⟩:=h2 hn;exact⟨g,g1,hS g g2,cur,(hk g cur g2 g3).trans g3,g4⟩
theorem Gc.keepS{w:World}{S:Nat->Prop}{n:Nat}{f:Nat->Bool}(h:Gc w S v n f)(hS:∀g,S g->S' g)(hk:∀g cur,S g->w.heap[g]?=some (.cells cur 4 (0,0))->w'.heap[g]?=w.heap[g]?):Gc w' S' v n f:=by
 obtain⟨a,h1,h2⟩:=h;refine⟨a,h1,fun hn=>?_⟩;obtain⟨g,g1,g2,cur,g3,g4⟩:=h2 hn;exact⟨g,g1,hS g g2,cur,(hk g cur g2 g3).trans g3,g4⟩
theorem Ew.kept{w:World}{S:Nat->Prop}(h:Ew w S v f)(hk:CB w w'):Ew w' S v f:=by
 obtain⟨R,h1,h2⟩:=h;exact⟨R,h1.keptR hk,h2⟩
theorem Ew.keep{w:World}{S:Nat->Prop}(h:Ew w S v f)(hk:∀g,S g->g<w.heap.size->w'.heap[g]?=w.heap[g]?):Ew w' S v f:=by
 obtain⟨R,h1,h2⟩:=h;exact⟨R,h1.keep hk,h2⟩
theorem Ew.mono{w:World}{S:Nat->Prop}(h:Ew w S v f)(hS:∀g,S g->S' g):Ew w S' v f:=by
 obtain⟨R,h1,h2⟩:=h;exact⟨R,h1.mono hS,h2⟩
theorem Jo.nil(w:World)(S:Nat->Prop){n:Nat}(hn:n=0)(f:Nat->R4):Jo w S (jj) n f:=⟨none,by rw[hn],fun h=>by omega⟩
theorem Gc.nil(w:World)(S:Nat->Prop){n:Nat}(hn:n=0)(f:Nat->Bool):Gc w S (jj) n f:=⟨none,by rw[hn],fun h=>by omega⟩
theorem Ew.nil(w:World)(S:Nat->Prop):Ew w S (jj) fun _ _=>false:=⟨[],D4.nil _ _,C7,fun _ _=>rfl⟩
theorem SfD.mono{w:World}{S:Nat->Prop}{G:Nat->Value}(h:SfD w S G s)(hS:∀g,S g->S' g):SfD w S' G s:=
 ⟨h.pix.keepS hS fun _ _ _ _=>rfl,h.hint.mono hS,h.npix.keepS hS fun _ _ _ _=>rfl,h.nhint.mono hS,h.kw,h.kh,h.kept.keepS hS fun _ _ _ _=>rfl⟩
theorem SfD.kd{w:World}{S:Nat->Prop}{G:Nat->Value}(h:SfD w S G s)(hk:Bq w w'):SfD w' S G s:=
 ⟨h.pix.keepS (fun _ h=>h) fun g cur _ e=>hk g cur _ (.inl rfl) e,h.hint.kept hk.r,h.npix.keepS (fun _ h=>h) fun g cur _ e=>hk g cur _ (.inl rfl) e,h.nhint.kept hk.r,h.kw,h.kh,h.kept.keepS (fun _ h=>h) fun g cur _ e=>hk g cur _ (.inr (.inl rfl)) e⟩
theorem SfD.congr{w:World}{S:Nat->Prop}{G G':Nat->Value}(h:SfD w S G s)(h5:G' 5=G 5)(h13:G' 13=G 13)(h16:G' 16=G 16)(h24:G' 24=G 24)(h28:G' 28=G 28)(h29:G' 29=G 29)(h30:G' 30=G 30):SfD w S G' s:=
 ⟨by rw[h5];exact h.pix,by rw[h13];exact h.hint,by rw[h16];exact h.npix,by rw[h24];exact h.nhint,by rw[h28];exact h.kw,by rw[h29];exact h.kh,by rw[h30];exact h.kept⟩
structure AR(w:World)(S:Nat->Prop)(x:Nat)(st:St)(bv:Value)(sc mp:Nat)(blk:Int->Nat)(G:Int->Nat->Value):Prop where
 scr:w.heap[x]?=some (.cells #[BE sc,bv] 90 (0,0))
 sce:w.heap[sc]?=some (.cells #[BE (blk (-1)),.map (some mp),vj (st.sfs.length:Int)] 152 (0,0))
 map:A1 w mp st.order fun(i:Nat)=>blk i
 srf:∀p,BN st p->∃cur:Array Value,w.heap[blk p]?=some (.cells cur 174 (0,0))/\cur.size=31/\∀o,o<31->cur[o]?=some (G p o)
 own:S x/\S sc/\S mp/\∀p,BN st p->S (blk p)
 inj:∀p p',BN st p->BN st p'->blk p=blk p'->p=p'
 on:∀p,BN st p->A4 w S 117 1 (G p 2) (st.kids p).length ((st.kids p).map fun(i:Nat)=>BE (blk i))
 apart:∀p p',BN st p->BN st p'->p≠p'->∀g,(G p 2).ownBlock=some g->(G p' 2).ownBlock≠some g
 cells:∀p,BN st p->Dv blk st p (G p)
 data:∀i:Nat,i∈st.order->SfD w S (G i) (st.sf i)
def AX(w:World)(S:Nat->Prop)(x:Nat)(st:St)(bv:Value):Prop:=∃sc mp blk G,AR w S x st bv sc mp blk G
theorem AR.mono{w:World}{S:Nat->Prop}{x:Nat}{st:St}{bv:Value}{sc mp:Nat}{blk:Int->Nat}{G:Int->Nat->Value}(h:AR w S x st bv sc mp blk G)(hS:∀g,S g->S' g):AR w S' x st bv sc mp blk G:=
 ⟨h.scr,h.sce,h.map,h.srf,⟨hS _ h.own.1,hS _ h.own.2.1,hS _ h.own.2.2.1,fun p hp=>hS _ (h.own.2.2.2 p hp)⟩,h.inj,fun p hp=>(h.on p hp).mono hS,h.apart,h.cells,fun i hi=>(h.data i hi).mono hS⟩
theorem AR.keep{w:World}{S:Nat->Prop}{x:Nat}{st:St}{bv:Value}{sc mp:Nat}{blk:Int->Nat}{G:Int->Nat->Value}(h:AR w S x st bv sc mp blk G)(hk:∀g,S g->g<w.heap.size->w'.heap[g]?=w.heap[g]?):AR w' S x st bv sc mp blk G:=by
 have hl:∀ {g:Nat} {o:Obj},w.heap[g]?=some o->S g->w'.heap[g]?=some o:=fun{g o} hg hs=>(hk g hs (aM.1 hg).1).trans hg;refine⟨hl h.scr h.own.1,hl h.sce h.own.2.1,h.map.keep (hk _ h.own.2.2.1 h.map.lt),fun p hp=>?_,h.own,h.inj,fun p hp=>(h.on p hp).keep hk,h.apart,h.cells,fun i hi=>?_⟩
 ·obtain⟨cur,h1,h2⟩:=h.srf p hp;exact⟨cur,hl h1 (h.own.2.2.2 p hp),h2⟩
 ·have q:=h.data i hi;exact⟨q.pix.keepS (fun _ h=>h) fun g cur hs e=>hk g hs (Ab e),q.hint.keep hk,q.npix.keepS (fun _ h=>h) fun g cur hs e=>hk g hs (Ab e),q.nhint.keep hk,q.kw,q.kh,q.kept.keepS (fun _ h=>h) fun g cur hs e=>hk g hs (Ab e)⟩
theorem AR.below{w:World}{S:Nat->Prop}{x:Nat}{st:St}{bv:Value}{sc mp:Nat}{blk:Int->Nat}{G:Int->Nat->Value}(h:AR w S x st bv sc mp blk G)(hb:uj w w'):AR w' S x st bv sc mp blk G:=h.keep fun g _ hg=>hb.block g hg
theorem AX.mono{w:World}{S:Nat->Prop}{x:Nat}{st:St}{bv:Value}(h:AX w S x st bv)(hS:∀g,S g->S' g):AX w S' x st bv:=by
 obtain⟨sc,mp,blk,G,h⟩:=h;exact⟨sc,mp,blk,G,h.mono hS⟩
theorem AX.keep{w:World}{S:Nat->Prop}{x:Nat}{st:St}{bv:Value}(h:AX w S x st bv)(hk:∀g,S g->g<w.heap.size->w'.heap[g]?=w.heap[g]?):AX w' S x st bv:=by
 obtain⟨sc,mp,blk,G,h⟩:=h;exact⟨sc,mp,blk,G,h.keep hk⟩
theorem AX.below{w:World}{S:Nat->Prop}{x:Nat}{st:St}{bv:Value}(h:AX w S x st bv)(hb:uj w w'):AX w' S x st bv:=by
 obtain⟨sc,mp,blk,G,h⟩:=h;exact⟨sc,mp,blk,G,h.below hb⟩
section
variable{w:World}{S:Nat->Prop}{x:Nat}{st:St}{bv:Value}{sc mp:Nat}{blk:Int->Nat}{G:Int->Nat->Value}
theorem CC(st:St):BN st (-1):=.inl rfl
theorem Af{st:St}(h:i∈st.order):BN st i:=.inr ⟨i,rfl,h⟩
theorem Gd{st:St}(h:i∈st.kids p):BN st i:=Af (AN.1 h).1
theorem CR{st:St}(hw:Wf st)(hi:i∈st.order):BN st (st.sf i).parent:=by
 have h1:=hw.par i;by_cases e:(st.sf i).parent= -1
 ·exact .inl e
 ·obtain⟨p,hp⟩:∃p:Nat,(st.sf i).parent=p:=⟨(st.sf i).parent.toNat,by omega⟩;exact .inr ⟨p,hp,hw.up i hi p hp⟩
theorem AR.scrCells(h:AR w S x st bv sc mp blk G):w.cell? (jA x 0)=some (BE sc)/\w.cell? (jA x 1)=some bv/\x<w.heap.size:=by
 refine⟨?_,?_,(aM.1 h.scr).1⟩<;>(rw[aP w x _ _ _ _ h.scr];rfl)
theorem AR.sceCells(h:AR w S x st bv sc mp blk G):w.cell? (jA sc 0)=some (BE (blk (-1)))/\w.cell? (jA sc 1)=some (.map (some mp))/\w.cell? (jA sc 2)=some (vj (st.sfs.length:Int))/\sc<w.heap.size/\∀j,w.frozen? (jA sc j)=false:=by
 refine⟨?_,?_,?_,(aM.1 h.sce).1,fun j=>by simp[World.frozen?,h.sce]⟩<;>(rw[aP w sc _ _ _ _ h.sce];rfl)
theorem AR.at(h:AR w S x st bv sc mp blk G)(hp:BN st p):(∀o,o<31->w.cell? (jA (blk p) o)=some (G p o))/\(∀o,w.frozen? (jA (blk p) o)=false)/\blk p<w.heap.size:=by
 obtain⟨cur,h1,h2,h3⟩:=h.srf p hp;refine⟨fun o ho=>?_,fun o=>by simp[World.frozen?,h1],(aM.1 h1).1⟩;rw[aP w _ _ _ _ _ h1];exact h3 o ho
end
def Vc(L:List Nat)(n r:Int):Prop:=(r= -1/\∀i∈L,(i:Int)≠n)\/∃(k:Nat) (i:Nat),r=k/\L[k]?=some i/\(i:Int)=n
theorem Tv(g B:Nat)(m n:Int)(w:World)(hg:w.cell? (jA g 0)=some (vj m))(hB:w.cell? (jA B 0)=some (vj n)):
  Calls prog 167 #[pj g,pj B] w fun e w'=>e=.returned (.bool (decide (m=n)))/\∃k,w'=w.drewN k:=by
 go_enter func167,ntmps167
 go_wp2;go_quiet (fail)
 go_wp2;go_ret;exact⟨rfl,_,rfl⟩
structure Ri(w:World)(v:Value)(L:List Nat)(q:Nat->Nat):Prop where
 form:∃a c,v=.slice a L.length c/\∀k (h:k<L.length),∃g,a=some (jA g 0)/\g<w.heap.size/\w.cell? (jA g k)=some (pj (q L[k]))
 num:∀i∈L,w.cell? (jA (q i) 0)=some (vj (i:Int))/\q i<w.heap.size
theorem Ri.below{w w':World}{v:Value}{L:List Nat}{q:Nat->Nat}(h:Ri w v L q)(hb:uj w w'):Ri w' v L q:=by
 obtain⟨⟨a,c,rfl,h1⟩,h2⟩:=h;refine⟨⟨a,c,rfl,fun k hk=>?_⟩,fun i hi=>?_⟩
 ·obtain⟨g,e1,e2,e3⟩:=h1 k hk;exact⟨g,e1,aQ e2 hb.size,(hb.cell (p:=(jA g k)) e2).trans e3⟩
 ·obtain⟨e1,e2⟩:=h2 i hi;exact⟨(hb.cell (p:=(jA (q i) 0)) e2).trans e1,aQ e2 hb.size⟩
theorem Vd(L:List Nat)(q:Nat->Nat)(n:Int)(v:Value)(B:Nat)(w:World)(hv:Ri w v L q)(hB:w.cell? (jA B 0)=some (vj n))(hL:L.length<=1000):
  Calls prog 166 #[v,.func (.func 167) #[] #[pj B]] w fun e w'=>∃r,e=.returned (vj r)/\Vc L n r/\∃k,w'=w.drewN k:=by
 obtain⟨⟨a,c,rfl,h1⟩,h2⟩:=hv;obtain⟨m,hm⟩:∃m,L.length=m:=⟨_,rfl⟩;rw[hm]at hL ⊢;have H1:=Aa h1;have H2:=Aa h2;have HM:=Aa hm;clear h1 h2 hm;go_enter func166,ntmps166
 go_wp2_with fail
 go_loopg [8] m (fun g s8 wr=>∃(k z:Nat),s8=vj (k:Int)/\g+k=m/\(∀j (h:j<L.length),j<k->(L[j]:Int)≠n)/\wr=w.drewN z)
 case atStart=>exact⟨0,0,rfl,by omega,fun j _ h=>absurd h (by omega),rfl⟩
 case round=>
  obtain⟨k,z,rfl,hgk,hno,rfl⟩:=hrel;have HNo:=Aa hno;clear hno;cases gk with
  |zero=>
   have hlt:¬(k:Int)<(m:Int):=by omega
   go_wp2_with fail
   go_ret;refine⟨_,rfl,.inl ⟨rfl,fun i hi=>?_⟩,_,rfl⟩;obtain⟨j,hj,rfl⟩:=List.getElem_of_mem hi;exact HNo.out j hj (by have:=HM.out;omega)
  |succ g=>
   have hlt:(k:Int)<(m:Int):=by omega
   have hltn:k<m:=by omega
   have hkl:k<L.length:=by have:=HM.out;omega
   obtain⟨gb,rfl,gl,gc⟩:=H1.out k hkl;obtain⟨e1,e2⟩:=H2.out L[k] (aZ hkl);have HK:Hid (L[k]?=some L[k]):=aU hkl;obtain⟨i,hi⟩:∃i,L[k]=i:=⟨_,rfl⟩;rw[hi]at gc e1 e2 HK;have HI:=Aa hi;clear hi;have HN:=Aa (Tv (q i) B (i:Int) n (w.drewN z) (by simpa using e1) (by simpa using hB));by_cases hin:(i:Int)=n
   ·go_wp2_with(go_at_call 167;refine HN.out.mono ?_;rintro e w' ⟨rfl,zz,rfl⟩;rw[bQ hin])
    go_ret;exact⟨_,rfl,.inr ⟨k,i,rfl,HK.out,hin⟩,_,rfl⟩
   ·go_wp2_with(go_at_call 167;refine HN.out.mono ?_;rintro e w' ⟨rfl,zz,rfl⟩;rw[cE hin])
    go_roundg g
    case measure=>omega
    case rel=>
     refine⟨k+1,_,by go_num,by omega,fun j hj hjk=>?_,rfl⟩;by_cases e:j=k
     ·subst e;rw[HI.out];exact hin
     ·exact HNo.out j hj (by omega)
theorem Ge(L:List Nat)(q:Nat->Nat)(n:Int)(v:Value)(p:Nat)(w:World)(hp:w.cell? (jA p 2)=some v)(hpl:p<w.heap.size)(hv:Ri w v L q)(hL:L.length<=1000):
  Calls prog 111 #[pj p,vj n] w fun e w'=>∃r,e=.returned (vj r)/\Vc L n r/\uj w w':=by
 have hb:=(aN w.heap.size w).alloc (aO _) (.cells #[vj n] 3);have HB:=Aa hb;have HI:=Aa (Vd L q n v w.heap.size (w.alloc (.cells #[vj n] 3)) (hv.below hb) (by simp) hL);have hmf:∀(fn:Fn) (first cap:Array Value) (w:World),(Instr.makeFunc fn first cap).run prog w=.ok (.func fn first cap) w:=fun _ _ _ _=>rfl;have hne:p≠w.heap.size:=by omega
 obtain⟨⟨va,vc,rfl,_⟩,_⟩:=hv;clear hb;go_enter func111,ntmps111
 go_wp2_with(go_at_call 166;refine HI.out.mono ?_;rintro e w' ⟨r,rfl,hr,zz,rfl⟩)
 go_ret;exact⟨r,rfl,hr,HB.out.trans (cS (aN _ _) _)⟩
variable{P:Program}
theorem Gf{ops:Array Oper}{o:Oper}{a:Act}{w:World}{K:Act->World->Prop}{Q:Exit->Act->World->Prop}{E:Prop}
  (hgd:o.guard=none) (s x:Operand) (t:TypeId) (hop:o.op=Op.call {callee:=Callee.builtin Builtin.append,args:=#[s,x],argTypes:=#[t,t] })
  (e:TypeId) (i:TypeInfo) (h1:P.underlying t=some (.slice e)) (h2:P.info? e=some i) (h4:i.size=1)
  (g n cap:Nat) (hs:a.eval s=sj g n cap) (cur:Array Value) (hg:w.heap[g]?=some (.cells cur e (0,0)))
  (ad:Addr) (m c:Nat) (news:List Value) (hx:a.eval x=.slice (some ad) m c) (hn:news.length=m) (hc:∀j u,news[j]?=some u->w.cell? (ad.add j)=some u) (h1c:∀u∈news,u.oneCell'=true)
  (k:Nat) (hk:n+m=k) (hroom:k<=cap) (hcap:cur.size=cap)
  (hK:∀w',w'.heap[g]?=some (.cells (cur.toList.take n++news++cur.toList.drop k).toArray e (0,0))->w.grownBy w' (some g)->w'.heap.size=w.heap.size->K (a.put o.dst (sj g k cap)) w'):
  if Region.wanted o (yielded ops a.tmps)=true then Oper.wp P o a w K Q else E:=by
 subst hk;have hw:Region.wanted o (yielded ops a.tmps)=true:=by simp[Region.wanted,hgd]
 rw[if_pos hw];have hrun:=run_append_room (P:=P) w t o.type e i h1 h2 g n cap cur hg ad m c news (by rw[h4,hn,Nat.mul_one]) hc h1c hroom (by rw[h4,hn];omega);rw[h4,Nat.mul_one,hn]at hrun;have hK2:=hK (w.setRow g (cur.toList.take n++news++cur.toList.drop (n+m)).toArray) (setRow_heap w g cur _ e _ hg) ⟨rfl,rfl,rfl,by simp,fun k _ hk=>setRow_other w g k _ (fun e=>hk (by rw[e]))⟩ (by simp);obtain⟨W',hW'⟩:∃W',W'=w.setRow g (cur.toList.take n++news++cur.toList.drop (n+m)).toArray:=⟨_,rfl⟩;rw[<-hW']at hrun hK2;unfold Oper.wp;simp[execOp,hop,resolve,invoke,builtin,hs,hx,hrun,Result.andThen];exact hK2
theorem GW:(prog.info? 117).map (fun i=>(i.zero,i.size,i.bytes))=some (some (.pointer none),1,8):=by kernel_rfl
theorem Hj(w:World)(t ty e:TypeId)(h1:P.underlying t=some (.slice e))(hz:(zeroValue e).run P w=.ok (.pointer none) w)(g off c:Nat)(cur:Array Value)(hg:w.heap[g]?=some (.cells cur e (0,0)))(hoff:off<cur.size):
  ∃w',(Builtin.clear_ #[t] ty #[.slice (some (jA g off)) 1 c]).run P w=.ok (.tuple #[]) w'/\w'.heap[g]?=some (.cells (cur.toList.take off++[Value.pointer none]++cur.toList.drop (off+1)).toArray e (0,0))/\w.grownBy w' (some g)/\w'.heap.size=w.heap.size:=by
 have hst:=run_storeCells_at P g off e [Value.pointer none] 0 cur w hg (by simp;omega) (by simp[Value.oneCell']);simp only[Nat.add_zero,List.length_singleton]at hst;refine⟨w.setRow g (cur.toList.take off++[Value.pointer none]++cur.toList.drop (off+1)).toArray,?_,setRow_heap w g cur _ e _ hg,⟨rfl,rfl,rfl,by simp,fun k _ hk=>setRow_other w g k _ (fun e=>hk (by rw[e]))⟩,by simp⟩;obtain⟨W',hW'⟩:∃W',W'=w.setRow g (cur.toList.take off++[Value.pointer none]++cur.toList.drop (off+1)).toArray:=⟨_,rfl⟩;rw[<-hW']at hst ⊢;have hzc:(Builtin.zeroCells (Value.pointer none).cells 1).toList=[Value.pointer none]:=by simp[Builtin.zeroCells,Value.cells]
 simp[Builtin.clear_,run_underlying h1,hz,hzc,hst,Result.andThen]
theorem IG(w:World):(zeroValue 117).run prog w=.ok (.pointer none) w:=by
 obtain⟨i0,hi0,hz0,hz1,hz2⟩:=cW GW;simp[zeroValue,typeInfo,hi0,hz0]
theorem NH{α:Type}(l:List α)(i n:Nat)(z:α)(hi:i<n+1)(hn:n+1<=l.length):(((l.take i++(l.take (n+1)).drop (i+1)++l.drop n).take n)++[z]++(l.take i++(l.take (n+1)).drop (i+1)++l.drop n).drop (n+1)).take n=(l.take (n+1)).eraseIdx i:=by
 obtain⟨A,hA⟩:∃A,A=l.take i++(l.take (n+1)).drop (i+1):=⟨_,rfl⟩;have h1:A.length=n:=by rw[hA];simp;omega
 have h3:(l.take (n+1)).eraseIdx i=A:=by rw[hA,List.eraseIdx_eq_take_drop_succ,List.take_take,Nat.min_eq_left (by omega)]
 rw[h3,<-hA,List.append_assoc,List.take_append_of_le_length (by simp;omega),List.take_take,Nat.min_self,<-h1,List.take_left]
theorem KW(g n cap i:Nat)(cur:Array Value)(w:World)(hg:w.heap[g]?=some (.cells cur 117 (0,0)))(hcs:cur.size=cap)(hcap:cap<=maxLen)(hn:n+1<=cap)(hi:i<n+1)(hp:∀u∈cur.toList.take (n+1),u.oneCell'=true):
  Calls prog 112 #[sj g (n+1) cap,vj (i:Int),vj ((i:Int)+1)] w fun e w'=>e=.returned (sj g n cap)/\
   (∃cur':Array Value,w'.heap[g]?=some (.cells cur' 117 (0,0))/\cur'.size=cap/\cur'.toList.take n=(cur.toList.take (n+1)).eraseIdx i)/\w.grownBy w' (some g)/\w'.heap.size=w.heap.size:=by
 obtain⟨i0,hi0,hz0,hz1,hz2⟩:=cW GW;unfold maxLen at hcap;have hin:(i:Int)<(n:Int)+1:=by omega
 have hin1:(i:Int)+1<=(n:Int)+1:=by omega
 have hnc:(n:Int)+1<=(cap:Int):=by omega
 have h01:(0:Int)<=(i:Int)+1:=by omega
 have h02:(0:Int)<=(n:Int)+1:=by omega
 have hle:(i:Int)<=(i:Int)+1:=by omega
 have hnn:(n:Int)<=(n:Int)+1:=by omega
 have hic:i<=cap:=by omega
 have hcn:¬cap=n:=by omega
 have hcl:cur.toList.length=cap:=by simpa using hcs
 have HG:=Aa hg;have HP:=Aa hp;have HF:Hid (∀w1 w2:World,w1.heap[g]?=some (.cells (cur.toList.take i++(cur.toList.take (n+1)).drop (i+1)++cur.toList.drop n).toArray 117 (0,0))->w.drew.grownBy w1 (some g)->w1.heap.size=w.drew.heap.size->
   w2.heap[g]?=some (.cells (((cur.toList.take i++(cur.toList.take (n+1)).drop (i+1)++cur.toList.drop n).toArray.toList.take n)++[Value.pointer none]++((cur.toList.take i++(cur.toList.take (n+1)).drop (i+1)++cur.toList.drop n).toArray.toList.drop (n+1))).toArray 117 (0,0))->w1.grownBy w2 (some g)->w2.heap.size=w1.heap.size->
   (∃cur':Array Value,w2.heap[g]?=some (.cells cur' 117 (0,0))/\cur'.size=cap/\cur'.toList.take n=(cur.toList.take (n+1)).eraseIdx i)/\w.grownBy w2 (some g)/\w2.heap.size=w.heap.size):=fun w1 w2 _ k2 k3 k4 k5 k6=>by
  refine⟨⟨_,k4,?_,?_⟩,?_,by rw[k6,k3];rfl⟩
  ·simp;omega
  ·exact NH cur.toList i n (.pointer none) hi (by omega)
  ·exact⟨k5.os.trans k2.os,k5.tape.trans k2.tape,k5.output.trans k2.output,bh k2.size k5.size,fun b hb hne=>by rw[k5.block b (aQ hb k2.size) hne,k2.block b hb hne];rfl⟩
 by_cases he:cap=i+1
 ·have hni:n=i:=by omega
  subst hni;subst he;have e0:(cur.toList.take (n+1)).drop (n+1)=[]:=by simp
  rw[e0]at HF;clear hg hp;go_enter func112,ntmps112
  go_wp2_with fail
  go_region_law (refine Gf (by rfl) (.tmp 22) (.tmp 25) 170 (by rfl) 117 i0 underlying170 hi0 hz1 g n (n+1) (by rfl) cur (by exact HG.out) (jA g 0) 0 0 [] (by rfl) (by simp) (by simp) (by simp) n (by omega) (by omega) (by omega) ?_;intro w1 hw1 hgr hsz)
  have HW1:=Aa (aK hw1 (aK hgr hsz));clear hw1 hgr hsz;obtain⟨w2,hrun,HW2'⟩:=Hj w1 170 0 117 underlying170 (IG _) g n 1 _ HW1.out.1 (by simp;omega);have HW2:=Aa HW2';clear HW2'
  go_wp2_with fail
  go_ret;exact⟨rfl,HF.out _ _ HW1.out.1 HW1.out.2.1 HW1.out.2.2 HW2.out.1 HW2.out.2.1 HW2.out.2.2⟩
 ·go_enter func112,ntmps112
  clear hg hp
  go_wp2_with fail
  go_region_law (refine Gf (by rfl) (.tmp 22) (.tmp 25) 170 (by rfl) 117 i0 underlying170 hi0 hz1 g i cap (by rfl) cur (by exact HG.out) (jA g (i+1)) (n-i) (cap-(i+1)) ((cur.toList.take (n+1)).drop (i+1)) (by rfl) (by simp;omega) (fun j u hu=>by rw[Es];show w.cell? _=_;rw[aP w g _ _ _ _ HG.out,<-cQ];rw[List.getElem?_drop,List.getElem?_take]at hu;split at hu;exact hu;cases hu) (fun u hu=>HP.out u (List.mem_of_mem_drop hu)) n (by omega) (by omega) (by exact hcs) ?_;intro w1 hw1 hgr hsz)
  have HW1:=Aa (aK hw1 (aK hgr hsz));clear hw1 hgr hsz;obtain⟨w2,hrun,HW2'⟩:=Hj w1 170 0 117 underlying170 (IG _) g n (cap-n) _ HW1.out.1 (by simp;omega);have HW2:=Aa HW2';clear HW2'
  go_wp2_with fail
  go_ret;exact⟨rfl,HF.out _ _ HW1.out.1 HW1.out.2.1 HW1.out.2.2 HW2.out.1 HW2.out.2.1 HW2.out.2.2⟩
theorem WM(w:World):(Go.sizeOf 117).run prog w=.ok 1 w:=by
 obtain⟨i0,hi0,hz0,hz1,hz2⟩:=cW GW;simp[sizeOf,typeInfo,hi0,hz1]
theorem Yj:(prog.info? 117).map (·.size)=some 1:=by
 obtain⟨i0,hi0,hz0,hz1,hz2⟩:=cW GW;rw[hi0];simp[hz1]
theorem IH(w:World)(ty:TypeId)(g o dLen dCap:Nat)(a:Addr)(sLen sCap:Nat)(cur:Array Value)(cs:List Value)(hg:w.heap[g]?=some (.cells cur 117 (0,0)))(hn:cs.length=Nat.min sLen dLen)
  (hsrc:∀j v,cs[j]?=some v->w.cell? (a.add j)=some v) (hfit:o+cs.length<=cur.size) (h1:∀v∈cs,v.oneCell'=true):
  ∃w',(Builtin.copy_ #[170,170] ty #[.slice (some (jA g o)) dLen dCap,.slice (some a) sLen sCap]).run prog w=.ok (goInt cs.length) w'/\w'.heap[g]?=some (.cells (cur.toList.take o++cs++cur.toList.drop (o+cs.length)).toArray 117 (0,0))/\w.grownBy w' (some g)/\w'.heap.size=w.heap.size:=
 ⟨_,run_copy_row (P:=prog) w _ _ ty 117 g o dLen dCap a sLen sCap cur 117 cs underlying170 Yj hg hn hsrc hfit h1,setRow_heap w g cur _ _ _ hg,⟨rfl,rfl,rfl,by simp,fun k _ hk=>setRow_other w g k _ (fun e=>hk (by rw[e]))⟩,by simp⟩
theorem LZ{α:Type}(l:List α)(i n:Nat)(u:α)(hi:i<n)(hn:n+1<=l.length):((l.take (i+1)++(l.take n).drop i++l.drop (i+1+((l.take n).drop i).length)).take i++[u]++(l.take (i+1)++(l.take n).drop i++l.drop (i+1+((l.take n).drop i).length)).drop (i+1)).take (n+1)=l.take i++u::(l.take n).drop i:=by
 have h1:(l.take (i+1)).length=i+1:=by simp;omega
 have h2:(l.take (i+1)++(l.take n).drop i++l.drop (i+1+((l.take n).drop i).length)).take i=l.take i:=by
  rw[List.append_assoc,List.take_append_of_le_length (by omega),List.take_take,Nat.min_eq_left (by omega)]
 have h3:(l.take (i+1)++(l.take n).drop i++l.drop (i+1+((l.take n).drop i).length)).drop (i+1)=(l.take n).drop i++l.drop (i+1+((l.take n).drop i).length):=by
  rw[List.append_assoc,List.drop_append_of_le_length (by omega),List.drop_eq_nil_of_le (by omega),List.nil_append]
 rw[h2,h3];have h4:(l.take i++[u]++(l.take n).drop i).length=n+1:=by simp;omega
 rw[<-List.append_assoc,<-h4,List.take_left];simp
theorem Rj(g n cap i b:Nat)(u:Value)(cur:Array Value)(w:World)(hg:w.heap[g]?=some (.cells cur 117 (0,0)))(hb:w.heap[b]?=some (.cells #[u] 117 (0,0)))(hgb:g≠b)(hcs:cur.size=cap)(hcap:cap<=maxLen)(hn:n+1<=cap)(hi:i<n)(hp:∀u∈cur.toList.take n,u.oneCell'=true)(hu:u.oneCell'=true):
  Calls prog 163 #[sj g n cap,vj (i:Int),sj b 1 1] w fun e w'=>e=.returned (sj g (n+1) cap)/\
   (∃cur':Array Value,w'.heap[g]?=some (.cells cur' 117 (0,0))/\cur'.size=cap/\cur'.toList.take (n+1)=cur.toList.take i++u::(cur.toList.take n).drop i)/\w.grownBy w' (some g)/\w'.heap.size=w.heap.size:=by
 unfold maxLen at hcap;have hin:(i:Int)<(n:Int):=by omega
 have hin0:¬(i:Int)=(n:Int):=by omega
 have hin2:(i:Int)<=(n:Int):=by omega
 have hnc:(n:Int)+1<=(cap:Int):=by omega
 have hic:i<=cap:=by omega
 have hci:¬cap=i:=by omega
 have hcn:n+1<=cap:=by omega
 have HG:=Aa hg;have HP:=Aa hp;clear hg hp;have hov:∀lb cb,(callFunc 186 #[sj b 1 1,.slice (some (jA g (i+1))) lb cb]).run prog w=.ok (.value (.bool false)) w:=fun lb cb=>by
  rw[run_callFunc_extern func186 (by kernel_rfl) (by kernel_rfl) (by kernel_rfl) (e:=Extern.SlicesOverlaps.overlaps #[170,170] #[4]) (by kernel_rfl),
   Lib.run_overlaps_apart w 170 4 117 underlying170 1 WM (jA b 0) (jA g (i+1)) 1 1 lb cb (fun e=>hgb e.symm) 117 117 1 cap (by simp[World.shape?,hb]) (by simp[World.shape?,HG.out,hcs]) (by omega) (by simp[World.frozen?,hb]) (by simp[World.frozen?,hb])]
  rfl
 obtain⟨w1,hc1,hw1,hg1,hs1⟩:=IH w.drew 3 g (i+1) (n-i) (cap-(i+1)) (jA g i) (n+1-i) (cap-i) cur ((cur.toList.take n).drop i) HG.out (by rw[show Nat.min (n+1-i) (n-i)=n-i from Nat.min_eq_right (by omega)];simp;omega) (fun j v hj=>by
   rw[Es];show w.cell? _=_;rw[aP w g _ _ _ _ HG.out,<-cQ];rw[List.getElem?_drop,List.getElem?_take]at hj;split at hj
   ·exact hj
   ·cases hj) (by simp;omega) (fun v hv=>HP.out v (List.mem_of_mem_drop hv))
 have hb1:w1.heap[b]?=some (.cells #[u] 117 (0,0)):=(hg1.block b (aM.1 hb).1 (fun e=>hgb (by simpa using e.symm))).trans hb;obtain⟨w2,hc2,hw2,hg2,hs2⟩:=IH w1 3 g i (n+1-i) (cap-i) (jA b 0) 1 1 _ [u] hw1 (by simp only[Nat.min_def];split<;>simp<;>omega) (fun j v hj=>by
   rw[Es,aP w1 b _ _ _ _ hb1]
   match j,hj with
   |0,hj=>simpa using hj) (by simp;omega) (by simpa using hu)
 have e1:((cur.toList.take n).drop i).length=n-i:=by simp;omega
 rw[e1]at hc1;have HF:Hid ((∃cur':Array Value,w2.heap[g]?=some (.cells cur' 117 (0,0))/\cur'.size=cap/\cur'.toList.take (n+1)=cur.toList.take i++u::(cur.toList.take n).drop i)/\w.grownBy w2 (some g)/\w2.heap.size=w.heap.size):=by
  refine⟨⟨_,hw2,?_,?_⟩,⟨hg2.os.trans hg1.os,hg2.tape.trans hg1.tape,hg2.output.trans hg1.output,bh hg1.size hg2.size,fun k hk hne=>?_⟩,hs2.trans hs1⟩
  ·simp;omega
  ·exact LZ cur.toList i n u hi (by simp;omega)
  ·rw[hg2.block k (aQ hk hg1.size) hne,hg1.block k hk hne];rfl
 clear hw1 hg1 hs1 hw2 hg2 hs2 hb1 hb e1;go_enter func163,ntmps163
 have hie:(i:Int)+1<=(n:Int)+1:=by omega
 have hi0:(0:Int)<=(i:Int)+1:=by omega
 have hie2:(i:Int)<=(n:Int)+1:=by omega
 have hci2:¬cap=i+1:=by omega
 go_wp2_with fail
 go_region
 go_wp2_with fail
 go_ret;exact⟨rfl,HF.out⟩
theorem Jp{P:Program}{w:World}{ops:Array Oper}{rest:List Oper}{o:Oper}{a:Act}{Q:Exit->Act->World->Prop}
  (hgd:o.guard=none) (s x:Operand) (t:TypeId) (hop:o.op=Op.call {callee:=Callee.builtin Builtin.append,args:=#[s,x],argTypes:=#[t,t] })
  (e:TypeId) (i:TypeInfo) (h1:P.underlying t=some (.slice e)) (h2:P.info? e=some i) (h4:i.size=1)
  (g n cap:Nat) (hs:a.eval s=sj g n cap) (cur:Array Value) (hg:w.heap[g]?=some (.cells cur e (0,0)))
  (ad:Addr) (m c:Nat) (news:List Value) (hx:a.eval x=.slice (some ad) m c) (hn:news.length=m) (hc:∀j u,news[j]?=some u->w.cell? (ad.add j)=some u) (h1c:∀u∈news,u.oneCell'=true)
  (k:Nat) (hk:n+m=k) (hroom:k<=cap) (hcap:cur.size=cap)
  (hK:∀w',w'.heap[g]?=some (.cells (cur.toList.take n++news++cur.toList.drop k).toArray e (0,0))->w.grownBy w' (some g)->w'.heap.size=w.heap.size->wpList P ops Q rest (a.put o.dst (sj g k cap)) w'):
  wpList P ops Q (o::rest) a w:=by
 subst hk;refine wpList_plain hgd fun K' hK'=>?_;have hrun:=run_append_room (P:=P) w t o.type e i h1 h2 g n cap cur hg ad m c news (by rw[h4,hn,Nat.mul_one]) hc h1c hroom (by rw[h4,hn];omega);rw[h4,Nat.mul_one,hn]at hrun;have hK2:=hK (w.setRow g (cur.toList.take n++news++cur.toList.drop (n+m)).toArray) (setRow_heap w g cur _ e _ hg) ⟨rfl,rfl,rfl,by simp,fun k _ hk=>setRow_other w g k _ (fun e=>hk (by rw[e]))⟩ (by simp);obtain⟨W',hW'⟩:∃W',W'=w.setRow g (cur.toList.take n++news++cur.toList.drop (n+m)).toArray:=⟨_,rfl⟩;rw[<-hW']at hrun hK2;unfold Oper.wp;simp[execOp,hop,resolve,invoke,builtin,hs,hx,hrun,Result.andThen];exact hK' _ _ hK2
theorem Rk(g n cap b:Nat)(u:Value)(cur:Array Value)(w:World)(hg:w.heap[g]?=some (.cells cur 117 (0,0)))(hb:w.heap[b]?=some (.cells #[u] 117 (0,0)))(hcs:cur.size=cap)(hn:n+1<=cap)(hu:u.oneCell'=true):
  Calls prog 163 #[sj g n cap,vj (n:Int),sj b 1 1] w fun e w'=>e=.returned (sj g (n+1) cap)/\
   (∃cur':Array Value,w'.heap[g]?=some (.cells cur' 117 (0,0))/\cur'.size=cap/\cur'.toList.take (n+1)=cur.toList.take n++[u])/\w.grownBy w' (some g)/\w'.heap.size=w.heap.size:=by
 obtain⟨i0,hi0,hz0,hz1,hz2⟩:=cW GW;have hnc:(n:Int)+1<=(cap:Int):=by omega
 have hcn:¬cap=n:=by omega
 have HG:=Aa hg;have HB:Hid (∀j v,[u][j]?=some v->w.cell? (((jA b 0):Addr).add j)=some v):=fun j v hj=>by
  rw[Es,aP w b _ _ _ _ hb]
  match j,hj with
  |0,hj=>simpa using hj
 have HF:Hid (∀w':World,w'.heap[g]?=some (.cells (cur.toList.take n++[u]++cur.toList.drop (n+1)).toArray 117 (0,0))->∃cur':Array Value,w'.heap[g]?=some (.cells cur' 117 (0,0))/\cur'.size=cap/\cur'.toList.take (n+1)=cur.toList.take n++[u]):=fun w' hw'=>by
  refine⟨_,hw',by simp;omega,?_⟩;have h4:(cur.toList.take n++[u]).length=n+1:=by simp;omega
  show(cur.toList.take n++[u]++cur.toList.drop (n+1)).take (n+1)=_
  conv=>lhs;rw[<-h4]
  rw[List.take_append_of_le_length (aO _),List.take_length]
 clear hg hb;go_enter func163,ntmps163
 go_wp2_with(at_builtin;refine Jp rfl (.tmp 23) (.tmp 24) 170 rfl 117 i0 underlying170 hi0 hz1 g n cap rfl cur HG.out (jA b 0) 1 1 [u] rfl rfl HB.out (by simpa using hu) (n+1) rfl (by omega) hcs ?_;intro w1 hw1 hgr hsz;have HW:=Aa (aK hw1 (aK hgr hsz));clear hw1 hgr hsz)
 go_ret;exact⟨rfl,HF.out _ HW.out.1,HW.out.2.1,HW.out.2.2⟩
attribute [local go_sem ↓] Go.wp_at_zero Go.wp_at_succ
variable{F:Nat->Value}{b:Nat}
theorem neT{w:World}{a:Nat}{ca cb:Array Value}{ta tb:TypeId}(h1:w.heap[a]?=some (.cells ca ta (0,0)))(h2:w.heap[b]?=some (.cells cb tb (0,0)))(h:ta≠tb):a≠b:=by
 rintro rfl;rw[h1]at h2;injection h2 with h2;injection h2 with _ h2;exact h h2
def Bl(S:Nat->Prop)(x:Nat)(bv:Value)(p:Int×St)(w:World)(e:Ending)(w':World):Prop:=e=.returned (vj p.1)/\AX w' (AA S w w') x p.2 bv/\Ac S w w'
theorem Bl.same{S:Nat->Prop}{x:Nat}{st:St}{w w':World}{er:Int}{bv:Value}(h:AX w S x st bv)(hb:uj w w'):Bl S x bv (er,st) w (.returned (vj er)) w':=
 ⟨rfl,(h.keep fun g _ hg=>hb.block g hg).mono fun _ hg=>AI hg,Ac.below hb⟩
def B4(w:World)(b:Nat)(F:Nat->Value):Prop:=∃cur:Array Value,w.heap[b]?=some (.cells cur 174 (0,0))/\cur.size=31/\∀o,o<31->cur[o]?=some (F o)
def upO(F:Nat->Value)(o:Nat)(u:Value):Nat->Value:=fun k=>if k=o then u else F k
theorem B4.set{w:World}(h:B4 w b F)(o:Nat)(u:Value):B4 (w.setCell (jA b o) u) b (upO F o u):=by
 obtain⟨cur,h1,h2,h3⟩:=h;refine⟨_,bH w b o cur _ u h1,by simpa using h2,fun k hk=>?_⟩;unfold upO;rw[bN];by_cases e:o=k
 ·subst e;rw[if_pos rfl,if_pos rfl,if_pos (by omega)]
 ·rw[if_neg e,if_neg (fun h=>e h.symm)];exact h3 k hk
theorem B4.keep{w w':World}(h:B4 w b F)(hk:w'.heap[b]?=w.heap[b]?):B4 w' b F:=by
 obtain⟨cur,h1,h2⟩:=h;exact⟨cur,hk.trans h1,h2⟩
theorem B4.congr{w:World}{F':Nat->Value}(h:B4 w b F)(hF:∀o,o<31->F' o=F o):B4 w b F':=by
 obtain⟨cur,h1,h2,h3⟩:=h;exact⟨cur,h1,h2,fun o ho=>by rw[hF o ho];exact h3 o ho⟩
def upG(G:Int->Nat->Value)(i:Int)(F:Nat->Value):Int->Nat->Value:=fun p=>if p=i then F else G p
theorem Dv.other{blk:Int->Nat}{st st':St}{p:Int}(h:Dv blk st p F)(hw:st'.w=st.w)(hh:st'.h=st.h)(hs:p≠-1->st'.sf p.toNat=st.sf p.toNat):Dv blk st' p F:=by
 have e:A9 st' p=A9 st p:=by
  unfold A9;by_cases e:p= -1
  ·rw[if_pos e,if_pos e,hw,hh]
  ·rw[if_neg e,if_neg e,hs e]
 refine⟨h.num,?_,by rw[e];exact h.now,?_,?_,h.kep⟩
 ·rw[h.par];by_cases e:p= -1
  ·rw[if_pos e,if_pos e]
  ·rw[if_neg e,if_neg e,hs e]
 ·obtain⟨l,h1,h2⟩:=h.next;exact⟨l,h1,fun e=>by rw[hs e];exact h2 e⟩
 ·obtain⟨t,z,b,h1,h2,h3,h4⟩:=h.stk;exact⟨t,z,b,h1,h2,h3,fun e=>by rw[hs e];exact h4 e⟩
theorem Dw.ne{t T:TypeId}(h:Dw t)(hT:¬Dw T):t≠T:=fun e=>hT (e▸h)
section
variable{w:World}{S:Nat->Prop}{x:Nat}{st:St}{bv:Value}{sc mp:Nat}{blk:Int->Nat}{G:Int->Nat->Value}
theorem AR.upd(h:AR w S x st bv sc mp blk G){i:Nat}(hi:i∈st.order)(hil:i<st.sfs.length){gf:Sf->Sf}(hpar:∀s,(gf s).parent=s.parent)(hoth:∀g,g<w.heap.size->g≠blk i->w'.heap[g]?=w.heap[g]?)(hs:B4 w' (blk i) F)(h2:F 2=G i 2)(hc:Dv blk (Go.Proofs.YtofinpocigbbeaaGreat.upd st i gf) i F)(hd:SfD w S F (gf (st.sf i))):AR w' S x (Go.Proofs.YtofinpocigbbeaaGreat.upd st i gf) bv sc mp blk (upG G i F):=by
 have hA:=B7 (g:=gf) hil hpar;obtain⟨cur,hcur,hcs⟩:=h.srf i (Af hi);have hlt:∀ {g:Nat} {o:Obj},w.heap[g]?=some o->g<w.heap.size:=fun{g o} hg=>(aM.1 hg).1;have on2:∀p:Int,upG G i F p 2=G p 2:=fun p=>by
  unfold upG;by_cases e:p=i
  ·subst e;rw[if_pos rfl,h2]
  ·rw[if_neg e]
 refine⟨(hoth x (hlt h.scr) (neT h.scr hcur (by decide))).trans h.scr,?_,h.map.keep (hoth mp h.map.lt (fun e=>h.map.ne hcur e.symm)),fun p hp=>?_,h.own,h.inj,fun p hp=>?_,fun p p' hp hp' hne g=>?_,fun p hp=>?_,fun j hj=>?_⟩
 ·rw[hA.len];exact(hoth sc (hlt h.sce) (neT h.sce hcur (by decide))).trans h.sce
 ·unfold upG;by_cases e:p=i
  ·subst e;rw[if_pos rfl];exact hs
  ·rw[if_neg e];have hb:blk p≠blk i:=fun e2=>e (h.inj p i hp (Af hi) e2);obtain⟨c2,k1,k2⟩:=h.srf p hp;exact⟨c2,(hoth _ (hlt k1) hb).trans k1,k2⟩
 ·rw[on2,hA.kids];exact(h.on p hp).other fun g c hg=>hoth g (hlt hg) (neT hg hcur (by decide))
 ·rw[on2,on2];exact h.apart p p' hp hp' hne g
 ·unfold upG;by_cases e:p=i
  ·subst e;rw[if_pos rfl];exact hc
  ·rw[if_neg e];refine(h.cells p hp).other rfl rfl fun hp1=>?_;rw[Bf st i gf _ hil,if_neg];rcases hp with rfl|⟨j,rfl,_⟩
   ·exact absurd rfl hp1
   ·rw[aX];exact fun e2=>e (by rw[e2])
 ·have hkd:Bq w w':=fun g cur t ht e=>hoth g (hlt e) (neT e hcur (ht.ne (by unfold Dw;decide)));unfold upG;by_cases e:(j:Int)=i
  ·have e2:j=i:=by omega
   subst e2;rw[if_pos rfl,Bf st j gf _ hil,if_pos rfl];exact hd.kd hkd
  ·rw[if_neg e,Bf st i gf _ hil,if_neg (fun e2=>e (by rw[e2]))];exact(h.data j hj).kd hkd
end
theorem Cc{w:World}{S:Nat->Prop}{x:Nat}{st:St}{bv:Value}{sc mp:Nat}{blk:Int->Nat}{G:Int->Nat->Value}(h:AR w S x st bv sc mp blk G)(id:Int)(hid:∀i∈st.order,(i:Int)≠id):
  Calls prog 58 #[pj sc,vj id] w fun e w'=>e=.returned (.pointer none)/\w'=w:=by
 obtain⟨v,hl,hv⟩:=h.map.lookup underlying150 underlying3 (IG w) id;obtain⟨k0,k1,k2,k3,k4⟩:=h.sceCells;rcases hv with⟨rfl,_⟩|⟨i,hi,e,_⟩
 ·clear h;go_enter func58,ntmps58
  go_wp2_with fail
  go_ret;exact⟨rfl,rfl⟩
 ·exact absurd e.symm (hid i hi)
theorem Cd{w:World}{S:Nat->Prop}{x:Nat}{st:St}{bv:Value}{sc mp:Nat}{blk:Int->Nat}{G:Int->Nat->Value}(h:AR w S x st bv sc mp blk G)(i:Nat)(hi:i∈st.order):
  Calls prog 58 #[pj sc,vj (i:Int)] w fun e w'=>e=.returned (pj (blk i))/\w'=w:=by
 obtain⟨v,hl,hv⟩:=h.map.lookup underlying150 underlying3 (IG w) (i:Int);obtain⟨k0,k1,k2,k3,k4⟩:=h.sceCells;rcases hv with⟨rfl,hv⟩|⟨j,hj,e,rfl⟩
 ·exact absurd rfl (hv i hi)
 ·have:i=j:=by omega
  subst this;clear h;go_enter func58,ntmps58
  go_wp2_with fail
  go_ret;exact⟨rfl,rfl⟩
variable{G:Nat->Value}{S:Nat->Prop}{blk:Int->Nat}{bv:Value}{x:Nat}{st:St}
theorem Gg(hw:Wf st){id:Int}(h:st.isB id=false):∀i∈st.order,(i:Int)≠id:=fun i hi e=>by
 have:=(AV hw id).2 ⟨i,e.symm,hi⟩;rw[h]at this;cases this
theorem setOther{w:World}{b:Nat}(o:Nat)(u:Value):∀g,g<w.heap.size->g≠b->(w.setCell (jA b o) u).heap[g]?=w.heap[g]? :=fun g _ hne=>aL w (jA b o) g u hne
theorem CS(i:Nat):(i:Int)≠-1:=by omega
theorem C0(st:St)(i:Nat):A9 st (i:Int)=(st.sf i).now:=by
 unfold A9;rw[if_neg (CS i),aX]
structure Dk(blk:Int->Nat)(s:Sf)(i:Nat)(G:Nat->Value):Prop where
 num:G 0=vj (i:Int)
 par:G 1=BE (blk s.parent)
 now:GV G 3 s.now
 next:GV G 14 s.next
 stk:∃(t:Bool) (z:Int) (b:Bool),G 25=.bool t/\G 26=vj z/\G 27=.bool b/\t=s.ask/\(t=true->z=s.sib/\b=s.above)
 kep:∃kw kh a m c,G 28=vj kw/\G 29=vj kh/\G 30=.slice a m c
theorem Dv.nat(h:Dv blk st i G):Dk blk (st.sf i) i G:=by
 have hne:=CS i;refine⟨h.num,?_,?_,?_,?_,h.kep⟩
 ·have:=h.par
  rwa [if_neg hne,aX]at this
 ·have:=h.now
  rwa [C0]at this
 ·obtain⟨l,h1,h2⟩:=h.next;have:=h2 hne;rw[aX]at this
  rwa [this]at h1
 ·obtain⟨t,z,b,h1,h2,h3,h4⟩:=h.stk;have:=h4 hne;rw[aX]at this;exact⟨t,z,b,h1,h2,h3,this⟩
theorem Dk.toP(h:Dk blk (st.sf i) i G):Dv blk st i G:=by
 have hne:=CS i;refine⟨h.num,?_,?_,⟨_,h.next,fun _=>by rw[aX]⟩,?_,h.kep⟩
 ·rw[if_neg hne,aX];exact h.par
 ·rw[C0];exact h.now
 ·obtain⟨t,z,b,h1,h2,h3,h4⟩:=h.stk;exact⟨t,z,b,h1,h2,h3,fun _=>by rw[aX];exact h4⟩
theorem Dk.upd(hi:i<st.sfs.length){gf:Sf->Sf}(h:Dk blk (gf (st.sf i)) i G):Dv blk (Go.Proofs.YtofinpocigbbeaaGreat.upd st i gf) i G:=by
 refine Dk.toP ?_;rw[Bf st i gf i hi,if_pos rfl];exact h
theorem NJ(hw:Wf st)(id a b:Int)(w:World)(h:AX w S x st bv):
  Calls prog 29 #[pj x,vj id,vj a,vj b] w (Bl S x bv (Bp st id a b) w):=by
 have hB:=AV hw id;have HE6:=Aa (Bl.same (er:=6) h (aN _ _));have HE7:=Aa (Bl.same (er:=7) h (aN _ _));obtain⟨sc,mp,blk,G,h⟩:=h;obtain⟨x0,x1,xl⟩:=h.scrCells;unfold Bp;obtain⟨t,ht⟩:∃t,st.isB id=t:=⟨_,rfl⟩;rw[ht]at hB ⊢;cases t with
 |false=>
  rw[if_neg (by simp)];have HS:=Aa (Cc h id (Gg hw ht));clear hB h;go_enter func29,ntmps29
  go_wp2_with(go_at_call 58;refine HS.out.mono ?_;rintro e w' ⟨rfl,hw'⟩;replace hw':=hw'.symm;subst hw')
  go_ret;exact HE6.out
 |true=>
  rw[if_pos rfl];obtain⟨i,rfl,hio⟩:=hB.1 rfl;have hil:=hw.lt hio;rw[aX];have HS:=Aa (Cd h i hio);obtain⟨kc,kf,kl⟩:=h.at (Af hio);have c16:=kc 17 (by omega);have c17:=kc 18 (by omega);have f16:=kf 17;have f17:=kf 18;have HOk:Hid (Bl S x bv (0,upd st i (Hi a b)) w (.returned (vj 0)) ((w.setCell (jA (blk i) 17) (vj a)).setCell (jA (blk i) 18) (vj b))):=by
   have hs:B4 w (blk i) (G i):=h.srf i (Af hio);have q:=(h.cells i (Af hio)).nat;have q2:=q.next;refine⟨rfl,AX.mono ⟨sc,mp,blk,_,h.upd (gf:=Hi a b) hio hil (fun _=>rfl) (fun g hg hne=>?_) ((hs.set 17 _).set 18 _) rfl (Dk.upd hil ⟨q.num,q.par,⟨q.now.w,q.now.h,q.now.pix,q.now.x,q.now.y,q.now.c0,q.now.c1,q.now.c2,q.now.c3,q.now.cut,q.now.hint⟩,⟨q2.w,q2.h,q2.pix,rfl,rfl,q2.c0,q2.c1,q2.c2,q2.c3,q2.cut,q2.hint⟩,q.stk,q.kep⟩) ⟨(h.data i hio).pix,(h.data i hio).hint,(h.data i hio).npix,(h.data i hio).nhint,(h.data i hio).kw,(h.data i hio).kh,(h.data i hio).kept⟩⟩ (fun _ h=>AI h),((Ac.refl S w).set (.inl (h.own.2.2.2 i (Af hio))) _).set (.inl (h.own.2.2.2 i (Af hio))) _⟩;rw[setOther 18 _ g (by simpa using hg) hne,setOther 17 _ g hg hne]
  have HPost:Hid (∀e w',(-1000<=a/\a<=1000/\-1000<=b/\b<=1000->Bl S x bv (0,upd st i (Hi a b)) w e w')->(¬(-1000<=a/\a<=1000/\-1000<=b/\b<=1000)->Bl S x bv (7,st) w e w')->Bl S x bv (if-1000<=a/\a<=1000/\-1000<=b/\b<=1000 then(0,upd st i (Hi a b))else(7,st)) w e w'):=fun e w' h1 h2=>by
   split
   ·rename_i h;exact h1 h
   ·rename_i h;exact h2 h
  obtain⟨post,hpost⟩:∃P,P=Bl S x bv (if-1000<=a/\a<=1000/\-1000<=b/\b<=1000 then(0,upd st i (Hi a b))else(7,st)) w:=⟨_,rfl⟩;rw[<-hpost]at HPost ⊢;obtain⟨g,hg⟩:∃g,blk i=g:=⟨_,rfl⟩;rw[hg]at HS c16 c17 f16 f17 HOk;clear h hB kc kf kl hpost hg;have hcases:a< -1000\/(-1000<=a/\1000<a)\/(-1000<=a/\a<=1000/\b< -1000)\/(-1000<=a/\a<=1000/\-1000<=b/\1000<b)\/(-1000<=a/\a<=1000/\-1000<=b/\b<=1000):=by omega
  rcases hcases with h1|⟨h1,h2⟩|⟨h1,h2,h3⟩|⟨h1,h2,h3,h4⟩|⟨h1,h2,h3,h4⟩;all_goals
   try have hd:decide (b<=1000)=false:=cE (by omega)
   go_enter func29,ntmps29
   go_wp2_with(first
    |(go_at_call 58;refine HS.out.mono ?_;rintro e w' ⟨rfl,hw'⟩;replace hw':=hw'.symm;subst hw')
    |go_in)
   try go_ret
   refine HPost.out _ _ (fun hyes=>?_) (fun hno=>?_)
   ·first
     |(exfalso;omega)
     |exact HOk.out
   ·first
     |(exfalso;omega)
     |exact HE7.out
theorem NK(hw:Wf st)(id:Int)(w:World)(h:AX w S x st bv):
  Calls prog 36 #[pj x,vj id] w (Bl S x bv (BU st id) w):=by
 have hB:=AV hw id;have HE6:=Aa (Bl.same (er:=6) h (aN _ _));obtain⟨sc,mp,blk,G,h⟩:=h;obtain⟨x0,x1,xl⟩:=h.scrCells;unfold BU;obtain⟨t,ht⟩:∃t,st.isB id=t:=⟨_,rfl⟩;rw[ht]at hB ⊢;cases t with
 |false=>
  rw[if_neg (by simp)];have HS:=Aa (Cc h id (Gg hw ht));clear hB h;go_enter func36,ntmps36
  go_wp2_with(go_at_call 58;refine HS.out.mono ?_;rintro e w' ⟨rfl,hw'⟩;replace hw':=hw'.symm;subst hw')
  go_ret;exact HE6.out
 |true=>
  rw[if_pos rfl];obtain⟨i,rfl,hio⟩:=hB.1 rfl;have hil:=hw.lt hio;rw[aX];have HS:=Aa (Cd h i hio);obtain⟨kc,kf,kl⟩:=h.at (Af hio);have c18:=kc 19 (by omega);have c19:=kc 20 (by omega);have c20:=kc 21 (by omega);have c21:=kc 22 (by omega);have c22:=kc 23 (by omega);have f18:=kf 19;have f19:=kf 20;have f20:=kf 21;have f21:=kf 22;have f22:=kf 23;have HOk:Hid (Bl S x bv (0,upd st i Fh) w (.returned (vj 0)) (((((w.setCell (jA (blk i) 19) (vj 0)).setCell (jA (blk i) 20) (vj 0)).setCell (jA (blk i) 21) (vj 0)).setCell (jA (blk i) 22) (vj 0)).setCell (jA (blk i) 23) (.bool false))):=by
   have hs:B4 w (blk i) (G i):=h.srf i (Af hio);have q:=(h.cells i (Af hio)).nat;have q2:=q.next;have ho:=h.own.2.2.2 i (Af hio);refine⟨rfl,AX.mono ⟨sc,mp,blk,_,h.upd (gf:=Fh) hio hil (fun _=>rfl) (fun g hg hne=>?_) (((((hs.set 19 _).set 20 _).set 21 _).set 22 _).set 23 _) rfl (Dk.upd hil ⟨q.num,q.par,⟨q.now.w,q.now.h,q.now.pix,q.now.x,q.now.y,q.now.c0,q.now.c1,q.now.c2,q.now.c3,q.now.cut,q.now.hint⟩,⟨q2.w,q2.h,q2.pix,q2.x,q2.y,rfl,rfl,rfl,rfl,rfl,q2.hint⟩,q.stk,q.kep⟩) ⟨(h.data i hio).pix,(h.data i hio).hint,(h.data i hio).npix,(h.data i hio).nhint,(h.data i hio).kw,(h.data i hio).kh,(h.data i hio).kept⟩⟩ (fun _ h=>AI h),(((((Ac.refl S w).set (.inl ho) _).set (.inl ho) _).set (.inl ho) _).set (.inl ho) _).set (.inl ho) _⟩;rw[setOther 23 _ g (by simpa using hg) hne,setOther 22 _ g (by simpa using hg) hne,setOther 21 _ g (by simpa using hg) hne,setOther 20 _ g (by simpa using hg) hne,setOther 19 _ g hg hne]
  obtain⟨post,hpost⟩:∃P,P=Bl S x bv (0,upd st i Fh) w:=⟨_,rfl⟩;rw[<-hpost]at HOk ⊢;obtain⟨g,hg⟩:∃g,blk i=g:=⟨_,rfl⟩;rw[hg]at HS c18 c19 c20 c21 c22 f18 f19 f20 f21 f22 HOk;clear h hB kc kf kl hpost hg;go_enter func36,ntmps36
  go_wp2_with(first
   |(go_at_call 58;refine HS.out.mono ?_;rintro e w' ⟨rfl,hw'⟩;replace hw':=hw'.symm;subst hw')
   |go_in)
  try go_ret
  exact HOk.out
variable{p:Int×St}{w:World}
theorem Bl.after{W:World}{e:Ending}{w':World}(hb:uj w W)(h:Bl S x bv p W e w'):Bl S x bv p w e w':=by
 obtain⟨h1,h2,h3⟩:=h;refine⟨h1,h2.mono fun g hg=>?_,(Ac.below hb).trans (h3.mono fun g _ hs=>.inl hs)⟩;rcases hg with hg|⟨hg1,hg2⟩
 ·exact .inl hg
 ·exact .inr ⟨bh hb.size hg1,hg2⟩
theorem Bl.then{e:Ending}{w1 w2:World}(h:Bl S x bv p w e w1)(hb:uj w1 w2):Bl S x bv p w e w2:=by
 obtain⟨h1,h2,h3⟩:=h;refine⟨h1,(h2.keep fun g _ hg=>hb.block g hg).mono fun g hg=>?_,h3.after hb⟩;rcases hg with hg|⟨hg1,hg2⟩
 ·exact .inl hg
 ·exact .inr ⟨hg1,aQ hg2 hb.size⟩
theorem Rl(g:Nat)(a0 a1 a2 a3:Int)(F:Nat->Value)(w:World)(h:B4 w g F):
  Calls prog 69 #[pj g,.agg #[vj a0,vj a1,vj a2,vj a3]] w fun e w'=>e=.returned (.tuple #[])/\
   w'=(((((w.setCell (jA g 19) (vj a0)).setCell (jA g 20) (vj a1)).setCell (jA g 21) (vj a2)).setCell (jA g 22) (vj a3)).setCell (jA g 23) (.bool true)).alloc (.cells #[vj a0,vj a1,vj a2,vj a3] 53):=by
 obtain⟨cur,h1,h2,h3⟩:=h;have hlt:g<w.heap.size:=(aM.1 h1).1;have hc:∀j,j<31->w.cell? (jA g j)=some (F j):=fun j hj=>by
  rw[aP _ _ _ _ _ _ h1];exact h3 j hj
 have hf:∀j,w.frozen? (jA g j)=false:=fun j=>by simp[World.frozen?,h1]
 have c18:=hc 19 (by omega);have c19:=hc 20 (by omega);have c20:=hc 21 (by omega);have c21:=hc 22 (by omega);have c22:=hc 23 (by omega);have f18:=hf 19;have f19:=hf 20;have f20:=hf 21;have f21:=hf 22;have f22:=hf 23;have hgn:¬g=w.heap.size:=by omega
 clear hc hf h1 h2 h3;go_enter func69,ntmps69
 go_wp2_with fail
 exact cV (v:=.tuple #[]) (by simp[results,results69]) rfl ⟨rfl,rfl⟩
theorem Rm{st:St}(hw:Wf st)(id a0 a1 a2 a3:Int)(w:World)(h:AX w S x st bv):
  Calls prog 35 #[pj x,vj id,.agg #[vj a0,vj a1,vj a2,vj a3]] w (Bl S x bv (Dj st id (a0,a1,a2,a3) (AU (a0,a1,a2,a3))) w):=by
 have hB:=AV hw id;have hb1:=fun o=>al1 (aO w.heap.size) o;have hb2:=fun o1 o2=>al2 (aO w.heap.size) o1 o2;have HE6:=Aa (fun o=>Bl.same (er:=6) h (hb1 o));have HE3:=Aa (fun o1 o2=>Bl.same (er:=3) h (hb2 o1 o2));obtain⟨sc,mp,blk,G,h⟩:=h;obtain⟨x0,x1,xl⟩:=h.scrCells;have hxn:¬x=w.heap.size:=by omega
 unfold Dj;obtain⟨t,ht⟩:∃t,st.isB id=t:=⟨_,rfl⟩;rw[ht]at hB ⊢;cases t with
 |false=>
  rw[if_neg (by simp)];have HS:=Aa (fun o=>Cc (h.below (hb1 o)) id (Gg hw ht));clear hB h hb1 hb2 HE3;go_enter func35,ntmps35
  go_wp2_with(go_at_call 58;refine(HS.out _).mono ?_;rintro e w' ⟨rfl,rfl⟩)
  go_ret;exact HE6.out _
 |true=>
  rw[if_pos rfl];obtain⟨i,rfl,hio⟩:=hB.1 rfl;have hil:=hw.lt hio;rw[aX];have HS:=Aa (fun o=>Cd (h.below (hb1 o)) i hio);have HOk:Hid (∀W:World,uj w W->Bl S x bv (0,upd st i (Jm (a0,a1,a2,a3))) w (.returned (vj 0)) (((((W.setCell (jA (blk i) 19) (vj a0)).setCell (jA (blk i) 20) (vj a1)).setCell (jA (blk i) 21) (vj a2)).setCell (jA (blk i) 22) (vj a3)).setCell (jA (blk i) 23) (.bool true))):=fun W hW=>by
   have h:=h.below hW;have hs:B4 W (blk i) (G i):=h.srf i (Af hio);have q:=(h.cells i (Af hio)).nat;have q2:=q.next;have ho:=h.own.2.2.2 i (Af hio);refine Bl.after hW ⟨rfl,AX.mono ⟨sc,mp,blk,_,h.upd (gf:=Jm (a0,a1,a2,a3)) hio hil (fun _=>rfl) (fun g hg hne=>?_) (((((hs.set 19 _).set 20 _).set 21 _).set 22 _).set 23 _) rfl (Dk.upd hil ⟨q.num,q.par,⟨q.now.w,q.now.h,q.now.pix,q.now.x,q.now.y,q.now.c0,q.now.c1,q.now.c2,q.now.c3,q.now.cut,q.now.hint⟩,⟨q2.w,q2.h,q2.pix,q2.x,q2.y,rfl,rfl,rfl,rfl,rfl,q2.hint⟩,q.stk,q.kep⟩) ⟨(h.data i hio).pix,(h.data i hio).hint,(h.data i hio).npix,(h.data i hio).nhint,(h.data i hio).kw,(h.data i hio).kh,(h.data i hio).kept⟩⟩ (fun _ h=>AI h),(((((Ac.refl S W).set (.inl ho) _).set (.inl ho) _).set (.inl ho) _).set (.inl ho) _).set (.inl ho) _⟩;rw[setOther 23 _ g (by simpa using hg) hne,setOther 22 _ g (by simpa using hg) hne,setOther 21 _ g (by simpa using hg) hne,setOther 20 _ g (by simpa using hg) hne,setOther 19 _ g hg hne]
  have HM:=Aa (Hx a0 a1 a2 a3);obtain⟨ok,hok⟩:∃ok,AU (a0,a1,a2,a3)=ok:=⟨_,rfl⟩;rw[hok]at HM ⊢;obtain⟨g,hg⟩:∃g,blk i=g:=⟨_,rfl⟩;have HC:=Aa (fun o1 o2=>Rl (blk i) a0 a1 a2 a3 (G i) _ ((h.below (hb2 o1 o2)).srf i (Af hio)));have HL:=Aa hb2;rw[hg]at HS HOk HC;have HA:=Aa (fun(W:World) (o:Obj)=>al1 (aO W.heap.size) o);clear h hB hg hb1 hb2 HE6 hok;cases ok with
  |false=>
   rw[if_neg (by simp)];go_enter func35,ntmps35
   go_wp2_with(first
    |(go_at_call 58;refine(HS.out _).mono ?_;rintro e w' ⟨rfl,rfl⟩)
    |(go_at_call 68;refine(HM.out _).mono ?_;rintro e w' ⟨rfl,rfl⟩)
    |go_in)
   try go_ret
   exact HE3.out _ _
  |true=>
   rw[if_pos rfl];go_enter func35,ntmps35
   go_wp2_with(first
    |(go_at_call 58;refine(HS.out _).mono ?_;rintro e w' ⟨rfl,rfl⟩)
    |(go_at_call 68;refine(HM.out _).mono ?_;rintro e w' ⟨rfl,rfl⟩)
    |(go_at_call 69;refine(HC.out _ _).mono ?_;rintro e w' ⟨rfl,rfl⟩))
   try go_ret
   exact(HOk.out _ (HL.out _ _)).then (HA.out _ _)
end Go.Proofs.YtofinpocigbbeaaGreat
