import Derived.Test.YtofinpocigbbeaaGreatKaa
set_option linter.unusedSimpArgs false
namespace Go.Proofs.YtofinpocigbbeaaGreat
variable{i:Nat}{id p:Int}
abbrev R4:=Int×Int×Int×Int
structure Dm where
 w:Int
 h:Int
 x:Int
 y:Int
 cut:Bool
 clip:R4
 pix:Nat->R4
 hint:Int->Int->Bool
def Pc:Dm:=⟨0,0,0,0,false,(0,0,0,0),fun _=>(0,0,0,0),fun _ _=>false⟩
structure Sf where
 alive:Bool
 parent:Int
 now:Dm
 next:Dm
 ask:Bool
 sib:Int
 above:Bool
 kept:Nat->Bool
def sf0:Sf:=⟨false, -1,Pc,Pc,false,0,false,fun _=>false⟩
def JS(p:R4):Prop:=(0<=p.1/\p.1<=p.2.2.2)/\(0<=p.2.1/\p.2.1<=p.2.2.2)/\(0<=p.2.2.1/\p.2.2.1<=p.2.2.2)/\p.2.2.2<=255
structure St where
 w:Int
 h:Int
 sfs:List Sf
 order:List Nat
def St.sf(st:St)(i:Nat):Sf:=st.sfs.getD i sf0
def St.isB(st:St)(id:Int):Bool:=decide (0<=id/\id<st.sfs.length)&&(st.sf id.toNat).alive
def BX(p q:R4):R4:=(max p.1 q.1,max p.2.1 q.2.1,min p.2.2.1 q.2.2.1,min p.2.2.2 q.2.2.2)
def Di(p:R4):Bool:=decide (p.1<p.2.2.1/\p.2.1<p.2.2.2)
def nrm(p:R4):R4:=if Di p=true then p else(0,0,0,0)
def mv(r:R4)(x y:Int):R4:=(r.1+x,r.2.1+y,r.2.2.1+x,r.2.2.2+y)
theorem ME(p q:R4):BX p q=BX q p:=by
 unfold BX
 ext<;>simp<;>omega
theorem Fw(p q r:R4):BX (BX p q) r=BX p (BX q r):=by
 unfold BX
 ext<;>simp<;>omega
theorem UW(p q:R4):nrm (BX (nrm p) q)=nrm (BX p q):=by
 by_cases h:Di p=true
 ·rw[show nrm p=p by unfold nrm;rw[if_pos h]]
 ·rw[show nrm p=(0,0,0,0) by unfold nrm;rw[if_neg h]];have h1:¬Di (BX (0,0,0,0) q)=true:=by
   unfold Di BX;simp;omega
  have h2:¬Di (BX p q)=true:=by
   unfold Di BX;unfold Di at h;simp at h ⊢;omega
  unfold nrm;rw[if_neg h1,if_neg h2]
theorem UX(p:R4):(nrm p).1=(nrm p).2.2.1↔Di p=false:=by
 unfold nrm;cases h:Di p with
 |true=>
  unfold Di at h;simp at h ⊢;omega
 |false=>simp
def chainF(sf:Nat->Sf):Nat->Int->List Nat
 |0,_=>[]
 |k+1,id=>if id<0 then []else id.toNat::chainF sf k (sf id.toNat).parent
def St.chain(st:St)(id:Int):List Nat:=chainF st.sf (id+1).toNat id
def F7(sf:Nat->Sf):Prop:=∀i, -1<=(sf i).parent/\(sf i).parent<i
theorem Et(sf:Nat->Sf)(k:Nat)(id:Int)(h:id<0):chainF sf k id=[]:=by
 cases k with
 |zero=>rfl
 |succ k=>unfold chainF;rw[if_pos h]
theorem Pd{sf:Nat->Sf}(hp:F7 sf):∀(k k2:Nat) (id:Int),(id+1).toNat<=k->(id+1).toNat<=k2->chainF sf k id=chainF sf k2 id:=by
 intro k;induction k with
 |zero=>intro k2 id h _;rw[Et sf _ id (by omega),Et sf _ id (by omega)]
 |succ k ih=>
  intro k2 id h h2;by_cases hid:id<0
  ·rw[Et sf _ id hid,Et sf _ id hid]
  ·cases k2 with
   |zero=>omega
   |succ k2=>
    have h1:=hp id.toNat;unfold chainF;rw[if_neg hid,if_neg hid,ih k2 _ (by omega) (by omega)]
theorem A6(st:St)(h:id<0):st.chain id=[]:=Et _ _ _ h
theorem Av{st:St}(hp:F7 st.sf)(i:Nat):st.chain i=i::st.chain (st.sf i).parent:=by
 have h1:=hp i;unfold St.chain;rw[show((i:Int)+1).toNat=i+1 by omega]
 conv=>lhs;unfold chainF
 rw[if_neg (by omega),show(i:Int).toNat=i by omega,Pd hp i _ _ (by omega) (aO _)]
theorem Eu{st:St}(hp:F7 st.sf):∀(n:Nat) (id:Int),id<n->∀j∈st.chain id,(j:Int)<=id:=by
 intro n;induction n with
 |zero=>intro id h j hj;rw[A6 st (by omega)]at hj;cases hj
 |succ n ih=>
  intro id h j hj;by_cases hid:id<0
  ·rw[A6 st hid]at hj;cases hj
  ·obtain⟨i,rfl⟩:∃i:Nat,id=i:=⟨id.toNat,by omega⟩;rw[Av hp]at hj;have h1:=hp i;rcases cw.1 hj with rfl|hj
   ·exact Int.le_refl _
   ·have:=ih _ (by omega) j hj;omega
def St.px(st:St)(id:Int):Int:=((st.chain id).map fun i=>(st.sf i).now.x).sum
def St.py(st:St)(id:Int):Int:=((st.chain id).map fun i=>(st.sf i).now.y).sum
theorem KH(st:St)(h:id<0):st.px id=0:=by unfold St.px;rw[A6 st h];rfl
theorem KI(st:St)(h:id<0):st.py id=0:=by unfold St.py;rw[A6 st h];rfl
theorem Kr{st:St}(hp:F7 st.sf)(i:Nat):st.px i=(st.sf i).now.x+st.px (st.sf i).parent:=by unfold St.px;rw[Av hp,List.map_cons,List.sum_cons]
theorem Ks{st:St}(hp:F7 st.sf)(i:Nat):st.py i=(st.sf i).now.y+st.py (st.sf i).parent:=by unfold St.py;rw[Av hp,List.map_cons,List.sum_cons]
def St.cutBy(st:St)(r:R4)(i:Nat):R4:=if(st.sf i).now.cut=true then BX r (mv (st.sf i).now.clip (st.px i) (st.py i))else r
def St.cutN(st:St)(r:R4)(i:Nat):R4:=if(st.sf i).now.cut=true then nrm (BX r (mv (st.sf i).now.clip (st.px i) (st.py i)))else r
def St.openL(st:St):List Nat->R4
 | []=>(0,0,st.w,st.h)
 |i::l=>st.cutBy (st.openL l) i
def St.buf(st:St)(i:Nat):R4:=mv (0,0,(st.sf i).now.w,(st.sf i).now.h) (st.px i) (st.py i)
def St.seen(st:St)(i:Nat):R4:=BX (st.openL (st.chain i)) (st.buf i)
theorem Ra(st:St)(r:R4)(i j:Nat):st.cutBy (st.cutBy r i) j=st.cutBy (st.cutBy r j) i:=by
 unfold St.cutBy;split<;>split<;>first|rfl|(rw[Fw,Fw,ME (mv (st.sf i).now.clip _ _)])
theorem Rb(st:St)(r q:R4)(i:Nat):st.cutBy (BX r q) i=BX (st.cutBy r i) q:=by
 unfold St.cutBy;split
 ·rw[Fw,ME q,Fw]
 ·rfl
theorem Tm(st:St)(l:List Nat):∀(r:R4) (i:Nat),l.foldl st.cutBy (st.cutBy r i)=st.cutBy (l.foldl st.cutBy r) i:=by
 induction l with
 |nil=>intro r i;rfl
 |cons j l ih=>intro r i;rw[List.foldl_cons,List.foldl_cons,Ra,ih]
theorem Rc(st:St)(l:List Nat):∀(r q:R4),l.foldl st.cutBy (BX r q)=BX (l.foldl st.cutBy r) q:=by
 induction l with
 |nil=>intro r q;rfl
 |cons j l ih=>intro r q;rw[List.foldl_cons,List.foldl_cons,Rb,ih]
theorem Rd(st:St)(l:List Nat):l.foldl st.cutBy (0,0,st.w,st.h)=st.openL l:=by
 induction l with
 |nil=>rfl
 |cons j l ih=>rw[List.foldl_cons,Tm,ih];rfl
theorem Tn(st:St)(l:List Nat):∀r:R4,l.foldl st.cutN (nrm r)=nrm (l.foldl st.cutBy r):=by
 induction l with
 |nil=>intro r;rfl
 |cons j l ih=>
  intro r;rw[List.foldl_cons,List.foldl_cons,<-ih];congr 1
  unfold St.cutN St.cutBy;split
  ·rw[UW]
  ·rfl
theorem UY(st:St)(i:Nat):(st.chain i).foldl st.cutN (nrm (BX (0,0,st.w,st.h) (st.buf i)))=nrm (st.seen i):=by
 rw[Tn,Rc,Rd];rfl
def St.kids(st:St)(p:Int):List Nat:=st.order.filter fun i=>decide ((st.sf i).parent=p)
def DM(st:St):Nat->Int->List Nat
 |0,_=>[]
 |k+1,p=>(st.kids p).flatMap fun i=>i::DM st k i
def St.need(st:St)(p:Int):Nat:=st.sfs.length-(p+1).toNat+1
def St.dfs(st:St)(p:Int):List Nat:=DM st (st.need p) p
theorem AN{st:St}:i∈st.kids p↔i∈st.order/\(st.sf i).parent=p:=by
 unfold St.kids;rw[bY];simp
structure F8(l:Dm):Prop where
 w:0<=l.w/\l.w<=24
 h:0<=l.h/\l.h<=24
 x: -1000<=l.x/\l.x<=1000
 y: -1000<=l.y/\l.y<=1000
 c0: -2000<=l.clip.1/\l.clip.1<=2000
 c1: -2000<=l.clip.2.1/\l.clip.2.1<=2000
 c2: -2000<=l.clip.2.2.1/\l.clip.2.2.1<=2000
 c3: -2000<=l.clip.2.2.2/\l.clip.2.2.2<=2000
 pix:∀k:Nat,(k:Int)<l.w*l.h->JS (l.pix k)
theorem Ix:F8 Pc:=⟨by decide,by decide,by decide,by decide,by decide,by decide,by decide,by decide,fun k h=>by simp[Pc]at h;omega⟩
structure Wf(st:St):Prop where
 par:F7 st.sf
 nd:st.order.Nodup
 mem:∀i,i∈st.order↔i<st.sfs.length/\(st.sf i).alive=true
 up:∀i∈st.order,∀p:Nat,(st.sf i).parent=p->p∈st.order
 len:st.order.length<=12
 made:st.sfs.length<=60
 ww:1<=st.w/\st.w<=24
 hh:1<=st.h/\st.h<=24
 lk:∀i,F8 (st.sf i).now/\F8 (st.sf i).next
theorem Wf.lt{st:St}(h:Wf st)(hi:i∈st.order):i<st.sfs.length:=((h.mem i).1 hi).1
theorem Pe{st:St}(hw:Wf st):∀(k k2:Nat) (p:Int), -1<=p->st.need p<=k->st.need p<=k2->DM st k p=DM st k2 p:=by
 intro k;induction k with
 |zero=>intro k2 p _ h _;unfold St.need at h;omega
 |succ k ih=>
  intro k2 p hp h h2;cases k2 with
  |zero=>unfold St.need at h2;omega
  |succ k2=>
   unfold DM;have e:∀i∈st.kids p,(i::DM st k i)=i::DM st k2 i:=by
    intro i hi;obtain⟨h3,h4⟩:=AN.1 hi;have h5:=hw.lt h3;have h6:=hw.par i;rw[h4]at h6;unfold St.need at h h2;rw[ih k2 i (by omega) (by unfold St.need;omega) (by unfold St.need;omega)]
   rw[List.flatMap_def,List.flatMap_def,List.map_congr_left e]
theorem CN{st:St}(hw:Wf st)(p:Int)(_hp: -1<=p):st.dfs p=(st.kids p).flatMap fun i=>i::st.dfs i:=by
 unfold St.dfs;rw[show st.need p=st.sfs.length-(p+1).toNat+1 from rfl]
 conv=>lhs;unfold DM
 have e:∀i∈st.kids p,(i::DM st (st.sfs.length-(p+1).toNat) i)=i::DM st (st.need i) i:=by
  intro i hi;obtain⟨h3,h4⟩:=AN.1 hi;have h5:=hw.lt h3;have h6:=hw.par i;rw[h4]at h6;rw[Pe hw _ (st.need i) i (by omega) (by unfold St.need;omega) (aO _)]
 rw[List.flatMap_def,List.flatMap_def,List.map_congr_left e]
theorem CJ{st:St}(hw:Wf st):∀(n:Nat) (p:Nat),st.sfs.length<=p+n->∀i,i∈st.dfs p↔i∈st.order/\i≠p/\p∈st.chain i:=by
 intro n;induction n with
 |zero=>
  intro p hp i;rw[CN hw p (by omega),List.mem_flatMap];constructor
  ·rintro⟨k,hk,_⟩;obtain⟨h1,h2⟩:=AN.1 hk;have h3:=hw.lt h1;have h4:=hw.par k;omega
  ·rintro⟨h1,h2,h3⟩;have h4:=Eu hw.par (i+1) i (by omega) p h3;have h5:=hw.lt h1;omega
 |succ n ih=>
  intro p hp i;rw[CN hw p (by omega),List.mem_flatMap];constructor
  ·rintro⟨k,hk,hi⟩;obtain⟨h1,h2⟩:=AN.1 hk;have h3:=hw.lt h1;have h4:=hw.par k;have h5:p∈st.chain k:=by
    rw[Av hw.par,h2];by_cases e:p=k
    ·omega
    ·rw[Av hw.par];simp
   rcases cw.1 hi with rfl|hi
   ·exact⟨h1,by omega,h5⟩
   ·obtain⟨g1,g2,g3⟩:=(ih k (by omega) i).1 hi;have g4:=Eu hw.par (i+1) i (by omega) k g3;refine⟨g1,by omega,?_⟩;clear ih hi hp;have key:∀(n:Nat) (j:Nat),j<n->k∈st.chain j->p∈st.chain j:=by
     intro n;induction n with
     |zero=>intro j h;omega
     |succ n ihn=>
      intro j hj hk2;rw[Av hw.par]at hk2 ⊢;rcases cw.1 hk2 with rfl|hk2
      ·rw[Av hw.par]at h5;exact h5
      ·by_cases h0:(st.sf j).parent<0
       ·rw[A6 st h0]at hk2;cases hk2
       ·obtain⟨q,hq⟩:∃q:Nat,(st.sf j).parent=q:=⟨(st.sf j).parent.toNat,by omega⟩;have h9:=hw.par j;rw[hq]at hk2 h9 ⊢;exact List.mem_cons_of_mem _ (ihn q (by omega) hk2)
    exact key (i+1) i (by omega) g3
  ·rintro⟨h1,h2,h3⟩;have key:∀(m:Nat) (j:Nat),j<m->j∈st.order->j≠p->p∈st.chain j->∃k∈st.kids p,j=k\/k∈st.chain j:=by
    intro m;induction m with
    |zero=>intro j h;omega
    |succ m ihm=>
     intro j hj ho hne hc;rw[Av hw.par]at hc;rcases cw.1 hc with rfl|hc
     ·exact absurd rfl hne
     ·by_cases h0:(st.sf j).parent<0
      ·rw[A6 st h0]at hc;cases hc
      ·obtain⟨q,hq⟩:∃q:Nat,(st.sf j).parent=q:=⟨(st.sf j).parent.toNat,by omega⟩;have h9:=hw.par j;by_cases e:q=p
       ·subst e;exact⟨j,AN.2 ⟨ho,hq⟩,.inl rfl⟩
       ·rw[hq]at hc h9;obtain⟨k,hk,hk2⟩:=ihm q (by omega) (hw.up j ho q hq) e hc;refine⟨k,hk,.inr ?_⟩;rw[Av hw.par,hq];rcases hk2 with rfl|hk2
        ·rw[Av hw.par];simp
        ·exact List.mem_cons_of_mem _ hk2
   obtain⟨k,hk,hk2⟩:=key (i+1) i (by omega) h1 h2 h3;refine⟨k,hk,?_⟩;rcases hk2 with rfl|hk2
   ·simp
   ·by_cases e:i=k
    ·subst e;simp
    ·obtain⟨g1,g2⟩:=AN.1 hk;have g3:=hw.par k;rw[g2]at g3;exact List.mem_cons_of_mem _ ((ih k (by omega) i).2 ⟨h1,e,hk2⟩)
theorem MF{st:St}(hw:Wf st){a b:Nat}(ha:(st.sf a).parent=p)(hb:(st.sf b).parent=p):∀(n:Nat) (i:Nat),i<n->a∈st.chain i->b∈st.chain i->a=b:=by
 intro n;induction n with
 |zero=>intro i h;omega
 |succ n ih=>
  intro i hi h1 h2;rw[Av hw.par]at h1 h2;have h3:=hw.par i;have low:∀(c:Nat),c∈st.chain (st.sf i).parent->(c:Int)<=(st.sf i).parent:=fun c hc=>Eu hw.par i _ (by omega) c hc;rcases cw.1 h1 with rfl|h1
  ·rcases cw.1 h2 with rfl|h2
   ·rfl
   ·exfalso;rw[ha]at h2 low;have q1:=low b h2;have q2:=hw.par b;rw[hb]at q2;omega
  ·rcases cw.1 h2 with rfl|h2
   ·exfalso;rw[hb]at h1 low;have q1:=low a h1;have q2:=hw.par a;rw[ha]at q2;omega
   ·by_cases h0:(st.sf i).parent<0
    ·rw[A6 st h0]at h1;cases h1
    ·obtain⟨q,hq⟩:∃q:Nat,(st.sf i).parent=q:=⟨(st.sf i).parent.toNat,by omega⟩;rw[hq]at h1 h2 h3;exact ih q (by omega) h1 h2
theorem Jf{st:St}(hw:Wf st):∀(n:Nat) (p:Nat),st.sfs.length<=p+n->(st.dfs p).Nodup:=by
 intro n;induction n with
 |zero=>
  intro p hp;have:st.dfs p=[]:=by
   rw[List.eq_nil_iff_forall_not_mem];intro i hi;obtain⟨h1,h2,h3⟩:=(CJ hw 0 p hp i).1 hi;have h4:=Eu hw.par (i+1) i (by omega) p h3;have h5:=hw.lt h1;omega
  rw[this];exact List.nodup_nil
 |succ n ih=>
  intro p hp;rw[CN hw p (by omega)];unfold List.Nodup;rw[List.pairwise_flatMap];constructor
  ·intro i hi;obtain⟨g1,g2⟩:=AN.1 hi;have g3:=hw.par i;rw[g2]at g3;refine List.nodup_cons.2 ⟨fun h=>?_,ih i (by omega)⟩;exact((CJ hw n i (by omega) i).1 h).2.1 rfl
  ·have hk:(st.kids p).Nodup:=hw.nd.filter _;refine(List.Pairwise.and_mem.1 hk).imp ?_;rintro a b ⟨ha,hb,hab⟩ x hx y hy rfl;obtain⟨ga1,ga2⟩:=AN.1 ha;obtain⟨gb1,gb2⟩:=AN.1 hb;have qa:=hw.par a;have qb:=hw.par b;rw[ga2]at qa;rw[gb2]at qb;have ca:a∈st.chain x:=by
    rcases cw.1 hx with rfl|hx
    ·rw[Av hw.par];simp
    ·exact((CJ hw n a (by omega) x).1 hx).2.2
   have cb:b∈st.chain x:=by
    rcases cw.1 hy with rfl|hy
    ·rw[Av hw.par];simp
    ·exact((CJ hw n b (by omega) x).1 hy).2.2
   exact hab (MF hw ga2 gb2 (x+1) x (by omega) ca cb)
def St.gone(st:St)(id:Nat):List Nat:=st.order.filter fun o=>(st.chain o).contains id
theorem Ds{st:St}{id:Nat}:i∈st.gone id↔i∈st.order/\id∈st.chain i:=by
 unfold St.gone;rw[bY];simp
theorem Jg{st:St}(hw:Wf st)(id:Nat)(hid:id∈st.order):(id::st.dfs id).Perm (st.gone id):=by
 have h1:(id::st.dfs id).Nodup:=by
  rw[List.nodup_cons];exact⟨fun h=>((CJ hw st.sfs.length id (by omega) id).1 h).2.1 rfl,Jf hw st.sfs.length id (by omega)⟩
 have h2:(st.gone id).Nodup:=hw.nd.filter _;rw[List.perm_ext_iff_of_nodup h1 h2];intro a;rw[cw,CJ hw st.sfs.length id (by omega),Ds];constructor
 ·rintro(rfl|⟨a1,_,a3⟩)
  ·exact⟨hid,by rw[Av hw.par];simp⟩
  ·exact⟨a1,a3⟩
 ·rintro⟨a1,a2⟩;by_cases e:a=id
  ·exact .inl e
  ·exact .inr ⟨a1,e,a2⟩
variable{g:Sf->Sf}{id:Nat}{st st':St}
theorem UZ(hw:Wf st):∀(n:Nat) (id:Int),id<n->-1000*(n:Int)<=st.px id/\st.px id<=1000*(n:Int)/\-1000*(n:Int)<=st.py id/\st.py id<=1000*(n:Int):=by
 intro n;induction n with
 |zero=>intro id h;rw[KH st (by omega),KI st (by omega)];omega
 |succ n ih=>
  intro id h;by_cases h0:id<0
  ·rw[KH st h0,KI st h0];omega
  ·obtain⟨i,rfl⟩:∃i:Nat,id=i:=⟨id.toNat,by omega⟩;rw[Kr hw.par,Ks hw.par];have h1:=hw.par i;have h2:=ih (st.sf i).parent (by omega);have h3:=(hw.lk i).1.x;have h4:=(hw.lk i).1.y;omega
theorem EU(hw:Wf st)(id:Int)(h:id<st.sfs.length): -60000<=st.px id/\st.px id<=60000/\-60000<=st.py id/\st.py id<=60000:=by
 have h1:=UZ hw _ _ h;have h2:=hw.made;omega
structure KJ(st st':St):Prop where
 order:st'.order=st.order
 len:st'.sfs.length=st.sfs.length
 par:∀i,(st'.sf i).parent=(st.sf i).parent
theorem KJ.chainF(h:KJ st st'):∀(k:Nat) (id:Int),chainF st'.sf k id=chainF st.sf k id:=by
 intro k;induction k with
 |zero=>intro id;rfl
 |succ k ih=>intro id;unfold Go.Proofs.YtofinpocigbbeaaGreat.chainF;rw[h.par,ih]
theorem KJ.chain(h:KJ st st')(id:Int):st'.chain id=st.chain id:=h.chainF _ _
theorem KJ.kids(h:KJ st st')(p:Int):st'.kids p=st.kids p:=by
 unfold St.kids;rw[h.order];exact List.filter_congr fun i _=>by rw[h.par]
def upd(st:St)(i:Nat)(g:Sf->Sf):St:={st with sfs:=st.sfs.modify i g}
theorem Ct(st:St)(i:Nat)(g:Sf->Sf):(upd st i g).sfs.length=st.sfs.length:=by unfold upd;simp
theorem Bf(st:St)(i:Nat)(g:Sf->Sf)(j:Nat)(hi:i<st.sfs.length):(upd st i g).sf j=if j=i then g (st.sf i)else st.sf j:=by
 unfold St.sf upd;simp only[bu,List.getElem?_modify];by_cases e:j=i
 ·subst e;rw[if_pos rfl,aU hi];simp
 ·rw[if_neg e];cases st.sfs[j]?with
  |none=>rfl
  |some a=>
   simp;intro h;exact absurd h.symm e
theorem B7(hi:i<st.sfs.length)(hg:∀s,(g s).parent=s.parent):KJ st (upd st i g):=
 ⟨rfl,Ct st i g,fun j=>by
  rw[Bf st i g j hi];split
  ·rename_i e;subst e;rw[hg]
  ·rfl⟩
theorem Hz(hw:Wf st)(hi:i<st.sfs.length)(hg:∀s,(g s).parent=s.parent)(ha:∀s,(g s).alive=s.alive)(hl:F8 (g (st.sf i)).now/\F8 (g (st.sf i)).next):Wf (upd st i g):=by
 have hA:=B7 (g:=g) hi hg;refine⟨fun j=>?_,hw.nd,fun j=>?_,fun j hj p hp=>?_,hw.len,?_,hw.ww,hw.hh,fun j=>?_⟩
 ·rw[hA.par];exact hw.par j
 ·rw[hA.len,Bf st i g j hi];refine(hw.mem j).trans ?_;split
  ·rename_i e;subst e;rw[ha]
  ·rfl
 ·rw[hA.par]at hp;exact hw.up j hj p hp
 ·rw[hA.len];exact hw.made
 ·rw[Bf st i g j hi];split
  ·exact hl
  ·exact hw.lk j
def U0(p:Int):Sf:={sf0 with alive:=true,parent:=p}
def mk(st:St)(p:Int):St:={st with sfs:=st.sfs++[U0 p],order:=st.order++[st.sfs.length] }
theorem Dt(st:St)(p:Int)(i:Nat):(mk st p).sf i=if i=st.sfs.length then U0 p else st.sf i:=by
 unfold St.sf mk;simp only[bu];by_cases e:i=st.sfs.length
 ·subst e;simp
 ·rw[if_neg e];by_cases h:i<st.sfs.length
  ·rw[cA h]
  ·rw[cD (by simp;omega),cD (by omega)]
theorem Ga(st:St)(p:Int):(mk st p).sfs.length=st.sfs.length+1:=by unfold mk;simp
theorem SA(hw:Wf st)(p q:Int):(mk st p).kids q=st.kids q++(if q=p then [st.sfs.length]else []):=by
 unfold St.kids;rw[show(mk st p).order=st.order++[st.sfs.length]from rfl,List.filter_append];congr 1
 ·refine List.filter_congr fun i hi=>?_;rw[Dt,if_neg (by have:=hw.lt hi;omega)]
 ·rw[ch,Dt,if_pos rfl];show(if decide (p=q)=true then _ else _)=_;by_cases e:q=p
  ·subst e;simp
  ·rw[if_neg e,if_neg (by simpa using fun h:p=q=>e h.symm)];rfl
theorem ZB(hw:Wf st){p:Int}(hp:p= -1\/∃i:Nat,p=i/\i∈st.order)(h1:st.order.length<12)(h2:st.sfs.length<60):Wf (mk st p):=by
 have hp2: -1<=p/\p<st.sfs.length:=by
  rcases hp with rfl|⟨i,rfl,hi⟩
  ·omega
  ·have:=hw.lt hi;omega
 refine⟨fun j=>?_,?_,fun j=>?_,fun j hj q hq=>?_,?_,?_,hw.ww,hw.hh,fun j=>?_⟩
 ·rw[Dt];split
  ·rename_i e;subst e;exact hp2
  ·exact hw.par j
 ·show(st.order++[st.sfs.length]).Nodup;rw[List.nodup_append];exact⟨hw.nd,by simp,fun a ha b hb e=>by simp at hb;subst hb;subst e;have:=hw.lt ha;omega⟩
 ·show j∈st.order++[st.sfs.length]↔_;rw[bV,List.mem_singleton,Ga,Dt];by_cases e:j=st.sfs.length
  ·subst e;rw[if_pos rfl];exact⟨fun _=>⟨by omega,rfl⟩,fun _=>.inr rfl⟩
  ·rw[if_neg e,hw.mem j];constructor
   ·rintro(⟨a,b⟩|a)
    ·exact⟨by omega,b⟩
    ·exact absurd a e
   ·rintro⟨a,b⟩;exact .inl ⟨by omega,b⟩
 ·show q∈st.order++[st.sfs.length];rw[bV];left;have hj2:j∈st.order++[st.sfs.length]:=hj;rw[bV,List.mem_singleton]at hj2;rw[Dt]at hq;rcases hj2 with hj2|rfl
  ·rw[if_neg (by have:=hw.lt hj2;omega)]at hq;exact hw.up j hj2 q hq
  ·rw[if_pos rfl]at hq;have hq2:p=q:=hq;rcases hp with rfl|⟨i,rfl,hi⟩
   ·omega
   ·have:i=q:=by omega
    subst this;exact hi
 ·show(st.order++[st.sfs.length]).length<=12;simp;omega
 ·rw[Ga];omega
 ·rw[Dt];split
  ·exact⟨Ix,Ix⟩
  ·exact hw.lk j
def rm(st:St)(id:Nat):St:=
 {st with sfs:=st.sfs.mapIdx fun j s=>if(st.gone id).contains j=true then{s with alive:=false}else s,order:=st.order.filter fun o=> !(st.chain o).contains id}
theorem H8(st:St)(id:Nat):(rm st id).sfs.length=st.sfs.length:=by unfold rm;simp
theorem Hf(st:St)(hw:Wf st)(id j:Nat):(rm st id).sf j=if j∈st.gone id then{st.sf j with alive:=false}else st.sf j:=by
 unfold St.sf rm;simp only[bu,List.getElem?_mapIdx];by_cases h:j<st.sfs.length
 ·rw[aU h];simp
 ·rw[cD (by omega),if_neg]
  ·rfl
  ·intro hj;exact h (hw.lt (Ds.1 hj).1)
theorem Jh(st:St)(hw:Wf st)(id j:Nat):((rm st id).sf j).parent=(st.sf j).parent:=by
 rw[Hf st hw];split<;>rfl
theorem SB(hw:Wf st)(id:Nat)(q:Int)(hq:id∉st.chain q):(rm st id).kids q=(st.kids q).filter fun i=>decide (i≠id):=by
 unfold St.kids;rw[show(rm st id).order=st.order.filter fun(o:Nat)=> !(st.chain o).contains id from rfl,List.filter_filter,List.filter_filter];refine List.filter_congr fun i _=>?_;rw[Jh st hw];by_cases e:(st.sf i).parent=q
 ·rw[Av hw.par,e];by_cases e2:i=id
  ·subst e2;simp
  ·have:¬id=i:=fun h=>e2 h.symm;simp[e2,hq,this]
 ·simp[e]
theorem XY(hw:Wf st)(id:Nat):Wf (rm st id):=by
 have hA:∀j,j∈(rm st id).order↔j∈st.order/\id∉st.chain j:=fun j=>by
  show j∈st.order.filter _↔_;rw[bY];simp
 refine⟨fun j=>?_,hw.nd.filter _,fun j=>?_,fun j hj q hq=>?_,?_,?_,hw.ww,hw.hh,fun j=>?_⟩
 ·rw[Jh st hw];exact hw.par j
 ·rw[hA,H8,Hf st hw];constructor
  ·rintro⟨a,b⟩;rw[if_neg (fun h=>b (Ds.1 h).2)];exact(hw.mem j).1 a
  ·rintro⟨a,b⟩;split at b
   ·cases b
   ·rename_i h
    have hj:=(hw.mem j).2 ⟨a,b⟩;exact⟨hj,fun h2=>h (Ds.2 ⟨hj,h2⟩)⟩
 ·rw[Jh st hw]at hq;rw[hA]at hj ⊢;refine⟨hw.up j hj.1 q hq,fun h=>hj.2 ?_⟩;rw[Av hw.par,hq];exact List.mem_cons_of_mem _ h
 ·exact bh (ci _ _) hw.len
 ·rw[H8];exact hw.made
 ·rw[Hf st hw];split
  ·exact hw.lk j
  ·exact hw.lk j
def rsL(l:List Nat)(id sib:Nat)(above:Bool):List Nat:=
 l.flatMap fun o=>(if o=sib/\above=false then [id]else [])++((if o≠id then [o]else [])++(if o=sib/\above=true then [id]else []))
def rsI(l:List Nat)(id sib:Nat)(above:Bool):List Nat:=
 l.flatMap fun o=>(if o=sib/\above=false then [id]else [])++([o]++(if o=sib/\above=true then [id]else []))
theorem SC(id sib:Nat)(above:Bool)(hne:sib≠id):∀l:List Nat,rsL l id sib above=rsI (l.filter fun i=>decide (i≠id)) id sib above:=by
 intro l;induction l with
 |nil=>rfl
 |cons o l ih=>
  unfold rsL rsI at*;rw[ce,ih,ch];by_cases e:o=id
  ·subst e;have:¬o=sib:=fun h=>hne h.symm;simp[this]
  ·rw[if_pos (show decide (o≠id)=true by simpa using e),ce,if_pos (show o≠id from e)]
theorem Pf(id sib:Nat)(above:Bool):∀l:List Nat,sib∉l->rsI l id sib above=l:=by
 intro l;induction l with
 |nil=>intro _;rfl
 |cons o l ih=>
  intro h;have h1:¬o=sib:=fun e=>h (by rw[e];simp);have h2:=ih fun e=>h (List.mem_cons_of_mem _ e);unfold rsI at*;rw[ce,h2];simp[h1]
theorem U1(id sib:Nat)(above:Bool)(l:List Nat)(hn:l.Nodup)(k:Nat)(hk:l[k]?=some sib):rsI l id sib above=l.take (k+if above=true then 1 else 0)++id::l.drop (k+if above=true then 1 else 0):=by
 obtain⟨hkl,hk2⟩:=bL.1 hk;have hs:l=l.take k++sib::l.drop (k+1):=by
  rw[<-hk2,<-List.drop_eq_getElem_cons hkl,List.take_append_drop]
 have hn2:=hn;rw[hs,List.nodup_append,List.nodup_cons]at hn2;obtain⟨_,⟨n1,_⟩,n2⟩:=hn2;have n3:sib∉l.take k:=fun h=>n2 sib h sib (by simp) rfl;have a1:=Pf id sib above _ n3;have a2:=Pf id sib above _ n1
 conv=>lhs;rw[hs]
 unfold rsI at*;rw[cM,ce,a1,a2];cases above with
 |false=>
  simp only[Bool.false_eq_true,if_false,Nat.add_zero];rw[List.drop_eq_getElem_cons hkl,hk2];simp
 |true=>
  simp only[if_true];rw[bn hkl,hk2];simp
theorem Pg{l:List Nat}(hn:l.Nodup){sib:Nat}(above:Bool)(hne:sib≠id)(h1:id∈l)(h2:sib∈l):(rsL l id sib above).Perm l:=by
 rw[SC id sib above hne];have h3:sib∈l.filter fun i=>decide (i≠id):=by rw[bY];exact⟨h2,by simpa using hne⟩
 obtain⟨k,hk⟩:=bM.1 h3;rw[U1 id sib above _ (hn.filter _) k hk];refine List.perm_middle.trans ?_;rw[List.take_append_drop];refine(List.perm_ext_iff_of_nodup ?_ hn).2 fun a=>?_
 ·rw[List.nodup_cons];exact⟨fun h=>by rw[bY]at h;simp at h,hn.filter _⟩
 ·rw[cw,bY];constructor
  ·rintro(rfl|⟨h,_⟩)
   ·exact h1
   ·exact h
  ·intro h;by_cases e:a=id
   ·exact .inl e
   ·exact .inr ⟨h,by simpa using e⟩
theorem KK(P:Nat->Bool)(id sib:Nat)(above:Bool)(hP:P sib=P id):∀l:List Nat,(rsL l id sib above).filter P=if P id=true then rsL (l.filter P) id sib above else l.filter P:=by
 intro l;induction l with
 |nil=>simp[rsL]
 |cons o l ih=>
  unfold rsL at*;rw[ce,List.filter_append,ih];cases hb:P id with
  |true=>
   rw[hb]at hP;rw[if_pos rfl,if_pos rfl,ch];by_cases e:o=sib
   ·subst e;rw[if_pos hP,ce];congr 1
    cases above<;>by_cases e2:o=id<;>simp[hb,hP,e2]
   ·by_cases e2:o=id
    ·subst e2;rw[if_pos hb,ce];simp[e]
    ·cases ho:P o with
     |true=>rw[if_pos rfl,ce];simp[e,e2,ho]
     |false=>simp[e,e2,ho]
  |false=>
   rw[hb]at hP;have hpc:((if o=sib/\above=false then [id]else [])++((if o≠id then [o]else [])++(if o=sib/\above=true then [id]else []))).filter P=if P o=true then [o]else []:=by
    by_cases e:o=sib<;>by_cases e2:o=id<;>cases above<;>cases ho:P o<;>simp_all
   rw[hpc,ch];cases P o<;>simp
def St.puts(st:St)(id:Nat):Bool:=(st.sf id).ask&&st.isB (st.sf id).sib
def Cn(l:Dm)(k:Nat):Bool:=l.hint ((k:Int)%l.w) ((k:Int)/l.w)&&decide ((l.pix k).2.2.2=255)
def Ph(s:Sf):Sf:={s with now:=s.next,ask:=false,kept:=Cn s.next}
def cm(st:St)(id:Nat):St:=
 {upd st id Ph with order:=if st.puts id=true then rsL st.order id (st.sf id).sib.toNat (st.sf id).above else st.order}
def Hg(st:St):Prop:=∀i∈st.order,(st.sf i).ask=true->∃s:Nat,(st.sf i).sib=s/\s≠i/\s<st.sfs.length/\(st.sf s).parent=(st.sf i).parent
theorem AV(hw:Wf st)(id:Int):st.isB id=true↔∃i:Nat,id=i/\i∈st.order:=by
 unfold St.isB;rw[Bool.and_eq_true,bT];constructor
 ·rintro⟨⟨h1,h2⟩,h3⟩;exact⟨id.toNat,by omega,(hw.mem _).2 ⟨by omega,h3⟩⟩
 ·rintro⟨i,rfl,hi⟩;obtain⟨h1,h2⟩:=(hw.mem i).1 hi;exact⟨⟨by omega,by omega⟩,h2⟩
theorem KL(hw:Wf st)(hs:Hg st)(hid:id∈st.order)(h:st.puts id=true):∃s:Nat,(st.sf id).sib=s/\s≠id/\s∈st.order/\(st.sf s).parent=(st.sf id).parent:=by
 unfold St.puts at h;rw[Bool.and_eq_true]at h;obtain⟨s,h1,h2,h3,h4⟩:=hs id hid h.1;refine⟨s,h1,h2,?_,h4⟩;obtain⟨i,hi,hi2⟩:=(AV hw _).1 h.2;have:s=i:=by omega
 subst this;exact hi2
theorem MG(st:St)(id j:Nat)(hi:id<st.sfs.length):(cm st id).sf j=if j=id then Ph (st.sf id)else st.sf j:=Bf st id Ph j hi
theorem U2(st:St)(id:Nat):(cm st id).sfs.length=st.sfs.length:=Ct st id Ph
theorem KM(st:St)(id j:Nat)(hi:id<st.sfs.length):((cm st id).sf j).parent=(st.sf j).parent:=(B7 hi (g:=Ph) fun _=>rfl).par j
theorem EK(hw:Wf st)(hs:Hg st)(hid:id∈st.order):(cm st id).order.Perm st.order:=by
 show(if st.puts id=true then rsL st.order id (st.sf id).sib.toNat (st.sf id).above else st.order).Perm st.order;split
 ·rename_i h
  obtain⟨s,h1,h2,h3,h4⟩:=KL hw hs hid h;rw[h1];exact Pg hw.nd _ h2 hid h3
 ·exact List.Perm.refl _
theorem MH(hw:Wf st)(hs:Hg st)(hid:id∈st.order):Wf (cm st id):=by
 have hi:=hw.lt hid;have hP:=EK hw hs hid;have hu:=Hz (g:=Ph) hw hi (fun _=>rfl) (fun _=>rfl) ⟨(hw.lk id).2,(hw.lk id).2⟩;refine⟨hu.par,hP.nodup_iff.2 hw.nd,fun j=>?_,fun j hj p hp=>?_,?_,hu.made,hw.ww,hw.hh,hu.lk⟩
 ·rw[hP.mem_iff];exact hu.mem j
 ·rw[hP.mem_iff]at hj ⊢;exact hu.up j hj p hp
 ·rw[hP.length_eq];exact hw.len
theorem Iy(hw:Wf st)(hs:Hg st)(hid:id∈st.order)(q:Int):(cm st id).kids q=if st.puts id=true/\(st.sf id).parent=q then rsL (st.kids q) id (st.sf id).sib.toNat (st.sf id).above else st.kids q:=by
 have hi:=hw.lt hid;unfold St.kids;have e:(fun i=>decide (((cm st id).sf i).parent=q))=fun i=>decide ((st.sf i).parent=q):=by
  funext i
  rw[KM st id i hi]
 rw[e];show(if st.puts id=true then rsL st.order id (st.sf id).sib.toNat (st.sf id).above else st.order).filter _=_;by_cases h:st.puts id=true
 ·rw[if_pos h];obtain⟨s,h1,h2,h3,h4⟩:=KL hw hs hid h;rw[h1,aX,KK _ _ _ _ (by rw[h4])];by_cases e:(st.sf id).parent=q
  ·rw[if_pos (by simpa using e),if_pos ⟨h,e⟩]
  ·rw[if_neg (by simpa using e),if_neg (fun h=>e h.2)]
 ·rw[if_neg h,if_neg (fun h2=>h h2.1)]
end Go.Proofs.YtofinpocigbbeaaGreat
