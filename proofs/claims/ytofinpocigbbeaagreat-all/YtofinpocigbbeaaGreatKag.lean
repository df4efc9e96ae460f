import Derived.Test.YtofinpocigbbeaaGreatKae
import Derived.Test.YtofinpocigbbeaaGreatKad
import Derived.Test.YtofinpocigbbeaaGreatKaf
import Derived.Handy
import Derived.Maps.AppendAt
set_option maxHeartbeats 1000000
set_option maxRecDepth 100000
set_option linter.unusedSimpArgs false
namespace Go.Proofs.YtofinpocigbbeaaGreat
open Go.Proofs.Tryz Go.RowKit
theorem DK(l:List (Int×Int×Int×Int))(v:Value)(x y:Int)(w:World)(h:As w v l)(hl:l.length<=maxLen):
  Calls prog 122 #[v,vj x,vj y] w fun e w'=>e=.returned (.bool (AE l x y))/\w'=w:=by
 unfold maxLen at hl;obtain⟨a,c,rfl,hc⟩:=h;obtain⟨n,hn⟩:∃n,l.length=n:=⟨_,rfl⟩;rw[hn]at hl;rw[hn];have HC:=Aa hc;have HN:=Aa hn;clear hc hn;obtain⟨res,hres⟩:∃b,AE l x y=b:=⟨_,rfl⟩;rw[hres];have HR:=Aa hres;clear hres;go_enter func122,ntmps122
 go_wp2
 go_loopg [7] n (fun g s7 wr=>∃k:Nat,s7=vj k/\g+k=n/\(∀j (h:j<l.length),j<k->inR l[j] x y=false)/\wr=w)
 case atStart=>exact⟨0,rfl,by omega,fun j _ h=>absurd h (by omega),rfl⟩
 case round=>
  obtain⟨k,rfl,hgk,hno,rfl⟩:=hrel;have HNo:=Aa hno;clear hno;cases gk with
  |zero=>
   have hlt:¬(k:Int)<(n:Int):=by omega
   go_wp2;go_ret;refine⟨Cm ?_,rfl⟩;rw[<-HR.out];symm;unfold AE;rw[cJ];intro r hr;obtain⟨j,hj,rfl⟩:=List.getElem_of_mem hr;rw[HNo.out j hj (by have:=HN.out;omega)];simp
  |succ g=>
   have hlt:(k:Int)<(n:Int):=by omega
   have hltn:k<n:=by omega
   have hkl:k<l.length:=by have:=HN.out;omega
   obtain⟨b,off,rfl,hcs⟩:=HC.out (by omega);obtain⟨c1,c2,c3,c4⟩:=hcs k hkl;obtain⟨⟨x0,y0,x1,y1⟩,hr⟩:∃r,l[k]=r:=⟨_,rfl⟩;rw[hr]at c1 c2 c3 c4;simp only at c1 c2 c3 c4;have HK:=Aa hr;clear hr hcs;by_cases hin:x0<=x/\x<x1/\y0<=y/\y<y1
   ·have HI:Hid (inR (x0,y0,x1,y1) x y=true):=by unfold Hid inR;simpa using hin
    obtain⟨h1,h2,h3,h4⟩:=hin;go_wp2;go_ret;refine⟨Cm ?_,rfl⟩;rw[<-HR.out];symm;unfold AE;rw[cF];exact⟨l[k],aZ hkl,by rw[HK.out];exact HI.out⟩
   ·have HI:Hid (inR (x0,y0,x1,y1) x y=false):=by unfold Hid inR;simpa using hin
    have hcases:x<x0\/(x0<=x/\x1<=x)\/(x0<=x/\x<x1/\y<y0)\/(x0<=x/\x<x1/\y0<=y/\y1<=y):=by omega
    clear hin;rcases hcases with h1|⟨h1,h2⟩|⟨h1,h2,h3⟩|⟨h1,h2,h3,h4⟩;all_goals
     go_wp2
     go_roundg g
     case measure=>omega
     case rel=>
      refine⟨k+1,by go_num,by omega,fun j hj hjk=>?_,rfl⟩;by_cases e:j=k
      ·subst e;rw[HK.out];exact HI.out
      ·exact HNo.out j hj (by omega)
theorem UV(kind:Int)(p q:Bool)(w:World):
  Calls prog 123 #[vj kind,.bool p,.bool q] w fun e w'=>e=.returned (.bool (keepB kind p q))/\w'=w:=by
 have HK:Hid (keepB kind p q=if kind=0 then p||q else if kind=1 then p&&q else if kind=2 then p&& !q else p != q):=rfl;generalize keepB kind p q=r at*;have c0:(kind==0)=true\/(kind==0)=false:=by cases (kind==0)<;>simp
 have c1:(kind==1)=true\/(kind==1)=false:=by cases (kind==1)<;>simp
 have c2:(kind==2)=true\/(kind==2)=false:=by cases (kind==2)<;>simp
 rcases c0 with c0|c0
 ·cases p<;>cases q<;>
  ·go_enter func123,ntmps123
   go_wp2;go_ret;refine⟨Cm ?_,rfl⟩;rw[HK.out];simp at c0;simp[c0]
 ·rcases c1 with c1|c1
  ·cases p<;>cases q<;>
   ·go_enter func123,ntmps123
    go_wp2;go_ret;refine⟨Cm ?_,rfl⟩;rw[HK.out];simp at c1;simp[c1]
  ·rcases c2 with c2|c2
   ·cases p<;>cases q<;>
    ·go_enter func123,ntmps123
     go_wp2;go_ret;refine⟨Cm ?_,rfl⟩;rw[HK.out];simp at c2;simp[c2]
   ·cases p<;>cases q<;>
    ·go_enter func123,ntmps123
     go_wp2;go_ret;refine⟨Cm ?_,rfl⟩;rw[HK.out];simp at c0 c1 c2;simp[c0,c1,c2]
theorem JR(a b c d:Int)(w:World):
  Calls prog 174 #[.agg #[vj a,vj b,vj c,vj d]] w fun e w'=>e=.returned (.bool (AU (a,b,c,d)))/\uj w w':=by
 have HF:Hid (∀r,(r=true↔(-2000<=a/\a<=c/\c<=2000/\-2000<=b/\b<=d/\d<=2000))->r=AU (a,b,c,d)):=by
  intro r hr;unfold AU;rw[Bool.eq_iff_iff,hr];simp
 generalize AU (a,b,c,d)=res at*;have HB:Hid (uj w ((w.alloc (.cells #[vj a,vj b,vj c,vj d] 53)).alloc (.cells #[vj a,vj b,vj c,vj d] 3))):=((aN _ _).alloc (aO _) _).alloc (by simp) _;go_enter func174,ntmps174
 go_wp2;refine wp_loop_rounds 5 ?_;repeat any_goals (rw[rounds_succ];go_wp2)
 all_goals
  go_ret;refine⟨Cm (HF.out _ ?_),HB.out⟩;simp
  try omega
theorem Er(l:List (Int×Int×Int×Int))(v:Value)(w:World)(h:As w v l)(hl:l.length<=maxLen):
  Calls prog 120 #[v] w fun e w'=>e=.returned (vj (if l.all AU=true then 0 else 3))/\uj w w':=by
 unfold maxLen at hl;have HR:=Aa h;obtain⟨va,vc,hv⟩:=h.form;obtain⟨n,hn⟩:∃n,l.length=n:=⟨_,rfl⟩;have HN:=Aa hn;rw[hn]at hv hl;have HV:=Aa hv;rw[hv];obtain⟨res,hres⟩:∃r:Int,(if l.all AU=true then 0 else 3)=r:=⟨_,rfl⟩;rw[hres];have HRes:=Aa hres;clear h hv hn hres;go_enter func120,ntmps120
 go_wp2
 go_loopg [3] n (fun g s3 wr=>∃q:Nat,s3=vj q/\g+q=n/\(∀r∈l.take q,AU r=true)/\uj w wr)
 case atStart=>exact⟨0,rfl,by omega,fun r hr=>by simp at hr,aN _ _⟩
 case round=>
  obtain⟨q,rfl,hgq,hfit,hbr⟩:=hrel;cases gk with
  |zero=>
   have hq:¬(q:Int)<(n:Int):=by omega
   have HY:=Aa (aK hfit hbr);clear hfit hbr;go_wp2;go_ret;refine⟨CI ?_,HY.out.2⟩;rw[<-HRes.out,if_pos];rw[cG];have:=HY.out.1;rw[bw (by have:=HN.out;omega)]at this;exact this
  |succ gq=>
   have hq:(q:Int)<(n:Int):=by omega
   have hqn:q<n:=by omega
   have hql:q<l.length:=by rw[HN.out];exact hqn
   obtain⟨x',c',hx',hcs⟩:=HR.out.below hbr;rw[HV.out,HN.out]at hx';simp at hx';obtain⟨rfl,rfl⟩:=hx';obtain⟨b,off,rfl,hct⟩:=hcs (by omega);obtain⟨c1,c2,c3,c4⟩:=hct q hql;obtain⟨⟨x0,y0,x1,y1⟩,hr⟩:∃r,l[q]=r:=⟨_,rfl⟩;rw[hr]at c1 c2 c3 c4;simp only at c1 c2 c3 c4;have hzb:=Ak c1;have hwr:=hbr.size;have hM:=fun W=>JR x0 y0 x1 y1 W;obtain⟨p,hp⟩:∃p,AU (x0,y0,x1,y1)=p:=⟨_,rfl⟩;rw[hp]at hM;have HY:=Aa (aK hfit (aK hbr (aK hr hp)));clear hfit hbr hr hp hcs hct;cases p with
   |true=>
    go_wp2_with(go_at_call 174;refine(hM _).mono ?_;rintro e w' ⟨rfl,hb1⟩;have HB1:=Aa hb1;clear hb1)
    go_roundg gq
    case measure=>omega
    case rel=>
     obtain⟨hfit,hbr,hr,hp⟩:=HY.out;refine⟨q+1,by go_num,by omega,fun r hr'=>?_,hbr.trans (HB1.out.mono hwr)⟩;rw[bn hql,hr]at hr';simp at hr';rcases hr' with h|h
     ·exact hfit r h
     ·subst h;exact hp
   |false=>
    go_wp2_with(go_at_call 174;refine(hM _).mono ?_;rintro e w' ⟨rfl,hb1⟩;have HB1:=Aa hb1;clear hb1)
    go_ret;obtain⟨hfit,hbr,hr,hp⟩:=HY.out;refine⟨CI ?_,hbr.trans (HB1.out.mono hwr)⟩;rw[<-HRes.out,if_neg];rw[Bool.not_eq_true,List.all_eq_false];exact⟨l[q],aZ hql,by rw[hr,hp];simp⟩
def ET(w:World)(base:Nat)(v:Value)(E:List Int):Prop:=w.ownsRow base 3 1 v E.length (E.map (Value.int .i64))/\(E=[]->v=jj)
theorem ET.at{w:World}{base:Nat}{v:Value}{E:List Int}(h:ET w base v E)(hne:E≠[]):∃g c,v=sj g E.length c/\base<=g/\g<w.heap.size/\E.length<=c/\∀j (hj:j<E.length),w.cell? (jA g j)=some (vj E[j]):=by
 have hpos:0<E.length:=by cases E with
  |nil=>exact absurd rfl hne
  |cons a E=>simp
 obtain⟨h1,h2⟩:=h;have hf:=h1.form hpos;obtain⟨g,c,rfl,hb,hl⟩:=hf;have cs:=h1.cells (g:=g) rfl;refine⟨g,c,rfl,hb,hl,?_,fun j hj=>?_⟩
 ·rcases h1.2 with⟨h,_⟩|⟨g',cap,cur,e,_,_,hle,_⟩
  ·simp at h
  ·simp at e;omega
 ·have:=cs j (vj E[j]) (by rw[bZ,aU hj];rfl);rw[Bn]at this;exact this
theorem EJ:(prog.info? 3).map (fun i=>(i.zero,i.size,i.bytes))=some (some (vj 0),1,8):=by kernel_rfl
theorem A7{w:World}{base:Nat}{e:TypeId}{size g n cap:Nat}{xs:List Value}(h:w.ownsRow base e size (sj g n cap) n xs):n<=cap:=by
 rcases h.2 with⟨h,_⟩|⟨g',cap',cur,e,_,_,hle,_⟩
 ·simp at h
 ·simp at e;omega
theorem Q9(x:Int)(base:Nat)(w:World)(hb:base<=w.heap.size):
  Calls prog 121 #[jj,vj x] w fun e w'=>∃u,e=.returned u/\ET w' base u [x]/\Below base w w':=by
 obtain⟨i0,hi0,hz0,hz1,hz2⟩:=cW EJ;go_enter func121,ntmps121
 go_wp2;refine wp_loop_rounds 1 ?_;rw[rounds_succ]
 go_wp2_with(at_builtin;refine wpList_append_lies _ rfl (.tmp 39) (.tmp 41) 24 rfl base 3 i0 (vj 0) 1 8 underlying24 hi0 hz0 hz1 hz2 rfl (by decide) (jj) 0 [] rfl (bA _ _ _ _) (jA w.heap.size 0) 1 1 [vj x] rfl rfl (bI (cs:=#[vj x]) (t:=3) (fr:=(0,0)) (aR w _)) (by simp[Value.oneCell']) (by omega) (by unfold maxLen;omega) (by omega) (by simp;omega) _ rfl ?_;intro g cp w1 hown1 hgrow hat hlt;have HO1:=Aa hown1;have HG1:=Aa hgrow;have hcp:1<=cp:=A7 hown1;clear hown1 hgrow hat)
 go_ret;exact⟨_,rfl,⟨HO1.out,fun h=>by simp at h⟩,((aN _ _).alloc hb _).grown HG1.out (by simp;omega) fun k hk=>by simp[Value.ownBlock]at hk⟩
variable{base c g n size:Nat}{e:TypeId}{v:Value}{w:World}{xs:List Value}
theorem Dr{j:Nat}(h:w.ownsRow base e size (sj g n c) n xs)(u:Value):(w.setCell (jA g j) u).ownsRow base e size (sj g n c) n (xs.set j u):=by
 obtain⟨e1,e2⟩:=h;rcases e2 with⟨e2,_⟩|⟨g',cap',cur,e3,e4,e5,e6,e7,e8,e9⟩
 ·simp at e2
 ·simp at e3;obtain⟨rfl,rfl⟩:=e3;refine⟨by rw[bG];exact e1,.inr ⟨g,c,cur.setIfInBounds j u,rfl,e4,bH w g j cur e u e5,e6,e7,by simpa using e8,?_⟩⟩;rw[<-e9,Array.toList_setIfInBounds,List.take_set]
theorem CM(h:w.ownsRow base e size (sj g n c) n xs)(j:Nat):w.frozen? (jA g j)=false:=by
 obtain⟨cur,hc⟩:=Ap h (k:=g) rfl;simp[World.frozen?,hc]
theorem Am{P:Program}{ops:Array Oper}{rest:List Oper}{o:Oper}{a:Act}{Q:Exit->Act->World->Prop}(hgd:o.guard=none)(s x:Operand)(t:TypeId)
  (ho:o.op=.call {callee:=.builtin .append,args:=#[s,x],argTypes:=#[t,t] })
  (base:Nat) (e:TypeId) (i:TypeInfo) (z:Value) (size bytes:Nat) (ht:P.underlying t=some (.slice e)) (hi:P.info? e=some i) (hz:i.zero=some z)
  (hsize:i.size=size) (hby:i.bytes=bytes) (hzs:z.cells.size=size) (hsz:0<size)
  (v:Value) (n:Nat) (xs:List Value) (hs:a.eval s=v) (hown:w.ownsRow base e size v n xs)
  (vx:Value) (m:Nat) (news:List Value) (hx:a.eval x=vx) (hl:news.length=m*size) (hvx:(vx=jj/\m=0)\/∃ad c,vx=.slice (some ad) m c/\∀j u,news[j]?=some u->w.cell? (ad.add j)=some u) (h1:∀u∈news,u.oneCell'=true)
  (h63:n+m<=maxLen) (hbytes:(n+m)*bytes<=140737488355328) (hbase:base<=w.heap.size)
  (h:∀v' w',w'.ownsRow base e size v' (n+m) (xs++news)->w.grownBy w' v.ownBlock->(v'=jj↔v=jj/\m=0)->(v'.ownBlock=v.ownBlock\/v'.ownBlock=some w.heap.size)->wpList P ops Q rest (a.put o.dst v') w'):
  wpList P ops Q (o::rest) a w:=by
 rcases hvx with⟨hv,hm⟩|⟨ad,c,hv,hnews⟩
 ·subst hv hm;refine wpList_plain hgd fun K hK=>?_;have hr:=run_append_owned_none (P:=P) (w:=w) base t o.type e i size ht hi v n xs hown;unfold Oper.wp execOp;simp only[ho,resolve,invoke,builtin,Sem.run_bind,Sem.run_pure,Result.andThen_ok,cK,List.map_cons,List.map_nil,hs,hx,hr];have hn0:news=[]:=List.length_eq_zero_iff.mp (by rw[hl,Nat.zero_mul]);subst hn0;refine hK _ _ (h v w (by rw[List.append_nil,Nat.add_zero];exact hown) ⟨rfl,rfl,rfl,aO _,fun _ _ _=>rfl⟩ (by simp) (.inl rfl))
 ·exact wpList_append_own_at w hgd s x t ho base e i z size bytes ht hi hz hsize hby hzs hsz v n xs hs hown ad m c news (hx.trans hv) hl hnews h1 h63 hbytes hbase h
theorem Es(b off j:Nat):((jA b off):Addr).add j=(jA b (off+j)):=by unfold Addr.add;split<;>simp_all
theorem DL{l:List (Int×Int×Int×Int)}(h:As w v l)(hn:l=[]->v=jj\/∃ad c,v=.slice (some ad) 0 c):(v=jj/\l.length=0)\/∃ad c,v=.slice (some ad) l.length c/\∀j u,(Ae l)[j]?=some u->w.cell? (ad.add j)=some u:=by
 by_cases hl:l=[]
 ·rcases hn hl with hn|⟨ad,c,hn⟩
  ·exact .inl ⟨hn,by rw[hl];rfl⟩
  ·exact .inr ⟨ad,c,by rw[hl];exact hn,fun j u hu=>by rw[hl]at hu;simp[Ae]at hu⟩
 ·right;have hpos:0<l.length:=by cases l with
   |nil=>exact absurd rfl hl
   |cons a l=>simp
  obtain⟨a,c,rfl,hc⟩:=h;obtain⟨b,off,rfl,hcs⟩:=hc hpos;refine⟨_,c,rfl,fun j u hu=>?_⟩;have hj:j<l.length*4:=by
   rw[<-AT];exact(bL.1 hu).1
  obtain⟨k,hk⟩:∃k,j/4=k:=⟨_,rfl⟩;have hkl:k<l.length:=by omega
  obtain⟨q1,q2,q3,q4⟩:=Cs l k hkl;obtain⟨c1,c2,c3,c4⟩:=hcs k hkl;rw[Es];have hcase:j=k*4\/j=k*4+1\/j=k*4+2\/j=k*4+3:=by omega
  clear hk hj;rcases hcase with rfl|rfl|rfl|rfl
  ·rw[q1]at hu;rw[<-hu];exact c1
  ·rw[q2]at hu;rw[<-hu];exact c2
  ·rw[q3]at hu;rw[<-hu];exact c3
  ·rw[q4]at hu;rw[<-hu];exact c4
theorem BK(l:List (Int×Int×Int×Int)):∀u∈Ae l,u.oneCell'=true:=by
 intro u hu;unfold Ae at hu;rw[List.mem_flatMap]at hu;obtain⟨r,_,hu⟩:=hu;simp at hu;rcases hu with rfl|rfl|rfl|rfl<;>rfl
theorem Al(h:w.ownsRow base e size v n xs):∃a c,v=.slice a n c:=by
 rcases h.2 with⟨h,h0⟩|⟨g,cap,cur,h,_⟩
 ·exact⟨none,0,by rw[h,h0]⟩
 ·exact⟨_,_,h⟩
variable{S S':Nat->Prop}{T t:TypeId}{a b c w':World}{cur:Array Value}{k:Nat}
structure Ac(S:Nat->Prop)(w w':World):Prop where
 os:w'.os=w.os
 tape:w'.tape=w.tape
 output:w'.output=w.output
 size:w.heap.size<=w'.heap.size
 block:∀g,g<w.heap.size->¬S g->w'.heap[g]?=w.heap[g]?
def AA(S:Nat->Prop)(w w':World):Nat->Prop:=fun g=>S g\/(w.heap.size<=g/\g<w'.heap.size)
theorem Ac.refl(S:Nat->Prop)(w:World):Ac S w w:=⟨rfl,rfl,rfl,aO _,fun _ _ _=>rfl⟩
theorem Ac.below(h:uj w w'):Ac S w w':=⟨h.os,h.tape,h.output,h.size,fun g hg _=>h.block g hg⟩
theorem Ac.to_below{B:Nat}(h:Ac S w w')(hS:∀g,S g->B<=g)(hB:B<=w.heap.size):Below B w w':=
 ⟨h.os,h.tape,h.output,h.size,fun g hg=>h.block g (by omega) fun hs=>by have:=hS g hs;omega⟩
theorem Ac.trans(h:Ac S a b)(k:Ac (AA S a b) b c):Ac S a c:=
 ⟨k.os.trans h.os,k.tape.trans h.tape,k.output.trans h.output,bh h.size k.size,fun g hg hs=>by
  have h1:=h.size;rw[k.block g (by omega) (fun hh=>by rcases hh with hh|hh;exact hs hh;omega),h.block g hg hs]⟩
theorem Ac.mono(h:Ac S a b)(hS:∀g,g<a.heap.size->S g->S' g):Ac S' a b:=
 ⟨h.os,h.tape,h.output,h.size,fun g hg hs=>h.block g hg fun hh=>hs (hS g hg hh)⟩
theorem Ac.grown{u:Option Nat}(h:Ac S a b)(k:b.grownBy c u)(hu:∀g,u=some g->S g\/a.heap.size<=g):Ac S a c:=
 ⟨k.os.trans h.os,k.tape.trans h.tape,k.output.trans h.output,bh h.size k.size,fun g hg hs=>by
  have h1:=h.size;rw[k.block g (by omega) (fun e=>by rcases hu g e.symm with hh|hh;exact hs hh;omega),h.block g hg hs]⟩
theorem Ac.after(h:Ac S a b)(k:uj b c):Ac S a c:=
 ⟨k.os.trans h.os,k.tape.trans h.tape,k.output.trans h.output,bh h.size k.size,fun g hg hs=>by
  have h1:=h.size;rw[k.block g (by omega),h.block g hg hs]⟩
theorem Ac.alloc(h:Ac S a b)(o:Obj):Ac S a (b.alloc o):=
 h.grown (World.grownBy_alloc b o none) (fun g e=>by cases e)
theorem Ac.set(h:Ac S a b){p:Addr}(hp:S p.block\/a.heap.size<=p.block)(u:Value):Ac S a (b.setCell p u):=
 ⟨h.os,h.tape,h.output,by have:=h.size;simpa using this,fun g hg hs=>by
  rw[aL b p g u (fun e=>by subst e;rcases hp with hp|hp;exact hs hp;omega)];exact h.block g hg hs⟩
theorem Ac.drewN(h:Ac S a b)(n:Nat):Ac S a (b.drewN n):=⟨h.os,h.tape,h.output,h.size,h.block⟩
theorem Ac.drew(h:Ac S a b):Ac S a b.drew:=⟨h.os,h.tape,h.output,h.size,h.block⟩
theorem AI(h:S g):AA S w w' g:=.inl h
def A4(w:World)(S:Nat->Prop)(T:TypeId)(k:Nat)(v:Value)(n:Nat)(xs:List Value):Prop:=w.ownsRow 0 T k v n xs/\∀g,v.ownBlock=some g->S g
theorem A4.mono(h:A4 w S T k v n xs)(hS:∀g,S g->S' g):A4 w S' T k v n xs:=⟨h.1,fun g hg=>hS g (h.2 g hg)⟩
theorem Ai{base:Nat}{e:TypeId}{size:Nat}(h:w.ownsRow base e size v n xs)(hk:∀g,v.ownBlock=some g->w'.heap[g]?=w.heap[g]?):w'.ownsRow base e size v n xs:=by
 obtain⟨h1,h2⟩:=h;refine⟨h1,?_⟩;rcases h2 with h2|⟨g,cap,cur,e1,e2,e3,e4⟩
 ·exact .inl h2
 ·exact .inr ⟨g,cap,cur,e1,e2,by rw[hk g (by rw[e1];rfl)];exact e3,e4⟩
theorem A4.keep(h:A4 w S T k v n xs)(hk:∀g,S g->g<w.heap.size->w'.heap[g]?=w.heap[g]?):A4 w' S T k v n xs:=
 ⟨Ai h.1 fun g hg=>hk g (h.2 g hg) (h.1.lt g hg).2,h.2⟩
theorem A4.nil(w:World)(S:Nat->Prop)(T:TypeId)(k:Nat):A4 w S T k (jj) 0 []:=⟨bA _ _ _ _,fun g hg=>by simp[Value.ownBlock]at hg⟩
theorem A4.type(h:A4 w S T k v n xs)(hg:v.ownBlock=some g):∃cur,w.heap[g]?=some (.cells cur T (0,0)):=Ap h.1 hg
theorem A4.other(h:A4 w S T k v n xs)(hk:∀(g:Nat) (cur:Array Value),w.heap[g]?=some (.cells cur T (0,0))->w'.heap[g]?=w.heap[g]?):A4 w' S T k v n xs:=
 ⟨Ai h.1 fun g hg=>by
  obtain⟨cur,hc⟩:=h.type hg;exact hk g cur hc,h.2⟩
theorem A4.form(h:A4 w S T k v n xs):∃a c,v=.slice a n c:=Al h.1
theorem A4.open(h:A4 w S T k v n xs)(hn:0<n):∃g cap,v=sj g n cap/\S g/\n<=cap/\g<w.heap.size/\(∀j u,xs[j]?=some u->w.cell? (jA g j)=some u)/\∀j,w.frozen? (jA g j)=false:=by
 obtain⟨g,cap,rfl,hb,hl⟩:=h.1.form hn;have cs:=h.1.cells (g:=g) rfl;exact⟨g,cap,rfl,h.2 g rfl,A7 h.1,hl,fun j u hu=>by have:=cs j u hu;rw[Bn]at this;exact this,fun j=>CM h.1 j⟩
theorem A4.set{c:Nat}(h:A4 w S T k (sj g n c) n xs)(j:Nat)(u:Value):A4 (w.setCell (jA g j) u) S T k (sj g n c) n (xs.set j u):=⟨Dr h.1 u,h.2⟩
theorem A4.len(h:A4 w S T k v n xs):xs.length=n*k:=h.1.1
structure C2(S:Nat->Prop)(T:TypeId)(w w':World):Prop where
 os:w'.os=w.os
 tape:w'.tape=w.tape
 output:w'.output=w.output
 size:w.heap.size<=w'.heap.size
 block:∀g,g<w.heap.size->w'.heap[g]?=w.heap[g]?\/(S g/\∃cur cur':Array Value,w.heap[g]?=some (.cells cur T (0,0))/\w'.heap[g]?=some (.cells cur' T (0,0))/\cur'.size=cur.size)
theorem C2.refl(S:Nat->Prop)(T:TypeId)(w:World):C2 S T w w:=⟨rfl,rfl,rfl,aO _,fun _ _=>.inl rfl⟩
theorem C2.trans(h:C2 S T a b)(k:C2 S T b c):C2 S T a c:=by
 refine⟨k.os.trans h.os,k.tape.trans h.tape,k.output.trans h.output,bh h.size k.size,fun g hg=>?_⟩;rcases h.block g hg with h1|⟨h1,c1,c2,h3,h4,h5⟩
 ·rcases k.block g (aQ hg h.size)with k1|⟨k1,d1,d2,k3,k4,k5⟩
  ·exact .inl (k1.trans h1)
  ·exact .inr ⟨k1,d1,d2,by rw[<-h1];exact k3,k4,k5⟩
 ·rcases k.block g (aQ hg h.size)with k1|⟨k1,d1,d2,k3,k4,k5⟩
  ·exact .inr ⟨h1,c1,c2,h3,by rw[k1];exact h4,h5⟩
  ·rw[h4]at k3;injection k3 with k3;injection k3 with k3;subst k3;exact .inr ⟨h1,c1,d2,h3,k4,k5.trans h5⟩
theorem C2.below(h:uj w w'):C2 S T w w':=⟨h.os,h.tape,h.output,h.size,fun g hg=>.inl (h.block g hg)⟩
theorem C2.only(h:C2 S T w w'):Ac S w w':=⟨h.os,h.tape,h.output,h.size,fun g hg hs=>by
 rcases h.block g hg with h1|⟨h1,_⟩
 ·exact h1
 ·exact absurd h1 hs⟩
theorem C2.drewN(h:C2 S T w w')(n:Nat):C2 S T w (w'.drewN n):=⟨h.os,h.tape,h.output,h.size,h.block⟩
theorem C2.drew(h:C2 S T w w'):C2 S T w w'.drew:=⟨h.os,h.tape,h.output,h.size,h.block⟩
theorem C2.other{q:Nat×Nat}(h:C2 S T w w')(hg:w.heap[g]?=some (.cells cur t q))(ht:t≠T):w'.heap[g]?=w.heap[g]? :=by
 rcases h.block g (aM.1 hg).1 with h1|⟨_,c1,c2,h3,_,_⟩
 ·exact h1
 ·rw[hg]at h3;injection h3 with h3;injection h3 with _ h3;exact absurd h3 ht
theorem C2.row(h:C2 S T w w')(ht:t≠T)(hr:A4 w S' t k v n xs):A4 w' S' t k v n xs:=hr.other fun _ _ hc=>h.other hc ht
theorem C2.any(h:C2 S T w w')(hr:∃xs,A4 w S' T k v n xs):∃xs,A4 w' S' T k v n xs:=by
 obtain⟨xs,⟨h1,h2⟩,hS⟩:=hr;rcases h2 with h2|⟨g,cap,cur,e1,e2,e3,e4,e5,e6,e7⟩
 ·exact⟨xs,⟨h1,.inl h2⟩,hS⟩
 ·have:∃cur':Array Value,w'.heap[g]?=some (.cells cur' T (0,0))/\cur'.size=cur.size:=by
   rcases h.block g (aM.1 e3).1 with q|⟨_,c1,c2,k3,k4,k5⟩
   ·exact⟨cur,by rw[q];exact e3,rfl⟩
   ·rw[e3]at k3;injection k3 with k3;injection k3 with k3;subst k3;exact⟨c2,k4,k5⟩
  obtain⟨cur',k1,k2⟩:=this;refine⟨cur'.toList.take (n*k),⟨?_,.inr ⟨g,cap,cur',e1,e2,k1,e4,e5,by rw[k2,e6],rfl⟩⟩,hS⟩;rw[bR,cR,k2,e6];have:=bU k e4;omega
theorem C2.set(hg:w.heap[g]?=some (.cells cur T (0,0)))(h1:S g)(j:Nat)(u:Value):C2 S T w (w.setCell (jA g j) u):=by
 refine⟨rfl,rfl,rfl,by simp,fun k hk=>?_⟩;by_cases e:k=g
 ·subst e;exact .inr ⟨h1,cur,_,hg,bH w k j cur _ u hg,by simp⟩
 ·exact .inl (aL w (jA g j) k u e)
variable{B b:Nat}{cs:Array Value}{wr:World}
def Ax(w:World)(b:Nat)(T:TypeId)(k:Nat):Prop:=∃cur:Array Value,w.heap[b]?=some (.cells cur T (0,0))/\cur.size=k
theorem Ax.lt(h:Ax w b T k):b<w.heap.size:=by
 obtain⟨cur,h1,_⟩:=h;exact(aM.1 h1).1
theorem Ax.set(h:Ax w b T k)(g j:Nat)(u:Value):Ax (w.setCell (jA g j) u) b T k:=by
 obtain⟨cur,h1,h2⟩:=h;by_cases e:b=g
 ·subst e;exact⟨_,bH w b j cur _ u h1,by simpa using h2⟩
 ·exact⟨cur,by rw[aL w (jA g j) b u e];exact h1,h2⟩
theorem Ax.alloc(h:Ax w b T k)(o:Obj):Ax (w.alloc o) b T k:=by
 obtain⟨cur,h1,h2⟩:=h;exact⟨cur,by rw[Ad w o b (aM.1 h1).1];exact h1,h2⟩
theorem Ax.drew(h:Ax w b T k):Ax w.drew b T k:=h
theorem Ax.new(w:World)(cur:Array Value)(T:TypeId):Ax (w.alloc (.cells cur T)) w.heap.size T cur.size:=⟨cur,aR w _,rfl⟩
theorem Ax.keep{w':World}(h:Ax w b T k)(hk:w'.heap[b]?=w.heap[b]?):Ax w' b T k:=by
 obtain⟨cur,h1,h2⟩:=h;exact⟨cur,by rw[hk];exact h1,h2⟩
theorem Ax.cell(h:Ax w b T k)(j:Nat)(hj:j<k):∃q,w.cell? (jA b j)=some q:=by
 obtain⟨cur,h1,h2⟩:=h;exact⟨cur[j]'(by omega),by rw[aP w b j cur _ _ h1];exact Array.getElem?_eq_getElem (by omega)⟩
theorem Ax.free(h:Ax w b T k)(j:Nat):w.frozen? (jA b j)=false:=by
 obtain⟨cur,h1,h2⟩:=h;simp[World.frozen?,h1]
def Blk(w:World)(b:Nat)(T:TypeId)(cs:Array Value):Prop:=w.heap[b]?=some (.cells cs T (0,0))
theorem Blk.set(h:Blk w b T cs)(j:Nat)(u:Value):Blk (w.setCell (jA b j) u) b T (cs.setIfInBounds j u):=bH w b j cs _ u h
theorem Blk.other(h:Blk w b T cs){g:Nat}(hg:b≠g)(j:Nat)(u:Value):Blk (w.setCell (jA g j) u) b T cs:=by
 unfold Blk;rw[aL w (jA g j) b u hg];exact h
theorem Blk.alloc(h:Blk w b T cs)(o:Obj):Blk (w.alloc o) b T cs:=by
 unfold Blk;rw[Ad w o b (aM.1 h).1];exact h
theorem Blk.has(h:Blk w b T cs):Ax w b T cs.size:=⟨cs,h,rfl⟩
theorem Blk.cell(h:Blk w b T cs)(j:Nat):w.cell? (jA b j)=cs[j]? :=aP w b j cs _ _ h
def r4C(r:R4):Array Value:=#[vj r.1,vj r.2.1,vj r.2.2.1,vj r.2.2.2]
theorem Ax.four(h:Ax w b T 4)(u0 u1 u2 u3:Value):Blk ((((w.setCell (jA b 0) u0).setCell (jA b 1) u1).setCell (jA b 2) u2).setCell (jA b 3) u3) b T #[u0,u1,u2,u3]:=by
 obtain⟨cur,h1,h2⟩:=h;have h3:Blk w b T cur:=h1;have h4:=(((h3.set 0 u0).set 1 u1).set 2 u2).set 3 u3;have e:(((cur.setIfInBounds 0 u0).setIfInBounds 1 u1).setIfInBounds 2 u2).setIfInBounds 3 u3=#[u0,u1,u2,u3]:=by
  apply Array.ext_getElem?;intro j
  match j with
  |0=>simp[h2]
  |1=>simp[h2]
  |2=>simp[h2]
  |3=>simp[h2]
  |j+4=>
   rw[Array.getElem?_eq_none (by simp;omega),Array.getElem?_eq_none (by simp)]
 rw[e]at h4;exact h4
theorem al1(h:B<=w.heap.size)(o1:Obj):Below B w (w.alloc o1):=(aN B w).alloc h o1
theorem al2(h:B<=w.heap.size)(o1 o2:Obj):Below B w ((w.alloc o1).alloc o2):=(al1 h o1).alloc (by simp;omega) o2
theorem Z5(h:B<=w.heap.size)(o1 o2:Obj):Below B w ((w.drew.alloc o1).alloc o2):=((aN B w).drew.alloc h o1).alloc (by simp;omega) o2
theorem al3(h:B<=w.heap.size)(o1 o2 o3:Obj):Below B w (((w.alloc o1).alloc o2).alloc o3):=(al2 h o1 o2).alloc (by simp;omega) o3
theorem al5(h:B<=w.heap.size)(o1 o2 o3 o4 o5:Obj):Below B w (((((w.alloc o1).alloc o2).alloc o3).alloc o4).alloc o5):=((al3 h o1 o2 o3).alloc (by simp;omega) o4).alloc (by simp;omega) o5
theorem CO(h:Below B w wr)(hb:B<=b)(u0 u1 u2 u3:Value):Below B w ((((wr.setCell (jA b 0) u0).setCell (jA b 1) u1).setCell (jA b 2) u2).setCell (jA b 3) u3):=(((h.setCell hb _).setCell hb _).setCell hb _).setCell hb _
theorem Cu(hk:k≠b)(u0 u1 u2 u3:Value):((((w.setCell (jA b 0) u0).setCell (jA b 1) u1).setCell (jA b 2) u2).setCell (jA b 3) u3).heap[k]?=w.heap[k]? :=by
 rw[aL _ (jA b 3) k _ hk,aL _ (jA b 2) k _ hk,aL _ (jA b 1) k _ hk,aL _ (jA b 0) k _ hk]
theorem Ax.eleven(h:Ax w b T 11)(u0 u1 u2 u3 u4 u5 u6 u7 u8 u9 u10:Value):Blk (((((((((((w.setCell (jA b 0) u0).setCell (jA b 1) u1).setCell (jA b 2) u2).setCell (jA b 3) u3).setCell (jA b 4) u4).setCell (jA b 5) u5).setCell (jA b 6) u6).setCell (jA b 7) u7).setCell (jA b 8) u8).setCell (jA b 9) u9).setCell (jA b 10) u10) b T #[u0,u1,u2,u3,u4,u5,u6,u7,u8,u9,u10]:=by
 obtain⟨cur,h1,h2⟩:=h;have h3:Blk w b T cur:=h1;have h4:=((((((((((h3.set 0 u0).set 1 u1).set 2 u2).set 3 u3).set 4 u4).set 5 u5).set 6 u6).set 7 u7).set 8 u8).set 9 u9).set 10 u10;have e:((((((((((cur.setIfInBounds 0 u0).setIfInBounds 1 u1).setIfInBounds 2 u2).setIfInBounds 3 u3).setIfInBounds 4 u4).setIfInBounds 5 u5).setIfInBounds 6 u6).setIfInBounds 7 u7).setIfInBounds 8 u8).setIfInBounds 9 u9).setIfInBounds 10 u10=#[u0,u1,u2,u3,u4,u5,u6,u7,u8,u9,u10]:=by
  apply Array.ext_getElem?;intro j
  match j with
  |0=>simp[h2]
  |1=>simp[h2]
  |2=>simp[h2]
  |3=>simp[h2]
  |4=>simp[h2]
  |5=>simp[h2]
  |6=>simp[h2]
  |7=>simp[h2]
  |8=>simp[h2]
  |9=>simp[h2]
  |10=>simp[h2]
  |j+11=>rw[Array.getElem?_eq_none (by simp;omega),Array.getElem?_eq_none (by simp)]
 rw[e]at h4;exact h4
theorem NA(h:Below B w wr)(hb:B<=b)(u0 u1 u2 u3 u4 u5 u6 u7 u8 u9 u10:Value):Below B w (((((((((((wr.setCell (jA b 0) u0).setCell (jA b 1) u1).setCell (jA b 2) u2).setCell (jA b 3) u3).setCell (jA b 4) u4).setCell (jA b 5) u5).setCell (jA b 6) u6).setCell (jA b 7) u7).setCell (jA b 8) u8).setCell (jA b 9) u9).setCell (jA b 10) u10):=((((((((((h.setCell hb _).setCell hb _).setCell hb _).setCell hb _).setCell hb _).setCell hb _).setCell hb _).setCell hb _).setCell hb _).setCell hb _).setCell hb _
theorem Iz(hk:k≠b)(u0 u1 u2 u3 u4 u5 u6 u7 u8 u9 u10:Value):(((((((((((w.setCell (jA b 0) u0).setCell (jA b 1) u1).setCell (jA b 2) u2).setCell (jA b 3) u3).setCell (jA b 4) u4).setCell (jA b 5) u5).setCell (jA b 6) u6).setCell (jA b 7) u7).setCell (jA b 8) u8).setCell (jA b 9) u9).setCell (jA b 10) u10).heap[k]?=w.heap[k]? :=by
 rw[aL _ (jA b 10) k _ hk,aL _ (jA b 9) k _ hk,aL _ (jA b 8) k _ hk,aL _ (jA b 7) k _ hk,aL _ (jA b 6) k _ hk,aL _ (jA b 5) k _ hk,aL _ (jA b 4) k _ hk,aL _ (jA b 3) k _ hk,aL _ (jA b 2) k _ hk,aL _ (jA b 1) k _ hk,aL _ (jA b 0) k _ hk]
end Go.Proofs.YtofinpocigbbeaaGreat
