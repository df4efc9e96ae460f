import Derived.Test.YtofinpocigbbeaaGreatKbb
import Derived.Test.YtofinpocigbbeaaGreatKba
import Derived.ArgAppend
set_option maxHeartbeats 2000000
set_option maxRecDepth 100000
set_option linter.unusedSimpArgs false
namespace Go.Proofs.YtofinpocigbbeaaGreat
open Go.Proofs.Tryz Go.RowKit
variable{I:Array Bool->Act->World->Prop}{a:Act}{i:Nat}{listed:Array Bool}{w:World}
section
variable{P:Program}{ops:Array Oper}{Q:Exit->Act->World->Prop}{md:Region.Mode}
def unl(n:Nat)(listed:Array Bool):Nat:=(List.range n).countP fun i=> !listed.getD i true
theorem Qv(m:Nat)(L:Array Bool):unl (m+1) L=unl m L+(if L.getD m true=true then 0 else 1):=by
 unfold unl;rw[List.range_succ,List.countP_append];cases h:L.getD m true<;>simp[-Array.getD_eq_getD_getElem?,h]
theorem SU(n:Nat)(listed:Array Bool)(i:Nat)(hi:i<n)(hl:listed.getD i true=false):unl n (listed.setIfInBounds i true)+1<=unl n listed:=by
 have hsz:i<listed.size:=by
  rcases Nat.lt_or_ge i listed.size with h|h
  ·exact h
  ·rw[Array.getD_eq_getD_getElem?,Array.getElem?_eq_none h]at hl;cases hl
 have hs:∀k,(listed.setIfInBounds i true).getD k true=(if k=i then true else listed.getD k true):=by
  intro k;by_cases h:k=i
  ·subst h;simp[Array.getD_eq_getD_getElem?,hsz]
  ·rw[if_neg h,Array.getD_eq_getD_getElem?,Array.getD_eq_getD_getElem?,bC (fun e=>h e.symm)]
 have key:∀m,unl m (listed.setIfInBounds i true)+(if i<m then 1 else 0)<=unl m listed:=by
  intro m;induction m with
  |zero=>simp[unl]
  |succ m ih=>
   rw[Qv,Qv,hs m];by_cases h1:m=i
   ·subst h1;rw[if_neg (Nat.lt_irrefl _)]at ih;rw[if_pos rfl,hl,if_pos (Nat.lt_succ_self _)];simp only[if_true,Bool.false_eq_true,if_false];omega
   ·rw[if_neg h1];by_cases h2:i<m
    ·rw[if_pos h2]at ih;rw[if_pos (show i<m+1 by omega)];omega
    ·rw[if_neg h2]at ih;rw[if_neg (show¬i<m+1 by omega)];omega
 have:=key n;rw[if_pos hi]at this;exact this
theorem M5(h:i∈Region.ready md ops listed):i<ops.size/\listed.getD i true=false/\∃o,ops[i]?=some o/\∀e∈o.after,Region.binds md e=true->listed.getD e.on false=true:=by
 unfold Region.ready at h;rw[bY,cf]at h;obtain⟨h1,h2⟩:=h;rw[Bool.and_eq_true]at h2;obtain⟨h2,h3⟩:=h2;refine⟨h1,by simpa using h2,?_⟩;cases ho:ops[i]?with
 |none=>rw[ho]at h3;cases h3
 |some o=>
  rw[ho]at h3;refine⟨o,rfl,fun e he hb=>?_⟩;have h4:o.after.all (fun e=> !Region.binds md e||listed.getD e.on false)=true:=h3;rw[Array.all_eq_true_iff_forall_mem]at h4;have h5:=h4 e he;rw[hb]at h5;simpa using h5
theorem M6(hback:∀(i:Nat) (o:Oper),ops[i]?=some o->∀e∈o.after,e.on<i)(hsz:listed.size=ops.size)(h:Region.ready md ops listed=[]):∀i,i<ops.size->listed[i]?=some true:=by
 intro i;induction i using Nat.strongRecOn with
 |ind i ih=>
  intro hi;have hin:listed[i]?=some (listed[i]'(by omega)):=Array.getElem?_eq_getElem (by omega);cases hb:listed[i]'(by omega)with
  |true=>rw[hin,hb]
  |false=>
   exfalso;have ho:ops[i]?=some ops[i]:=Array.getElem?_eq_getElem hi;have:i∈Region.ready md ops listed:=by
    unfold Region.ready;rw[bY,cf];refine⟨hi,?_⟩;rw[Bool.and_eq_true];refine⟨by rw[Array.getD_eq_getD_getElem?,hin,hb];rfl,?_⟩;rw[ho];show ops[i].after.all (fun e=> !Region.binds md e||listed.getD e.on false)=true;rw[Array.all_eq_true_iff_forall_mem];intro e he;have hlt:=hback i ops[i] ho e he;rw[Array.getD_eq_getD_getElem?,ih e.on hlt (by omega)];simp
   rw[h]at this;cases this
theorem Un(hback:∀(i:Nat) (o:Oper),ops[i]?=some o->∀e∈o.after,e.on<i)
  (hstep:∀(listed:Array Bool) (a:Act) (w:World) (i:Nat) (o:Oper),I listed a w->listed.size=ops.size->i<ops.size->ops[i]?=some o->(∀e∈o.after,Region.binds md e=true->listed[e.on]?=some true)->wpOp P ops Q i (I (listed.setIfInBounds i true)) a w)
  (hend:∀listed a w,I listed a w->(∀i,i<ops.size->listed[i]?=some true)->Q .normal a w):
  ∀fuel listed a w,I listed a w->listed.size=ops.size->unl ops.size listed<=fuel->wpAny P md ops Q fuel listed a w:=by
 intro fuel;induction fuel with
 |zero=>
  intro listed a w hI hsz hu;have hnil:Region.ready md ops listed=[]:=by
   cases hr:Region.ready md ops listed with
   |nil=>rfl
   |cons i r=>
    have hm:i∈Region.ready md ops listed:=by rw[hr];simp
    obtain⟨h1,h2,_⟩:=M5 hm;have:=SU ops.size listed i h1 h2;omega
  exact⟨hnil,hend _ _ _ hI (M6 hback hsz hnil)⟩
 |succ fuel ih=>
  intro listed a w hI hsz hu;refine⟨fun hnil=>hend _ _ _ hI (M6 hback hsz hnil),fun i hm=>?_⟩;obtain⟨h1,h2,o,ho,h3⟩:=M5 hm;have h4:=hstep listed a w i o hI hsz h1 ho fun e he hb=>by
   have h5:=h3 e he hb;rw[Array.getD_eq_getD_getElem?]at h5;cases h6:listed[e.on]?with
   |none=>rw[h6]at h5;cases h5
   |some x=>rw[h6]at h5;simp at h5;rw[h5]
  refine wpOp_mono (fun a' w' hI'=>ih _ a' w' hI' (by simpa using hsz) ?_) h4;have:=SU ops.size listed i h1 h2;omega
theorem Xj(n:Nat):unl n (Array.replicate n false)<=n:=by
 unfold unl;have:=List.countP_le_length (p:=fun i=> !(Array.replicate n false).getD i true) (l:=List.range n);simpa using this
theorem E4{id:Nat}(hm:P.follows .mixedOrders=true)(hback:∀(i:Nat) (o:Oper),ops[i]?=some o->∀e∈o.after,e.on<i)
  (h0:I (Array.replicate ops.size false) a {w with drawn:=w.drawn+1})
  (hstep:∀(listed:Array Bool) (a:Act) (w:World) (i:Nat) (o:Oper),I listed a w->listed.size=ops.size->i<ops.size->ops[i]?=some o->(∀e∈o.after,Region.binds .any e=true->listed[e.on]?=some true)->wpOp P ops Q i (I (listed.setIfInBounds i true)) a w)
  (hend:∀listed a w,I listed a w->(∀i,i<ops.size->listed[i]?=some true)->Q .normal a w):(Code.region id ops true).wp P Q a w:=
 wp_region_any hm (Un hback hstep hend _ _ _ _ h0 (by simp) (Xj _))
theorem Ar{o:Oper}{w':World}{x:Value}{K:Act->World->Prop}(hi:ops[i]?=some o)(hg:o.guard=none)(hr:(execOp a.eval o).run P w=.ok (.value x) w')(hK:K (a.put o.dst x) w'):wpOp P ops Q i K a w:=by
 unfold wpOp;simp only[hi];have hw:Region.wanted o (yielded ops a.tmps)=true:=by simp[Region.wanted,hg]
 rw[if_pos hw];left;unfold Oper.wp;rw[hr];exact hK
end
variable{K K':Nat->Prop}{TyC:TypeId}{a b c w0:World}{cs cur cur':Array Value}{f:Nat->Value}{g m q:Nat}{u:Option Nat}
variable{T TyL:TypeId}{k by':Nat}{z:Nat->Array Value}
def dA(T:TypeId)(k:Nat)(w:World)(B0:Nat)(s:Value)(m:Nat):Prop:=∃xs,w.ownsRow B0 T k s m xs
structure cY(T:TypeId)(u:Option Nat)(w w':World):Prop where
 grown:w.grownBy w' u
 rows:∀(g:Nat) (cur:Array Value),w.heap[g]?=some (.cells cur T (0,0))->∃cur':Array Value,w'.heap[g]?=some (.cells cur' T (0,0))/\cur'.size=cur.size
theorem dF{w':World}{B0 cap:Nat}{s:Value}(e1:s=sj g m cap)(e2:B0<=g)(k1:w'.heap[g]?=some (.cells cur' T (0,0)))(e4:m<=cap)(e5:cap<=maxLen)(e6:cur.size=cap*k)(k2:cur'.size=cur.size):dA T k w' B0 s m:=by
 refine⟨cur'.toList.take (m*k),?_,.inr ⟨g,cap,cur',e1,e2,k1,e4,e5,by rw[k2,e6],rfl⟩⟩;rw[bR,cR,k2,e6];have:=bU k e4;omega
theorem dA.step{w w':World}{B0:Nat}{s:Value}(h:dA T k w B0 s m)(hs:cY T u w w'):dA T k w' B0 s m:=by
 obtain⟨xs,h1,h2⟩:=h;rcases h2 with h2|⟨g,cap,cur,e1,e2,e3,e4,e5,e6,e7⟩
 ·exact⟨xs,h1,.inl h2⟩
 ·obtain⟨cur',k1,k2⟩:=hs.rows g cur e3;exact dF e1 e2 k1 e4 e5 e6 k2
theorem cY.refl(u:Option Nat)(w:World):cY T u w w:=⟨⟨rfl,rfl,rfl,aO _,fun _ _ _=>rfl⟩,fun _ cur h=>⟨cur,h,rfl⟩⟩
theorem cY.alloc(u:Option Nat)(w:World)(o:Obj):cY T u w (w.alloc o):=
 ⟨World.grownBy_alloc w o u,fun g cur h=>⟨cur,by rw[Ad w o g (aM.1 h).1];exact h,rfl⟩⟩
theorem cY.trans(h:cY T u a b)(k:cY T u b c):cY T u a c:=
 ⟨h.grown.trans k.grown,fun g cur hg=>by
  obtain⟨c1,e1,e2⟩:=h.rows g cur hg;obtain⟨c2,e3,e4⟩:=k.rows g c1 e1;exact⟨c2,e3,e4.trans e2⟩⟩
theorem cY.of_none(h:a.grownBy b none):cY T u a b:=
 ⟨⟨h.os,h.tape,h.output,h.size,fun k hk _=>h.block k hk (by simp)⟩,fun g cur hg=>⟨cur,by rw[h.block g (aM.1 hg).1 (by simp)];exact hg,rfl⟩⟩
structure BkF(T TyL:TypeId)(k by':Nat)(z:Nat->Array Value):Prop where
 und:prog.underlying TyL=some (.slice T)
 info:∃zv:Value,(prog.info? T).map (fun i=>(i.zero,i.size,i.bytes))=some (some zv,k,by')/\zv.cells.size=k
 k0:0<k
 b72:by'<=72
 zs:∀N,(z N).size=k
 one:∀N,∀u∈(z N).toList,u.oneCell'=true
theorem dB(F:BkF T TyL k by' z){w:World}{B0 n:Nat}{v:Value}(hv:dA T k w B0 v n)(ty:TypeId)(ad:Addr)(m c:Nat)(news:List Value)(hl:news.length=m*k)(hnews:∀j u,news[j]?=some u->w.cell? (ad.add j)=some u)(h1:∀u∈news,u.oneCell'=true)
  (h63:n+m<=maxLen) (hbytes:(n+m)*by'<=140737488355328) (hB:B0<=w.heap.size):
  ∃v' w',(Builtin.append_ #[TyL,TyL] ty #[v,.slice (some ad) m c]).run prog w=.ok v' w'/\dA T k w' B0 v' (n+m)/\cY T v.ownBlock w w'/\(v'.ownBlock=v.ownBlock\/v'.ownBlock=some w.heap.size):=by
 obtain⟨zv,hif,hzc⟩:=F.info;obtain⟨i0,hi0,hz0,hz1,hz2⟩:=cW hif;obtain⟨xs,hown⟩:=hv;obtain⟨v',w',hr,ho,hg,_,hat⟩:=run_append_own_at (P:=prog) w B0 TyL ty T i0 _ k by' F.und hi0 hz0 hz1 hz2 hzc F.k0 v n xs hown ad m c news hl hnews h1 h63 hbytes hB;refine⟨v',w',hr,⟨_,ho⟩,⟨hg,fun q cur hk=>?_⟩,hat⟩;have hkl:=(aM.1 hk).1;by_cases hkv:some q=v.ownBlock
 ·rcases hown.2 with⟨e,_⟩|⟨g,cap,cu,e1,e2,e3,e4,e5,e6,e7⟩
  ·rw[e]at hkv;cases hkv
  ·subst e1;have hkg:q=g:=by
    have:some q=some g:=hkv;injection this
   subst hkg;rw[hk]at e3;injection e3 with e3;injection e3 with e3;subst e3;by_cases hroom:n+m<=cap
   ·have hlen:news.length=m*i0.size:=by rw[hz1];exact hl
    have hfit:n*i0.size+news.length<=cur.size:=by rw[hz1,hl,e6,<-Nat.add_mul];exact bU _ hroom
    have h9:=run_append_room (P:=prog) w TyL ty T i0 F.und hi0 q n cap cur hk ad m c news hlen hnews h1 hroom hfit;rw[hr]at h9;injection h9 with _ h9;subst h9;refine⟨_,setRow_heap w q cur _ T _ hk,?_⟩;simp only[List.size_toArray,aY,bR,cC,cR];omega
   ·obtain⟨v2,w2,h9,_,h8⟩:=run_append_arg_grows (P:=prog) w TyL ty T i0 _ k by' F.und hi0 hz0 hz1 hz2 hzc F.k0 (jA q 0) n cap xs hown.1 (hown.cells (g:=q) rfl) ad m c news hl hnews (by omega) h63 hbytes;rw[hr]at h9;injection h9 with _ h9;subst h9;exact(cY.of_none (u:=none) h8).rows q cur hk
 ·exact⟨cur,by rw[hg.block q hkl hkv];exact hk,rfl⟩
def dj(T:TypeId)(u:Option Nat)(w:World)(x:Value)(m:Nat)(cs:Array Value):Prop:=∃g,x=sj g m m/\some g≠u/\w.heap[g]?=some (.cells cs T (0,0))
def cX(T:TypeId)(k:Nat)(w:World)(B0 zb:Nat)(x:Value)(m:Nat):Prop:=dA T k w B0 x m/\x.ownBlock≠some zb
def dC(T TyL:TypeId)(k:Nat)(v:Value)(n B0 zb:Nat)(w:World)(x:Value):Prop:=∃g a b c,x=sj g 4 4/\some g≠v.ownBlock/\w.heap[g]?=some (.cells #[v,a,b,c] TyL (0,0))/\cX T k w B0 zb a (n+1)/\cX T k w B0 zb b (n+2)/\cX T k w B0 zb c (n+3)
theorem cX.step{w w':World}{B0 zb:Nat}{x:Value}(h:cX T k w B0 zb x m)(hs:cY T u w w'):cX T k w' B0 zb x m:=⟨h.1.step hs,h.2⟩
theorem dj.step{w w':World}{x:Value}(h:dj T u w x m cs)(hs:cY T u w w'):dj T u w' x m cs:=by
 obtain⟨g,h1,h2,h3⟩:=h;exact⟨g,h1,h2,by rw[hs.grown.block g (aM.1 h3).1 h2];exact h3⟩
theorem dC.step{w w':World}{v x:Value}{n B0 zb:Nat}(h:dC T TyL k v n B0 zb w x)(hs:cY T v.ownBlock w w'):dC T TyL k v n B0 zb w' x:=by
 obtain⟨g,a,b,c,h1,h2,h3,h4,h5,h6⟩:=h;exact⟨g,a,b,c,h1,h2,by rw[hs.grown.block g (aM.1 h3).1 h2];exact h3,h4.step hs,h5.step hs,h6.step hs⟩
structure FxG(T TyL:TypeId)(k:Nat)(z:Nat->Array Value)(N:Nat)(v:Value)(n B0 zb s:Nat)(x:Value)(w:World):Prop where
 mv:s=14\/s=15\/s=19\/s=24->x=v
 ld:s=16\/s=20\/s=21\/s=25\/s=26\/s=27->x=.agg (z N)
 b1:s=17->dj T v.ownBlock w x 1 (z N)
 b2:s=22->dj T v.ownBlock w x 2 ((z N)++(z N))
 b3:s=28->dj T v.ownBlock w x 3 ((z N)++(z N)++(z N))
 r1:s=18->cX T k w B0 zb x (n+1)
 r2:s=23->cX T k w B0 zb x (n+2)
 r3:s=29->cX T k w B0 zb x (n+3)
 rg:s=30\/s=5->dC T TyL k v n B0 zb w x
variable{N:Nat}{v x:Value}{n B0 pb zb s:Nat}{w1 w':World}
theorem FxG.step(h:FxG T TyL k z N v n B0 zb s x w)(hs:cY T v.ownBlock w w'):FxG T TyL k z N v n B0 zb s x w':=
 ⟨h.mv,h.ld,fun e=>(h.b1 e).step hs,fun e=>(h.b2 e).step hs,fun e=>(h.b3 e).step hs,fun e=>(h.r1 e).step hs,fun e=>(h.r2 e).step hs,fun e=>(h.r3 e).step hs,fun e=>(h.rg e).step hs⟩
def di(j:Nat):Nat:=if j=17 then 5 else j+14
def dI(T TyL:TypeId)(k:Nat)(z:Nat->Array Value)(N:Nat)(v:Value)(n B0 zb:Nat)(w0:World)(listed:Array Bool)(f:Nat->Value)(w:World):Prop:=
 cY T v.ownBlock w0 w/\∀j,j<18->listed[j]?=some true->FxG T TyL k z N v n B0 zb (di j) (f (di j)) w
theorem dS(i:Nat)(h:dI T TyL k z N v n B0 zb w0 listed f w)(hk:i<18)(hs:cY T v.ownBlock w w')(hx:FxG T TyL k z N v n B0 zb (di i) x w'):
  dI T TyL k z N v n B0 zb w0 (listed.setIfInBounds i true) (fun s=>if s=di i then x else f s) w':=by
 refine⟨h.1.trans hs,fun j hj hl=>?_⟩;by_cases e:j=i
 ·subst e;simp only[if_true];exact hx
 ·rw[bC (fun q=>e q.symm)]at hl;have hne:¬di j=di i:=by
   unfold di;split<;>split<;>omega
  simp only[hne,if_false];exact(h.2 j hj hl).step hs
structure dD(T:TypeId)(k:Nat)(z:Nat->Array Value)(N:Nat)(v:Value)(n B0 zb:Nat)(w:World):Prop where
 hn:n<=9000000
 hB:B0<=w.heap.size
 hv:dA T k w B0 v n
 hz:w.heap[zb]?=some (.cells (z N) T (0,0))
 hvz:v.ownBlock≠some zb
theorem dD.new(C:dD T k z N v n B0 zb w)(hs:cY T v.ownBlock w w1):some w1.heap.size≠v.ownBlock:=fun e=>by
 obtain⟨xs,h2⟩:=C.hv.step hs;have:=(h2.lt _ e.symm).2;omega
theorem dD.z1(C:dD T k z N v n B0 zb w)(hs:cY T v.ownBlock w w1):w1.heap[zb]?=some (.cells (z N) T (0,0)):=by
 rw[hs.grown.block zb (aM.1 C.hz).1 (fun e=>C.hvz e.symm)];exact C.hz
theorem dq(F:BkF T TyL k by' z)(ty:TypeId)(hm:m<=3)(C:dD T k z N v n B0 zb w)(hs:cY T v.ownBlock w w1)(hx:dj T v.ownBlock w1 x m cs)(hcs:cs.size=m*k)(h1:∀u∈cs.toList,u.oneCell'=true):
  ∃r w',(Builtin.append_ #[TyL,TyL] ty #[v,x]).run prog w1=.ok r w'/\cY T v.ownBlock w1 w'/\cX T k w' B0 zb r (n+m):=by
 obtain⟨g,rfl,hg,hb⟩:=hx;have hn:=C.hn;have hsz:=hs.grown.size;have hB:=C.hB;obtain⟨r,w',hr,h2,h3,h4⟩:=dB F (C.hv.step hs) ty (jA g 0) m m cs.toList (by rw[cR,hcs]) (bI hb) h1 (by unfold maxLen;omega) (bh (cI (show n+m<=9000003 by omega) F.b72) (by decide)) (by omega);refine⟨r,w',hr,h3,h2,?_⟩;rcases h4 with h4|h4
 ·rw[h4];exact C.hvz
 ·rw[h4];have hzl:=(aM.1 C.hz).1;intro e;injection e with e;omega
theorem BkF.two(F:BkF T TyL k by' z):∀u∈((z N)++(z N)).toList,u.oneCell'=true:=by
 intro u hu;rw[Array.toList_append,bV]at hu;rcases hu with h|h<;>exact F.one N u h
theorem BkF.three(F:BkF T TyL k by' z):∀u∈((z N)++(z N)++(z N)).toList,u.oneCell'=true:=by
 intro u hu;rw[Array.toList_append,bV]at hu;rcases hu with h|h
 ·exact F.two u h
 ·exact F.one N u h
theorem dX(F:BkF T TyL k by' z)(ty:TypeId)(C:dD T k z N v n B0 zb w)(hs:cY T v.ownBlock w w1)(hx:dj T v.ownBlock w1 x 1 (z N)):
  ∃r w',(Builtin.append_ #[TyL,TyL] ty #[v,x]).run prog w1=.ok r w'/\cY T v.ownBlock w1 w'/\cX T k w' B0 zb r (n+1):=dq F ty (by decide) C hs hx (by rw[F.zs,Nat.one_mul]) (F.one N)
theorem dY(F:BkF T TyL k by' z)(ty:TypeId)(C:dD T k z N v n B0 zb w)(hs:cY T v.ownBlock w w1)(hx:dj T v.ownBlock w1 x 2 ((z N)++(z N))):
  ∃r w',(Builtin.append_ #[TyL,TyL] ty #[v,x]).run prog w1=.ok r w'/\cY T v.ownBlock w1 w'/\cX T k w' B0 zb r (n+2):=dq F ty (by decide) C hs hx (by rw[Array.size_append,F.zs];omega) F.two
theorem dZ(F:BkF T TyL k by' z)(ty:TypeId)(C:dD T k z N v n B0 zb w)(hs:cY T v.ownBlock w w1)(hx:dj T v.ownBlock w1 x 3 ((z N)++(z N)++(z N))):
  ∃r w',(Builtin.append_ #[TyL,TyL] ty #[v,x]).run prog w1=.ok r w'/\cY T v.ownBlock w1 w'/\cX T k w' B0 zb r (n+3):=dq F ty (by decide) C hs hx (by rw[Array.size_append,Array.size_append,F.zs];omega) F.three
theorem ee(hs:s=14\/s=15\/s=19\/s=24)(h:x=v):FxG T TyL k z N v n B0 zb s x w:=by constructor<;>intro e<;>first|exact h|omega
theorem eh(hs:s=16\/s=20\/s=21\/s=25\/s=26\/s=27)(h:x=.agg (z N)):FxG T TyL k z N v n B0 zb s x w:=by constructor<;>intro e<;>first|exact h|omega
theorem em(hs:s=17)(h:dj T v.ownBlock w x 1 (z N)):FxG T TyL k z N v n B0 zb s x w:=by constructor<;>intro e<;>first|exact h|omega
theorem eu(hs:s=22)(h:dj T v.ownBlock w x 2 ((z N)++(z N))):FxG T TyL k z N v n B0 zb s x w:=by constructor<;>intro e<;>first|exact h|omega
theorem ev(hs:s=28)(h:dj T v.ownBlock w x 3 ((z N)++(z N)++(z N))):FxG T TyL k z N v n B0 zb s x w:=by constructor<;>intro e<;>first|exact h|omega
theorem ew(hs:s=18)(h:cX T k w B0 zb x (n+1)):FxG T TyL k z N v n B0 zb s x w:=by constructor<;>intro e<;>first|exact h|omega
theorem ey(hs:s=23)(h:cX T k w B0 zb x (n+2)):FxG T TyL k z N v n B0 zb s x w:=by constructor<;>intro e<;>first|exact h|omega
theorem eA(hs:s=29)(h:cX T k w B0 zb x (n+3)):FxG T TyL k z N v n B0 zb s x w:=by constructor<;>intro e<;>first|exact h|omega
theorem eB(hs:s=30\/s=5)(h:dC T TyL k v n B0 zb w x):FxG T TyL k z N v n B0 zb s x w:=by constructor<;>intro e<;>first|exact h|omega
theorem dI.at{o:Oper}(hI:dI T TyL k z N v n B0 zb w0 listed f w)(hd:∀e∈o.after,Region.binds .any e=true->listed[e.on]?=some true)(j:Nat)(hj:j<18)(h:(o.after.toList.any fun e=>decide (e.on=j)&&Region.binds .any e)=true):FxG T TyL k z N v n B0 zb (di j) (f (di j)) w:=by
 obtain⟨e,he,h2⟩:=cF.1 h;rw[Bool.and_eq_true]at h2;have:=hd e (aW.1 he) h2.2;rw[ck h2.1]at this;exact hI.2 j hj this
def dG:Code->Array Oper
 | .seq _ (.seq (.region _ ops _) _)=>ops
 |_=>#[]
def dV(f:Func):Array Oper:=(f.body.map dG).getD #[]
theorem ed{R:Array Oper}(h:(List.range R.size).all (fun i=>(R[i]?.map fun o=>o.after.toList.all fun e=>decide (e.on<i)).getD false)=true):∀(i:Nat) (o:Oper),R[i]?=some o->∀e∈o.after,e.on<i:=by
 intro i o ho e he;have hi:i<R.size:=(aM.1 ho).1;have h1:=cG.1 h i (cf.2 hi);rw[ho]at h1;have h2:o.after.toList.all (fun e=>decide (e.on<i))=true:=h1;exact ck (cG.1 h2 e (aW.2 he))
theorem dU(a:Act)(o:Oper)(s x:Operand)(ho:o.op=.call {callee:=.builtin .append,args:=#[s,x],argTypes:=#[TyL,TyL] })(w w':World)(y z r:Value)(h1:a.eval s=y)(h2:a.eval x=z)(hr:(Builtin.append_ #[TyL,TyL] o.type #[y,z]).run prog w=.ok r w'):(execOp a.eval o).run prog w=.ok (.value r) w':=by
 unfold execOp;simp only[ho,resolve,invoke,builtin,Sem.run_bind,Sem.run_pure,Result.andThen_ok,cK,List.map_cons,List.map_nil,h1,h2,hr]
structure cZ(T:TypeId)(B0 zb:Nat)(w w':World):Prop where
 os:w'.os=w.os
 tape:w'.tape=w.tape
 output:w'.output=w.output
 size:w.heap.size<=w'.heap.size
 block:∀g,g<w.heap.size->w'.heap[g]?=w.heap[g]?\/(B0<=g/\g≠zb/\∃cur cur':Array Value,w.heap[g]?=some (.cells cur T (0,0))/\w'.heap[g]?=some (.cells cur' T (0,0))/\cur'.size=cur.size)
theorem cZ.refl(B0 zb:Nat)(w:World):cZ T B0 zb w w:=⟨rfl,rfl,rfl,aO _,fun _ _=>.inl rfl⟩
theorem cZ.trans(h:cZ T B0 zb a b)(k:cZ T B0 zb b c):cZ T B0 zb a c:=by
 refine⟨k.os.trans h.os,k.tape.trans h.tape,k.output.trans h.output,bh h.size k.size,fun g hg=>?_⟩;rcases h.block g hg with h1|⟨h1,h2,c1,c2,h3,h4,h5⟩
 ·rcases k.block g (aQ hg h.size)with k1|⟨k1,k2,d1,d2,k3,k4,k5⟩
  ·exact .inl (k1.trans h1)
  ·exact .inr ⟨k1,k2,d1,d2,by rw[<-h1];exact k3,k4,k5⟩
 ·rcases k.block g (aQ hg h.size)with k1|⟨k1,k2,d1,d2,k3,k4,k5⟩
  ·exact .inr ⟨h1,h2,c1,c2,h3,by rw[k1];exact h4,h5⟩
  ·rw[h4]at k3;injection k3 with k3;injection k3 with k3;subst k3;exact .inr ⟨h1,h2,c1,d2,h3,k4,k5.trans h5⟩
theorem cZ.below(h:cZ T B0 zb w w')(hB:B0<=w.heap.size):Below B0 w w':=
 ⟨h.os,h.tape,h.output,h.size,fun k hk=>by
  rcases h.block k (by omega)with h1|⟨h1,_⟩
  ·exact h1
  ·omega⟩
theorem cZ.drew1(h:cZ T B0 zb w w'):cZ T B0 zb w w'.drew:=⟨h.os,h.tape,h.output,h.size,h.block⟩
theorem cZ.other{t:TypeId}{q:Nat×Nat}(h:cZ T B0 zb w w')(hg:w.heap[g]?=some (.cells cur t q))(ht:t≠T):w'.heap[g]?=some (.cells cur t q):=by
 rcases h.block g (aM.1 hg).1 with h1|⟨_,_,c1,c2,h3,_,_⟩
 ·rw[h1];exact hg
 ·rw[hg]at h3;injection h3 with h3;injection h3 with _ h3;exact absurd h3 ht
theorem cZ.keep(h:cZ T B0 zb w w')(hg:zb<w.heap.size):w'.heap[zb]?=w.heap[zb]? :=by
 rcases h.block zb hg with h1|⟨_,h2,_⟩
 ·exact h1
 ·exact absurd rfl h2
theorem cZ.row{s:Value}(h:cZ T B0 zb w w')(hs:cX T k w B0 zb s m):cX T k w' B0 zb s m:=by
 refine⟨?_,hs.2⟩;obtain⟨xs,h1,h2⟩:=hs.1;rcases h2 with h2|⟨g,cap,cur,e1,e2,e3,e4,e5,e6,e7⟩
 ·exact⟨xs,h1,.inl h2⟩
 ·rcases h.block g (aM.1 e3).1 with q|⟨_,_,c1,c2,k3,k4,k5⟩
  ·exact dF e1 e2 (by rw[q];exact e3) e4 e5 e6 rfl
  ·rw[e3]at k3;injection k3 with k3;injection k3 with k3;subst k3;exact dF e1 e2 k4 e4 e5 e6 k5
theorem cZ.set(hg:w.heap[g]?=some (.cells cur T (0,0)))(h1:B0<=g)(h2:g≠zb)(j:Nat)(u:Value):cZ T B0 zb w (w.setCell (jA g j) u)/\∃cur':Array Value,(w.setCell (jA g j) u).heap[g]?=some (.cells cur' T (0,0)):=by
 refine⟨⟨rfl,rfl,rfl,by simp,fun k hk=>?_⟩,⟨_,bH w g j cur _ u hg⟩⟩;by_cases e:k=g
 ·subst e;exact .inr ⟨h1,h2,cur,_,hg,bH w k j cur _ u hg,by simp⟩
 ·exact .inl (aL w (jA g j) k u e)
theorem cZ.set4(hg:w.heap[g]?=some (.cells cur T (0,0)))(h1:B0<=g)(h2:g≠zb)(j0 j1 j2 j3:Nat)(u0 u1 u2 u3:Value):cZ T B0 zb w ((((w.setCell (jA g j0) u0).setCell (jA g j1) u1).setCell (jA g j2) u2).setCell (jA g j3) u3):=by
 obtain⟨t0,c0,k0⟩:=cZ.set hg h1 h2 j0 u0;obtain⟨t1,c1,k1⟩:=cZ.set k0 h1 h2 j1 u1;obtain⟨t2,c2,k2⟩:=cZ.set k1 h1 h2 j2 u2;obtain⟨t3,c3,k3⟩:=cZ.set k2 h1 h2 j3 u3;exact((t0.trans t1).trans t2).trans t3
theorem cX.at{s:Value}(h:cX T k w B0 zb s m)(hi:i<m):∃g cap cur,s=sj g m cap/\B0<=g/\g≠zb/\m<=cap/\g<w.heap.size/\w.heap[g]?=some (.cells cur T (0,0))/\(∀j,j<k->i*k+j<cur.size/\∃q,w.cell? (jA g (i*k+j))=some q)/\(∀j,w.frozen? (jA g j)=false):=by
 obtain⟨xs,h1,h2⟩:=h.1;rcases h2 with⟨_,h2⟩|⟨g,cap,cur,e1,e2,e3,e4,e5,e6,e7⟩
 ·omega
 ·subst e1;refine⟨g,cap,cur,rfl,e2,fun e=>h.2 (by rw[<-e];rfl),e4,(aM.1 e3).1,e3,fun j hj=>?_,fun j=>by simp[World.frozen?,e3]⟩;have hm:=bU k (show i+1<=cap by omega);rw[Nat.add_mul,Nat.one_mul]at hm;have hlt:i*k+j<cur.size:=by omega
  exact⟨hlt,cur[i*k+j],by rw[aP w g _ cur _ _ e3];exact Array.getElem?_eq_getElem hlt⟩
def de(k:Nat)(z:Nat->Array Value)(N:Nat)(w:World)(g j:Nat):Prop:=∀o,o<k->w.cell? (jA g (j*k+o))=(z N)[o]?
def db(k:Nat)(z:Nat->Array Value)(N:Nat)(w w':World):Prop:=∀g j,de k z N w g j->de k z N w' g j
theorem db.refl(N:Nat)(w:World):db k z N w w:=fun _ _ h=>h
theorem db.trans(h:db k z N a b)(q:db k z N b c):db k z N a c:=fun g j hd=>q g j (h g j hd)
theorem db.drew(h:db k z N w w'):db k z N w w'.drew:=h
theorem dR(hq:w.heap[q]?=some (.cells cur T (0,0)))(hb:w'.heap[q]?=some (.cells cur' T (0,0)))(ho:∀g,g≠q->w'.heap[g]?=w.heap[g]?)(hin:∀o,o<k->cur'[i*k+o]?=(z N)[o]?)(hne:∀p,(p<i*k\/i*k+k<=p)->cur'[p]?=cur[p]?):
  db k z N w w'/\de k z N w' q i:=by
 have hd:de k z N w' q i:=fun o h9=>by
  rw[aP w' q _ _ _ _ hb];exact hin o h9
 refine⟨fun g j h=>?_,hd⟩;by_cases e:g=q
 ·subst e;by_cases ej:j=i
  ·subst ej;exact hd
  ·intro o h9;have h1:=h o h9;rw[aP w g _ _ _ _ hq]at h1;rw[aP w' g _ _ _ _ hb,<-h1];refine hne _ ?_;rcases Nat.lt_or_gt_of_ne ej with hlt|hlt
   ·left;have:=bU k (show j+1<=i by omega);rw[Nat.add_mul,Nat.one_mul]at this;omega
   ·right;have:=bU k (show i+1<=j by omega);rw[Nat.add_mul,Nat.one_mul]at this;omega
 ·intro o h9;rw[aV (ho g e)];exact h o h9
theorem dW{u0 u1 u2 u3:Value}(hzN:z N=#[u0,u1,u2,u3])(hq:w.heap[q]?=some (.cells cur T (0,0)))(hsz:i*4+3<cur.size):
  db 4 z N w ((((w.setCell (jA q (i*4)) u0).setCell (jA q (i*4+1)) u1).setCell (jA q (i*4+2)) u2).setCell (jA q (i*4+3)) u3)/\de 4 z N ((((w.setCell (jA q (i*4)) u0).setCell (jA q (i*4+1)) u1).setCell (jA q (i*4+2)) u2).setCell (jA q (i*4+3)) u3) q i:=by
 refine dR hq (bH _ q (i*4+3) _ _ _ (bH _ q (i*4+2) _ _ _ (bH _ q (i*4+1) _ _ _ (bH _ q (i*4) _ _ _ hq)))) (fun g hk=>?_) (fun o h9=>?_) (fun p hp=>?_)
 ·rw[aL _ (jA q (i*4+3)) g _ hk,aL _ (jA q (i*4+2)) g _ hk,aL _ (jA q (i*4+1)) g _ hk,aL _ (jA q (i*4)) g _ hk]
 ·rw[hzN]
  match o,h9 with
  |0,_|1,_|2,_|3,_=>simp[bN];omega
 ·repeat rw[bC (by omega)]
def dT(T:TypeId)(k:Nat)(z:Nat->Array Value)(w:World)(K:Nat->Prop)(v:Value)(i:Nat):Prop:=
 ∃a m c,v=.slice a m c/\m<=1152921504606846976/\(0<m->∃b cur,a=some (jA b 0)/\K b/\w.heap[b]?=some (.cells cur T (0,0))/\∀j,j<m->de k z i w b j)
def dJ(T TyL:TypeId)(k:Nat)(z:Nat->Array Value)(w:World)(K:Nat->Prop)(v:Value)(i:Nat):Prop:=
 ∃g c cur,v=sj g 4 c/\w.heap[g]?=some (.cells cur TyL (0,0))/\∀j,j<4->∃u,cur[j]?=some u/\dT T k z w K u i
theorem dJ.keep{v:Value}(h:dJ T TyL k z w K v i)(hK:∀b,K b->K' b)(hk:∀(b:Nat) (cur:Array Value) (t:TypeId),(t=T/\K b)\/t=TyL->w.heap[b]?=some (.cells cur t (0,0))->w'.heap[b]?=w.heap[b]?):dJ T TyL k z w' K' v i:=by
 obtain⟨g,c,cur,h1,h2,h3⟩:=h;refine⟨g,c,cur,h1,(hk g cur _ (.inr rfl) h2).trans h2,fun k hk4=>?_⟩;obtain⟨u,h4,a,m,c,h5,h6,h7⟩:=h3 k hk4;refine⟨u,h4,a,m,c,h5,h6,fun hm=>?_⟩;obtain⟨b,cur,h8,hKb,h9,h10⟩:=h7 hm;have e:=hk b cur _ (.inl ⟨rfl,hKb⟩) h9;exact⟨b,cur,h8,hK b hKb,e.trans h9,fun j hj o ho=>(aV e).trans (h10 j hj o ho)⟩
structure dP(T TyL TyC:TypeId)(k:Nat)(z:Nat->Array Value)(w:World)(K:Nat->Prop)(cv:Value)(N:Nat)(xs:List Value):Prop where
 row:w.ownsRow 0 TyC 1 cv N xs
 all:∀i,i<N->∃v,xs[i]?=some v/\dJ T TyL k z w K v i
theorem dP.keep{cv:Value}{xs:List Value}(h:dP T TyL TyC k z w K cv N xs)(hK:∀b,K b->K' b)(hk:∀(b:Nat) (cur:Array Value) (t:TypeId),(t=T/\K b)\/t=TyL\/t=TyC->w.heap[b]?=some (.cells cur t (0,0))->w'.heap[b]?=w.heap[b]?):dP T TyL TyC k z w' K' cv N xs:=by
 refine⟨Ai h.row fun g hg=>?_,fun i hi=>?_⟩
 ·obtain⟨cur,hc⟩:=Ap h.row hg;exact hk g cur _ (.inr (.inr rfl)) hc
 ·obtain⟨v,h1,h2⟩:=h.all i hi;exact⟨v,h1,h2.keep hK fun b cur t ht hb=>hk b cur t (ht.imp id .inl) hb⟩
theorem dP.nil(w:World)(K:Nat->Prop):dP T TyL TyC k z w K (jj) 0 []:=⟨bA _ _ _ _,fun i hi=>by omega⟩
def dQ(k:Nat)(z:Nat->Array Value)(N:Nat)(w:World)(s:Value):Prop:=∀b m c,s=sj b m c->∀j,j<m->de k z N w b j
theorem dQ.stays{s:Value}(h:dQ k z N w s)(hs:db k z N w w'):dQ k z N w' s:=fun b m c e j hj=>hs b j (h b m c e j hj)
theorem de.drew9{j:Nat}(h:de k z N w g j):de k z N w.drew g j:=h
variable{cv:Value}
def zA(N:Nat):Array Value:=#[vj (-7070),vj 0,vj 0,vj (N:Int)]
abbrev GF:=dA 53 4
abbrev LJ:=dP 53 33 108 4 zA
theorem eC:BkF 53 33 4 32 zA:=⟨underlying33,⟨_,C8,rfl⟩,by decide,by decide,fun _=>rfl,fun N u hu=>by
 simp only[zA,cw,List.not_mem_nil,or_false]at hu;rcases hu with rfl|rfl|rfl|rfl<;>rfl⟩
def frA(N:Nat)(cv:Value)(pb zb:Nat)(v:Value)(f:Nat->Value):Act:=
 {tmps:=#[.pointer (some (jA pb 1)),v,undef,undef,pj zb,f 5,undef,undef,.pointer (some (jA pb 1)),.pointer (some (jA pb 1)),.pointer (some (jA pb 1)),cv,vj (N:Int),.agg (zA N),
   f 14,f 15,f 16,f 17,f 18,f 19,f 20,f 21,f 22,f 23,f 24,f 25,f 26,f 27,f 28,f 29,f 30,undef,undef,undef,undef,undef,undef,undef,undef,undef,undef,undef,undef,undef,undef,undef,undef,undef,undef,undef,undef,undef,undef,undef,undef,undef,undef,undef,undef,undef,undef,undef,undef],defers:=[] }
theorem Il:(dV Tryz.f87).size=18:=rfl
theorem Fp(pb zb:Nat)(v:Value)(f:Nat->Value)(o:Oper)(ho:o.op=.load 53 (.tmp 4))(w:World)(hz:w.heap[zb]?=some (.cells (zA N) 53 (0,0))):(execOp (frA N cv pb zb v f).eval o).run prog w=.ok (.value (.agg (zA N))) w:=by
 have c0:w.cell? (jA zb 0)=some (vj (-7070)):=by rw[aP w zb 0 (zA N) _ _ hz];rfl
 have c1:w.cell? (jA zb 1)=some (vj 0):=by rw[aP w zb 1 (zA N) _ _ hz];rfl
 have c2:w.cell? (jA zb 2)=some (vj 0):=by rw[aP w zb 2 (zA N) _ _ hz];rfl
 have c3:w.cell? (jA zb 3)=some (vj (N:Int)):=by rw[aP w zb 3 (zA N) _ _ hz];rfl
 have e4:(frA N cv pb zb v f).eval (.tmp 4)=pj zb:=rfl;unfold execOp;simp only[ho,e4]
 go_simp
 rfl
theorem YG(pb zb:Nat)(v:Value)(f:Nat->Value)(o:Oper)(ho:o.op=.buildSlice 33 1 #[(0,.tmp 16)])(w:World)(h16:f 16=.agg (zA N)):(execOp (frA N cv pb zb v f).eval o).run prog w=.ok (.value (sj w.heap.size 1 1)) (w.alloc (.cells (zA N) 53)):=by
 have e4:(frA N cv pb zb v f).eval (.tmp 16)=.agg (zA N):=h16;unfold execOp;simp only[ho,cK,List.map_cons,List.map_nil,e4];unfold zA
 go_simp
theorem YH(pb zb:Nat)(v:Value)(f:Nat->Value)(o:Oper)(ho:o.op=.buildSlice 33 2 #[(0,.tmp 20),(1,.tmp 21)])(w:World)(h1:f 20=.agg (zA N))(h2:f 21=.agg (zA N)):(execOp (frA N cv pb zb v f).eval o).run prog w=.ok (.value (sj w.heap.size 2 2)) (w.alloc (.cells ((zA N)++(zA N)) 53)):=by
 have e1:(frA N cv pb zb v f).eval (.tmp 20)=.agg (zA N):=h1;have e2:(frA N cv pb zb v f).eval (.tmp 21)=.agg (zA N):=h2;unfold execOp;simp only[ho,cK,List.map_cons,List.map_nil,e1,e2];unfold zA
 go_simp
theorem YI(pb zb:Nat)(v:Value)(f:Nat->Value)(o:Oper)(ho:o.op=.buildSlice 33 3 #[(0,.tmp 25),(1,.tmp 26),(2,.tmp 27)])(w:World)(h1:f 25=.agg (zA N))(h2:f 26=.agg (zA N))(h3:f 27=.agg (zA N)):(execOp (frA N cv pb zb v f).eval o).run prog w=.ok (.value (sj w.heap.size 3 3)) (w.alloc (.cells ((zA N)++(zA N)++(zA N)) 53)):=by
 have e1:(frA N cv pb zb v f).eval (.tmp 25)=.agg (zA N):=h1;have e2:(frA N cv pb zb v f).eval (.tmp 26)=.agg (zA N):=h2;have e3:(frA N cv pb zb v f).eval (.tmp 27)=.agg (zA N):=h3;unfold execOp;simp only[ho,cK,List.map_cons,List.map_nil,e1,e2,e3];unfold zA
 go_simp
theorem YJ(pb zb:Nat)(v:Value)(f:Nat->Value)(o:Oper)(ho:o.op=.buildSlice 108 4 #[(0,.tmp 14),(1,.tmp 18),(2,.tmp 23),(3,.tmp 29)])(w:World)(x0 x1 x2 x3:Option Addr)(n0 n1 n2 n3 c0 c1 c2 c3:Nat)(h0:f 14=.slice x0 n0 c0)(h1:f 18=.slice x1 n1 c1)(h2:f 23=.slice x2 n2 c2)(h3:f 29=.slice x3 n3 c3):(execOp (frA N cv pb zb v f).eval o).run prog w=.ok (.value (sj w.heap.size 4 4)) (w.alloc (.cells #[.slice x0 n0 c0,.slice x1 n1 c1,.slice x2 n2 c2,.slice x3 n3 c3] 33)):=by
 have e0:(frA N cv pb zb v f).eval (.tmp 14)=.slice x0 n0 c0:=h0;have e1:(frA N cv pb zb v f).eval (.tmp 18)=.slice x1 n1 c1:=h1;have e2:(frA N cv pb zb v f).eval (.tmp 23)=.slice x2 n2 c2:=h2;have e3:(frA N cv pb zb v f).eval (.tmp 29)=.slice x3 n3 c3:=h3;unfold execOp;simp only[ho,cK,List.map_cons,List.map_nil,e0,e1,e2,e3]
 go_simp
theorem V6{Q:Exit->Act->World->Prop}{v:Value}{n B0 pb zb id:Nat}{w:World}{f:Nat->Value}(C:dD 53 4 zA N v n B0 zb w)
  (hQ:∀f' w',cY 53 v.ownBlock w w'->dC 53 33 4 v n B0 zb w' (f' 5)->Q .normal (frA N cv pb zb v f') w'):(Code.region id (dV Tryz.f87) true).wp prog Q (frA N cv pb zb v f) w:=by
 refine E4 (by kernel_rfl) (I:=fun listed a w1=>∃f',a=frA N cv pb zb v f'/\dI 53 33 4 zA N v n B0 zb w listed f' w1) (ed (by kernel_rfl)) ⟨f,rfl,?_⟩ ?_ ?_
 ·refine⟨⟨⟨rfl,rfl,rfl,aO _,fun _ _ _=>rfl⟩,fun g cur h=>⟨cur,h,rfl⟩⟩,fun k hk hl=>?_⟩;rw[Il,Array.getElem?_replicate,if_pos hk]at hl;cases hl
 ·rintro listed a w1 i o ⟨f,rfl,hI⟩ hsz hi ho hd;rw[Il]at hi;have ho9:=ho
  match i,hi with
  |0,_=>
   cases ho
   exact Ar (x:=v) (w':=w1) ho9 rfl rfl ⟨_,rfl,dS 0 hI (by decide) (cY.refl _ _) (ee (by decide) rfl)⟩
  |1,_=>
   cases ho
   exact Ar (x:=v) (w':=w1) ho9 rfl rfl ⟨_,rfl,dS 1 hI (by decide) (cY.refl _ _) (ee (by decide) rfl)⟩
  |2,_=>
   cases ho
   exact Ar (x:=.agg (zA N)) (w':=w1) ho9 rfl (Fp pb zb v f _ rfl w1 (C.z1 hI.1)) ⟨_,rfl,dS 2 hI (by decide) (cY.refl _ _) (eh (by decide) rfl)⟩
  |3,_=>
   cases ho
   have q2:=hI.at hd 2 (by decide) rfl;have hnew:=C.new hI.1;exact Ar ho9 rfl (YG pb zb v f _ rfl w1 (q2.ld (by decide))) ⟨_,rfl,dS 3 hI (by decide) (cY.alloc _ _ _) (em (by decide) ⟨w1.heap.size,rfl,hnew,aR w1 _⟩)⟩
  |4,_=>
   cases ho
   have q1:=hI.at hd 1 (by decide) rfl;have q3:=hI.at hd 3 (by decide) rfl;obtain⟨r,w2,hr,hs2,hrow⟩:=dX eC 33 C hI.1 (q3.b1 rfl);exact Ar ho9 rfl (dU (frA N cv pb zb v f) _ (.tmp 15) (.tmp 17) rfl w1 w2 v (f 17) r (q1.mv (by decide)) rfl hr) ⟨_,rfl,dS 4 hI (by decide) hs2 (ew (by decide) hrow)⟩
  |5,_=>
   cases ho
   exact Ar (x:=v) (w':=w1) ho9 rfl rfl ⟨_,rfl,dS 5 hI (by decide) (cY.refl _ _) (ee (by decide) rfl)⟩
  |6,_=>
   cases ho
   exact Ar (x:=.agg (zA N)) (w':=w1) ho9 rfl (Fp pb zb v f _ rfl w1 (C.z1 hI.1)) ⟨_,rfl,dS 6 hI (by decide) (cY.refl _ _) (eh (by decide) rfl)⟩
  |7,_=>
   cases ho
   exact Ar (x:=.agg (zA N)) (w':=w1) ho9 rfl (Fp pb zb v f _ rfl w1 (C.z1 hI.1)) ⟨_,rfl,dS 7 hI (by decide) (cY.refl _ _) (eh (by decide) rfl)⟩
  |8,_=>
   cases ho
   have q6:=hI.at hd 6 (by decide) rfl;have q7:=hI.at hd 7 (by decide) rfl;have hnew:=C.new hI.1;exact Ar ho9 rfl (YH pb zb v f _ rfl w1 (q6.ld (by decide)) (q7.ld (by decide))) ⟨_,rfl,dS 8 hI (by decide) (cY.alloc _ _ _) (eu (by decide) ⟨w1.heap.size,rfl,hnew,aR w1 _⟩)⟩
  |9,_=>
   cases ho
   have q5:=hI.at hd 5 (by decide) rfl;have q8:=hI.at hd 8 (by decide) rfl;have q4:=hI.at hd 4 (by decide) rfl;obtain⟨r,w2,hr,hs2,hrow⟩:=dY eC 33 C hI.1 (q8.b2 rfl);exact Ar ho9 rfl (dU (frA N cv pb zb v f) _ (.tmp 19) (.tmp 22) rfl w1 w2 v (f 22) r (q5.mv (by decide)) rfl hr) ⟨_,rfl,dS 9 hI (by decide) hs2 (ey (by decide) hrow)⟩
  |10,_=>
   cases ho
   exact Ar (x:=v) (w':=w1) ho9 rfl rfl ⟨_,rfl,dS 10 hI (by decide) (cY.refl _ _) (ee (by decide) rfl)⟩
  |11,_=>
   cases ho
   exact Ar (x:=.agg (zA N)) (w':=w1) ho9 rfl (Fp pb zb v f _ rfl w1 (C.z1 hI.1)) ⟨_,rfl,dS 11 hI (by decide) (cY.refl _ _) (eh (by decide) rfl)⟩
  |12,_=>
   cases ho
   exact Ar (x:=.agg (zA N)) (w':=w1) ho9 rfl (Fp pb zb v f _ rfl w1 (C.z1 hI.1)) ⟨_,rfl,dS 12 hI (by decide) (cY.refl _ _) (eh (by decide) rfl)⟩
  |13,_=>
   cases ho
   exact Ar (x:=.agg (zA N)) (w':=w1) ho9 rfl (Fp pb zb v f _ rfl w1 (C.z1 hI.1)) ⟨_,rfl,dS 13 hI (by decide) (cY.refl _ _) (eh (by decide) rfl)⟩
  |14,_=>
   cases ho
   have q11:=hI.at hd 11 (by decide) rfl;have q12:=hI.at hd 12 (by decide) rfl;have q13:=hI.at hd 13 (by decide) rfl;have hnew:=C.new hI.1;exact Ar ho9 rfl (YI pb zb v f _ rfl w1 (q11.ld (by decide)) (q12.ld (by decide)) (q13.ld (by decide))) ⟨_,rfl,dS 14 hI (by decide) (cY.alloc _ _ _) (ev (by decide) ⟨w1.heap.size,rfl,hnew,aR w1 _⟩)⟩
  |15,_=>
   cases ho
   have q10:=hI.at hd 10 (by decide) rfl;have q14:=hI.at hd 14 (by decide) rfl;have q9:=hI.at hd 9 (by decide) rfl;obtain⟨r,w2,hr,hs2,hrow⟩:=dZ eC 33 C hI.1 (q14.b3 rfl);exact Ar ho9 rfl (dU (frA N cv pb zb v f) _ (.tmp 24) (.tmp 28) rfl w1 w2 v (f 28) r (q10.mv (by decide)) rfl hr) ⟨_,rfl,dS 15 hI (by decide) hs2 (eA (by decide) hrow)⟩
  |16,_=>
   cases ho
   have q0:=hI.at hd 0 (by decide) rfl;have q4:=hI.at hd 4 (by decide) rfl;have q9:=hI.at hd 9 (by decide) rfl;have q15:=hI.at hd 15 (by decide) rfl;have hnew:=C.new hI.1;have f0:f 14=v:=q0.mv (by decide);have R1:=q4.r1 rfl;have R2:=q9.r2 rfl;have R3:=q15.r3 rfl;obtain⟨⟨x0,hx0⟩,⟨x1,hx1⟩,⟨x2,hx2⟩,⟨x3,hx3⟩⟩:=aK (C.hv.step hI.1) (aK R1.1 (aK R2.1 R3.1));obtain⟨a0,c0,e0⟩:=Al hx0;obtain⟨a1,c1,e1⟩:=Al hx1;obtain⟨a2,c2,e2⟩:=Al hx2;obtain⟨a3,c3,e3⟩:=Al hx3;refine Ar ho9 rfl (YJ pb zb v f _ rfl w1 a0 a1 a2 a3 _ _ _ _ c0 c1 c2 c3 (f0.trans e0) e1 e2 e3) ⟨_,rfl,dS 16 hI (by decide) (cY.alloc _ _ _) (eB (by decide) ?_)⟩;have S:=cY.alloc (T:=53) v.ownBlock w1 (.cells #[.slice a0 n c0,.slice a1 (n+1) c1,.slice a2 (n+2) c2,.slice a3 (n+3) c3] 33);refine⟨w1.heap.size,f 18,f 23,f 29,rfl,hnew,?_,R1.step S,R2.step S,R3.step S⟩;rw[aR];have g1:f 18=.slice a1 (n+1) c1:=e1;have g2:f 23=.slice a2 (n+2) c2:=e2;have g3:f 29=.slice a3 (n+3) c3:=e3;rw[g1,g2,g3,e0]
  |17,_=>
   cases ho
   have q16:=hI.at hd 16 (by decide) rfl;exact Ar (x:=f 30) (w':=w1) ho9 rfl rfl ⟨_,rfl,dS 17 hI (by decide) (cY.refl _ _) (eB (by decide) (q16.rg (by decide)))⟩
 ·rintro listed a w1 ⟨f',rfl,hI⟩ hl;exact hQ f' w1 hI.1 ((hI.2 17 (by decide) (hl 17 (by rw[Il];decide))).rg (by decide))
theorem V7:(prog.info? 108).map (fun i=>(i.zero,i.size,i.bytes))=some (some (jj),1,24):=by kernel_rfl
def zB(N:Nat):Array Value:=#[.int .u8 ((N%251:Nat):Int),.int .u8 ((N/251%251:Nat):Int),.int .u8 ((N/63001%251:Nat):Int),.int .u8 77]
abbrev FR:=dA 51 4
abbrev I7:=dP 51 44 111 4 zB
theorem eD:BkF 51 44 4 4 zB:=⟨underlying44,⟨_,Ed,rfl⟩,by decide,by decide,fun _=>rfl,fun N u hu=>by
 simp only[zB,cw,List.not_mem_nil,or_false]at hu;rcases hu with rfl|rfl|rfl|rfl<;>rfl⟩
def frB(N:Nat)(cv:Value)(pb zb:Nat)(v:Value)(f:Nat->Value):Act:=
 {tmps:=#[.pointer (some (jA pb 1)),v,undef,undef,pj zb,f 5,undef,undef,.pointer (some (jA pb 1)),.pointer (some (jA pb 1)),.pointer (some (jA pb 2)),cv,vj (N:Int),.agg (zB N),
   f 14,f 15,f 16,f 17,f 18,f 19,f 20,f 21,f 22,f 23,f 24,f 25,f 26,f 27,f 28,f 29,f 30,undef,undef,undef,undef,undef,undef,undef,undef,undef,undef,undef,undef,undef,undef,undef,undef,undef,undef,undef,undef,undef,undef,undef,undef,undef,undef,undef,undef,undef,undef,undef,undef],defers:=[] }
theorem Im:(dV Tryz.f142).size=18:=rfl
theorem Fq(pb zb:Nat)(v:Value)(f:Nat->Value)(o:Oper)(ho:o.op=.load 51 (.tmp 4))(w:World)(hz:w.heap[zb]?=some (.cells (zB N) 51 (0,0))):(execOp (frB N cv pb zb v f).eval o).run prog w=.ok (.value (.agg (zB N))) w:=by
 have c0:w.cell? (jA zb 0)=some (.int .u8 ((N%251:Nat):Int)):=by rw[aP w zb 0 (zB N) _ _ hz];rfl
 have c1:w.cell? (jA zb 1)=some (.int .u8 ((N/251%251:Nat):Int)):=by rw[aP w zb 1 (zB N) _ _ hz];rfl
 have c2:w.cell? (jA zb 2)=some (.int .u8 ((N/63001%251:Nat):Int)):=by rw[aP w zb 2 (zB N) _ _ hz];rfl
 have c3:w.cell? (jA zb 3)=some (.int .u8 77):=by rw[aP w zb 3 (zB N) _ _ hz];rfl
 have e4:(frB N cv pb zb v f).eval (.tmp 4)=pj zb:=rfl;unfold execOp;simp only[ho,e4]
 go_simp
 rfl
theorem YU(pb zb:Nat)(v:Value)(f:Nat->Value)(o:Oper)(ho:o.op=.buildSlice 44 1 #[(0,.tmp 16)])(w:World)(h16:f 16=.agg (zB N)):(execOp (frB N cv pb zb v f).eval o).run prog w=.ok (.value (sj w.heap.size 1 1)) (w.alloc (.cells (zB N) 51)):=by
 have e4:(frB N cv pb zb v f).eval (.tmp 16)=.agg (zB N):=h16;unfold execOp;simp only[ho,cK,List.map_cons,List.map_nil,e4];unfold zB
 go_simp
theorem YV(pb zb:Nat)(v:Value)(f:Nat->Value)(o:Oper)(ho:o.op=.buildSlice 44 2 #[(0,.tmp 20),(1,.tmp 21)])(w:World)(h1:f 20=.agg (zB N))(h2:f 21=.agg (zB N)):(execOp (frB N cv pb zb v f).eval o).run prog w=.ok (.value (sj w.heap.size 2 2)) (w.alloc (.cells ((zB N)++(zB N)) 51)):=by
 have e1:(frB N cv pb zb v f).eval (.tmp 20)=.agg (zB N):=h1;have e2:(frB N cv pb zb v f).eval (.tmp 21)=.agg (zB N):=h2;unfold execOp;simp only[ho,cK,List.map_cons,List.map_nil,e1,e2];unfold zB
 go_simp
theorem YX(pb zb:Nat)(v:Value)(f:Nat->Value)(o:Oper)(ho:o.op=.buildSlice 44 3 #[(0,.tmp 25),(1,.tmp 26),(2,.tmp 27)])(w:World)(h1:f 25=.agg (zB N))(h2:f 26=.agg (zB N))(h3:f 27=.agg (zB N)):(execOp (frB N cv pb zb v f).eval o).run prog w=.ok (.value (sj w.heap.size 3 3)) (w.alloc (.cells ((zB N)++(zB N)++(zB N)) 51)):=by
 have e1:(frB N cv pb zb v f).eval (.tmp 25)=.agg (zB N):=h1;have e2:(frB N cv pb zb v f).eval (.tmp 26)=.agg (zB N):=h2;have e3:(frB N cv pb zb v f).eval (.tmp 27)=.agg (zB N):=h3;unfold execOp;simp only[ho,cK,List.map_cons,List.map_nil,e1,e2,e3];unfold zB
 go_simp
theorem YY(pb zb:Nat)(v:Value)(f:Nat->Value)(o:Oper)(ho:o.op=.buildSlice 111 4 #[(0,.tmp 14),(1,.tmp 18),(2,.tmp 23),(3,.tmp 29)])(w:World)(x0 x1 x2 x3:Option Addr)(n0 n1 n2 n3 c0 c1 c2 c3:Nat)(h0:f 14=.slice x0 n0 c0)(h1:f 18=.slice x1 n1 c1)(h2:f 23=.slice x2 n2 c2)(h3:f 29=.slice x3 n3 c3):(execOp (frB N cv pb zb v f).eval o).run prog w=.ok (.value (sj w.heap.size 4 4)) (w.alloc (.cells #[.slice x0 n0 c0,.slice x1 n1 c1,.slice x2 n2 c2,.slice x3 n3 c3] 44)):=by
 have e0:(frB N cv pb zb v f).eval (.tmp 14)=.slice x0 n0 c0:=h0;have e1:(frB N cv pb zb v f).eval (.tmp 18)=.slice x1 n1 c1:=h1;have e2:(frB N cv pb zb v f).eval (.tmp 23)=.slice x2 n2 c2:=h2;have e3:(frB N cv pb zb v f).eval (.tmp 29)=.slice x3 n3 c3:=h3;unfold execOp;simp only[ho,cK,List.map_cons,List.map_nil,e0,e1,e2,e3]
 go_simp
theorem Wa{Q:Exit->Act->World->Prop}{v:Value}{n B0 pb zb id:Nat}{w:World}{f:Nat->Value}(C:dD 51 4 zB N v n B0 zb w)
  (hQ:∀f' w',cY 51 v.ownBlock w w'->dC 51 44 4 v n B0 zb w' (f' 5)->Q .normal (frB N cv pb zb v f') w'):(Code.region id (dV Tryz.f142) true).wp prog Q (frB N cv pb zb v f) w:=by
 refine E4 (by kernel_rfl) (I:=fun listed a w1=>∃f',a=frB N cv pb zb v f'/\dI 51 44 4 zB N v n B0 zb w listed f' w1) (ed (by kernel_rfl)) ⟨f,rfl,?_⟩ ?_ ?_
 ·refine⟨⟨⟨rfl,rfl,rfl,aO _,fun _ _ _=>rfl⟩,fun g cur h=>⟨cur,h,rfl⟩⟩,fun k hk hl=>?_⟩;rw[Im,Array.getElem?_replicate,if_pos hk]at hl;cases hl
 ·rintro listed a w1 i o ⟨f,rfl,hI⟩ hsz hi ho hd;rw[Im]at hi;have ho9:=ho
  match i,hi with
  |0,_=>
   cases ho
   exact Ar (x:=v) (w':=w1) ho9 rfl rfl ⟨_,rfl,dS 0 hI (by decide) (cY.refl _ _) (ee (by decide) rfl)⟩
  |1,_=>
   cases ho
   exact Ar (x:=v) (w':=w1) ho9 rfl rfl ⟨_,rfl,dS 1 hI (by decide) (cY.refl _ _) (ee (by decide) rfl)⟩
  |2,_=>
   cases ho
   exact Ar (x:=.agg (zB N)) (w':=w1) ho9 rfl (Fq pb zb v f _ rfl w1 (C.z1 hI.1)) ⟨_,rfl,dS 2 hI (by decide) (cY.refl _ _) (eh (by decide) rfl)⟩
  |3,_=>
   cases ho
   have q2:=hI.at hd 2 (by decide) rfl;have hnew:=C.new hI.1;exact Ar ho9 rfl (YU pb zb v f _ rfl w1 (q2.ld (by decide))) ⟨_,rfl,dS 3 hI (by decide) (cY.alloc _ _ _) (em (by decide) ⟨w1.heap.size,rfl,hnew,aR w1 _⟩)⟩
  |4,_=>
   cases ho
   have q1:=hI.at hd 1 (by decide) rfl;have q3:=hI.at hd 3 (by decide) rfl;obtain⟨r,w2,hr,hs2,hrow⟩:=dX eD 44 C hI.1 (q3.b1 rfl);exact Ar ho9 rfl (dU (frB N cv pb zb v f) _ (.tmp 15) (.tmp 17) rfl w1 w2 v (f 17) r (q1.mv (by decide)) rfl hr) ⟨_,rfl,dS 4 hI (by decide) hs2 (ew (by decide) hrow)⟩
  |5,_=>
   cases ho
   exact Ar (x:=v) (w':=w1) ho9 rfl rfl ⟨_,rfl,dS 5 hI (by decide) (cY.refl _ _) (ee (by decide) rfl)⟩
  |6,_=>
   cases ho
   exact Ar (x:=.agg (zB N)) (w':=w1) ho9 rfl (Fq pb zb v f _ rfl w1 (C.z1 hI.1)) ⟨_,rfl,dS 6 hI (by decide) (cY.refl _ _) (eh (by decide) rfl)⟩
  |7,_=>
   cases ho
   exact Ar (x:=.agg (zB N)) (w':=w1) ho9 rfl (Fq pb zb v f _ rfl w1 (C.z1 hI.1)) ⟨_,rfl,dS 7 hI (by decide) (cY.refl _ _) (eh (by decide) rfl)⟩
  |8,_=>
   cases ho
   have q6:=hI.at hd 6 (by decide) rfl;have q7:=hI.at hd 7 (by decide) rfl;have hnew:=C.new hI.1;exact Ar ho9 rfl (YV pb zb v f _ rfl w1 (q6.ld (by decide)) (q7.ld (by decide))) ⟨_,rfl,dS 8 hI (by decide) (cY.alloc _ _ _) (eu (by decide) ⟨w1.heap.size,rfl,hnew,aR w1 _⟩)⟩
  |9,_=>
   cases ho
   have q5:=hI.at hd 5 (by decide) rfl;have q8:=hI.at hd 8 (by decide) rfl;have q4:=hI.at hd 4 (by decide) rfl;obtain⟨r,w2,hr,hs2,hrow⟩:=dY eD 44 C hI.1 (q8.b2 rfl);exact Ar ho9 rfl (dU (frB N cv pb zb v f) _ (.tmp 19) (.tmp 22) rfl w1 w2 v (f 22) r (q5.mv (by decide)) rfl hr) ⟨_,rfl,dS 9 hI (by decide) hs2 (ey (by decide) hrow)⟩
  |10,_=>
   cases ho
   exact Ar (x:=v) (w':=w1) ho9 rfl rfl ⟨_,rfl,dS 10 hI (by decide) (cY.refl _ _) (ee (by decide) rfl)⟩
  |11,_=>
   cases ho
   exact Ar (x:=.agg (zB N)) (w':=w1) ho9 rfl (Fq pb zb v f _ rfl w1 (C.z1 hI.1)) ⟨_,rfl,dS 11 hI (by decide) (cY.refl _ _) (eh (by decide) rfl)⟩
  |12,_=>
   cases ho
   exact Ar (x:=.agg (zB N)) (w':=w1) ho9 rfl (Fq pb zb v f _ rfl w1 (C.z1 hI.1)) ⟨_,rfl,dS 12 hI (by decide) (cY.refl _ _) (eh (by decide) rfl)⟩
  |13,_=>
   cases ho
   exact Ar (x:=.agg (zB N)) (w':=w1) ho9 rfl (Fq pb zb v f _ rfl w1 (C.z1 hI.1)) ⟨_,rfl,dS 13 hI (by decide) (cY.refl _ _) (eh (by decide) rfl)⟩
  |14,_=>
   cases ho
   have q11:=hI.at hd 11 (by decide) rfl;have q12:=hI.at hd 12 (by decide) rfl;have q13:=hI.at hd 13 (by decide) rfl;have hnew:=C.new hI.1;exact Ar ho9 rfl (YX pb zb v f _ rfl w1 (q11.ld (by decide)) (q12.ld (by decide)) (q13.ld (by decide))) ⟨_,rfl,dS 14 hI (by decide) (cY.alloc _ _ _) (ev (by decide) ⟨w1.heap.size,rfl,hnew,aR w1 _⟩)⟩
  |15,_=>
   cases ho
   have q10:=hI.at hd 10 (by decide) rfl;have q14:=hI.at hd 14 (by decide) rfl;have q9:=hI.at hd 9 (by decide) rfl;obtain⟨r,w2,hr,hs2,hrow⟩:=dZ eD 44 C hI.1 (q14.b3 rfl);exact Ar ho9 rfl (dU (frB N cv pb zb v f) _ (.tmp 24) (.tmp 28) rfl w1 w2 v (f 28) r (q10.mv (by decide)) rfl hr) ⟨_,rfl,dS 15 hI (by decide) hs2 (eA (by decide) hrow)⟩
  |16,_=>
   cases ho
   have q0:=hI.at hd 0 (by decide) rfl;have q4:=hI.at hd 4 (by decide) rfl;have q9:=hI.at hd 9 (by decide) rfl;have q15:=hI.at hd 15 (by decide) rfl;have hnew:=C.new hI.1;have f0:f 14=v:=q0.mv (by decide);have R1:=q4.r1 rfl;have R2:=q9.r2 rfl;have R3:=q15.r3 rfl;obtain⟨⟨x0,hx0⟩,⟨x1,hx1⟩,⟨x2,hx2⟩,⟨x3,hx3⟩⟩:=aK (C.hv.step hI.1) (aK R1.1 (aK R2.1 R3.1));obtain⟨a0,c0,e0⟩:=Al hx0;obtain⟨a1,c1,e1⟩:=Al hx1;obtain⟨a2,c2,e2⟩:=Al hx2;obtain⟨a3,c3,e3⟩:=Al hx3;refine Ar ho9 rfl (YY pb zb v f _ rfl w1 a0 a1 a2 a3 _ _ _ _ c0 c1 c2 c3 (f0.trans e0) e1 e2 e3) ⟨_,rfl,dS 16 hI (by decide) (cY.alloc _ _ _) (eB (by decide) ?_)⟩;have S:=cY.alloc (T:=51) v.ownBlock w1 (.cells #[.slice a0 n c0,.slice a1 (n+1) c1,.slice a2 (n+2) c2,.slice a3 (n+3) c3] 44);refine⟨w1.heap.size,f 18,f 23,f 29,rfl,hnew,?_,R1.step S,R2.step S,R3.step S⟩;rw[aR];have g1:f 18=.slice a1 (n+1) c1:=e1;have g2:f 23=.slice a2 (n+2) c2:=e2;have g3:f 29=.slice a3 (n+3) c3:=e3;rw[g1,g2,g3,e0]
  |17,_=>
   cases ho
   have q16:=hI.at hd 16 (by decide) rfl;exact Ar (x:=f 30) (w':=w1) ho9 rfl rfl ⟨_,rfl,dS 17 hI (by decide) (cY.refl _ _) (eB (by decide) (q16.rg (by decide)))⟩
 ·rintro listed a w1 ⟨f',rfl,hI⟩ hl;exact hQ f' w1 hI.1 ((hI.2 17 (by decide) (hl 17 (by rw[Im];decide))).rg (by decide))
theorem Wb:(prog.info? 111).map (fun i=>(i.zero,i.size,i.bytes))=some (some (jj),1,24):=by kernel_rfl
def zV(N:Nat):Array Value:=#[vj (-7070),vj 0,vj 0,vj (N:Int),vj 0,vj 0,vj 0,vj 0,vj 0]
abbrev GI:=dA 59 9
abbrev LK:=dP 59 56 113 9 zV
theorem eE:BkF 59 56 9 72 zV:=⟨underlying56,⟨_,KV,rfl⟩,by decide,by decide,fun _=>rfl,fun N u hu=>by
 simp only[zV,cw,List.not_mem_nil,or_false]at hu;rcases hu with rfl|rfl|rfl|rfl|rfl|rfl|rfl|rfl|rfl<;>rfl⟩
def frV(N:Nat)(cv:Value)(pb zb:Nat)(v:Value)(f:Nat->Value):Act:=
 {tmps:=#[.pointer (some (jA pb 1)),v,undef,undef,pj zb,f 5,undef,undef,.pointer (some (jA pb 1)),.pointer (some (jA pb 1)),.pointer (some (jA pb 3)),cv,vj (N:Int),.agg (zV N),
   f 14,f 15,f 16,f 17,f 18,f 19,f 20,f 21,f 22,f 23,f 24,f 25,f 26,f 27,f 28,f 29,f 30,undef,undef,undef,undef,undef,undef,undef,undef,undef,undef,undef,undef,undef,undef,undef,undef,undef,undef,undef,undef,undef,undef,undef,undef,undef,undef,undef,undef,undef,undef,undef,undef],defers:=[] }
theorem In:(dV Tryz.f94).size=18:=rfl
theorem Fr(pb zb:Nat)(v:Value)(f:Nat->Value)(o:Oper)(ho:o.op=.load 59 (.tmp 4))(w:World)(hz:w.heap[zb]?=some (.cells (zV N) 59 (0,0))):(execOp (frV N cv pb zb v f).eval o).run prog w=.ok (.value (.agg (zV N))) w:=by
 have c0:w.cell? (jA zb 0)=some (vj (-7070)):=by rw[aP w zb 0 (zV N) _ _ hz];rfl
 have c1:w.cell? (jA zb 1)=some (vj 0):=by rw[aP w zb 1 (zV N) _ _ hz];rfl
 have c2:w.cell? (jA zb 2)=some (vj 0):=by rw[aP w zb 2 (zV N) _ _ hz];rfl
 have c3:w.cell? (jA zb 3)=some (vj (N:Int)):=by rw[aP w zb 3 (zV N) _ _ hz];rfl
 have c4:w.cell? (jA zb 4)=some (vj 0):=by rw[aP w zb 4 (zV N) _ _ hz];rfl
 have c5:w.cell? (jA zb 5)=some (vj 0):=by rw[aP w zb 5 (zV N) _ _ hz];rfl
 have c6:w.cell? (jA zb 6)=some (vj 0):=by rw[aP w zb 6 (zV N) _ _ hz];rfl
 have c7:w.cell? (jA zb 7)=some (vj 0):=by rw[aP w zb 7 (zV N) _ _ hz];rfl
 have c8:w.cell? (jA zb 8)=some (vj 0):=by rw[aP w zb 8 (zV N) _ _ hz];rfl
 have e4:(frV N cv pb zb v f).eval (.tmp 4)=pj zb:=rfl;unfold execOp;simp only[ho,e4]
 go_simp
 rfl
theorem Zb(pb zb:Nat)(v:Value)(f:Nat->Value)(o:Oper)(ho:o.op=.buildSlice 56 1 #[(0,.tmp 16)])(w:World)(h16:f 16=.agg (zV N)):(execOp (frV N cv pb zb v f).eval o).run prog w=.ok (.value (sj w.heap.size 1 1)) (w.alloc (.cells (zV N) 59)):=by
 have e4:(frV N cv pb zb v f).eval (.tmp 16)=.agg (zV N):=h16;unfold execOp;simp only[ho,cK,List.map_cons,List.map_nil,e4];unfold zV
 go_simp
theorem Zc(pb zb:Nat)(v:Value)(f:Nat->Value)(o:Oper)(ho:o.op=.buildSlice 56 2 #[(0,.tmp 20),(1,.tmp 21)])(w:World)(h1:f 20=.agg (zV N))(h2:f 21=.agg (zV N)):(execOp (frV N cv pb zb v f).eval o).run prog w=.ok (.value (sj w.heap.size 2 2)) (w.alloc (.cells ((zV N)++(zV N)) 59)):=by
 have e1:(frV N cv pb zb v f).eval (.tmp 20)=.agg (zV N):=h1;have e2:(frV N cv pb zb v f).eval (.tmp 21)=.agg (zV N):=h2;unfold execOp;simp only[ho,cK,List.map_cons,List.map_nil,e1,e2];unfold zV
 go_simp
theorem Zd(pb zb:Nat)(v:Value)(f:Nat->Value)(o:Oper)(ho:o.op=.buildSlice 56 3 #[(0,.tmp 25),(1,.tmp 26),(2,.tmp 27)])(w:World)(h1:f 25=.agg (zV N))(h2:f 26=.agg (zV N))(h3:f 27=.agg (zV N)):(execOp (frV N cv pb zb v f).eval o).run prog w=.ok (.value (sj w.heap.size 3 3)) (w.alloc (.cells ((zV N)++(zV N)++(zV N)) 59)):=by
 have e1:(frV N cv pb zb v f).eval (.tmp 25)=.agg (zV N):=h1;have e2:(frV N cv pb zb v f).eval (.tmp 26)=.agg (zV N):=h2;have e3:(frV N cv pb zb v f).eval (.tmp 27)=.agg (zV N):=h3;unfold execOp;simp only[ho,cK,List.map_cons,List.map_nil,e1,e2,e3];unfold zV
 go_simp
theorem Ze(pb zb:Nat)(v:Value)(f:Nat->Value)(o:Oper)(ho:o.op=.buildSlice 113 4 #[(0,.tmp 14),(1,.tmp 18),(2,.tmp 23),(3,.tmp 29)])(w:World)(x0 x1 x2 x3:Option Addr)(n0 n1 n2 n3 c0 c1 c2 c3:Nat)(h0:f 14=.slice x0 n0 c0)(h1:f 18=.slice x1 n1 c1)(h2:f 23=.slice x2 n2 c2)(h3:f 29=.slice x3 n3 c3):(execOp (frV N cv pb zb v f).eval o).run prog w=.ok (.value (sj w.heap.size 4 4)) (w.alloc (.cells #[.slice x0 n0 c0,.slice x1 n1 c1,.slice x2 n2 c2,.slice x3 n3 c3] 56)):=by
 have e0:(frV N cv pb zb v f).eval (.tmp 14)=.slice x0 n0 c0:=h0;have e1:(frV N cv pb zb v f).eval (.tmp 18)=.slice x1 n1 c1:=h1;have e2:(frV N cv pb zb v f).eval (.tmp 23)=.slice x2 n2 c2:=h2;have e3:(frV N cv pb zb v f).eval (.tmp 29)=.slice x3 n3 c3:=h3;unfold execOp;simp only[ho,cK,List.map_cons,List.map_nil,e0,e1,e2,e3]
 go_simp
theorem Wc{Q:Exit->Act->World->Prop}{v:Value}{n pb id:Nat}{f:Nat->Value}(C:dD 59 9 zV N v n B0 zb w)
  (hQ:∀f' w',cY 59 v.ownBlock w w'->dC 59 56 9 v n B0 zb w' (f' 5)->Q .normal (frV N cv pb zb v f') w'):(Code.region id (dV Tryz.f94) true).wp prog Q (frV N cv pb zb v f) w:=by
 refine E4 (by kernel_rfl) (I:=fun listed a w1=>∃f',a=frV N cv pb zb v f'/\dI 59 56 9 zV N v n B0 zb w listed f' w1) (ed (by kernel_rfl)) ⟨f,rfl,?_⟩ ?_ ?_
 ·refine⟨⟨⟨rfl,rfl,rfl,aO _,fun _ _ _=>rfl⟩,fun g cur h=>⟨cur,h,rfl⟩⟩,fun k hk hl=>?_⟩;rw[In,Array.getElem?_replicate,if_pos hk]at hl;cases hl
 ·rintro listed a w1 i o ⟨f,rfl,hI⟩ hsz hi ho hd;rw[In]at hi;have ho9:=ho
  match i,hi with
  |0,_=>
   cases ho
   exact Ar (x:=v) (w':=w1) ho9 rfl rfl ⟨_,rfl,dS 0 hI (by decide) (cY.refl _ _) (ee (by decide) rfl)⟩
  |1,_=>
   cases ho
   exact Ar (x:=v) (w':=w1) ho9 rfl rfl ⟨_,rfl,dS 1 hI (by decide) (cY.refl _ _) (ee (by decide) rfl)⟩
  |2,_=>
   cases ho
   exact Ar (x:=.agg (zV N)) (w':=w1) ho9 rfl (Fr pb zb v f _ rfl w1 (C.z1 hI.1)) ⟨_,rfl,dS 2 hI (by decide) (cY.refl _ _) (eh (by decide) rfl)⟩
  |3,_=>
   cases ho
   have q2:=hI.at hd 2 (by decide) rfl;have hnew:=C.new hI.1;exact Ar ho9 rfl (Zb pb zb v f _ rfl w1 (q2.ld (by decide))) ⟨_,rfl,dS 3 hI (by decide) (cY.alloc _ _ _) (em (by decide) ⟨w1.heap.size,rfl,hnew,aR w1 _⟩)⟩
  |4,_=>
   cases ho
   have q1:=hI.at hd 1 (by decide) rfl;have q3:=hI.at hd 3 (by decide) rfl;obtain⟨r,w2,hr,hs2,hrow⟩:=dX eE 56 C hI.1 (q3.b1 rfl);exact Ar ho9 rfl (dU (frV N cv pb zb v f) _ (.tmp 15) (.tmp 17) rfl w1 w2 v (f 17) r (q1.mv (by decide)) rfl hr) ⟨_,rfl,dS 4 hI (by decide) hs2 (ew (by decide) hrow)⟩
  |5,_=>
   cases ho
   exact Ar (x:=v) (w':=w1) ho9 rfl rfl ⟨_,rfl,dS 5 hI (by decide) (cY.refl _ _) (ee (by decide) rfl)⟩
  |6,_=>
   cases ho
   exact Ar (x:=.agg (zV N)) (w':=w1) ho9 rfl (Fr pb zb v f _ rfl w1 (C.z1 hI.1)) ⟨_,rfl,dS 6 hI (by decide) (cY.refl _ _) (eh (by decide) rfl)⟩
  |7,_=>
   cases ho
   exact Ar (x:=.agg (zV N)) (w':=w1) ho9 rfl (Fr pb zb v f _ rfl w1 (C.z1 hI.1)) ⟨_,rfl,dS 7 hI (by decide) (cY.refl _ _) (eh (by decide) rfl)⟩
  |8,_=>
   cases ho
   have q6:=hI.at hd 6 (by decide) rfl;have q7:=hI.at hd 7 (by decide) rfl;have hnew:=C.new hI.1;exact Ar ho9 rfl (Zc pb zb v f _ rfl w1 (q6.ld (by decide)) (q7.ld (by decide))) ⟨_,rfl,dS 8 hI (by decide) (cY.alloc _ _ _) (eu (by decide) ⟨w1.heap.size,rfl,hnew,aR w1 _⟩)⟩
  |9,_=>
   cases ho
   have q5:=hI.at hd 5 (by decide) rfl;have q8:=hI.at hd 8 (by decide) rfl;have q4:=hI.at hd 4 (by decide) rfl;obtain⟨r,w2,hr,hs2,hrow⟩:=dY eE 56 C hI.1 (q8.b2 rfl);exact Ar ho9 rfl (dU (frV N cv pb zb v f) _ (.tmp 19) (.tmp 22) rfl w1 w2 v (f 22) r (q5.mv (by decide)) rfl hr) ⟨_,rfl,dS 9 hI (by decide) hs2 (ey (by decide) hrow)⟩
  |10,_=>
   cases ho
   exact Ar (x:=v) (w':=w1) ho9 rfl rfl ⟨_,rfl,dS 10 hI (by decide) (cY.refl _ _) (ee (by decide) rfl)⟩
  |11,_=>
   cases ho
   exact Ar (x:=.agg (zV N)) (w':=w1) ho9 rfl (Fr pb zb v f _ rfl w1 (C.z1 hI.1)) ⟨_,rfl,dS 11 hI (by decide) (cY.refl _ _) (eh (by decide) rfl)⟩
  |12,_=>
   cases ho
   exact Ar (x:=.agg (zV N)) (w':=w1) ho9 rfl (Fr pb zb v f _ rfl w1 (C.z1 hI.1)) ⟨_,rfl,dS 12 hI (by decide) (cY.refl _ _) (eh (by decide) rfl)⟩
  |13,_=>
   cases ho
   exact Ar (x:=.agg (zV N)) (w':=w1) ho9 rfl (Fr pb zb v f _ rfl w1 (C.z1 hI.1)) ⟨_,rfl,dS 13 hI (by decide) (cY.refl _ _) (eh (by decide) rfl)⟩
  |14,_=>
   cases ho
   have q11:=hI.at hd 11 (by decide) rfl;have q12:=hI.at hd 12 (by decide) rfl;have q13:=hI.at hd 13 (by decide) rfl;have hnew:=C.new hI.1;exact Ar ho9 rfl (Zd pb zb v f _ rfl w1 (q11.ld (by decide)) (q12.ld (by decide)) (q13.ld (by decide))) ⟨_,rfl,dS 14 hI (by decide) (cY.alloc _ _ _) (ev (by decide) ⟨w1.heap.size,rfl,hnew,aR w1 _⟩)⟩
  |15,_=>
   cases ho
   have q10:=hI.at hd 10 (by decide) rfl;have q14:=hI.at hd 14 (by decide) rfl;have q9:=hI.at hd 9 (by decide) rfl;obtain⟨r,w2,hr,hs2,hrow⟩:=dZ eE 56 C hI.1 (q14.b3 rfl);exact Ar ho9 rfl (dU (frV N cv pb zb v f) _ (.tmp 24) (.tmp 28) rfl w1 w2 v (f 28) r (q10.mv (by decide)) rfl hr) ⟨_,rfl,dS 15 hI (by decide) hs2 (eA (by decide) hrow)⟩
  |16,_=>
   cases ho
   have q0:=hI.at hd 0 (by decide) rfl;have q4:=hI.at hd 4 (by decide) rfl;have q9:=hI.at hd 9 (by decide) rfl;have q15:=hI.at hd 15 (by decide) rfl;have hnew:=C.new hI.1;have f0:f 14=v:=q0.mv (by decide);have R1:=q4.r1 rfl;have R2:=q9.r2 rfl;have R3:=q15.r3 rfl;obtain⟨⟨x0,hx0⟩,⟨x1,hx1⟩,⟨x2,hx2⟩,⟨x3,hx3⟩⟩:=aK (C.hv.step hI.1) (aK R1.1 (aK R2.1 R3.1));obtain⟨a0,c0,e0⟩:=Al hx0;obtain⟨a1,c1,e1⟩:=Al hx1;obtain⟨a2,c2,e2⟩:=Al hx2;obtain⟨a3,c3,e3⟩:=Al hx3;refine Ar ho9 rfl (Ze pb zb v f _ rfl w1 a0 a1 a2 a3 _ _ _ _ c0 c1 c2 c3 (f0.trans e0) e1 e2 e3) ⟨_,rfl,dS 16 hI (by decide) (cY.alloc _ _ _) (eB (by decide) ?_)⟩;have S:=cY.alloc (T:=59) v.ownBlock w1 (.cells #[.slice a0 n c0,.slice a1 (n+1) c1,.slice a2 (n+2) c2,.slice a3 (n+3) c3] 56);refine⟨w1.heap.size,f 18,f 23,f 29,rfl,hnew,?_,R1.step S,R2.step S,R3.step S⟩;rw[aR];have g1:f 18=.slice a1 (n+1) c1:=e1;have g2:f 23=.slice a2 (n+2) c2:=e2;have g3:f 29=.slice a3 (n+3) c3:=e3;rw[g1,g2,g3,e0]
  |17,_=>
   cases ho
   have q16:=hI.at hd 16 (by decide) rfl;exact Ar (x:=f 30) (w':=w1) ho9 rfl rfl ⟨_,rfl,dS 17 hI (by decide) (cY.refl _ _) (eB (by decide) (q16.rg (by decide)))⟩
 ·rintro listed a w1 ⟨f',rfl,hI⟩ hl;exact hQ f' w1 hI.1 ((hI.2 17 (by decide) (hl 17 (by rw[In];decide))).rg (by decide))
theorem cZ.set9{g:Nat}(hg:w.heap[g]?=some (.cells cur 59 (0,0)))(h1:B0<=g)(h2:g≠zb)(j0 j1 j2 j3 j4 j5 j6 j7 j8:Nat)(u0 u1 u2 u3 u4 u5 u6 u7 u8:Value):cZ 59 B0 zb w (((((((((w.setCell (jA g j0) u0).setCell (jA g j1) u1).setCell (jA g j2) u2).setCell (jA g j3) u3).setCell (jA g j4) u4).setCell (jA g j5) u5).setCell (jA g j6) u6).setCell (jA g j7) u7).setCell (jA g j8) u8):=by
 obtain⟨t0,c0,k0⟩:=cZ.set hg h1 h2 j0 u0;obtain⟨t1,c1,k1⟩:=cZ.set k0 h1 h2 j1 u1;obtain⟨t2,c2,k2⟩:=cZ.set k1 h1 h2 j2 u2;obtain⟨t3,c3,k3⟩:=cZ.set k2 h1 h2 j3 u3;obtain⟨t4,c4,k4⟩:=cZ.set k3 h1 h2 j4 u4;obtain⟨t5,c5,k5⟩:=cZ.set k4 h1 h2 j5 u5;obtain⟨t6,c6,k6⟩:=cZ.set k5 h1 h2 j6 u6;obtain⟨t7,c7,k7⟩:=cZ.set k6 h1 h2 j7 u7;obtain⟨t8,c8,k8⟩:=cZ.set k7 h1 h2 j8 u8;exact((((((((t0.trans t1).trans t2).trans t3).trans t4).trans t5).trans t6).trans t7).trans t8)
theorem eF{N q i:Nat}(hq:w.heap[q]?=some (.cells cur 59 (0,0)))(hsz:i*9+8<cur.size):
  db 9 zV N w (((((((((w.setCell (jA q (i*9)) (vj (-7070))).setCell (jA q (i*9+1)) (vj 0)).setCell (jA q (i*9+2)) (vj 0)).setCell (jA q (i*9+3)) (vj (N:Int))).setCell (jA q (i*9+4)) (vj 0)).setCell (jA q (i*9+5)) (vj 0)).setCell (jA q (i*9+6)) (vj 0)).setCell (jA q (i*9+7)) (vj 0)).setCell (jA q (i*9+8)) (vj 0))/\de 9 zV N (((((((((w.setCell (jA q (i*9)) (vj (-7070))).setCell (jA q (i*9+1)) (vj 0)).setCell (jA q (i*9+2)) (vj 0)).setCell (jA q (i*9+3)) (vj (N:Int))).setCell (jA q (i*9+4)) (vj 0)).setCell (jA q (i*9+5)) (vj 0)).setCell (jA q (i*9+6)) (vj 0)).setCell (jA q (i*9+7)) (vj 0)).setCell (jA q (i*9+8)) (vj 0)) q i:=by
 refine dR hq (bH _ q (i*9+8) _ _ _ (bH _ q (i*9+7) _ _ _ (bH _ q (i*9+6) _ _ _ (bH _ q (i*9+5) _ _ _ (bH _ q (i*9+4) _ _ _ (bH _ q (i*9+3) _ _ _ (bH _ q (i*9+2) _ _ _ (bH _ q (i*9+1) _ _ _ (bH _ q (i*9) _ _ _ hq))))))))) (fun g hk=>?_) (fun o h9=>?_) (fun p hp=>?_)
 ·rw[aL _ (jA q (i*9+8)) g _ hk,aL _ (jA q (i*9+7)) g _ hk,aL _ (jA q (i*9+6)) g _ hk,aL _ (jA q (i*9+5)) g _ hk,aL _ (jA q (i*9+4)) g _ hk,aL _ (jA q (i*9+3)) g _ hk,aL _ (jA q (i*9+2)) g _ hk,aL _ (jA q (i*9+1)) g _ hk,aL _ (jA q (i*9)) g _ hk]
 ·unfold zV
  match o,h9 with
  |0,_|1,_|2,_|3,_|4,_|5,_|6,_|7,_|8,_=>simp[bN];omega
 ·repeat rw[bC (by omega)]
theorem XO:(prog.info? 113).map (fun i=>(i.zero,i.size,i.bytes))=some (some (jj),1,24):=by kernel_rfl
attribute [local go_sem ↓] Go.wp_at_zero Go.wp_at_succ
theorem VM(bo tc cq tw th tx ty:Bool):(bo=true/\tc=true)\/(bo=true/\tc=false/\cq=false)\/(bo=true/\tc=false/\cq=true)\/(bo=false/\tc=true)\/(bo=false/\tc=false/\cq=false)\/(bo=false/\tc=false/\cq=true/\tw=true)\/(bo=false/\tc=false/\cq=true/\tw=false/\th=true)\/(bo=false/\tc=false/\cq=true/\tw=false/\th=false/\tx=true)\/(bo=false/\tc=false/\cq=true/\tw=false/\th=false/\tx=false/\ty=true)\/(bo=false/\tc=false/\cq=true/\tw=false/\th=false/\tx=false/\ty=false):=by
 cases bo<;>cases tc<;>cases cq<;>cases tw<;>cases th<;>cases tx<;>cases ty<;>simp
theorem Ml{S B:Nat->Prop}{c:Nat}{st:St}{bv:Value}(hf:AW st)(id:Int)(w:World)(h:Aw w S c st bv)(hSb:∀g,S g->g<w.heap.size)(hap:∀g,S g->¬B g)(hltB:∀g,B g->g<w.heap.size)(Wn Hn:Nat)(hWn:st.w=Wn)(hHn:st.h=Hn){L:List RB}{P D:Nat->Value}(hBf:AG w B bv (Wn*Hn) L P D):
  Calls prog 91 #[pj c,vj id] w (Gs S B c bv (Wn*Hn) L P D (AZ st id).1 (AZ st id).2 (if st.isB id=true then Cq (st.rcDam id.toNat) Wn else fun _=>false) w):=by
 have hw:=hf.wf;have hIs:=D6 (S:=S) (c:=c) (st:=st) (bv:=bv) id w h hw.made;have hB:=AV hw id;have HE6:=Aa (Gs.same (er:=6) h hBf (aN _ _));unfold AZ;obtain⟨t,ht⟩:∃t,st.isB id=t:=⟨_,rfl⟩;rw[ht]at hIs hB ⊢;clear ht;have HI:=Aa hIs;clear hIs;cases t with
 |false=>
  rw[if_neg (by simp),if_neg (by simp)];clear hB h hBf hap hltB;go_enter func91,ntmps91
  go_wp2_with(go_at_call 127;refine HI.out.mono ?_;rintro e w' ⟨rfl,hw'⟩;replace hw':=hw'.symm;subst hw')
  go_ret;exact HE6.out
 |true=>
  rw[if_pos rfl,if_pos rfl];obtain⟨i,rfl,hio⟩:=hB.1 rfl;have hil:=hw.lt hio;rw[aX];have HPa:=Aa (Jl hw i w h);have HRef:=Aa h;have HBf:=Aa hBf;have HAp:=Aa (aK hap hltB);have HWn:=Aa (aK hWn hHn);have HSb:=Aa hSb;clear hBf hap hltB hWn hHn hSb;obtain⟨sv,ov,F,hr,hs⟩:=h;obtain⟨g,cap,e1,e2,e3,e4,e5,e6⟩:=hr.at (by omega);subst e1;obtain⟨_,cur,hcur⟩:=hr.gType;have hne:¬c=g:=Aj hr.scr hcur (by decide);have hne2:g≠c:=fun e=>hne e.symm;have hcl:=(aM.1 hr.scr).1;obtain⟨nS,hnS⟩:∃x,st.sfs.length=x:=⟨_,rfl⟩;have hmd:=hw.made;obtain⟨pa,pm,pc,hpx,hpm⟩:=(hs.pixN i hil).form;obtain⟨xa,xm,xc,hxx,hxm⟩:=(hs.pixX i hil).form;have q:=hs.rel i hil;obtain⟨ka,km,kc,hkk⟩:=q.kept;obtain⟨na,nm,nc,hnh⟩:=q.nhint;obtain⟨ha,hm,hc,hxh⟩:=q.xhint;obtain⟨lh9,hlh1,hlh2,hlh3⟩:=(hs.dat i hil).hinX;have HC:Hid (∀W',uj w W'->W'.cell? (jA c 3)=some (sj g nS cap)/\(∀o,o<28->W'.cell? (jA g (i*28+o))=some (F i o))/\∀j,W'.frozen? (jA g j)=false):=fun W' hW=>by
   have r2:=hr.below hW;obtain⟨k0,k1,k2,k3,k4,kf,kl⟩:=r2.cells;obtain⟨g',cap',q1,q2,q3,q4,q5,q6⟩:=r2.at (by omega);injection q1 with q11 q12 q13;injection q11 with q11;injection q11 with q11;subst q11;rw[hnS]at k3;exact⟨k3,fun o ho=>q5 i hil o ho,q6⟩
  rw[hnS]at e3 hmd;have hin:i<nS:=by omega
  have hicap:i<cap:=by omega
  have HQ:=Aa (aK hr (aK hs (aK hil (aK hnS hio))));have HF:=Aa (aK q (aK hpx (aK hxx hxh)));rw[hxh]at hlh1;have lkN:=(hw.lk i).1;have lkX:=(hw.lk i).2;obtain⟨N,hN⟩:∃x,(st.sf i).now=x:=⟨_,rfl⟩;obtain⟨X,hX⟩:∃x,(st.sf i).next=x:=⟨_,rfl⟩;have z2:=q.nw;have z3:=q.nh;have z5:=q.nx;have z6:=q.ny;have z7:=q.ncut;have z8:=q.n0;have z9:=q.n1;have z10:=q.n2;have z11:=q.n3;have z12:=hnh;have y2:=q.xw;have y3:=q.xh;have y5:=q.xx;have y6:=q.xy;have y7:=q.xcut;have y8:=q.x0;have y9:=q.x1;have y10:=q.x2;have y11:=q.x3;have y12:=hxh;rw[hN]at z2 z3 z5 z6 z7 z8 z9 z10 z11 hpm lkN;rw[hX]at y2 y3 y5 y6 y7 y8 y9 y10 y11 hxm lkX hlh3;have HLh:=Aa (aK hlh1 (aK hlh2 hlh3));have HLm:Hid (hm=lh9.length):=by
   obtain⟨a9,c9,e9⟩:=hlh1.form;simp only[Value.slice.injEq]at e9;exact e9.2.1
  have HNX:=Aa (aK hN hX);clear hr hs e5 e6 hcur hB HE6 hil hN hX q hnS hlh1 hlh2 hlh3 hnh hxh;go_enter func91,ntmps91
  go_upto_region 5 with(first
   |(go_at_call 127;refine HI.out.mono ?_;rintro e w' ⟨rfl,hw'⟩;replace hw':=hw'.symm;subst hw')
   |(go_at_call 129;refine HPa.out.mono ?_;rintro e w1 ⟨v1,rfl,hv1,hb1⟩;have H1:=Aa (aK hv1 (aK trivial hb1));have hs1:=hb1.size;clear hv1 hb1))
  obtain⟨k3,kc9,kf⟩:=HC.out w1 H1.out.2.2;have hclw:c<w1.heap.size:=by omega
  have hglw:g<w1.heap.size:=by omega
  have d2:=kc9 2 (by omega);have d3:=kc9 3 (by omega);have d4:=kc9 4 (by omega);have d5:=kc9 5 (by omega);have d6:=kc9 6 (by omega);have d7:=kc9 7 (by omega);have d8:=kc9 8 (by omega);have d9:=kc9 9 (by omega);have d10:=kc9 10 (by omega);have d11:=kc9 11 (by omega);have d12:=kc9 12 (by omega);have d13:=kc9 13 (by omega);have d14:=kc9 14 (by omega);have d15:=kc9 15 (by omega);have d16:=kc9 16 (by omega);have d17:=kc9 17 (by omega);have d18:=kc9 18 (by omega);have d19:=kc9 19 (by omega);have d20:=kc9 20 (by omega);have d21:=kc9 21 (by omega);have d22:=kc9 22 (by omega);have d23:=kc9 23 (by omega);have d27:=kc9 27 (by omega);rw[z2]at d2;rw[z3]at d3;rw[hpx]at d4;rw[z5]at d5;rw[z6]at d6;rw[z7]at d7;rw[z8]at d8;rw[z9]at d9;rw[z10]at d10;rw[z11]at d11;rw[z12]at d12;rw[y2]at d13;rw[y3]at d14;rw[hxx]at d15;rw[y5]at d16;rw[y6]at d17;rw[y7]at d18;rw[y8]at d19;rw[y9]at d20;rw[y10]at d21;rw[y11]at d22;rw[y12]at d23;rw[hkk]at d27;have f2:=kf (i*28+2);have f3:=kf (i*28+3);have f4:=kf (i*28+4);have f5:=kf (i*28+5);have f6:=kf (i*28+6);have f7:=kf (i*28+7);have f8:=kf (i*28+8);have f9:=kf (i*28+9);have f10:=kf (i*28+10);have f11:=kf (i*28+11);have f12:=kf (i*28+12);have f27:=kf (i*28+27);clear kc9 kf z2 z3 z5 z6 z7 z8 z9 z10 z11 z12 y2 y3 y5 y6 y7 y8 y9 y10 y11 y12 hpx hxx hkk
  go_upto_region 9 with fail
  obtain⟨W2,hW2,⟨F1,r2,s2⟩,hO2,hz2,hB8,hB9,hoth⟩:=RH (N:=N) H1.out.2.2 HQ.out.1 HQ.out.2.1 HQ.out.2.2.1 HNX.out.2 pa xa ha na pm pc xm xc hm hc nm nc HF.out.2.2.1 HF.out.2.2.2;rw[hW2];clear hW2;have lw:=lkX.w;have lh:=lkX.h;have hKK:0<=X.w*X.h/\X.w*X.h<=24*24:=⟨Int.mul_nonneg lw.1 lh.1,Int.mul_le_mul lw.2 lh.2 lh.1 (by omega)⟩;obtain⟨K,hK⟩:∃K:Nat,(K:Int)=X.w*X.h:=⟨(X.w*X.h).toNat,by omega⟩;have hK576:K<=576:=by omega
  have m1:IntKind.i64.wrap (X.w*X.h)=(K:Int):=by rw[bB];omega
  have m2:wrap64 (X.w*X.h)=(K:Int):=by unfold wrap64;omega
  have hmk:∀W:World,(Instr.makeSlice 154 (vj (K:Int)) (vj (K:Int))).run prog W=.ok (sj W.heap.size K K) (W.alloc (.cells (madeCells #[.bool false] K) 4)):=fun W=>run_make_row' 154 4 (.bool false) 1 underlying154 du rfl .i64 .i64 K (by omega) (by omega) W;obtain⟨g',cap',p1,p2,p3,p4,p5,p6⟩:=r2.at (show 0<st.sfs.length from by have:=HQ.out.2.2.1;omega);injection p1 with p11 p12 p13;injection p11 with p11;injection p11 with p11;subst p11;have u27:=p5 i HQ.out.2.2.1 27 (by omega);have v27:=p6 (i*28+27);have x0:W2.cell? (jA (w1.heap.size+1) 0)=some (vj X.w):=hB9.cell 0;have x1:W2.cell? (jA (w1.heap.size+1) 1)=some (vj X.h):=hB9.cell 1;have hgW:g<W2.heap.size:=by omega
  have hgb:¬w1.heap.size+1=g:=by omega
  have HZ2:=Aa hz2;have HM:=Aa (aK r2 (aK s2 (aK hO2 (aK hB8 (aK hB9 hoth)))));clear r2 s2 hO2 hB8 hB9 hoth p5 p6 p12 p13 d2 d3 d4 d5 d6 d7 d8 d9 d10 d11 d12 d13 d14 d15 d16 d17 d18 d19 d20 d21 d22 d23 d27 f2 f3 f4 f5 f6 f7 f8 f9 f10 f11 f12 f27 k3 hKK;have HK:=Aa (aK hK hz2);clear hK hz2
  go_upto_region 10 with fail
  have HW3:∃W3,(W2.setCell (jA g (i*28+27)) (sj W2.heap.size K K)).alloc (.cells (madeCells #[.bool false] K) 4)=W3/\(∃F2,B3 W3 S c st.w st.h st.sfs.length st.order bv (sj g st.sfs.length cap) ov F2/\DG W3 S (upd st i BW) F2 i/\F2 i 27=sj (w1.heap.size+2) K K)/\Ac S w W3/\W3.heap.size=w1.heap.size+3/\A2 W3 (w1.heap.size+2) K (fun _=>false)/\(∀b,b<w1.heap.size+2->b≠g->W3.heap[b]?=W2.heap[b]?)/\W3.cell? (jA g (i*28+27))=some (sj (w1.heap.size+2) K K):=by
   refine⟨_,rfl,?_⟩;have hz2:=HK.out.2;obtain⟨e29,cu9,hcu9⟩:=HM.out.1.gType;have r3:=(HM.out.1.set HQ.out.2.2.1 (show 27<28 by omega) (sj W2.heap.size K K));have hpk:=BB (j:=i*28+27) (u:=sj W2.heap.size K K) hcu9 (w':=W2) fun _ _ _ _ _=>rfl;have s3:DG (W2.setCell (jA g (i*28+27)) (sj W2.heap.size K K)) S (upd st i BW) (upF F1 i 27 (sj W2.heap.size K K)) i:=by
    have s9:=HM.out.2.1.other hpk;refine⟨fun j hj=>?_,fun j hj hne=>?_,?_,?_,?_,?_⟩
    ·have q:=s9.rel j hj;by_cases e:j=i
     ·subst e;rw[Bx];exact⟨q.alive,q.parent,q.nw,q.nh,q.nx,q.ny,q.ncut,q.n0,q.n1,q.n2,q.n3,q.nhint,q.xw,q.xh,q.xx,q.xy,q.xcut,q.x0,q.x1,q.x2,q.x3,q.xhint,q.ask,q.sib,q.above,⟨_,_,_,rfl⟩⟩
     ·rw[D7 _ _ _ _ e];exact q
    ·rw[D7 _ _ _ _ hne];exact s9.dat j hj hne
    ·rw[Bx];exact s9.pixN
    ·rw[Bx];exact s9.pixX
    ·rw[Bx];exact s9.hinN
    ·rw[Bx];exact s9.hinX
   have zz:(W2.setCell (jA g (i*28+27)) (sj W2.heap.size K K)).heap.size=w1.heap.size+2:=by simp[hz2]
   have bm:=al1 (aO (W2.setCell (jA g (i*28+27)) (sj W2.heap.size K K)).heap.size) (.cells (madeCells #[.bool false] K) 4);have hbm:A2 ((W2.setCell (jA g (i*28+27)) (sj W2.heap.size K K)).alloc (.cells (madeCells #[.bool false] K) 4)) (w1.heap.size+2) K (fun _=>false):=by
    have h9:=Jt (W2.setCell (jA g (i*28+27)) (sj W2.heap.size K K)) K;rw[zz]at h9;exact h9
   obtain⟨g9,cap9,b1,_,_,_,b5,_⟩:=r3.at (show 0<st.sfs.length from by have:=HQ.out.2.2.1;omega);injection b1 with b11 b12 b13;injection b11 with b11;injection b11 with b11;subst b11;have c27:=b5 i HQ.out.2.2.1 27 (by omega);rw[Bx]at c27;refine⟨⟨_,r3.below bm,s3.below bm,by rw[Bx,hz2];rfl⟩,(HM.out.2.2.1.set (.inl e29) _).alloc _,by simp[hz2],hbm,fun b hb hne=>?_,?_⟩
   ·rw[Ad _ _ b (by omega)];exact aL W2 (jA g (i*28+27)) b _ hne
   ·rw[BI _ _ g _ (by omega),c27];show some (if(27:Nat)=27 then _ else _)=_;rw[if_pos rfl,hz2]
  obtain⟨W3,hW3,⟨F2,r3,s3,hF27⟩,hO3,hz3,hB3,hoth3,k27⟩:=HW3;rw[hW3];clear hW3 u27 v27 x0 x1 m1 m2 hmk;have HLr:Hid (∀W:World,(∀(b:Nat) (cb:Array Value),w.heap[b]?=some (.cells cb 53 (0,0))->W.heap[b]?=w.heap[b]?)->As W (.slice ha hm hc) lh9):=fun W hW=>by
   have h9:=HLh.out.1.other hW;rw[HLm.out]at h9 ⊢;exact RG h9
  have HF27:=Aa hF27;clear hF27;obtain⟨_,cu3,hcu3⟩:=r3.gType;have hB9':Blk W3 (w1.heap.size+1) 212 #[vj X.w,vj X.h,.slice xa xm xc,vj X.x,vj X.y,.bool X.cut,vj X.clip.1,vj X.clip.2.1,vj X.clip.2.2.1,vj X.clip.2.2.2,.slice ha hm hc]:=(hoth3 _ (by omega) (by omega)).trans HM.out.2.2.2.2.1;have hB8':Blk W3 w1.heap.size 212 #[vj N.w,vj N.h,.slice pa pm pc,vj N.x,vj N.y,.bool N.cut,vj N.clip.1,vj N.clip.2.1,vj N.clip.2.2.1,vj N.clip.2.2.2,.slice na nm nc]:=(hoth3 _ (by omega) (by omega)).trans HM.out.2.2.2.1;have H3:=Aa (aK r3 (aK s3 (aK hO3 (aK hB3 (aK hoth3 (aK k27 (aK hcu3 (aK hB9' (aK hB8' hz3)))))))));clear r3 s3 hO3 hB3 hoth3 k27 hcu3 hB9' hB8' hz3;go_wp2
  go_loopg [10] K (fun gg s10 wr=>∃j:Nat,s10=vj j/\gg+j=K/\C2 (fun b=>b=w1.heap.size+2) 4 W3 wr/\A2 wr (w1.heap.size+2) K fun k=>decide (k<j)&&Cn X k)
  case atStart=>exact⟨0,rfl,by omega,C2.refl _ _ _,H3.out.2.2.2.1.congr fun k _=>by simp⟩
  case round=>
   rename World=>wr;obtain⟨j,rfl,hgj,hT,hBo⟩:=hrel;have HBo:=Aa hBo;have HT:=Aa hT;have k27r:wr.cell? (jA g (i*28+27))=some (sj (w1.heap.size+2) K K):=(aV (a:=(jA g (i*28+27))) (hT.other H3.out.2.2.2.2.2.2.1 (by decide))).trans H3.out.2.2.2.2.2.1;have hB9r:Blk wr (w1.heap.size+1) 212 _:=(hT.other H3.out.2.2.2.2.2.2.2.1 (by decide)).trans H3.out.2.2.2.2.2.2.2.1;have hKb:=hBo.has;cases gk with
   |zero=>
    have hlt:¬(j:Int)<(K:Int):=by omega
    clear hT hB9r hKb hBo;have hil:=HQ.out.2.2.1;have hf1:=hf.now hil;have hsz3:=H3.out.2.2.2.2.2.2.2.2.2;have hszr:=HT.out.size;have hne3:∀b,S b->¬b=w1.heap.size+2:=fun b hb e=>by have h9:=HSb.out b hb;omega
    have hk9:∀b,S b->b<W3.heap.size->wr.heap[b]?=W3.heap[b]? :=fun b hb hl=>HT.out.only.block b hl (hne3 b hb);have hRr:Aw wr (fun b=>S b\/b=w1.heap.size+2) c (upd st i BW) bv:=by
     have hsf:((upd st i BW).sf i)=BW (st.sf i):=by rw[Bf st i BW i hil,if_pos rfl]
     refine⟨_,ov,F2,by have h9:=(H3.out.1.keep hk9).mono (S':=fun b=>S b\/b=w1.heap.size+2) fun b hb=>.inl hb;rw[<-Ct st i BW]at h9;exact h9,(H3.out.2.1.keep hk9).full (fun b hb=>.inl hb) ?_⟩;rw[HF27.out,hsf];show AH wr _ _ ((st.sf i).next.w*(st.sf i).next.h) (Cn (st.sf i).next);rw[HNX.out.2,<-HK.out.1];exact Ih (HBo.out.congr fun k hk=>by have:k<j:=(by omega);simp[this]) (.inr rfl) (by omega)
    have hOr:Ac S w wr:=H3.out.2.2.1.trans ((HT.out.only).mono fun b hb he=>.inr ⟨by omega,by omega⟩);have HSt:=Aa (P9 hf1.wf hf1.sib i HQ.out.2.2.2.2 wr hRr);have H1r:Hid (AF wr w.heap.size v1 (st.partsL i)):=⟨Ai H1.out.1.1 fun b hb=>by
     have h8:=H1.out.1.1.lt b hb;obtain⟨cb,hcb⟩:=Ap H1.out.1.1 hb;have e2:W2.heap[b]?=w1.heap[b]? :=HM.out.2.2.2.2.2 b h8.2 (by omega);have e3:W3.heap[b]?=W2.heap[b]? :=H3.out.2.2.2.2.1 b (by omega) (by omega);have e4:=HT.out.other (e3.trans (e2.trans hcb)) (by decide);rw[e4,e3,e2],H1.out.1.2⟩
    have hB8r:Blk wr w1.heap.size 212 _:=(HT.out.other H3.out.2.2.2.2.2.2.2.2.1 (by decide)).trans H3.out.2.2.2.2.2.2.2.2.1;have hB9r:Blk wr (w1.heap.size+1) 212 _:=(HT.out.other H3.out.2.2.2.2.2.2.2.1 (by decide)).trans H3.out.2.2.2.2.2.2.2.1;have hpix:AC wr S (.slice pa pm pc) (N.w*N.h) N.pix:=by
     have h9:=HQ.out.2.1.pixN i hil;rw[HF.out.2.1,HNX.out.1]at h9;refine h9.other fun b cb hb=>?_;have hbl:=(aM.1 hb).1;have e1:w1.heap[b]?=w.heap[b]? :=H1.out.2.2.block b hbl;obtain⟨_,cug,hcug⟩:=HQ.out.1.gType;have hbg:b≠g:=Aj hb hcug (by decide);have e2:W2.heap[b]?=w1.heap[b]? :=HM.out.2.2.2.2.2 b (by omega) hbg;have e3:W3.heap[b]?=W2.heap[b]? :=H3.out.2.2.2.2.1 b (by omega) hbg;have e4:=HT.out.other (e3.trans (e2.trans (e1.trans hb))) (by decide);rw[e4,e3,e2,e1]
    have HP:=Aa (aK hpix (aK hB8r (aK hB9r hOr)));have HK9:=Aa hne3;clear hpix hB8r hB9r hOr hRr hk9 hne3
    go_upto_region 16 with(go_at_call 131;refine HSt.out.mono ?_;rintro e w5 ⟨bo,rfl,hR5,hO5,hP5,hbo⟩;have H5:=Aa (aK hR5 (aK hO5 hP5));have HBo5:=Aa hbo;have hs5:=hO5.size;clear hR5 hO5 hP5 hbo)
    have hnS':∀b,w.heap.size<=b->b<w1.heap.size+2->¬(S b\/b=w1.heap.size+2):=fun b h1 h2 h3=>by
     rcases h3 with h3|h3
     ·have:=HSb.out b h3;omega
     ·omega
    have hB8:Blk w5 w1.heap.size 212 _:=(H5.out.2.1.block _ (by omega) (hnS' _ (by omega) (by omega))).trans HP.out.2.1;have hB9:Blk w5 (w1.heap.size+1) 212 _:=(H5.out.2.1.block _ (by omega) (hnS' _ (by omega) (by omega))).trans HP.out.2.2.1;have H1x:Hid (AF w5 w.heap.size v1 (st.partsL i)):=⟨Ai H1r.out.1 fun b hb=>H5.out.2.1.block b (H1r.out.1.lt b hb).2 (hnS' b (H1r.out.1.lt b hb).1 (by have h9:=(H1.out.1.1.lt b hb).2;omega)),H1r.out.2⟩;have HPx:Hid (AC w5 S (.slice pa pm pc) (N.w*N.h) N.pix):=HP.out.1.other fun b cb=>H5.out.2.2 b cb _ (.inl rfl);have hcm:stk (upd st i BW) i=cm st i:=Xb st hil;have hwc:Wf (cm st i):=by rw[<-hcm];exact Va hf1.wf hf1.sib HQ.out.2.2.2.2
    have HR5:Hid (Aw w5 (AA (fun b=>S b\/b=w1.heap.size+2) wr w5) c (cm st i) bv):=by unfold Hid;rw[<-hcm];exact H5.out.1
    have hzw:=HP.out.2.2.2.size;have HGA:Hid (∀b,AA (fun b=>S b\/b=w1.heap.size+2) wr w5 b->¬B b):=fun b hb hB9=>by
     have h9:=HAp.out.2 b hB9;rcases hb with(hb|hb)|hb
     ·exact HAp.out.1 b hb hB9
     ·omega
     ·omega
    have HB5:Hid (AG w5 B bv (Wn*Hn) L P D):=(HBf.out.apart HAp.out.1 HP.out.2.2.2).apart (A:=fun b=>S b\/b=w1.heap.size+2) (fun b hb=>HGA.out b (.inl hb)) H5.out.2.1;have HO5:Hid (Ac (fun b=>S b\/B b) w w5):=(HP.out.2.2.2.mono fun b _ hb=>.inl hb).trans (H5.out.2.1.mono fun b hb1 hb=>by
     rcases hb with hb|hb
     ·exact .inl (.inl hb)
     ·exact .inr ⟨by omega,by omega⟩)
    have HFin:Hid (∀(W:World) (L':List RB) (Q:Nat->Bool),Aw W (AA (fun b=>S b\/b=w1.heap.size+2) wr w5) c (cm st i) bv->Ac B w5 W->AG W B bv (Wn*Hn) L' P D->Db L L' (Wn*Hn) Q->(∀k,Cq (st.rcDam i) Wn k=Q k)->Gs S B c bv (Wn*Hn) L P D 0 (cm st i) (Cq (st.rcDam i) Wn) w (.returned (vj 0)) W):=fun W L' Q h1 h2 h3 h4 h5=>by
     have hz9:=h2.size;refine⟨rfl,h1.mono fun b hb=>?_,⟨L',h3,h4.congr fun k _=>h5 k⟩,HO5.out.trans (h2.mono fun b _ hb=>.inl (.inr hb))⟩;rcases hb with(hb|hb)|hb
     ·exact .inl hb
     ·exact .inr ⟨by omega,by omega⟩
     ·exact .inr ⟨by omega,by omega⟩
    have HHu:Hid (∀(W:World) (v:Value) (l:List R4) (base:Nat) (L0:List RB),Aw W (AA (fun b=>S b\/b=w1.heap.size+2) wr w5) c (cm st i) bv->AG W B bv (Wn*Hn) L0 P D->w.heap.size<=base->AF W base v l->l.length<=12->Calls prog 128 #[pj c,v] W fun e w'=>e=.returned (.tuple #[])/\∃L',EA W w' B bv (Wn*Hn) L0 L' P D fun _ k=>Cq l Wn k):=fun W v l base L0 h1 h2 h3 h4 h5=>P4 hwc l v W h1 HGA.out Wn Hn HWn.out.1 HWn.out.2 h2 h4.rects (fun wr9 ho=>(h4.apartB (fun b hb=>aQ (HAp.out.2 b hb) h3) ho).rects) (by omega);have HPa2:Hid (∀W,Aw W (AA (fun b=>S b\/b=w1.heap.size+2) wr w5) c (cm st i) bv->Calls prog 129 #[pj c,vj i] W (En ((cm st i).partsL i) W)):=fun W h1=>Jl hwc i W h1;have HLen:Hid ((st.partsL i).length<=12/\((cm st i).partsL i).length<=12/\∀r9,(chL r9).length<=12):=⟨Ia hw i,Ia hwc i,fun r9=>by unfold chL;split<;>simp⟩;obtain⟨lch,hlch⟩:∃l,chL (BG ((cm st i).otherAt i N.pix) (nrm ((cm st i).seen i)))=l:=⟨_,rfl⟩;have hcl9:i<(cm st i).sfs.length:=by rw[U2];exact hil
    have hnx:((cm st i).sf i).now=X:=by rw[MG st i i hil,if_pos rfl];exact HNX.out.2
    have HCh:Hid (N.w*N.h=X.w*X.h->Calls prog 132 #[pj c,vj i,.slice pa pm pc] w5 (En lch w5)):=fun he=>by rw[<-hlch];exact P8 (S':=S) hwc i hcl9 (.slice pa pm pc) w5 HR5.out (by rw[hnx,<-he];exact HPx.out)
    have a0:w5.cell? (jA w1.heap.size 0)=some (vj N.w):=hB8.cell 0;have a1:w5.cell? (jA w1.heap.size 1)=some (vj N.h):=hB8.cell 1;have a2:w5.cell? (jA w1.heap.size 2)=some (.slice pa pm pc):=hB8.cell 2;have a3:w5.cell? (jA w1.heap.size 3)=some (vj N.x):=hB8.cell 3;have a4:w5.cell? (jA w1.heap.size 4)=some (vj N.y):=hB8.cell 4;have a5:w5.cell? (jA w1.heap.size 5)=some (.bool N.cut):=hB8.cell 5;have a6:w5.cell? (jA w1.heap.size 6)=some (vj N.clip.1):=hB8.cell 6;have a7:w5.cell? (jA w1.heap.size 7)=some (vj N.clip.2.1):=hB8.cell 7;have a8:w5.cell? (jA w1.heap.size 8)=some (vj N.clip.2.2.1):=hB8.cell 8;have a9:w5.cell? (jA w1.heap.size 9)=some (vj N.clip.2.2.2):=hB8.cell 9;have b0:w5.cell? (jA (w1.heap.size+1) 0)=some (vj X.w):=hB9.cell 0;have b1:w5.cell? (jA (w1.heap.size+1) 1)=some (vj X.h):=hB9.cell 1;have b3:w5.cell? (jA (w1.heap.size+1) 3)=some (vj X.x):=hB9.cell 3;have b4:w5.cell? (jA (w1.heap.size+1) 4)=some (vj X.y):=hB9.cell 4;have b5:w5.cell? (jA (w1.heap.size+1) 5)=some (.bool X.cut):=hB9.cell 5;have b6:w5.cell? (jA (w1.heap.size+1) 6)=some (vj X.clip.1):=hB9.cell 6;have b7:w5.cell? (jA (w1.heap.size+1) 7)=some (vj X.clip.2.1):=hB9.cell 7;have b8:w5.cell? (jA (w1.heap.size+1) 8)=some (vj X.clip.2.2.1):=hB9.cell 8;have b9:w5.cell? (jA (w1.heap.size+1) 9)=some (vj X.clip.2.2.2):=hB9.cell 9;have hq:=Z9 N.clip.1 N.clip.2.1 N.clip.2.2.1 N.clip.2.2.2 X.clip.1 X.clip.2.1 X.clip.2.2.1 X.clip.2.2.2;obtain⟨cq,hcq⟩:∃t,(N.clip.1==X.clip.1&&(N.clip.2.1==X.clip.2.1&&(N.clip.2.2.1==X.clip.2.2.1&&N.clip.2.2.2==X.clip.2.2.2)))=t:=⟨_,rfl⟩;rw[hcq]at hq;obtain⟨tc,htc⟩:∃t,(N.cut != X.cut)=t:=⟨_,rfl⟩;obtain⟨tx,htx⟩:∃t,(N.x != X.x)=t:=⟨_,rfl⟩;obtain⟨ty,hty⟩:∃t,(N.y != X.y)=t:=⟨_,rfl⟩;obtain⟨tw,htw⟩:∃t,(N.w != X.w)=t:=⟨_,rfl⟩;obtain⟨th,hth⟩:∃t,(N.h != X.h)=t:=⟨_,rfl⟩;have HE:Hid (tw=false->th=false->N.w*N.h=X.w*X.h):=fun e1 e2=>by
     rw[e1]at htw;rw[e2]at hth;have h1:N.w=X.w:=by simpa using htw
     have h2:N.h=X.h:=by simpa using hth
     rw[h1,h2]
    have hmv:st.rmoved i=(bo||((tc|| !cq)||(tw||(th||(tx||ty))))):=by
     have h9:=HBo5.out;have hsf:((upd st i BW).sf i)=BW (st.sf i):=by rw[Bf st i BW i hil,if_pos rfl]
     rw[hcm,hsf,(B7 (g:=BW) hil (fun _=>rfl)).kids]at h9;unfold St.rmoved;rw[HNX.out.1,HNX.out.2,hcq,htc,htx,hty,htw,hth,h9];rfl
    have HDM:Hid ((bo||((tc|| !cq)||(tw||(th||(tx||ty)))))=true->∀k,Cq (st.rcDam i) Wn k=(Cq (st.partsL i) Wn k||Cq ((cm st i).partsL i) Wn k)):=fun he k=>by
     unfold St.rcDam;rw[hmv,if_pos he,TU]
    have HDC:Hid ((bo||((tc|| !cq)||(tw||(th||(tx||ty)))))=false->∀k,Cq (st.rcDam i) Wn k=Cq lch Wn k):=fun he k=>by
     unfold St.rcDam;rw[hmv,he,if_neg (by simp),HNX.out.1,hlch]
    have hlc12:lch.length<=12:=by rw[<-hlch];exact HLen.out.2.2 _
    clear hB8 hB9 hcm hnx hcl9 hcq hf1 hil hsz3 hszr hmv hlch hnS';have hcs:=VM bo tc cq tw th tx ty;rcases hcs with⟨rfl,rfl⟩|⟨rfl,rfl,rfl⟩|⟨rfl,rfl,rfl⟩|⟨rfl,rfl⟩|⟨rfl,rfl,rfl⟩|⟨rfl,rfl,rfl,rfl⟩|⟨rfl,rfl,rfl,rfl,rfl⟩|⟨rfl,rfl,rfl,rfl,rfl,rfl⟩|⟨rfl,rfl,rfl,rfl,rfl,rfl,rfl⟩|⟨rfl,rfl,rfl,rfl,rfl,rfl,rfl⟩;all_goals first
     |(have hcut:¬N.cut=X.cut:=bne_iff_ne.1 htc)
     |(have hcut:N.cut=X.cut:=(by simpa using htc))
    all_goals
     go_wp2_with(first
      |(go_at_call 132;refine(HCh.out (by first|exact HE.out rfl rfl|exact HE.out trivial trivial)).mono ?_;rintro e w6 ⟨v6,rfl,hv6,hb6⟩;have H6:=Aa hv6;have HR6:=Aa (HR5.out.keep (w':=w6) fun b _ hb=>hb6.block b hb);have HU6:=Aa (HB5.out.keep (w':=w6) fun b _ hb=>hb6.block b hb);have HO6:Hid (Ac B w5 w6):=Ac.below hb6;clear hv6 hb6)
      |(go_at_call_of 128 v1;refine(HHu.out _ _ _ _ _ HR5.out HB5.out (aO _) H1x.out HLen.out.1).mono ?_;rintro e w6 ⟨rfl,L6,ht6⟩;have HR6:=Aa (HR5.out.apart HGA.out ht6.only);have HU6:=Aa ht6.bufs;have HO6:=Aa ht6.only;have HL6:=Aa ht6.hurtB;clear ht6)
      |(go_at_call 129;refine(HPa2.out _ HR6.out).mono ?_;rintro e w7 ⟨v6,rfl,hv6,hb6⟩;have H6:=Aa hv6;have HR7:=Aa (HR6.out.keep (w':=w7) fun b _ hb=>hb6.block b hb);have HU7:=Aa (HU6.out.keep (w':=w7) fun b _ hb=>hb6.block b hb);have HO7:=Aa (HO6.out.after hb6);have hz6:=HO6.out.size;clear hv6 hb6)
      |(go_at_call 128;refine(HHu.out _ _ _ _ _ HR7.out HU7.out (by omega) H6.out HLen.out.2.1).mono ?_;rintro e w8 ⟨rfl,L8,ht8⟩;have HR8:=Aa (HR7.out.apart HGA.out ht8.only);have HU8:=Aa ht8.bufs;have HO8:=Aa (HO7.out.trans (ht8.only.mono fun _ _ h=>AI h));have HL8:=Aa (HL6.out.trans ht8.hurtB);clear ht8)
      |(go_at_call 128;refine(HHu.out _ _ _ _ _ HR6.out HU6.out (by omega) H6.out hlc12).mono ?_;rintro e w8 ⟨rfl,L8,ht8⟩;have HR8:=Aa (HR6.out.apart HGA.out ht8.only);have HU8:=Aa ht8.bufs;have HO8:=Aa (HO6.out.trans (ht8.only.mono fun _ _ h=>AI h));have HL8:=Aa ht8.hurtB;clear ht8))
    all_goals
     go_ret
     first
      |exact HFin.out _ _ _ HR8.out HO8.out HU8.out HL8.out (HDM.out (by simp))
      |exact HFin.out _ _ _ HR8.out HO8.out HU8.out HL8.out (HDC.out (by simp))
   |succ gj=>
    have hlt:(j:Int)<(K:Int):=by omega
    have hxw:X.w≠0:=fun e=>by
     have h9:=HK.out.1;rw[e,Int.zero_mul]at h9;omega
    have hxw1:1<=X.w:=by omega
    have y0:wr.cell? (jA (w1.heap.size+1) 0)=some (vj X.w):=hB9r.cell 0;have y10:wr.cell? (jA (w1.heap.size+1) 10)=some (.slice ha hm hc):=hB9r.cell 10;have y2:wr.cell? (jA (w1.heap.size+1) 2)=some (.slice xa xm xc):=hB9r.cell 2;have hj0:(0:Int)<=(j:Int):=by omega
    have hsame:∀(t9:TypeId),Jj t9->t9≠4->∀(b:Nat) (cb:Array Value),w.heap[b]?=some (.cells cb t9 (0,0))->wr.heap[b]?=w.heap[b]? :=fun t9 ht9 hnb b cb hb=>by
     have hbl:=(aM.1 hb).1;have e1:w1.heap[b]?=w.heap[b]? :=H1.out.2.2.block b hbl;obtain⟨_,cug,hcug⟩:=HQ.out.1.gType;have hbg:b≠g:=Aj hb hcug (Du ht9).1;have e2:W2.heap[b]?=w1.heap[b]? :=HM.out.2.2.2.2.2 b (by omega) hbg;have e3:W3.heap[b]?=W2.heap[b]? :=H3.out.2.2.2.2.1 b (by omega) hbg;have e4:=HT.out.other (e3.trans (e2.trans (e1.trans hb))) hnb;rw[e4,e3,e2,e1]
    have hrects:=HLr.out wr (hsame _ (.inr (.inl rfl)) (by decide));have hpx9:AC wr S (.slice xa xm xc) (X.w*X.h) X.pix:=by
     have h9:=HQ.out.2.1.pixX i HQ.out.2.2.1;rw[HF.out.2.2.1,HNX.out.2]at h9;exact h9.other (hsame _ (.inl rfl) (by decide))
    have hjW:(j:Int)<X.w*X.h:=by rw[<-HK.out.1];exact hlt
    obtain⟨pg,pcap,pm9,ep,hpm9,hpc9,hpgl,m0,m1,m2,m3⟩:=hpx9.at hjW;injection ep with ep1 ep2 ep3;subst ep1 ep3;have hjm:(j:Int)<(xm:Int):=by omega
    have hjc:j<xc:=by omega
    have HHas:Hid (∀(W:World) (x y:Int),W.heap=wr.heap->Calls prog 122 #[.slice ha hm hc,vj x,vj y] W fun e w'=>e=.returned (.bool (X.hint x y))/\w'=W):=fun W x y hW=>by
     have h9:=DK lh9 (.slice ha hm hc) x y W (HLr.out W fun b cb hb=>by rw[hW];exact hsame _ (.inr (.inl rfl)) (by decide) b cb hb) (by unfold maxLen;have:=HLh.out.2.1;omega);rw[HLh.out.2.2]at h9;exact h9
    have hmod:Int.tmod (j:Int) X.w=(j:Int)%X.w:=Int.tmod_eq_emod_of_nonneg hj0;have hdiv:Int.tdiv (j:Int) X.w=(j:Int)/X.w:=Int.tdiv_eq_ediv_of_nonneg hj0;obtain⟨th9,hth9⟩:∃t,X.hint ((j:Int)%X.w) ((j:Int)/X.w)=t:=⟨_,rfl⟩;have HKo:Hid (Cn X j=(th9&&decide ((X.pix j).2.2.2=255))):=by unfold Hid Cn;rw[hth9]
    clear hT hB9r hBo hsame hrects hpx9 hpm9 hpc9 ep2;have HKb:=Aa hKb;clear hKb
    go_upto_region 13 with fail
    go_quiet ((go_at_call 122;exact Calls.quiet_of_same (HHas.out _ _ _ rfl)))
    have hw64:wrap64 ((j:Int)/X.w)=(j:Int)/X.w:=by
     have h1:0<=(j:Int)/X.w:=Int.ediv_nonneg hj0 (by omega);have h2:(j:Int)/X.w<=(j:Int):=Int.ediv_le_self _ hj0;unfold wrap64;omega
    rw[hw64,hth9];have hTz:=HT.out.drewN nq;have hKz:A2 (wr.drewN nq) (w1.heap.size+2) K (fun k=>decide (k<j)&&Cn X k):=HBo.out;have k27z:(wr.drewN nq).cell? (jA g (i*28+27))=some (sj (w1.heap.size+2) K K):=k27r;have y2z:(wr.drewN nq).cell? (jA (w1.heap.size+1) 2)=some (sj pg xm xc):=y2;have m3z:(wr.drewN nq).cell? (jA pg (j*4+3))=some (.int .u8 (X.pix j).2.2.2):=m3;clear k27r y0 y10 y2 m0 m1 m2 m3 hw64 hth9 hmod hdiv HHas;generalize wr.drewN nq=wz at*;obtain⟨a3,ha3⟩:∃a,(X.pix j).2.2.2=a:=⟨_,rfl⟩;rw[ha3]at m3z HKo;clear ha3;obtain⟨q9,z9⟩:=hKz.has.cell j (by omega);have fz:=hKz.has.free j;obtain⟨cz,hcz,hczs⟩:=hKz.has;have HZ:Hid (∀v:Bool,Cn X j=v->C2 (fun b=>b=w1.heap.size+2) 4 W3 (wz.setCell (jA (w1.heap.size+2) j) (.bool v))/\A2 (wz.setCell (jA (w1.heap.size+2) j) (.bool v)) (w1.heap.size+2) K fun k=>decide (k<j+1)&&Cn X k):=fun v hv=>by
     refine⟨hTz.trans (C2.set (S:=fun b=>b=w1.heap.size+2) hcz rfl j _),(hKz.set j (by omega) v).congr fun k hk=>?_⟩;by_cases e:k=j
     ·subst e;simp[hv]
     ·have h1:decide (k<j+1)=decide (k<j):=by
       by_cases h:k<j
       ·simp[h,Nat.lt_succ_of_lt h]
       ·have:¬k<j+1:=by omega
        simp[h,this]
      simp[e,h1]
    clear hTz hcz hczs hKz;cases th9 with
    |false=>
     go_upto_region 14 with fail
     go_region
     all_goals
      go_wp2
      go_roundg gj
      case measure=>omega
      case rel=>exact⟨j+1,by go_num,by omega,(HZ.out false (by rw[HKo.out];rfl)).1.drew,(HZ.out false (by rw[HKo.out];rfl)).2.keep rfl⟩
    |true=>
     by_cases h255:a3=255
     ·subst h255
      go_upto_region 14 with fail
      go_region
      all_goals
       go_wp2
       go_roundg gj
       case measure=>omega
       case rel=>exact⟨j+1,by go_num,by omega,(HZ.out true (by rw[HKo.out];rfl)).1.drew,(HZ.out true (by rw[HKo.out];rfl)).2.keep rfl⟩
     ·go_upto_region 14 with fail
      go_region
      all_goals
       go_wp2
       go_roundg gj
       case measure=>omega
       case rel=>exact⟨j+1,by go_num,by omega,(HZ.out (a3==255) (by rw[HKo.out];first|rfl|simp)).1.drew,(HZ.out (a3==255) (by rw[HKo.out];first|rfl|simp)).2.keep rfl⟩
theorem Nd(N:Nat)(hN:N<=1000000000000)(w:World):
  Calls prog 51 #[vj N] w fun e w'=>e=.returned (.agg (zB N))/\uj w w':=by
 obtain⟨a,ha⟩:∃a,N%251=a:=⟨_,rfl⟩;obtain⟨q,hq⟩:∃q,N/251=q:=⟨_,rfl⟩;obtain⟨b,hb⟩:∃b,q%251=b:=⟨_,rfl⟩;obtain⟨r,hr⟩:∃r,N/63001=r:=⟨_,rfl⟩;obtain⟨c,hc⟩:∃c,r%251=c:=⟨_,rfl⟩;have hz:zB N=#[.int .u8 (a:Int),.int .u8 (b:Int),.int .u8 (c:Int),.int .u8 77]:=by
  unfold zB;rw[ha,hq,hb,hr,hc]
 rw[hz];have e1:Int.tmod (N:Int) 251=(a:Int):=by rw[<-ha];rfl
 have e2:Int.tdiv (N:Int) 251=(q:Int):=by rw[<-hq];rfl
 have e3:Int.tmod (q:Int) 251=(b:Int):=by rw[<-hb];rfl
 have e4:Int.tdiv (N:Int) 63001=(r:Int):=by rw[<-hr];rfl
 have e5:Int.tmod (r:Int) 251=(c:Int):=by rw[<-hc];rfl
 have x1:IntKind.i64.wrap (q:Int)=(q:Int):=by rw[bB];omega
 have x2:IntKind.i64.wrap (r:Int)=(r:Int):=by rw[bB];omega
 have y1:(a:Int)%256=(a:Int):=by omega
 have y2:(b:Int)%256=(b:Int):=by omega
 have y3:(c:Int)%256=(c:Int):=by omega
 clear ha hq hb hr hc hz;go_enter func51,ntmps51
 go_wp2;refine cU (v:=.agg #[.int .u8 (a:Int),.int .u8 (b:Int),.int .u8 (c:Int),.int .u8 77]) (by simp[results,results51,go_sem]) rfl ⟨rfl,al1 (aO _) _⟩
theorem Wh{w:World}{K:Nat->Prop}{pb N n B0:Nat}{pc:Array Value}{cv:Value}{xs:List Value}{v:Value}(hB:B0<=w.heap.size)(hblk:w.heap[pb]?=some (.cells pc 69 (0,0)))(hpi:pc[2]?=some cv)(h:I7 w K cv N xs)(hK0:∀g,K g->g<B0)(hN:N<=1000000000000)(hn:n<=9000000)(hv:FR w B0 v n):
  Calls prog 142 #[.pointer (some (jA pb 1)),v] w fun e w'=>e=.returned (.tuple #[])/\(∃cv' xs',w'.heap[pb]?=some (.cells (pc.setIfInBounds 2 cv') 69 (0,0))/\I7 w' (fun g=>K g\/(B0<=g/\∃cur,w'.heap[g]?=some (.cells cur 51 (0,0)))) cv' (N+1) xs'/\(cv'.ownBlock=cv.ownBlock\/∃g,cv'.ownBlock=some g/\B0<=g))/\Ac (fun g=>g=pb\/cv.ownBlock=some g\/B0<=g) w w'/\(∀(g:Nat) (cur:Array Value) (t:TypeId),t≠51->t≠111->t≠69->w.heap[g]?=some (.cells cur t (0,0))->w'.heap[g]?=w.heap[g]?):=by
 obtain⟨i9,hi9,hy0,hy1,hy2⟩:=cW Wb;have hpl:pb<w.heap.size:=Ab hblk;have hpb:=hblk;obtain⟨ca,cc,hcf⟩:=Al h.row;subst hcf;have hp:w.cell? (jA pb 2)=some (.slice ca N cc):=by rw[aP w pb 2 pc _ _ hpb];exact hpi
 have hvz:v.ownBlock≠some w.heap.size:=fun e=>by
  obtain⟨xs,h⟩:=hv;have:=(h.lt _ e).2;omega
 have HV:=Aa (aK hv hvz);have HP:=Aa (aK hpb (aK (aK h hpi) hK0));clear hv hvz hpb h hblk hpi hK0;have HMk:=Aa (Nd N hN);have HW:Hid (∀wm:World,uj w wm->B0<=wm.heap.size/\pb<wm.heap.size/\wm.heap[pb]?=some (.cells pc 69 (0,0))/\FR wm B0 v n/\v.ownBlock≠some wm.heap.size/\I7 wm K (.slice ca N cc) N xs):=fun wm hm=>by
  have hsm:=hm.size;refine⟨by omega,by omega,(hm.block pb hpl).trans HP.out.1,?_,fun e=>?_,?_⟩
  ·obtain⟨ys,hys⟩:=HV.out.1;exact⟨ys,Ai hys fun g hg=>hm.block g (hys.lt g hg).2⟩
  ·obtain⟨ys,hys⟩:=HV.out.1;have:=(hys.lt _ e).2;omega
  ·exact HP.out.2.1.1.keep (fun _ hb=>hb) fun b cur t _ hbb=>hm.block b (Ab hbb)
 obtain⟨PW,hPW⟩:∃PW:World->Ending->World->Prop,PW=fun w=>fun e w'=>e=.returned (.tuple #[])/\(∃cv' xs',w'.heap[pb]?=some (.cells (pc.setIfInBounds 2 cv') 69 (0,0))/\I7 w' (fun g=>K g\/(B0<=g/\∃cur,w'.heap[g]?=some (.cells cur 51 (0,0)))) cv' (N+1) xs'/\(cv'.ownBlock=(Value.slice ca N cc).ownBlock\/∃g,cv'.ownBlock=some g/\B0<=g))/\Ac (fun g=>g=pb\/(Value.slice ca N cc).ownBlock=some g\/B0<=g) w w'/\(∀(g:Nat) (cur:Array Value) (t:TypeId),t≠51->t≠111->t≠69->w.heap[g]?=some (.cells cur t (0,0))->w'.heap[g]?=w.heap[g]?):=⟨_,rfl⟩;obtain⟨post,hpost⟩:∃p,p=PW w:=⟨_,rfl⟩;have hgoal:(fun e w'=>e=.returned (.tuple #[])/\(∃cv' xs',w'.heap[pb]?=some (.cells (pc.setIfInBounds 2 cv') 69 (0,0))/\I7 w' (fun g=>K g\/(B0<=g/\∃cur,w'.heap[g]?=some (.cells cur 51 (0,0)))) cv' (N+1) xs'/\(cv'.ownBlock=(Value.slice ca N cc).ownBlock\/∃g,cv'.ownBlock=some g/\B0<=g))/\Ac (fun g=>g=pb\/(Value.slice ca N cc).ownBlock=some g\/B0<=g) w w'/\(∀(g:Nat) (cur:Array Value) (t:TypeId),t≠51->t≠111->t≠69->w.heap[g]?=some (.cells cur t (0,0))->w'.heap[g]?=w.heap[g]?))=post:=by rw[hpost,hPW]
 rw[hgoal];have HPo:Hid (∀(wm:World) (e:Ending) (w':World),uj w wm->PW wm e w'->post e w'):=fun wm e w' hm h9=>by
  rw[hpost];rw[hPW]at h9 ⊢;obtain⟨h1,h2,h3,h4⟩:=h9;refine⟨h1,h2,(Ac.below hm).trans (h3.mono fun g _ hg=>.inl hg),fun g cur t t1 t2 t3 hg=>?_⟩;have e9:=hm.block g (Ab hg);rw[h4 g cur t t1 t2 t3 (e9.trans hg),e9]
 have HPW:=Aa hPW;have HPp:=Aa (aK HP.out.2.1.2 HP.out.2.2);clear hpost hgoal hPW;go_enter func142,ntmps142
 go_wp2_with(go_at_call 51;refine(HMk.out _).mono ?_;rintro e wm ⟨rfl,hbm⟩;have HBm:=Aa hbm;clear hbm;unfold zB)
 clear HV HP hp hB hpl;rename World=>w;obtain⟨hB,hpl,hpb,hv,hvz,hb⟩:=HW.out w HBm.out;have HV:=Aa (aK hv hvz);have HP:=Aa (aK hpb (aK (aK hb HPp.out.1) HPp.out.2));clear hv hvz hpb hb
 rename_i Qp K hK
 refine Wa (N:=N) (cv:=.slice ca N cc) (n:=n) (B0:=B0) (pb:=pb) (zb:=w.heap.size) (v:=v) (f:=fun _=>undef) ⟨hn,by simp;omega,HV.out.1.step (cY.alloc none _ _),aR w _,HV.out.2⟩ ?_;intro f w1 hs hr;refine hK _ _ ?_;clear hK K;obtain⟨g5,r1,r2,r3,e5,hg5,hc5,R1,R2,R3⟩:=hr;have hz1:w1.heap[w.heap.size]?=some (.cells (zB N) 51 (0,0)):=by rw[hs.grown.block _ (by simp) (fun e=>HV.out.2 e.symm)];exact aR w _
 have hBel:Below B0 w w1:=((aN B0 w).alloc hB _).grown hs.grown (by simp;omega) fun k hk=>by
  obtain⟨xs,h⟩:=HV.out.1;exact(h.lt k hk).1
 have hP1:w1.heap[pb]?=some (.cells pc 69 (0,0)):=by
  rw[hs.grown.block pb (aQ hpl (by simp)) (fun e=>by
   obtain⟨ys,hys⟩:=HV.out.1;obtain⟨c9,h9⟩:=Ap hys e.symm;exact Aj HP.out.1 h9 (by decide) rfl)]
  exact(Ad w _ pb hpl).trans HP.out.1
 have hS1:w.heap.size<w1.heap.size:=by have:=hs.grown.size;simp at this;omega
 have hR0:cX 51 4 w1 B0 w.heap.size v n:=⟨(HV.out.1.step (cY.alloc none _ _)).step hs,HV.out.2⟩;have hRk:∀k,k<4->∃s,#[v,r1,r2,r3][k]?=some s/\cX 51 4 w1 B0 w.heap.size s (n+k):=by
  intro k hk
  match k,hk with
  |0,_=>exact⟨v,rfl,hR0⟩
  |1,_=>exact⟨r1,rfl,R1⟩
  |2,_=>exact⟨r2,rfl,R2⟩
  |3,_=>exact⟨r3,rfl,R3⟩
 have HOth:Hid (∀(g:Nat) (cur:Array Value) (t:TypeId),t≠51->w.heap[g]?=some (.cells cur t (0,0))->w1.heap[g]?=w.heap[g]?):=fun g cur t ht hg=>by
  rw[hs.grown.block g (aQ (Ab hg) (by simp)) (fun e=>by
   obtain⟨ys,hys⟩:=HV.out.1;obtain⟨c9,h9⟩:=Ap hys e.symm;exact Aj hg h9 ht rfl)]
  exact Ad w _ g (Ab hg)
 have HRk:=Aa hRk;have HBel:=Aa hBel;have HZ:=Aa (aK hz1 hP1);have HC:=Aa hc5;have hgl:=(aM.1 hc5).1;clear hRk hBel hz1 hP1 hc5 R1 R2 R3 hR0 hs hg5;unfold frB;rw[e5];clear e5;generalize f 14=x14;generalize f 15=x15;generalize f 16=x16;generalize f 17=x17;generalize f 18=x18;generalize f 19=x19;generalize f 20=x20;generalize f 21=x21;generalize f 22=x22;generalize f 23=x23;generalize f 24=x24;generalize f 25=x25;generalize f 26=x26;generalize f 27=x27;generalize f 28=x28;generalize f 29=x29;generalize f 30=x30;clear f;go_wp2;have hzb:zB N=#[.int .u8 ((N%251:Nat):Int),.int .u8 ((N/251%251:Nat):Int),.int .u8 ((N/63001%251:Nat):Int),.int .u8 77]:=rfl
 go_loopg [6] 4 (fun g s6 wr=>∃k:Nat,s6=vj k/\g+k=4/\cZ 51 B0 w.heap.size w1 wr/\∀k' s,k'<k->#[v,r1,r2,r3][k']?=some s->dQ 4 zB N wr s)
 case atStart=>exact⟨0,rfl,rfl,cZ.refl _ _ _,fun k' s hk=>by omega⟩
 case round=>
  rename World=>wo;rename Nat=>gO;obtain⟨k,rfl,hgk,hT,hF⟩:=hrel;have HT:=Aa hT;have HF:=Aa hF;have hwl:=hT.size;have hBz:=HBel.out.size;clear hT hF;cases gO with
  |zero=>
   have hlt:¬(k:Int)<4:=by omega
   have hPo:=HT.out.other HZ.out.2 (by decide);have hBw:=HT.out.below (show B0<=w1.heap.size by omega);have hpo:wo.cell? (jA pb 2)=some (.slice ca N cc):=by rw[aP wo pb 2 pc _ _ hPo];exact HP.out.2.1.2
   have hfo:wo.frozen? (jA pb 2)=false:=by simp[World.frozen?,hPo]
   have hpl2:pb<wo.heap.size:=by omega
   have hTyp:∀(g:Nat) (cur:Array Value) (t:TypeId),t≠51->w.heap[g]?=some (.cells cur t (0,0))->wo.heap[g]?=w.heap[g]? :=fun g cur t ht hg=>by
    have e0:=HOth.out g cur t ht hg;rw[HT.out.other (e0.trans hg) ht,hg]
   have hrow:wo.ownsRow 0 111 1 (.slice ca N cc) N xs:=Ai HP.out.2.1.1.row fun g hg=>by
    obtain⟨cur,hc⟩:=Ap HP.out.2.1.1.row hg;exact hTyp g cur _ (by decide) hc
   have hb3:=HBel.out.trans hBw;have HTyp:=Aa hTyp;have HRo:=Aa (aK hrow (aK hb3 (aK hPo hBw)));have hgr:∀(o:Obj) (w4:World),(wo.alloc o).grownBy w4 (Value.slice ca N cc).ownBlock->w4.cell? (jA pb 2)=some (.slice ca N cc)/\w4.frozen? (jA pb 2)=false/\pb<w4.heap.size:=fun o w4 hg=>by
    have hk:=BC (T:=111) hg fun g hg=>Ap (HRo.out.1.alloc o) hg;have h9:(wo.alloc o).heap[pb]?=some (.cells pc 69 (0,0)):=(Ad wo o pb hpl2).trans HRo.out.2.2.1;have h8:=(hk _ (by decide) pb pc h9).trans h9;exact⟨by rw[aP w4 pb 2 pc _ _ h8];exact HP.out.2.1.2,by simp[World.frozen?,h8],Ab h8⟩
   have HGr:=Aa hgr;clear hPo hb3 hrow hgr hBw hTyp
   go_wp2_with(first
    |(at_builtin;refine Am (P:=prog) rfl (.tmp 57) (.tmp 59) 64 rfl 0 111 i9 _ 1 24 underlying64 hi9 hy0 hy1 hy2 rfl (by decide) (.slice ca N cc) N xs rfl (HRo.out.1.alloc _) (sj wo.heap.size 1 1) 1 [sj g5 4 4] rfl rfl (.inr ⟨_,_,rfl,cell_one_new _ _ _⟩) (by simp[Value.oneCell']) (by unfold maxLen;omega) (by omega) (by omega) ?_;intro v4 w4 ho4 hg4 hn4 ha4;obtain⟨va,vc,hvf⟩:=Al ho4;subst hvf;obtain⟨m3,m4,m5⟩:=HGr.out _ w4 hg4;have H4:=Aa (aK ho4 (aK hg4 ha4));clear ho4 hg4 hn4 ha4))
   obtain⟨ho4,hg4,ha4⟩:=H4.out;obtain⟨hrow,hb3,hPo,hBw⟩:=HRo.out;have hk:=BC (T:=111) hg4 fun g hg=>Ap (hrow.alloc _) hg;have h9:(wo.alloc (.cells #[sj g5 4 4] 111)).heap[pb]?=some (.cells pc 69 (0,0)):=(Ad wo _ pb hpl2).trans hPo;have h8:w4.heap[pb]?=some (.cells pc 69 (0,0)):=(hk _ (by decide) pb pc h9).trans h9;have fwd:∀(b:Nat) (cur:Array Value) (t:TypeId),t=51\/t=44->wo.heap[b]?=some (.cells cur t (0,0))->(w4.setCell (jA pb 2) (.slice va (N+1) vc)).heap[b]?=wo.heap[b]? :=fun b cur t ht hbb=>by
    have hn1:t≠111:=by rcases ht with rfl|rfl<;>decide
    have hn2:t≠69:=by rcases ht with rfl|rfl<;>decide
    have e1:=Ad wo (.cells #[sj g5 4 4] 111) b (Ab hbb);have e2:=hk t hn1 b cur (e1.trans hbb);rw[aL w4 (jA pb 2) b _ (Aj (e2.trans (e1.trans hbb)) h8 hn2),e2,e1]
   have hB:=HP.out.2.1.1;have hBp:=HP.out.2.1.2;have hp3l:2<pc.size:=(aM.1 hBp).1;have hxl:=hB.row.1;refine cV (v:=.tuple #[]) (by simp[results,results142]) rfl (HPo.out w _ _ HBm.out ?_);rw[HPW.out];refine⟨rfl,⟨_,xs++[sj g5 4 4],bH w4 pb 2 pc _ _ h8,⟨Ai ho4 fun g hg=>?_,fun i hi=>?_⟩,?_⟩,?_,?_⟩
   ·obtain⟨cur,hcur⟩:=Ap ho4 hg;exact aL w4 (jA pb 2) g _ (Aj hcur h8 (by decide))
   ·by_cases e:i=N
    ·subst e;refine⟨sj g5 4 4,by rw[bO (by omega),hxl];simp,g5,4,#[v,r1,r2,r3],rfl,?_,fun k hk4=>?_⟩
     ·have h7:=HT.out.other HC.out (by decide);exact(fwd g5 _ _ (.inr rfl) h7).trans h7
     ·obtain⟨s,hs,hrw⟩:=HRk.out k hk4;refine⟨s,hs,?_⟩;have hfull:=HF.out k s (by omega) hs;obtain⟨ys,y1,y2⟩:=(HT.out.row hrw).1;rcases y2 with⟨y2,y3⟩|⟨g,cap,cur,z1,z2,z3,z4,z5,z6,z7⟩
      ·exact⟨none,0,0,y2,by omega,fun h=>by omega⟩
      ·refine⟨some (jA g 0),n+k,cap,z1,by omega,fun _=>⟨g,cur,rfl,.inr ⟨z2,cur,(fwd g cur _ (.inl rfl) z3).trans z3⟩,(fwd g cur _ (.inl rfl) z3).trans z3,fun j hj o ho=>?_⟩⟩;exact(aV (fwd g cur _ (.inl rfl) z3)).trans (hfull g _ _ z1 j hj o ho)
    ·obtain⟨u,hu,hQ⟩:=hB.all i (by omega);refine⟨u,by rw[cA (by omega)];exact hu,hQ.keep (fun b hb=>.inl hb) fun b cur t ht hbb=>?_⟩;have e0:wo.heap[b]?=w.heap[b]? :=by
      rcases ht with⟨_,hk⟩|rfl
      ·exact hb3.block b (HP.out.2.2 b hk)
      ·exact HTyp.out b cur _ (by decide) hbb
     exact(fwd b cur t (ht.imp And.left id) (e0.trans hbb)).trans e0
   ·rcases ha4 with ha4|ha4
    ·exact .inl ha4
    ·exact .inr ⟨_,ha4,by simp;omega⟩
   ·have hBx:=HBel.out.trans hBw;have o1:Ac (fun g=>g=pb\/(Value.slice ca N cc).ownBlock=some g\/B0<=g) w wo:=⟨hBx.os,hBx.tape,hBx.output,hBx.size,fun g hg hs=>hBx.block g (by
     by_cases h7:B0<=g
     ·exact absurd (Or.inr (Or.inr h7)) hs
     ·omega)⟩
    exact((o1.alloc _).grown hg4 fun g hg=>.inl (.inr (.inl hg))).set (p:=(jA pb 2)) (.inl (.inl rfl)) _
   ·intro g cur t t1 t2 t3 hg;have e0:=HOth.out g cur t t1 hg;have h1:=HT.out.other (e0.trans hg) t1;have e1:=Ad wo (.cells #[sj g5 4 4] 111) g (Ab h1);have e2:=hk t t2 g cur (e1.trans h1);rw[aL w4 (jA pb 2) g _ (Aj (e2.trans (e1.trans h1)) h8 t3),e2,e1,h1,hg]
  |succ g=>
   have hlt:(k:Int)<4:=by omega
   have hk4:k<4:=by omega
   obtain⟨s,hs,hrow⟩:=HRk.out k hk4;obtain⟨m,hm⟩:∃m,n+k=m:=⟨_,rfl⟩;rw[hm]at hrow;obtain⟨xs,hxs⟩:=hrow.1;obtain⟨sa,sc,rfl⟩:=Al hxs;have hc5:wo.cell? (jA g5 k)=some (.slice sa m sc):=by rw[aP wo g5 k _ _ _ (HT.out.other HC.out (by decide))];exact hs
   have hm9:m<=9000004:=by omega
   have HRw:=Aa hrow;have HS:=Aa hs;clear hs hrow hxs hm;go_wp2
   go_loopg [7] m (fun gg s7 wr=>∃i:Nat,s7=vj i/\gg+i=m/\cZ 51 B0 w.heap.size w1 wr/\db 4 zB N wo wr/\∀j,j<i->∀b,sa=some (jA b 0)->de 4 zB N wr b j)
   case atStart=>exact⟨0,rfl,by omega,HT.out,db.refl _ _,fun j hj=>by omega⟩
   case round=>
    rename World=>wi;obtain⟨i,rfl,hgi,hT,hSt,hD⟩:=hrel;have hc6:wi.cell? (jA g5 k)=some (.slice sa m sc):=by rw[aP wi g5 k _ _ _ (hT.other HC.out (by decide))];exact HS.out
    have HTi:=Aa hT;have HDi:=Aa (aK hSt hD);have hwi:=hT.size;clear hT hc5 hSt hD;cases gk with
    |zero=>
     have hlti:¬(i:Int)<(m:Int):=by omega
     go_wp2
     go_roundg g
     case measure=>omega
     case rel=>
      refine⟨k+1,by go_num,by omega,HTi.out,fun k' s hk' hs'=>?_⟩;by_cases e:k'=k
      ·subst e;rw[HS.out]at hs';injection hs' with hs';subst hs';intro b m' c' e9 j hj;injection e9 with e1 e2 e3;subst e2;exact HDi.out.2 j (by omega) b e1
      ·exact(HF.out k' s (by omega) hs').stays HDi.out.1
    |succ g2=>
     have hlti:(i:Int)<(m:Int):=by omega
     have him:i<m:=by omega
     obtain⟨q,cap,cur,e1,hq1,hq2,hq3,hq4,hq5,hcs,hfr⟩:=(HTi.out.row HRw.out).at him;obtain⟨_,y0,c0⟩:=hcs 0 (by decide);obtain⟨_,y1,c1⟩:=hcs 1 (by decide);obtain⟨_,y2,c2⟩:=hcs 2 (by decide);obtain⟨_,y3,c3⟩:=hcs 3 (by decide);simp only[Nat.add_zero]at c0;clear hcs;injection e1 with e11 e12 e13;clear e12;subst e11 e13;have hic:i<sc:=by omega
     have hzw:wi.heap[w.heap.size]?=some (.cells (zB N) 51 (0,0)):=by rw[HTi.out.keep hS1];exact HZ.out.1
     have z0:wi.cell? (jA w.heap.size 0)=some (.int .u8 ((N%251:Nat):Int)):=by rw[aP wi _ 0 (zB N) _ _ hzw];rfl
     have z1:wi.cell? (jA w.heap.size 1)=some (.int .u8 ((N/251%251:Nat):Int)):=by rw[aP wi _ 1 (zB N) _ _ hzw];rfl
     have z2:wi.cell? (jA w.heap.size 2)=some (.int .u8 ((N/63001%251:Nat):Int)):=by rw[aP wi _ 2 (zB N) _ _ hzw];rfl
     have z3:wi.cell? (jA w.heap.size 3)=some (.int .u8 77):=by rw[aP wi _ 3 (zB N) _ _ hzw];rfl
     have f0:=hfr (i*4);have f1:=hfr (i*4+1);have f2:=hfr (i*4+2);have f3:=hfr (i*4+3);have hne:¬g5=q:=fun e=>by
      have h9:=HTi.out.other HC.out (by decide);rw[e,hq5]at h9;injection h9 with h9;injection h9 with _ h9;exact absurd h9 (by decide)
     have hne2:q≠g5:=fun e=>hne e.symm;have hcz:i*4+3<cur.size:=by
      rw[aP wi q _ cur _ _ hq5]at c3;exact(aM.1 c3).1
     have HQ:=Aa (aK hq5 hcz);clear hfr hzw hq5 hcz;have hk0:(0:Int)<=(k:Int):=by omega
     have hi0:(0:Int)<=(i:Int):=by omega
     go_wp2
     go_region_held3 (fun w'=>w'.cell? (jA w.heap.size 0)=some (.int .u8 ((N%251:Nat):Int))/\w'.cell? (jA w.heap.size 1)=some (.int .u8 ((N/251%251:Nat):Int))/\w'.cell? (jA w.heap.size 2)=some (.int .u8 ((N/63001%251:Nat):Int))/\w'.cell? (jA w.heap.size 3)=some (.int .u8 77)/\w'.cell? (jA g5 k)=some (sj q m sc)) (go_keep) (fail)
     all_goals go_wp2
     go_roundg g2
     case measure=>omega
     case rel=>
      have hms:=dW (z:=zB) (N:=N) (i:=i) rfl HQ.out.1 HQ.out.2;refine⟨i+1,by go_num,by omega,(HTi.out.trans (cZ.set4 HQ.out.1 hq1 hq2 _ _ _ _ _ _ _ _)).drew1,HDi.out.1.trans hms.1.drew,fun j hj b hb=>?_⟩;injection hb with hb;injection hb with hb;subst hb;by_cases e:j=i
      ·subst e;exact hms.2.drew9
      ·exact(hms.1 _ _ (HDi.out.2 j (by omega) _ rfl)).drew9
theorem Wi{w:World}{K:Nat->Prop}{pb N n B0:Nat}{pc:Array Value}{cv:Value}{xs:List Value}{v:Value}(hB:B0<=w.heap.size)(hblk:w.heap[pb]?=some (.cells pc 69 (0,0)))(hpi:pc[3]?=some cv)(h:LK w K cv N xs)(hK0:∀g,K g->g<B0)(hN:N<=1000000000000)(hn:n<=9000000)(hv:GI w B0 v n):
  Calls prog 94 #[.pointer (some (jA pb 1)),v] w fun e w'=>e=.returned (.tuple #[])/\(∃cv' xs',w'.heap[pb]?=some (.cells (pc.setIfInBounds 3 cv') 69 (0,0))/\LK w' (fun g=>K g\/(B0<=g/\∃cur,w'.heap[g]?=some (.cells cur 59 (0,0)))) cv' (N+1) xs'/\(cv'.ownBlock=cv.ownBlock\/∃g,cv'.ownBlock=some g/\B0<=g))/\Ac (fun g=>g=pb\/cv.ownBlock=some g\/B0<=g) w w'/\(∀(g:Nat) (cur:Array Value) (t:TypeId),t≠59->t≠113->t≠69->w.heap[g]?=some (.cells cur t (0,0))->w'.heap[g]?=w.heap[g]?):=by
 obtain⟨i9,hi9,hy0,hy1,hy2⟩:=cW XO;have hpl:pb<w.heap.size:=Ab hblk;have hpb:=hblk;obtain⟨ca,cc,hcf⟩:=Al h.row;subst hcf;have hp:w.cell? (jA pb 3)=some (.slice ca N cc):=by rw[aP w pb 3 pc _ _ hpb];exact hpi
 have hvz:v.ownBlock≠some w.heap.size:=fun e=>by
  obtain⟨xs,h⟩:=hv;have:=(h.lt _ e).2;omega
 have HV:=Aa (aK hv hvz);have HP:=Aa (aK hpb (aK (aK h hpi) hK0));clear hv hvz hpb h hblk hpi hK0;go_enter func94,ntmps94
 go_wp2
 rename_i Qp K hK
 refine Wc (N:=N) (cv:=.slice ca N cc) (n:=n) (B0:=B0) (pb:=pb) (zb:=w.heap.size) (v:=v) (f:=fun _=>undef) ⟨hn,by simp;omega,HV.out.1.step (cY.alloc none _ _),aR w _,HV.out.2⟩ ?_;intro f w1 hs hr;refine hK _ _ ?_;clear hK K;obtain⟨g5,r1,r2,r3,e5,hg5,hc5,R1,R2,R3⟩:=hr;have hz1:w1.heap[w.heap.size]?=some (.cells (zV N) 59 (0,0)):=by rw[hs.grown.block _ (by simp) (fun e=>HV.out.2 e.symm)];exact aR w _
 have hBel:Below B0 w w1:=((aN B0 w).alloc hB _).grown hs.grown (by simp;omega) fun k hk=>by
  obtain⟨xs,h⟩:=HV.out.1;exact(h.lt k hk).1
 have hP1:w1.heap[pb]?=some (.cells pc 69 (0,0)):=by
  rw[hs.grown.block pb (aQ hpl (by simp)) (fun e=>by
   obtain⟨ys,hys⟩:=HV.out.1;obtain⟨c9,h9⟩:=Ap hys e.symm;exact Aj HP.out.1 h9 (by decide) rfl)]
  exact(Ad w _ pb hpl).trans HP.out.1
 have hS1:w.heap.size<w1.heap.size:=by have:=hs.grown.size;simp at this;omega
 have hR0:cX 59 9 w1 B0 w.heap.size v n:=⟨(HV.out.1.step (cY.alloc none _ _)).step hs,HV.out.2⟩;have hRk:∀k,k<4->∃s,#[v,r1,r2,r3][k]?=some s/\cX 59 9 w1 B0 w.heap.size s (n+k):=by
  intro k hk
  match k,hk with
  |0,_=>exact⟨v,rfl,hR0⟩
  |1,_=>exact⟨r1,rfl,R1⟩
  |2,_=>exact⟨r2,rfl,R2⟩
  |3,_=>exact⟨r3,rfl,R3⟩
 have HOth:Hid (∀(g:Nat) (cur:Array Value) (t:TypeId),t≠59->w.heap[g]?=some (.cells cur t (0,0))->w1.heap[g]?=w.heap[g]?):=fun g cur t ht hg=>by
  rw[hs.grown.block g (aQ (Ab hg) (by simp)) (fun e=>by
   obtain⟨ys,hys⟩:=HV.out.1;obtain⟨c9,h9⟩:=Ap hys e.symm;exact Aj hg h9 ht rfl)]
  exact Ad w _ g (Ab hg)
 have HRk:=Aa hRk;have HBel:=Aa hBel;have HZ:=Aa (aK hz1 hP1);have HC:=Aa hc5;have hgl:=(aM.1 hc5).1;clear hRk hBel hz1 hP1 hc5 R1 R2 R3 hR0 hs hg5;unfold frV;rw[e5];clear e5;generalize f 14=x14;generalize f 15=x15;generalize f 16=x16;generalize f 17=x17;generalize f 18=x18;generalize f 19=x19;generalize f 20=x20;generalize f 21=x21;generalize f 22=x22;generalize f 23=x23;generalize f 24=x24;generalize f 25=x25;generalize f 26=x26;generalize f 27=x27;generalize f 28=x28;generalize f 29=x29;generalize f 30=x30;clear f;go_wp2;have hzb:zV N=#[vj (-7070),vj 0,vj 0,vj (N:Int),vj 0,vj 0,vj 0,vj 0,vj 0]:=rfl
 go_loopg [6] 4 (fun g s6 wr=>∃k:Nat,s6=vj k/\g+k=4/\cZ 59 B0 w.heap.size w1 wr/\∀k' s,k'<k->#[v,r1,r2,r3][k']?=some s->dQ 9 zV N wr s)
 case atStart=>exact⟨0,rfl,rfl,cZ.refl _ _ _,fun k' s hk=>by omega⟩
 case round=>
  rename World=>wo;rename Nat=>gO;obtain⟨k,rfl,hgk,hT,hF⟩:=hrel;have HT:=Aa hT;have HF:=Aa hF;have hwl:=hT.size;have hBz:=HBel.out.size;clear hT hF;cases gO with
  |zero=>
   have hlt:¬(k:Int)<4:=by omega
   have hPo:=HT.out.other HZ.out.2 (by decide);have hBw:=HT.out.below (show B0<=w1.heap.size by omega);have hpo:wo.cell? (jA pb 3)=some (.slice ca N cc):=by rw[aP wo pb 3 pc _ _ hPo];exact HP.out.2.1.2
   have hfo:wo.frozen? (jA pb 3)=false:=by simp[World.frozen?,hPo]
   have hpl2:pb<wo.heap.size:=by omega
   have hTyp:∀(g:Nat) (cur:Array Value) (t:TypeId),t≠59->w.heap[g]?=some (.cells cur t (0,0))->wo.heap[g]?=w.heap[g]? :=fun g cur t ht hg=>by
    have e0:=HOth.out g cur t ht hg;rw[HT.out.other (e0.trans hg) ht,hg]
   have hrow:wo.ownsRow 0 113 1 (.slice ca N cc) N xs:=Ai HP.out.2.1.1.row fun g hg=>by
    obtain⟨cur,hc⟩:=Ap HP.out.2.1.1.row hg;exact hTyp g cur _ (by decide) hc
   have hb3:=HBel.out.trans hBw;have HTyp:=Aa hTyp;have HRo:=Aa (aK hrow (aK hb3 (aK hPo hBw)));have hgr:∀(o:Obj) (w4:World),(wo.alloc o).grownBy w4 (Value.slice ca N cc).ownBlock->w4.cell? (jA pb 3)=some (.slice ca N cc)/\w4.frozen? (jA pb 3)=false/\pb<w4.heap.size:=fun o w4 hg=>by
    have hk:=BC (T:=113) hg fun g hg=>Ap (HRo.out.1.alloc o) hg;have h9:(wo.alloc o).heap[pb]?=some (.cells pc 69 (0,0)):=(Ad wo o pb hpl2).trans HRo.out.2.2.1;have h8:=(hk _ (by decide) pb pc h9).trans h9;exact⟨by rw[aP w4 pb 3 pc _ _ h8];exact HP.out.2.1.2,by simp[World.frozen?,h8],Ab h8⟩
   have HGr:=Aa hgr;clear hPo hb3 hrow hgr hBw hTyp
   go_wp2_with(first
    |(at_builtin;refine Am (P:=prog) rfl (.tmp 57) (.tmp 59) 65 rfl 0 113 i9 _ 1 24 underlying65 hi9 hy0 hy1 hy2 rfl (by decide) (.slice ca N cc) N xs rfl (HRo.out.1.alloc _) (sj wo.heap.size 1 1) 1 [sj g5 4 4] rfl rfl (.inr ⟨_,_,rfl,cell_one_new _ _ _⟩) (by simp[Value.oneCell']) (by unfold maxLen;omega) (by omega) (by omega) ?_;intro v4 w4 ho4 hg4 hn4 ha4;obtain⟨va,vc,hvf⟩:=Al ho4;subst hvf;obtain⟨m3,m4,m5⟩:=HGr.out _ w4 hg4;have H4:=Aa (aK ho4 (aK hg4 ha4));clear ho4 hg4 hn4 ha4))
   obtain⟨ho4,hg4,ha4⟩:=H4.out;obtain⟨hrow,hb3,hPo,hBw⟩:=HRo.out;have hk:=BC (T:=113) hg4 fun g hg=>Ap (hrow.alloc _) hg;have h9:(wo.alloc (.cells #[sj g5 4 4] 113)).heap[pb]?=some (.cells pc 69 (0,0)):=(Ad wo _ pb hpl2).trans hPo;have h8:w4.heap[pb]?=some (.cells pc 69 (0,0)):=(hk _ (by decide) pb pc h9).trans h9;have fwd:∀(b:Nat) (cur:Array Value) (t:TypeId),t=59\/t=56->wo.heap[b]?=some (.cells cur t (0,0))->(w4.setCell (jA pb 3) (.slice va (N+1) vc)).heap[b]?=wo.heap[b]? :=fun b cur t ht hbb=>by
    have hn1:t≠113:=by rcases ht with rfl|rfl<;>decide
    have hn2:t≠69:=by rcases ht with rfl|rfl<;>decide
    have e1:=Ad wo (.cells #[sj g5 4 4] 113) b (Ab hbb);have e2:=hk t hn1 b cur (e1.trans hbb);rw[aL w4 (jA pb 3) b _ (Aj (e2.trans (e1.trans hbb)) h8 hn2),e2,e1]
   have hB:=HP.out.2.1.1;have hBp:=HP.out.2.1.2;have hp3l:3<pc.size:=(aM.1 hBp).1;have hxl:=hB.row.1;refine cV (v:=.tuple #[]) (by simp[results,results94]) rfl ⟨rfl,⟨_,bH w4 pb 3 pc _ _ h8,⟨xs++[sj g5 4 4],Ai ho4 fun g hg=>?_,fun i hi=>?_⟩,?_⟩,?_,?_⟩
   ·obtain⟨cur,hcur⟩:=Ap ho4 hg;exact aL w4 (jA pb 3) g _ (Aj hcur h8 (by decide))
   ·by_cases e:i=N
    ·subst e;refine⟨sj g5 4 4,by rw[bO (by omega),hxl];simp,g5,4,#[v,r1,r2,r3],rfl,?_,fun k hk4=>?_⟩
     ·have h7:=HT.out.other HC.out (by decide);exact(fwd g5 _ _ (.inr rfl) h7).trans h7
     ·obtain⟨s,hs,hrw⟩:=HRk.out k hk4;refine⟨s,hs,?_⟩;have hfull:=HF.out k s (by omega) hs;obtain⟨ys,y1,y2⟩:=(HT.out.row hrw).1;rcases y2 with⟨y2,y3⟩|⟨g,cap,cur,z1,z2,z3,z4,z5,z6,z7⟩
      ·exact⟨none,0,0,y2,by omega,fun h=>by omega⟩
      ·refine⟨some (jA g 0),n+k,cap,z1,by omega,fun _=>⟨g,cur,rfl,.inr ⟨z2,cur,(fwd g cur _ (.inl rfl) z3).trans z3⟩,(fwd g cur _ (.inl rfl) z3).trans z3,fun j hj o ho=>?_⟩⟩;exact(aV (fwd g cur _ (.inl rfl) z3)).trans (hfull g _ _ z1 j hj o ho)
    ·obtain⟨u,hu,hQ⟩:=hB.all i (by omega);refine⟨u,by rw[cA (by omega)];exact hu,hQ.keep (fun b hb=>.inl hb) fun b cur t ht hbb=>?_⟩;have e0:wo.heap[b]?=w.heap[b]? :=by
      rcases ht with⟨_,hk⟩|rfl
      ·exact hb3.block b (HP.out.2.2 b hk)
      ·exact HTyp.out b cur _ (by decide) hbb
     exact(fwd b cur t (ht.imp And.left id) (e0.trans hbb)).trans e0
   ·rcases ha4 with ha4|ha4
    ·exact .inl ha4
    ·exact .inr ⟨_,ha4,by simp;omega⟩
   ·have hBx:=HBel.out.trans hBw;have o1:Ac (fun g=>g=pb\/(Value.slice ca N cc).ownBlock=some g\/B0<=g) w wo:=⟨hBx.os,hBx.tape,hBx.output,hBx.size,fun g hg hs=>hBx.block g (by
     by_cases h7:B0<=g
     ·exact absurd (Or.inr (Or.inr h7)) hs
     ·omega)⟩
    exact((o1.alloc _).grown hg4 fun g hg=>.inl (.inr (.inl hg))).set (p:=(jA pb 3)) (.inl (.inl rfl)) _
   ·intro g cur t t1 t2 t3 hg;have e0:=HOth.out g cur t t1 hg;have h1:=HT.out.other (e0.trans hg) t1;have e1:=Ad wo (.cells #[sj g5 4 4] 113) g (Ab h1);have e2:=hk t t2 g cur (e1.trans h1);rw[aL w4 (jA pb 3) g _ (Aj (e2.trans (e1.trans h1)) h8 t3),e2,e1,h1,hg]
  |succ g=>
   have hlt:(k:Int)<4:=by omega
   have hk4:k<4:=by omega
   obtain⟨s,hs,hrow⟩:=HRk.out k hk4;obtain⟨m,hm⟩:∃m,n+k=m:=⟨_,rfl⟩;rw[hm]at hrow;obtain⟨xs,hxs⟩:=hrow.1;obtain⟨sa,sc,rfl⟩:=Al hxs;have hc5:wo.cell? (jA g5 k)=some (.slice sa m sc):=by rw[aP wo g5 k _ _ _ (HT.out.other HC.out (by decide))];exact hs
   have hm9:m<=9000004:=by omega
   have HRw:=Aa hrow;have HS:=Aa hs;clear hs hrow hxs hm;go_wp2
   go_loopg [7] m (fun gg s7 wr=>∃i:Nat,s7=vj i/\gg+i=m/\cZ 59 B0 w.heap.size w1 wr/\db 9 zV N wo wr/\∀j,j<i->∀b,sa=some (jA b 0)->de 9 zV N wr b j)
   case atStart=>exact⟨0,rfl,by omega,HT.out,db.refl _ _,fun j hj=>by omega⟩
   case round=>
    rename World=>wi;obtain⟨i,rfl,hgi,hT,hSt,hD⟩:=hrel;have hc6:wi.cell? (jA g5 k)=some (.slice sa m sc):=by rw[aP wi g5 k _ _ _ (hT.other HC.out (by decide))];exact HS.out
    have HTi:=Aa hT;have HDi:=Aa (aK hSt hD);have hwi:=hT.size;clear hT hc5 hSt hD;cases gk with
    |zero=>
     have hlti:¬(i:Int)<(m:Int):=by omega
     go_wp2
     go_roundg g
     case measure=>omega
     case rel=>
      refine⟨k+1,by go_num,by omega,HTi.out,fun k' s hk' hs'=>?_⟩;by_cases e:k'=k
      ·subst e;rw[HS.out]at hs';injection hs' with hs';subst hs';intro b m' c' e9 j hj;injection e9 with e1 e2 e3;subst e2;exact HDi.out.2 j (by omega) b e1
      ·exact(HF.out k' s (by omega) hs').stays HDi.out.1
    |succ g2=>
     have hlti:(i:Int)<(m:Int):=by omega
     have him:i<m:=by omega
     obtain⟨q,cap,cur,e1,hq1,hq2,hq3,hq4,hq5,hcs,hfr⟩:=(HTi.out.row HRw.out).at him;obtain⟨_,y0,c0⟩:=hcs 0 (by decide);obtain⟨_,y1,c1⟩:=hcs 1 (by decide);obtain⟨_,y2,c2⟩:=hcs 2 (by decide);obtain⟨_,y3,c3⟩:=hcs 3 (by decide);obtain⟨_,y4,c4⟩:=hcs 4 (by decide);obtain⟨_,y5,c5⟩:=hcs 5 (by decide);obtain⟨_,y6,c6⟩:=hcs 6 (by decide);obtain⟨_,y7,c7⟩:=hcs 7 (by decide);obtain⟨_,y8,c8⟩:=hcs 8 (by decide);simp only[Nat.add_zero]at c0;clear hcs;injection e1 with e11 e12 e13;clear e12;subst e11 e13;have hic:i<sc:=by omega
     have hzw:wi.heap[w.heap.size]?=some (.cells (zV N) 59 (0,0)):=by rw[HTi.out.keep hS1];exact HZ.out.1
     have z0:wi.cell? (jA w.heap.size 0)=some (vj (-7070)):=by rw[aP wi _ 0 (zV N) _ _ hzw];rfl
     have z1:wi.cell? (jA w.heap.size 1)=some (vj 0):=by rw[aP wi _ 1 (zV N) _ _ hzw];rfl
     have z2:wi.cell? (jA w.heap.size 2)=some (vj 0):=by rw[aP wi _ 2 (zV N) _ _ hzw];rfl
     have z3:wi.cell? (jA w.heap.size 3)=some (vj (N:Int)):=by rw[aP wi _ 3 (zV N) _ _ hzw];rfl
     have z4:wi.cell? (jA w.heap.size 4)=some (vj 0):=by rw[aP wi _ 4 (zV N) _ _ hzw];rfl
     have z5:wi.cell? (jA w.heap.size 5)=some (vj 0):=by rw[aP wi _ 5 (zV N) _ _ hzw];rfl
     have z6:wi.cell? (jA w.heap.size 6)=some (vj 0):=by rw[aP wi _ 6 (zV N) _ _ hzw];rfl
     have z7:wi.cell? (jA w.heap.size 7)=some (vj 0):=by rw[aP wi _ 7 (zV N) _ _ hzw];rfl
     have z8:wi.cell? (jA w.heap.size 8)=some (vj 0):=by rw[aP wi _ 8 (zV N) _ _ hzw];rfl
     have f0:=hfr (i*9);have f1:=hfr (i*9+1);have f2:=hfr (i*9+2);have f3:=hfr (i*9+3);have f4:=hfr (i*9+4);have f5:=hfr (i*9+5);have f6:=hfr (i*9+6);have f7:=hfr (i*9+7);have f8:=hfr (i*9+8);have hne:¬g5=q:=fun e=>by
      have h9:=HTi.out.other HC.out (by decide);rw[e,hq5]at h9;injection h9 with h9;injection h9 with _ h9;exact absurd h9 (by decide)
     have hne2:q≠g5:=fun e=>hne e.symm;have hcz:i*9+8<cur.size:=by
      rw[aP wi q _ cur _ _ hq5]at c8;exact(aM.1 c8).1
     have HQ:=Aa (aK hq5 hcz);clear hfr hzw hq5 hcz;have hk0:(0:Int)<=(k:Int):=by omega
     have hi0:(0:Int)<=(i:Int):=by omega
     go_wp2
     go_region_held3 (fun w'=>w'.cell? (jA w.heap.size 0)=some (vj (-7070))/\w'.cell? (jA w.heap.size 1)=some (vj 0)/\w'.cell? (jA w.heap.size 2)=some (vj 0)/\w'.cell? (jA w.heap.size 3)=some (vj (N:Int))/\w'.cell? (jA w.heap.size 4)=some (vj 0)/\w'.cell? (jA w.heap.size 5)=some (vj 0)/\w'.cell? (jA w.heap.size 6)=some (vj 0)/\w'.cell? (jA w.heap.size 7)=some (vj 0)/\w'.cell? (jA w.heap.size 8)=some (vj 0)/\w'.cell? (jA g5 k)=some (sj q m sc)) (go_keep) (fail)
     all_goals go_wp2
     go_roundg g2
     case measure=>omega
     case rel=>
      have hms:=eF (N:=N) (i:=i) HQ.out.1 HQ.out.2;refine⟨i+1,by go_num,by omega,(HTi.out.trans (cZ.set9 HQ.out.1 hq1 hq2 _ _ _ _ _ _ _ _ _ _ _ _ _ _ _ _ _ _)).drew1,HDi.out.1.trans hms.1.drew,fun j hj b hb=>?_⟩;injection hb with hb;injection hb with hb;subst hb;by_cases e:j=i
      ·subst e;exact hms.2.drew9
      ·exact(hms.1 _ _ (HDi.out.2 j (by omega) _ rfl)).drew9
def mkP(k:Int):R4:=(k,0,0,77)
theorem QH(k:Int)(hk:0<=k/\k<=250)(w:World):
  Calls prog 51 #[vj k] w fun e w'=>e=.returned (.agg #[.int .u8 k,.int .u8 0,.int .u8 0,.int .u8 77])/\uj w w':=by
 have e1:Int.tmod k 251=k:=by rw[Int.tmod_eq_emod_of_nonneg hk.1];omega
 have e2:Int.tdiv k 251=0:=by rw[Int.tdiv_eq_ediv_of_nonneg hk.1];omega
 have e3:Int.tdiv k 63001=0:=by rw[Int.tdiv_eq_ediv_of_nonneg hk.1];omega
 go_enter func51,ntmps51
 go_wp2;refine cU (v:=.agg #[.int .u8 k,.int .u8 0,.int .u8 0,.int .u8 77]) (by simp[results,results51,go_sem]) rfl ⟨rfl,al1 (aO _) _⟩
theorem X8(w:World):Calls prog 51 #[vj 5] w fun e w'=>e=.returned (.agg #[.int .u8 5,.int .u8 0,.int .u8 0,.int .u8 77])/\uj w w':=QH 5 (by decide) w
theorem X9(w:World):Calls prog 51 #[vj 6] w fun e w'=>e=.returned (.agg #[.int .u8 6,.int .u8 0,.int .u8 0,.int .u8 77])/\uj w w':=QH 6 (by decide) w
def D0(w':World)(base:Nat)(v:Value)(l:List R4)(u:Value):Prop:=
 (v=jj/\u=jj/\l=[])\/((∃ad c,v=.slice (some ad) l.length c)/\∃g cap,u=sj g l.length cap/\w'.ownsRow base 51 4 (sj g (l.length+2) cap) (l.length+2) (Aq (l++[mkP 5,mkP 6])))
theorem Nf(l:List R4)(v:Value)(w:World)(h:Bb w v l)(hv:(v=jj/\l=[])\/∃ad c,v=.slice (some ad) l.length c)(hr:l.length*4<=140737488351232):
  Calls prog 136 #[v] w fun e w'=>∃u,e=.returned u/\D0 w' w.heap.size v l u/\uj w w':=by
 obtain⟨i0,hi0,hz0,hz1,hz2⟩:=cW Ed;rcases hv with⟨rfl,rfl⟩|⟨ad,c,rfl⟩
 ·clear h hr;have hq:=J0;go_enter func136,ntmps136
  go_wp2;go_ret;exact⟨_,rfl,.inl ⟨rfl,rfl,rfl⟩,aN _ _⟩
 ·have hnews:=KS h fun e=>.inr ⟨ad,c,by rw[e];rfl⟩;obtain⟨n,hn⟩:∃n,l.length=n:=⟨_,rfl⟩;rw[hn]at hr hnews;rw[hn];have HN:=Aa hn;have HNw:=Aa hnews;clear hnews h hn;have hq:=Fy;go_enter func136,ntmps136
  go_wp2_with(first
   |(at_builtin;refine Am (P:=prog) rfl (.tmp 6) (.tmp 7) 44 rfl w.heap.size 51 i0 _ 4 4 underlying44 hi0 hz0 hz1 hz2 rfl (by decide) (jj) 0 [] rfl ?_ (.slice (some ad) n c) n (Aq l) rfl ?_ ?_ (DY _) (by unfold maxLen;omega) (by omega) (aO _) ?_;exact bA _ _ _ _;(rw[BM,HN.out]);exact HNw.out;intro v3 w3 ho3 hg3 hn3 ha3;have HB3:=Aa ((aN w.heap.size w).grown hg3 (aO _) (fun k hk=>by simp[Value.ownBlock]at hk));have hs3:w.heap.size<=w3.heap.size:=HB3.out.size;have HO3:=Aa ho3;clear ho3 hg3 hn3 ha3)
   |(go_at_call 51;refine(X9 w5).mono ?_;rintro e6 w6 ⟨rfl,hb6⟩;have HB6:=Aa (HB5.out.trans (hb6.mono HB5.out.size));have hs6:w3.heap.size<=w6.heap.size:=HB6.out.size;clear hb6)
   |(go_at_call 51;refine(X8 w3).mono ?_;rintro e5 w5 ⟨rfl,hb5⟩;have HB5:=Aa hb5;clear hb5)
   |(at_builtin;refine wpList_append_lies _ rfl (.tmp 9) (.tmp 12) 44 rfl w.heap.size 51 i0 _ 4 4 underlying44 hi0 hz0 hz1 hz2 rfl (by decide) v3 (0+n) ([]++Aq l) rfl ((Ai HO3.out fun g hg=>HB6.out.block g (HO3.out.lt g hg).2).alloc _) (jA w6.heap.size 0) 2 2 (Aq [mkP 5,mkP 6]) rfl rfl (bI (cs:=#[.int .u8 5,.int .u8 0,.int .u8 0,.int .u8 77,.int .u8 6,.int .u8 0,.int .u8 0,.int .u8 77]) (t:=51) (fr:=(0,0)) (aR w6 _)) (DY _) (by omega) (by unfold maxLen;omega) (by omega) (by simp;omega) _ rfl ?_;intro g4 c4 w4 ho4 hg4 ha4 hl4;have HO4:=Aa ho4;have hc4:n<=c4:=(by have:=A7 ho4;omega);have HB4:=Aa (((HB3.out.trans (HB6.out.mono hs3)).alloc (by omega) _).grown hg4 (by simp;omega) (fun k hk=>(HO3.out.lt k hk).1));clear ho4 hg4 ha4 hl4))
  go_ret;refine⟨_,rfl,.inr ⟨⟨ad,c,by rw[HN.out]⟩,g4,c4,by rw[HN.out];rfl,?_⟩,HB4.out⟩;have h9:=HO4.out;rw[Nat.zero_add,List.nil_append]at h9;rw[HN.out,D5];exact h9
theorem LM{w:World}{base:Nat}{e:TypeId}{size n:Nat}{v:Value}{xs:List Value}(h:w.ownsRow base e size v n xs):A4 w (fun _=>True) e size v n xs:=
 ⟨⟨h.1,h.2.imp (fun h=>h) fun⟨g,c,cur,e1,_,e3⟩=>⟨g,c,cur,e1,cB _,e3⟩⟩,fun _ _=>trivial⟩
theorem Hr(l:List R4)(u v:Value)(base:Nat)(w:World)(hv:Bb w v l)(hu:D0 w base v l u)(hr:l.length*4<=140737488351232):
  Calls prog 138 #[u,v] w fun e w'=>e=.returned (.bool true)/\w.grownBy w' u.ownBlock:=by
 rcases hu with⟨rfl,rfl,rfl⟩|⟨⟨ad,c,rfl⟩,g,cap,rfl,hown⟩
 ·clear hv hr;have hq:=J0;go_enter func138,ntmps138
  go_wp2;go_ret;exact⟨rfl,rfl,rfl,rfl,aO _,fun _ _ _=>rfl⟩
 ·have hq:=Fy;have hq2:=fun(a b c d:Int)=>X4 a b c d a b c d;have hcap:=A7 hown;have hgl:=(hown.lt g rfl).2;obtain⟨n,hn⟩:∃n,l.length=n:=⟨_,rfl⟩;have HKeep:Hid (∀w6,uj w w6->Bb w6 (.slice (some ad) n c) l/\w6.ownsRow base 51 4 (sj g (n+2) cap) (n+2) (Aq (l++[mkP 5,mkP 6]))/\w.grownBy w6 (some g)):=fun w6 hb=>by
   rw[hn]at hv hown;exact⟨hv.below hb,Ai hown fun b hb2=>hb.block b (hown.lt b hb2).2,hb.os,hb.tape,hb.output,hb.size,fun k hk _=>hb.block k hk⟩
  have HCl:Hid (∀w6,uj w w6->w6.cell? (jA g (n*4))=some (.int .u8 5)/\w6.cell? (jA g (n*4+1))=some (.int .u8 0)/\w6.cell? (jA g (n*4+2))=some (.int .u8 0)/\w6.cell? (jA g (n*4+3))=some (.int .u8 77)/\w6.cell? (jA g ((n+1)*4))=some (.int .u8 6)/\w6.cell? (jA g ((n+1)*4+1))=some (.int .u8 0)/\w6.cell? (jA g ((n+1)*4+2))=some (.int .u8 0)/\w6.cell? (jA g ((n+1)*4+3))=some (.int .u8 77)):=fun w6 hb=>by
   obtain⟨_,h2,_⟩:=HKeep.out w6 hb;obtain⟨g',c',e',_,_,_,q,_⟩:=(LM h2).open (by omega);injection e' with e1 e2 e3;injection e1 with e1;injection e1 with e1;subst e1;have h5:∀h:n<(l++[mkP 5,mkP 6]).length,(l++[mkP 5,mkP 6])[n]=mkP 5:=fun h=>by
    rw[List.getElem_append_right (by omega)];simp[hn]
   have h6:∀h:n+1<(l++[mkP 5,mkP 6]).length,(l++[mkP 5,mkP 6])[n+1]=mkP 6:=fun h=>by
    rw[List.getElem_append_right (by omega)];simp[hn]
   have hl5:n<(l++[mkP 5,mkP 6]).length:=by simp;omega
   have hl6:n+1<(l++[mkP 5,mkP 6]).length:=by simp;omega
   obtain⟨a1,a2,a3,a4⟩:=Bk _ n hl5;obtain⟨b1,b2,b3,b4⟩:=Bk _ (n+1) hl6;rw[h5]at a1 a2 a3 a4;rw[h6]at b1 b2 b3 b4;exact⟨q _ _ a1,q _ _ a2,q _ _ a3,q _ _ a4,q _ _ b1,q _ _ b2,q _ _ b3,q _ _ b4⟩
  rw[hn]at hr hcap;rw[hn];have HN:=Aa hn;clear hv hown hn;have hc2:(n:Int)+2<=(cap:Int):=by omega
  have t0:(0:Int)<=(n:Int):=by omega
  have t1:(n:Int)<(n:Int)+2:=by omega
  have t2:(0:Int)<=(n:Int)+1:=by omega
  have t3:(n:Int)+1<(n:Int)+2:=by omega
  have t4:IntKind.i64.wrap ((n:Int)+1)=(n:Int)+1:=by rw[bB];omega
  have t5:IntKind.i64.wrap ((n:Int)+2)=(n:Int)+2:=by rw[bB];omega
  have t6:((n:Int)+1).toNat=n+1:=by omega
  have t7:((n:Int)+2).toNat=n+2:=by omega
  obtain⟨k0,k1,k2,k3,k4,k5,k6,k7⟩:=HCl.out w (aN _ _);go_enter func138,ntmps138
  go_wp2_with fail
  go_region_held3 (fun w'=>w'.cell? (jA g (n*4))=some (.int .u8 5)/\w'.cell? (jA g (n*4+1))=some (.int .u8 0)/\w'.cell? (jA g (n*4+2))=some (.int .u8 0)/\w'.cell? (jA g (n*4+3))=some (.int .u8 77)/\w'.cell? (jA g ((n+1)*4))=some (.int .u8 6)/\w'.cell? (jA g ((n+1)*4+1))=some (.int .u8 0)/\w'.cell? (jA g ((n+1)*4+2))=some (.int .u8 0)/\w'.cell? (jA g ((n+1)*4+3))=some (.int .u8 77))
   (first
    |exact HCl.out _ (aN _ _)
    |exact HCl.out _ H6.out
    |exact HCl.out _ H5.out
    |exact HCl.out _ (aN _ _).drew
    |fail)
   (first
    |(go_at_call 51;refine(X9 w5).mono ?_;rintro e6 w6 ⟨rfl,hb6⟩;have H6:=Aa (H5.out.trans (hb6.mono H5.out.size));clear hb6)
    |(go_at_call 51;refine(X8 _).mono ?_;rintro e5 w5 ⟨rfl,hb5⟩;have H5:=Aa ((aN w.heap.size w).drew.trans hb5);clear hb5)
    |fail)
  have hg6:g<w6.heap.size:=aQ hgl H6.out.size;have HP:=Aa (HKeep.out w6 H6.out);clear k0 k1 k2 k3 k4 k5 k6 k7 HCl HKeep H5;go_wp2
  go_loopg [6,7] n (fun gg s6 s7 wr=>s6=.bool true/\∃i:Nat,s7=vj i/\gg+i=n/\∃nq,wr=w6.drewN nq)
  case atStart=>exact⟨rfl,0,rfl,by omega,0,rfl⟩
  case round=>
   obtain⟨rfl,i,rfl,hgi,n0,rfl⟩:=hrel;cases gk with
   |zero=>
    have hlt:¬(i:Int)<(n:Int):=by omega
    go_wp2
    go_loopg [8] (n+2) (fun gg s8 wr=>∃i:Nat,s8=vj i/\gg+i=n+2/\∃X,wr.ownsRow base 51 4 (sj g (n+2) cap) (n+2) X/\w.grownBy wr (some g))
    case atStart=>exact⟨0,rfl,by omega,_,HP.out.2.1,HP.out.2.2.os,HP.out.2.2.tape,HP.out.2.2.output,HP.out.2.2.size,HP.out.2.2.block⟩
    case round=>
     rename World=>wr;obtain⟨i,rfl,hgi,X,hown,hgr⟩:=hrel;cases gk with
     |zero=>
      have hlt:¬(i:Int)<(n:Int)+2:=by omega
      have HG:=Aa hgr;clear hgr hown;go_wp2;go_ret;exact⟨rfl,HG.out⟩
     |succ g2=>
      have hlt:(i:Int)<(n:Int)+2:=by omega
      have hgw:=(hown.lt g rfl).2;have hXl:=hown.1;obtain⟨g',c',e',_,_,_,q,_⟩:=(LM hown).open (by omega);injection e' with e1 e2 e3;injection e1 with e1;injection e1 with e1;subst e1;obtain⟨x0,y0⟩:∃x,wr.cell? (jA g (i*4))=some x:=⟨_,q _ _ (aU (show i*4<X.length by omega))⟩;obtain⟨x1,y1⟩:∃x,wr.cell? (jA g (i*4+1))=some x:=⟨_,q _ _ (aU (show i*4+1<X.length by omega))⟩;obtain⟨x2,y2⟩:∃x,wr.cell? (jA g (i*4+2))=some x:=⟨_,q _ _ (aU (show i*4+2<X.length by omega))⟩;obtain⟨x3,y3⟩:∃x,wr.cell? (jA g (i*4+3))=some x:=⟨_,q _ _ (aU (show i*4+3<X.length by omega))⟩;have z0:=CM hown (i*4);have z1:=CM hown (i*4+1);have z2:=CM hown (i*4+2);have z3:=CM hown (i*4+3);have HK:=Aa (aK hown hgr);clear hown hgr q hXl e2 e3;go_wp2
      go_roundg g2
      case measure=>omega
      case rel=>
       refine⟨i+1,by go_num,by omega,_,Dr (Dr (Dr (Dr HK.out.1 _) _) _) _,?_⟩;have hg:=HK.out.2;refine⟨hg.os,hg.tape,hg.output,?_,fun k hk hne=>?_⟩
       ·have:=hg.size;simp;omega
       ·have hkg:k≠g:=fun e=>hne (by rw[e]);rw[aL _ (jA g (i*4+3)) k _ hkg,aL _ (jA g (i*4+2)) k _ hkg,aL _ (jA g (i*4+1)) k _ hkg,aL _ (jA g (i*4)) k _ hkg];exact hg.block k hk hne
   |succ g2=>
    have hlt:(i:Int)<(n:Int):=by omega
    have hlt2:(i:Int)<(n:Int)+2:=by omega
    have hil:i<l.length:=by rw[HN.out];omega
    have hil2:i<(l++[mkP 5,mkP 6]).length:=by simp;omega
    obtain⟨g',c',e',_,_,_,q,_⟩:=(LM HP.out.2.1).open (by omega);injection e' with e1 e2 e3;injection e1 with e1;injection e1 with e1;subst e1;clear e2 e3;obtain⟨a1,a2,a3,a4⟩:=Bk _ i hil2;rw[List.getElem_append_left hil]at a1 a2 a3 a4;replace a1:=q _ _ a1;replace a2:=q _ _ a2;replace a3:=q _ _ a3;replace a4:=q _ _ a4;obtain⟨va,vc,hvf,hvc⟩:=HP.out.1;obtain⟨_,b,off,hva,hcs⟩:=hvc (by omega);obtain⟨b1,b2,b3,b4⟩:=hcs i hil;subst hva;injection hvf with f1 f2 f3;injection f1 with f1;subst f1;clear f2 f3 hcs hvc q;obtain⟨⟨p0,p1,p2,p3⟩,hp⟩:∃r,l[i]=r:=⟨_,rfl⟩;rw[hp]at a1 a2 a3 a4 b1 b2 b3 b4;simp only at a1 a2 a3 a4 b1 b2 b3 b4;clear hp;go_wp2;go_quiet (fail)
    go_wp2
    go_roundg g2
    case measure=>omega
    case rel=>exact⟨rfl,i+1,by go_num,by omega,_,rfl⟩
end Go.Proofs.YtofinpocigbbeaaGreat
