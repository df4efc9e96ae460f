import Derived.Test.YtofinpocigbbeaaGreatKae
import Derived.ArgAppend
set_option maxRecDepth 100000
set_option linter.unusedSimpArgs false
namespace Go.Proofs.YtofinpocigbbeaaGreat
open Go.Proofs.Tryz Go.RowKit
variable{I:Array Bool->Act->World->Prop}{a:Act}{i:Nat}{listed:Array Bool}{w:World}
section
variable{P:Program}{ops:Array Oper}{Q:Exit->Act->World->Prop}{md:Region.Mode}
def unl(n:Nat)(listed:Array Bool):Nat:=(List.range n).countP fun i=> !listed.getD i true
theorem Qv(m:Nat)(L:Array Bool):unl (m+1) L=unl m L+(if L.getD m true=true then 0 else 1):=by
 unfold unl;rw[List.range_succ,List.countP_append];cases h:L.getD m true<;>simp[-Array.getD_eq_getD_getElem?,h]
theorem SU(n:Nat)(listed:Array Bool)(i:Nat)(hi:i<n)(hl:listed.getD i true=false):unl n (listed.setIfInBounds i true)+1<=unl n listed:=by
 have hsz:i<listed.size:=by
  rcases Nat.lt_or_ge i listed.size with h|h
  ·exact h
  ·rw[Array.getD_eq_getD_getElem?,Array.getElem?_eq_none h]at hl;cases hl
 have hs:∀k,(listed.setIfInBounds i true).getD k true=(if k=i then true else listed.getD k true):=by
  intro k;by_cases h:k=i
  ·subst h;simp[Array.getD_eq_getD_getElem?,hsz]
  ·rw[if_neg h,Array.getD_eq_getD_getElem?,Array.getD_eq_getD_getElem?,bC (fun e=>h e.symm)]
 have key:∀m,unl m (listed.setIfInBounds i true)+(if i<m then 1 else 0)<=unl m listed:=by
  intro m;induction m with
  |zero=>simp[unl]
  |succ m ih=>
   rw[Qv,Qv,hs m];by_cases h1:m=i
   ·subst h1;rw[if_neg (Nat.lt_irrefl _)]at ih;rw[if_pos rfl,hl,if_pos (Nat.lt_succ_self _)];simp only[if_true,Bool.false_eq_true,if_false];omega
   ·rw[if_neg h1];by_cases h2:i<m
    ·rw[if_pos h2]at ih;rw[if_pos (show i<m+1 by omega)];omega
    ·rw[if_neg h2]at ih;rw[if_neg (show¬i<m+1 by omega)];omega
 have:=key n;rw[if_pos hi]at this;exact this
theorem M5(h:i∈Region.ready md ops listed):i<ops.size/\listed.getD i true=false/\∃o,ops[i]?=some o/\∀e∈o.after,Region.binds md e=true->listed.getD e.on false=true:=by
 unfold Region.ready at h;rw[bY,cf]at h;obtain⟨h1,h2⟩:=h;rw[Bool.and_eq_true]at h2;obtain⟨h2,h3⟩:=h2;refine⟨h1,by simpa using h2,?_⟩;cases ho:ops[i]?with
 |none=>rw[ho]at h3;cases h3
 |some o=>
  rw[ho]at h3;refine⟨o,rfl,fun e he hb=>?_⟩;have h4:o.after.all (fun e=> !Region.binds md e||listed.getD e.on false)=true:=h3;rw[Array.all_eq_true_iff_forall_mem]at h4;have h5:=h4 e he;rw[hb]at h5;simpa using h5
theorem M6(hback:∀(i:Nat) (o:Oper),ops[i]?=some o->∀e∈o.after,e.on<i)(hsz:listed.size=ops.size)(h:Region.ready md ops listed=[]):∀i,i<ops.size->listed[i]?=some true:=by
 intro i;induction i using Nat.strongRecOn with
 |ind i ih=>
  intro hi;have hin:listed[i]?=some (listed[i]'(by omega)):=Array.getElem?_eq_getElem (by omega);cases hb:listed[i]'(by omega)with
  |true=>rw[hin,hb]
  |false=>
   exfalso;have ho:ops[i]?=some ops[i]:=Array.getElem?_eq_getElem hi;have:i∈Region.ready md ops listed:=by
    unfold Region.ready;rw[bY,cf];refine⟨hi,?_⟩;rw[Bool.and_eq_true];refine⟨by rw[Array.getD_eq_getD_getElem?,hin,hb];rfl,?_⟩;rw[ho];show ops[i].after.all (fun e=> !Region.binds md e||listed.getD e.on false)=true;rw[Array.all_eq_true_iff_forall_mem];intro e he;have hlt:=hback i ops[i] ho e he;rw[Array.getD_eq_getD_getElem?,ih e.on hlt (by omega)];simp
   rw[h]at this;cases this
theorem Un(hback:∀(i:Nat) (o:Oper),ops[i]?=some o->∀e∈o.after,e.on<i)
  (hstep:∀(listed:Array Bool) (a:Act) (w:World) (i:Nat) (o:Oper),I listed a w->listed.size=ops.size->i<ops.size->ops[i]?=some o->(∀e∈o.after,Region.binds md e=true->listed[e.on]?=some true)->wpOp P ops Q i (I (listed.setIfInBounds i true)) a w)
  (hend:∀listed a w,I listed a w->(∀i,i<ops.size->listed[i]?=some true)->Q .normal a w):
  ∀fuel listed a w,I listed a w->listed.size=ops.size->unl ops.size listed<=fuel->wpAny P md ops Q fuel listed a w:=by
 intro fuel;induction fuel with
 |zero=>
  intro listed a w hI hsz hu;have hnil:Region.ready md ops listed=[]:=by
   cases hr:Region.ready md ops listed with
   |nil=>rfl
   |cons i r=>
    have hm:i∈Region.ready md ops listed:=by rw[hr];simp
    obtain⟨h1,h2,_⟩:=M5 hm;have:=SU ops.size listed i h1 h2;omega
  exact⟨hnil,hend _ _ _ hI (M6 hback hsz hnil)⟩
 |succ fuel ih=>
  intro listed a w hI hsz hu;refine⟨fun hnil=>hend _ _ _ hI (M6 hback hsz hnil),fun i hm=>?_⟩;obtain⟨h1,h2,o,ho,h3⟩:=M5 hm;have h4:=hstep listed a w i o hI hsz h1 ho fun e he hb=>by
   have h5:=h3 e he hb;rw[Array.getD_eq_getD_getElem?]at h5;cases h6:listed[e.on]?with
   |none=>rw[h6]at h5;cases h5
   |some x=>rw[h6]at h5;simp at h5;rw[h5]
  refine wpOp_mono (fun a' w' hI'=>ih _ a' w' hI' (by simpa using hsz) ?_) h4;have:=SU ops.size listed i h1 h2;omega
theorem Xj(n:Nat):unl n (Array.replicate n false)<=n:=by
 unfold unl;have:=List.countP_le_length (p:=fun i=> !(Array.replicate n false).getD i true) (l:=List.range n);simpa using this
theorem E4{id:Nat}(hm:P.follows .mixedOrders=true)(hback:∀(i:Nat) (o:Oper),ops[i]?=some o->∀e∈o.after,e.on<i)
  (h0:I (Array.replicate ops.size false) a {w with drawn:=w.drawn+1})
  (hstep:∀(listed:Array Bool) (a:Act) (w:World) (i:Nat) (o:Oper),I listed a w->listed.size=ops.size->i<ops.size->ops[i]?=some o->(∀e∈o.after,Region.binds .any e=true->listed[e.on]?=some true)->wpOp P ops Q i (I (listed.setIfInBounds i true)) a w)
  (hend:∀listed a w,I listed a w->(∀i,i<ops.size->listed[i]?=some true)->Q .normal a w):(Code.region id ops true).wp P Q a w:=
 wp_region_any hm (Un hback hstep hend _ _ _ _ h0 (by simp) (Xj _))
theorem Ar{o:Oper}{w':World}{x:Value}{K:Act->World->Prop}(hi:ops[i]?=some o)(hg:o.guard=none)(hr:(execOp a.eval o).run P w=.ok (.value x) w')(hK:K (a.put o.dst x) w'):wpOp P ops Q i K a w:=by
 unfold wpOp;simp only[hi];have hw:Region.wanted o (yielded ops a.tmps)=true:=by simp[Region.wanted,hg]
 rw[if_pos hw];left;unfold Oper.wp;rw[hr];exact hK
end
variable{B0:Nat}{a b:World}{u:Option Nat}
def GF(w:World)(B0:Nat)(s:Value)(m:Nat):Prop:=∃xs,w.ownsRow B0 53 4 s m xs
structure Ci(u:Option Nat)(w w':World):Prop where
 grown:w.grownBy w' u
 rows:∀(g:Nat) (cur:Array Value),w.heap[g]?=some (.cells cur 53 (0,0))->∃cur':Array Value,w'.heap[g]?=some (.cells cur' 53 (0,0))/\cur'.size=cur.size
theorem GF.step{w':World}{m:Nat}{s:Value}(h:GF w B0 s m)(hs:Ci u w w'):GF w' B0 s m:=by
 obtain⟨xs,h1,h2⟩:=h;rcases h2 with h2|⟨g,cap,cur,e1,e2,e3,e4,e5,e6,e7⟩
 ·exact⟨xs,h1,.inl h2⟩
 ·obtain⟨cur',k1,k2⟩:=hs.rows g cur e3;refine⟨cur'.toList.take (m*4),?_,.inr ⟨g,cap,cur',e1,e2,k1,e4,e5,by rw[k2,e6],rfl⟩⟩;rw[bR,cR,k2,e6];have:=bU 4 e4;omega
theorem Ci.refl(u:Option Nat)(w:World):Ci u w w:=⟨⟨rfl,rfl,rfl,aO _,fun _ _ _=>rfl⟩,fun _ cur h=>⟨cur,h,rfl⟩⟩
theorem Ci.alloc(u:Option Nat)(w:World)(o:Obj):Ci u w (w.alloc o):=
 ⟨World.grownBy_alloc w o u,fun g cur h=>⟨cur,by rw[Ad w o g (aM.1 h).1];exact h,rfl⟩⟩
theorem Ci.trans{c:World}(h:Ci u a b)(k:Ci u b c):Ci u a c:=
 ⟨h.grown.trans k.grown,fun g cur hg=>by
  obtain⟨c1,e1,e2⟩:=h.rows g cur hg;obtain⟨c2,e3,e4⟩:=k.rows g c1 e1;exact⟨c2,e3,e4.trans e2⟩⟩
theorem Ci.of_none(h:a.grownBy b none):Ci u a b:=
 ⟨⟨h.os,h.tape,h.output,h.size,fun k hk _=>h.block k hk (by simp)⟩,fun g cur hg=>⟨cur,by rw[h.block g (aM.1 hg).1 (by simp)];exact hg,rfl⟩⟩
theorem Qw{n:Nat}{v:Value}(hv:GF w B0 v n)(ty:TypeId)(ad:Addr)(m c:Nat)(news:List Value)(hl:news.length=m*4)(hnews:∀j u,news[j]?=some u->w.cell? (ad.add j)=some u)(h1:∀u∈news,u.oneCell'=true)
  (h63:n+m<=maxLen) (hbytes:(n+m)*32<=140737488355328) (hB:B0<=w.heap.size):
  ∃v' w',(Builtin.append_ #[33,33] ty #[v,.slice (some ad) m c]).run prog w=.ok v' w'/\GF w' B0 v' (n+m)/\Ci v.ownBlock w w'/\(v'.ownBlock=v.ownBlock\/v'.ownBlock=some w.heap.size):=by
 obtain⟨i0,hi0,hz0,hz1,hz2⟩:=cW C8;obtain⟨xs,hown⟩:=hv;obtain⟨v',w',hr,ho,hg,_,hat⟩:=run_append_own_at (P:=prog) w B0 33 ty 53 i0 _ 4 32 underlying33 hi0 hz0 hz1 hz2 rfl (by decide) v n xs hown ad m c news hl hnews h1 h63 hbytes hB;refine⟨v',w',hr,⟨_,ho⟩,⟨hg,fun k cur hk=>?_⟩,hat⟩;have hkl:=(aM.1 hk).1;by_cases hkv:some k=v.ownBlock
 ·rcases hown.2 with⟨e,_⟩|⟨g,cap,cu,e1,e2,e3,e4,e5,e6,e7⟩
  ·rw[e]at hkv;cases hkv
  ·subst e1;have hkg:k=g:=by
    have:some k=some g:=hkv;injection this
   subst hkg;rw[hk]at e3;injection e3 with e3;injection e3 with e3;subst e3;by_cases hroom:n+m<=cap
   ·have hlen:news.length=m*i0.size:=by rw[hz1];exact hl
    have hfit:n*i0.size+news.length<=cur.size:=by rw[hz1,hl,e6,<-Nat.add_mul];exact bU _ hroom
    have h9:=run_append_room (P:=prog) w 33 ty 53 i0 underlying33 hi0 k n cap cur hk ad m c news hlen hnews h1 hroom hfit;rw[hr]at h9;injection h9 with _ h9;subst h9;refine⟨_,setRow_heap w k cur _ 53 _ hk,?_⟩;simp only[List.size_toArray,aY,bR,cC,cR];omega
   ·obtain⟨v2,w2,h9,_,h8⟩:=run_append_arg_grows (P:=prog) w 33 ty 53 i0 _ 4 32 underlying33 hi0 hz0 hz1 hz2 rfl (by decide) ⟨k,0,none⟩ n cap xs hown.1 (hown.cells (g:=k) rfl) ad m c news hl hnews (by omega) h63 hbytes;rw[hr]at h9;injection h9 with _ h9;subst h9;exact(Ci.of_none (u:=none) h8).rows k cur hk
 ·exact⟨cur,by rw[hg.block k hkl hkv];exact hk,rfl⟩
variable{N:Nat}{cv:Value}
def zA(N:Nat):Array Value:=#[.int .i64 (-7070),.int .i64 0,.int .i64 0,.int .i64 (N:Int)]
def R9:Code->Array Oper
 | .seq _ (.seq (.region _ ops _) _)=>ops
 |_=>#[]
def GG(f:Func):Array Oper:=(f.body.map R9).getD #[]
def frA(N:Nat)(cv:Value)(pb zb:Nat)(v:Value)(f:Nat->Value):Act:=
 {tmps:=#[.pointer (some ⟨pb,1,none⟩),v,undef,undef,.pointer (some ⟨zb,0,none⟩),f 5,undef,undef,.pointer (some ⟨pb,1,none⟩),.pointer (some ⟨pb,1,none⟩),.pointer (some ⟨pb,1,none⟩),cv,.int .i64 (N:Int),.agg (zA N),
   f 14,f 15,f 16,f 17,f 18,f 19,f 20,f 21,f 22,f 23,f 24,f 25,f 26,f 27,f 28,f 29,f 30,undef,undef,undef,undef,undef,undef,undef,undef,undef,undef,undef,undef,undef,undef,undef,undef,undef,undef,undef,undef,undef,undef,undef,undef,undef,undef,undef,undef,undef,undef,undef,undef],defers:=[] }
theorem Il:(GG Tryz.f87).size=18:=rfl
theorem Sa:∀(i:Nat) (o:Oper),(GG Tryz.f87)[i]?=some o->∀e∈o.after,e.on<i:=by
 have h:(List.range (GG Tryz.f87).size).all (fun i=>((GG Tryz.f87)[i]?.map fun o=>o.after.toList.all fun e=>decide (e.on<i)).getD false)=true:=by kernel_rfl
 intro i o ho e he;have hi:i<(GG Tryz.f87).size:=(aM.1 ho).1;have h1:=cG.1 h i (cf.2 hi);rw[ho]at h1;have h2:o.after.toList.all (fun e=>decide (e.on<i))=true:=h1;exact ck (cG.1 h2 e (aW.2 he))
theorem Fp(pb zb:Nat)(v:Value)(f:Nat->Value)(o:Oper)(ho:o.op=.load 53 (.tmp 4))(w:World)(hz:w.heap[zb]?=some (.cells (zA N) 53 (0,0))):(execOp (frA N cv pb zb v f).eval o).run prog w=.ok (.value (.agg (zA N))) w:=by
 have c0:w.cell? ⟨zb,0,none⟩=some (.int .i64 (-7070)):=by rw[aP w zb 0 (zA N) _ _ hz];rfl
 have c1:w.cell? ⟨zb,1,none⟩=some (.int .i64 0):=by rw[aP w zb 1 (zA N) _ _ hz];rfl
 have c2:w.cell? ⟨zb,2,none⟩=some (.int .i64 0):=by rw[aP w zb 2 (zA N) _ _ hz];rfl
 have c3:w.cell? ⟨zb,3,none⟩=some (.int .i64 (N:Int)):=by rw[aP w zb 3 (zA N) _ _ hz];rfl
 have e4:(frA N cv pb zb v f).eval (.tmp 4)=.pointer (some ⟨zb,0,none⟩):=rfl;unfold execOp;simp only[ho,e4]
 go_simp
 rfl
theorem YG(pb zb:Nat)(v:Value)(f:Nat->Value)(o:Oper)(ho:o.op=.buildSlice 33 1 #[(0,.tmp 16)])(w:World)(h16:f 16=.agg (zA N)):(execOp (frA N cv pb zb v f).eval o).run prog w=.ok (.value (.slice (some ⟨w.heap.size,0,none⟩) 1 1)) (w.alloc (.cells (zA N) 53)):=by
 have e4:(frA N cv pb zb v f).eval (.tmp 16)=.agg (zA N):=h16;unfold execOp;simp only[ho,cK,List.map_cons,List.map_nil,e4];unfold zA
 go_simp
theorem YH(pb zb:Nat)(v:Value)(f:Nat->Value)(o:Oper)(ho:o.op=.buildSlice 33 2 #[(0,.tmp 20),(1,.tmp 21)])(w:World)(h1:f 20=.agg (zA N))(h2:f 21=.agg (zA N)):(execOp (frA N cv pb zb v f).eval o).run prog w=.ok (.value (.slice (some ⟨w.heap.size,0,none⟩) 2 2)) (w.alloc (.cells ((zA N)++(zA N)) 53)):=by
 have e1:(frA N cv pb zb v f).eval (.tmp 20)=.agg (zA N):=h1;have e2:(frA N cv pb zb v f).eval (.tmp 21)=.agg (zA N):=h2;unfold execOp;simp only[ho,cK,List.map_cons,List.map_nil,e1,e2];unfold zA
 go_simp
theorem YI(pb zb:Nat)(v:Value)(f:Nat->Value)(o:Oper)(ho:o.op=.buildSlice 33 3 #[(0,.tmp 25),(1,.tmp 26),(2,.tmp 27)])(w:World)(h1:f 25=.agg (zA N))(h2:f 26=.agg (zA N))(h3:f 27=.agg (zA N)):(execOp (frA N cv pb zb v f).eval o).run prog w=.ok (.value (.slice (some ⟨w.heap.size,0,none⟩) 3 3)) (w.alloc (.cells ((zA N)++(zA N)++(zA N)) 53)):=by
 have e1:(frA N cv pb zb v f).eval (.tmp 25)=.agg (zA N):=h1;have e2:(frA N cv pb zb v f).eval (.tmp 26)=.agg (zA N):=h2;have e3:(frA N cv pb zb v f).eval (.tmp 27)=.agg (zA N):=h3;unfold execOp;simp only[ho,cK,List.map_cons,List.map_nil,e1,e2,e3];unfold zA
 go_simp
theorem YJ(pb zb:Nat)(v:Value)(f:Nat->Value)(o:Oper)(ho:o.op=.buildSlice 108 4 #[(0,.tmp 14),(1,.tmp 18),(2,.tmp 23),(3,.tmp 29)])(w:World)(x0 x1 x2 x3:Option Addr)(n0 n1 n2 n3 c0 c1 c2 c3:Nat)(h0:f 14=.slice x0 n0 c0)(h1:f 18=.slice x1 n1 c1)(h2:f 23=.slice x2 n2 c2)(h3:f 29=.slice x3 n3 c3):(execOp (frA N cv pb zb v f).eval o).run prog w=.ok (.value (.slice (some ⟨w.heap.size,0,none⟩) 4 4)) (w.alloc (.cells #[.slice x0 n0 c0,.slice x1 n1 c1,.slice x2 n2 c2,.slice x3 n3 c3] 33)):=by
 have e0:(frA N cv pb zb v f).eval (.tmp 14)=.slice x0 n0 c0:=h0;have e1:(frA N cv pb zb v f).eval (.tmp 18)=.slice x1 n1 c1:=h1;have e2:(frA N cv pb zb v f).eval (.tmp 23)=.slice x2 n2 c2:=h2;have e3:(frA N cv pb zb v f).eval (.tmp 29)=.slice x3 n3 c3:=h3;unfold execOp;simp only[ho,cK,List.map_cons,List.map_nil,e0,e1,e2,e3]
 go_simp
theorem OA(a:Act)(o:Oper)(s x:Operand)(ho:o.op=.call {callee:=.builtin .append,args:=#[s,x],argTypes:=#[33,33] })(w w':World)(y z r:Value)(h1:a.eval s=y)(h2:a.eval x=z)(hr:(Builtin.append_ #[33,33] o.type #[y,z]).run prog w=.ok r w'):(execOp a.eval o).run prog w=.ok (.value r) w':=by
 unfold execOp;simp only[ho,resolve,invoke,builtin,Sem.run_bind,Sem.run_pure,Result.andThen_ok,cK,List.map_cons,List.map_nil,h1,h2,hr]
end Go.Proofs.YtofinpocigbbeaaGreat
