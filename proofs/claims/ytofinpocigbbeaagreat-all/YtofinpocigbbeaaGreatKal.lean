import Derived.Test.YtofinpocigbbeaaGreatKag
import Derived.ChangeMaps5
import Derived.Carry
set_option linter.unusedSimpArgs false
namespace Go.Proofs.YtofinpocigbbeaaGreat
open Go.RowKit
open Go.MapKept (Stamped IsKey)
open Go.ChangeMaps (setBlock)
variable{Q:Exit->Act->World->Prop}{a:Act}{n:Nat}{o:Oper}{ops:Array Oper}{rest:List Oper}{ty:TypeId}
def Fg(q:Nat->Nat)(i:Nat):Value×Value:=(vj (i:Int),pj (q i))
def A1(w:World)(b:Nat)(L:List Nat)(q:Nat->Nat):Prop:=
 ∃(es:Array MapEntry) (clock:Nat),w.heap[b]?=some (.map es clock)/\Stamped es clock/\(es.toList.map fun e=>(e.key,e.val)).Perm (L.map (Fg q))
theorem A1.lt{w:World}{b:Nat}{L:List Nat}{q:Nat->Nat}(h:A1 w b L q):b<w.heap.size:=by
 obtain⟨es,cl,hb,_⟩:=h;exact(aM.1 hb).1
theorem A1.keep{w w':World}{b:Nat}{L:List Nat}{q:Nat->Nat}(h:A1 w b L q)(hk:w'.heap[b]?=w.heap[b]?):A1 w' b L q:=by
 obtain⟨es,cl,hb,h2⟩:=h;exact⟨es,cl,hk.trans hb,h2⟩
theorem A1.congr{w:World}{b:Nat}{L L':List Nat}{q q':Nat->Nat}(h:A1 w b L q)(hp:L.Perm L')(hq:∀i∈L,q' i=q i):A1 w b L' q':=by
 obtain⟨es,cl,hb,hs,h2⟩:=h;refine⟨es,cl,hb,hs,h2.trans ?_⟩;have e:(L.map (Fg q))=L.map (Fg q'):=List.map_congr_left fun i hi=>by unfold Fg;rw[hq i hi]
 rw[e];exact hp.map _
theorem A1.ne{w:World}{b g:Nat}{L:List Nat}{q:Nat->Nat}{cur:Array Value}{t:TypeId}{z:Nat×Nat}(h:A1 w b L q)(hg:w.heap[g]?=some (.cells cur t z)):g≠b:=by
 rintro rfl;obtain⟨es,cl,hb,_⟩:=h;rw[hb]at hg;cases hg
theorem A1.made(w:World)(q:Nat->Nat):A1 (w.alloc (.map #[] 0)) w.heap.size [] q:=⟨#[],0,(MapKept.heap_alloc w _).1,MapKept.stamped_empty 0,by simp⟩
section
variable{P:Program}{k e t:TypeId}{w:World}{b:Nat}{L:List Nat}{q:Nat->Nat}
theorem A1.keys{es:Array MapEntry}(hp:(es.toList.map fun e=>(e.key,e.val)).Perm (L.map (Fg q))):∀x∈es.toList,∃i∈L,x.key=vj (i:Int)/\x.val=pj (q i):=fun x hx=>by
 have h1:(x.key,x.val)∈es.toList.map fun e=>(e.key,e.val):=List.mem_map.2 ⟨x,hx,rfl⟩;obtain⟨i,hi,e⟩:=List.mem_map.1 (hp.mem_iff.1 h1);simp only[Fg,Prod.mk.injEq]at e;exact⟨i,hi,e.1.symm,e.2.symm⟩
theorem A1.has{es:Array MapEntry}(hp:(es.toList.map fun e=>(e.key,e.val)).Perm (L.map (Fg q))){i:Nat}(hi:i∈L):∃x∈es.toList,x.key=vj (i:Int)/\x.val=pj (q i):=by
 have h1:Fg q i∈L.map (Fg q):=List.mem_map.2 ⟨i,hi,rfl⟩;obtain⟨x,hx,e⟩:=List.mem_map.1 (hp.mem_iff.2 h1);simp only[Fg,Prod.mk.injEq]at e;exact⟨x,hx,e.1,e.2⟩
theorem GT(a:Int):IsKey (.int .i64) (vj a):=by simp[IsKey]
theorem A1.find(hk:P.underlying k=some (.int .i64)){es:Array MapEntry}(hp:(es.toList.map fun e=>(e.key,e.val)).Perm (L.map (Fg q)))(id:Int):
  ((Instr.findKey k (vj id) es.toList).run P w=.ok none w/\(∀x∈es.toList,x.key≠vj id)/\∀i∈L,(i:Int)≠id)\/
  ∃j x i,(Instr.findKey k (vj id) es.toList).run P w=.ok (some (j,pj (q i))) w/\es.toList[j]?=some x/\i∈L/\id=i/\x.key=vj id/\x.val=pj (q i):=by
 have hks:∀x∈es.toList,IsKey (.int .i64) x.key:=fun x hx=>by
  obtain⟨i,_,e,_⟩:=A1.keys hp x hx;rw[e];exact GT _
 rcases MapKept.findNow_spec (GT id) es.toList 0 hks with⟨h1,h2⟩|⟨j,e0,h1,h2,h3⟩
 ·refine .inl ⟨MapKept.run_findKey hk h1,h2,fun i hi e=>?_⟩;obtain⟨x,hx,e1,_⟩:=A1.has hp hi;exact h2 x hx (by rw[e1,e])
 ·obtain⟨i,hi,e1,e2⟩:=A1.keys hp e0 (cH h2);rw[h3]at e1;injection e1 with _ e1;refine .inr ⟨j,e0,i,?_,h2,hi,e1,h3,e2⟩;rw[<-e2];simpa using MapKept.run_findKey (P:=P) (w:=w) hk h1
theorem A1.lookup(h:A1 w b L q)(ht:P.underlying t=some (.map k e))(hk:P.underlying k=some (.int .i64))(hz:(zeroValue e).run P w=.ok (.pointer none) w)(id:Int):
  ∃v,(Instr.lookup t (.map (some b)) (vj id) false).run P w=.ok (.pointer v) w/\((v=none/\∀i∈L,(i:Int)≠id)\/∃i∈L,id=i/\v=some (jA (q i) 0)):=by
 obtain⟨es,cl,hb,hs,hp⟩:=h;rcases A1.find (w:=w) hk hp id with⟨h1,_,h2⟩|⟨j,x,i,h1,_,hi,e,_,_⟩
 ·refine⟨none,?_,.inl ⟨rfl,h2⟩⟩;simp[Instr.lookup,run_underlying ht,MapKept.run_getObj_map hb,MapKept.run_checkKey hk (GT id),h1,hz,Result.andThen]
 ·refine⟨some (jA (q i) 0),?_,.inr ⟨i,hi,e,rfl⟩⟩;simp[Instr.lookup,run_underlying ht,MapKept.run_getObj_map hb,MapKept.run_checkKey hk (GT id),h1,Result.andThen]
theorem A1.store(h:A1 w b L q)(ht:P.underlying t=some (.map k e))(hk:P.underlying k=some (.int .i64))(hn:n∉L)(g:Nat)(hg:q n=g):
  ∃w',(Instr.mapUpdate t (.map (some b)) (vj (n:Int)) (pj g)).run P w=.ok () w'/\A1 w' b (L++[n]) q/\w.grownBy w' (some b)/\w'.heap.size=w.heap.size:=by
 obtain⟨es,cl,hb,hs,hp⟩:=h;rcases A1.find (w:=w) hk hp (n:Int)with⟨h1,h2,h3⟩|⟨j,x,i,h1,_,hi,e,_,_⟩
 ·refine⟨setBlock w b (.map (es.push ⟨vj (n:Int),pj g,cl⟩) (cl+1)),?_,⟨_,_,ChangeMaps.heap_setBlock_same hb _,MapKept.stamped_push hs h2,?_⟩,⟨rfl,rfl,rfl,by simp[setBlock],fun i _ hi=>ChangeMaps.heap_setBlock_other hb _ (fun e=>hi (by rw[e]))⟩,by simp[setBlock]⟩
  ·simp[Instr.mapUpdate,run_underlying ht,MapKept.run_getObj_map hb,MapKept.run_checkKey hk (GT _),h1,MapKept.run_setObj_map _ hb,Result.andThen,setBlock]
  ·rw[Array.toList_push,cL,cL];subst hg;exact hp.append (List.Perm.refl _)
 ·have:n=i:=by omega
  subst this;exact absurd hi hn
theorem A1.delete(h:A1 w b L q)(ht:P.underlying t=some (.map k e))(hk:P.underlying k=some (.int .i64))(hn:n∈L):
  ∃w',(Builtin.delete_ #[t,k] ty #[.map (some b),vj (n:Int)]).run P w=.ok (.tuple #[]) w'/\A1 w' b (L.erase n) q/\w.grownBy w' (some b)/\w'.heap.size=w.heap.size:=by
 obtain⟨es,cl,hb,hs,hp⟩:=h;rcases A1.find (w:=w) hk hp (n:Int)with⟨h1,h2,h3⟩|⟨j,x,i,h1,hj,hi,e,hx1,hx2⟩
 ·exact absurd rfl (h3 n hn)
 ·have:n=i:=by omega
  subst this;have hjl:j<es.toList.length:=(bL.1 hj).1;refine⟨setBlock w b (.map (es.eraseIdxIfInBounds j) cl),?_,⟨_,_,ChangeMaps.heap_setBlock_same hb _,MapKept.stamped_erase hs j,?_⟩,⟨rfl,rfl,rfl,by simp[setBlock],fun i _ hi=>ChangeMaps.heap_setBlock_other hb _ (fun e=>hi (by rw[e]))⟩,by simp[setBlock]⟩
  ·simp[Builtin.delete_,run_underlying ht,MapKept.run_getObj_map hb,MapKept.run_checkKey hk (GT _),h1,MapKept.run_setObj_map _ hb,Result.andThen,setBlock]
  ·have e1:(es.eraseIdxIfInBounds j).toList=es.toList.eraseIdx j:=by
    unfold Array.eraseIdxIfInBounds;rw[dif_pos (by simpa using hjl),Array.toList_eraseIdx]
   rw[e1];have hq:(x.key,x.val)=(vj (n:Int),pj (q n)):=by rw[hx1,hx2]
   have p1:es.toList.Perm (x::es.toList.eraseIdx j):=by
    have e2:x=es.toList[j]:=(bL.1 hj).2.symm;rw[e2,List.eraseIdx_eq_take_drop_succ]
    conv=>lhs;rw[<-List.take_append_drop j es.toList,List.drop_eq_getElem_cons hjl]
    exact List.perm_middle
   have p2:=(p1.map fun e=>(e.key,e.val)).symm.trans hp;have p3:=(List.perm_cons_erase hn).map (Fg q);have p4:=p2.trans p3;rw[List.map_cons,List.map_cons]at p4;have hq2:(x.key,x.val)=Fg q n:=hq;rw[hq2]at p4;exact p4.cons_inv
theorem A1.len(h:A1 w b L q)(ht:P.underlying t=some (.map k e)):(Builtin.len_ #[t] ty #[.map (some b)]).run P w=.ok (goInt L.length) w:=by
 obtain⟨es,cl,hb,hs,hp⟩:=h;have e:es.size=L.length:=by
  have:=hp.length_eq;simpa using this
 simp[Builtin.len_,run_underlying ht,MapKept.run_getObj_map hb,Result.andThen,e]
end
end Go.Proofs.YtofinpocigbbeaaGreat
