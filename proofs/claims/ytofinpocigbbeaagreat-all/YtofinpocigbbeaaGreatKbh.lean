import Derived.Test.YtofinpocigbbeaaGreatKan
namespace Go.Proofs.YtofinpocigbbeaaGreat
open Go.RowKit
section
variable{w w':World}{S S':Nat->Prop}{x:Nat}{st:St}{bv:Value}{sc mp:Nat}{blk:Int->Nat}{G:Int->Nat->Value}
theorem AR.updS(h:AR w S x st bv sc mp blk G)(hS:∀g,S g->S' g){i:Nat}(hi:i∈st.order)(hil:i<st.sfs.length){gf:Sf->Sf}(hpar:∀s,(gf s).parent=s.parent)(hoth:∀g,g<w.heap.size->g≠blk i->w'.heap[g]?=w.heap[g]?){F:Nat->Value}(hs:B4 w' (blk i) F)(h2:F 2=G i 2)(hc:Dv blk (Go.Proofs.YtofinpocigbbeaaGreat.upd st i gf) i F)(hd:SfD w' S' F (gf (st.sf i))):AR w' S' x (Go.Proofs.YtofinpocigbbeaaGreat.upd st i gf) bv sc mp blk (upG G i F):=by
 have hA:=B7 (g:=gf) hil hpar;obtain⟨cur,hcur,hcs⟩:=h.srf i (Af hi);have hlt:∀ {g:Nat} {o:Obj},w.heap[g]?=some o->g<w.heap.size:=fun{g o} hg=>(aM.1 hg).1;have on2:∀p:Int,upG G i F p 2=G p 2:=fun p=>by
  unfold upG;by_cases e:p=i
  ·subst e;rw[if_pos rfl,h2]
  ·rw[if_neg e]
 refine⟨(hoth x (hlt h.scr) (neT h.scr hcur (by decide))).trans h.scr,?_,h.map.keep (hoth mp h.map.lt (fun e=>h.map.ne hcur e.symm)),fun p hp=>?_,⟨hS _ h.own.1,hS _ h.own.2.1,hS _ h.own.2.2.1,fun p hp=>hS _ (h.own.2.2.2 p hp)⟩,h.inj,fun p hp=>?_,fun p p' hp hp' hne g=>?_,fun p hp=>?_,fun j hj=>?_⟩
 ·rw[hA.len];exact(hoth sc (hlt h.sce) (neT h.sce hcur (by decide))).trans h.sce
 ·unfold upG;by_cases e:p=i
  ·subst e;rw[if_pos rfl];exact hs
  ·rw[if_neg e];have hb:blk p≠blk i:=fun e2=>e (h.inj p i hp (Af hi) e2);obtain⟨c2,k1,k2⟩:=h.srf p hp;exact⟨c2,(hoth _ (hlt k1) hb).trans k1,k2⟩
 ·rw[on2,hA.kids];exact((h.on p hp).mono hS).other fun g c hg=>hoth g (hlt hg) (neT hg hcur (by decide))
 ·rw[on2,on2];exact h.apart p p' hp hp' hne g
 ·unfold upG;by_cases e:p=i
  ·subst e;rw[if_pos rfl];exact hc
  ·rw[if_neg e];refine(h.cells p hp).other rfl rfl fun hp1=>?_;rw[Bf st i gf _ hil,if_neg];rcases hp with rfl|⟨j,rfl,_⟩
   ·exact absurd rfl hp1
   ·rw[aX];exact fun e2=>e (by rw[e2])
 ·have hkd:Bq w w':=fun g cur t ht e=>hoth g (hlt e) (neT e hcur (ht.ne (by unfold Dw;decide)));unfold upG;by_cases e:(j:Int)=i
  ·have e2:j=i:=by omega
   subst e2;rw[if_pos rfl,Bf st j gf _ hil,if_pos rfl];exact hd
  ·rw[if_neg e,Bf st i gf _ hil,if_neg (fun e2=>e (by rw[e2]))];exact((h.data j hj).kd hkd).mono hS
end
end Go.Proofs.YtofinpocigbbeaaGreat
