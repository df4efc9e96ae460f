import Derived.Test.YtofinpocigbbeaaGreatKaq
set_option linter.unusedSimpArgs false
namespace Go.Proofs.YtofinpocigbbeaaGreat
open Go.RowKit
attribute [local go_sem ↓] Go.wp_at_zero Go.wp_at_succ
variable{i:Nat}{st:St}
theorem Dx:∀(l:List Nat) (k i:Nat),l.Nodup->l[k]?=some i->(l.filter fun j=>decide (j≠i))=l.eraseIdx k
 | [],k,i,_,h=>by simp at h
 |a::l,0,i,hn,h=>by
  simp at h;subst h;rw[List.nodup_cons]at hn;rw[ch,if_neg (by simp),List.eraseIdx_cons_zero,List.filter_eq_self];intro b hb;simp;rintro rfl;exact hn.1 hb
 |a::l,k+1,i,hn,h=>by
  rw[List.nodup_cons]at hn;have h2:l[k]?=some i:=by simpa using h
  have hi:i∈l:=cH h2;rw[ch,if_pos (by simp;rintro rfl;exact hn.1 hi),List.eraseIdx_cons_succ,Dx l k i hn.2 h2]
theorem CK{q:Int}(h:BN (rm st i) q):BN st q/\i∉st.chain q:=by
 rcases h with rfl|⟨j,rfl,hj⟩
 ·exact⟨CC st,by rw[A6 st (by omega)];simp⟩
 ·have hj2:j∈st.order.filter fun(o:Nat)=> !(st.chain o).contains i:=hj;rw[bY]at hj2;exact⟨Af hj2.1,by simpa using hj2.2⟩
theorem AR.less{w w':World}{S:Nat->Prop}{x:Nat}(hw:Wf st){bv:Value}{sc mp:Nat}{blk:Int->Nat}{G:Int->Nat->Value}(h:AR w S x st bv sc mp blk G)(hi:i∈st.order){p:Int}(hpe:(st.sf i).parent=p){k:Nat}(hk:(st.kids p)[k]?=some i){v:Value}
  (hmap:A1 w' mp (rm st i).order fun(j:Nat)=>blk j)
  (hpar:B4 w' (blk p) (upO (G p) 2 v))
  (hrow:A4 w' S 117 1 v ((st.kids p).length-1) (((st.kids p).eraseIdx k).map fun(j:Nat)=>BE (blk j)))
  (hvb:v.ownBlock=(G p 2).ownBlock)
  (hoth:∀g,g<w.heap.size->g≠mp->g≠blk p->some g≠(G p 2).ownBlock->w'.heap[g]?=w.heap[g]?):
  AR w' S x (rm st i) bv sc mp blk (upG G p (upO (G p) 2 v)):=by
 have hp:BN st p:=by rw[<-hpe];exact CR hw hi
 have hlt:∀ {g:Nat} {o:Obj},w.heap[g]?=some o->g<w.heap.size:=fun{g o} hg=>(aM.1 hg).1;obtain⟨pc,hpc,hpcs⟩:=h.srf p hp;have rowT:∀g,some g=(G p 2).ownBlock->∃cur,w.heap[g]?=some (.cells cur 117 (0,0)):=fun g hg=>(h.on p hp).type hg.symm;have hown:∀q,(upG G p (upO (G p) 2 v) q 2).ownBlock=(G q 2).ownBlock:=fun q=>by
  unfold upG;by_cases e:q=p
  ·subst e;rw[if_pos rfl];show v.ownBlock=_;exact hvb
  ·rw[if_neg e]
 refine⟨?_,?_,hmap,fun q hq=>?_,⟨h.own.1,h.own.2.1,h.own.2.2.1,fun q hq=>h.own.2.2.2 q (CK hq).1⟩,fun q q' hq hq' e=>h.inj q q' (CK hq).1 (CK hq').1 e,fun q hq=>?_,fun q q' hq hq' hne g hg=>?_,fun q hq=>?_,fun j hj=>?_⟩
 ·refine(hoth x (hlt h.scr) (h.map.ne h.scr) (neT h.scr hpc (by decide)) fun e=>?_).trans h.scr;obtain⟨c,hc⟩:=rowT x e;exact neT h.scr hc (by decide) rfl
 ·rw[H8];refine(hoth sc (hlt h.sce) (h.map.ne h.sce) (neT h.sce hpc (by decide)) fun e=>?_).trans h.sce;obtain⟨c,hc⟩:=rowT sc e;exact neT h.sce hc (by decide) rfl
 ·unfold upG;by_cases e:q=p
  ·subst e;rw[if_pos rfl];exact hpar
  ·rw[if_neg e];obtain⟨c,hc,hc2⟩:=h.srf q (CK hq).1;refine⟨c,(hoth _ (hlt hc) (h.map.ne hc) (fun e2=>e (h.inj q p (CK hq).1 hp e2)) fun e2=>?_).trans hc,hc2⟩;obtain⟨c2,hc2⟩:=rowT _ e2;exact neT hc hc2 (by decide) rfl
 ·rw[SB hw i q (CK hq).2];unfold upG;by_cases e:q=p
  ·subst e;rw[if_pos rfl,Dx (st.kids q) k i (hw.nd.filter _) hk,List.length_eraseIdx,if_pos (bL.1 hk).1];exact hrow
  ·rw[if_neg e];have hsame:((st.kids q).filter fun j=>decide (j≠i))=st.kids q:=by
    rw[List.filter_eq_self];intro j hj;simp;rintro rfl;exact e (by rw[<-(AN.1 hj).2,hpe])
   rw[hsame];have hr:=h.on q (CK hq).1;refine⟨Ai hr.1 fun g hg=>?_,hr.2⟩;obtain⟨c,hc⟩:=hr.type hg;exact hoth g (hlt hc) (h.map.ne hc) (neT hc hpc (by decide)) fun e2=>h.apart q p (CK hq).1 hp e g hg e2.symm
 ·rw[hown]at hg ⊢;exact h.apart q q' (CK hq).1 (CK hq').1 hne g hg
 ·have hc:=h.cells q (CK hq).1;have hc3:Dv blk (rm st i) q (G q):=by
   refine hc.other rfl rfl fun hq1=>?_;rw[Hf st hw,if_neg];intro hg;have h1:=(CK hq).2;rcases hq with rfl|⟨j,rfl,hj⟩
   ·exact hq1 rfl
   ·rw[aX]at hg;exact h1 (Ds.1 hg).2
  unfold upG;by_cases e:q=p
  ·rw[if_pos e];subst e;exact⟨hc3.num,hc3.par,⟨hc3.now.w,hc3.now.h,hc3.now.pix,hc3.now.x,hc3.now.y,hc3.now.c0,hc3.now.c1,hc3.now.c2,hc3.now.c3,hc3.now.cut,hc3.now.hint⟩,(by obtain⟨l,h1,h2⟩:=hc3.next;exact⟨l,⟨h1.w,h1.h,h1.pix,h1.x,h1.y,h1.c0,h1.c1,h1.c2,h1.c3,h1.cut,h1.hint⟩,h2⟩),hc3.stk,hc3.kep⟩
  ·rw[if_neg e];exact hc3
 ·have hkd:Bq w w':=fun g cur t ht e=>hoth g (hlt e) (h.map.ne e) (neT e hpc (ht.ne (by unfold Dw;decide))) fun e2=>by
   obtain⟨c,hc⟩:=rowT g e2;exact neT e hc (ht.ne (by unfold Dw;decide)) rfl
  have hlv:BN (rm st i) (j:Int):=Af hj;have hjo:j∈st.order:=by
   rcases(CK hlv).1 with e|⟨k,e,hk⟩
   ·omega
   ·have:j=k:=by omega
    subst this;exact hk
  have hd:=(h.data j hjo).kd hkd;rw[Hf st hw,if_neg (fun hg=>(CK hlv).2 (Ds.1 hg).2)];unfold upG;by_cases e:(j:Int)=p
  ·rw[if_pos e];subst e;exact⟨hd.pix,hd.hint,hd.npix,hd.nhint,hd.kw,hd.kh,hd.kept⟩
  ·rw[if_neg e];exact hd
theorem Vi(hw:Wf st)(hi:i∈st.order):rmF st.order (i::st.dfs i)=(rm st i).order:=by
 unfold rmF;show _=st.order.filter _;refine List.filter_congr fun o ho=>?_;congr 1
 rw[Bool.eq_iff_iff];have:=(Jg hw i hi).mem_iff (a:=o);rw[Ds]at this;simp only[List.contains_iff_mem];rw[this];exact⟨fun h=>h.2,fun h=>⟨ho,h⟩⟩
end Go.Proofs.YtofinpocigbbeaaGreat
