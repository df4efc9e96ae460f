import Derived.Test.YtofinpocigbbeaaGreatKam
import Derived.LaidEqlPtr
import Derived.Lib.Builder
set_option maxHeartbeats 1000000
set_option maxRecDepth 100000
set_option linter.unusedSimpArgs false
namespace Go.Proofs.YtofinpocigbbeaaGreat
open Go.Proofs.Tryz Go.RowKit
attribute [local go_sem ↓] Go.wp_at_zero Go.wp_at_succ
variable{G:Int->Nat->Value}{S:Nat->Prop}{blk:Int->Nat}{bv:Value}{mp sc x:Nat}{st:St}{w:World}
theorem PC:∃j,prog.info? 174=some j/\j.size=31:=by
 have h:(prog.info? 174).map (·.size)=some 31:=by kernel_rfl
 cases hq:prog.info? 174 with
 |none=>rw[hq]at h;cases h
 |some j=>rw[hq]at h;simp at h;exact⟨j,rfl,h⟩
theorem PD(a:Nat)(w:World):(binOp .eql 117 (pj a) (pj a)).run prog w=.ok (.bool true) w/\(binOp .neq 117 (pj a) (pj a)).run prog w=.ok (.bool false) w:=by
 obtain⟨j,hj,_⟩:=PC;exact⟨run_eql_ptr_same w _ underlying117 hj,Lib.run_neq_ptr_same w _ underlying117 hj⟩
theorem Jr{a b:Nat}(hab:a≠b)(w:World){ca cb:Array Value}{ta tb:TypeId}(ha:w.heap[a]?=some (.cells ca ta (0,0)))(hb:w.heap[b]?=some (.cells cb tb (0,0))):(binOp .eql 117 (pj a) (pj b)).run prog w=.ok (.bool false) w/\(binOp .neq 117 (pj a) (pj b)).run prog w=.ok (.bool true) w:=by
 obtain⟨j,hj,hs⟩:=PC;have hne:((jA a 0):Addr)≠(jA b 0):=fun e=>hab (by injection e);have hsz:j.size≠0:=by omega
 refine⟨run_eql_ptr_other w underlying117 hj hsz hne ha hb,?_⟩;have h:∀d:Nat,(Op.equalIn (d+1) 117 (pj a) (pj b)).run prog w=.ok false w:=fun d=>by
  simp[Op.equalIn,run_underlying (P:=prog) underlying117,sizeOf,typeInfo,hj,hsz,run_sameAddr_other w hne ha hb]
 simp only[binOp];simp[Op.equal,Op.maxDepth,h 9999]
theorem Rn(a b pa pb:Nat)(w:World)(ha:w.cell? (jA a 1)=some (pj pa))(hb:w.cell? (jA b 1)=some (pj pb))(fa:∃F,B4 w a F)(fb:∃F,B4 w b F)(ga:∃F,B4 w pa F)(gb:∃F,B4 w pb F):
  Calls prog 74 #[pj a,pj b] w fun e w'=>e=.returned (.bool (decide (a≠b/\pa=pb)))/\∃n,w'=w.drewN n:=by
 obtain⟨F1,c1,k1,_⟩:=fa;obtain⟨F2,c2,k2,_⟩:=fb;obtain⟨F3,c3,k3,_⟩:=ga;obtain⟨F4,c4,k4,_⟩:=gb;by_cases e:a=b
 ·have hd:decide (a≠b/\pa=pb)=false:=cE fun h=>h.1 e;rw[hd];clear hd;subst e;have hn:=fun n=>(PD a (w.drewN n)).2;clear k1 k2 k3 k4;go_enter func74,ntmps74
  go_wp2_with fail
  go_quiet (fail)
  go_wp2_with fail
  go_ret;exact⟨rfl,_,rfl⟩
 ·by_cases e2:pa=pb
  ·have hd:decide (a≠b/\pa=pb)=true:=bQ ⟨e,e2⟩;rw[hd];clear hd;subst e2;have hn:=fun n=>(Jr e (w.drewN n) k1 k2).2;have hp:=fun n=>(PD pa (w.drewN n)).1;clear k1 k2 k3 k4;go_enter func74,ntmps74
   go_wp2_with fail
   go_quiet (fail)
   go_wp2_with fail
   go_ret;exact⟨rfl,_,rfl⟩
  ·have hd:decide (a≠b/\pa=pb)=false:=cE fun h=>e2 h.2;rw[hd];clear hd;have hn:=fun n=>(Jr e (w.drewN n) k1 k2).2;have hp:=fun n=>(Jr e2 (w.drewN n) k3 k4).1;clear k1 k2 k3 k4;go_enter func74,ntmps74
   go_wp2_with fail
   go_quiet (fail)
   go_wp2_with fail
   go_ret;exact⟨rfl,_,rfl⟩
def FD(st:St)(blk:Int->Nat)(id:Int):Value:=if st.isB id=true then pj (blk id)else .pointer none
theorem L3(hw:Wf st)(h:AR w S x st bv sc mp blk G)(id:Int):
  Calls prog 58 #[pj sc,vj id] w fun e w'=>e=.returned (FD st blk id)/\w'=w:=by
 unfold FD;cases ht:st.isB id with
 |false=>
  rw[if_neg (by simp)];exact Cc h id (Gg hw ht)
 |true=>
  rw[if_pos rfl];obtain⟨i,rfl,hi⟩:=(AV hw id).1 ht;exact Cd h i hi
theorem AR.drewN(h:AR w S x st bv sc mp blk G)(n:Nat):AR (w.drewN n) S x st bv sc mp blk G:=h.below (cS (aN _ _) n)
theorem PE(hw:Wf st)(id sb:Int)(ab:Bool)(w:World)(h:AX w S x st bv):
  Calls prog 38 #[pj x,vj id,vj sb,.bool ab] w (Bl S x bv (Cw st id sb ab) w):=by
 have HE6:=Aa (fun n=>Bl.same (er:=6) h (cS (aN w.heap.size w) n));have HE8:=Aa (fun n=>Bl.same (er:=8) h (cS (aN w.heap.size w) n));obtain⟨sc,mp,blk,G,h⟩:=h;obtain⟨x0,x1,xl⟩:=h.scrCells;have HS:=Aa (fun(k:Int) (n:Nat)=>L3 hw (h.drewN n) k);have hB1:=AV hw id;have hB2:=AV hw sb;unfold Cw;cases ht1:st.isB id with
 |false=>
  have v1:FD st blk id=.pointer none:=by unfold FD;rw[ht1];rfl
  rw[if_neg (by simp)];clear hB1 hB2 h;go_enter func38,ntmps38
  go_wp2_with fail
  go_quiet ((go_at_call 58;exact Calls.quiet_of_same (HS.out _ _)))
  go_wp2_with fail
  try go_ret
  exact HE6.out _
 |true=>
  obtain⟨i,rfl,hio⟩:=hB1.1 ht1;cases ht2:st.isB sb with
  |false=>
   have v1:FD st blk i=pj (blk i):=by unfold FD;rw[ht1];rfl
   have v2:FD st blk sb=.pointer none:=by unfold FD;rw[ht2];rfl
   rw[if_neg (by simp)];clear hB1 hB2 h;go_enter func38,ntmps38
   go_wp2_with fail
   go_quiet ((go_at_call 58;exact Calls.quiet_of_same (HS.out _ _)))
   go_wp2_with fail
   try go_ret
   exact HE6.out _
  |true=>
   obtain⟨j,rfl,hjo⟩:=hB2.1 ht2;have v1:FD st blk i=pj (blk i):=by unfold FD;rw[ht1];rfl
   have v2:FD st blk j=pj (blk j):=by unfold FD;rw[ht2];rfl
   have hil:=hw.lt hio;rw[if_pos ⟨rfl,rfl⟩,aX,aX];have qi:=(h.cells i (Af hio)).nat;have qj:=(h.cells j (Af hjo)).nat;obtain⟨kc,kf,kl⟩:=h.at (Af hio);obtain⟨jc,jf,jl⟩:=h.at (Af hjo);have c23:=kc 25 (by omega);have c24:=kc 26 (by omega);have c25:=kc 27 (by omega);have f23:=kf 25;have f24:=kf 26;have f25:=kf 27;have j0:=jc 0 (by omega);rw[qj.num]at j0;have k1:=kc 1 (by omega);have j1:=jc 1 (by omega);rw[qi.par]at k1;rw[qj.par]at j1;have HN:=Aa (fun n=>Rn (blk i) (blk j) (blk (st.sf i).parent) (blk (st.sf j).parent) (w.drewN n) k1 j1 ⟨_,h.srf i (Af hio)⟩ ⟨_,h.srf j (Af hjo)⟩ ⟨_,h.srf _ (CR hw hio)⟩ ⟨_,h.srf _ (CR hw hjo)⟩);have hdec:(decide (blk i≠blk j/\blk (st.sf i).parent=blk (st.sf j).parent))=decide ((i:Int)≠(j:Int)/\(st.sf i).parent=(st.sf j).parent):=by
    congr 1
    apply propext;refine and_congr (not_congr ⟨fun e=>h.inj i j (Af hio) (Af hjo) e,fun e=>by rw[e]⟩) ⟨fun e=>h.inj _ _ (CR hw hio) (CR hw hjo) e,fun e=>by rw[e]⟩
   rw[hdec]at HN;have HOk:Hid (∀n,Bl S x bv (0,upd st i (GU j ab)) w (.returned (vj 0)) ((((w.drewN n).setCell (jA (blk i) 25) (.bool true)).setCell (jA (blk i) 26) (vj (j:Int))).setCell (jA (blk i) 27) (.bool ab))):=fun n=>by
    have hW:=cS (aN w.heap.size w) n;have h:=h.below hW;have hs:B4 (w.drewN n) (blk i) (G i):=h.srf i (Af hio);have ho:=h.own.2.2.2 i (Af hio);refine Bl.after hW ⟨rfl,AX.mono ⟨sc,mp,blk,_,h.upd (gf:=GU j ab) hio hil (fun _=>rfl) (fun g hg hne=>?_) (((hs.set 25 _).set 26 _).set 27 _) rfl (Dk.upd hil ⟨qi.num,qi.par,⟨qi.now.w,qi.now.h,qi.now.pix,qi.now.x,qi.now.y,qi.now.c0,qi.now.c1,qi.now.c2,qi.now.c3,qi.now.cut,qi.now.hint⟩,⟨qi.next.w,qi.next.h,qi.next.pix,qi.next.x,qi.next.y,qi.next.c0,qi.next.c1,qi.next.c2,qi.next.c3,qi.next.cut,qi.next.hint⟩,⟨_,_,_,rfl,rfl,rfl,rfl,fun _=>⟨rfl,rfl⟩⟩,qi.kep⟩) ⟨(h.data i hio).pix,(h.data i hio).hint,(h.data i hio).npix,(h.data i hio).nhint,(h.data i hio).kw,(h.data i hio).kh,(h.data i hio).kept⟩⟩ (fun _ h=>AI h),(((Ac.refl S (w.drewN n)).set (.inl ho) _).set (.inl ho) _).set (.inl ho) _⟩;rw[setOther 27 _ g (by simpa using hg) hne,setOther 26 _ g (by simpa using hg) hne,setOther 25 _ g hg hne]
   obtain⟨g,hg⟩:∃g,blk i=g:=⟨_,rfl⟩;obtain⟨g2,hg2⟩:∃g2,blk j=g2:=⟨_,rfl⟩;rw[hg]at c23 c24 c25 f23 f24 f25 HOk HN v1;rw[hg2]at j0 HN v2;clear hB1 hB2 h kc kf kl jc jf jl qi qj k1 j1 hdec HE6;by_cases hc:(i:Int)≠(j:Int)/\(st.sf i).parent=(st.sf j).parent
   ·rw[bQ hc]at HN;rw[if_pos hc];clear hc HE8;go_enter func38,ntmps38
    go_wp2_with fail
    go_quiet ((go_at_call 58;exact Calls.quiet_of_same (HS.out _ _)))
    go_wp2_with(first
     |(go_at_call 74;refine(HN.out _).mono ?_;rintro e w' ⟨rfl,zz,rfl⟩)
     |go_in)
    try go_ret
    exact HOk.out _
   ·rw[cE hc]at HN;rw[if_neg hc];clear hc HOk;go_enter func38,ntmps38
    go_wp2_with fail
    go_quiet ((go_at_call 58;exact Calls.quiet_of_same (HS.out _ _)))
    go_wp2_with(first
     |(go_at_call 74;refine(HN.out _).mono ?_;rintro e w' ⟨rfl,zz,rfl⟩)
     |go_in)
    try go_ret
    exact HE8.out _
variable{nb:Nat}{p:Int}
def II(n:Int)(pb:Nat):Array Value:=#[vj n,pj pb,jj,vj 0,vj 0,jj,vj 0,vj 0,vj 0,vj 0,vj 0,vj 0,.bool false,jj,vj 0,vj 0,jj,vj 0,vj 0,vj 0,vj 0,vj 0,vj 0,.bool false,jj,.bool false,vj 0,.bool false,vj 0,vj 0,jj]
def upB(blk:Int->Nat)(n:Nat)(nb:Nat):Int->Nat:=fun p=>if p=(n:Int)then nb else blk p
theorem SF{n:Nat}(h:p≠n):upB blk n nb p=blk p:=by unfold upB;rw[if_neg h]
theorem GY(blk:Int->Nat)(n nb:Nat):upB blk n nb (n:Int)=nb:=by unfold upB;rw[if_pos rfl]
theorem NL(hw:Wf st)(h:BN st p):p≠st.sfs.length:=by
 rcases h with rfl|⟨i,rfl,hi⟩
 ·omega
 ·have:=hw.lt hi;omega
theorem EL{q:Int}:BN (mk st p) q↔BN st q\/q=st.sfs.length:=by
 unfold BN;show(q= -1\/∃i:Nat,q=i/\i∈st.order++[st.sfs.length])↔_;constructor
 ·rintro(h|⟨i,rfl,hi⟩)
  ·exact .inl (.inl h)
  ·rw[bV,List.mem_singleton]at hi;rcases hi with hi|rfl
   ·exact .inl (.inr ⟨i,rfl,hi⟩)
   ·exact .inr rfl
 ·rintro((h|⟨i,rfl,hi⟩)|rfl)
  ·exact .inl h
  ·exact .inr ⟨i,rfl,List.mem_append_left _ hi⟩
  ·exact .inr ⟨_,rfl,by simp⟩
theorem AR.more{w w':World}{S S':Nat->Prop}{x:Nat}(hw:Wf st){bv:Value}{sc mp:Nat}{G:Int->Nat->Value}(h:AR w S x st bv sc mp blk G)(hp:BN st p)(hS:∀g,S g->S' g)(hnb:w.heap.size<=nb)(hnS:S' nb){v:Value}
  (hsce:w'.heap[sc]?=some (.cells #[BE (blk (-1)),.map (some mp),vj ((st.sfs.length:Int)+1)] 152 (0,0)))
  (hmap:A1 w' mp (st.order++[st.sfs.length]) fun(i:Nat)=>upB blk st.sfs.length nb i)
  (hnew:w'.heap[nb]?=some (.cells (II st.sfs.length (blk p)) 174 (0,0)))
  (hpar:B4 w' (blk p) (upO (G p) 2 v))
  (hrow:A4 w' S' 117 1 v ((st.kids p).length+1) (((st.kids p).map fun(i:Nat)=>BE (blk i))++[BE nb]))
  (hvb:v.ownBlock=(G p 2).ownBlock\/∃g,v.ownBlock=some g/\w.heap.size<=g)
  (hoth:∀g,g<w.heap.size->g≠sc->g≠mp->g≠blk p->some g≠(G p 2).ownBlock->w'.heap[g]?=w.heap[g]?):
  AR w' S' x (Go.Proofs.YtofinpocigbbeaaGreat.mk st p) bv sc mp (upB blk st.sfs.length nb) (upG (upG G p (upO (G p) 2 v)) (st.sfs.length:Int) fun o=>(II st.sfs.length (blk p)).getD o undef):=by
 have hlt:∀ {g:Nat} {o:Obj},w.heap[g]?=some o->g<w.heap.size:=fun{g o} hg=>(aM.1 hg).1;obtain⟨pc,hpc,hpcs⟩:=h.srf p hp;have rowT:∀g,some g=(G p 2).ownBlock->∃cur,w.heap[g]?=some (.cells cur 117 (0,0)):=fun g hg=>(h.on p hp).type hg.symm;have blt:∀q,BN st q->blk q<w.heap.size:=fun q hq=>by
  obtain⟨c,hc,_⟩:=h.srf q hq;exact hlt hc
 have oldb:∀q,BN st q->upB blk st.sfs.length nb q=blk q:=fun q hq=>SF (NL hw hq);have hnp:(st.sfs.length:Int)≠p:=fun e=>NL hw hp e.symm;have G2:∀q,BN st q->upG (upG G p (upO (G p) 2 v)) (st.sfs.length:Int) (fun o=>(II st.sfs.length (blk p)).getD o undef) q=if q=p then upO (G p) 2 v else G q:=fun q hq=>by
  unfold upG;rw[if_neg (NL hw hq)]
 have Gn:upG (upG G p (upO (G p) 2 v)) (st.sfs.length:Int) (fun o=>(II st.sfs.length (blk p)).getD o undef) (st.sfs.length:Int)=fun o=>(II st.sfs.length (blk p)).getD o undef:=by
  unfold upG;rw[if_pos rfl]
 have kmap:∀q,((st.kids q).map fun(i:Nat)=>BE (upB blk st.sfs.length nb i))=(st.kids q).map fun(i:Nat)=>BE (blk i):=fun q=>List.map_congr_left fun i hi=>by rw[oldb i (Gd hi)]
 have hold:∀q,BN st q->upG (upG G p (upO (G p) 2 v)) (st.sfs.length:Int) (fun o=>(II st.sfs.length (blk p)).getD o undef) q 2=if q=p then v else G q 2:=fun q hq=>by
  rw[G2 q hq];by_cases e:q=p
  ·rw[if_pos e,if_pos e];rfl
  ·rw[if_neg e,if_neg e]
 have new2:upG (upG G p (upO (G p) 2 v)) (st.sfs.length:Int) (fun o=>(II st.sfs.length (blk p)).getD o undef) (st.sfs.length:Int) 2=jj:=by rw[Gn];rfl
 refine⟨?_,?_,hmap,fun q hq=>?_,⟨hS _ h.own.1,hS _ h.own.2.1,hS _ h.own.2.2.1,fun q hq=>?_⟩,fun q q' hq hq' e=>?_,fun q hq=>?_,fun q q' hq hq' hne g hg=>?_,fun q hq=>?_,fun j hj=>?_⟩
 ·refine(hoth x (hlt h.scr) (neT h.scr h.sce (by decide)) (h.map.ne h.scr) (neT h.scr hpc (by decide)) fun e=>?_).trans h.scr;obtain⟨c,hc⟩:=rowT x e;exact neT h.scr hc (by decide) rfl
 ·rw[Ga,oldb (-1) (CC st)];exact hsce
 ·rcases EL.1 hq with hq|rfl
  ·rw[oldb q hq,G2 q hq];by_cases e:q=p
   ·subst e;rw[if_pos rfl];exact hpar
   ·rw[if_neg e];obtain⟨c,hc,hc2⟩:=h.srf q hq;refine⟨c,(hoth _ (hlt hc) (neT hc h.sce (by decide)) (h.map.ne hc) (fun e2=>e (h.inj q p hq hp e2)) fun e2=>?_).trans hc,hc2⟩;obtain⟨c2,hc2⟩:=rowT _ e2;exact neT hc hc2 (by decide) rfl
  ·rw[GY,Gn];refine⟨_,hnew,rfl,fun o ho=>?_⟩;show _=some ((II st.sfs.length (blk p)).getD o undef);rw[Array.getD_eq_getD_getElem?,Array.getElem?_eq_getElem (show o<(II st.sfs.length (blk p)).size from ho)];rfl
 ·rcases EL.1 hq with hq|rfl
  ·rw[oldb q hq];exact hS _ (h.own.2.2.2 q hq)
  ·rw[GY];exact hnS
 ·rcases EL.1 hq with hq|rfl<;>rcases EL.1 hq' with hq'|rfl
  ·rw[oldb q hq,oldb q' hq']at e;exact h.inj q q' hq hq' e
  ·rw[oldb q hq,GY]at e;have:=blt q hq;omega
  ·rw[oldb q' hq',GY]at e;have:=blt q' hq';omega
  ·rfl
 ·rw[SA hw];rcases EL.1 hq with hq|rfl
  ·rw[hold q hq];by_cases e:q=p
   ·subst e;rw[if_pos rfl,if_pos rfl,aY,cL,kmap];show A4 _ _ _ _ _ _ (_++[BE (upB blk st.sfs.length nb _)]);rw[GY];exact hrow
   ·rw[if_neg e,if_neg e,List.append_nil,kmap];have hr:=h.on q hq;refine A4.mono ?_ hS;refine⟨Ai hr.1 fun g hg=>?_,hr.2⟩;obtain⟨c,hc⟩:=hr.type hg;exact hoth g (hlt hc) (neT hc h.sce (by decide)) (h.map.ne hc) (neT hc hpc (by decide)) fun e2=>h.apart q p hq hp e g hg e2.symm
  ·rw[new2];have hk:st.kids (st.sfs.length:Int)=[]:=by
    refine List.eq_nil_iff_forall_not_mem.2 fun i hi=>?_;obtain⟨h1,h2⟩:=AN.1 hi;have h3:=hw.lt h1;have h4:=hw.par i;omega
   rw[hk,if_neg hnp];exact A4.nil _ _ _ _
 ·rcases EL.1 hq with l1|rfl<;>rcases EL.1 hq' with l2|rfl
  ·rw[hold q l1]at hg;rw[hold q' l2];by_cases e:q=p
   ·subst e;rw[if_pos rfl]at hg;rw[if_neg (fun e2=>hne e2.symm)];rcases hvb with hvb|⟨g2,hv1,hv2⟩
    ·rw[hvb]at hg;exact h.apart q q' l1 l2 hne g hg
    ·rw[hv1]at hg;injection hg with hg;subst hg;intro e3;obtain⟨c,hc⟩:=(h.on q' l2).type e3;have:=hlt hc;omega
   ·rw[if_neg e]at hg;by_cases e':q'=p
    ·subst e';rw[if_pos rfl];rcases hvb with hvb|⟨g2,hv1,hv2⟩
     ·rw[hvb];exact h.apart q q' l1 l2 hne g hg
     ·rw[hv1];intro e3;injection e3 with e3;subst e3;obtain⟨c,hc⟩:=(h.on q l1).type hg;have:=hlt hc;omega
    ·rw[if_neg e'];exact h.apart q q' l1 l2 hne g hg
  ·rw[new2];exact fun e=>by cases e
  ·rw[new2]at hg;cases hg
  ·exact absurd rfl hne
 ·rcases EL.1 hq with hq|rfl
  ·rw[G2 q hq];have hc:=h.cells q hq;have hc2:Dv (upB blk st.sfs.length nb) st q (G q):=by
    refine⟨hc.num,?_,hc.now,hc.next,hc.stk,hc.kep⟩;rw[hc.par];rcases hq with rfl|⟨i,rfl,hi⟩
    ·rfl
    ·rw[if_neg (CS i),if_neg (CS i),aX,oldb _ (CR hw hi)]
   have hc3:Dv (upB blk st.sfs.length nb) (Go.Proofs.YtofinpocigbbeaaGreat.mk st p) q (G q):=by
    refine hc2.other rfl rfl fun hq1=>?_;rw[Dt,if_neg];rcases hq with rfl|⟨i,rfl,hi⟩
    ·exact absurd rfl hq1
    ·rw[aX];have:=hw.lt hi;omega
   by_cases e:q=p
   ·rw[if_pos e];subst e;exact⟨hc3.num,hc3.par,⟨hc3.now.w,hc3.now.h,hc3.now.pix,hc3.now.x,hc3.now.y,hc3.now.c0,hc3.now.c1,hc3.now.c2,hc3.now.c3,hc3.now.cut,hc3.now.hint⟩,(by obtain⟨l,h1,h2⟩:=hc3.next;exact⟨l,⟨h1.w,h1.h,h1.pix,h1.x,h1.y,h1.c0,h1.c1,h1.c2,h1.c3,h1.cut,h1.hint⟩,h2⟩),hc3.stk,hc3.kep⟩
   ·rw[if_neg e];exact hc3
  ·rw[Gn];refine Dk.toP ?_;rw[Dt,if_pos rfl];refine⟨rfl,?_,⟨rfl,rfl,⟨_,_,_,rfl⟩,rfl,rfl,rfl,rfl,rfl,rfl,rfl,⟨_,_,_,rfl⟩⟩,⟨rfl,rfl,⟨_,_,_,rfl⟩,rfl,rfl,rfl,rfl,rfl,rfl,rfl,⟨_,_,_,rfl⟩⟩,⟨_,_,_,rfl,rfl,rfl,rfl,fun e=>by cases e⟩,⟨_,_,_,_,_,rfl,rfl,rfl⟩⟩;show _=BE (upB blk st.sfs.length nb p);rw[oldb p hp];rfl
 ·have hkd:Bq w w':=fun g cur t ht e=>hoth g (hlt e) (neT e h.sce (ht.ne (by unfold Dw;decide))) (h.map.ne e) (neT e hpc (ht.ne (by unfold Dw;decide))) fun e2=>by
   obtain⟨c,hc⟩:=rowT g e2;exact neT e hc (ht.ne (by unfold Dw;decide)) rfl
  have hj2:j∈st.order++[st.sfs.length]:=hj;rw[bV,List.mem_singleton]at hj2;rcases hj2 with hj2|rfl
  ·have e1:(Go.Proofs.YtofinpocigbbeaaGreat.mk st p).sf j=st.sf j:=by
    rw[Dt,if_neg (by have:=hw.lt hj2;omega)]
   rw[G2 j (Af hj2),e1];have hd:=((h.data j hj2).kd hkd).mono hS;by_cases e:(j:Int)=p
   ·rw[if_pos e];subst e;exact⟨hd.pix,hd.hint,hd.npix,hd.nhint,hd.kw,hd.kh,hd.kept⟩
   ·rw[if_neg e];exact hd
  ·rw[Gn,Dt,if_pos rfl];exact⟨Jo.nil _ _ rfl _,Ew.nil _ _,Jo.nil _ _ rfl _,Ew.nil _ _,rfl,rfl,Gc.nil _ _ rfl _⟩
theorem NM(hw:Wf st)(h:AR w S x st bv sc mp blk G)(id:Int):
  Calls prog 55 #[pj sc,vj id] w fun e w'=>e=.returned (if id= -1 then pj (blk (-1))else FD st blk id)/\w'=w:=by
 obtain⟨k0,k1,k2,k3,k4⟩:=h.sceCells;by_cases hid:id= -1
 ·subst hid;rw[if_pos rfl];clear h;unfold BE at k0;go_enter func55,ntmps55
  go_wp2_with fail
  go_ret;exact⟨rfl,rfl⟩
 ·rw[if_neg hid];obtain⟨v,hl,hv⟩:=h.map.lookup underlying150 underlying3 (IG w) id;have hsv:FD st blk id=.pointer v:=by
   unfold FD;rcases hv with⟨rfl,hv⟩|⟨i,hi,rfl,rfl⟩
   ·rw[if_neg];intro e;obtain⟨i,e1,e2⟩:=(AV hw id).1 e;exact hv i e2 e1.symm
   ·rw[if_pos ((AV hw _).2 ⟨i,rfl,hi⟩)]
  rw[hsv];clear h hv hsv;go_enter func55,ntmps55
  go_wp2_with fail
  go_ret;exact⟨rfl,rfl⟩
theorem Ro(hw:Wf st)(h:AR w S x st bv sc mp blk G):
  Calls prog 56 #[pj sc] w fun e w'=>e=.returned (.bool (!decide (st.order.length<12/\st.sfs.length<60)))/\w'=w:=by
 obtain⟨k0,k1,k2,k3,k4⟩:=h.sceCells;have hl:=h.map.len (P:=prog) (ty:=3) underlying150;have hlen:=hw.len;have hmade:=hw.made;obtain⟨n,hn⟩:∃n,st.order.length=n:=⟨_,rfl⟩;obtain⟨m,hm⟩:∃m,st.sfs.length=m:=⟨_,rfl⟩;rw[hn]at hl hlen ⊢;rw[hm]at k2 hmade ⊢;clear h hn hm;by_cases h1:n<12
 ·have h1':¬(12:Int)<=(n:Int):=by omega
  by_cases h2:m<60
  ·have h2':¬(60:Int)<=(m:Int):=by omega
   rw[bQ ⟨h1,h2⟩];go_enter func56,ntmps56
   go_wp2_with fail
   go_ret;exact⟨rfl,rfl⟩
  ·have h2':(60:Int)<=(m:Int):=by omega
   rw[cE fun h=>h2 h.2];go_enter func56,ntmps56
   go_wp2_with fail
   go_ret;exact⟨rfl,rfl⟩
 ·have h1':(12:Int)<=(n:Int):=by omega
  rw[cE fun h=>h1 h.1];go_enter func56,ntmps56
  go_wp2_with fail
  go_ret;exact⟨rfl,rfl⟩
end Go.Proofs.YtofinpocigbbeaaGreat
