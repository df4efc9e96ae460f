import Derived.Test.YtofinpocigbbeaaGreatKaq
import Derived.LaidEqlPtr
import Derived.Lib.Builder
set_option maxHeartbeats 1000000
set_option maxRecDepth 100000
set_option linter.unusedSimpArgs false
namespace Go.Proofs.YtofinpocigbbeaaGreat
open Go.Proofs.Tryz Go.RowKit
attribute [local go_sem ↓] Go.wp_at_zero Go.wp_at_succ
variable{G:Int->Nat->Value}{S:Nat->Prop}{blk:Int->Nat}{bv:Value}{mp sc x:Nat}{st:St}{w:World}
theorem PC:∃j,prog.info? 174=some j/\j.size=31:=by
 have h:(prog.info? 174).map (·.size)=some 31:=by kernel_rfl
 cases hq:prog.info? 174 with
 |none=>rw[hq]at h;cases h
 |some j=>rw[hq]at h;simp at h;exact⟨j,rfl,h⟩
theorem PD(a:Nat)(w:World):(binOp .eql 117 (.pointer (some ⟨a,0,none⟩)) (.pointer (some ⟨a,0,none⟩))).run prog w=.ok (.bool true) w/\(binOp .neq 117 (.pointer (some ⟨a,0,none⟩)) (.pointer (some ⟨a,0,none⟩))).run prog w=.ok (.bool false) w:=by
 obtain⟨j,hj,_⟩:=PC;exact⟨run_eql_ptr_same w _ underlying117 hj,Lib.run_neq_ptr_same w _ underlying117 hj⟩
theorem Jr{a b:Nat}(hab:a≠b)(w:World){ca cb:Array Value}{ta tb:TypeId}(ha:w.heap[a]?=some (.cells ca ta (0,0)))(hb:w.heap[b]?=some (.cells cb tb (0,0))):(binOp .eql 117 (.pointer (some ⟨a,0,none⟩)) (.pointer (some ⟨b,0,none⟩))).run prog w=.ok (.bool false) w/\(binOp .neq 117 (.pointer (some ⟨a,0,none⟩)) (.pointer (some ⟨b,0,none⟩))).run prog w=.ok (.bool true) w:=by
 obtain⟨j,hj,hs⟩:=PC;have hne:(⟨a,0,none⟩:Addr)≠⟨b,0,none⟩:=fun e=>hab (by injection e);have hsz:j.size≠0:=by omega
 refine⟨run_eql_ptr_other w underlying117 hj hsz hne ha hb,?_⟩;have h:∀d:Nat,(Op.equalIn (d+1) 117 (.pointer (some ⟨a,0,none⟩)) (.pointer (some ⟨b,0,none⟩))).run prog w=.ok false w:=fun d=>by
  simp[Op.equalIn,run_underlying (P:=prog) underlying117,sizeOf,typeInfo,hj,hsz,run_sameAddr_other w hne ha hb]
 simp only[binOp];simp[Op.equal,Op.maxDepth,h 9999]
theorem Rn(a b pa pb:Nat)(w:World)(ha:w.cell? ⟨a,1,none⟩=some (.pointer (some ⟨pa,0,none⟩)))(hb:w.cell? ⟨b,1,none⟩=some (.pointer (some ⟨pb,0,none⟩)))(fa:∃F,B4 w a F)(fb:∃F,B4 w b F)(ga:∃F,B4 w pa F)(gb:∃F,B4 w pb F):
  Calls prog 74 #[.pointer (some ⟨a,0,none⟩),.pointer (some ⟨b,0,none⟩)] w fun e w'=>e=.returned (.bool (decide (a≠b/\pa=pb)))/\∃n,w'=w.drewN n:=by
 obtain⟨F1,c1,k1,_⟩:=fa;obtain⟨F2,c2,k2,_⟩:=fb;obtain⟨F3,c3,k3,_⟩:=ga;obtain⟨F4,c4,k4,_⟩:=gb;by_cases e:a=b
 ·have hd:decide (a≠b/\pa=pb)=false:=cE fun h=>h.1 e;rw[hd];clear hd;subst e;have hn:=fun n=>(PD a (w.drewN n)).2;clear k1 k2 k3 k4;go_enter func74,ntmps74
  go_wp2_with fail
  go_quiet (fail)
  go_wp2_with fail
  go_ret;exact⟨rfl,_,rfl⟩
 ·by_cases e2:pa=pb
  ·have hd:decide (a≠b/\pa=pb)=true:=bQ ⟨e,e2⟩;rw[hd];clear hd;subst e2;have hn:=fun n=>(Jr e (w.drewN n) k1 k2).2;have hp:=fun n=>(PD pa (w.drewN n)).1;clear k1 k2 k3 k4;go_enter func74,ntmps74
   go_wp2_with fail
   go_quiet (fail)
   go_wp2_with fail
   go_ret;exact⟨rfl,_,rfl⟩
  ·have hd:decide (a≠b/\pa=pb)=false:=cE fun h=>e2 h.2;rw[hd];clear hd;have hn:=fun n=>(Jr e (w.drewN n) k1 k2).2;have hp:=fun n=>(Jr e2 (w.drewN n) k3 k4).1;clear k1 k2 k3 k4;go_enter func74,ntmps74
   go_wp2_with fail
   go_quiet (fail)
   go_wp2_with fail
   go_ret;exact⟨rfl,_,rfl⟩
def FD(st:St)(blk:Int->Nat)(id:Int):Value:=if st.isB id=true then .pointer (some ⟨blk id,0,none⟩)else .pointer none
theorem L3(hw:Wf st)(h:AR w S x st bv sc mp blk G)(id:Int):
  Calls prog 58 #[.pointer (some ⟨sc,0,none⟩),.int .i64 id] w fun e w'=>e=.returned (FD st blk id)/\w'=w:=by
 unfold FD;cases ht:st.isB id with
 |false=>
  rw[if_neg (by simp)];exact Cc h id (Gg hw ht)
 |true=>
  rw[if_pos rfl];obtain⟨i,rfl,hi⟩:=(AV hw id).1 ht;exact Cd h i hi
theorem AR.drewN(h:AR w S x st bv sc mp blk G)(n:Nat):AR (w.drewN n) S x st bv sc mp blk G:=h.below (cS (aN _ _) n)
theorem PE(hw:Wf st)(id sb:Int)(ab:Bool)(w:World)(h:AX w S x st bv):
  Calls prog 38 #[.pointer (some ⟨x,0,none⟩),.int .i64 id,.int .i64 sb,.bool ab] w (Bl S x bv (Cw st id sb ab) w):=by
 have HE6:=Aa (fun n=>Bl.same (er:=6) h (cS (aN w.heap.size w) n));have HE8:=Aa (fun n=>Bl.same (er:=8) h (cS (aN w.heap.size w) n));obtain⟨sc,mp,blk,G,h⟩:=h;obtain⟨x0,x1,xl⟩:=h.scrCells;have HS:=Aa (fun(k:Int) (n:Nat)=>L3 hw (h.drewN n) k);have hB1:=AV hw id;have hB2:=AV hw sb;unfold Cw;cases ht1:st.isB id with
 |false=>
  have v1:FD st blk id=.pointer none:=by unfold FD;rw[ht1];rfl
  rw[if_neg (by simp)];clear hB1 hB2 h;go_enter func38,ntmps38
  go_wp2_with fail
  go_quiet ((go_at_call 58;exact Calls.quiet_of_same (HS.out _ _)))
  go_wp2_with fail
  try go_ret
  exact HE6.out _
 |true=>
  obtain⟨i,rfl,hio⟩:=hB1.1 ht1;cases ht2:st.isB sb with
  |false=>
   have v1:FD st blk i=.pointer (some ⟨blk i,0,none⟩):=by unfold FD;rw[ht1];rfl
   have v2:FD st blk sb=.pointer none:=by unfold FD;rw[ht2];rfl
   rw[if_neg (by simp)];clear hB1 hB2 h;go_enter func38,ntmps38
   go_wp2_with fail
   go_quiet ((go_at_call 58;exact Calls.quiet_of_same (HS.out _ _)))
   go_wp2_with fail
   try go_ret
   exact HE6.out _
  |true=>
   obtain⟨j,rfl,hjo⟩:=hB2.1 ht2;have v1:FD st blk i=.pointer (some ⟨blk i,0,none⟩):=by unfold FD;rw[ht1];rfl
   have v2:FD st blk j=.pointer (some ⟨blk j,0,none⟩):=by unfold FD;rw[ht2];rfl
   have hil:=hw.lt hio;rw[if_pos ⟨rfl,rfl⟩,aX,aX];have qi:=(h.cells i (Af hio)).nat;have qj:=(h.cells j (Af hjo)).nat;obtain⟨kc,kf,kl⟩:=h.at (Af hio);obtain⟨jc,jf,jl⟩:=h.at (Af hjo);have c23:=kc 25 (by omega);have c24:=kc 26 (by omega);have c25:=kc 27 (by omega);have f23:=kf 25;have f24:=kf 26;have f25:=kf 27;have j0:=jc 0 (by omega);rw[qj.num]at j0;have k1:=kc 1 (by omega);have j1:=jc 1 (by omega);rw[qi.par]at k1;rw[qj.par]at j1;have HN:=Aa (fun n=>Rn (blk i) (blk j) (blk (st.sf i).parent) (blk (st.sf j).parent) (w.drewN n) k1 j1 ⟨_,h.srf i (Af hio)⟩ ⟨_,h.srf j (Af hjo)⟩ ⟨_,h.srf _ (CR hw hio)⟩ ⟨_,h.srf _ (CR hw hjo)⟩);have hdec:(decide (blk i≠blk j/\blk (st.sf i).parent=blk (st.sf j).parent))=decide ((i:Int)≠(j:Int)/\(st.sf i).parent=(st.sf j).parent):=by
    congr 1
    apply propext;refine and_congr (not_congr ⟨fun e=>h.inj i j (Af hio) (Af hjo) e,fun e=>by rw[e]⟩) ⟨fun e=>h.inj _ _ (CR hw hio) (CR hw hjo) e,fun e=>by rw[e]⟩
   rw[hdec]at HN;have HOk:Hid (∀n,Bl S x bv (0,upd st i (GU j ab)) w (.returned (.int .i64 0)) ((((w.drewN n).setCell ⟨blk i,25,none⟩ (.bool true)).setCell ⟨blk i,26,none⟩ (.int .i64 (j:Int))).setCell ⟨blk i,27,none⟩ (.bool ab))):=fun n=>by
    have hW:=cS (aN w.heap.size w) n;have h:=h.below hW;have hs:B4 (w.drewN n) (blk i) (G i):=h.srf i (Af hio);have ho:=h.own.2.2.2 i (Af hio);refine Bl.after hW ⟨rfl,AX.mono ⟨sc,mp,blk,_,h.upd (gf:=GU j ab) hio hil (fun _=>rfl) (fun g hg hne=>?_) (((hs.set 25 _).set 26 _).set 27 _) rfl (Dk.upd hil ⟨qi.num,qi.par,⟨qi.now.w,qi.now.h,qi.now.pix,qi.now.x,qi.now.y,qi.now.c0,qi.now.c1,qi.now.c2,qi.now.c3,qi.now.cut,qi.now.hint⟩,⟨qi.next.w,qi.next.h,qi.next.pix,qi.next.x,qi.next.y,qi.next.c0,qi.next.c1,qi.next.c2,qi.next.c3,qi.next.cut,qi.next.hint⟩,⟨_,_,_,rfl,rfl,rfl,rfl,fun _=>⟨rfl,rfl⟩⟩,qi.kep⟩) ⟨(h.data i hio).pix,(h.data i hio).hint,(h.data i hio).npix,(h.data i hio).nhint,(h.data i hio).kw,(h.data i hio).kh,(h.data i hio).kept⟩⟩ (fun _ h=>AI h),(((Ac.refl S (w.drewN n)).set (.inl ho) _).set (.inl ho) _).set (.inl ho) _⟩;rw[setOther 27 _ g (by simpa using hg) hne,setOther 26 _ g (by simpa using hg) hne,setOther 25 _ g hg hne]
   obtain⟨g,hg⟩:∃g,blk i=g:=⟨_,rfl⟩;obtain⟨g2,hg2⟩:∃g2,blk j=g2:=⟨_,rfl⟩;rw[hg]at c23 c24 c25 f23 f24 f25 HOk HN v1;rw[hg2]at j0 HN v2;clear hB1 hB2 h kc kf kl jc jf jl qi qj k1 j1 hdec HE6;by_cases hc:(i:Int)≠(j:Int)/\(st.sf i).parent=(st.sf j).parent
   ·rw[bQ hc]at HN;rw[if_pos hc];clear hc HE8;go_enter func38,ntmps38
    go_wp2_with fail
    go_quiet ((go_at_call 58;exact Calls.quiet_of_same (HS.out _ _)))
    go_wp2_with(first
     |(go_at_call 74;refine(HN.out _).mono ?_;rintro e w' ⟨rfl,zz,rfl⟩)
     |go_in)
    try go_ret
    exact HOk.out _
   ·rw[cE hc]at HN;rw[if_neg hc];clear hc HOk;go_enter func38,ntmps38
    go_wp2_with fail
    go_quiet ((go_at_call 58;exact Calls.quiet_of_same (HS.out _ _)))
    go_wp2_with(first
     |(go_at_call 74;refine(HN.out _).mono ?_;rintro e w' ⟨rfl,zz,rfl⟩)
     |go_in)
    try go_ret
    exact HE8.out _
variable{nb:Nat}{p:Int}
def II(n:Int)(pb:Nat):Array Value:=#[.int .i64 n,.pointer (some ⟨pb,0,none⟩),.slice none 0 0,.int .i64 0,.int .i64 0,.slice none 0 0,.int .i64 0,.int .i64 0,.int .i64 0,.int .i64 0,.int .i64 0,.int .i64 0,.bool false,.slice none 0 0,.int .i64 0,.int .i64 0,.slice none 0 0,.int .i64 0,.int .i64 0,.int .i64 0,.int .i64 0,.int .i64 0,.int .i64 0,.bool false,.slice none 0 0,.bool false,.int .i64 0,.bool false,.int .i64 0,.int .i64 0,.slice none 0 0]
def upB(blk:Int->Nat)(n:Nat)(nb:Nat):Int->Nat:=fun p=>if p=(n:Int)then nb else blk p
theorem SF{n:Nat}(h:p≠n):upB blk n nb p=blk p:=by unfold upB;rw[if_neg h]
theorem GY(blk:Int->Nat)(n nb:Nat):upB blk n nb (n:Int)=nb:=by unfold upB;rw[if_pos rfl]
theorem NL(hw:Wf st)(h:BN st p):p≠st.sfs.length:=by
 rcases h with rfl|⟨i,rfl,hi⟩
 ·omega
 ·have:=hw.lt hi;omega
theorem EL{q:Int}:BN (mk st p) q↔BN st q\/q=st.sfs.length:=by
 unfold BN;show(q= -1\/∃i:Nat,q=i/\i∈st.order++[st.sfs.length])↔_;constructor
 ·rintro(h|⟨i,rfl,hi⟩)
  ·exact .inl (.inl h)
  ·rw[bV,List.mem_singleton]at hi;rcases hi with hi|rfl
   ·exact .inl (.inr ⟨i,rfl,hi⟩)
   ·exact .inr rfl
 ·rintro((h|⟨i,rfl,hi⟩)|rfl)
  ·exact .inl h
  ·exact .inr ⟨i,rfl,List.mem_append_left _ hi⟩
  ·exact .inr ⟨_,rfl,by simp⟩
theorem AR.more{w w':World}{S S':Nat->Prop}{x:Nat}(hw:Wf st){bv:Value}{sc mp:Nat}{G:Int->Nat->Value}(h:AR w S x st bv sc mp blk G)(hp:BN st p)(hS:∀g,S g->S' g)(hnb:w.heap.size<=nb)(hnS:S' nb){v:Value}
  (hsce:w'.heap[sc]?=some (.cells #[BE (blk (-1)),.map (some mp),.int .i64 ((st.sfs.length:Int)+1)] 152 (0,0)))
  (hmap:A1 w' mp (st.order++[st.sfs.length]) fun(i:Nat)=>upB blk st.sfs.length nb i)
  (hnew:w'.heap[nb]?=some (.cells (II st.sfs.length (blk p)) 174 (0,0)))
  (hpar:B4 w' (blk p) (upO (G p) 2 v))
  (hrow:A4 w' S' 117 1 v ((st.kids p).length+1) (((st.kids p).map fun(i:Nat)=>BE (blk i))++[BE nb]))
  (hvb:v.ownBlock=(G p 2).ownBlock\/∃g,v.ownBlock=some g/\w.heap.size<=g)
  (hoth:∀g,g<w.heap.size->g≠sc->g≠mp->g≠blk p->some g≠(G p 2).ownBlock->w'.heap[g]?=w.heap[g]?):
  AR w' S' x (Go.Proofs.YtofinpocigbbeaaGreat.mk st p) bv sc mp (upB blk st.sfs.length nb) (upG (upG G p (upO (G p) 2 v)) (st.sfs.length:Int) fun o=>(II st.sfs.length (blk p)).getD o undef):=by
 have hlt:∀ {g:Nat} {o:Obj},w.heap[g]?=some o->g<w.heap.size:=fun{g o} hg=>(aM.1 hg).1;obtain⟨pc,hpc,hpcs⟩:=h.srf p hp;have rowT:∀g,some g=(G p 2).ownBlock->∃cur,w.heap[g]?=some (.cells cur 117 (0,0)):=fun g hg=>(h.on p hp).type hg.symm;have blt:∀q,BN st q->blk q<w.heap.size:=fun q hq=>by
  obtain⟨c,hc,_⟩:=h.srf q hq;exact hlt hc
 have oldb:∀q,BN st q->upB blk st.sfs.length nb q=blk q:=fun q hq=>SF (NL hw hq);have hnp:(st.sfs.length:Int)≠p:=fun e=>NL hw hp e.symm;have G2:∀q,BN st q->upG (upG G p (upO (G p) 2 v)) (st.sfs.length:Int) (fun o=>(II st.sfs.length (blk p)).getD o undef) q=if q=p then upO (G p) 2 v else G q:=fun q hq=>by
  unfold upG;rw[if_neg (NL hw hq)]
 have Gn:upG (upG G p (upO (G p) 2 v)) (st.sfs.length:Int) (fun o=>(II st.sfs.length (blk p)).getD o undef) (st.sfs.length:Int)=fun o=>(II st.sfs.length (blk p)).getD o undef:=by
  unfold upG;rw[if_pos rfl]
 have kmap:∀q,((st.kids q).map fun(i:Nat)=>BE (upB blk st.sfs.length nb i))=(st.kids q).map fun(i:Nat)=>BE (blk i):=fun q=>List.map_congr_left fun i hi=>by rw[oldb i (Gd hi)]
 have hold:∀q,BN st q->upG (upG G p (upO (G p) 2 v)) (st.sfs.length:Int) (fun o=>(II st.sfs.length (blk p)).getD o undef) q 2=if q=p then v else G q 2:=fun q hq=>by
  rw[G2 q hq];by_cases e:q=p
  ·rw[if_pos e,if_pos e];rfl
  ·rw[if_neg e,if_neg e]
 have new2:upG (upG G p (upO (G p) 2 v)) (st.sfs.length:Int) (fun o=>(II st.sfs.length (blk p)).getD o undef) (st.sfs.length:Int) 2=.slice none 0 0:=by rw[Gn];rfl
 refine⟨?_,?_,hmap,fun q hq=>?_,⟨hS _ h.own.1,hS _ h.own.2.1,hS _ h.own.2.2.1,fun q hq=>?_⟩,fun q q' hq hq' e=>?_,fun q hq=>?_,fun q q' hq hq' hne g hg=>?_,fun q hq=>?_,fun j hj=>?_⟩
 ·refine(hoth x (hlt h.scr) (neT h.scr h.sce (by decide)) (h.map.ne h.scr) (neT h.scr hpc (by decide)) fun e=>?_).trans h.scr;obtain⟨c,hc⟩:=rowT x e;exact neT h.scr hc (by decide) rfl
 ·rw[Ga,oldb (-1) (CC st)];exact hsce
 ·rcases EL.1 hq with hq|rfl
  ·rw[oldb q hq,G2 q hq];by_cases e:q=p
   ·subst e;rw[if_pos rfl];exact hpar
   ·rw[if_neg e];obtain⟨c,hc,hc2⟩:=h.srf q hq;refine⟨c,(hoth _ (hlt hc) (neT hc h.sce (by decide)) (h.map.ne hc) (fun e2=>e (h.inj q p hq hp e2)) fun e2=>?_).trans hc,hc2⟩;obtain⟨c2,hc2⟩:=rowT _ e2;exact neT hc hc2 (by decide) rfl
  ·rw[GY,Gn];refine⟨_,hnew,rfl,fun o ho=>?_⟩;show _=some ((II st.sfs.length (blk p)).getD o undef);rw[Array.getD_eq_getD_getElem?,Array.getElem?_eq_getElem (show o<(II st.sfs.length (blk p)).size from ho)];rfl
 ·rcases EL.1 hq with hq|rfl
  ·rw[oldb q hq];exact hS _ (h.own.2.2.2 q hq)
  ·rw[GY];exact hnS
 ·rcases EL.1 hq with hq|rfl<;>rcases EL.1 hq' with hq'|rfl
  ·rw[oldb q hq,oldb q' hq']at e;exact h.inj q q' hq hq' e
  ·rw[oldb q hq,GY]at e;have:=blt q hq;omega
  ·rw[oldb q' hq',GY]at e;have:=blt q' hq';omega
  ·rfl
 ·rw[SA hw];rcases EL.1 hq with hq|rfl
  ·rw[hold q hq];by_cases e:q=p
   ·subst e;rw[if_pos rfl,if_pos rfl,aY,cL,kmap];show A4 _ _ _ _ _ _ (_++[BE (upB blk st.sfs.length nb _)]);rw[GY];exact hrow
   ·rw[if_neg e,if_neg e,List.append_nil,kmap];have hr:=h.on q hq;refine A4.mono ?_ hS;refine⟨Ai hr.1 fun g hg=>?_,hr.2⟩;obtain⟨c,hc⟩:=hr.type hg;exact hoth g (hlt hc) (neT hc h.sce (by decide)) (h.map.ne hc) (neT hc hpc (by decide)) fun e2=>h.apart q p hq hp e g hg e2.symm
  ·rw[new2];have hk:st.kids (st.sfs.length:Int)=[]:=by
    refine List.eq_nil_iff_forall_not_mem.2 fun i hi=>?_;obtain⟨h1,h2⟩:=AN.1 hi;have h3:=hw.lt h1;have h4:=hw.par i;omega
   rw[hk,if_neg hnp];exact A4.nil _ _ _ _
 ·rcases EL.1 hq with l1|rfl<;>rcases EL.1 hq' with l2|rfl
  ·rw[hold q l1]at hg;rw[hold q' l2];by_cases e:q=p
   ·subst e;rw[if_pos rfl]at hg;rw[if_neg (fun e2=>hne e2.symm)];rcases hvb with hvb|⟨g2,hv1,hv2⟩
    ·rw[hvb]at hg;exact h.apart q q' l1 l2 hne g hg
    ·rw[hv1]at hg;injection hg with hg;subst hg;intro e3;obtain⟨c,hc⟩:=(h.on q' l2).type e3;have:=hlt hc;omega
   ·rw[if_neg e]at hg;by_cases e':q'=p
    ·subst e';rw[if_pos rfl];rcases hvb with hvb|⟨g2,hv1,hv2⟩
     ·rw[hvb];exact h.apart q q' l1 l2 hne g hg
     ·rw[hv1];intro e3;injection e3 with e3;subst e3;obtain⟨c,hc⟩:=(h.on q l1).type hg;have:=hlt hc;omega
    ·rw[if_neg e'];exact h.apart q q' l1 l2 hne g hg
  ·rw[new2];exact fun e=>by cases e
  ·rw[new2]at hg;cases hg
  ·exact absurd rfl hne
 ·rcases EL.1 hq with hq|rfl
  ·rw[G2 q hq];have hc:=h.cells q hq;have hc2:Dv (upB blk st.sfs.length nb) st q (G q):=by
    refine⟨hc.num,?_,hc.now,hc.next,hc.stk,hc.kep⟩;rw[hc.par];rcases hq with rfl|⟨i,rfl,hi⟩
    ·rfl
    ·rw[if_neg (CS i),if_neg (CS i),aX,oldb _ (CR hw hi)]
   have hc3:Dv (upB blk st.sfs.length nb) (Go.Proofs.YtofinpocigbbeaaGreat.mk st p) q (G q):=by
    refine hc2.other rfl rfl fun hq1=>?_;rw[Dt,if_neg];rcases hq with rfl|⟨i,rfl,hi⟩
    ·exact absurd rfl hq1
    ·rw[aX];have:=hw.lt hi;omega
   by_cases e:q=p
   ·rw[if_pos e];subst e;exact⟨hc3.num,hc3.par,⟨hc3.now.w,hc3.now.h,hc3.now.pix,hc3.now.x,hc3.now.y,hc3.now.c0,hc3.now.c1,hc3.now.c2,hc3.now.c3,hc3.now.cut,hc3.now.hint⟩,(by obtain⟨l,h1,h2⟩:=hc3.next;exact⟨l,⟨h1.w,h1.h,h1.pix,h1.x,h1.y,h1.c0,h1.c1,h1.c2,h1.c3,h1.cut,h1.hint⟩,h2⟩),hc3.stk,hc3.kep⟩
   ·rw[if_neg e];exact hc3
  ·rw[Gn];refine Dk.toP ?_;rw[Dt,if_pos rfl];refine⟨rfl,?_,⟨rfl,rfl,⟨_,_,_,rfl⟩,rfl,rfl,rfl,rfl,rfl,rfl,rfl,⟨_,_,_,rfl⟩⟩,⟨rfl,rfl,⟨_,_,_,rfl⟩,rfl,rfl,rfl,rfl,rfl,rfl,rfl,⟨_,_,_,rfl⟩⟩,⟨_,_,_,rfl,rfl,rfl,rfl,fun e=>by cases e⟩,⟨_,_,_,_,_,rfl,rfl,rfl⟩⟩;show _=BE (upB blk st.sfs.length nb p);rw[oldb p hp];rfl
 ·have hkd:Bq w w':=fun g cur t ht e=>hoth g (hlt e) (neT e h.sce (ht.ne (by unfold Dw;decide))) (h.map.ne e) (neT e hpc (ht.ne (by unfold Dw;decide))) fun e2=>by
   obtain⟨c,hc⟩:=rowT g e2;exact neT e hc (ht.ne (by unfold Dw;decide)) rfl
  have hj2:j∈st.order++[st.sfs.length]:=hj;rw[bV,List.mem_singleton]at hj2;rcases hj2 with hj2|rfl
  ·have e1:(Go.Proofs.YtofinpocigbbeaaGreat.mk st p).sf j=st.sf j:=by
    rw[Dt,if_neg (by have:=hw.lt hj2;omega)]
   rw[G2 j (Af hj2),e1];have hd:=((h.data j hj2).kd hkd).mono hS;by_cases e:(j:Int)=p
   ·rw[if_pos e];subst e;exact⟨hd.pix,hd.hint,hd.npix,hd.nhint,hd.kw,hd.kh,hd.kept⟩
   ·rw[if_neg e];exact hd
  ·rw[Gn,Dt,if_pos rfl];exact⟨Jo.nil _ _ rfl _,Ew.nil _ _,Jo.nil _ _ rfl _,Ew.nil _ _,rfl,rfl,Gc.nil _ _ rfl _⟩
theorem NM(hw:Wf st)(h:AR w S x st bv sc mp blk G)(id:Int):
  Calls prog 55 #[.pointer (some ⟨sc,0,none⟩),.int .i64 id] w fun e w'=>e=.returned (if id= -1 then .pointer (some ⟨blk (-1),0,none⟩)else FD st blk id)/\w'=w:=by
 obtain⟨k0,k1,k2,k3,k4⟩:=h.sceCells;by_cases hid:id= -1
 ·subst hid;rw[if_pos rfl];clear h;unfold BE at k0;go_enter func55,ntmps55
  go_wp2_with fail
  go_ret;exact⟨rfl,rfl⟩
 ·rw[if_neg hid];obtain⟨v,hl,hv⟩:=h.map.lookup underlying150 underlying3 (IG w) id;have hsv:FD st blk id=.pointer v:=by
   unfold FD;rcases hv with⟨rfl,hv⟩|⟨i,hi,rfl,rfl⟩
   ·rw[if_neg];intro e;obtain⟨i,e1,e2⟩:=(AV hw id).1 e;exact hv i e2 e1.symm
   ·rw[if_pos ((AV hw _).2 ⟨i,rfl,hi⟩)]
  rw[hsv];clear h hv hsv;go_enter func55,ntmps55
  go_wp2_with fail
  go_ret;exact⟨rfl,rfl⟩
theorem Ro(hw:Wf st)(h:AR w S x st bv sc mp blk G):
  Calls prog 56 #[.pointer (some ⟨sc,0,none⟩)] w fun e w'=>e=.returned (.bool (!decide (st.order.length<12/\st.sfs.length<60)))/\w'=w:=by
 obtain⟨k0,k1,k2,k3,k4⟩:=h.sceCells;have hl:=h.map.len (P:=prog) (ty:=3) underlying150;have hlen:=hw.len;have hmade:=hw.made;obtain⟨n,hn⟩:∃n,st.order.length=n:=⟨_,rfl⟩;obtain⟨m,hm⟩:∃m,st.sfs.length=m:=⟨_,rfl⟩;rw[hn]at hl hlen ⊢;rw[hm]at k2 hmade ⊢;clear h hn hm;by_cases h1:n<12
 ·have h1':¬(12:Int)<=(n:Int):=by omega
  by_cases h2:m<60
  ·have h2':¬(60:Int)<=(m:Int):=by omega
   rw[bQ ⟨h1,h2⟩];go_enter func56,ntmps56
   go_wp2_with fail
   go_ret;exact⟨rfl,rfl⟩
  ·have h2':(60:Int)<=(m:Int):=by omega
   rw[cE fun h=>h2 h.2];go_enter func56,ntmps56
   go_wp2_with fail
   go_ret;exact⟨rfl,rfl⟩
 ·have h1':(12:Int)<=(n:Int):=by omega
  rw[cE fun h=>h1 h.1];go_enter func56,ntmps56
  go_wp2_with fail
  go_ret;exact⟨rfl,rfl⟩
variable{g j:Nat}{u:Option Nat}{w':World}
theorem Ce(h:w.grownBy w' u){q:Value}(hc:w.cell? ⟨g,j,none⟩=some q)(hne:some g≠u):w'.cell? ⟨g,j,none⟩=some q:=h.cell hc hne
theorem KY(h:w.grownBy w' u)(hl:g<w.heap.size)(hc:w.frozen? ⟨g,j,none⟩=false)(hne:some g≠u):w'.frozen? ⟨g,j,none⟩=false:=(World.frozen?_of_block (h.block g hl hne)).trans hc
def Vg(S:Nat->Prop)(x:Nat)(bv:Value)(p:Int×Int×St)(w:World)(e:Ending)(w':World):Prop:=e=.returned (.tuple #[.int .i64 p.1,.int .i64 p.2.1])/\AX w' (AA S w w') x p.2.2 bv/\Ac S w w'
theorem Rp(hw:Wf st){sc mp:Nat}{blk:Int->Nat}{G:Int->Nat->Value}(h:AR w S x st bv sc mp blk G)(p:Int)(hp:BN st p)(hmade:st.sfs.length<60):
  Calls prog 57 #[.pointer (some ⟨sc,0,none⟩),.pointer (some ⟨blk p,0,none⟩)] w fun e w'=>e=.returned (.int .i64 (st.sfs.length:Int))/\AX w' (AA S w w') x (mk st p) bv/\Ac S w w':=by
 obtain⟨i0,hi0,hz0,hz1,hz2⟩:=cW GW;obtain⟨k0,k1,k2,k3,k4⟩:=h.sceCells;obtain⟨pc,pf,pl⟩:=h.at hp;have p2:=pc 2 (by omega);have hrow:=h.on p hp;obtain⟨oa,oc,ho⟩:=hrow.form;have hkl:(st.kids p).length<=12:=bh (ci _ _) hw.len;have f2:=k4 2;have hscn:¬sc=w.heap.size:=by omega
 have hpn:¬blk p=w.heap.size:=by omega
 obtain⟨pcur,hpcur,_⟩:=h.srf p hp;have hmpl:=h.map.lt;have hmpn:mp≠w.heap.size:=by omega
 have hscp:sc≠blk p:=neT h.sce hpcur (by decide);have hpmp:blk p≠mp:=h.map.ne hpcur;have hscmp:sc≠mp:=h.map.ne h.sce;obtain⟨A,hA⟩:∃A,A=(w.setCell ⟨sc,2,none⟩ (.int .i64 ((st.sfs.length:Int)+1))).alloc (.cells (II st.sfs.length (blk p)) 174):=⟨_,rfl⟩;have hAs:A.heap.size=w.heap.size+1:=by rw[hA];simp
 have hAo:∀g,g<w.heap.size->g≠sc->A.heap[g]?=w.heap[g]? :=fun g hg hne=>by
  rw[hA,Ad _ _ g (by simpa using hg),aL w ⟨sc,2,none⟩ g _ hne]
 have hAn:A.heap[w.heap.size]?=some (.cells (II st.sfs.length (blk p)) 174 (0,0)):=by
  rw[hA];have:=aR (w.setCell ⟨sc,2,none⟩ (.int .i64 ((st.sfs.length:Int)+1))) (.cells (II st.sfs.length (blk p)) 174);simpa using this
 have hAsc:A.heap[sc]?=some (.cells #[BE (blk (-1)),.map (some mp),.int .i64 ((st.sfs.length:Int)+1)] 152 (0,0)):=by
  rw[hA,Ad _ _ sc (by simpa using k3),bH w sc 2 _ _ _ h.sce];rfl
 have hOA:Ac S w A:=by
  rw[hA];exact((Ac.refl S w).set (.inl h.own.2.1) _).alloc _
 have HM:Hid (A1 A.drew mp st.order fun(i:Nat)=>upB blk st.sfs.length w.heap.size i):=by
  refine A1.congr (h.map.keep (hAo mp hmpl (fun e=>hscmp e.symm))) (List.Perm.refl _) fun i hi=>?_;have:=hw.lt hi;exact SF (by omega)
 have HNo:Hid (st.sfs.length∉st.order):=fun hi=>by have:=hw.lt hi;omega
 have HU:Hid (upB blk st.sfs.length w.heap.size ((st.sfs.length:Nat):Int)=w.heap.size):=GY _ _ _;have HF2:Hid (∀w2:World,A.drew.grownBy w2 (some mp)->w2.heap.size=A.drew.heap.size->w2.cell? ⟨blk p,2,none⟩=some (.slice oa (st.kids p).length oc)/\w2.frozen? ⟨blk p,2,none⟩=false/\w2.cell? ⟨w.heap.size,0,none⟩=some (.int .i64 (st.sfs.length:Int))/\w2.heap.size=w.heap.size+1/\w2.ownsRow 0 117 1 (.slice oa (st.kids p).length oc) (st.kids p).length ((st.kids p).map fun(i:Nat)=>BE (blk i))):=fun w2 g2 s2=>by
  refine⟨Ce g2 ?_ (fun e=>hpmp (by injection e)),KY g2 (show blk p<A.heap.size by omega) ?_ (fun e=>hpmp (by injection e)),Ce g2 ?_ (fun e=>hmpn (by injection e with e;exact e.symm)),?_,?_⟩
  ·show A.cell? _=_;rw[aV (w:=w) (a:=⟨blk p,2,none⟩) (hAo _ pl (fun e=>hscp e.symm)),p2,ho]
  ·show A.frozen? _=_;rw[World.frozen?_of_block (w:=w) (a:=⟨blk p,2,none⟩) (hAo _ pl (fun e=>hscp e.symm))];exact pf 2
  ·show A.cell? _=_;rw[aP A _ _ _ _ _ hAn];rfl
  ·rw[s2];exact hAs
  ·have hr:=hrow.1;rw[ho]at hr;refine Ai hr fun g hg=>?_;obtain⟨c,hc⟩:=Ap hr hg;have hgl:=(aM.1 hc).1;rw[g2.block g (show g<A.heap.size by omega) (fun e=>h.map.ne hc (by injection e))];exact hAo g hgl (neT hc h.sce (by decide))
 have HEnd:Hid (∀(w2 w4:World) (v:Value),A1 w2 mp (st.order++[st.sfs.length]) (fun(i:Nat)=>upB blk st.sfs.length w.heap.size i)->A.drew.grownBy w2 (some mp)->w2.heap.size=w.heap.size+1->w4.ownsRow 0 117 1 v ((st.kids p).length+1) (((st.kids p).map fun(i:Nat)=>BE (blk i))++[BE w.heap.size])->(w2.alloc (.cells #[.pointer (some ⟨w.heap.size,0,none⟩)] 117)).grownBy w4 (Value.slice oa (st.kids p).length oc).ownBlock->(v.ownBlock=(Value.slice oa (st.kids p).length oc).ownBlock\/v.ownBlock=some (w.heap.size+1+1))->
   w4.cell? ⟨blk p,2,none⟩=some (.slice oa (st.kids p).length oc)/\w4.frozen? ⟨blk p,2,none⟩=false/\w4.cell? ⟨w.heap.size,0,none⟩=some (.int .i64 (st.sfs.length:Int))/\AX (w4.setCell ⟨blk p,2,none⟩ v) (AA S w (w4.setCell ⟨blk p,2,none⟩ v)) x (mk st p) bv/\Ac S w (w4.setCell ⟨blk p,2,none⟩ v)):=fun w2 w4 v m2 g2 s2 r4 g4 hv=>by
  have hob:∀g,(Value.slice oa (st.kids p).length oc).ownBlock=some g->∃c,w.heap[g]?=some (.cells c 117 (0,0)):=fun g hg=>by
   rw[<-ho]at hg;exact hrow.type hg
  have hobn:∀ {g:Nat} {c:Array Value} {t:TypeId},w.heap[g]?=some (.cells c t (0,0))->t≠117->some g≠(Value.slice oa (st.kids p).length oc).ownBlock:=fun{g c t} hg ht e=>by
   obtain⟨c2,hc2⟩:=hob g e.symm;exact neT hg hc2 ht rfl
  have h43:∀g,g<w.heap.size+1->some g≠(Value.slice oa (st.kids p).length oc).ownBlock->w4.heap[g]?=w2.heap[g]? :=fun g hg hne=>by
   rw[g4.block g (by simp;omega) hne,Ad _ _ g (by omega)]
  have h42:∀g,g<w.heap.size->g≠sc->g≠mp->some g≠(Value.slice oa (st.kids p).length oc).ownBlock->w4.heap[g]?=w.heap[g]? :=fun g hg h1 h2 hne=>by
   rw[h43 g (by omega) hne,g2.block g (show g<A.heap.size by omega) (fun e=>h2 (by injection e))];exact hAo g hg h1
  have hnn:some w.heap.size≠(Value.slice oa (st.kids p).length oc).ownBlock:=fun e=>by
   obtain⟨c,hc⟩:=hob _ e.symm;have:=(aM.1 hc).1;omega
  have h4n:w4.heap[w.heap.size]?=some (.cells (II st.sfs.length (blk p)) 174 (0,0)):=by
   rw[h43 _ (by omega) hnn,g2.block _ (show w.heap.size<A.heap.size by omega) (fun e=>hmpn (by injection e with e;exact e.symm))];exact hAn
  have h4p:=h42 (blk p) pl (fun e=>hscp e.symm) hpmp (hobn hpcur (by decide));have h4c:w4.cell? ⟨blk p,2,none⟩=some (.slice oa (st.kids p).length oc):=by
   rw[aV (w:=w) (a:=⟨blk p,2,none⟩) h4p,p2,ho]
  have hmpo:some mp≠(Value.slice oa (st.kids p).length oc).ownBlock:=fun e=>by
   obtain⟨c,hc⟩:=hob _ e.symm;exact h.map.ne hc rfl
  have hsco:=hobn h.sce (by decide);have h4s:w.heap.size+1+1<=w4.heap.size:=by
   have:=g4.size;simp at this;omega
  have hO4:Ac S w w4:=by
   have o2:Ac S w w2:=hOA.drew.grown g2 fun g e=>.inl (by injection e with e;rw[<-e];exact h.own.2.2.1);refine(o2.alloc _).grown g4 fun g e=>.inl ?_;rw[<-ho]at e;exact hrow.2 g e
  have hO5:Ac S w (w4.setCell ⟨blk p,2,none⟩ v):=hO4.set (.inl (h.own.2.2.2 p hp)) v;have hpcs:B4 w (blk p) (G p):=h.srf p hp;have h5o:∀g,g≠blk p->(w4.setCell ⟨blk p,2,none⟩ v).heap[g]?=w4.heap[g]? :=fun g hne=>aL w4 ⟨blk p,2,none⟩ g v hne;have hS5:AA S w (w4.setCell ⟨blk p,2,none⟩ v) w.heap.size:=.inr ⟨aO _,by simp;omega⟩;refine⟨h4c,by rw[World.frozen?_of_block (w:=w) (a:=⟨blk p,2,none⟩) h4p];exact pf 2,by rw[aP w4 _ _ _ _ _ h4n];rfl,⟨sc,mp,_,_,h.more hw hp (fun _ hg=>AI hg) (aO _) hS5 (v:=v) ?_ ?_ ?_ ?_ ?_ ?_ ?_⟩,hO5⟩
  ·rw[h5o sc hscp,h43 sc (by omega) hsco,g2.block sc (show sc<A.heap.size by omega) (fun e=>hscmp (by injection e))];exact hAsc
  ·refine m2.keep ?_;rw[h5o mp (fun e=>hpmp e.symm),h43 mp (by omega) hmpo]
  ·rw[h5o _ (fun e=>hpn e.symm)];exact h4n
  ·exact(hpcs.keep h4p).set 2 v
  ·refine⟨Ai r4 fun g hg=>h5o g ?_,fun g hg=>?_⟩
   ·rintro rfl;rcases hv with hv|hv
    ·rw[hv]at hg;exact hobn hpcur (by decide) hg.symm
    ·rw[hv]at hg;injection hg with hg;omega
   ·rcases hv with hv|hv
    ·rw[hv,<-ho]at hg;exact .inl (hrow.2 g hg)
    ·rw[hv]at hg;injection hg with hg;subst hg;refine .inr ⟨by omega,?_⟩;obtain⟨c,hc⟩:=Ap r4 (k:=w.heap.size+1+1) hv;have:=(aM.1 hc).1;simpa using this
  ·rcases hv with hv|hv
   ·exact .inl (by rw[hv,ho])
   ·exact .inr ⟨_,hv,by omega⟩
  ·intro g hg h1 h2 h3 h4;rw[h5o g h3];exact h42 g hg h1 h2 (by rw[<-ho];exact h4)
 have HA:=Aa hA;have a1:A.cell? ⟨sc,1,none⟩=some (.map (some mp)):=by rw[aP A _ _ _ _ _ hAsc];rfl
 have a2:A.cell? ⟨w.heap.size,0,none⟩=some (.int .i64 (st.sfs.length:Int)):=by rw[aP A _ _ _ _ _ hAn];rfl
 have HA1:=Aa (aK a1 a2);clear a1 a2;have hmade2:(st.sfs.length:Int)<60:=by omega
 clear hrow h pc pf hw hAo hAn hAsc hOA hA;obtain⟨n,hn⟩:∃n,st.sfs.length=n:=⟨_,rfl⟩;obtain⟨kn,hkn⟩:∃kn,(st.kids p).length=kn:=⟨_,rfl⟩;obtain⟨ks,hks⟩:∃ks,((st.kids p).map fun(i:Nat)=>BE (blk i))=ks:=⟨_,rfl⟩;rw[hn]at hmade2 HM HNo HU HF2 HEnd HA HA1 k2 ⊢;rw[hkn]at HF2 HEnd ho hkl;rw[hks]at HF2 HEnd;unfold II at HA;obtain⟨pb,hpb⟩:∃pb,blk p=pb:=⟨_,rfl⟩;rw[hpb]at HA HF2 HEnd p2 hpn hscp hpmp pl ⊢;clear hpb;go_enter func57,ntmps57
 go_wp2_with fail
 rw[<-HA.out];obtain⟨a1,a2⟩:=HA1.out;obtain⟨w2,hrun,m2,g2,s2⟩:=HM.out.store (P:=prog) underlying150 underlying3 HNo.out w.heap.size HU.out
 go_region
 obtain⟨q1,q2,q3,q4,q5⟩:=HF2.out w2 g2 s2;have H2:=Aa (aK m2 (aK g2 q4));have HQ5:=Aa q5;have hw2n:¬w.heap.size=w2.heap.size:=by omega
 have hpbn:¬pb=w2.heap.size:=by omega
 clear m2 g2 s2 q4 q5 HF2 hrun
 go_wp2_with(at_builtin;refine Am (P:=prog) rfl (.tmp 33) (.tmp 35) 170 rfl 0 117 i0 _ 1 8 underlying170 hi0 hz0 hz1 hz2 rfl (by decide) (.slice oa kn oc) kn ks rfl (HQ5.out.alloc _) (.slice (some ⟨w2.heap.size,0,none⟩) 1 1) 1 [BE w.heap.size] rfl rfl (.inr ⟨_,_,rfl,cell_one_new _ _ _⟩) (by simp[Value.oneCell',BE]) (by unfold maxLen;omega) (by omega) (by simp) ?_;intro v w4 r4 g4 z4 hv;obtain⟨va,vc,rfl⟩:=Al r4;rw[show(w2.alloc (.cells #[.pointer (some ⟨w.heap.size,0,none⟩)] 117)).heap.size=w.heap.size+1+1 by simp;exact H2.out.2.2]at hv;obtain⟨e1,e2,e3,e4,e5⟩:=HEnd.out w2 w4 _ H2.out.1 H2.out.2.1 H2.out.2.2 r4 g4 hv;have HR:=Aa (aK e4 e5);clear e4 e5 r4 g4 z4 hv)
 go_ret;exact⟨rfl,HR.out.1,HR.out.2⟩
theorem Rq(hw:Wf st)(p:Int)(w:World)(h:AX w S x st bv):
  Calls prog 27 #[.pointer (some ⟨x,0,none⟩),.int .i64 p] w (Vg S x bv (Bo st p) w):=by
 have HE:Hid (∀er:Int,Vg S x bv (0,er,st) w (.returned (.tuple #[.int .i64 0,.int .i64 er])) w):=fun er=>⟨rfl,h.mono fun _ hg=>AI hg,Ac.refl _ _⟩;obtain⟨sc,mp,blk,G,h⟩:=h;obtain⟨x0,x1,xl⟩:=h.scrCells;have HP:=Aa (NM hw h p);have HF:=Aa (Ro hw h);have HM:=Aa (Rp hw h p);unfold Bo;by_cases hp:p= -1\/st.isB p=true
 ·rw[if_pos hp];have hl:BN st p:=by
   rcases hp with hp|hp
   ·exact .inl hp
   ·exact .inr ((AV hw p).1 hp)
  have hv:(if p= -1 then Value.pointer (some ⟨blk (-1),0,none⟩)else FD st blk p)=.pointer (some ⟨blk p,0,none⟩):=by
   by_cases e:p= -1
   ·rw[if_pos e,e]
   ·rw[if_neg e];unfold FD;rw[if_pos (hp.resolve_left e)]
  rw[hv]at HP;by_cases hc:st.order.length<12/\st.sfs.length<60
  ·rw[if_pos hc];rw[bQ hc]at HF;have HM2:=Aa (HM.out hl hc.2);clear h hp hv HM hl hc;go_enter func27,ntmps27
   go_wp2_with(first
    |(go_at_call 55;refine HP.out.mono ?_;rintro e w' ⟨rfl,hw'⟩;replace hw':=hw'.symm;subst hw')
    |(go_at_call 56;refine HF.out.mono ?_;rintro e w' ⟨rfl,hw'⟩;replace hw':=hw'.symm;subst hw')
    |(go_at_call 57;refine HM2.out.mono ?_;rintro e w' ⟨rfl,r1,r2⟩;have HR:=Aa (aK r1 r2);clear r1 r2))
   go_ret2
   exact⟨rfl,HR.out.1,HR.out.2⟩
  ·rw[if_neg hc];rw[cE hc]at HF;clear h hp hv HM hl hc;go_enter func27,ntmps27
   go_wp2_with(first
    |(go_at_call 55;refine HP.out.mono ?_;rintro e w' ⟨rfl,hw'⟩;replace hw':=hw'.symm;subst hw')
    |(go_at_call 56;refine HF.out.mono ?_;rintro e w' ⟨rfl,hw'⟩;replace hw':=hw'.symm;subst hw'))
   go_ret2
   exact HE.out 9
 ·rw[if_neg hp];have hv:(if p= -1 then Value.pointer (some ⟨blk (-1),0,none⟩)else FD st blk p)=.pointer none:=by
   rw[if_neg (fun e=>hp (.inl e))];unfold FD;rw[if_neg (fun e=>hp (.inr e))]
  rw[hv]at HP;clear h hp hv HM HF;go_enter func27,ntmps27
  go_wp2_with(go_at_call 55;refine HP.out.mono ?_;rintro e w' ⟨rfl,hw'⟩;replace hw':=hw'.symm;subst hw')
  go_ret2
  exact HE.out 6
variable{L:List Nat}{m:Nat}
def rmF(L D:List Nat):List Nat:=L.filter fun a=> !D.contains a
theorem WQ(L D E:List Nat):rmF (rmF L D) E=rmF L (D++E):=by
 unfold rmF;rw[List.filter_filter];refine List.filter_congr fun a _=>?_;simp only[List.contains_append,Bool.not_or];exact Bool.and_comm _ _
theorem WR(h:L.Nodup)(a:Nat):L.erase a=rmF L [a]:=by
 rw[h.erase_eq_filter];unfold rmF;refine List.filter_congr fun b _=>?_;rw[Bool.eq_iff_iff];simp
theorem WS{D:List Nat}{a:Nat}:a∈rmF L D↔a∈L/\a∉D:=by
 unfold rmF;rw[bY];simp
structure FT(w:World)(st:St)(blk:Int->Nat)(mp:Nat)(j:Nat):Prop where
 num:w.cell? ⟨blk j,0,none⟩=some (.int .i64 (j:Int))
 lt:blk j<w.heap.size
 ne:blk j≠mp
 on:∃a c,w.cell? ⟨blk j,2,none⟩=some (.slice a (st.kids j).length c)/\∀k (h:k<(st.kids j).length),∃g,a=some ⟨g,0,none⟩/\g<w.heap.size/\g≠mp/\w.cell? ⟨g,k,none⟩=some (.pointer (some ⟨blk ((st.kids j)[k]:Nat),0,none⟩))
theorem FT.grown{w w':World}{j:Nat}(h:FT w st blk mp j)(hg:w.grownBy w' (some mp)):FT w' st blk mp j:=by
 obtain⟨a,c,h1,h2⟩:=h.on;refine⟨Ce hg h.num fun e=>h.ne (by injection e),aQ h.lt hg.size,h.ne,a,c,Ce hg h1 fun e=>h.ne (by injection e),fun k hk=>?_⟩;obtain⟨g,e1,e2,e3,e4⟩:=h2 k hk;exact⟨g,e1,aQ e2 hg.size,e3,Ce hg e4 fun e=>e3 (by injection e)⟩
def St.kupto(st:St)(i:Nat)(k:Nat):List Nat:=((st.kids i).take k).flatMap fun j=>j::st.dfs j
theorem KZ(st:St)(i k:Nat)(h:k<(st.kids i).length):st.kupto i (k+1)=st.kupto i k++((st.kids i)[k]::st.dfs (st.kids i)[k]):=by
 unfold St.kupto;rw[bn h,cM];simp
theorem Tx(hw:Wf st)(i k:Nat)(h:(st.kids i).length<=k):st.kupto i k=st.dfs i:=by
 unfold St.kupto;rw[bw h,CN hw i (by omega)]
theorem Ex(hw:Wf st)(p:Int):(st.kids p).length<=12:=bh (ci _ _) hw.len
theorem Ty(hw:Wf st)(i:Nat):(i::st.dfs i).Nodup:=by
 rw[List.nodup_cons];exact⟨fun h=>((CJ hw st.sfs.length i (by omega) i).1 h).2.1 rfl,Jf hw st.sfs.length i (by omega)⟩
theorem PF(hw:Wf st)(i k:Nat)(h:k<(st.kids i).length)(hm:m∈(st.kids i)[k]::st.dfs (st.kids i)[k]):m∉i::st.kupto i k:=by
 have hn:=Ty hw i;rw[CN hw i (by omega)]at hn;have e:(st.kids i).flatMap (fun j=>j::st.dfs j)=st.kupto i (k+1)++((st.kids i).drop (k+1)).flatMap fun j=>j::st.dfs j:=by
  unfold St.kupto;rw[<-cM,List.take_append_drop]
 rw[e,KZ st i k h,<-List.cons_append,<-List.cons_append,List.nodup_append,List.nodup_append]at hn;intro h2;exact hn.1.2.2 m h2 m hm rfl
theorem WT(hw:Wf st)(i k:Nat)(h:k<(st.kids i).length)(hm:m∈(st.kids i)[k]::st.dfs (st.kids i)[k]):m∈i::st.dfs i:=by
 rw[CN hw i (by omega)];exact List.mem_cons_of_mem _ (List.mem_flatMap.2 ⟨_,aZ h,hm⟩)
theorem Rr(hw:Wf st){sc:Nat}(hscm:sc≠mp):∀(n:Nat) (i:Nat) (L:List Nat) (w:World),i∈st.order->st.need i<=n->L.Nodup->(∀j∈i::st.dfs i,FT w st blk mp j/\j∈L)->A1 w mp L (fun(j:Nat)=>blk j)->w.cell? ⟨sc,1,none⟩=some (.map (some mp))->
  Calls prog 113 #[.pointer (some ⟨sc,0,none⟩),.pointer (some ⟨blk i,0,none⟩)] w fun e w'=>e=.returned (.tuple #[])/\A1 w' mp (rmF L (i::st.dfs i)) (fun(j:Nat)=>blk j)/\w.grownBy w' (some mp)/\w'.heap.size=w.heap.size:=by
 intro n;induction n with
 |zero=>intro i L w _ h;unfold St.need at h;omega
 |succ n ih=>
  intro i L w hio hneed hnd hFT hm hsc;have hi:=(hFT i (by simp)).1;obtain⟨oa,oc,ho1,ho2⟩:=hi.on;have hnum:=hi.num;obtain⟨m,hmk⟩:∃m,(st.kids i).length=m:=⟨_,rfl⟩;have hm12:m<=12:=by rw[<-hmk];exact Ex hw i
  obtain⟨w1,hrun,m1,g1,s1⟩:=(hm.keep (w':=w.drew) rfl).delete (P:=prog) (ty:=0) underlying150 underlying3 (hFT i (by simp)).2;rw[WR hnd]at m1;have ho3:w1.cell? ⟨blk i,2,none⟩=some (.slice oa (st.kids i).length oc):=Ce g1 ho1 fun e=>hi.ne (by injection e);rw[hmk]at ho3;have HL:Hid (∀(k:Nat) (W:World),A1 W mp (rmF L (i::st.kupto i k)) (fun(j:Nat)=>blk j)->w1.grownBy W (some mp)->W.heap.size=w.heap.size->k<m->∃(g:Nat) (j:Nat),oa=some ⟨g,0,none⟩/\W.cell? ⟨g,k,none⟩=some (.pointer (some ⟨blk j,0,none⟩))/\
    Calls prog 113 #[.pointer (some ⟨sc,0,none⟩),.pointer (some ⟨blk j,0,none⟩)] W fun e w'=>e=.returned (.tuple #[])/\A1 w' mp (rmF L (i::st.kupto i (k+1))) (fun(j:Nat)=>blk j)/\w1.grownBy w' (some mp)/\w'.heap.size=w.heap.size):=fun k W mW gW sW hkm=>by
   have hkl:k<(st.kids i).length:=by omega
   obtain⟨g,e1,e2,e3,e4⟩:=ho2 k hkl;obtain⟨q1,q2⟩:=AN.1 (aZ hkl);have gw:w.grownBy W (some mp):=⟨gW.os.trans g1.os,gW.tape.trans g1.tape,gW.output.trans g1.output,by omega,fun b hb hne=>by rw[gW.block b (aQ hb g1.size) hne,g1.block b hb hne];rfl⟩;refine⟨g,(st.kids i)[k],e1,Ce gw e4 fun e=>e3 (by injection e),?_⟩;refine(ih (st.kids i)[k] (rmF L (i::st.kupto i k)) W q1 (by have:=KU hw (by omega) q1 q2;omega) (hnd.filter _) (fun j hj=>?_) mW (Ce gw hsc fun e=>hscm (by injection e))).mono ?_
   ·have:=hFT j (WT hw i k hkl hj);exact⟨this.1.grown gw,WS.2 ⟨this.2,PF hw i k hkl hj⟩⟩
   ·rintro e w' ⟨rfl,r1,r2,r3⟩;rw[WQ,List.cons_append,<-KZ st i k hkl]at r1;exact⟨rfl,r1,⟨r2.os.trans gW.os,r2.tape.trans gW.tape,r2.output.trans gW.output,bh gW.size r2.size,fun b hb hne=>by rw[r2.block b (aQ hb gW.size) hne,gW.block b hb hne]⟩,by omega⟩
  have HEnd:Hid (∀(W:World),A1 W mp (rmF L (i::st.kupto i m)) (fun(j:Nat)=>blk j)->w1.grownBy W (some mp)->W.heap.size=w.heap.size->A1 W mp (rmF L (i::st.dfs i)) (fun(j:Nat)=>blk j)/\w.grownBy W (some mp)):=fun W mW gW sW=>by
   rw[Tx hw i m (by omega)]at mW;exact⟨mW,⟨gW.os.trans g1.os,gW.tape.trans g1.tape,gW.output.trans g1.output,by omega,fun b hb hne=>by rw[gW.block b (aQ hb g1.size) hne,g1.block b hb hne];rfl⟩⟩
  have HI1:Hid (A1 w1 mp (rmF L (i::st.kupto i 0)) (fun(j:Nat)=>blk j)/\w1.grownBy w1 (some mp)/\w1.heap.size=w.heap.size):=⟨m1,⟨rfl,rfl,rfl,aO _,fun _ _ _=>rfl⟩,s1⟩;clear ih hFT hm ho2 hi m1 g1 s1 ho1;obtain⟨ib,hib⟩:∃ib,blk i=ib:=⟨_,rfl⟩;rw[hib]at hnum ho3 ⊢;go_enter func113,ntmps113
  go_wp2_with fail
  go_region
  go_wp2_with fail
  clear hsc hnum ho3 hrun
  go_loopg [19] m (fun gg s19 wr=>∃k:Nat,s19=.int .i64 (k:Int)/\gg+k=m/\Hid (A1 wr mp (rmF L (i::st.kupto i k)) (fun(j:Nat)=>blk j)/\w1.grownBy wr (some mp)/\wr.heap.size=w.heap.size))
  case atStart=>exact⟨0,rfl,by omega,HI1.out⟩
  case round=>
   obtain⟨k,rfl,hgk,HR⟩:=hrel;cases gk with
   |zero=>
    have hlt:¬(k:Int)<(m:Int):=by omega
    have hkm:k=m:=by omega
    subst hkm
    go_wp2_with fail
    exact cV (v:=.tuple #[]) (by simp[results,results113]) rfl ⟨rfl,(HEnd.out _ HR.out.1 HR.out.2.1 HR.out.2.2).1,(HEnd.out _ HR.out.1 HR.out.2.1 HR.out.2.2).2,HR.out.2.2⟩
   |succ gg=>
    have hlt:(k:Int)<(m:Int):=by omega
    obtain⟨g,j,rfl,hc,hcall⟩:=HL.out k _ HR.out.1 HR.out.2.1 HR.out.2.2 (by omega);have HC:=Aa hcall;have hkm:k<m:=by omega
    clear hcall
    go_wp2_with(go_at_call 113;refine HC.out.mono ?_;rintro e w' ⟨rfl,r1⟩;have HR1:=Aa r1;clear r1)
    go_roundg gg
    case measure=>omega
    case rel=>exact⟨k+1,by go_num,by omega,HR1.out⟩
theorem AR.ptrs(h:AR w S x st bv sc mp blk G)(hp:BN st p):Ri w (G p 2) (st.kids p) fun(j:Nat)=>blk j:=by
 have hr:=h.on p hp;obtain⟨a,c,ha⟩:=hr.form;refine⟨⟨a,c,ha,fun k hk=>?_⟩,fun j hj=>?_⟩
 ·obtain⟨g,cap,e1,e2,e3,e4,e5,e6⟩:=hr.open (by omega);rw[ha]at e1;injection e1 with e1;refine⟨g,e1,e4,e5 k _ ?_⟩;rw[bZ,aU hk];rfl
 ·obtain⟨kc,kf,kl⟩:=h.at (Gd hj);refine⟨?_,kl⟩;rw[kc 0 (by omega),(h.cells j (Gd hj)).num]
theorem AR.rowAt(h:AR w S x st bv sc mp blk G)(hp:BN st p)(hne:st.kids p≠[]):
  ∃g n cap cur,G p 2=.slice (some ⟨g,0,none⟩) (n+1) cap/\(st.kids p).length=n+1/\w.heap[g]?=some (.cells cur 117 (0,0))/\cur.size=cap/\cap<=maxLen/\n+1<=cap/\cur.toList.take (n+1)=((st.kids p).map fun(j:Nat)=>BE (blk j))/\S g:=by
 have hr:=h.on p hp;have hl:0<(st.kids p).length:=List.length_pos_iff.2 hne;obtain⟨h1,h2⟩:=hr;obtain⟨h3,h4⟩:=h1;rcases h4 with⟨_,h4⟩|⟨g,cap,cur,e1,e2,e3,e4,e5,e6,e7⟩
 ·omega
 ·obtain⟨n,hn⟩:∃n,(st.kids p).length=n+1:=⟨(st.kids p).length-1,by omega⟩;rw[hn]at e1 e4 e7;exact⟨g,n,cap,cur,e1,hn,e3,by rw[e6,Nat.mul_one],e5,e4,by rw[<-e7,Nat.mul_one],h2 g (by rw[e1];rfl)⟩
theorem NN{L:List Nat}{i:Nat}(hi:i∈L){r:Int}(h:Vc L (i:Int) r):∃k:Nat,r=k/\L[k]?=some i:=by
 rcases h with⟨_,h⟩|⟨k,j,h1,h2,h3⟩
 ·exact absurd rfl (h i hi)
 ·have:j=i:=by omega
  subst this;exact⟨k,h1,h2⟩
end Go.Proofs.YtofinpocigbbeaaGreat
