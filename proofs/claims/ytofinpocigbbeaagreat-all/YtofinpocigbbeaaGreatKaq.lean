import Derived.Test.YtofinpocigbbeaaGreatKan
set_option maxHeartbeats 1000000
set_option maxRecDepth 100000
set_option linter.unusedSimpArgs false
namespace Go.Proofs.YtofinpocigbbeaaGreat
open Go.Proofs.Tryz Go.RowKit
attribute [local go_sem ↓] Go.wp_at_zero Go.wp_at_succ
variable{S:Nat->Prop}{bv:Value}{g j x:Nat}{st:St}{u:Option Nat}{w w':World}
theorem Ce(h:w.grownBy w' u){q:Value}(hc:w.cell? (jA g j)=some q)(hne:some g≠u):w'.cell? (jA g j)=some q:=h.cell hc hne
theorem KY(h:w.grownBy w' u)(hl:g<w.heap.size)(hc:w.frozen? (jA g j)=false)(hne:some g≠u):w'.frozen? (jA g j)=false:=(World.frozen?_of_block (h.block g hl hne)).trans hc
def Vg(S:Nat->Prop)(x:Nat)(bv:Value)(p:Int×Int×St)(w:World)(e:Ending)(w':World):Prop:=e=.returned (.tuple #[vj p.1,vj p.2.1])/\AX w' (AA S w w') x p.2.2 bv/\Ac S w w'
theorem Rp(hw:Wf st){sc mp:Nat}{blk:Int->Nat}{G:Int->Nat->Value}(h:AR w S x st bv sc mp blk G)(p:Int)(hp:BN st p)(hmade:st.sfs.length<60):
  Calls prog 57 #[pj sc,pj (blk p)] w fun e w'=>e=.returned (vj (st.sfs.length:Int))/\AX w' (AA S w w') x (mk st p) bv/\Ac S w w':=by
 obtain⟨i0,hi0,hz0,hz1,hz2⟩:=cW GW;obtain⟨k0,k1,k2,k3,k4⟩:=h.sceCells;obtain⟨pc,pf,pl⟩:=h.at hp;have p2:=pc 2 (by omega);have hrow:=h.on p hp;obtain⟨oa,oc,ho⟩:=hrow.form;have hkl:(st.kids p).length<=12:=bh (ci _ _) hw.len;have f2:=k4 2;have hscn:¬sc=w.heap.size:=by omega
 have hpn:¬blk p=w.heap.size:=by omega
 obtain⟨pcur,hpcur,_⟩:=h.srf p hp;have hmpl:=h.map.lt;have hmpn:mp≠w.heap.size:=by omega
 have hscp:sc≠blk p:=neT h.sce hpcur (by decide);have hpmp:blk p≠mp:=h.map.ne hpcur;have hscmp:sc≠mp:=h.map.ne h.sce;obtain⟨A,hA⟩:∃A,A=(w.setCell (jA sc 2) (vj ((st.sfs.length:Int)+1))).alloc (.cells (II st.sfs.length (blk p)) 174):=⟨_,rfl⟩;have hAs:A.heap.size=w.heap.size+1:=by rw[hA];simp
 have hAo:∀g,g<w.heap.size->g≠sc->A.heap[g]?=w.heap[g]? :=fun g hg hne=>by
  rw[hA,Ad _ _ g (by simpa using hg),aL w (jA sc 2) g _ hne]
 have hAn:A.heap[w.heap.size]?=some (.cells (II st.sfs.length (blk p)) 174 (0,0)):=by
  rw[hA];have:=aR (w.setCell (jA sc 2) (vj ((st.sfs.length:Int)+1))) (.cells (II st.sfs.length (blk p)) 174);simpa using this
 have hAsc:A.heap[sc]?=some (.cells #[BE (blk (-1)),.map (some mp),vj ((st.sfs.length:Int)+1)] 152 (0,0)):=by
  rw[hA,Ad _ _ sc (by simpa using k3),bH w sc 2 _ _ _ h.sce];rfl
 have hOA:Ac S w A:=by
  rw[hA];exact((Ac.refl S w).set (.inl h.own.2.1) _).alloc _
 have HM:Hid (A1 A.drew mp st.order fun(i:Nat)=>upB blk st.sfs.length w.heap.size i):=by
  refine A1.congr (h.map.keep (hAo mp hmpl (fun e=>hscmp e.symm))) (List.Perm.refl _) fun i hi=>?_;have:=hw.lt hi;exact SF (by omega)
 have HNo:Hid (st.sfs.length∉st.order):=fun hi=>by have:=hw.lt hi;omega
 have HU:Hid (upB blk st.sfs.length w.heap.size ((st.sfs.length:Nat):Int)=w.heap.size):=GY _ _ _;have HF2:Hid (∀w2:World,A.drew.grownBy w2 (some mp)->w2.heap.size=A.drew.heap.size->w2.cell? (jA (blk p) 2)=some (.slice oa (st.kids p).length oc)/\w2.frozen? (jA (blk p) 2)=false/\w2.cell? (jA w.heap.size 0)=some (vj (st.sfs.length:Int))/\w2.heap.size=w.heap.size+1/\w2.ownsRow 0 117 1 (.slice oa (st.kids p).length oc) (st.kids p).length ((st.kids p).map fun(i:Nat)=>BE (blk i))):=fun w2 g2 s2=>by
  refine⟨Ce g2 ?_ (fun e=>hpmp (by injection e)),KY g2 (show blk p<A.heap.size by omega) ?_ (fun e=>hpmp (by injection e)),Ce g2 ?_ (fun e=>hmpn (by injection e with e;exact e.symm)),?_,?_⟩
  ·show A.cell? _=_;rw[aV (w:=w) (a:=(jA (blk p) 2)) (hAo _ pl (fun e=>hscp e.symm)),p2,ho]
  ·show A.frozen? _=_;rw[World.frozen?_of_block (w:=w) (a:=(jA (blk p) 2)) (hAo _ pl (fun e=>hscp e.symm))];exact pf 2
  ·show A.cell? _=_;rw[aP A _ _ _ _ _ hAn];rfl
  ·rw[s2];exact hAs
  ·have hr:=hrow.1;rw[ho]at hr;refine Ai hr fun g hg=>?_;obtain⟨c,hc⟩:=Ap hr hg;have hgl:=(aM.1 hc).1;rw[g2.block g (show g<A.heap.size by omega) (fun e=>h.map.ne hc (by injection e))];exact hAo g hgl (neT hc h.sce (by decide))
 have HEnd:Hid (∀(w2 w4:World) (v:Value),A1 w2 mp (st.order++[st.sfs.length]) (fun(i:Nat)=>upB blk st.sfs.length w.heap.size i)->A.drew.grownBy w2 (some mp)->w2.heap.size=w.heap.size+1->w4.ownsRow 0 117 1 v ((st.kids p).length+1) (((st.kids p).map fun(i:Nat)=>BE (blk i))++[BE w.heap.size])->(w2.alloc (.cells #[pj w.heap.size] 117)).grownBy w4 (Value.slice oa (st.kids p).length oc).ownBlock->(v.ownBlock=(Value.slice oa (st.kids p).length oc).ownBlock\/v.ownBlock=some (w.heap.size+1+1))->
   w4.cell? (jA (blk p) 2)=some (.slice oa (st.kids p).length oc)/\w4.frozen? (jA (blk p) 2)=false/\w4.cell? (jA w.heap.size 0)=some (vj (st.sfs.length:Int))/\AX (w4.setCell (jA (blk p) 2) v) (AA S w (w4.setCell (jA (blk p) 2) v)) x (mk st p) bv/\Ac S w (w4.setCell (jA (blk p) 2) v)):=fun w2 w4 v m2 g2 s2 r4 g4 hv=>by
  have hob:∀g,(Value.slice oa (st.kids p).length oc).ownBlock=some g->∃c,w.heap[g]?=some (.cells c 117 (0,0)):=fun g hg=>by
   rw[<-ho]at hg;exact hrow.type hg
  have hobn:∀ {g:Nat} {c:Array Value} {t:TypeId},w.heap[g]?=some (.cells c t (0,0))->t≠117->some g≠(Value.slice oa (st.kids p).length oc).ownBlock:=fun{g c t} hg ht e=>by
   obtain⟨c2,hc2⟩:=hob g e.symm;exact neT hg hc2 ht rfl
  have h43:∀g,g<w.heap.size+1->some g≠(Value.slice oa (st.kids p).length oc).ownBlock->w4.heap[g]?=w2.heap[g]? :=fun g hg hne=>by
   rw[g4.block g (by simp;omega) hne,Ad _ _ g (by omega)]
  have h42:∀g,g<w.heap.size->g≠sc->g≠mp->some g≠(Value.slice oa (st.kids p).length oc).ownBlock->w4.heap[g]?=w.heap[g]? :=fun g hg h1 h2 hne=>by
   rw[h43 g (by omega) hne,g2.block g (show g<A.heap.size by omega) (fun e=>h2 (by injection e))];exact hAo g hg h1
  have hnn:some w.heap.size≠(Value.slice oa (st.kids p).length oc).ownBlock:=fun e=>by
   obtain⟨c,hc⟩:=hob _ e.symm;have:=(aM.1 hc).1;omega
  have h4n:w4.heap[w.heap.size]?=some (.cells (II st.sfs.length (blk p)) 174 (0,0)):=by
   rw[h43 _ (by omega) hnn,g2.block _ (show w.heap.size<A.heap.size by omega) (fun e=>hmpn (by injection e with e;exact e.symm))];exact hAn
  have h4p:=h42 (blk p) pl (fun e=>hscp e.symm) hpmp (hobn hpcur (by decide));have h4c:w4.cell? (jA (blk p) 2)=some (.slice oa (st.kids p).length oc):=by
   rw[aV (w:=w) (a:=(jA (blk p) 2)) h4p,p2,ho]
  have hmpo:some mp≠(Value.slice oa (st.kids p).length oc).ownBlock:=fun e=>by
   obtain⟨c,hc⟩:=hob _ e.symm;exact h.map.ne hc rfl
  have hsco:=hobn h.sce (by decide);have h4s:w.heap.size+1+1<=w4.heap.size:=by
   have:=g4.size;simp at this;omega
  have hO4:Ac S w w4:=by
   have o2:Ac S w w2:=hOA.drew.grown g2 fun g e=>.inl (by injection e with e;rw[<-e];exact h.own.2.2.1);refine(o2.alloc _).grown g4 fun g e=>.inl ?_;rw[<-ho]at e;exact hrow.2 g e
  have hO5:Ac S w (w4.setCell (jA (blk p) 2) v):=hO4.set (.inl (h.own.2.2.2 p hp)) v;have hpcs:B4 w (blk p) (G p):=h.srf p hp;have h5o:∀g,g≠blk p->(w4.setCell (jA (blk p) 2) v).heap[g]?=w4.heap[g]? :=fun g hne=>aL w4 (jA (blk p) 2) g v hne;have hS5:AA S w (w4.setCell (jA (blk p) 2) v) w.heap.size:=.inr ⟨aO _,by simp;omega⟩;refine⟨h4c,by rw[World.frozen?_of_block (w:=w) (a:=(jA (blk p) 2)) h4p];exact pf 2,by rw[aP w4 _ _ _ _ _ h4n];rfl,⟨sc,mp,_,_,h.more hw hp (fun _ hg=>AI hg) (aO _) hS5 (v:=v) ?_ ?_ ?_ ?_ ?_ ?_ ?_⟩,hO5⟩
  ·rw[h5o sc hscp,h43 sc (by omega) hsco,g2.block sc (show sc<A.heap.size by omega) (fun e=>hscmp (by injection e))];exact hAsc
  ·refine m2.keep ?_;rw[h5o mp (fun e=>hpmp e.symm),h43 mp (by omega) hmpo]
  ·rw[h5o _ (fun e=>hpn e.symm)];exact h4n
  ·exact(hpcs.keep h4p).set 2 v
  ·refine⟨Ai r4 fun g hg=>h5o g ?_,fun g hg=>?_⟩
   ·rintro rfl;rcases hv with hv|hv
    ·rw[hv]at hg;exact hobn hpcur (by decide) hg.symm
    ·rw[hv]at hg;injection hg with hg;omega
   ·rcases hv with hv|hv
    ·rw[hv,<-ho]at hg;exact .inl (hrow.2 g hg)
    ·rw[hv]at hg;injection hg with hg;subst hg;refine .inr ⟨by omega,?_⟩;obtain⟨c,hc⟩:=Ap r4 (k:=w.heap.size+1+1) hv;have:=(aM.1 hc).1;simpa using this
  ·rcases hv with hv|hv
   ·exact .inl (by rw[hv,ho])
   ·exact .inr ⟨_,hv,by omega⟩
  ·intro g hg h1 h2 h3 h4;rw[h5o g h3];exact h42 g hg h1 h2 (by rw[<-ho];exact h4)
 have HA:=Aa hA;have a1:A.cell? (jA sc 1)=some (.map (some mp)):=by rw[aP A _ _ _ _ _ hAsc];rfl
 have a2:A.cell? (jA w.heap.size 0)=some (vj (st.sfs.length:Int)):=by rw[aP A _ _ _ _ _ hAn];rfl
 have HA1:=Aa (aK a1 a2);clear a1 a2;have hmade2:(st.sfs.length:Int)<60:=by omega
 clear hrow h pc pf hw hAo hAn hAsc hOA hA;obtain⟨n,hn⟩:∃n,st.sfs.length=n:=⟨_,rfl⟩;obtain⟨kn,hkn⟩:∃kn,(st.kids p).length=kn:=⟨_,rfl⟩;obtain⟨ks,hks⟩:∃ks,((st.kids p).map fun(i:Nat)=>BE (blk i))=ks:=⟨_,rfl⟩;rw[hn]at hmade2 HM HNo HU HF2 HEnd HA HA1 k2 ⊢;rw[hkn]at HF2 HEnd ho hkl;rw[hks]at HF2 HEnd;unfold II at HA;obtain⟨pb,hpb⟩:∃pb,blk p=pb:=⟨_,rfl⟩;rw[hpb]at HA HF2 HEnd p2 hpn hscp hpmp pl ⊢;clear hpb;go_enter func57,ntmps57
 go_wp2_with fail
 rw[<-HA.out];obtain⟨a1,a2⟩:=HA1.out;obtain⟨w2,hrun,m2,g2,s2⟩:=HM.out.store (P:=prog) underlying150 underlying3 HNo.out w.heap.size HU.out
 go_region
 obtain⟨q1,q2,q3,q4,q5⟩:=HF2.out w2 g2 s2;have H2:=Aa (aK m2 (aK g2 q4));have HQ5:=Aa q5;have hw2n:¬w.heap.size=w2.heap.size:=by omega
 have hpbn:¬pb=w2.heap.size:=by omega
 clear m2 g2 s2 q4 q5 HF2 hrun
 go_wp2_with(at_builtin;refine Am (P:=prog) rfl (.tmp 33) (.tmp 35) 170 rfl 0 117 i0 _ 1 8 underlying170 hi0 hz0 hz1 hz2 rfl (by decide) (.slice oa kn oc) kn ks rfl (HQ5.out.alloc _) (sj w2.heap.size 1 1) 1 [BE w.heap.size] rfl rfl (.inr ⟨_,_,rfl,cell_one_new _ _ _⟩) (by simp[Value.oneCell',BE]) (by unfold maxLen;omega) (by omega) (by simp) ?_;intro v w4 r4 g4 z4 hv;obtain⟨va,vc,rfl⟩:=Al r4;rw[show(w2.alloc (.cells #[pj w.heap.size] 117)).heap.size=w.heap.size+1+1 by simp;exact H2.out.2.2]at hv;obtain⟨e1,e2,e3,e4,e5⟩:=HEnd.out w2 w4 _ H2.out.1 H2.out.2.1 H2.out.2.2 r4 g4 hv;have HR:=Aa (aK e4 e5);clear e4 e5 r4 g4 z4 hv)
 go_ret;exact⟨rfl,HR.out.1,HR.out.2⟩
theorem Rq(hw:Wf st)(p:Int)(w:World)(h:AX w S x st bv):
  Calls prog 27 #[pj x,vj p] w (Vg S x bv (Bo st p) w):=by
 have HE:Hid (∀er:Int,Vg S x bv (0,er,st) w (.returned (.tuple #[vj 0,vj er])) w):=fun er=>⟨rfl,h.mono fun _ hg=>AI hg,Ac.refl _ _⟩;obtain⟨sc,mp,blk,G,h⟩:=h;obtain⟨x0,x1,xl⟩:=h.scrCells;have HP:=Aa (NM hw h p);have HF:=Aa (Ro hw h);have HM:=Aa (Rp hw h p);unfold Bo;by_cases hp:p= -1\/st.isB p=true
 ·rw[if_pos hp];have hl:BN st p:=by
   rcases hp with hp|hp
   ·exact .inl hp
   ·exact .inr ((AV hw p).1 hp)
  have hv:(if p= -1 then pj (blk (-1))else FD st blk p)=pj (blk p):=by
   by_cases e:p= -1
   ·rw[if_pos e,e]
   ·rw[if_neg e];unfold FD;rw[if_pos (hp.resolve_left e)]
  rw[hv]at HP;by_cases hc:st.order.length<12/\st.sfs.length<60
  ·rw[if_pos hc];rw[bQ hc]at HF;have HM2:=Aa (HM.out hl hc.2);clear h hp hv HM hl hc;go_enter func27,ntmps27
   go_wp2_with(first
    |(go_at_call 55;refine HP.out.mono ?_;rintro e w' ⟨rfl,hw'⟩;replace hw':=hw'.symm;subst hw')
    |(go_at_call 56;refine HF.out.mono ?_;rintro e w' ⟨rfl,hw'⟩;replace hw':=hw'.symm;subst hw')
    |(go_at_call 57;refine HM2.out.mono ?_;rintro e w' ⟨rfl,r1,r2⟩;have HR:=Aa (aK r1 r2);clear r1 r2))
   go_ret2
   exact⟨rfl,HR.out.1,HR.out.2⟩
  ·rw[if_neg hc];rw[cE hc]at HF;clear h hp hv HM hl hc;go_enter func27,ntmps27
   go_wp2_with(first
    |(go_at_call 55;refine HP.out.mono ?_;rintro e w' ⟨rfl,hw'⟩;replace hw':=hw'.symm;subst hw')
    |(go_at_call 56;refine HF.out.mono ?_;rintro e w' ⟨rfl,hw'⟩;replace hw':=hw'.symm;subst hw'))
   go_ret2
   exact HE.out 9
 ·rw[if_neg hp];have hv:(if p= -1 then pj (blk (-1))else FD st blk p)=.pointer none:=by
   rw[if_neg (fun e=>hp (.inl e))];unfold FD;rw[if_neg (fun e=>hp (.inr e))]
  rw[hv]at HP;clear h hp hv HM HF;go_enter func27,ntmps27
  go_wp2_with(go_at_call 55;refine HP.out.mono ?_;rintro e w' ⟨rfl,hw'⟩;replace hw':=hw'.symm;subst hw')
  go_ret2
  exact HE.out 6
variable{L:List Nat}{blk:Int->Nat}{m mp:Nat}
def rmF(L D:List Nat):List Nat:=L.filter fun a=> !D.contains a
theorem WQ(L D E:List Nat):rmF (rmF L D) E=rmF L (D++E):=by
 unfold rmF;rw[List.filter_filter];refine List.filter_congr fun a _=>?_;simp only[List.contains_append,Bool.not_or];exact Bool.and_comm _ _
theorem WR(h:L.Nodup)(a:Nat):L.erase a=rmF L [a]:=by
 rw[h.erase_eq_filter];unfold rmF;refine List.filter_congr fun b _=>?_;rw[Bool.eq_iff_iff];simp
theorem WS{D:List Nat}{a:Nat}:a∈rmF L D↔a∈L/\a∉D:=by
 unfold rmF;rw[bY];simp
structure FT(w:World)(st:St)(blk:Int->Nat)(mp:Nat)(j:Nat):Prop where
 num:w.cell? (jA (blk j) 0)=some (vj (j:Int))
 lt:blk j<w.heap.size
 ne:blk j≠mp
 on:∃a c,w.cell? (jA (blk j) 2)=some (.slice a (st.kids j).length c)/\∀k (h:k<(st.kids j).length),∃g,a=some (jA g 0)/\g<w.heap.size/\g≠mp/\w.cell? (jA g k)=some (pj (blk ((st.kids j)[k]:Nat)))
theorem FT.grown{w w':World}{j:Nat}(h:FT w st blk mp j)(hg:w.grownBy w' (some mp)):FT w' st blk mp j:=by
 obtain⟨a,c,h1,h2⟩:=h.on;refine⟨Ce hg h.num fun e=>h.ne (by injection e),aQ h.lt hg.size,h.ne,a,c,Ce hg h1 fun e=>h.ne (by injection e),fun k hk=>?_⟩;obtain⟨g,e1,e2,e3,e4⟩:=h2 k hk;exact⟨g,e1,aQ e2 hg.size,e3,Ce hg e4 fun e=>e3 (by injection e)⟩
def St.kupto(st:St)(i:Nat)(k:Nat):List Nat:=((st.kids i).take k).flatMap fun j=>j::st.dfs j
theorem KZ(st:St)(i k:Nat)(h:k<(st.kids i).length):st.kupto i (k+1)=st.kupto i k++((st.kids i)[k]::st.dfs (st.kids i)[k]):=by
 unfold St.kupto;rw[bn h,cM];simp
theorem Tx(hw:Wf st)(i k:Nat)(h:(st.kids i).length<=k):st.kupto i k=st.dfs i:=by
 unfold St.kupto;rw[bw h,CN hw i (by omega)]
theorem Ex(hw:Wf st)(p:Int):(st.kids p).length<=12:=bh (ci _ _) hw.len
theorem Ty(hw:Wf st)(i:Nat):(i::st.dfs i).Nodup:=by
 rw[List.nodup_cons];exact⟨fun h=>((CJ hw st.sfs.length i (by omega) i).1 h).2.1 rfl,Jf hw st.sfs.length i (by omega)⟩
theorem PF(hw:Wf st)(i k:Nat)(h:k<(st.kids i).length)(hm:m∈(st.kids i)[k]::st.dfs (st.kids i)[k]):m∉i::st.kupto i k:=by
 have hn:=Ty hw i;rw[CN hw i (by omega)]at hn;have e:(st.kids i).flatMap (fun j=>j::st.dfs j)=st.kupto i (k+1)++((st.kids i).drop (k+1)).flatMap fun j=>j::st.dfs j:=by
  unfold St.kupto;rw[<-cM,List.take_append_drop]
 rw[e,KZ st i k h,<-List.cons_append,<-List.cons_append,List.nodup_append,List.nodup_append]at hn;intro h2;exact hn.1.2.2 m h2 m hm rfl
theorem WT(hw:Wf st)(i k:Nat)(h:k<(st.kids i).length)(hm:m∈(st.kids i)[k]::st.dfs (st.kids i)[k]):m∈i::st.dfs i:=by
 rw[CN hw i (by omega)];exact List.mem_cons_of_mem _ (List.mem_flatMap.2 ⟨_,aZ h,hm⟩)
theorem Rr(hw:Wf st){sc:Nat}(hscm:sc≠mp):∀(n:Nat) (i:Nat) (L:List Nat) (w:World),i∈st.order->st.need i<=n->L.Nodup->(∀j∈i::st.dfs i,FT w st blk mp j/\j∈L)->A1 w mp L (fun(j:Nat)=>blk j)->w.cell? (jA sc 1)=some (.map (some mp))->
  Calls prog 113 #[pj sc,pj (blk i)] w fun e w'=>e=.returned (.tuple #[])/\A1 w' mp (rmF L (i::st.dfs i)) (fun(j:Nat)=>blk j)/\w.grownBy w' (some mp)/\w'.heap.size=w.heap.size:=by
 intro n;induction n with
 |zero=>intro i L w _ h;unfold St.need at h;omega
 |succ n ih=>
  intro i L w hio hneed hnd hFT hm hsc;have hi:=(hFT i (by simp)).1;obtain⟨oa,oc,ho1,ho2⟩:=hi.on;have hnum:=hi.num;obtain⟨m,hmk⟩:∃m,(st.kids i).length=m:=⟨_,rfl⟩;have hm12:m<=12:=by rw[<-hmk];exact Ex hw i
  obtain⟨w1,hrun,m1,g1,s1⟩:=(hm.keep (w':=w.drew) rfl).delete (P:=prog) (ty:=0) underlying150 underlying3 (hFT i (by simp)).2;rw[WR hnd]at m1;have ho3:w1.cell? (jA (blk i) 2)=some (.slice oa (st.kids i).length oc):=Ce g1 ho1 fun e=>hi.ne (by injection e);rw[hmk]at ho3;have HL:Hid (∀(k:Nat) (W:World),A1 W mp (rmF L (i::st.kupto i k)) (fun(j:Nat)=>blk j)->w1.grownBy W (some mp)->W.heap.size=w.heap.size->k<m->∃(g:Nat) (j:Nat),oa=some (jA g 0)/\W.cell? (jA g k)=some (pj (blk j))/\
    Calls prog 113 #[pj sc,pj (blk j)] W fun e w'=>e=.returned (.tuple #[])/\A1 w' mp (rmF L (i::st.kupto i (k+1))) (fun(j:Nat)=>blk j)/\w1.grownBy w' (some mp)/\w'.heap.size=w.heap.size):=fun k W mW gW sW hkm=>by
   have hkl:k<(st.kids i).length:=by omega
   obtain⟨g,e1,e2,e3,e4⟩:=ho2 k hkl;obtain⟨q1,q2⟩:=AN.1 (aZ hkl);have gw:w.grownBy W (some mp):=⟨gW.os.trans g1.os,gW.tape.trans g1.tape,gW.output.trans g1.output,by omega,fun b hb hne=>by rw[gW.block b (aQ hb g1.size) hne,g1.block b hb hne];rfl⟩;refine⟨g,(st.kids i)[k],e1,Ce gw e4 fun e=>e3 (by injection e),?_⟩;refine(ih (st.kids i)[k] (rmF L (i::st.kupto i k)) W q1 (by have:=KU hw (by omega) q1 q2;omega) (hnd.filter _) (fun j hj=>?_) mW (Ce gw hsc fun e=>hscm (by injection e))).mono ?_
   ·have:=hFT j (WT hw i k hkl hj);exact⟨this.1.grown gw,WS.2 ⟨this.2,PF hw i k hkl hj⟩⟩
   ·rintro e w' ⟨rfl,r1,r2,r3⟩;rw[WQ,List.cons_append,<-KZ st i k hkl]at r1;exact⟨rfl,r1,⟨r2.os.trans gW.os,r2.tape.trans gW.tape,r2.output.trans gW.output,bh gW.size r2.size,fun b hb hne=>by rw[r2.block b (aQ hb gW.size) hne,gW.block b hb hne]⟩,by omega⟩
  have HEnd:Hid (∀(W:World),A1 W mp (rmF L (i::st.kupto i m)) (fun(j:Nat)=>blk j)->w1.grownBy W (some mp)->W.heap.size=w.heap.size->A1 W mp (rmF L (i::st.dfs i)) (fun(j:Nat)=>blk j)/\w.grownBy W (some mp)):=fun W mW gW sW=>by
   rw[Tx hw i m (by omega)]at mW;exact⟨mW,⟨gW.os.trans g1.os,gW.tape.trans g1.tape,gW.output.trans g1.output,by omega,fun b hb hne=>by rw[gW.block b (aQ hb g1.size) hne,g1.block b hb hne];rfl⟩⟩
  have HI1:Hid (A1 w1 mp (rmF L (i::st.kupto i 0)) (fun(j:Nat)=>blk j)/\w1.grownBy w1 (some mp)/\w1.heap.size=w.heap.size):=⟨m1,⟨rfl,rfl,rfl,aO _,fun _ _ _=>rfl⟩,s1⟩;clear ih hFT hm ho2 hi m1 g1 s1 ho1;obtain⟨ib,hib⟩:∃ib,blk i=ib:=⟨_,rfl⟩;rw[hib]at hnum ho3 ⊢;go_enter func113,ntmps113
  go_wp2_with fail
  go_region
  go_wp2_with fail
  clear hsc hnum ho3 hrun
  go_loopg [19] m (fun gg s19 wr=>∃k:Nat,s19=vj (k:Int)/\gg+k=m/\Hid (A1 wr mp (rmF L (i::st.kupto i k)) (fun(j:Nat)=>blk j)/\w1.grownBy wr (some mp)/\wr.heap.size=w.heap.size))
  case atStart=>exact⟨0,rfl,by omega,HI1.out⟩
  case round=>
   obtain⟨k,rfl,hgk,HR⟩:=hrel;cases gk with
   |zero=>
    have hlt:¬(k:Int)<(m:Int):=by omega
    have hkm:k=m:=by omega
    subst hkm
    go_wp2_with fail
    exact cV (v:=.tuple #[]) (by simp[results,results113]) rfl ⟨rfl,(HEnd.out _ HR.out.1 HR.out.2.1 HR.out.2.2).1,(HEnd.out _ HR.out.1 HR.out.2.1 HR.out.2.2).2,HR.out.2.2⟩
   |succ gg=>
    have hlt:(k:Int)<(m:Int):=by omega
    obtain⟨g,j,rfl,hc,hcall⟩:=HL.out k _ HR.out.1 HR.out.2.1 HR.out.2.2 (by omega);have HC:=Aa hcall;have hkm:k<m:=by omega
    clear hcall
    go_wp2_with(go_at_call 113;refine HC.out.mono ?_;rintro e w' ⟨rfl,r1⟩;have HR1:=Aa r1;clear r1)
    go_roundg gg
    case measure=>omega
    case rel=>exact⟨k+1,by go_num,by omega,HR1.out⟩
variable{G:Int->Nat->Value}{sc:Nat}{p:Int}
theorem AR.ptrs(h:AR w S x st bv sc mp blk G)(hp:BN st p):Ri w (G p 2) (st.kids p) fun(j:Nat)=>blk j:=by
 have hr:=h.on p hp;obtain⟨a,c,ha⟩:=hr.form;refine⟨⟨a,c,ha,fun k hk=>?_⟩,fun j hj=>?_⟩
 ·obtain⟨g,cap,e1,e2,e3,e4,e5,e6⟩:=hr.open (by omega);rw[ha]at e1;injection e1 with e1;refine⟨g,e1,e4,e5 k _ ?_⟩;rw[bZ,aU hk];rfl
 ·obtain⟨kc,kf,kl⟩:=h.at (Gd hj);refine⟨?_,kl⟩;rw[kc 0 (by omega),(h.cells j (Gd hj)).num]
theorem AR.rowAt(h:AR w S x st bv sc mp blk G)(hp:BN st p)(hne:st.kids p≠[]):
  ∃g n cap cur,G p 2=sj g (n+1) cap/\(st.kids p).length=n+1/\w.heap[g]?=some (.cells cur 117 (0,0))/\cur.size=cap/\cap<=maxLen/\n+1<=cap/\cur.toList.take (n+1)=((st.kids p).map fun(j:Nat)=>BE (blk j))/\S g:=by
 have hr:=h.on p hp;have hl:0<(st.kids p).length:=List.length_pos_iff.2 hne;obtain⟨h1,h2⟩:=hr;obtain⟨h3,h4⟩:=h1;rcases h4 with⟨_,h4⟩|⟨g,cap,cur,e1,e2,e3,e4,e5,e6,e7⟩
 ·omega
 ·obtain⟨n,hn⟩:∃n,(st.kids p).length=n+1:=⟨(st.kids p).length-1,by omega⟩;rw[hn]at e1 e4 e7;exact⟨g,n,cap,cur,e1,hn,e3,by rw[e6,Nat.mul_one],e5,e4,by rw[<-e7,Nat.mul_one],h2 g (by rw[e1];rfl)⟩
theorem NN{L:List Nat}{i:Nat}(hi:i∈L){r:Int}(h:Vc L (i:Int) r):∃k:Nat,r=k/\L[k]?=some i:=by
 rcases h with⟨_,h⟩|⟨k,j,h1,h2,h3⟩
 ·exact absurd rfl (h i hi)
 ·have:j=i:=by omega
  subst this;exact⟨k,h1,h2⟩
end Go.Proofs.YtofinpocigbbeaaGreat
