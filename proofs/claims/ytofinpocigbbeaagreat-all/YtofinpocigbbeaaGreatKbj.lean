import Derived.Test.YtofinpocigbbeaaGreatKbi
import Derived.Test.YtofinpocigbbeaaGreatKar
import Derived.Test.YtofinpocigbbeaaGreatKbh
set_option maxHeartbeats 1000000
set_option maxRecDepth 100000
set_option linter.unusedSimpArgs false
namespace Go.Proofs.YtofinpocigbbeaaGreat
open Go.Proofs.Tryz Go.RowKit
attribute [local go_sem ↓] Go.wp_at_zero Go.wp_at_succ
variable{S:Nat->Prop}{bv:Value}{sc x:Nat}{st:St}{w:World}
structure TE(w wx:World)(S:Nat->Prop)(st:St)(G:Int->Nat->Value)(blk:Int->Nat)(p:Int)(pb g n cap mp k:Nat):Prop where
 map:wx.heap[mp]?=w.heap[mp]?
 srf:B4 wx pb (upO (G p) 2 (sj g n cap))
 row:A4 wx S 117 1 (sj g n cap) n (((st.kids p).eraseIdx k).map fun(j:Nat)=>BE (blk j))
 oth:∀b,b<w.heap.size->b≠pb->b≠g->wx.heap[b]?=w.heap[b]?
 only:Ac S w wx
def Hk(w:World)(S:Nat->Prop)(x:Nat)(st:St)(bv:Value)(sc:Nat):Prop:=∃mp blk G,AR w S x st bv sc mp blk G
theorem Hk.mono{S':Nat->Prop}(h:Hk w S x st bv sc)(hS:∀g,S g->S' g):Hk w S' x st bv sc:=by
 obtain⟨mp,blk,G,h⟩:=h;exact⟨mp,blk,G,h.mono hS⟩
theorem Hk.ok(h:Hk w S x st bv sc):AX w S x st bv:=by
 obtain⟨mp,blk,G,h⟩:=h;exact⟨sc,mp,blk,G,h⟩
theorem L4{wi:World}(hw:Wf st){mp:Nat}{blk:Int->Nat}{G:Int->Nat->Value}(hraw:AR wi S x st bv sc mp blk G)(hSl:∀g,S g->g<wi.heap.size)(i:Nat)(hi:i∈st.order):
  Calls prog 66 #[pj sc,pj (blk i)] wi fun e w'=>∃v,e=.returned v/\AF w' wi.heap.size v ((st.visAll i).map st.seen)/\Hk w' (AA S wi w') x (rm st i) bv sc/\Ac S wi w':=by
 have HSP:=Aa (EX hw (Af hi) (hraw.lays hw (Af hi)) (hraw.sl hw (Af hi)));have HRaw:=Aa hraw;obtain⟨ib,hib⟩:∃ib,blk i=ib:=⟨_,rfl⟩;have HIB:=Aa hib;rw[hib]at HSP ⊢;clear hraw hib;go_enter func66,ntmps66
 go_upto_region 2 with(go_at_call 106;refine HSP.out.mono ?_;rintro e w ⟨v0,rfl,hv0,hb0⟩;obtain⟨va,vc,hvf⟩:=hv0.form;obtain⟨vn,hvn⟩:∃n,((st.visAll i).map st.seen).length=n:=⟨_,rfl⟩;rw[hvn]at hvf;subst hvf;have HV0:=Aa (aK hv0 hb0);clear hv0 hvn)
 have h:=HRaw.out.below HV0.out.2;have hib:=HIB.out;obtain⟨p,hpe⟩:∃p,(st.sf i).parent=p:=⟨_,rfl⟩;have hp:BN st p:=by rw[<-hpe];exact CR hw hi
 have hik:i∈st.kids p:=AN.2 ⟨hi,hpe⟩;obtain⟨g,n,cap,cur,r1,r2,r3,r4,r5,r6,r7,r8⟩:=h.rowAt hp (List.ne_nil_of_mem hik);have hk12n:=Ex hw p;rw[r2]at hk12n;obtain⟨ic,_,il⟩:=h.at (Af hi);obtain⟨pc,pf,pl⟩:=h.at hp;have q:=(h.cells i (Af hi)).nat;have i0:=ic 0 (by omega);have i1:=ic 1 (by omega);rw[q.num]at i0;rw[q.par,hpe]at i1;have p2:=pc 2 (by omega);rw[r1]at p2;have f2:=pf 2;have HFind:Hid (∀W:World,uj w W->Calls prog 111 #[pj (blk p),vj (i:Int)] W fun e w'=>∃k:Nat,e=.returned (vj (k:Int))/\(st.kids p)[k]?=some i/\uj w w'):=fun W hW=>by
  refine(Ge (st.kids p) (fun(j:Nat)=>blk j) (i:Int) (G p 2) (blk p) W ?_ (aQ pl hW.size) ((h.ptrs hp).below hW) (by have:=Ex hw p;omega)).mono ?_
  ·rw[hW.cell (p:=(jA (blk p) 2)) pl,pc 2 (by omega)]
  ·rintro e w' ⟨r,rfl,hr,hb⟩;obtain⟨k,rfl,hk⟩:=NN hik hr;exact⟨k,rfl,hk,hW.trans (hb.mono hW.size)⟩
 obtain⟨pcur,hpcur,hpcs⟩:=h.srf p hp;have hpg:blk p≠g:=neT hpcur r3 (by decide);obtain⟨icur,hicur,_⟩:=h.srf i (Af hi);have hig:blk i≠g:=neT hicur r3 (by decide);have hmpg:mp≠g:=fun e=>h.map.ne r3 e.symm;have hmpp:mp≠blk p:=fun e=>h.map.ne hpcur e.symm;have hgl:g<w.heap.size:=(aM.1 r3).1;have HD:Hid (∀k,k<n+1->∀W:World,uj w W->Calls prog 112 #[sj g (n+1) cap,vj (k:Int),vj ((k:Int)+1)] W fun e w'=>e=.returned (sj g n cap)/\(∃cur':Array Value,w'.heap[g]?=some (.cells cur' 117 (0,0))/\cur'.size=cap/\cur'.toList.take n=(cur.toList.take (n+1)).eraseIdx k)/\W.grownBy w' (some g)/\w'.heap.size=W.heap.size):=fun k hk W hW=>by
  refine KW g n cap k cur W ((hW.block g hgl).trans r3) r4 r5 r6 hk fun u hu=>?_;rw[r7]at hu;obtain⟨j,_,rfl⟩:=List.mem_map.1 hu;rfl
 have HMid:Hid (∀k,(st.kids p)[k]?=some i->∀W W':World,uj w W->((∃cur':Array Value,W'.heap[g]?=some (.cells cur' 117 (0,0))/\cur'.size=cap/\cur'.toList.take n=(cur.toList.take (n+1)).eraseIdx k)/\W.grownBy W' (some g)/\W'.heap.size=W.heap.size)->
   W'.cell? (jA (blk i) 1)=some (pj (blk p))/\W'.cell? (jA (blk p) 2)=some (sj g (n+1) cap)/\W'.frozen? (jA (blk p) 2)=false/\TE w (W'.setCell (jA (blk p) 2) (sj g n cap)) S st G blk p (blk p) g n cap mp k):=fun k hk W W' hW ⟨⟨cur',c1,c2,c3⟩,g1,s1⟩=>by
  have hWo:∀b,b<w.heap.size->b≠g->W'.heap[b]?=w.heap[b]? :=fun b hb hne=>by
   rw[g1.block b (aQ hb hW.size) (fun e=>hne (by injection e)),hW.block b hb]
  have hs:B4 w (blk p) (G p):=h.srf p hp;have hset:∀b,b≠blk p->(W'.setCell (jA (blk p) 2) (sj g n cap)).heap[b]?=W'.heap[b]? :=fun b hne=>aL W' (jA (blk p) 2) b _ hne;refine⟨?_,?_,?_,?_,?_,?_,fun b hb h1 h2=>?_,?_⟩
  ·rw[aV (w:=w) (a:=(jA (blk i) 1)) (hWo _ il hig),i1];rfl
  ·rw[aV (w:=w) (a:=(jA (blk p) 2)) (hWo _ pl hpg),p2]
  ·rw[World.frozen?_of_block (w:=w) (a:=(jA (blk p) 2)) (hWo _ pl hpg)];exact f2
  ·rw[hset mp hmpp,hWo mp h.map.lt hmpg]
  ·exact(hs.keep (hWo _ pl hpg)).set 2 _
  ·refine⟨⟨?_,.inr ⟨g,cap,cur',rfl,cB _,(hset g (fun e=>hpg e.symm)).trans c1,by omega,r5,by rw[c2,Nat.mul_one],?_⟩⟩,fun b hb=>?_⟩
   ·rw[List.length_map,List.length_eraseIdx,if_pos (bL.1 hk).1];omega
   ·rw[Nat.mul_one,c3,r7];exact(ChangeMaps.map_eraseIdx _ _ _).symm
   ·simp[Value.ownBlock]at hb;subst hb;exact r8
  ·rw[hset b h1,hWo b hb h2]
  ·refine Ac.set ((Ac.below hW).grown g1 fun b e=>.inl ?_) (.inl (h.own.2.2.2 p hp)) _;injection e with e;rw[<-e];exact r8
 have HForget:Hid (∀k,(st.kids p)[k]?=some i->∀wx:World,TE w wx S st G blk p (blk p) g n cap mp k->Calls prog 113 #[pj sc,pj (blk i)] wx fun e w'=>e=.returned (.tuple #[])/\Hk w' (AA S w w') x (rm st i) bv sc/\Ac S w w'):=fun k hk wx D=>by
  have hscp:sc≠blk p:=neT h.sce hpcur (by decide);have hscg:sc≠g:=neT h.sce r3 (by decide);have hscl:=(aM.1 h.sce).1;have hscm:sc≠mp:=h.map.ne h.sce;have hpi:(i:Int)≠p:=fun e=>by
   have:=hw.par i;rw[hpe]at this;omega
  have hsub:∀j∈i::st.dfs i,j∈st.order/\(j:Int)≠p:=fun j hj=>by
   have h1:=Ds.1 ((Jg hw i hi).mem_iff.1 hj);refine⟨h1.1,fun e=>?_⟩;have h2:=Eu hw.par (j+1) j (by omega) i h1.2;have h3:=hw.par i;rw[hpe]at h3;omega
  have hFT:∀j∈i::st.dfs i,FT wx st blk mp j/\j∈st.order:=fun j hj=>by
   obtain⟨hjo,hjp⟩:=hsub j hj;have hlj:=Af hjo;obtain⟨jc,_,jl⟩:=h.at hlj;obtain⟨jcur,hjcur,_⟩:=h.srf j hlj;have e1:wx.heap[blk j]?=w.heap[blk j]? :=D.oth _ jl (fun e=>hjp (h.inj j p hlj hp e)) (neT hjcur r3 (by decide));have hjl2:blk j<wx.heap.size:=aQ jl D.only.size;refine⟨⟨?_,hjl2,fun e=>h.map.ne hjcur e,?_⟩,hjo⟩
   ·rw[aV (w:=w) (a:=(jA (blk j) 0)) e1,jc 0 (by omega),(h.cells j hlj).num]
   ·obtain⟨⟨a,c,ha,hcs⟩,_⟩:=h.ptrs hlj;refine⟨a,c,?_,fun m hm=>?_⟩
    ·rw[aV (w:=w) (a:=(jA (blk j) 2)) e1,jc 2 (by omega),ha]
    ·obtain⟨b,rfl,b2,b3⟩:=hcs m hm;have hob:(G j 2).ownBlock=some b:=by rw[ha];rfl
     obtain⟨bc,hbc⟩:=(h.on j hlj).type hob;have hbg:b≠g:=fun e=>h.apart j p hlj hp hjp b hob (by rw[r1,e];rfl);have e2:wx.heap[b]?=w.heap[b]? :=D.oth _ b2 (neT hbc hpcur (by decide)) hbg;exact⟨b,rfl,aQ b2 D.only.size,h.map.ne hbc,by rw[aV (w:=w) (a:=(jA b m)) e2];exact b3⟩
  refine(Rr hw hscm (st.need i) i st.order wx hi (aO _) hw.nd hFT (h.map.keep D.map) ?_).mono ?_
  ·rw[aV (w:=w) (a:=(jA sc 1)) (D.oth sc hscl hscp hscg)];exact h.sceCells.2.1
  ·rintro e w' ⟨rfl,m',g',s'⟩;rw[Vi hw hi]at m';have hk2:∀b,b≠mp->b<wx.heap.size->w'.heap[b]?=wx.heap[b]? :=fun b hne hb=>g'.block b hb (fun e=>hne (by injection e));have hkl:n=(st.kids p).length-1:=by omega
   refine⟨rfl,Hk.mono ⟨mp,blk,_,h.less hw hi hpe hk m' (D.srf.keep (hk2 _ (fun e=>hmpp e.symm) (aQ pl D.only.size))) ?_ (by rw[r1];rfl) fun b hb h1 h2 h3=>?_⟩ (fun _ hg=>AI hg),D.only.grown g' fun b e=>.inl ?_⟩
   ·have hr:=D.row;rw[<-hkl];exact⟨Ai hr.1 fun b hb=>hk2 b (fun e=>by
     simp[Value.ownBlock]at hb;exact hmpg (by rw[<-e,hb])) (hr.1.lt b hb).2,hr.2⟩
   ·rw[hk2 b h1 (aQ hb D.only.size)];exact D.oth b hb h2 (fun e=>h3 (by rw[r1,e];rfl))
   ·injection e with e;rw[<-e];exact h.own.2.2.1
 have HFin:Hid (∀w':World,Hk w' (AA S w w') x (rm st i) bv sc/\Ac S w w'->∃v,Ending.returned (.slice va vn vc)=.returned v/\AF w' wi.heap.size v ((st.visAll i).map st.seen)/\Hk w' (AA S wi w') x (rm st i) bv sc/\Ac S wi w'):=fun w' ⟨q1,q2⟩=>by
  obtain⟨hv0,hb0⟩:=HV0.out;refine⟨_,rfl,⟨Ai hv0.1 fun g hg=>q2.block g (hv0.1.lt g hg).2 fun hs=>?_,hv0.2⟩,q1.mono fun g hg=>?_,(Ac.below hb0).trans (q2.mono fun g _ hg=>.inl hg)⟩
  ·have h1:=hSl g hs;have h2:=(hv0.1.lt g hg).1;omega
  ·rcases hg with hg|⟨h1,h2⟩
   ·exact .inl hg
   ·exact .inr ⟨bh hb0.size h1,h2⟩
 unfold BE at i1;obtain⟨pb,hpb⟩:∃pb,blk p=pb:=⟨_,rfl⟩;rw[hpb]at HFind i1 p2 f2 pl HMid HForget;rw[hib]at i0 i1 il HForget HMid;clear h q ic pc pf r1 r3 r7 hpcur hpcs hpg hmpg hmpp hpb hib hicur hig HRaw HSP hb0
 go_cut [6] (fun s6 wx=>∃k:Nat,s6=vj (k:Int)/\(st.kids p)[k]?=some i/\uj w wx)
 case first=>
  go_region_with ((go_at_call 111;refine(HFind.out _ ?_).mono ?_;(repeat(first|exact aN _ _|refine bD ?_));rintro e w' ⟨k,rfl,hk,hb⟩;have HB:=Aa hb;clear hb))
  all_goals go_wp2_with fail
  all_goals go_meet
  all_goals exact⟨k,rfl,hk,HB.out⟩
 case rest=>
  obtain⟨k,rfl,hk,hb⟩:=hcut;have hkn:k<n+1:=by
   have:=(bL.1 hk).1;omega
  have i1':=(hb.cell (p:=(jA ib 1)) il).trans i1;have p2':=(hb.cell (p:=(jA pb 2)) pl).trans p2;have hwrap:IntKind.i64.wrap ((k:Int)+1)=(k:Int)+1:=by rw[bB];omega
  have HDel:=Aa (HD.out k hkn);rw[<-hwrap]at HDel;have HMd:=Aa (HMid.out k hk);have HFg:=Aa (HForget.out k hk);have HB:=Aa hb;have hk12:(k:Int)<1000:=by omega
  clear hb HFind hk i1 p2 HD HMid HForget hwrap
  go_wp2_with fail
  go_cut [] (fun wx=>Hid (TE w wx S st G blk p pb g n cap mp k))
  case first=>
   go_region_with ((go_at_call 112;refine(HDel.out _ ?_).mono ?_;(repeat(first|exact HB.out|refine bD ?_));rintro e w' ⟨rfl,hd⟩;obtain⟨m0,m1,m2,m3⟩:=HMd.out _ _ (by repeat(first|exact HB.out|refine bD ?_)) hd;have HM:=Aa m3;clear m3 hd))
   all_goals go_wp2_with fail
   all_goals go_meet
   all_goals exact HM.out
  case rest=>
   have HFF:=Aa (HFg.out _ hcut.out);clear HFg hcut HDel HMd HB i1' p2'
   go_wp2_with(go_at_call 113;refine HFF.out.mono ?_;rintro e w' ⟨rfl,r1⟩;have HR:=Aa r1;clear r1)
   go_ret;exact HFin.out _ HR.out
def D9(st:St)(o:List Nat):St:={st with order:=o}
theorem AR.turn{w w':World}{S:Nat->Prop}{x:Nat}{st:St}{bv:Value}{sc mp:Nat}{blk:Int->Nat}{G:Int->Nat->Value}(h:AR w S x st bv sc mp blk G){o:List Nat}(ho:o.Perm st.order){p:Int}(hp:BN st p)(hk:∀q,q≠p->(D9 st o).kids q=st.kids q){v:Value}
  (hpar:B4 w' (blk p) (upO (G p) 2 v))
  (hrow:A4 w' S 117 1 v ((D9 st o).kids p).length (((D9 st o).kids p).map fun(j:Nat)=>BE (blk j)))
  (hvb:v.ownBlock=(G p 2).ownBlock)
  (hoth:∀g,g<w.heap.size->g≠blk p->some g≠(G p 2).ownBlock->w'.heap[g]?=w.heap[g]?):
  AR w' S x (D9 st o) bv sc mp blk (upG G p (upO (G p) 2 v)):=by
 have hL:∀q,BN (D9 st o) q->BN st q:=fun q hq=>by
  rcases hq with rfl|⟨j,rfl,hj⟩
  ·exact CC st
  ·exact Af (ho.mem_iff.1 hj)
 have hlt:∀ {g:Nat} {o:Obj},w.heap[g]?=some o->g<w.heap.size:=fun{g o} hg=>(aM.1 hg).1;obtain⟨pc,hpc,hpcs⟩:=h.srf p hp;have rowT:∀g,some g=(G p 2).ownBlock->∃cur,w.heap[g]?=some (.cells cur 117 (0,0)):=fun g hg=>(h.on p hp).type hg.symm;have hown:∀q,(upG G p (upO (G p) 2 v) q 2).ownBlock=(G q 2).ownBlock:=fun q=>by
  unfold upG;by_cases e:q=p
  ·subst e;rw[if_pos rfl];show v.ownBlock=_;exact hvb
  ·rw[if_neg e]
 refine⟨?_,?_,?_,fun q hq=>?_,⟨h.own.1,h.own.2.1,h.own.2.2.1,fun q hq=>h.own.2.2.2 q (hL q hq)⟩,fun q q' hq hq' e=>h.inj q q' (hL q hq) (hL q' hq') e,fun q hq=>?_,fun q q' hq hq' hne g hg=>?_,fun q hq=>?_,fun j hj=>?_⟩
 ·refine(hoth x (hlt h.scr) (neT h.scr hpc (by decide)) fun e=>?_).trans h.scr;obtain⟨c,hc⟩:=rowT x e;exact neT h.scr hc (by decide) rfl
 ·refine(hoth sc (hlt h.sce) (neT h.sce hpc (by decide)) fun e=>?_).trans h.sce;obtain⟨c,hc⟩:=rowT sc e;exact neT h.sce hc (by decide) rfl
 ·refine(h.map.keep (hoth mp h.map.lt (fun e=>h.map.ne hpc e.symm) fun e=>?_)).congr ho.symm fun _ _=>rfl;obtain⟨c,hc⟩:=rowT mp e;exact h.map.ne hc rfl
 ·unfold upG;by_cases e:q=p
  ·subst e;rw[if_pos rfl];exact hpar
  ·rw[if_neg e];obtain⟨c,hc,hc2⟩:=h.srf q (hL q hq);refine⟨c,(hoth _ (hlt hc) (fun e2=>e (h.inj q p (hL q hq) hp e2)) fun e2=>?_).trans hc,hc2⟩;obtain⟨c2,hc2⟩:=rowT _ e2;exact neT hc hc2 (by decide) rfl
 ·by_cases e:q=p
  ·subst e;unfold upG;rw[if_pos rfl];exact hrow
  ·unfold upG;rw[if_neg e,hk q e];have hr:=h.on q (hL q hq);refine⟨Ai hr.1 fun g hg=>?_,hr.2⟩;obtain⟨c,hc⟩:=hr.type hg;exact hoth g (hlt hc) (neT hc hpc (by decide)) fun e2=>h.apart q p (hL q hq) hp e g hg e2.symm
 ·rw[hown]at hg ⊢;exact h.apart q q' (hL q hq) (hL q' hq') hne g hg
 ·have hc3:Dv blk (D9 st o) q (G q):=(h.cells q (hL q hq)).other rfl rfl fun _=>rfl;unfold upG;by_cases e:q=p
  ·rw[if_pos e];subst e;exact⟨hc3.num,hc3.par,⟨hc3.now.w,hc3.now.h,hc3.now.pix,hc3.now.x,hc3.now.y,hc3.now.c0,hc3.now.c1,hc3.now.c2,hc3.now.c3,hc3.now.cut,hc3.now.hint⟩,(by obtain⟨l,h1,h2⟩:=hc3.next;exact⟨l,⟨h1.w,h1.h,h1.pix,h1.x,h1.y,h1.c0,h1.c1,h1.c2,h1.c3,h1.cut,h1.hint⟩,h2⟩),hc3.stk,hc3.kep⟩
  ·rw[if_neg e];exact hc3
 ·have hkd:Bq w w':=fun g cur t ht e=>hoth g (hlt e) (neT e hpc (ht.ne (by unfold Dw;decide))) fun e2=>by
   obtain⟨c,hc⟩:=rowT g e2;exact neT e hc (ht.ne (by unfold Dw;decide)) rfl
  have hd:SfD w' S (G j) ((D9 st o).sf j):=(h.data j (ho.mem_iff.1 hj)).kd hkd;unfold upG;by_cases e:(j:Int)=p
  ·rw[if_pos e];subst e;exact⟨hd.pix,hd.hint,hd.npix,hd.nhint,hd.kw,hd.kh,hd.kept⟩
  ·rw[if_neg e];exact hd
theorem K3{st:St}{i s:Nat}(ab:Bool)(hp:(st.sf s).parent=(st.sf i).parent)(q:Int):(D9 st (rsL st.order i s ab)).kids q=if(st.sf i).parent=q then rsL (st.kids q) i s ab else st.kids q:=by
 unfold St.kids;show(rsL st.order i s ab).filter _=_;have e:(fun j=>decide (((D9 st (rsL st.order i s ab)).sf j).parent=q))=fun j=>decide ((st.sf j).parent=q):=rfl;rw[e,KK _ _ _ _ (by rw[hp])];by_cases h:(st.sf i).parent=q
 ·rw[if_pos (by simpa using h),if_pos h]
 ·rw[if_neg (by simpa using h),if_neg h]
variable{G:Int->Nat->Value}{blk:Int->Nat}{i mp:Nat}
theorem Ru(g n cap t b:Nat)(u:Value)(cur:Array Value)(w:World)(hg:w.heap[g]?=some (.cells cur 117 (0,0)))(hb:w.heap[b]?=some (.cells #[u] 117 (0,0)))(hgb:g≠b)(hcs:cur.size=cap)(hcap:cap<=maxLen)(hn:n+1<=cap)(ht:t<=n)(hp:∀u∈cur.toList.take n,u.oneCell'=true)(hu:u.oneCell'=true):
  Calls prog 163 #[sj g n cap,vj (t:Int),sj b 1 1] w fun e w'=>e=.returned (sj g (n+1) cap)/\
   (∃cur':Array Value,w'.heap[g]?=some (.cells cur' 117 (0,0))/\cur'.size=cap/\cur'.toList.take (n+1)=(cur.toList.take n).take t++u::(cur.toList.take n).drop t)/\w.grownBy w' (some g)/\w'.heap.size=w.heap.size:=by
 by_cases e:t=n
 ·subst e;have h:=Rk g t cap b u cur w hg hb hcs hn hu;rw[List.take_take,Nat.min_self,List.drop_eq_nil_of_le (by simp;omega)];exact h
 ·rw[List.take_take,Nat.min_eq_left ht];exact Rj g n cap t b u cur w hg hb hgb hcs hcap hn (by omega) hp hu
def CE(s:Sf):Sf:={s with ask:=false}
theorem AR.done(hw:Wf st)(h:AR w S x st bv sc mp blk G)(hi:i∈st.order)(W:World)(hW:uj w W):
  (∃G',AR (((W.setCell (jA (blk i) 25) (.bool false)).setCell (jA (blk i) 26) (vj 0)).setCell (jA (blk i) 27) (.bool false)) S x (Go.Proofs.YtofinpocigbbeaaGreat.upd st i CE) bv sc mp blk G')/\Ac S w (((W.setCell (jA (blk i) 25) (.bool false)).setCell (jA (blk i) 26) (vj 0)).setCell (jA (blk i) 27) (.bool false))/\Bq w (((W.setCell (jA (blk i) 25) (.bool false)).setCell (jA (blk i) 26) (vj 0)).setCell (jA (blk i) 27) (.bool false)):=by
 have h2:=h.below hW;have hil:=hw.lt hi;have hs:B4 W (blk i) (G i):=h2.srf i (Af hi);have q:=(h2.cells i (Af hi)).nat;have d:=h2.data i hi;have ho:=h2.own.2.2.2 i (Af hi);refine⟨⟨_,h2.upd (gf:=CE) hi hil (fun _=>rfl) (fun g hg hne=>?_) (((hs.set 25 _).set 26 _).set 27 _) rfl (Dk.upd hil ⟨q.num,q.par,⟨q.now.w,q.now.h,q.now.pix,q.now.x,q.now.y,q.now.c0,q.now.c1,q.now.c2,q.now.c3,q.now.cut,q.now.hint⟩,⟨q.next.w,q.next.h,q.next.pix,q.next.x,q.next.y,q.next.c0,q.next.c1,q.next.c2,q.next.c3,q.next.cut,q.next.hint⟩,⟨_,_,_,rfl,rfl,rfl,rfl,fun e=>by cases e⟩,q.kep⟩) ⟨d.pix,d.hint,d.npix,d.nhint,d.kw,d.kh,d.kept⟩⟩,((((Ac.below hW).set (.inl ho) _).set (.inl ho) _).set (.inl ho) _),fun g cur t ht e=>?_⟩
 rotate_left
 ·obtain⟨c0,e0,_⟩:=h.srf i (Af hi);have hne:g≠blk i:=neT e e0 (ht.ne (by unfold Dw;decide));have hgl:=Ab e;rw[setOther 27 _ g (by have:=hW.size;simp;omega) hne,setOther 26 _ g (by have:=hW.size;simp;omega) hne,setOther 25 _ g (by have:=hW.size;omega) hne,hW.block g hgl]
 rw[setOther 27 _ g (by simpa using hg) hne,setOther 26 _ g (by simpa using hg) hne,setOther 25 _ g hg hne]
theorem SH(hw:Wf st)(hi:i∈st.order):Wf (upd st i CE):=Hz hw (hw.lt hi) (fun _=>rfl) (fun _=>rfl) ⟨(hw.lk i).1,(hw.lk i).2⟩
theorem TF(hw:Wf st)(hi:i∈st.order)(p:Int):(upd st i CE).kids p=st.kids p:=(B7 (g:=CE) (hw.lt hi) (fun _=>rfl)).kids p
theorem Rv(hw:Wf st)(h:AR w S x st bv sc mp blk G)(i:Nat)(hi:i∈st.order)(ha:(st.sf i).ask=false):
  Calls prog 108 #[pj (blk i)] w fun e w'=>e=.returned (.tuple #[])/\(∃G',AR w' S x (upd st i CE) bv sc mp blk G')/\Ac S w w'/\Bq w w':=by
 obtain⟨p,hpe⟩:∃p,(st.sf i).parent=p:=⟨_,rfl⟩;obtain⟨ic,icf,il⟩:=h.at (Af hi);have q:=(h.cells i (Af hi)).nat;have i1:=ic 1 (by omega);rw[q.par,hpe]at i1;unfold BE at i1;obtain⟨t,z,ab,e25,e26,e27,et,_⟩:=q.stk;rw[ha]at et;subst et;have c25:=ic 25 (by omega);have c26:=ic 26 (by omega);have c27:=ic 27 (by omega);rw[e25]at c25;rw[e26]at c26;rw[e27]at c27;have f25:=icf 25;have f26:=icf 26;have f27:=icf 27;have HD:Hid (∀o:Obj,(∃G',AR ((((w.setCell (jA (blk i) 25) (.bool false)).setCell (jA (blk i) 26) (vj 0)).setCell (jA (blk i) 27) (.bool false)).alloc o).drew S x (upd st i CE) bv sc mp blk G')/\Ac S w ((((w.setCell (jA (blk i) 25) (.bool false)).setCell (jA (blk i) 26) (vj 0)).setCell (jA (blk i) 27) (.bool false)).alloc o).drew/\Bq w ((((w.setCell (jA (blk i) 25) (.bool false)).setCell (jA (blk i) 26) (vj 0)).setCell (jA (blk i) 27) (.bool false)).alloc o).drew):=fun o=>by
  obtain⟨⟨G',hG⟩,hO,hk⟩:=h.done hw hi w (aN _ _);exact⟨⟨G',hG.below (al1 (aO _) o).drew⟩,(hO.alloc o).drew,hk.trans (Bq.below (al1 (aO _) o).drew)⟩
 obtain⟨ib,hib⟩:∃ib,blk i=ib:=⟨_,rfl⟩;obtain⟨pb,hpb⟩:∃pb,blk p=pb:=⟨_,rfl⟩;rw[hpb]at i1;rw[hib]at i1 c25 c26 c27 f25 f26 f27 HD il ⊢;have hin:¬ib=w.heap.size:=by omega
 clear h ic icf q hib hpb e25 e26 e27;go_enter func108,ntmps108
 go_wp2_with fail
 go_region
 all_goals go_wp2_with fail
 all_goals exact cU (v:=.tuple #[]) (by simp[results,results108]) rfl ⟨rfl,HD.out _⟩
theorem PJ(hw:Wf st)(h:AR w S x st bv sc mp blk G)(i s:Nat)(hi:i∈st.order)(hs:s∉st.order)(ha:(st.sf i).ask=true)(hsb:(st.sf i).sib=s):
  Calls prog 108 #[pj (blk i)] w fun e w'=>e=.returned (.tuple #[])/\(∃G',AR w' S x (upd st i CE) bv sc mp blk G')/\Ac S w w'/\Bq w w':=by
 obtain⟨p,hpe⟩:∃p,(st.sf i).parent=p:=⟨_,rfl⟩;have hp:BN st p:=by rw[<-hpe];exact CR hw hi
 obtain⟨ic,icf,il⟩:=h.at (Af hi);obtain⟨pc,pf,pl⟩:=h.at hp;have q:=(h.cells i (Af hi)).nat;have i1:=ic 1 (by omega);rw[q.par,hpe]at i1;unfold BE at i1;obtain⟨t,z,ab,e25,e26,e27,et,ez⟩:=q.stk;rw[ha]at et;subst et;obtain⟨rfl,_⟩:=ez rfl;rw[hsb]at e26;have c25:=ic 25 (by omega);have c26:=ic 26 (by omega);have c27:=ic 27 (by omega);rw[e25]at c25;rw[e26]at c26;rw[e27]at c27;have f25:=icf 25;have f26:=icf 26;have f27:=icf 27;have HD:Hid (∀o:Obj,(∃G',AR ((((w.setCell (jA (blk i) 25) (.bool false)).setCell (jA (blk i) 26) (vj 0)).setCell (jA (blk i) 27) (.bool false)).alloc o).drew S x (upd st i CE) bv sc mp blk G')/\Ac S w ((((w.setCell (jA (blk i) 25) (.bool false)).setCell (jA (blk i) 26) (vj 0)).setCell (jA (blk i) 27) (.bool false)).alloc o).drew/\Bq w ((((w.setCell (jA (blk i) 25) (.bool false)).setCell (jA (blk i) 26) (vj 0)).setCell (jA (blk i) 27) (.bool false)).alloc o).drew):=fun o=>by
  obtain⟨⟨G',hG⟩,hO,hk⟩:=h.done hw hi w (aN _ _);exact⟨⟨G',hG.below (al1 (aO _) o).drew⟩,(hO.alloc o).drew,hk.trans (Bq.below (al1 (aO _) o).drew)⟩
 have hip:blk i≠blk p:=fun e=>by
  have e2:=h.inj i p (Af hi) hp e;have:=hw.par i;rw[hpe]at this;omega
 have T0:Hid (∀W:World,(∃G',AR W S x (upd st i CE) bv sc mp blk G')/\Ac S w W/\Bq w W->Calls prog 111 #[pj (blk p),vj (s:Int)] W fun e w'=>e=.returned (vj (-1))/\(∃G',AR w' S x (upd st i CE) bv sc mp blk G')/\Ac S w w'/\Bq w w'):=fun W ⟨⟨G',h1⟩,hO,hkd⟩=>by
  have hp1:BN (upd st i CE) p:=hp;obtain⟨pc1,_,pl1⟩:=h1.at hp1;refine(Ge ((upd st i CE).kids p) (fun(j:Nat)=>blk j) (s:Int) (G' p 2) (blk p) W (pc1 2 (by omega)) pl1 (h1.ptrs hp1) (by have:=Ex (SH hw hi) p;omega)).mono ?_;rintro e w' ⟨r,rfl,hr,hb⟩;rcases hr with⟨rfl,_⟩|⟨k,j,_,h2,h3⟩
  ·exact⟨rfl,⟨G',h1.below hb⟩,hO.after hb,hkd.trans (Bq.below hb)⟩
  ·have:j=s:=by omega
   subst this;rw[TF hw hi]at h2;exact absurd (AN.1 (cH h2)).1 hs
 obtain⟨ib,hib⟩:∃ib,blk i=ib:=⟨_,rfl⟩;obtain⟨pb,hpb⟩:∃pb,blk p=pb:=⟨_,rfl⟩;rw[hpb]at i1 T0;rw[hib]at i1 c25 c26 c27 f25 f26 f27 HD il ⊢;have hin:¬ib=w.heap.size:=by omega
 clear h ic icf pc pf q hib hpb e25 e26 e27 hw hip;go_enter func108,ntmps108
 go_wp2_with fail
 go_region
 all_goals go_wp2_with(go_at_call 111;refine(T0.out _ (HD.out _)).mono ?_;rintro e w' ⟨rfl,hb⟩;have HB:=Aa hb;clear hb)
 all_goals exact cU (v:=.tuple #[]) (by simp[results,results108]) rfl ⟨rfl,HB.out⟩
theorem Yo{l:List Nat}(hn:l.Nodup){i s k k2:Nat}(ab:Bool)(hne:s≠i)(hk:l[k]?=some i)(hk2:(l.eraseIdx k)[k2]?=some s):rsL l i s ab=(l.eraseIdx k).take (k2+if ab=true then 1 else 0)++i::(l.eraseIdx k).drop (k2+if ab=true then 1 else 0):=by
 rw[SC i s ab hne,Dx l k i hn hk];exact U1 i s ab _ (by rw[<-Dx l k i hn hk];exact hn.filter _) k2 hk2
theorem Rw{w0:World}{S:Nat->Prop}{x:Nat}{st0:St}(hw0:Wf st0){bv:Value}{sc mp:Nat}{blk:Int->Nat}{G0:Int->Nat->Value}(h0:AR w0 S x st0 bv sc mp blk G0)(i s:Nat)(hi0:i∈st0.order)(hs0:s∈st0.order)(hne:s≠i)(hpp0:(st0.sf s).parent=(st0.sf i).parent)(ab:Bool)(ha:(st0.sf i).ask=true)(hsb:(st0.sf i).sib=s)(hab:(st0.sf i).above=ab):
  Calls prog 108 #[pj (blk i)] w0 fun e w'=>e=.returned (.tuple #[])/\(∃G',AR w' S x (D9 (upd st0 i CE) (rsL st0.order i s ab)) bv sc mp blk G')/\Ac S w0 w'/\Bq w0 w':=by
 obtain⟨p,hpe0⟩:∃p,(st0.sf i).parent=p:=⟨_,rfl⟩;obtain⟨ic0,icf0,il0⟩:=h0.at (Af hi0);have q0:=(h0.cells i (Af hi0)).nat;have i10:=ic0 1 (by omega);rw[q0.par,hpe0]at i10;unfold BE at i10;obtain⟨t,z,ab',e25,e26,e27,et,ez⟩:=q0.stk;rw[ha]at et;subst et;obtain⟨rfl,rfl⟩:=ez rfl;rw[hsb]at e26;rw[hab]at e27;have c25:=ic0 25 (by omega);have c26:=ic0 26 (by omega);have c27:=ic0 27 (by omega);rw[e25]at c25;rw[e26]at c26;rw[e27]at c27;have f25:=icf0 25;have f26:=icf0 26;have f27:=icf0 27;have HA:=Aa (fun o=>(al1 (aO w0.heap.size) o).drew);have HD:Hid (∀W:World,uj w0 W->W.heap[w0.heap.size]?=some (.cells #[.bool true,vj (s:Int),.bool ab] 172 (0,0))->∃st:St,∃G,st=upd st0 i CE/\Wf st/\i∈st.order/\s∈st.order/\(st.sf s).parent=(st.sf i).parent/\(st.sf i).parent=p/\st.order=st0.order/\AR (((W.setCell (jA (blk i) 25) (.bool false)).setCell (jA (blk i) 26) (vj 0)).setCell (jA (blk i) 27) (.bool false)) S x st bv sc mp blk G/\Bq w0 (((W.setCell (jA (blk i) 25) (.bool false)).setCell (jA (blk i) 26) (vj 0)).setCell (jA (blk i) 27) (.bool false))/\Ac S w0 (((W.setCell (jA (blk i) 25) (.bool false)).setCell (jA (blk i) 26) (vj 0)).setCell (jA (blk i) 27) (.bool false))/\(((W.setCell (jA (blk i) 25) (.bool false)).setCell (jA (blk i) 26) (vj 0)).setCell (jA (blk i) 27) (.bool false)).heap[w0.heap.size]?=some (.cells #[.bool true,vj (s:Int),.bool ab] 172 (0,0))):=fun W hW hWb=>by
  obtain⟨⟨G,hG⟩,hO,hkd⟩:=h0.done hw0 hi0 W hW;have hpar:=(B7 (g:=CE) (hw0.lt hi0) (fun _=>rfl)).par;have hne0:w0.heap.size≠blk i:=by omega
  refine⟨_,G,rfl,SH hw0 hi0,hi0,hs0,by rw[hpar,hpar];exact hpp0,by rw[hpar];exact hpe0,rfl,hG,hkd,hO,?_⟩;rw[aL _ (jA (blk i) 27) _ _ hne0,aL _ (jA (blk i) 26) _ _ hne0,aL _ (jA (blk i) 25) _ _ hne0];exact hWb
 obtain⟨ib,hib⟩:∃ib,blk i=ib:=⟨_,rfl⟩;obtain⟨pb,hpb⟩:∃pb,blk p=pb:=⟨_,rfl⟩;rw[hpb]at i10;rw[hib]at i10 c25 c26 c27 f25 f26 f27 HD il0 ⊢;have hin0:¬ib=w0.heap.size:=by omega
 have HIB:=Aa (aK hib hpb);clear h0 ic0 icf0 q0 hib hpb e25 e26 e27 hw0 hpp0 ha hsb hpe0;go_enter func108,ntmps108
 go_wp2_with fail
 go_cut [2,3] (fun s2 s3 wx=>s2=pj pb/\s3=pj w0.heap.size/\Hid (uj w0 wx/\wx.heap[w0.heap.size]?=some (.cells #[.bool true,vj (s:Int),.bool ab] 172 (0,0))))
 case first=>
  go_region
  all_goals go_wp2_with fail
  all_goals go_meet
  all_goals exact⟨rfl,rfl,HA.out _,aR w0 _⟩
 case rest=>
 obtain⟨rfl,rfl,hwx⟩:=hcut;rename World=>wx;have hB0:=hwx.out.1;obtain⟨st,G,hst,hw,hi,hs,hpp,hp0,hord,h,hkd0,hO0,hbx⟩:=HD.out wx hwx.out.1 hwx.out.2;have e25:=(hB0.cell (p:=(jA ib 25)) il0).trans c25;have e26:=(hB0.cell (p:=(jA ib 26)) il0).trans c26;have e27:=(hB0.cell (p:=(jA ib 27)) il0).trans c27;have g25:=(hB0.frozen (p:=(jA ib 25)) il0).trans f25;have g26:=(hB0.frozen (p:=(jA ib 26)) il0).trans f26;have g27:=(hB0.frozen (p:=(jA ib 27)) il0).trans f27;have HH:=Aa (aK hst (aK hw (aK hi (aK hs (aK hpp (aK hp0 (aK hord (aK h (aK hkd0 (aK hO0 hbx))))))))));clear hst hw hi hs hpp hp0 hord h hkd0 hO0 hbx c25 c26 c27 f25 f26 f27 i10 hB0 HD hwx
 go_upto_region 2 with fail
 obtain⟨hst,hw,hi,hs,hpp,hp0,hord,h,hkd0,hO0,hbx⟩:=HH.out;clear HH e25 e26 e27 g25 g26 g27;generalize ((wx.setCell (jA ib 25) (.bool false)).setCell (jA ib 26) (vj 0)).setCell (jA ib 27) (.bool false)=w at*;obtain⟨bx,hbxe⟩:∃bx,w0.heap.size=bx:=⟨_,rfl⟩;rw[hbxe]at hbx ⊢;obtain⟨hib,hpb⟩:=HIB.out;have hpe:=hp0;have hp:BN st p:=by rw[<-hpe];exact CR hw hi
 have hik:i∈st.kids p:=AN.2 ⟨hi,hpe⟩;have hsk:s∈st.kids p:=AN.2 ⟨hs,by rw[hpp,hpe]⟩;have hnd:(st.kids p).Nodup:=hw.nd.filter _;obtain⟨g,n,cap,cur,r1,r2,r3,r4,r5,r6,r7,r8⟩:=h.rowAt hp (List.ne_nil_of_mem hik);have hk12n:=Ex hw p;rw[r2]at hk12n;obtain⟨ic,_,il⟩:=h.at (Af hi);obtain⟨pc,pf,pl⟩:=h.at hp;have q:=(h.cells i (Af hi)).nat;have i0:=ic 0 (by omega);have i1:=ic 1 (by omega);rw[q.num]at i0;rw[q.par,hpe]at i1;have p2:=pc 2 (by omega);rw[r1]at p2;have f2:=pf 2;obtain⟨pcur,hpcur,hpcs⟩:=h.srf p hp;have hpg:blk p≠g:=neT hpcur r3 (by decide);obtain⟨icur,hicur,_⟩:=h.srf i (Af hi);have hig:blk i≠g:=neT hicur r3 (by decide);have hip:blk i≠blk p:=fun e=>by
  have e2:=h.inj i p (Af hi) hp e;have:=hw.par i;rw[hpe]at this;omega
 have hmpg:mp≠g:=fun e=>h.map.ne r3 e.symm;have hmpp:mp≠blk p:=fun e=>h.map.ne hpcur e.symm;have hgl:g<w.heap.size:=(aM.1 r3).1;have hbxl:bx<w.heap.size:=(aM.1 hbx).1;have hbxp:bx≠blk p:=neT hbx hpcur (by decide);have hbxg:bx≠g:=neT hbx r3 (by decide);have b0:w.cell? (jA bx 0)=some (.bool true):=aP _ _ 0 _ _ _ hbx;have b1:w.cell? (jA bx 1)=some (vj (s:Int)):=aP _ _ 1 _ _ _ hbx;have b2:w.cell? (jA bx 2)=some (.bool ab):=aP _ _ 2 _ _ _ hbx;have fnd:∀(t:Nat),t∈st.kids p->∀W:World,uj w W->Calls prog 111 #[pj (blk p),vj (t:Int)] W fun e w'=>∃k:Nat,e=.returned (vj (k:Int))/\(st.kids p)[k]?=some t/\uj w w':=fun t ht W hW=>by
  refine(Ge (st.kids p) (fun(j:Nat)=>blk j) (t:Int) (G p 2) (blk p) W ?_ (aQ pl hW.size) ((h.ptrs hp).below hW) (by omega)).mono ?_
  ·rw[hW.cell (p:=(jA (blk p) 2)) pl,pc 2 (by omega)]
  ·rintro e w' ⟨r,rfl,hr,hb⟩;obtain⟨k,rfl,hk⟩:=NN ht hr;exact⟨k,rfl,hk,hW.trans (hb.mono hW.size)⟩
 have T0:Hid (Calls prog 111 #[pj (blk p),vj (s:Int)] w fun e w'=>∃k:Nat,e=.returned (vj (k:Int))/\(st.kids p)[k]?=some s/\uj w w'):=fnd s hsk w (aN _ _);have N1:Hid (∀w1:World,uj w w1->w1.cell? (jA (blk i) 0)=some (vj (i:Int))/\Calls prog 111 #[pj (blk p),vj (i:Int)] w1 fun e w'=>∃k:Nat,e=.returned (vj (k:Int))/\(st.kids p)[k]?=some i/\uj w w'):=fun w1 h1=>⟨by rw[h1.cell (p:=(jA (blk i) 0)) il,i0],fnd i hik w1 h1⟩;have N2:Hid (∀(w2:World) (k:Nat),uj w w2->(st.kids p)[k]?=some i->(k:Int)<1000/\w2.cell? (jA (blk p) 2)=some (sj g (n+1) cap)/\Calls prog 112 #[sj g (n+1) cap,vj (k:Int),vj ((k:Int)+1)] w2 fun e w'=>e=.returned (sj g n cap)/\w'.cell? (jA (blk p) 2)=some (sj g (n+1) cap)/\w'.frozen? (jA (blk p) 2)=false/\(w'.setCell (jA (blk p) 2) (sj g n cap)).cell? (jA bx 1)=some (vj (s:Int))/\bx<(w'.setCell (jA (blk p) 2) (sj g n cap)).heap.size/\TE w (w'.setCell (jA (blk p) 2) (sj g n cap)) S st G blk p (blk p) g n cap mp k):=fun w2 k hW hk=>by
  have hkn:=(bL.1 hk).1;refine⟨by omega,by rw[hW.cell (p:=(jA (blk p) 2)) pl,p2],?_⟩;refine(KW g n cap k cur w2 ((hW.block g hgl).trans r3) r4 r5 r6 (by omega) fun u hu=>?_).mono ?_
  ·rw[r7]at hu;obtain⟨j,_,rfl⟩:=List.mem_map.1 hu;rfl
  ·rintro e W' ⟨rfl,⟨cur',c1,c2,c3⟩,g1,s1⟩;have hWo:∀b,b<w.heap.size->b≠g->W'.heap[b]?=w.heap[b]? :=fun b hb hne=>by
    rw[g1.block b (aQ hb hW.size) (fun e=>hne (by injection e)),hW.block b hb]
   have hs:B4 w (blk p) (G p):=h.srf p hp;have hset:∀b,b≠blk p->(W'.setCell (jA (blk p) 2) (sj g n cap)).heap[b]?=W'.heap[b]? :=fun b hne=>aL W' (jA (blk p) 2) b _ hne;refine⟨rfl,?_,?_,?_,?_,?_,?_,?_,fun b hb h1 h2=>?_,?_⟩
   ·rw[aV (w:=w) (a:=(jA (blk p) 2)) (hWo _ pl hpg),p2]
   ·rw[World.frozen?_of_block (w:=w) (a:=(jA (blk p) 2)) (hWo _ pl hpg)];exact f2
   ·rw[aV (w:=w) (a:=(jA bx 1)) ((hset bx hbxp).trans (hWo _ hbxl hbxg))];exact b1
   ·have:=hW.size;simp;omega
   ·rw[hset mp hmpp,hWo mp h.map.lt hmpg]
   ·exact(hs.keep (hWo _ pl hpg)).set 2 _
   ·refine⟨⟨?_,.inr ⟨g,cap,cur',rfl,cB _,(hset g (fun e=>hpg e.symm)).trans c1,by omega,r5,by rw[c2,Nat.mul_one],?_⟩⟩,fun b hb=>?_⟩
    ·rw[List.length_map,List.length_eraseIdx,if_pos hkn];omega
    ·rw[Nat.mul_one,c3,r7];exact(ChangeMaps.map_eraseIdx _ _ _).symm
    ·simp[Value.ownBlock]at hb;subst hb;exact r8
   ·rw[hset b h1,hWo b hb h2]
   ·refine Ac.set ((Ac.below hW).grown g1 fun b e=>.inl ?_) (.inl (h.own.2.2.2 p hp)) _;injection e with e;rw[<-e];exact r8
 have N3:Hid (∀(w4:World) (k:Nat),(st.kids p)[k]?=some i->TE w w4 S st G blk p (blk p) g n cap mp k->Calls prog 111 #[pj (blk p),vj (s:Int)] w4 fun e w'=>∃k2:Nat,e=.returned (vj (k2:Int))/\(((st.kids p).eraseIdx k)[k2]?=some s/\uj w4 w')/\(k2:Int)<1000/\w'.cell? (jA (blk p) 2)=some (sj g n cap)/\w'.cell? (jA bx 2)=some (.bool ab)/\bx<w'.heap.size):=fun w4 k hk D=>by
  have hkn:=(bL.1 hk).1;have hel:((st.kids p).eraseIdx k).length=n:=by rw[List.length_eraseIdx,if_pos hkn];omega
  have hse:s∈(st.kids p).eraseIdx k:=by
   rw[<-Dx _ k i hnd hk,bY];exact⟨hsk,by simpa using hne⟩
  have hn0:0<n:=by rw[<-hel];exact List.length_pos_of_mem hse
  obtain⟨pcur4,e1,e2,e3⟩:=D.srf;have hpl4:blk p<w4.heap.size:=aQ pl D.only.size;have hc4:w4.cell? (jA (blk p) 2)=some (sj g n cap):=by
   rw[aP w4 _ _ _ _ _ e1,e3 2 (by omega)];rfl
  have hP:Ri w4 (sj g n cap) ((st.kids p).eraseIdx k) fun(j:Nat)=>blk j:=by
   refine⟨⟨_,_,by rw[hel],fun m hm=>?_⟩,fun j hj=>?_⟩
   ·obtain⟨g',cap',q1,q2,q3,q4,q5,q6⟩:=D.row.open hn0;have hgg:g=g':=by
     injection q1 with q1;injection q1 with q1;injection q1
    subst hgg;refine⟨g,rfl,q4,q5 m _ ?_⟩;rw[bZ,aU hm];rfl
   ·have hj2:j∈st.kids p:=List.mem_of_mem_eraseIdx hj;have hlj:=Gd hj2;obtain⟨jc,_,jl⟩:=h.at hlj;obtain⟨jcur,hjcur,_⟩:=h.srf j hlj;have hjp:blk j≠blk p:=fun e=>by
     have e4:=h.inj j p hlj hp e;obtain⟨a1,a2⟩:=AN.1 hj2;have:=hw.par j;rw[a2]at this;omega
    refine⟨?_,aQ jl D.only.size⟩;rw[aV (w:=w) (a:=(jA (blk j) 0)) (D.oth _ jl hjp (neT hjcur r3 (by decide))),jc 0 (by omega),(h.cells j hlj).num]
  refine(Ge _ (fun(j:Nat)=>blk j) (s:Int) _ (blk p) w4 hc4 hpl4 hP (by omega)).mono ?_;rintro e w' ⟨r,rfl,hr,hb⟩;obtain⟨k2,rfl,hk2⟩:=NN hse hr;have hk2l:=(bL.1 hk2).1;have hbx4:bx<w4.heap.size:=aQ hbxl D.only.size;exact⟨k2,rfl,⟨hk2,hb⟩,by omega,(hb.cell (p:=(jA (blk p) 2)) hpl4).trans hc4,(hb.cell (p:=(jA bx 2)) hbx4).trans ((aV (w:=w) (a:=(jA bx 2)) (D.oth bx hbxl hbxp hbxg)).trans b2),aQ hbx4 hb.size⟩
 have N4:Hid (∀(w4 w5:World) (k k2:Nat) (z:Int),z=((k2+(if ab=true then 1 else 0):Nat):Int)->(st.kids p)[k]?=some i->TE w w4 S st G blk p (blk p) g n cap mp k->(((st.kids p).eraseIdx k)[k2]?=some s/\uj w4 w5)->Calls prog 163 #[sj g n cap,vj z,sj w5.heap.size 1 1] (w5.alloc (.cells #[pj (blk i)] 117)) fun e w'=>e=.returned (sj g (n+1) cap)/\w'.cell? (jA (blk p) 2)=some (sj g n cap)/\w'.frozen? (jA (blk p) 2)=false/\(∃G',AR (w'.setCell (jA (blk p) 2) (sj g (n+1) cap)) S x (D9 st (rsL st.order i s ab)) bv sc mp blk G')/\Ac S w (w'.setCell (jA (blk p) 2) (sj g (n+1) cap))/\Bq w (w'.setCell (jA (blk p) 2) (sj g (n+1) cap))):=fun w4 w5 k k2 z hz hk D ⟨hk2,hb⟩=>by
  subst hz;have hkn:=(bL.1 hk).1;have hk2l:=(bL.1 hk2).1;have hel:((st.kids p).eraseIdx k).length=n:=by rw[List.length_eraseIdx,if_pos hkn];omega
  obtain⟨⟨_,hrow⟩,_⟩:=D.row;rcases hrow with⟨hrow,_⟩|⟨g',cap',cur4,a1,a2,a3,a4,a5,a6,a7⟩
  ·cases hrow
  ·have hgg:g=g':=by
    injection a1 with a1;injection a1 with a1;injection a1
   have hcc:cap=cap':=by injection a1
   subst hgg;subst hcc;have hgl4:=(aM.1 a3).1;have hg5:(w5.alloc (.cells #[pj (blk i)] 117)).heap[g]?=some (.cells cur4 117 (0,0)):=by
    rw[Ad _ _ g (aQ hgl4 hb.size),hb.block g hgl4];exact a3
   have ht:k2+(if ab=true then 1 else 0)<=n:=by split<;>omega
   refine(Ru g n cap _ w5.heap.size (pj (blk i)) cur4 _ hg5 (aR w5 _) (by have:=hb.size;omega) (by omega) r5 (by omega) ht (fun u hu=>?_) rfl).mono ?_
   ·rw[Nat.mul_one]at a7;rw[a7]at hu;obtain⟨j,_,rfl⟩:=List.mem_map.1 hu;rfl
   ·rintro e w7 ⟨rfl,⟨cur7,c1,c2,c3⟩,g7,s7⟩;have hpl4:blk p<w4.heap.size:=aQ pl D.only.size;have h74:∀b,b<w4.heap.size->b≠g->w7.heap[b]?=w4.heap[b]? :=fun b hbl hbg=>by
     have hb5:b<w5.heap.size:=aQ hbl hb.size;rw[g7.block b (by simp;omega) (fun e=>hbg (by injection e)),Ad _ _ b hb5,hb.block b hbl]
    obtain⟨pcur4,e1,e2,e3⟩:=D.srf;have hset:∀b,b≠blk p->(w7.setCell (jA (blk p) 2) (sj g (n+1) cap)).heap[b]?=w7.heap[b]? :=fun b hne=>aL w7 (jA (blk p) 2) b _ hne;have hO7:Ac S w w7:=by
     refine((D.only.after hb).alloc _).grown g7 fun b e=>.inl ?_;injection e with e;rw[<-e];exact r8
    have hks:(D9 st (rsL st.order i s ab)).kids p=((st.kids p).eraseIdx k).take (k2+if ab=true then 1 else 0)++i::((st.kids p).eraseIdx k).drop (k2+if ab=true then 1 else 0):=by
     rw[K3 ab hpp p,if_pos hpe];exact Yo hnd ab hne hk hk2
    refine⟨rfl,?_,?_,⟨_,h.turn (Pg hw.nd ab hne hi hs) hp (fun q hq=>?_) (v:=sj g (n+1) cap) ?_ ?_ (by rw[r1]) fun b hbl h1 h2=>?_⟩,hO7.set (.inl (h.own.2.2.2 p hp)) _,fun b cur t ht e=>?_⟩
    ·rw[aV (w:=w4) (a:=(jA (blk p) 2)) (h74 _ hpl4 hpg),aP w4 _ _ _ _ _ e1,e3 2 (by omega)];rfl
    ·rw[World.frozen?_of_block (w:=w4) (a:=(jA (blk p) 2)) (h74 _ hpl4 hpg)];simp[World.frozen?,e1]
    ·rw[K3 ab hpp q,if_neg (fun e=>hq (by rw[<-e,hpe]))]
    ·refine((B4.keep D.srf (h74 _ hpl4 hpg)).set 2 _).congr fun o _=>?_;unfold upO;by_cases eo:o=2
     ·rw[if_pos eo,if_pos eo]
     ·rw[if_neg eo,if_neg eo,if_neg eo]
    ·rw[hks];have hlen:(((st.kids p).eraseIdx k).take (k2+if ab=true then 1 else 0)++i::((st.kids p).eraseIdx k).drop (k2+if ab=true then 1 else 0)).length=n+1:=by
      rw[aY,List.length_cons,bR,cC,hel];omega
     rw[hlen];refine⟨⟨by rw[List.length_map,hlen,Nat.mul_one],.inr ⟨g,cap,cur7,rfl,cB _,(hset g (fun e=>hpg e.symm)).trans c1,by omega,r5,by rw[c2,Nat.mul_one],?_⟩⟩,fun b hbb=>?_⟩
     ·rw[Nat.mul_one]at a7 ⊢;rw[c3,a7,cL,List.map_cons,List.map_take,List.map_drop];rfl
     ·simp[Value.ownBlock]at hbb;subst hbb;exact r8
    ·rw[hset b h1];have hbg:b≠g:=fun e=>h2 (by rw[r1,e];rfl);rw[h74 b (aQ hbl D.only.size) hbg,D.oth b hbl h1 hbg]
    ·have hbl:=Ab e;have h1:b≠blk p:=neT e hpcur (ht.ne (by unfold Dw;decide));have hbg:b≠g:=neT e r3 (ht.ne (by unfold Dw;decide));rw[hset b h1,h74 b (aQ hbl D.only.size) hbg,D.oth b hbl h1 hbg]
 have HEnd:Hid (∀w':World,(∃G',AR w' S x (D9 st (rsL st.order i s ab)) bv sc mp blk G')/\Ac S w w'/\Bq w w'->(∃G',AR w' S x (D9 (upd st0 i CE) (rsL st0.order i s ab)) bv sc mp blk G')/\Ac S w0 w'/\Bq w0 w'):=fun w' ⟨q1,q2,q3⟩=>by
  rw[hst]at q1;exact⟨q1,hO0.trans (q2.mono fun g _ hg=>.inl hg),hkd0.trans q3⟩
 rw[hpb]at T0 N1 N2 N3 N4;rw[hib]at N1 N4;clear h q ic pc pf r1 r3 r7 hpcur hpcs hpg hmpg hmpp hpb hib hicur hig hip i0 p2 f2 fnd hnd hw hbx hbxp hbxg i1 hst hord hO0 hkd0 hpp;cases ab with
 |false=>
  go_wp2_with(first
   |(go_at_call 111;refine T0.out.mono ?_;rintro e w1 ⟨k1,rfl,_,h1⟩;obtain⟨c1,T1'⟩:=N1.out w1 h1;have T1:=Aa T1';clear T0 h1 T1')
   |(go_at_call 111;refine T1.out.mono ?_;rintro e w2 ⟨k,rfl,hk,h2⟩;obtain⟨hk1000,c2,T2'⟩:=N2.out w2 k h2 hk;have T2:=Aa T2';have HK:=Aa hk;clear T1 h2 T2' hk)
   |(go_at_call 112;refine T2.out.mono ?_;rintro e w3 ⟨rfl,c3,f3,d1,dl,D⟩;have HD:=Aa D;have T3:=Aa (N3.out _ k HK.out D);clear T2 D)
   |(go_at_call 111;refine T3.out.mono ?_;rintro e w5 ⟨k2,rfl,h5,hk2,c5,d2,dl2⟩;have T4:=Aa (N4.out _ w5 k k2 (k2:Int) (by simp) HK.out HD.out h5);clear T3 h5)
   |(go_at_call 163;refine T4.out.mono ?_;rintro e w7 ⟨rfl,c7,f7,R1⟩;have HR:=Aa R1;clear T4 R1))
  exact cV (v:=.tuple #[]) (by simp[results,results108]) rfl ⟨rfl,HEnd.out _ HR.out⟩
 |true=>
  go_wp2_with(first
   |(go_at_call 111;refine T0.out.mono ?_;rintro e w1 ⟨k1,rfl,_,h1⟩;obtain⟨c1,T1'⟩:=N1.out w1 h1;have T1:=Aa T1';clear T0 h1 T1')
   |(go_at_call 111;refine T1.out.mono ?_;rintro e w2 ⟨k,rfl,hk,h2⟩;obtain⟨hk1000,c2,T2'⟩:=N2.out w2 k h2 hk;have T2:=Aa T2';have HK:=Aa hk;clear T1 h2 T2' hk)
   |(go_at_call 112;refine T2.out.mono ?_;rintro e w3 ⟨rfl,c3,f3,d1,dl,D⟩;have HD:=Aa D;have T3:=Aa (N3.out _ k HK.out D);clear T2 D)
   |(go_at_call 111;refine T3.out.mono ?_;rintro e w5 ⟨k2,rfl,h5,hk2,c5,d2,dl2⟩;have T4:=Aa (N4.out _ w5 k k2 ((k2:Int)+1) (by simp) HK.out HD.out h5);clear T3 h5)
   |(go_at_call 163;refine T4.out.mono ?_;rintro e w7 ⟨rfl,c7,f7,R1⟩;have HR:=Aa R1;clear T4 R1))
  exact cV (v:=.tuple #[]) (by simp[results,results108]) rfl ⟨rfl,HEnd.out _ HR.out⟩
end Go.Proofs.YtofinpocigbbeaaGreat
