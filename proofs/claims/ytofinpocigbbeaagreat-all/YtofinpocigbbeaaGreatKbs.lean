import Derived.Test.YtofinpocigbbeaaGreatKbr
set_option maxHeartbeats 1000000
set_option maxRecDepth 100000
set_option linter.unusedSimpArgs false
namespace Go.Proofs.YtofinpocigbbeaaGreat
open Go.Proofs.Tryz Go.RowKit
attribute [local go_sem ↓] Go.wp_at_zero Go.wp_at_succ
variable{A B:Nat->Prop}{D P:Nat->Value}{L:List RB}{N c cap nb:Nat}{bv:Value}{st:St}
theorem Mj{a:Option Addr}(i:Int)(hi:¬(0<=i/\i<nb))(w:World)(h:Aw w A c st (.slice a nb cap)):
  Calls prog 139 #[pj c,vj i] w fun e w'=>e=.returned (.tuple #[.agg #[jj,vj 0],vj 10])/\uj w w':=by
 obtain⟨sv,ov,F,hr,hs⟩:=h;obtain⟨k0,k1,k2,k3,k4,kf,kl⟩:=hr.cells;have hcn:¬c=w.heap.size:=by omega
 clear hr hs kf k0 k1 k3 k4;by_cases h0:i<0
 ·go_enter func139,ntmps139
  go_wp2;exact cU (v:=.tuple #[.agg #[jj,vj 0],vj 10]) (by simp[results,results139,go_sem]) rfl ⟨rfl,(aN _ _).alloc (aO _) _⟩
 ·have h1:(nb:Int)<=i:=by omega
  go_enter func139,ntmps139
  go_wp2;exact cU (v:=.tuple #[.agg #[jj,vj 0],vj 10]) (by simp[results,results139,go_sem]) rfl ⟨rfl,(aN _ _).alloc (aO _) _⟩
theorem RV{a:Option Addr}(i:Int)(hi:¬(0<=i/\i<nb))(w:World)(h:Aw w A c st (.slice a nb cap)):
  Calls prog 140 #[pj c,vj i] w fun e w'=>e=.returned (.tuple #[jj,vj 0,vj 10])/\uj w w':=by
 obtain⟨sv,ov,F,hr,hs⟩:=h;obtain⟨k0,k1,k2,k3,k4,kf,kl⟩:=hr.cells;clear hr hs kf k0 k1 k3 k4;by_cases h0:i<0
 ·go_enter func140,ntmps140
  go_wp2;exact cU (v:=.tuple #[jj,vj 0,vj 10]) (by simp[results,results140,go_sem]) rfl ⟨rfl,aN _ _⟩
 ·have h1:(nb:Int)<=i:=by omega
  go_enter func140,ntmps140
  go_wp2;exact cU (v:=.tuple #[jj,vj 0,vj 10]) (by simp[results,results140,go_sem]) rfl ⟨rfl,aN _ _⟩
theorem Ql(i:Nat)(hi:i<L.length)(w:World)(h:Aw w A c st bv)(hB:AG w B bv N L P D):
  Calls prog 140 #[pj c,vj i] w fun e w'=>e=.returned (.tuple #[P i,vj L[i].age,vj 0])/\uj w w':=by
 obtain⟨bg,bcap,hbv,hbc,hBb,hbgl,hbt,hbfr,hbcs⟩:=hB.rowForm (by omega);obtain⟨sv,ov,F,hr,hs⟩:=h;obtain⟨k0,k1,k2,k3,k4,kf,kl⟩:=hr.cells;obtain⟨y0,y1,y2⟩:=hbcs i hi;obtain⟨pa,pm,pc,hP,_⟩:=(hB.pix i hi).form;rw[hP]at y0 ⊢;obtain⟨ag,hag⟩:∃a,L[i].age=a:=⟨_,rfl⟩;rw[hag]at y1 ⊢;have hfew:=hB.few;obtain⟨nb,hnb⟩:∃n,L.length=n:=⟨_,rfl⟩;rw[hnb]at hi hbv hfew hbc;subst hbv;have h0:¬(i:Int)<0:=by omega
 have h00:(0:Int)<=(i:Int):=by omega
 have h1:¬(nb:Int)<=(i:Int):=by omega
 have h2:(i:Int)<(nb:Int):=by omega
 have hic:i<bcap:=by omega
 clear hr hs kf k0 k1 k3 k4 hB hbcs hbfr hbt hnb hag hP y2;go_enter func140,ntmps140
 go_upto_region 3 with fail
 go_quiet (fail)
 go_wp2;exact cU (v:=.tuple #[.slice pa pm pc,vj ag,vj 0]) (by simp[results,results140,go_sem]) rfl ⟨rfl,cS (aN _ _) _⟩
theorem Mk{a:Option Addr}(i:Int)(hi:¬(0<=i/\i<nb))(v:Value)(w:World)(h:Aw w A c st (.slice a nb cap)):
  Calls prog 137 #[pj c,vj i,v] w fun e w'=>e=.returned (vj 10)/\uj w w':=by
 obtain⟨sv,ov,F,hr,hs⟩:=h;obtain⟨k0,k1,k2,k3,k4,kf,kl⟩:=hr.cells;clear hr hs kf k0 k1 k3 k4;by_cases h0:i<0
 ·go_enter func137,ntmps137
  go_wp2;go_ret;exact⟨rfl,aN _ _⟩
 ·have h1:(nb:Int)<=i:=by omega
  go_enter func137,ntmps137
  go_wp2;go_ret;exact⟨rfl,aN _ _⟩
def Oj(A B:Nat->Prop)(c:Nat)(st:St)(bv:Value)(N:Nat)(L:List RB)(i:Nat)(b:RB)(w:World)(e:Ending)(w':World):Prop:=
 e=.returned (vj 0)/\Aw w' A c st bv/\(∃P D,AG w' (AA B w w') bv N (L.set i b) P D)/\Ac B w w'
theorem Lz{a:Option Addr}(i:Nat)(hi:i<nb)(Wn Hn:Nat)(hWn:st.w=Wn)(hHn:st.h=Hn)(hw:Wf st)(va:Option Addr)(vn vc:Nat)(hv:vn≠Wn*Hn)(w:World)(h:Aw w A c st (.slice a nb cap)):
  Calls prog 137 #[pj c,vj i,.slice va vn vc] w fun e w'=>e=.returned (vj 4)/\uj w w':=by
 obtain⟨sv,ov,F,hr,hs⟩:=h;rw[hWn,hHn]at hr;obtain⟨k0,k1,k2,k3,k4,kf,kl⟩:=hr.cells;have hww:=hw.ww;have hhh:=hw.hh;rw[hWn]at hww;rw[hHn]at hhh;obtain⟨K,hK⟩:∃K,Wn*Hn=K:=⟨_,rfl⟩;have hK1:K<=576:=by rw[<-hK];exact cI (show Wn<=24 by omega) (show Hn<=24 by omega)
 rw[hK]at hv;have hWH:(Wn:Int)*(Hn:Int)=(K:Int):=by rw[<-hK];simp
 have m1:IntKind.i64.wrap ((Wn:Int)*(Hn:Int))=(K:Int):=by rw[bB];omega
 have m2:wrap64 ((Wn:Int)*(Hn:Int))=(K:Int):=by unfold wrap64;omega
 have hne:¬(vn:Int)=(K:Int):=fun e=>hv (Int.ofNat_inj.1 e);have hne2:((vn:Int) != (K:Int))=true:=bne_iff_ne.2 hne;have h0:¬(i:Int)<0:=by omega
 have h1:¬(nb:Int)<=(i:Int):=by omega
 clear hr hs kf k3 k4 hWH hK;go_enter func137,ntmps137
 go_upto_region 3 with fail
 go_quiet (fail)
 go_wp2;go_ret;exact⟨rfl,cS (aN _ _) _⟩
theorem AG.filled{w w2:World}{bg bcap:Nat}(h:Aw w A c st (sj bg nb bcap))(hB:AG w B (sj bg nb bcap) N L P D)(hap:∀g,A g->¬B g)(hlt:∀g,B g->g<w.heap.size)(hBb:B bg){i:Nat}(hi:i<L.length)(hb:uj w w2){l:List R4}(hl:l.length=N){a:Option Addr}{vc:Nat}(hv:w2.ownsRow w.heap.size 51 4 (.slice a N vc) N (Aq l)):
  Oj A B c st (sj bg nb bcap) N L i ⟨fun k=>l.getD k (0,0,0,0),0,L[i].dirty⟩ w (.returned (vj 0)) ((w2.setCell (jA bg (i*3)) (.slice a N vc)).setCell (jA bg (i*3+1)) (vj 0)):=by
 have hbw:=hlt bg hBb;have hs2:=hb.size;obtain⟨W,hW⟩:∃W,(w2.setCell (jA bg (i*3)) (.slice a N vc)).setCell (jA bg (i*3+1)) (vj 0)=W:=⟨_,rfl⟩;have hWs:W.heap.size=w2.heap.size:=by rw[<-hW];simp
 have k1:∀b,b≠bg->W.heap[b]?=w2.heap[b]? :=fun b hb=>by rw[<-hW,aL _ (jA bg (i*3+1)) b _ hb,aL _ (jA bg (i*3)) b _ hb]
 have hpx:AC w2 (AA B w W) (.slice a N vc) N (fun k=>l.getD k (0,0,0,0)):=by
  refine⟨N,rfl,⟨?_,fun b hb2=>.inr ⟨(hv.lt b hb2).1,by rw[hWs];exact(hv.lt b hb2).2⟩⟩⟩;have e:pxL (fun k=>l.getD k (0,0,0,0)) N=l:=by rw[<-hl];exact P7 l
  rw[e];exact⟨hv.1,hv.2.imp (fun h=>h) fun⟨g,c,cur,e1,_,e3⟩=>⟨g,c,cur,e1,cB _,e3⟩⟩
 have h0:AG w2 (AA B w W) (sj bg nb bcap) N L P D:=(hB.keep fun g _ hg=>hb.block g hg).mono fun _ hg=>.inl hg;have h1:=h0.setPix hi hpx fun j hj _ b hb2 he=>by
  obtain⟨m,_,hr⟩:=hB.pix j hj;have q1:=hlt b (hr.2 b he);have q2:=(hv.lt b hb2).1;omega
 have h2:=h1.setAge (i:=i) (by rw[bG];exact hi) 0;rw[List.set_set,Eg]at h2;rw[hW];have h3:AG W (AA B w W) (sj bg nb bcap) N (L.set i ⟨fun k=>l.getD k (0,0,0,0),0,L[i].dirty⟩) (fun j=>if j=i then .slice a N vc else P j) D:=by rw[show((0:Nat):Int)=0 from rfl,hW]at h2;exact h2
 have ho:Ac B w W:=by rw[<-hW];exact((Ac.below hb).set (.inl hBb) _).set (.inl hBb) _
 exact⟨rfl,h.keep fun g hg hl=>(k1 g fun e=>hap g hg (e▸hBb)).trans (hb.block g hl),⟨_,D,h3⟩,ho⟩
theorem LA(hw:Wf st)(w:World)(h:Aw w A c st bv)(hap:∀g,A g->¬B g)(hlt:∀g,B g->g<w.heap.size)(Wn Hn:Nat)(hWn:st.w=Wn)(hHn:st.h=Hn)(hB:AG w B bv (Wn*Hn) L P D)(i:Nat)(hi:i<L.length)(l:List R4)(v:Value)(hv:Bb w v l)(hl:l.length=Wn*Hn):
  Calls prog 137 #[pj c,vj i,v] w (Oj A B c st bv (Wn*Hn) L i ⟨fun k=>l.getD k (0,0,0,0),0,L[i].dirty⟩ w):=by
 obtain⟨i0,hi0,hz0,hz1,hz2⟩:=cW Ed;have hww:=hw.ww;have hhh:=hw.hh;rw[hWn]at hww;rw[hHn]at hhh;obtain⟨N,hN⟩:∃N,Wn*Hn=N:=⟨_,rfl⟩;have hN0:0<N:=by rw[<-hN];exact Nat.mul_pos (by omega) (by omega)
 have hN1:N<=576:=by rw[<-hN];exact cI (show Wn<=24 by omega) (show Hn<=24 by omega)
 rw[hN]at hl hB ⊢;obtain⟨bg,bcap,hbv,hbc,hBb,hbgl,hbt,hbfr,hbcs⟩:=hB.rowForm (by omega);obtain⟨nb,hnb⟩:∃n,L.length=n:=⟨_,rfl⟩;have hfew:=hB.few;rw[hnb]at hbv hfew hbc;subst hbv;have HNews:=Aa (fun(W:World) (hW:uj w W)=>KS (hv.below hW) fun e=>by rw[e]at hl;simp at hl;omega);obtain⟨va,vc,hvf,_⟩:=hv;rw[hl]at hvf;subst hvf;have HNw:Hid (∀W,uj w W->(Value.slice va N vc=jj/\N=0)\/∃ad c,Value.slice va N vc=.slice (some ad) N c/\∀j u,(Aq l)[j]?=some u->W.cell? (ad.add j)=some u):=fun W hW=>by
  have:=HNews.out W hW;rw[hl]at this;exact this
 have HFin:Hid (∀(w2:World) (a:Option Addr) (q:Nat),uj w w2->w2.ownsRow w.heap.size 51 4 (.slice a N q) N (Aq l)->Oj A B c st (sj bg nb bcap) N L i ⟨fun k=>l.getD k (0,0,0,0),0,L[i].dirty⟩ w (.returned (vj 0)) ((w2.setCell (jA bg (i*3)) (.slice a N q)).setCell (jA bg (i*3+1)) (vj 0))):=fun w2 a q h1 h2=>AG.filled h hB hap hlt hBb hi h1 hl h2;obtain⟨sv,ov,F,hr,hs⟩:=h;rw[hWn,hHn]at hr;obtain⟨y0,y1,y2⟩:=hbcs i hi;have hcb:c≠bg:=fun e=>hap c hr.own (e▸hBb);have hbc2:bg≠c:=fun e=>hcb e.symm;have HC:Hid (∀W:World,uj w W->W.cell? (jA c 0)=some (vj Wn)/\W.cell? (jA c 1)=some (vj Hn)/\W.cell? (jA c 2)=some (sj bg nb bcap)/\W.cell? (jA bg (i*3))=some (P i)/\(∃u,W.cell? (jA bg (i*3+1))=some u)/\(∀j,W.frozen? (jA bg j)=false)/\c<W.heap.size/\bg<W.heap.size):=fun W hW=>by
  obtain⟨k0,k1,k2,k3,k4,kf,kl⟩:=(hr.below hW).cells;have e:=hW.block bg hbgl;exact⟨k0,k1,k2,(hW.cell (p:=(jA bg (i*3))) hbgl).trans y0,⟨_,(hW.cell (p:=(jA bg (i*3+1))) hbgl).trans y1⟩,fun j=>(World.frozen?_of_block (a:=(jA bg j)) e).trans (hbfr j),kl,aQ hbgl hW.size⟩
 obtain⟨k0,k1,k2,_,⟨u8,k4⟩,kf,kl,_⟩:=HC.out w (aN _ _);have h0:¬(i:Int)<0:=by omega
 have h00:(0:Int)<=(i:Int):=by omega
 have h1:¬(nb:Int)<=(i:Int):=by omega
 have h2:(i:Int)<(nb:Int):=by omega
 have hic:i<bcap:=by omega
 have hNe:((N:Int) != (N:Int))=false:=by simp
 have hML:0+N<=maxLen:=by unfold maxLen;omega
 have hBY:(0+N)*4<=140737488355328:=by omega
 have hWH:(Wn:Int)*(Hn:Int)=(N:Int):=by rw[<-hN];simp
 have m1:IntKind.i64.wrap ((Wn:Int)*(Hn:Int))=(N:Int):=by rw[bB];omega
 have m2:wrap64 ((Wn:Int)*(Hn:Int))=(N:Int):=by unfold wrap64;omega
 have hlen:(Aq l).length=N*4:=by rw[BM,hl]
 obtain⟨post,hpost⟩:∃p,p=Oj A B c st (sj bg nb bcap) N L i ⟨fun k=>l.getD k (0,0,0,0),0,L[i].dirty⟩ w:=⟨_,rfl⟩;rw[<-hpost]at HFin ⊢;clear hr hs kf k4 hB hbcs hbfr hbt hnb y0 y1 y2 hWH hap hlt hpost hl hN;go_enter func137,ntmps137
 go_upto_region 3 with fail
 go_quiet (fail)
 have HB1:Hid (uj w (w.drewN nq)):=cS (aN _ _) _;obtain⟨q0,q1,q2,q3,⟨u9,q4⟩,qf,ql,qb⟩:=HC.out _ HB1.out;generalize w.drewN nq=W1 at*;have hs1:=HB1.out.size;clear k0 k1 k2 kl
 go_upto_region 6 with fail
 go_region_law (refine FP (by rfl) (.tmp 36) (.tmp 37) 44 (by rfl) w.heap.size 51 i0 _ 4 4 underlying44 hi0 hz0 hz1 hz2 rfl (by decide) (jj) 0 [] (by rfl) (bA _ _ _ _) (.slice va N vc) N (Aq l) (by rfl) hlen (HNw.out _ HB1.out.drew) (DY l) hML hBY (by show w.heap.size<=W1.heap.size;exact hs1) ?_;intro ra rc w3 ho3 hg3;have hb3:=HB1.out.drew.grown hg3 (by show w.heap.size<=W1.heap.size;exact hs1) (fun k hk=>by simp[Value.ownBlock]at hk);obtain⟨s0,s1,s2,s3,⟨u7,s4⟩,sf,sl,sb⟩:=HC.out w3 hb3;have sf0:=sf (i*3);have sf1:=sf (i*3+1);rw[Nat.zero_add,List.nil_append]at ho3;have HB3:=Aa (aK hb3 ho3);clear hb3 ho3 hg3 sf)
 all_goals go_wp2
 all_goals(try go_ret)
 all_goals exact HFin.out _ _ _ HB3.out.1 HB3.out.2
end Go.Proofs.YtofinpocigbbeaaGreat
