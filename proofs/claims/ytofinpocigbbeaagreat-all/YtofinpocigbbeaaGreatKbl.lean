import Derived.Test.YtofinpocigbbeaaGreatKbk
import Derived.Test.YtofinpocigbbeaaGreatKbg
set_option maxHeartbeats 1000000
set_option maxRecDepth 100000
set_option linter.unusedSimpArgs false
namespace Go.Proofs.YtofinpocigbbeaaGreat
open Go.Proofs.Tryz Go.RowKit
attribute [local go_sem ↓] Go.wp_at_zero Go.wp_at_succ
variable{A B S:Nat->Prop}{H W:Int}{c x:Nat}{d:Cv}{r:R4}{st:St}{w w':World}
structure Da(w:World)(A B:Nat->Prop)(x:Nat)(st:St)(d:Cv)(c:Nat):Prop where
 pane:AX w A x st (BE c)
 cv:∃bv rg dv,AK w B c d bv rg dv
 ok:Co d
 dw:(d.W:Int)=st.w
 dh:(d.H:Int)=st.h
 la:∀g,A g->g<w.heap.size
 lb:∀g,B g->g<w.heap.size
 ap:∀g,A g->¬B g
def AO(w:World)(S:Nat->Prop)(x:Nat)(st:St)(d:Cv):Prop:=∃A B c,Da w A B x st d c/\(∀g,A g->S g)/\∀g,B g->S g
theorem AO.mono{S':Nat->Prop}(h:AO w S x st d)(hS:∀g,S g->S' g):AO w S' x st d:=by
 obtain⟨A,B,c,h1,h2,h3⟩:=h;exact⟨A,B,c,h1,fun g hg=>hS g (h2 g hg),fun g hg=>hS g (h3 g hg)⟩
theorem Da.keep(h:Da w A B x st d c)(hs:w.heap.size<=w'.heap.size)(hk:∀g,A g\/B g->g<w.heap.size->w'.heap[g]?=w.heap[g]?):Da w' A B x st d c:=
 ⟨h.pane.keep fun g hg hl=>hk g (.inl hg) hl,let ⟨bv,rg,dv,q⟩:=h.cv;⟨bv,rg,dv,q.keep fun g hg hl=>hk g (.inr hg) hl⟩,h.ok,h.dw,h.dh,fun g hg=>aQ (h.la g hg) hs,fun g hg=>aQ (h.lb g hg) hs,h.ap⟩
theorem AO.keep(h:AO w S x st d)(hs:w.heap.size<=w'.heap.size)(hk:∀g,S g->g<w.heap.size->w'.heap[g]?=w.heap[g]?):AO w' S x st d:=by
 obtain⟨A,B,c,h1,h2,h3⟩:=h;exact⟨A,B,c,h1.keep hs fun g hg hl=>hk g (hg.elim (h2 g) (h3 g)) hl,h2,h3⟩
theorem AO.below(h:AO w S x st d)(hb:uj w w'):AO w' S x st d:=h.keep hb.size fun g _ hl=>hb.block g hl
theorem Da.scene{st':St}(h:Da w A B x st d c)(hp:AX w' (AA A w w') x st' (BE c))(ho:Ac A w w')(hw:st'.w=st.w)(hh:st'.h=st.h):Da w' (AA A w w') B x st' d c:=
 ⟨hp,let ⟨bv,rg,dv,q⟩:=h.cv;⟨bv,rg,dv,q.keep fun g hg hl=>ho.block g hl fun ha=>h.ap g ha hg⟩,h.ok,by rw[hw];exact h.dw,by rw[hh];exact h.dh,
  fun g hg=>hg.elim (fun ha=>aQ (h.la g ha) ho.size) fun q=>q.2,fun g hg=>aQ (h.lb g hg) ho.size,fun g hg hb=>hg.elim (fun ha=>h.ap g ha hb) fun q=>by have:=h.lb g hb;omega⟩
theorem Da.full(h:Da w' (AA A w w') B x st d c)(hA:∀g,A g->S g)(hB:∀g,B g->S g):AO w' (AA S w w') x st d:=
 ⟨_,_,c,h,fun g hg=>hg.elim (fun q=>.inl (hA g q)) fun q=>.inr q,fun g hg=>.inl (hB g hg)⟩
def EM(S:Nat->Prop)(x:Nat)(d:Cv)(p:Int×St)(w:World)(e:Ending)(w':World):Prop:=e=.returned (vj p.1)/\AO w' (AA S w w') x p.2 d/\Ac S w w'
theorem Da.post{p:Int×St}{e:Ending}(h:Da w A B x st d c)(hA:∀g,A g->S g)(hB:∀g,B g->S g)(hw:p.2.w=st.w/\p.2.h=st.h)(hp:Bl A x (BE c) p w e w'):EM S x d p w e w':=
 ⟨hp.1,(h.scene hp.2.1 hp.2.2 hw.1 hw.2).full hA hB,hp.2.2.mono fun g _ hg=>hA g hg⟩
theorem Gk(st:St)(id x y:Int):(Bp st id x y).2.w=st.w/\(Bp st id x y).2.h=st.h:=by
 unfold Bp;(repeat' split)<;>exact⟨rfl,rfl⟩
theorem Jv(st:St)(id:Int)(r:R4)(ok:Bool):(Dj st id r ok).2.w=st.w/\(Dj st id r ok).2.h=st.h:=by
 unfold Dj;(repeat' split)<;>exact⟨rfl,rfl⟩
theorem Gl(st:St)(id:Int):(BU st id).2.w=st.w/\(BU st id).2.h=st.h:=by
 unfold BU;split<;>exact⟨rfl,rfl⟩
theorem If(st:St)(id s:Int)(b:Bool):(Cw st id s b).2.w=st.w/\(Cw st id s b).2.h=st.h:=by
 unfold Cw;(repeat' split)<;>exact⟨rfl,rfl⟩
theorem Gm(st:St)(id a b:Int)(n:Nat)(ok:Bool)(f:Nat->R4):(BJ st id a b n ok f).2.w=st.w/\(BJ st id a b n ok f).2.h=st.h:=by
 unfold BJ;(repeat' split)<;>exact⟨rfl,rfl⟩
theorem IJ(hw:Wf st)(id a b:Int)(w:World)(h:AO w S x st d):
  Calls prog 29 #[pj x,vj id,vj a,vj b] w (EM S x d (Bp st id a b) w):=by
 obtain⟨A,B,c,h1,h2,h3⟩:=h;exact(NJ hw id a b w h1.pane).mono fun e w' hp=>h1.post h2 h3 (Gk ..) hp
theorem N7(hw:Wf st)(id:Int)(w:World)(h:AO w S x st d):
  Calls prog 36 #[pj x,vj id] w (EM S x d (BU st id) w):=by
 obtain⟨A,B,c,h1,h2,h3⟩:=h;exact(NK hw id w h1.pane).mono fun e w' hp=>h1.post h2 h3 (Gl ..) hp
theorem RA(hw:Wf st)(id a0 a1 a2 a3:Int)(w:World)(h:AO w S x st d):
  Calls prog 35 #[pj x,vj id,.agg #[vj a0,vj a1,vj a2,vj a3]] w (EM S x d (Dj st id (a0,a1,a2,a3) (AU (a0,a1,a2,a3))) w):=by
 obtain⟨A,B,c,h1,h2,h3⟩:=h;exact(Rm hw id a0 a1 a2 a3 w h1.pane).mono fun e w' hp=>h1.post h2 h3 (Jv ..) hp
theorem PP(hw:Wf st)(id sb:Int)(ab:Bool)(w:World)(h:AO w S x st d):
  Calls prog 38 #[pj x,vj id,vj sb,.bool ab] w (EM S x d (Cw st id sb ab) w):=by
 obtain⟨A,B,c,h1,h2,h3⟩:=h;exact(PE hw id sb ab w h1.pane).mono fun e w' hp=>h1.post h2 h3 (If ..) hp
theorem N8(hw:Wf st)(id a b:Int)(l:List R4)(v:Value)(w:World)(h:AO w S x st d)(hv:Bb w v l)(hlen:l.length<=maxLen):
  Calls prog 28 #[pj x,vj id,vj a,vj b,v] w (EM S x d (BJ st id a b l.length (l.all Ef) fun k=>l.getD k (0,0,0,0)) w):=by
 obtain⟨A,B,c,h1,h2,h3⟩:=h;exact(N6 hw id a b l v w h1.pane hv hlen).mono fun e w' hp=>h1.post h2 h3 (Gm ..) hp
def Vs(S:Nat->Prop)(x:Nat)(d:Cv)(p:Int×Int×St)(w:World)(e:Ending)(w':World):Prop:=e=.returned (.tuple #[vj p.1,vj p.2.1])/\AO w' (AA S w w') x p.2.2 d/\Ac S w w'
theorem G7(st:St)(p:Int):(Bo st p).2.2.w=st.w/\(Bo st p).2.2.h=st.h:=by
 unfold Bo;(repeat' split)<;>exact⟨rfl,rfl⟩
theorem RC(hw:Wf st)(p:Int)(w:World)(h:AO w S x st d):
  Calls prog 27 #[pj x,vj p] w (Vs S x d (Bo st p) w):=by
 obtain⟨A,B,c,h1,h2,h3⟩:=h;refine(Rq hw p w h1.pane).mono fun e w' hp=>?_;exact⟨hp.1,(h1.scene hp.2.1 hp.2.2 (G7 ..).1 (G7 ..).2).full h2 h3,hp.2.2.mono fun g _ hg=>h2 g hg⟩
theorem PQ(hw:Wf st)(h:AO w S x st d):
  Calls prog 23 #[pj x] w (CZ st w):=by
 obtain⟨A,B,c,h1,h2,h3⟩:=h;obtain⟨sc,mp,blk,G,hr⟩:=h1.pane;obtain⟨x0,x1,xl⟩:=hr.scrCells;have HV:=Aa (PI hw (show w.cell? (jA sc 0)=some (pj (blk (-1)))from hr.sceCells.1) (hr.lays hw (CC st)) (hr.sl hw (CC st)));clear hr h1 h2 h3;unfold BE at x0;go_enter func23,ntmps23
 go_wp2_with(go_at_call 45;refine HV.out.mono ?_;rintro e w1 hp;have HP:=Aa hp;obtain⟨v,rfl,hp2⟩:=hp;clear hp2)
 go_ret;exact HP.out
def PR(d d':Cv)(l:List R4):Prop:=∃R,d'= {d with dam:=d.dam.set d.nw R} /\AL R/\∀x y,Ay R x y=(Ay ((d.dam[d.nw]?).getD []) x y||AE l x y)
def OnS(W H:Int)(r:R4):Prop:=r=(0,0,0,0)\/(0<=r.1/\r.1<=r.2.2.1/\r.2.2.1<=W/\0<=r.2.1/\r.2.1<=r.2.2.2/\r.2.2.2<=H)
theorem OnS.fit(hW:W<=24)(hH:H<=24)(h:OnS W H r):AU r=true:=by
 unfold AU;rcases h with rfl|h
 ·rfl
 ·exact bQ (by omega)
theorem OnS.inside(h:OnS W H r){x y:Int}(hx:inR r x y=true):inR (0,0,W,H) x y=true:=by
 unfold inR at*;have hx:=ck hx;refine bQ ?_;simp only;rcases h with rfl|h
 ·simp only at hx;omega
 ·omega
theorem WX(st:St)(i:Nat)(h:Di (st.seen i)=true):OnS st.w st.h (st.seen i):=by
 have hs:=K8 st i;unfold Di at h;have h:=ck h;exact .inr (by omega)
theorem RD(st:St)(p:Int):∀r∈(st.visAll p).map st.seen,OnS st.w st.h r:=by
 intro r hr;obtain⟨i,hi,rfl⟩:=List.mem_map.1 hr;refine WX st i ?_;unfold St.visAll St.visP at hi;rcases bV.1 hi with hi|hi
 ·split at hi
  ·cases hi
  ·exact(bY.1 hi).2
 ·exact(bY.1 hi).2
theorem FF{P:R4->Prop}{step:Nat->R4->R4}:∀(m:Nat) (h:R4),P h->(∀a h,a<m->P h->P (step a h))->P (Dy step m h)
 |0,h,h0,_=>h0
 |m+1,h,h0,hs=>hs m _ (by omega) (FF m h h0 fun a h ha=>hs a h (by omega))
theorem WY{p q:R4}(hp:OnS W H p)(hq:OnS W H q):OnS W H (Fi p q):=by
 unfold Fi;split
 ·split
  ·rename_i h1 h2
   have e1:p≠(0,0,0,0):=fun e=>by subst e;simp[pts]at h1
   have e2:q≠(0,0,0,0):=fun e=>by subst e;simp[pts]at h2
   have a:=hp.resolve_left e1;have b:=hq.resolve_left e2;refine .inr ?_;simp only;omega
  ·exact hp
 ·exact hq
theorem Vt(p:Int->Int->Bool){R:R4}(h:0<=R.1/\0<=R.2.1/\R.2.2.1<=W/\R.2.2.2<=H):OnS W H (BG p R):=by
 unfold BG Bc;refine FF (P:=OnS W H) _ _ (.inl rfl) fun b q hb hq=>?_;unfold otherRow;refine FF (P:=OnS W H) _ _ hq fun a q ha hq=>?_;split
 ·refine WY hq (.inr ?_);simp only;omega
 ·exact hq
theorem Vu{i:Nat}:∀r∈st.cmDam i,OnS st.w st.h r:=by
 intro r hr;unfold St.cmDam at hr;split at hr
 ·rcases bV.1 hr with hr|hr
  ·exact RD st _ r hr
  ·exact RD (cm st i) _ r hr
 ·rw[List.mem_singleton]at hr;subst hr;exact Vt (W:=st.w) (H:=st.h) _ (K8 (cm st i) i)
theorem PR.ok{d':Cv}{l:List R4}(h:PR d d' l)(hd:Co d)(hl:∀r∈l,OnS d.W d.H r):Co d':=by
 obtain⟨R,rfl,hG,hm⟩:=h;refine⟨hd.w1,hd.h1,hd.n,hd.nw,by simp[hd.ln],fun Q hQ=>?_,hd.age,fun Q hQ x y hxy=>?_,hd.apart⟩
 ·rcases List.mem_or_eq_of_mem_set hQ with hQ|rfl
  ·exact hd.good Q hQ
  ·exact hG
 ·rcases List.mem_or_eq_of_mem_set hQ with hQ|rfl
  ·exact hd.inside Q hQ x y hxy
  ·rw[hm,Bool.or_eq_true]at hxy;rcases hxy with hxy|hxy
   ·have hlt:d.nw<d.dam.length:=by rw[hd.ln];exact hd.nw
    rw[aU hlt]at hxy;exact hd.inside _ (aZ hlt) x y hxy
   ·unfold AE at hxy;obtain⟨r,hr,hx⟩:=cF.1 hxy;exact(hl r hr).inside hx
def IK(d d':Cv):Option (List R4)->Prop
 |none=>d'=d
 |some l=>PR d d' l
def Dz(S:Nat->Prop)(x:Nat)(d:Cv)(p:Int×St)(dm:Option (List R4))(w:World)(e:Ending)(w':World):Prop:=e=.returned (vj p.1)/\(∃d',AO w' (AA S w w') x p.2 d'/\IK d d' dm)/\Ac S w w'
theorem Dz.same(h:AO w S x st d)(er:Int):Dz S x d (er,st) none w (.returned (vj er)) w:=
 ⟨rfl,⟨d,h.mono fun _ hg=>.inl hg,rfl⟩,Ac.refl _ _⟩
theorem Da.damage{w1:World}{A B:Nat->Prop}{st':St}{c:Nat}(h:Da w A B x st d c)(hA:∀g,A g->S g)(hB:∀g,B g->S g)(hp:AX w1 (AA A w w1) x st' (BE c))(ho:Ac A w w1)(hw:st'.w=st.w)(hh:st'.h=st.h)(l:List R4)(v:Value)(hv:AF w1 w.heap.size v l)(hl:∀r∈l,OnS st.w st.h r)(hn:l.length<=1000)(V:World)(hV:uj w1 V):
  Calls prog 63 #[pj c,v] V fun e w'=>e=.returned (.tuple #[])/\w'.heap[x]?=V.heap[x]?/\∀w2:World,uj w' w2->Dz S x d (0,st') (some l) w (.returned (vj 0)) w2:=by
 have hm:=h.scene hp ho hw hh;have hd:=h.ok;have hW:=hd.w1;have hH:=hd.h1;have hl2:∀r∈l,OnS d.W d.H r:=fun r hr=>by rw[h.dw,h.dh];exact hl r hr
 have hmV:=hm.keep hV.size fun g _ hg=>hV.block g hg;obtain⟨bv,rg,dv,hc⟩:=hmV.cv;have hvV:As V v l:=(hv.belowR hV).rects;refine(Rf hc hd l v hvV hn fun r hr=>(hl2 r hr).fit (by omega) (by omega)).mono ?_;rintro e w' ⟨rfl,R,dv',hc',hG,hM,ho'⟩;have hrgB:B rg:=hc.rown;have hs1:=ho.size;have hs2:=hV.size;have hs3:=ho'.size;refine⟨rfl,?_,fun w2 h2=>⟨rfl,⟨{d with dam:=d.dam.set d.nw R},?_,R,rfl,hG,hM⟩,?_⟩⟩
 ·obtain⟨sc',mp',blk',G',hr'⟩:=hmV.pane;exact ho'.block x hr'.scrCells.2.2 fun e=>hm.ap x hr'.own.1 (e▸hrgB)
 ·have hs4:=h2.size;have hnA:∀g,AA A w w1 g->g≠rg:=fun g hg e=>hm.ap g hg (e▸hrgB);have hfm:Da w2 (AA A w w1) (AA B V w') x st' {d with dam:=d.dam.set d.nw R} c:=by
   refine⟨?_,⟨bv,rg,dv',hc'.below h2⟩,PR.ok ⟨R,rfl,hG,hM⟩ hd hl2,hm.dw,hm.dh,fun g hg=>?_,fun g hg=>?_,fun g hg hb=>?_⟩
   ·exact(hmV.pane.keep fun g hg hl=>ho'.block g hl (hnA g hg)).below h2
   ·exact aQ (hm.la g hg) (by omega)
   ·rcases hg with hg|hg
    ·exact aQ (hm.lb g hg) (by omega)
    ·omega
   ·rcases hb with hb|hb
    ·exact hm.ap g hg hb
    ·have:=hm.la g hg;omega
  exact⟨_,_,c,hfm,fun g hg=>hg.elim (fun q=>.inl (hA g q)) fun q=>.inr ⟨q.1,by omega⟩,fun g hg=>hg.elim (fun q=>.inl (hB g q)) fun q=>.inr ⟨by omega,by omega⟩⟩
 ·refine((((ho.mono fun g _ hg=>hA g hg).after hV).trans (ho'.mono fun g _ hg=>?_)).after h2);exact .inl (by rw[hg];exact hB rg hrgB)
def St.dmDestroy(st:St)(id:Int):Option (List R4):=if st.isB id=true then some ((st.visAll id.toNat).map st.seen)else none
def St.dmCommit(st:St)(id:Int):Option (List R4):=if st.isB id=true then some (st.cmDam id.toNat)else none
theorem N9(hf:AW st)(id:Int)(w:World)(h:AO w S x st d):
  Calls prog 30 #[pj x,vj id] w (Dz S x d (AZ st id) (st.dmCommit id) w):=by
 have hw:=hf.wf;have hB:=AV hw id;have HE:=Aa (Dz.same h 6);obtain⟨A,B,c,h1,h2,h3⟩:=h;obtain⟨sc,mp,blk,G,hr⟩:=h1.pane;obtain⟨x0,x1,xl⟩:=hr.scrCells;unfold AZ St.dmCommit;obtain⟨t,ht⟩:∃t,st.isB id=t:=⟨_,rfl⟩;rw[ht]at hB ⊢;cases t with
 |false=>
  rw[if_neg (by simp),if_neg (by simp)];have HS:=Aa (Cc hr id (Gg hw ht));unfold BE at x0;clear hB hr h1 h2 h3 ht x1;go_enter func30,ntmps30
  go_wp2_with(go_at_call 58;refine HS.out.mono ?_;rintro e w' ⟨rfl,hw'⟩;replace hw':=hw'.symm;subst hw')
  go_ret;exact HE.out
 |true=>
  rw[if_pos rfl,if_pos rfl];obtain⟨i,rfl,hio⟩:=hB.1 rfl;rw[aX];have HS:=Aa (Cd hr i hio);have hic:i∈(cm st i).order:=(EK hw hf.sib hio).mem_iff.2 hio;have hlen:(st.cmDam i).length<=1000:=by
   have a1:=Cg hw (Af hio);have a2:=Cg (MH hw hf.sib hio) (Af hic);unfold St.cmDam;split
   ·simp only[aY,List.length_map];omega
   ·simp
  obtain⟨ib,hib⟩:∃ib,blk i=ib:=⟨_,rfl⟩;have HC:Hid (∀V:World,uj w V->Calls prog 64 #[pj ib] V fun e w'=>∃v,e=.returned v/\w'.cell? (jA x 1)=some (pj c)/\∀V2:World,uj w' V2->Calls prog 63 #[pj c,v] V2 fun e w3=>e=.returned (.tuple #[])/\∀w2:World,uj w3 w2->Dz S x d (0,cm st i) (some (st.cmDam i)) w (.returned (vj 0)) w2):=fun V hV=>by
   rw[<-hib];refine(NY hf (hr.below hV) (fun g hg=>aQ (h1.la g hg) hV.size) i hio).mono ?_;rintro e w' ⟨v,rfl,r1,r2,r3⟩;have hs:=hV.size;have r2':AX w' (AA A w w') x (cm st i) (BE c):=r2.mono fun g hg=>hg.elim (fun q=>.inl q) fun q=>.inr ⟨by omega,q.2⟩;refine⟨v,rfl,?_,fun V2 hV2=>?_⟩
   ·obtain⟨sc',mp',blk',G',hr'⟩:=r2;exact hr'.scrCells.2.1
   ·exact(h1.damage h2 h3 r2' ((Ac.below hV).trans (r3.mono fun g _ hg=>.inl hg)) rfl rfl _ v (r1.lower hs) Vu hlen V2 hV2).mono fun e w3 q=>⟨q.1,q.2.2⟩
  have HX:Hid (∀V:World,uj w V->V.cell? (jA x 1)=some (pj c)):=fun V hV=>((hr.below hV).scrCells).2.1;unfold BE at x0 x1;rw[hib]at HS;clear hB hr h1 h2 h3 ht hlen hic hib HE hio hf hw;go_enter func30,ntmps30
  go_upto_region 4 with(go_at_call 58;refine HS.out.mono ?_;rintro e w' ⟨rfl,hw'⟩;replace hw':=hw'.symm;subst hw')
  go_cut [] (fun wx=>Hid (Dz S x d (0,cm st i) (some (st.cmDam i)) w (.returned (vj 0)) wx))
  case first=>
   clear x0
   go_region_with (first
    |(go_at_call 64;refine(HC.out _ ?_).mono ?_;(repeat(first|with_reducible exact aN _ _|with_reducible refine bD ?_));rintro e w1 ⟨v,rfl,hx1,hdm⟩;have HD:=Aa hdm;clear hdm)
    |(go_at_call 63;refine(HD.out _ ?_).mono ?_;(repeat(first|with_reducible exact aN _ _|with_reducible refine bD ?_));rintro e w2 ⟨rfl,hen⟩;have HN:=Aa hen;clear hen))
   all_goals go_wp2_with fail
   all_goals go_meet
   all_goals exact HN.out _ (by repeat(first|with_reducible exact aN _ _|with_reducible refine bD ?_))
  case rest=>
   go_wp2_with fail
   go_ret;exact hcut.out
theorem Ma(hw:Wf st)(id:Int)(w:World)(h:AO w S x st d):
  Calls prog 32 #[pj x,vj id] w (Dz S x d (AM st id) (st.dmDestroy id) w):=by
 have hB:=AV hw id;have HE:=Aa (Dz.same h 6);obtain⟨A,B,c,h1,h2,h3⟩:=h;obtain⟨sc,mp,blk,G,hr⟩:=h1.pane;obtain⟨x0,x1,xl⟩:=hr.scrCells;unfold AM St.dmDestroy;obtain⟨t,ht⟩:∃t,st.isB id=t:=⟨_,rfl⟩;rw[ht]at hB ⊢;cases t with
 |false=>
  rw[if_neg (by simp),if_neg (by simp)];have HS:=Aa (Cc hr id (Gg hw ht));unfold BE at x0;clear hB hr h1 h2 h3 ht x1;go_enter func32,ntmps32
  go_wp2_with(go_at_call 58;refine HS.out.mono ?_;rintro e w' ⟨rfl,hw'⟩;replace hw':=hw'.symm;subst hw')
  go_ret;exact HE.out
 |true=>
  rw[if_pos rfl,if_pos rfl];obtain⟨i,rfl,hio⟩:=hB.1 rfl;rw[aX];have HS:=Aa (Cd hr i hio);have hlen:((st.visAll i).map st.seen).length<=1000:=by
   have a1:=Cg hw (Af hio);simp only[List.length_map];omega
  obtain⟨ib,hib⟩:∃ib,blk i=ib:=⟨_,rfl⟩;have HC:Hid (∀V:World,uj w V->Calls prog 66 #[pj sc,pj ib] V fun e w'=>∃v,e=.returned v/\(∀V2:World,uj w' V2->V2.cell? (jA x 0)=some (pj sc)/\V2.cell? (jA x 1)=some (pj c))/\∀V2:World,uj w' V2->Calls prog 63 #[pj c,v] V2 fun e w3=>e=.returned (.tuple #[])/\(w3.cell? (jA x 0)=some (pj sc)/\w3.cell? (jA x 1)=some (pj c))/\∀w2:World,uj w3 w2->Dz S x d (0,rm st i) (some ((st.visAll i).map st.seen)) w (.returned (vj 0)) w2):=fun V hV=>by
   rw[<-hib];refine(L4 hw (hr.below hV) (fun g hg=>aQ (h1.la g hg) hV.size) i hio).mono ?_;rintro e w' ⟨v,rfl,r1,r2,r3⟩;have hs:=hV.size;have r2':AX w' (AA A w w') x (rm st i) (BE c):=r2.ok.mono fun g hg=>hg.elim (fun q=>.inl q) fun q=>.inr ⟨by omega,q.2⟩;have hcl:∀V2:World,uj w' V2->V2.cell? (jA x 0)=some (pj sc)/\V2.cell? (jA x 1)=some (pj c):=fun V2 hV2=>by
    obtain⟨mp',blk',G',hr'⟩:=r2;have:=(hr'.below hV2).scrCells;exact⟨this.1,this.2.1⟩
   refine⟨v,rfl,hcl,fun V2 hV2=>?_⟩;refine(h1.damage h2 h3 r2' ((Ac.below hV).trans (r3.mono fun g _ hg=>.inl hg)) rfl rfl _ v (r1.lower hs) (RD st _) hlen V2 hV2).mono fun e w3 q=>⟨q.1,?_,q.2.2⟩;have k:=hcl V2 hV2;rw[aV (w:=V2) (a:=(jA x 0)) q.2.1,aV (w:=V2) (a:=(jA x 1)) q.2.1];exact k
  have HX:Hid (∀V:World,uj w V->V.cell? (jA x 0)=some (pj sc)/\V.cell? (jA x 1)=some (pj c)):=fun V hV=>let q:=(hr.below hV).scrCells;⟨q.1,q.2.1⟩
  unfold BE at x0 x1;rw[hib]at HS;clear hB hr h1 h2 h3 ht hlen hib HE hio hw;go_enter func32,ntmps32
  go_upto_region 4 with(go_at_call 58;refine HS.out.mono ?_;rintro e w' ⟨rfl,hw'⟩;replace hw':=hw'.symm;subst hw')
  go_cut [] (fun wx=>Hid (Dz S x d (0,rm st i) (some ((st.visAll i).map st.seen)) w (.returned (vj 0)) wx))
  case first=>
   clear x0 x1
   go_region_held3 (fun w'=>w'.cell? (jA x 0)=some (pj sc)/\w'.cell? (jA x 1)=some (pj c))
    (first
     |(refine HX.out _ ?_;(repeat(first|with_reducible exact aN _ _|with_reducible refine bD ?_));done)
     |exact HZ.out
     |(refine HQ.out _ ?_;(repeat(first|with_reducible exact aN _ _|with_reducible refine bD ?_));done)
     |fail)
    (first
     |(go_at_call 66;refine(HC.out _ ?_).mono ?_;(repeat(first|with_reducible exact aN _ _|with_reducible refine bD ?_));rintro e w1 ⟨v,rfl,hq,hdm⟩;have HQ:=Aa hq;have HD:=Aa hdm;clear hdm hq)
     |(go_at_call 63;refine(HD.out _ ?_).mono ?_;(repeat(first|with_reducible exact aN _ _|with_reducible refine bD ?_));rintro e w2 ⟨rfl,hz,hen⟩;have HZ:=Aa hz;have HN:=Aa hen;clear hen hz)
     |fail)
   all_goals go_wp2_with fail
   all_goals go_meet
   all_goals exact HN.out _ (by repeat(first|with_reducible exact aN _ _|with_reducible refine bD ?_))
  case rest=>
   go_wp2_with fail
   go_ret;exact hcut.out
variable{L:List Nat}{i j:Nat}{p q:R4}{st':St}{step:Nat->R4->R4}{x y:Int}
theorem IL{s:Int}(d:Int)(h:0<=s/\s<=255):mix s d 255=s:=by
 unfold mix;rw[show d*(255-255)=0 by simp];omega
theorem MO{s:R4}(hs:JS s)(ha:s.2.2.2=255)(d:R4):Gp s d=s:=by
 obtain⟨a,b,c,e⟩:=s;unfold JS at hs;simp only at hs ha;subst ha;unfold Gp;simp only;rw[IL _ (by omega),IL _ (by omega),IL _ (by omega),IL _ (by omega)]
def CF(st:St):Prop:=∀i k,(st.sf i).kept k=true->((st.sf i).now.pix k).2.2.2=255
theorem Vv(st:St)(x y:Int)(U:List Nat):∀a b:R4×Int,a.1=b.1->(U.foldl (st.lay1 x y) a).1=(U.foldl (st.lay1 x y) b).1:=by
 induction U with
 |nil=>intro a b h;exact h
 |cons i U ih=>
  intro a b h;rw[List.foldl_cons,List.foldl_cons];refine ih _ _ ?_;unfold St.lay1;split
  ·simp only;rw[h]
  ·exact h
theorem Lc(st:St)(x y:Int)(U:List Nat):∀a:R4×Int,(U.foldl (st.lay1 x y) a).2=a.2+((U.filter fun i=>inR (st.seen i) x y).length:Int):=by
 induction U with
 |nil=>intro a;simp
 |cons i U ih=>
  intro a;rw[List.foldl_cons,ih,ch];unfold St.lay1;split
  ·rw[List.length_cons];simp only;omega
  ·rfl
theorem TP(hw:Wf st)(hk:CF st)(h:st.hidesAt x y i=true)(a b:R4×Int):(st.lay1 x y a i).1=(st.lay1 x y b i).1:=by
 unfold St.hidesAt at h;rw[Bool.and_eq_true]at h;have hp:=(hw.lk i).1.pix (st.ixAt i x y) (by
  have h1:=G5 hw h.1;have lk:=(hw.lk i).1;unfold Dm.n at h1;have:=Int.mul_nonneg lk.w.1 lk.h.1;omega)
 unfold St.lay1;rw[if_pos h.1,if_pos h.1];simp only;rw[MO hp (hk i _ h.2),MO hp (hk i _ h.2)]
theorem MP(p:Nat->Bool)(L:List Nat):∀k,DF p L k=0\/p (L.getD (DF p L k) 0)=true
 |0=>.inl rfl
 |k+1=>by
  unfold DF;split
  ·rename_i h;exact .inr h
  ·exact MP p L k
theorem PS(hw:Wf st)(hk:CF st)(L:List Nat)(x y:Int):(st.picL L x y).1=(st.picU x y L).1:=by
 unfold St.picL St.unh St.picU;obtain⟨c,hc⟩:∃c,DF (st.hidesAt x y) L (L.length-1)=c:=⟨_,rfl⟩;have hle:=PN (st.hidesAt x y) L (L.length-1);have hh:=MP (st.hidesAt x y) L (L.length-1);rw[hc]at hle hh ⊢;rcases hh with h|h
 ·subst h;rfl
 ·by_cases hL:c<L.length
  ·rw[bu,aU hL]at h
   conv=>rhs;rw[<-List.take_append_drop c L]
   rw[List.foldl_append,List.drop_eq_getElem_cons hL,List.foldl_cons,List.foldl_cons];exact Vv st x y _ _ _ (TP hw hk h _ _)
  ·have:L=[]:=List.length_eq_zero_iff.1 (by omega);subst this;simp
theorem Kv(h:inR r x y=true):Di r=true:=by
 unfold inR at h;unfold Di;have h:=ck h;exact bQ (by omega)
theorem Ld(P:Nat->Bool)(id sib:Nat)(above:Bool)(hP:P id=false):∀l:List Nat,(rsL l id sib above).filter P=l.filter P:=by
 intro l;induction l with
 |nil=>rfl
 |cons o l ih=>
  unfold rsL at*;rw[ce,List.filter_append,ih,ch];by_cases e:o=id
  ·subst e;cases above<;>by_cases e2:o=sib<;>simp[hP,e2]
   all_goals(subst e2;simp[hP])
  ·cases above<;>by_cases e2:o=sib<;>cases hPo:P o<;>simp[hP,e2,e,hPo]
   all_goals(subst e2;simp_all)
theorem PV{L':List Nat}(hn:L.Nodup)(hn':L'.Nodup)(hi:i∈L)(hi':i∈L')(hx:L'.idxOf i=L.idxOf i)(hf:L'.filter (fun j=>decide (j≠i))=L.filter fun j=>decide (j≠i)):L'=L:=by
 have key:∀M:List Nat,M.Nodup->i∈M->∃A B,M=A++i::B/\A.length=M.idxOf i/\M.filter (fun j=>decide (j≠i))=A++B:=by
  intro M hM hiM;have hl:=List.idxOf_lt_length_of_mem hiM;have hg:M[M.idxOf i]=i:=List.getElem_idxOf hl;have e:M=M.take (M.idxOf i)++i::M.drop (M.idxOf i+1):=by
   conv=>lhs;rw[<-List.take_append_drop (M.idxOf i) M,List.drop_eq_getElem_cons hl,hg]
  refine⟨_,_,e,by rw[bR];omega,?_⟩;have hM2:=hM;rw[e,List.nodup_append,List.nodup_cons]at hM2;obtain⟨_,⟨n1,_⟩,n2⟩:=hM2
  conv=>lhs;rw[e]
  rw[List.filter_append,ch,if_neg (by simp),List.filter_eq_self.2,List.filter_eq_self.2]
  ·intro a ha;simp only[bT];exact fun q=>n1 (q▸ha)
  ·intro a ha;simp only[bT];exact n2 a ha i (by simp)
 obtain⟨A,B,e1,e2,e3⟩:=key L hn hi;obtain⟨A',B',e1',e2',e3'⟩:=key L' hn' hi';rw[e3,e3']at hf;obtain⟨q1,q2⟩:=List.append_inj hf (by rw[e2,e2',hx]);rw[e1,e1',q1,q2]
theorem Le(hw:Wf st)(hj:j∈st.order)(hc:i∈st.chain j)(hh:Di (st.seen j)=true):j∈st.visAll i:=by
 rw[Ic];unfold St.vis;rw[bY];refine⟨?_,hh⟩;by_cases e:j=i
 ·subst e;simp
 ·exact List.mem_cons_of_mem _ ((CJ hw st.sfs.length i (by omega) j).2 ⟨hj,e,hc⟩)
theorem Lf(a b:List R4)(x y:Int):AE (a++b) x y=(AE a x y||AE b x y):=by unfold AE;rw[List.any_append]
structure BY(st st':St):Prop where
 w:st'.w=st.w
 h:st'.h=st.h
 order:st'.order=st.order
 len:st'.sfs.length=st.sfs.length
 par:∀i,(st'.sf i).parent=(st.sf i).parent
 now:∀i,(st'.sf i).now=(st.sf i).now
 kept:∀i,(st'.sf i).kept=(st.sf i).kept
theorem BY.refl(st:St):BY st st:=⟨rfl,rfl,rfl,rfl,fun _=>rfl,fun _=>rfl,fun _=>rfl⟩
theorem BY.trans{a b c:St}(h:BY a b)(k:BY b c):BY a c:=⟨k.w.trans h.w,k.h.trans h.h,k.order.trans h.order,k.len.trans h.len,fun i=>(k.par i).trans (h.par i),fun i=>(k.now i).trans (h.now i),fun i=>(k.kept i).trans (h.kept i)⟩
theorem BY.upd(hi:i<st.sfs.length){g:Sf->Sf}(h1:∀s,(g s).parent=s.parent)(h2:∀s,(g s).now=s.now)(h3:∀s,(g s).kept=s.kept):BY st (Go.Proofs.YtofinpocigbbeaaGreat.upd st i g):=by
 refine⟨rfl,rfl,rfl,Ct _ _ _,fun j=>?_,fun j=>?_,fun j=>?_⟩<;>rw[Bf st i g j hi]<;>split
 ·rename_i e;subst e;exact h1 _
 ·rfl
 ·rename_i e;subst e;exact h2 _
 ·rfl
 ·rename_i e;subst e;exact h3 _
 ·rfl
theorem P1(hw:Wf st){i:Nat}(h:inR (st.seen i) x y=true):
  ((st.ixAt i x y:Nat):Int)=(y-st.py i)*(st.sf i).now.w+(x-st.px i)/\0<=y-st.py i/\y-st.py i<24/\0<=x-st.px i/\x-st.px i<24/\0<=(st.sf i).now.w/\(st.sf i).now.w<=24/\0<=(y-st.py i)*(st.sf i).now.w/\(y-st.py i)*(st.sf i).now.w<=576:=by
 have h1:=G1 h;have lk:=(hw.lk i).1;obtain⟨W,hW⟩:∃W:Nat,(st.sf i).now.w=(W:Int):=⟨(st.sf i).now.w.toNat,by have:=lk.w;omega⟩;obtain⟨X,hX⟩:∃X:Nat,x-st.px i=(X:Int):=⟨(x-st.px i).toNat,by omega⟩;obtain⟨Y,hY⟩:∃Y:Nat,y-st.py i=(Y:Int):=⟨(y-st.py i).toNat,by omega⟩;have lw:=lk.w;have lh:=lk.h;have hm:0<=(y-st.py i)*(st.sf i).now.w/\(y-st.py i)*(st.sf i).now.w<=24*24:=⟨Int.mul_nonneg (by omega) lw.1,Int.mul_le_mul (by omega) lw.2 lw.1 (by omega)⟩;refine⟨?_,by omega,by omega,by omega,by omega,lw.1,lw.2,hm.1,by omega⟩;unfold St.ixAt;rw[hX,hY,hW,aX,aX,aX];simp
theorem Lg(st:St):st.visAll (-1)=st.vis (st.dfs (-1)):=by
 unfold St.visAll St.visP;rfl
def St.cnt(st:St)(x y:Int)(L:List Nat):Nat:=(L.filter fun i=>inR (st.seen i) x y).length
theorem TQ(st:St)(x y:Int)(i:Nat)(L:List Nat):st.cnt x y (i::L)=(if inR (st.seen i) x y=true then 1 else 0)+st.cnt x y L:=by
 unfold St.cnt;rw[ch];split
 ·rw[List.length_cons];omega
 ·omega
theorem SK(st:St)(x y:Int)(L:List Nat):st.cnt x y L<=L.length:=ci _ _
theorem P2(st:St)(x y:Int)(L:List Nat):(st.picL L x y).2=st.cnt x y (st.unh L x y):=by
 unfold St.picL St.picU St.cnt;rw[Lc];simp
theorem Lh(p:Nat->Bool)(L:List Nat):∀k,(∀j,0<j->j<=k->p (L.getD j 0)=false)->DF p L k=0
 |0,_=>rfl
 |k+1,h=>by
  unfold DF;rw[if_neg (by rw[h (k+1) (by omega) (by omega)];simp)];exact Lh p L k fun j h1 h2=>h j h1 (by omega)
theorem Lj(p:Nat->Bool)(L:List Nat)(m:Nat)(hm:p (L.getD m 0)=true):∀k,m<=k->(∀j,m<j->j<=k->p (L.getD j 0)=false)->DF p L k=m
 |0,h1,_=>by
  have:m=0:=by omega
  subst this;rfl
 |k+1,h1,h=>by
  unfold DF;by_cases e:m=k+1
  ·subst e;rw[if_pos hm]
  ·rw[if_neg (by rw[h (k+1) (by omega) (by omega)];simp)];exact Lj p L m hm k (by omega) fun j h1 h2=>h j h1 (by omega)
theorem Vy(h:∀j (hj:j<L.length),st.hidesAt x y L[j]=false):st.unh L x y=L:=by
 unfold St.unh;rw[Lh _ _ _ fun j _ h2=>?_]
 ·rfl
 ·by_cases hj:j<L.length
  ·rw[bu,aU hj];exact h j hj
  ·exfalso;omega
theorem Xa{m:Nat}(hm:m<L.length)(h0:st.hidesAt x y L[m]=true)(h:∀j (hj:j<L.length),m<j->st.hidesAt x y L[j]=false):st.unh L x y=L.drop m:=by
 unfold St.unh;rw[Lj _ _ m (by rw[bu,aU hm];exact h0) _ (by omega) fun j h1 h2=>?_];have hj:j<L.length:=by omega
 rw[bu,aU hj];exact h j hj h1
end Go.Proofs.YtofinpocigbbeaaGreat
