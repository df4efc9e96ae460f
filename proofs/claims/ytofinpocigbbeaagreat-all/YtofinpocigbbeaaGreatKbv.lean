import Derived.Test.YtofinpocigbbeaaGreatKbu
import Derived.Test.YtofinpocigbbeaaGreatKbs
import Derived.Test.YtofinpocigbbeaaGreatKbp
import Derived.Test.YtofinpocigbbeaaGreatKbt
import Derived.Test.YtofinpocigbbeaaGreatKbm
import Derived.Test.YtofinpocigbbeaaGreatKbf
set_option maxHeartbeats 1000000
set_option maxRecDepth 100000
set_option linter.unusedSimpArgs false
namespace Go.Proofs.YtofinpocigbbeaaGreat
open Go.Proofs.Tryz Go.RowKit
variable{A B:Nat->Prop}{D P:Nat->Value}{bv:Value}{st':St}{w w':World}
structure Ea(w:World)(A B:Nat->Prop)(c:Nat)(st:St)(bv:Value)(L:List RB)(P D:Nat->Value):Prop where
 ref:Aw w A c st bv
 buf:AG w B bv (st.w.toNat*st.h.toNat) L P D
 ap:∀g,A g->¬B g
 la:∀g,A g->g<w.heap.size
 lb:∀g,B g->g<w.heap.size
def A0(w:World)(S:Nat->Prop)(c:Nat)(st:St)(L:List RB):Prop:=∃A B bv P D,Ea w A B c st bv L P D/\(∀g,A g->S g)/\∀g,B g->S g
theorem A0.mono{S S':Nat->Prop}{c:Nat}{st:St}{L:List RB}(h:A0 w S c st L)(hS:∀g,S g->S' g):A0 w S' c st L:=by
 obtain⟨A,B,bv,P,D,h1,h2,h3⟩:=h;exact⟨A,B,bv,P,D,h1,fun g hg=>hS g (h2 g hg),fun g hg=>hS g (h3 g hg)⟩
theorem Ea.keep{c:Nat}{st:St}{L:List RB}(h:Ea w A B c st bv L P D)(hs:w.heap.size<=w'.heap.size)(hk:∀g,A g\/B g->g<w.heap.size->w'.heap[g]?=w.heap[g]?):Ea w' A B c st bv L P D:=
 ⟨h.ref.keep fun g hg hl=>hk g (.inl hg) hl,h.buf.keep fun g hg hl=>hk g (.inr hg) hl,h.ap,fun g hg=>aQ (h.la g hg) hs,fun g hg=>aQ (h.lb g hg) hs⟩
theorem A0.keep{S:Nat->Prop}{c:Nat}{st:St}{L:List RB}(h:A0 w S c st L)(hs:w.heap.size<=w'.heap.size)(hk:∀g,S g->g<w.heap.size->w'.heap[g]?=w.heap[g]?):A0 w' S c st L:=by
 obtain⟨A,B,bv,P,D,h1,h2,h3⟩:=h;exact⟨A,B,bv,P,D,h1.keep hs fun g hg hl=>hk g (hg.elim (h2 g) (h3 g)) hl,h2,h3⟩
theorem Ea.wh{c:Nat}{st:St}{L:List RB}(_h:Ea w A B c st bv L P D)(hw:Wf st):st.w=(st.w.toNat:Int)/\st.h=(st.h.toNat:Int):=by
 have:=hw.ww;have:=hw.hh;omega
def D8(S:Nat->Prop)(c:Nat)(L:List RB)(p:Int×St)(w:World)(e:Ending)(w':World):Prop:=e=.returned (vj p.1)/\A0 w' (AA S w w') c p.2 L/\Ac S w w'
def SO(S:Nat->Prop)(c:Nat)(L:List RB)(p:Int×Int×St)(w:World)(e:Ending)(w':World):Prop:=e=.returned (.tuple #[vj p.1,vj p.2.1])/\A0 w' (AA S w w') c p.2.2 L/\Ac S w w'
theorem Ea.next{S:Nat->Prop}{c:Nat}{st:St}{L:List RB}(h:Ea w A B c st bv L P D)(hA:∀g,A g->S g)(hB:∀g,B g->S g)(hr:Aw w' (AA A w w') c st' bv)(ho:Ac A w w')(hwh:st'.w=st.w/\st'.h=st.h):A0 w' (AA S w w') c st' L/\Ac S w w':=by
 have hs:=ho.size;refine⟨⟨AA A w w',B,bv,P,D,⟨hr,?_,fun g hg hb=>?_,fun g hg=>?_,fun g hg=>aQ (h.lb g hg) hs⟩,fun g hg=>hg.imp (hA g) id,fun g hg=>.inl (hB g hg)⟩,ho.mono fun g _ hg=>hA g hg⟩
 ·rw[hwh.1,hwh.2];exact h.buf.apart h.ap ho
 ·rcases hg with hg|hg
  ·exact h.ap g hg hb
  ·have:=h.lb g hb;omega
 ·rcases hg with hg|hg
  ·exact aQ (h.la g hg) hs
  ·exact hg.2
section
variable{S:Nat->Prop}{c:Nat}{st:St}{L:List RB}
theorem Oo(hw:Wf st)(id x y:Int)(w:World)(h:A0 w S c st L):Calls prog 144 #[pj c,vj id,vj x,vj y] w (D8 S c L (Bp st id x y) w):=by
 obtain⟨A,B,bv,P,D,h1,h2,h3⟩:=h;exact(Md hw id x y w h1.ref).mono fun e w' hp=>⟨hp.1,h1.next h2 h3 hp.2.1 hp.2.2 (Gk ..)⟩
theorem Oq(hw:Wf st)(id:Int)(w:World)(h:A0 w S c st L):Calls prog 146 #[pj c,vj id] w (D8 S c L (BU st id) w):=by
 obtain⟨A,B,bv,P,D,h1,h2,h3⟩:=h;exact(Me hw id w h1.ref).mono fun e w' hp=>⟨hp.1,h1.next h2 h3 hp.2.1 hp.2.2 (Gl ..)⟩
theorem RY(hw:Wf st)(id a0 a1 a2 a3:Int)(w:World)(h:A0 w S c st L):Calls prog 145 #[pj c,vj id,.agg #[vj a0,vj a1,vj a2,vj a3]] w (D8 S c L (Dj st id (a0,a1,a2,a3) (AU (a0,a1,a2,a3))) w):=by
 obtain⟨A,B,bv,P,D,h1,h2,h3⟩:=h;exact(P5 hw id a0 a1 a2 a3 w h1.ref).mono fun e w' hp=>⟨hp.1,h1.next h2 h3 hp.2.1 hp.2.2 (Jv ..)⟩
theorem Qo(hw:Wf st)(id sb:Int)(ab:Bool)(w:World)(h:A0 w S c st L):Calls prog 148 #[pj c,vj id,vj sb,.bool ab] w (D8 S c L (Cw st id sb ab) w):=by
 obtain⟨A,B,bv,P,D,h1,h2,h3⟩:=h;exact(Od hw id sb ab w h1.ref).mono fun e w' hp=>⟨hp.1,h1.next h2 h3 hp.2.1 hp.2.2 (If ..)⟩
theorem Ot(hw:Wf st)(id a b:Int)(l:List R4)(v:Value)(w:World)(h:A0 w S c st L)(hl:Bb w v l)(hlen:l.length<=maxLen):Calls prog 143 #[pj c,vj id,vj a,vj b,v] w (D8 S c L (BJ st id a b l.length (l.all Ef) fun k=>l.getD k (0,0,0,0)) w):=by
 obtain⟨A,B,bv,P,D,h1,h2,h3⟩:=h;exact(Mf hw id a b l v w h1.ref hl hlen).mono fun e w' hp=>⟨hp.1,h1.next h2 h3 hp.2.1 hp.2.2 (Gm ..)⟩
theorem Ou(hw:Wf st)(id:Int)(l:List R4)(v:Value)(w:World)(h:A0 w S c st L)(hl:As w v l)(hlen:l.length<=maxLen)(hnl:l=[]->v=jj\/∃ad c,v=.slice (some ad) 0 c):Calls prog 147 #[pj c,vj id,v] w (D8 S c L (BV st id l.length (l.all AU) (AE l)) w):=by
 obtain⟨A,B,bv,P,D,h1,h2,h3⟩:=h;exact(Mi hw id l v w h1.ref hl hlen hnl).mono fun e w' hp=>⟨hp.1,h1.next h2 h3 hp.2.1 hp.2.2 (GC ..)⟩
theorem RZ(hw:Wf st)(p:Int)(w:World)(h:A0 w S c st L):Calls prog 89 #[pj c,vj p] w (SO S c L (Bo st p) w):=by
 obtain⟨A,B,bv,P,D,h1,h2,h3⟩:=h;exact(P6 hw p w h1.ref).mono fun e w' hp=>⟨hp.1,h1.next h2 h3 hp.2.1 hp.2.2 (G7 ..)⟩
theorem Qq(hw:Wf st)(w:World)(h:A0 w S c st L):Calls prog 93 #[pj c] w (CZ st w):=by
 obtain⟨A,B,bv,P,D,h1,h2,h3⟩:=h;exact FA hw w h1.ref
def IZ(S:Nat->Prop)(c:Nat)(L:List RB)(p:Int×St)(N:Nat)(Q:Nat->Bool)(w:World)(e:Ending)(w':World):Prop:=e=.returned (vj p.1)/\(∃L',A0 w' (AA S w w') c p.2 L'/\Db L L' N Q)/\Ac S w w'
theorem Ea.nextD{er:Int}{Q:Nat->Bool}{e:Ending}(h:Ea w A B c st bv L P D)(hA:∀g,A g->S g)(hB:∀g,B g->S g)(hp:Gs A B c bv (st.w.toNat*st.h.toNat) L P D er st' Q w e w')(hwh:st'.w=st.w/\st'.h=st.h):IZ S c L (er,st') (st.w.toNat*st.h.toNat) Q w e w':=by
 obtain⟨he,hr,⟨L',hb,hh⟩,ho⟩:=hp;have hs:=ho.size;refine⟨he,⟨L',⟨AA A w w',B,bv,P,D,⟨hr,?_,fun g hg hb=>?_,fun g hg=>?_,fun g hg=>aQ (h.lb g hg) hs⟩,fun g hg=>hg.imp (hA g) id,fun g hg=>.inl (hB g hg)⟩,hh⟩,ho.mono fun g _ hg=>hg.elim (hA g) (hB g)⟩
 ·rw[hwh.1,hwh.2];exact hb
 ·rcases hg with hg|hg
  ·exact h.ap g hg hb
  ·have:=h.lb g hb;omega
 ·rcases hg with hg|hg
  ·exact aQ (h.la g hg) hs
  ·exact hg.2
theorem Ov(hf:AW st)(id:Int)(w:World)(h:A0 w S c st L)(hwh:(AZ st id).2.w=st.w/\(AZ st id).2.h=st.h):Calls prog 91 #[pj c,vj id] w (IZ S c L (AZ st id) (st.w.toNat*st.h.toNat) (if st.isB id=true then Cq (st.rcDam id.toNat) st.w.toNat else fun _=>false) w):=by
 obtain⟨A,B,bv,P,D,h1,h2,h3⟩:=h;have hq:=h1.wh hf.wf;exact(Ml hf id w h1.ref h1.la h1.ap h1.lb st.w.toNat st.h.toNat hq.1 hq.2 h1.buf).mono fun e w' hp=>h1.nextD h2 h3 hp hwh
theorem Mm(hw:Wf st)(id:Int)(w:World)(h:A0 w S c st L)(hwh:(AM st id).2.w=st.w/\(AM st id).2.h=st.h):Calls prog 90 #[pj c,vj id] w (IZ S c L (AM st id) (st.w.toNat*st.h.toNat) (if st.isB id=true then Cq (st.partsL id.toNat) st.w.toNat else fun _=>false) w):=by
 obtain⟨A,B,bv,P,D,h1,h2,h3⟩:=h;have hq:=h1.wh hw;exact(LB hw id w h1.ref h1.ap h1.lb st.w.toNat st.h.toNat hq.1 hq.2 h1.buf).mono fun e w' hp=>h1.nextD h2 h3 hp hwh
theorem Ea.bvForm(h:Ea w A B c st bv L P D):∃a cap,bv=.slice a L.length cap:=by
 obtain⟨xs,h1,_⟩:=h.buf.row;exact h1.form
theorem Ow(i:Int)(hi:¬(0<=i/\i<L.length))(w:World)(h:A0 w S c st L):Calls prog 139 #[pj c,vj i] w fun e w'=>e=.returned (.tuple #[.agg #[jj,vj 0],vj 10])/\uj w w':=by
 obtain⟨A,B,bv,P,D,h1,h2,h3⟩:=h;obtain⟨a,cap,rfl⟩:=h1.bvForm;exact Mj i hi w h1.ref
theorem Ui(i:Int)(hi:¬(0<=i/\i<L.length))(w:World)(h:A0 w S c st L):Calls prog 140 #[pj c,vj i] w fun e w'=>e=.returned (.tuple #[jj,vj 0,vj 10])/\uj w w':=by
 obtain⟨A,B,bv,P,D,h1,h2,h3⟩:=h;obtain⟨a,cap,rfl⟩:=h1.bvForm;exact RV i hi w h1.ref
theorem Ox(i:Int)(hi:¬(0<=i/\i<L.length))(v:Value)(w:World)(h:A0 w S c st L):Calls prog 137 #[pj c,vj i,v] w fun e w'=>e=.returned (vj 10)/\uj w w':=by
 obtain⟨A,B,bv,P,D,h1,h2,h3⟩:=h;obtain⟨a,cap,rfl⟩:=h1.bvForm;exact Mk i hi v w h1.ref
theorem Mn(hw:Wf st)(i:Nat)(hi:i<L.length)(va:Option Addr)(vn vc:Nat)(hv:vn≠st.w.toNat*st.h.toNat)(w:World)(h:A0 w S c st L):Calls prog 137 #[pj c,vj i,.slice va vn vc] w fun e w'=>e=.returned (vj 4)/\uj w w':=by
 obtain⟨A,B,bv,P,D,h1,h2,h3⟩:=h;have hq:=h1.wh hw;obtain⟨a,cap,rfl⟩:=h1.bvForm;exact Lz i hi st.w.toNat st.h.toNat hq.1 hq.2 hw va vn vc hv w h1.ref
theorem Ea.nextB{P' D':Nat->Value}{L':List RB}(h:Ea w A B c st bv L P D)(hA:∀g,A g->S g)(hB:∀g,B g->S g)(hr:Aw w' A c st bv)(hb:AG w' (AA B w w') bv (st.w.toNat*st.h.toNat) L' P' D')(ho:Ac B w w'):A0 w' (AA S w w') c st L'/\Ac S w w':=by
 have hs:=ho.size;refine⟨⟨A,AA B w w',bv,P',D',⟨hr,hb,fun g hg hb=>?_,fun g hg=>aQ (h.la g hg) hs,fun g hg=>?_⟩,fun g hg=>.inl (hA g hg),fun g hg=>hg.imp (hB g) id⟩,ho.mono fun g _ hg=>hB g hg⟩
 ·rcases hb with hb|hb
  ·exact h.ap g hg hb
  ·have:=h.la g hg;omega
 ·rcases hg with hg|hg
  ·exact aQ (h.lb g hg) hs
  ·exact hg.2
theorem Mo(hw:Wf st)(w:World)(h:A0 w S c st L)(i:Nat)(hi:i<L.length)(l:List R4)(v:Value)(hv:Bb w v l)(hl:l.length=st.w.toNat*st.h.toNat):
  Calls prog 137 #[pj c,vj i,v] w fun e w'=>e=.returned (vj 0)/\A0 w' (AA S w w') c st (L.set i ⟨fun k=>l.getD k (0,0,0,0),0,L[i].dirty⟩)/\Ac S w w':=by
 obtain⟨A,B,bv,P,D,h1,h2,h3⟩:=h;have hwh:=h1.wh hw;refine(LA hw w h1.ref h1.ap h1.lb st.w.toNat st.h.toNat hwh.1 hwh.2 h1.buf i hi l v hv hl).mono ?_;rintro e w' ⟨he,hr,⟨P',D',hb⟩,ho⟩;exact⟨he,h1.nextB h2 h3 hr hb ho⟩
theorem R5(w:World)(h:A0 w S c st L)(i:Nat)(hi:i<L.length):
  Calls prog 140 #[pj c,vj i] w fun e w'=>∃v,e=.returned (.tuple #[v,vj L[i].age,vj 0])/\AC w' S v ((st.w.toNat*st.h.toNat:Nat):Int) L[i].f/\uj w w':=by
 obtain⟨A,B,bv,P,D,h1,h2,h3⟩:=h;refine(Ql i hi w h1.ref h1.buf).mono ?_;rintro e w' ⟨he,hb⟩;exact⟨P i,he,((h1.buf.pix i hi).mono h3).keep fun g _ hg=>hb.block g hg,hb⟩
end
theorem VP(W H n:Int)(w:World)(hW:1<=W/\W<=24)(hH:1<=H/\H<=24)(hn:1<=n/\n<=3):
  Calls prog 81 #[vj W,vj H,vj n] w fun e w'=>∃c,e=.returned (.tuple #[pj c,vj 0])/\A0 w' (fun g=>w.heap.size<=g/\g<w'.heap.size) c ⟨W,H,[],[]⟩ (List.replicate n.toNat J8)/\uj w w':=by
 refine(Uc W H n w hW hH hn).mono ?_;rintro e w' ⟨c,bv,P,D,he,hc,hr,hb,hbel⟩;have hcl:c<w'.heap.size:=by
  obtain⟨sv,ov,F,hr2,_⟩:=hr;exact(aM.1 hr2.scr).1
 refine⟨c,he,⟨fun g=>g=c,fun g=>c<g/\g<w'.heap.size,bv,P,D,⟨hr,hb,fun g hg hb2=>?_,fun g hg=>?_,fun g hg=>hg.2⟩,fun g hg=>?_,fun g hg=>⟨by omega,hg.2⟩⟩,hbel⟩
 ·subst hg;omega
 ·subst hg;exact hcl
 ·subst hg;exact⟨hc,hcl⟩
variable{L L':List RB}{d d':Cv}{i:Nat}{st:St}
structure Duo(st:St)(d:Cv)(L:List RB):Prop where
 fine:AW st
 kept:CF st
 ok:Co d
 dw:(d.W:Int)=st.w
 dh:(d.H:Int)=st.h
 rel:C4 d L
theorem AO.facts{w:World}{S:Nat->Prop}{x:Nat}(h:AO w S x st d):Co d/\(d.W:Int)=st.w/\(d.H:Int)=st.h:=by
 obtain⟨A,B,c,h1,_⟩:=h;exact⟨h1.ok,h1.dw,h1.dh⟩
theorem Duo.nat(h:Duo st d L):st.w.toNat=d.W/\st.h.toNat=d.H:=by
 have:=h.dw;have:=h.dh;omega
theorem R8(hf:AW st)(id a b:Int)(n:Nat)(ok:Bool)(f:Nat->R4):BY st (BJ st id a b n ok f).2:=by
 unfold BJ;split
 ·rename_i hb
  split
  ·split
   ·exact BY.upd (CU hf hb).2.1 (fun _=>rfl) (fun _=>rfl) fun _=>rfl
   ·exact BY.refl _
  ·exact BY.refl _
 ·exact BY.refl _
theorem Qu(st:St)(id:Int):(AZ st id).2.w=st.w/\(AZ st id).2.h=st.h:=by unfold AZ;split<;>exact⟨rfl,rfl⟩
theorem Oz(st:St)(id:Int):(AM st id).2.w=st.w/\(AM st id).2.h=st.h:=by unfold AM;split<;>exact⟨rfl,rfl⟩
theorem Duo.quiet(h:Duo st d L)(hf:AW st')(hk:CF st')(hwh:st'.w=st.w/\st'.h=st.h):Duo st' d L:=⟨hf,hk,h.ok,by rw[hwh.1];exact h.dw,by rw[hwh.2];exact h.dh,h.rel⟩
theorem C4.same(h:C4 d L)(hH:Db L L' (d.W*d.H) fun _=>false):C4 d L':=by
 refine⟨hH.1.trans h.len,fun i hi hi' k hk=>?_,fun i hi hi'=>?_,fun i hi hi' a1 a4 k hk=>?_⟩;all_goals have hi0:i<L.length:=by rw[<-hH.1];exact hi
 ·rw[(hH.2 i hi0 hi).1];exact h.pix i hi0 hi' k hk
 ·rw[(hH.2 i hi0 hi).2.1];exact h.age i hi0 hi'
 ·rw[(hH.2 i hi0 hi).2.2 k hk,Bool.or_false];exact h.dirty i hi0 hi' a1 a4 k hk
theorem Duo.dam(h:Duo st d L)(hf:AW st')(hk:CF st')(hok:Co d'/\(d'.W:Int)=st'.w/\(d'.H:Int)=st'.h){l l':List R4}{b:Bool}(hD:IK d d' (if b=true then some l else none))(hH:Db L L' (st.w.toNat*st.h.toNat) (if b=true then Cq l' st.w.toNat else fun _=>false))(he:b=true->∀x y,AE l' x y=AE l x y):Duo st' d' L':=by
 obtain⟨e1,e2⟩:=h.nat;rw[e1,e2]at hH;refine⟨hf,hk,hok.1,hok.2.1,hok.2.2,?_⟩;cases b with
 |true=>
  rw[if_pos rfl]at hD hH;exact h.rel.hurt h.ok hD hH (he rfl)
 |false=>
  rw[if_neg (by simp)]at hD hH;have hD':d'=d:=hD;rw[hD'];exact h.rel.same hH
theorem Duo.commit(h:Duo st d L)(id:Int)(hok:Co d'/\(d'.W:Int)=(AZ st id).2.w/\(d'.H:Int)=(AZ st id).2.h)(hD:IK d d' (st.dmCommit id))(hH:Db L L' (st.w.toNat*st.h.toNat) (if st.isB id=true then Cq (st.rcDam id.toNat) st.w.toNat else fun _=>false)):Duo (AZ st id).2 d' L':=by
 refine h.dam (GD h.fine id) (GE h.fine h.kept id) hok (l:=st.cmDam id.toNat) (b:=st.isB id) hD hH fun hb x y=>?_;obtain⟨i,rfl,hi⟩:=(AV h.fine.wf id).1 hb;rw[aX];exact Uh h.fine hi x y
theorem Duo.destroy(h:Duo st d L)(id:Int)(hok:Co d'/\(d'.W:Int)=(AM st id).2.w/\(d'.H:Int)=(AM st id).2.h)(hD:IK d d' (st.dmDestroy id))(hH:Db L L' (st.w.toNat*st.h.toNat) (if st.isB id=true then Cq (st.partsL id.toNat) st.w.toNat else fun _=>false)):Duo (AM st id).2 d' L':=by
 refine h.dam (I0 h.fine id) (I5 h.fine h.kept id) hok (l:=(st.visAll id.toNat).map st.seen) (b:=st.isB id) hD hH fun hb x y=>?_;obtain⟨i,rfl,hi⟩:=(AV h.fine.wf id).1 hb;rw[aX];exact Jy h.fine.wf hi x y
def qOf(L:List RB)(i:Nat)(k:Nat):Bool:=match L[i]?with
 |some b=>b.dirty k||GA b.age
 |none=>false
theorem VZ(L:List RB)(hi:i<L.length)(k:Nat):qOf L i k=(L[i].dirty k||GA L[i].age):=by
 unfold qOf;rw[aU hi]
theorem Duo.stale(h:Duo st d L)(hi:i<L.length)(hi':i<d.bufs.length){k:Nat}(hk:k<d.W*d.H):qOf L i k=d.stale d.bufs[i].age ((k%d.W:Nat):Int) ((k/d.W:Nat):Int):=by
 rw[VZ L hi,h.rel.age i hi hi'];by_cases e:d.bufs[i].age=0\/4<d.bufs[i].age
 ·rw[RO d e (by have:=h.ok.w1;omega) hk];have:GA d.bufs[i].age=true:=by unfold GA;exact bQ e
  rw[this,Bool.or_true]
 ·have:GA d.bufs[i].age=false:=by unfold GA;exact cE e
  rw[this,Bool.or_false];exact h.rel.dirty i hi hi' (by omega) (by omega) k hk
theorem Duo.paint(h:Duo st d L)(hi:i<L.length)(hi':i<d.bufs.length){O O':Rgn}(hO:AL O)(hm:∀x y,Ay O x y=d.stale d.bufs[i].age x y)(hG:EE (AP st.w.toNat) (AP st.h.toNat) (CG (qOf L i) (st.w.toNat*st.h.toNat)) ((AP st.h.toNat).length-1) O'):
  O'=O/\Az (fun j=>if qOf L i j=true then(st.picL (st.visAll (-1)) ((j%st.w.toNat:Nat):Int) ((j/st.w.toNat:Nat):Int)).2 else 0) (st.w.toNat*st.h.toNat)=DX (fun x y=>(st.picL (st.visAll (-1)) x y).2) (rc O) (rc O).length/\
   Duo st (d.painted i (BA d.W (rc O) (fun x y=>(st.picL (st.visAll (-1)) x y).1) d.bufs[i].f)) (Cy L i (fTo (qOf L i) (fun k=>(st.picU ((k%st.w.toNat:Nat):Int) ((k/st.w.toNat:Nat):Int) (st.visAll (-1))).1) L[i].f (st.w.toNat*st.h.toNat))):=by
 obtain⟨e1,e2⟩:=h.nat;rw[e1,e2]at hG ⊢;have hW:=h.ok.w1;have hon:∀r∈rc O,Fc d.W d.H r:=fun r hr=>U3 hO (fun x y hh=>by
  rw[hm]at hh;have hin:inR (0,0,(d.W:Int),(d.H:Int)) x y=true:=by
   unfold Cv.stale at hh;split at hh
   ·exact hh
   ·rw[cF]at hh;obtain⟨k,_,hk⟩:=hh;unfold Cv.back at hk;rcases e:d.dam[(d.nw+4-k)%4]?with _|R
    ·rw[e]at hk;simp[Ay]at hk
    ·rw[e]at hk;exact h.ok.inside R (cH e) x y hk
  exact hin) hr
 have hq:∀k,k<d.W*d.H->AE (rc O) ((k%d.W:Nat):Int) ((k/d.W:Nat):Int)=qOf L i k:=fun k hk=>by rw[KQ,hm,h.stale hi hi' hk]
 refine⟨Qh h.ok (fun k hk=>h.stale hi hi' hk) hO hm hG,?_,⟨h.fine,h.kept,LC h.ok i _,h.dw,h.dh,h.rel.paint h.ok i fun k hk=>?_⟩⟩
 ·rw[TX _ (by omega) hO hon];exact Bm _ fun k hk=>by rw[hq k hk]
 ·unfold BA fTo;rw[hq k hk];cases hqk:qOf L i k with
  |true=>
   rw[if_pos ⟨hk,rfl⟩,if_pos rfl];exact(PS h.fine.wf h.kept _ _ _).symm
  |false=>
   rw[if_neg (fun hh=>by cases hh.2),if_neg (by simp)];exact h.rel.pix i hi hi' k hk
theorem Duo.fill(h:Duo st d L)(i g:Nat)(f:Nat->R4)(q:Nat->Bool)(hok:Co (d.filled i g f)):Duo st (d.filled i g f) (L.set i ⟨f,0,q⟩):=⟨h.fine,h.kept,hok,h.dw,h.dh,h.rel.fill i g q⟩
theorem Duo.new(W H:Int)(gs:List Nat)(hf:AW ⟨W,H,[],[]⟩)(hk:CF ⟨W,H,[],[]⟩)(hok:Co (Cv.new W.toNat H.toNat gs))(hW:0<=W)(hH:0<=H):Duo ⟨W,H,[],[]⟩ (Cv.new W.toNat H.toNat gs) (List.replicate gs.length J8):=
 ⟨hf,hk,hok,by show(W.toNat:Int)=W;omega,by show(H.toNat:Int)=H;omega,C4.new _ _ gs⟩
variable{K S:Nat->Prop}{N c g k n0 pb x:Nat}{T t:TypeId}{ps v:Value}{cur:Array Value}{f:Nat->R4}{w1 w2:World}{xs:List Value}
def Law(t:TypeId):Prop:=t=59\/t=56\/t=113\/t=33\/t=108\/t=44\/t=111\/t=69\/t=105\/t=72
def E7(w:World)(g:Nat):Prop:=∀(cur:Array Value) (t:TypeId),Law t->w.heap[g]?≠some (.cells cur t (0,0))
theorem E7.of(h:w.heap[g]?=some (.cells cur t (0,0)))(ht:¬Law t):E7 w g:=fun c t' hl e=>by
 rw[h]at e;injection e with e;injection e with _ e2;subst e2;exact ht hl
theorem E7.keep(h:E7 w g)(e:w'.heap[g]?=w.heap[g]?):E7 w' g:=fun c t hl=>by rw[e];exact h c t hl
def RS(S:Nat->Prop)(w:World):Nat->Prop:=fun g=>S g/\g<w.heap.size/\E7 w g
theorem A4.rs{n:Nat}(h:A4 w S T k v n xs)(hT:¬Law T):A4 w (RS S w) T k v n xs:=
 ⟨h.1,fun g hg=>⟨h.2 g hg,(h.1.lt g hg).2,by obtain⟨cur,hc⟩:=h.type hg;exact .of hc hT⟩⟩
theorem CV(h:w.heap[g]?=some (.cells cur t (0,0)))(hS:S g)(ht:¬Law t):RS S w g:=⟨hS,(aM.1 h).1,.of h ht⟩
theorem Jo.rs{n:Nat}(h:Jo w S v n f):Jo w (RS S w) v n f:=by
 obtain⟨a,h1,h2⟩:=h;refine⟨a,h1,fun hn=>?_⟩;obtain⟨g,e,hs,cur,hc,hr⟩:=h2 hn;exact⟨g,e,CV hc hs (by unfold Law;decide),cur,hc,hr⟩
theorem Gc.rs{n:Nat}{f:Nat->Bool}(h:Gc w S v n f):Gc w (RS S w) v n f:=by
 obtain⟨a,h1,h2⟩:=h;refine⟨a,h1,fun hn=>?_⟩;obtain⟨g,e,hs,cur,hc,hr⟩:=h2 hn;exact⟨g,e,CV hc hs (by unfold Law;decide),cur,hc,hr⟩
theorem D4.rs{O:Rgn}(h:D4 w S v O):D4 w (RS S w) v O:=by
 obtain⟨P,h1,h2,h3,h4,h5⟩:=h;refine⟨P,h1,h2,fun g hg=>?_,fun p hp=>⟨(h4 p hp).1,fun g hg=>?_⟩,h5⟩
 ·obtain⟨cur,hc⟩:=Ap h2 hg;exact CV hc (h3 g hg) (by unfold Law;decide)
 ·have hs:=(h4 p hp).2 g hg;rcases(h4 p hp).1 with⟨e,_⟩|⟨b,c,cur,e,_,hb,_⟩
  ·rw[e]at hg;simp[Value.ownBlock]at hg
  ·rw[e]at hg;simp[Value.ownBlock]at hg;subst hg;exact CV hb hs (by unfold Law;decide)
theorem SfD.rs{G:Nat->Value}{s:Sf}(h:SfD w S G s):SfD w (RS S w) G s:=
 ⟨h.pix.rs,let ⟨R,q,r⟩:=h.hint;⟨R,q.rs,r⟩,h.npix.rs,let ⟨R,q,r⟩:=h.nhint;⟨R,q.rs,r⟩,h.kw,h.kh,h.kept.rs⟩
theorem AX.rs(h:AX w S x st bv):AX w (RS S w) x st bv:=by
 obtain⟨sc,mp,blk,G,h⟩:=h;refine⟨sc,mp,blk,G,h.scr,h.sce,h.map,h.srf,⟨CV h.scr h.own.1 (by unfold Law;decide),CV h.sce h.own.2.1 (by unfold Law;decide),⟨h.own.2.2.1,h.map.lt,fun c t _ e=>h.map.ne e rfl⟩,fun p hp=>?_⟩,h.inj,fun p hp=>(h.on p hp).rs (by unfold Law;decide),h.apart,h.cells,fun i hi=>(h.data i hi).rs⟩;obtain⟨cur,h1,_⟩:=h.srf p hp;exact CV h1 (h.own.2.2.2 p hp) (by unfold Law;decide)
theorem AK.rs{rg:Nat}{dv:Array Value}(h:AK w S c d bv rg dv):AK w (RS S w) c d bv rg dv:=by
 refine⟨h.blk,CV h.blk h.own (by unfold Law;decide),h.row.rs (by unfold Law;decide),h.ring,CV h.ring h.rown (by unfold Law;decide),h.size,fun i R hi=>?_,fun b hb=>?_⟩
 ·obtain⟨v,h1,h2⟩:=h.regs i R hi;exact⟨v,h1,h2.rs⟩
 ·obtain⟨hs,cur,hc,hr⟩:=h.pix b hb;exact⟨CV hc hs (by unfold Law;decide),cur,hc,hr⟩
theorem AO.rs(h:AO w S x st d):AO w (RS S w) x st d:=by
 obtain⟨A,B,c,h1,h2,h3⟩:=h;refine⟨RS A w,RS B w,c,⟨h1.pane.rs,let ⟨bv,rg,dv,q⟩:=h1.cv;⟨bv,rg,dv,q.rs⟩,h1.ok,h1.dw,h1.dh,fun g hg=>hg.2.1,fun g hg=>hg.2.1,fun g hg hb=>h1.ap g hg.1 hb.1⟩,fun g hg=>⟨h2 g hg.1,hg.2⟩,fun g hg=>⟨h3 g hg.1,hg.2⟩⟩
theorem AC.rs{n:Int}(h:AC w S v n f):AC w (RS S w) v n f:=by
 obtain⟨m,h1,h2⟩:=h;exact⟨m,h1,h2.rs (by unfold Law;decide)⟩
theorem Bg.rs{f:Int->Int->Bool}(h:Bg w S v f):Bg w (RS S w) v f:=by
 obtain⟨l,h1,h2⟩:=h;exact⟨l,h1.rs (by unfold Law;decide),h2⟩
theorem AH.rs{n:Int}{f:Nat->Bool}(h:AH w S v n f):AH w (RS S w) v n f:=by
 obtain⟨m,h1,h2⟩:=h;exact⟨m,h1,h2.rs (by unfold Law;decide)⟩
theorem Aw.rs(h:Aw w S c st bv):Aw w (RS S w) c st bv:=by
 obtain⟨sv,ov,F,⟨h1,h2,⟨xs,h3,h4⟩,h5⟩,q⟩:=h;exact⟨sv,ov,F,⟨h1,CV h1 h2 (by unfold Law;decide),⟨xs,h3.rs (by unfold Law;decide),h4⟩,h5.rs (by unfold Law;decide)⟩,⟨q.rel,fun i hi=>⟨(q.dat i hi).pixN.rs,(q.dat i hi).pixX.rs,(q.dat i hi).hinN.rs,(q.dat i hi).hinX.rs,(q.dat i hi).kept.rs⟩⟩⟩
theorem AG.rs{L:List RB}(h:AG w B bv N L P D):AG w (RS B w) bv N L P D:=
 ⟨(let ⟨xs,h1,h2⟩:=h.row;⟨xs,h1.rs (by unfold Law;decide),h2⟩),h.few,fun i hi=>(h.pix i hi).rs,fun i hi=>(h.dir i hi).rs,h.apP,h.apD⟩
theorem A0.rs{L:List RB}(h:A0 w S c st L):A0 w (RS S w) c st L:=by
 obtain⟨A,B,bv,P,D,h1,h2,h3⟩:=h;exact⟨RS A w,RS B w,bv,P,D,⟨h1.ref.rs,h1.buf.rs,fun g ha hb=>h1.ap g ha.1 hb.1,fun g hg=>hg.2.1,fun g hg=>hg.2.1⟩,fun g hg=>⟨h2 g hg.1,hg.2⟩,fun g hg=>⟨h3 g hg.1,hg.2⟩⟩
structure Scr where
 x:Nat
 c:Nat
 st:St
 d:Cv
 L:List RB
 A:Nat->Prop
 B:Nat->Prop
def Scr.own(s:Scr)(g:Nat):Prop:=s.A g\/s.B g
def Scr.cells(s:Scr):List Value:=[BE s.x,BE s.c]
structure QF(w:World)(n0:Nat)(s:Scr):Prop where
 pan:AO w s.A s.x s.st s.d
 ref:A0 w s.B s.c s.st s.L
 duo:Duo s.st s.d s.L
 own:∀g,s.own g->n0<=g/\g<w.heap.size/\E7 w g
 ab:∀g,s.A g->¬s.B g
theorem QF.keep{s:Scr}(h:QF w n0 s)(hs:w.heap.size<=w'.heap.size)(hk:∀g,s.own g->w'.heap[g]?=w.heap[g]?):QF w' n0 s:=
 ⟨h.pan.keep hs fun g hg _=>hk g (.inl hg),h.ref.keep hs fun g hg _=>hk g (.inr hg),h.duo,fun g hg=>⟨(h.own g hg).1,aQ (h.own g hg).2.1 hs,(h.own g hg).2.2.keep (hk g hg)⟩,h.ab⟩
structure Cnt where
 a:Nat
 b:Nat
 v:Nat
def FO(w w':World):Prop:=∀(g:Nat) (cur:Array Value) (t:TypeId),Law t->w.heap[g]?=some (.cells cur t (0,0))->w'.heap[g]?=w.heap[g]?
structure SY(n0:Nat)(w:World)(pb:Nat)(n:Cnt)(K:Nat->Prop)(ps:Value)(pc:Array Value)(av bv cv:Value)(xa xb xc:List Value):Prop where
 blk:w.heap[pb]?=some (.cells pc 69 (0,0))
 p0:pc[0]?=some ps
 p1:pc[1]?=some av
 p2:pc[2]?=some bv
 p3:pc[3]?=some cv
 ca:LJ w K av n.a xa
 cb:I7 w K bv n.b xb
 cc:LK w K cv n.v xc
 la:∀g,av.ownBlock=some g->n0<=g
 lb:∀g,bv.ownBlock=some g->n0<=g
 lc:∀g,cv.ownBlock=some g->n0<=g
theorem SY.keep{n:Cnt}{pc:Array Value}{av cv:Value}{xa xb xc:List Value}(h:SY n0 w pb n K ps pc av bv cv xa xb xc)(hlaw:FO w w')(hK:∀g,K g->w'.heap[g]?=w.heap[g]?):SY n0 w' pb n K ps pc av bv cv xa xb xc:=by
 refine⟨(hlaw pb _ _ (by unfold Law;simp) h.blk).trans h.blk,h.p0,h.p1,h.p2,h.p3,h.ca.keep (fun _ hb=>hb) fun b cur t ht hb=>?_,h.cb.keep (fun _ hb=>hb) fun b cur t ht hb=>?_,h.cc.keep (fun _ hb=>hb) fun b cur t ht hb=>?_,h.la,h.lb,h.lc⟩
 ·rcases ht with⟨_,hk⟩|rfl|rfl
  ·exact hK b hk
  ·exact hlaw b cur _ (by unfold Law;simp) hb
  ·exact hlaw b cur _ (by unfold Law;simp) hb
 ·rcases ht with⟨_,hk⟩|rfl|rfl
  ·exact hK b hk
  ·exact hlaw b cur _ (by unfold Law;simp) hb
  ·exact hlaw b cur _ (by unfold Law;simp) hb
 ·rcases ht with⟨_,hk⟩|rfl|rfl
  ·exact hK b hk
  ·exact hlaw b cur _ (by unfold Law;simp) hb
  ·exact hlaw b cur _ (by unfold Law;simp) hb
structure Inv(n0:Nat)(w:World)(pb:Nat)(n:Cnt)(K:Nat->Prop)(ps:Value)(L:List Scr):Prop where
 play:∃pc av bv cv xa xb xc,SY n0 w pb n K ps pc av bv cv xa xb xc
 lo:n0<=pb
 row:w.ownsRow n0 105 2 ps L.length (L.flatMap Scr.cells)
 scr:∀s∈L,QF w n0 s
 apart:∀(i j:Nat) (s t:Scr),L[i]?=some s->L[j]?=some t->i≠j->∀g,s.own g->¬t.own g
 kk:∀g,K g->n0<=g/\g<w.heap.size
 ks:∀s∈L,∀g,s.own g->¬K g
theorem Inv.size{n:Cnt}{L:List Scr}(h:Inv n0 w pb n K ps L):n0<=w.heap.size:=by
 obtain⟨pc,av,bv,cv,xa,xb,xc,hb⟩:=h.play;have:=Ab hb.blk;have:=h.lo;omega
theorem Inv.keep{n:Cnt}{L:List Scr}(h:Inv n0 w pb n K ps L)(hs:w.heap.size<=w'.heap.size)(hlaw:FO w w')(hscr:∀s∈L,∀g,s.own g->w'.heap[g]?=w.heap[g]?)(hK:∀g,K g->w'.heap[g]?=w.heap[g]?):Inv n0 w' pb n K ps L:=by
 obtain⟨pc,av,bv,cv,xa,xb,xc,hb⟩:=h.play;refine⟨⟨pc,av,bv,cv,xa,xb,xc,hb.keep hlaw hK⟩,h.lo,Ai h.row fun g hg=>?_,fun s hs'=>(h.scr s hs').keep hs (hscr s hs'),h.apart,fun g hg=>⟨(h.kk g hg).1,aQ (h.kk g hg).2 hs⟩,h.ks⟩;obtain⟨cur,hc⟩:=Ap h.row hg;exact hlaw g cur _ (by unfold Law;simp) hc
theorem Inv.below{n:Cnt}{L:List Scr}(h:Inv n0 w pb n K ps L)(hb:uj w w'):Inv n0 w' pb n K ps L:=
 h.keep hb.size (fun g _ _ _ hg=>hb.block g (aM.1 hg).1) (fun s hs g hg=>hb.block g ((h.scr s hs).own g hg).2.1) fun g hg=>hb.block g (h.kk g hg).2
theorem Uw(L:List Scr)(i:Nat)(s s':Scr)(hi:L[i]?=some s)(hx:s'.x=s.x)(hc:s'.c=s.c):(L.set i s').flatMap Scr.cells=L.flatMap Scr.cells:=by
 induction L generalizing i with
 |nil=>rfl
 |cons a L ih=>
  cases i with
  |zero=>
   simp at hi;subst hi;simp[Scr.cells,hx,hc]
  |succ i=>
   simp at hi;simp[ih i hi]
theorem Inv.swap{n:Cnt}{L:List Scr}(h:Inv n0 w pb n K ps L){s s':Scr}(hi:L[i]?=some s)(hx:s'.x=s.x)(hc:s'.c=s.c)(hs:w.heap.size<=w'.heap.size)(hlaw:FO w w')(hK:∀g,K g->w'.heap[g]?=w.heap[g]?)
  (hoth:∀(j:Nat) (t:Scr),L[j]?=some t->i≠j->∀g,t.own g->w'.heap[g]?=w.heap[g]?) (hok:QF w' n0 s') (hnew:∀g,s'.own g->s.own g\/w.heap.size<=g):Inv n0 w' pb n K ps (L.set i s'):=by
 obtain⟨pc,av,bv,cv,xa,xb,xc,hb⟩:=h.play;have hil:i<L.length:=(bL.1 hi).1;have hsm:s∈L:=bM.2 ⟨i,hi⟩;refine⟨⟨pc,av,bv,cv,xa,xb,xc,hb.keep hlaw hK⟩,h.lo,?_,fun t ht=>?_,fun a b t u ha hb' hab g hg=>?_,fun g hg=>⟨(h.kk g hg).1,aQ (h.kk g hg).2 hs⟩,fun t ht g hg hk=>?_⟩
 ·rw[bG,Uw L i s s' hi hx hc];refine Ai h.row fun g hg=>?_;obtain⟨cur,hc⟩:=Ap h.row hg;exact hlaw g cur _ (by unfold Law;simp) hc
 ·obtain⟨j,hj⟩:=bM.1 ht;rw[bW]at hj;by_cases e:i=j
  ·rw[if_pos e,if_pos (by omega)]at hj;injection hj with hj;subst hj;exact hok
  ·rw[if_neg e]at hj;exact(h.scr t (bM.2 ⟨j,hj⟩)).keep hs (hoth j t hj e)
 ·rw[bW]at ha hb';have key:∀(j:Nat) (q:Scr),L[j]?=some q->i≠j->∀g,s'.own g->¬q.own g:=fun j q hj e g h1 h2=>by
   rcases hnew g h1 with h3|h3
   ·exact h.apart i j s q hi hj e g h3 h2
   ·have:=((h.scr q (bM.2 ⟨j,hj⟩)).own g h2).2.1;omega
  by_cases ea:i=a
  ·rw[if_pos ea,if_pos (by omega)]at ha;injection ha with ha;subst ha;rw[if_neg (by omega)]at hb';exact key b u hb' (by omega) g hg
  ·rw[if_neg ea]at ha;by_cases eb:i=b
   ·rw[if_pos eb,if_pos (by omega)]at hb';injection hb' with hb';subst hb';exact fun h2=>key a t ha ea g h2 hg
   ·rw[if_neg eb]at hb';exact h.apart a b t u ha hb' hab g hg
 ·obtain⟨j,hj⟩:=bM.1 ht;rw[bW]at hj;by_cases e:i=j
  ·rw[if_pos e,if_pos (by omega)]at hj;injection hj with hj;subst hj;rcases hnew g hg with h3|h3
   ·exact h.ks s hsm g h3 hk
   ·have:=(h.kk g hk).2;omega
  ·rw[if_neg e]at hj;exact h.ks t (bM.2 ⟨j,hj⟩) g hg hk
theorem Inv.pane{n:Cnt}{L:List Scr}(h:Inv n0 w pb n K ps L){s:Scr}(hi:L[i]?=some s)(hb:uj w w1):AO w1 s.A s.x s.st s.d/\Duo s.st s.d s.L:=by
 have ok:=h.scr s (bM.2 ⟨i,hi⟩);exact⟨ok.pan.keep hb.size fun g hg hl=>hb.block g hl,ok.duo⟩
theorem Inv.ref{n:Cnt}{L:List Scr}(h:Inv n0 w pb n K ps L){s:Scr}(hi:L[i]?=some s)(hb:uj w w1)(oP:Ac s.A w1 w2):A0 w2 s.B s.c s.st s.L/\∀g,s.B g->g<w2.heap.size:=by
 have ok:=h.scr s (bM.2 ⟨i,hi⟩);have h1:=hb.size;have h2:=oP.size;exact⟨ok.ref.keep (by omega) fun g hg hl=>(oP.block g (by omega) fun ha=>ok.ab g ha hg).trans (hb.block g hl),fun g hg=>by have:=(ok.own g (.inr hg)).2.1;omega⟩
theorem Inv.both{w3 w4:World}{n:Cnt}{L:List Scr}(h:Inv n0 w pb n K ps L){s:Scr}{st':St}{d':Cv}{L':List RB}(hi:L[i]?=some s)(hb:uj w w1)(hP:AO w2 (AA s.A w1 w2) s.x st' d')(oP:Ac s.A w1 w2)(hR:A0 w3 (AA s.B w2 w3) s.c st' L')(oR:Ac s.B w2 w3)(hd:Duo st' d' L')(o4:Ac (fun g=>w.heap.size<=g/\g<w1.heap.size) w3 w4):
  Inv n0 w4 pb n K ps (L.set i ⟨s.x,s.c,st',d',L',RS (AA s.A w1 w2) w4,RS (AA s.B w2 w3) w4⟩)/\FO w w4/\Ac (fun g=>n0<=g) w w4:=by
 have ok:=h.scr s (bM.2 ⟨i,hi⟩);have hks:=h.ks s (bM.2 ⟨i,hi⟩);have hn:=h.size;have h1:=hb.size;have h2:=oP.size;have h3:=oR.size;have h4:=o4.size;have step:∀g,g<w.heap.size->¬s.own g->w4.heap[g]?=w.heap[g]? :=fun g hg hs=>
  (o4.block g (by omega) (by omega)).trans ((oR.block g (by omega) fun hh=>hs (.inr hh)).trans ((oP.block g (by omega) fun hh=>hs (.inl hh)).trans (hb.block g hg)))
 have law:FO w w4:=fun g cur t ht hg=>step g (aM.1 hg).1 fun hs=>(ok.own g hs).2.2 cur t ht hg;have onA:∀g,s.A g->n0<=g/\g<w.heap.size:=fun g hg=>⟨(ok.own g (.inl hg)).1,(ok.own g (.inl hg)).2.1⟩;have onB:∀g,s.B g->n0<=g/\g<w.heap.size:=fun g hg=>⟨(ok.own g (.inr hg)).1,(ok.own g (.inr hg)).2.1⟩;refine⟨h.swap hi rfl rfl (by omega) law (fun g hg=>step g (h.kk g hg).2 fun hh=>hks g hh hg) (fun j t hj hne g hg=>step g ((h.scr t (bM.2 ⟨j,hj⟩)).own g hg).2.1 fun hs=>h.apart i j s t hi hj hne g hs hg) ⟨?_,?_,hd,fun g hg=>?_,fun g ha hbb=>?_⟩ fun g hg=>?_,law,⟨?_,?_,?_,by omega,fun g hg hs=>step g hg fun hh=>hs (ok.own g hh).1⟩⟩
 ·refine(hP.keep (by omega) fun g hg hl=>?_).rs;have hlt:g<w3.heap.size:=by omega
  rcases hg with hg|hg
  ·have:=(onA g hg).2;exact(o4.block g hlt (by omega)).trans (oR.block g hl fun hh=>ok.ab g hg hh)
  ·exact(o4.block g hlt (by omega)).trans (oR.block g hl fun hh=>by have:=(onB g hh).2;omega)
 ·refine(hR.keep (by omega) fun g hg hl=>?_).rs;rcases hg with hg|hg
  ·have:=(onB g hg).2;exact o4.block g hl (by omega)
  ·exact o4.block g hl (by omega)
 ·rcases hg with⟨hg|hg,hl,hnl⟩|⟨hg|hg,hl,hnl⟩
  ·exact⟨(onA g hg).1,hl,hnl⟩
  ·exact⟨by omega,hl,hnl⟩
  ·exact⟨(onB g hg).1,hl,hnl⟩
  ·exact⟨by omega,hl,hnl⟩
 ·rcases ha with⟨ha|ha,_⟩
  ·rcases hbb with⟨hbb|hbb,_⟩
   ·exact ok.ab g ha hbb
   ·have:=(onA g ha).2;omega
  ·rcases hbb with⟨hbb|hbb,_⟩
   ·have:=(onB g hbb).2;omega
   ·omega
 ·rcases hg with⟨hg|hg,_⟩|⟨hg|hg,_⟩
  ·exact .inl (.inl hg)
  ·exact .inr (by omega)
  ·exact .inl (.inr hg)
  ·exact .inr (by omega)
 ·exact o4.os.trans (oR.os.trans (oP.os.trans hb.os))
 ·exact o4.tape.trans (oR.tape.trans (oP.tape.trans hb.tape))
 ·exact o4.output.trans (oR.output.trans (oP.output.trans hb.output))
attribute [local go_sem ↓] Go.wp_at_zero Go.wp_at_succ
variable{L:List Scr}{n:Cnt}{s:Scr}
def BD(s:Scr):Value:=.agg #[pj s.x,pj s.c]
def Au(k s a b c:Int)(y:Bool)(r:R4)(lv mv pv:Value):Array Value:=#[vj k,vj s,vj a,vj b,vj c,.bool y,vj r.1,vj r.2.1,vj r.2.2.1,vj r.2.2.2,lv,mv,pv]
def Eb(T:Nat)(L:List Scr):Prop:=∀s∈L,s.d.old<=T
def Cnt.le1(n n':Cnt):Prop:=n'.a<=n.a+1/\n'.b<=n.b+1/\n'.v<=n.v+1
def At(n0:Nat)(pb:Nat)(n:Cnt)(ps:Value)(L:List Scr)(w:World)(e:Ending)(w':World):Prop:=
 e=.returned (.bool true)/\(∃L' n' K',L'.length=L.length/\n.le1 n'/\Inv n0 w' pb n' K' ps L'/\∀T,Eb T L->Eb (T+1) L')/\(∀(g:Nat) (cur:Array Value) (t:TypeId),t=72\/t=105->w.heap[g]?=some (.cells cur t (0,0))->w'.heap[g]?=w.heap[g]?)/\Ac (fun g=>n0<=g) w w'
theorem Eb.set{T:Nat}(h:Eb T L){s':Scr}(hi:L[i]?=some s)(hd:s'.d.old<=s.d.old+1):Eb (T+1) (L.set i s'):=fun t ht=>by
 obtain⟨j,hj⟩:=bM.1 ht;rw[bW]at hj;by_cases e:i=j
 ·rw[if_pos e]at hj;split at hj
  ·injection hj with hj;subst hj;have:=h s (bM.2 ⟨i,hi⟩);omega
  ·cases hj
 ·rw[if_neg e]at hj;have:=h t (bM.2 ⟨j,hj⟩);omega
theorem CA{W:World}{S:Nat->Prop}{o1 o2:Obj}(hS:∀g,S g->g<w.heap.size)(h:Ac S ((w.alloc o1).alloc o2) W):W.heap[w.heap.size]?=some o1/\W.heap[w.heap.size+1]?=some o2:=by
 have e1:((w.alloc o1).alloc o2).heap[w.heap.size]?=some o1:=by
  rw[Ad (w.alloc o1) o2 w.heap.size (by simp)];exact aR w o1
 have e2:((w.alloc o1).alloc o2).heap[w.heap.size+1]?=some o2:=by
  have:=aR (w.alloc o1) o2;simpa using this
 exact⟨(h.block _ (by simp;omega) fun hh=>by have:=hS _ hh;omega).trans e1,(h.block _ (by simp) fun hh=>by have:=hS _ hh;omega).trans e2⟩
theorem Inv.inA(h:Inv n0 w pb n K ps L)(hi:L[i]?=some s):(∀g,s.A g->g<w.heap.size)/\∀g,s.B g->g<w.heap.size:=by
 have ok:=h.scr s (bM.2 ⟨i,hi⟩);exact⟨fun g hg=>(ok.own g (.inl hg)).2.1,fun g hg=>(ok.own g (.inr hg)).2.1⟩
theorem Inv.done{w1 w2 w3 w4:World}(h:Inv n0 w pb n K ps L){st':St}{d':Cv}{L':List RB}(hi:L[i]?=some s)(hb:uj w w1)(hP:AO w2 (AA s.A w1 w2) s.x st' d')(oP:Ac s.A w1 w2)(hR:A0 w3 (AA s.B w2 w3) s.c st' L')(oR:Ac s.B w2 w3)(hd:Duo st' d' L')(hold:d'.old<=s.d.old+1)(o4:Ac (fun g=>w.heap.size<=g/\g<w1.heap.size) w3 w4):
  At n0 pb n ps L w (.returned (.bool true)) w4:=by
 obtain⟨h1,h2,h3⟩:=h.both hi hb hP oP hR oR hd o4;exact⟨rfl,⟨_,n,K,by rw[bG],⟨by omega,by omega,by omega⟩,h1,fun T hT=>hT.set hi hold⟩,fun g cur t ht hg=>h2 g cur t (by unfold Law;rcases ht with rfl|rfl<;>simp) hg,h3⟩
theorem OG(h:Inv n0 w pb n K ps L)(hi:L[i]?=some s)(k a b c:Int)(y:Bool)(r:R4)(lv mv pv:Value):
  Calls prog 96 #[BD s,.agg (Au 5 k a b c y r lv mv pv)] w (At n0 pb n ps L w):=by
 obtain⟨er,st',ho⟩:∃er st',Bp s.st a b c=(er,st'):=⟨_,_,rfl⟩;have hf:Duo st' s.d s.L:=by
  have hq:=(h.pane hi (aN _ _)).2;have:=hq.quiet (EP hq.fine a b c) ((I2 hq.fine _ _ _).keptOk hq.kept) (Gk ..);rw[ho]at this;exact this
 have HP:Hid (∀W,uj w W->Calls prog 29 #[pj s.x,vj a,vj b,vj c] W (EM s.A s.x s.d (er,st') W)):=fun W hW=>by
  have:=IJ (h.pane hi hW).2.fine.wf a b c W (h.pane hi hW).1;rw[ho]at this;exact this
 have HR:Hid (∀W1 W,uj w W1->Ac s.A W1 W->Calls prog 144 #[pj s.c,vj a,vj b,vj c] W (D8 s.B s.c s.L (er,st') W)):=fun W1 W hW1 hW=>by
  have:=Oo (h.pane hi hW1).2.fine.wf a b c W (h.ref hi hW1 hW).1;rw[ho]at this;exact this
 have HIn:=Aa (h.inA hi);have HI:=Aa (aK h (aK hi hf));clear h hi hf ho;unfold BD Au;obtain⟨post,hpost⟩:∃P,P=At n0 pb n ps L w:=⟨_,rfl⟩;rw[<-hpost];have HPo:=Aa hpost;clear hpost;go_enter func96,ntmps96
 go_wp2_with(first
  |(go_at_call 29;refine(HP.out _ (al2 (aO _) _ _)).mono ?_;rintro e w2 ⟨rfl,hP,oP⟩;obtain⟨b1,b2⟩:=CA HIn.out.1 oP;have c1:=aP w2 _ 1 _ _ _ b1;have c2:=aP w2 _ 2 _ _ _ b2;have c3:=aP w2 _ 3 _ _ _ b2;have c4:=aP w2 _ 4 _ _ _ b2;simp only[br,bj,bt]at c1 c2 c3 c4;have H2:=Aa (aK hP oP);clear hP oP b1 b2)
  |(go_at_call 144;refine(HR.out _ _ (al2 (aO _) _ _) H2.out.2).mono ?_;rintro e w3 ⟨rfl,hR,oR⟩;have H3:=Aa (aK hR oR);clear hR oR))
 try go_ret
 rw[HPo.out];exact HI.out.1.done HI.out.2.1 (al2 (aO _) _ _) H2.out.1 H2.out.2 H3.out.1 H3.out.2 HI.out.2.2 (cT _) (Ac.refl _ _)
theorem Sh(h:Inv n0 w pb n K ps L)(hi:L[i]?=some s)(k a b c:Int)(y:Bool)(r:R4)(lv mv pv:Value):
  Calls prog 96 #[BD s,.agg (Au 6 k a b c y r lv mv pv)] w (At n0 pb n ps L w):=by
 obtain⟨er,st',ho⟩:∃er st',Dj s.st a (r.1,r.2.1,r.2.2.1,r.2.2.2) (AU (r.1,r.2.1,r.2.2.1,r.2.2.2))=(er,st'):=⟨_,_,rfl⟩;have hf:Duo st' s.d s.L:=by
  have hq:=(h.pane hi (aN _ _)).2;have:=hq.quiet (MY hq.fine a (r.1,r.2.1,r.2.2.1,r.2.2.2)) ((I3 hq.fine _ _ _).keptOk hq.kept) (Jv ..);rw[ho]at this;exact this
 have HP:Hid (∀W,uj w W->Calls prog 35 #[pj s.x,vj a,.agg #[vj r.1,vj r.2.1,vj r.2.2.1,vj r.2.2.2]] W (EM s.A s.x s.d (er,st') W)):=fun W hW=>by
  have:=RA (h.pane hi hW).2.fine.wf a r.1 r.2.1 r.2.2.1 r.2.2.2 W (h.pane hi hW).1;rw[ho]at this;exact this
 have HR:Hid (∀W1 W,uj w W1->Ac s.A W1 W->Calls prog 145 #[pj s.c,vj a,.agg #[vj r.1,vj r.2.1,vj r.2.2.1,vj r.2.2.2]] W (D8 s.B s.c s.L (er,st') W)):=fun W1 W hW1 hW=>by
  have:=RY (h.pane hi hW1).2.fine.wf a r.1 r.2.1 r.2.2.1 r.2.2.2 W (h.ref hi hW1 hW).1;rw[ho]at this;exact this
 have HIn:=Aa (h.inA hi);have HI:=Aa (aK h (aK hi hf));clear h hi hf ho;unfold BD Au;obtain⟨post,hpost⟩:∃P,P=At n0 pb n ps L w:=⟨_,rfl⟩;rw[<-hpost];have HPo:=Aa hpost;clear hpost;go_enter func96,ntmps96
 go_wp2_with(first
  |(go_at_call 35;refine(HP.out _ (al2 (aO _) _ _)).mono ?_;rintro e w2 ⟨rfl,hP,oP⟩;obtain⟨b1,b2⟩:=CA HIn.out.1 oP;have c1:=aP w2 _ 1 _ _ _ b1;have c2:=aP w2 _ 2 _ _ _ b2;have c6:=aP w2 _ 6 _ _ _ b2;have c7:=aP w2 _ 7 _ _ _ b2;have c8:=aP w2 _ 8 _ _ _ b2;have c9:=aP w2 _ 9 _ _ _ b2;simp only[br,bj,bt]at c1 c2 c6 c7 c8 c9;have H2:=Aa (aK hP oP);clear hP oP b1 b2)
  |(go_at_call 145;refine(HR.out _ _ (al2 (aO _) _ _) H2.out.2).mono ?_;rintro e w3 ⟨rfl,hR,oR⟩;have H3:=Aa (aK hR oR);clear hR oR))
 try go_ret
 rw[HPo.out];exact HI.out.1.done HI.out.2.1 (al2 (aO _) _ _) H2.out.1 H2.out.2 H3.out.1 H3.out.2 HI.out.2.2 (cT _) (Ac.refl _ _)
theorem OH(h:Inv n0 w pb n K ps L)(hi:L[i]?=some s)(k a b c:Int)(y:Bool)(r:R4)(lv mv pv:Value):
  Calls prog 96 #[BD s,.agg (Au 7 k a b c y r lv mv pv)] w (At n0 pb n ps L w):=by
 obtain⟨er,st',ho⟩:∃er st',BU s.st a=(er,st'):=⟨_,_,rfl⟩;have hf:Duo st' s.d s.L:=by
  have hq:=(h.pane hi (aN _ _)).2;have:=hq.quiet (Kc hq.fine a) ((FJ hq.fine _).keptOk hq.kept) (Gl ..);rw[ho]at this;exact this
 have HP:Hid (∀W,uj w W->Calls prog 36 #[pj s.x,vj a] W (EM s.A s.x s.d (er,st') W)):=fun W hW=>by
  have:=N7 (h.pane hi hW).2.fine.wf a W (h.pane hi hW).1;rw[ho]at this;exact this
 have HR:Hid (∀W1 W,uj w W1->Ac s.A W1 W->Calls prog 146 #[pj s.c,vj a] W (D8 s.B s.c s.L (er,st') W)):=fun W1 W hW1 hW=>by
  have:=Oq (h.pane hi hW1).2.fine.wf a W (h.ref hi hW1 hW).1;rw[ho]at this;exact this
 have HIn:=Aa (h.inA hi);have HI:=Aa (aK h (aK hi hf));clear h hi hf ho;unfold BD Au;obtain⟨post,hpost⟩:∃P,P=At n0 pb n ps L w:=⟨_,rfl⟩;rw[<-hpost];have HPo:=Aa hpost;clear hpost;go_enter func96,ntmps96
 go_wp2_with(first
  |(go_at_call 36;refine(HP.out _ (al2 (aO _) _ _)).mono ?_;rintro e w2 ⟨rfl,hP,oP⟩;obtain⟨b1,b2⟩:=CA HIn.out.1 oP;have c1:=aP w2 _ 1 _ _ _ b1;have c2:=aP w2 _ 2 _ _ _ b2;simp only[br,bj,bt]at c1 c2;have H2:=Aa (aK hP oP);clear hP oP b1 b2)
  |(go_at_call 146;refine(HR.out _ _ (al2 (aO _) _ _) H2.out.2).mono ?_;rintro e w3 ⟨rfl,hR,oR⟩;have H3:=Aa (aK hR oR);clear hR oR))
 try go_ret
 rw[HPo.out];exact HI.out.1.done HI.out.2.1 (al2 (aO _) _ _) H2.out.1 H2.out.2 H3.out.1 H3.out.2 HI.out.2.2 (cT _) (Ac.refl _ _)
theorem QG(h:Inv n0 w pb n K ps L)(hi:L[i]?=some s)(k a b c:Int)(y:Bool)(r:R4)(lv mv pv:Value):
  Calls prog 96 #[BD s,.agg (Au 9 k a b c y r lv mv pv)] w (At n0 pb n ps L w):=by
 obtain⟨er,st',ho⟩:∃er st',Cw s.st a b y=(er,st'):=⟨_,_,rfl⟩;have hf:Duo st' s.d s.L:=by
  have hq:=(h.pane hi (aN _ _)).2;have:=hq.quiet (LE hq.fine a b y) ((Hb hq.fine _ _ _).keptOk hq.kept) (If ..);rw[ho]at this;exact this
 have HP:Hid (∀W,uj w W->Calls prog 38 #[pj s.x,vj a,vj b,.bool y] W (EM s.A s.x s.d (er,st') W)):=fun W hW=>by
  have:=PP (h.pane hi hW).2.fine.wf a b y W (h.pane hi hW).1;rw[ho]at this;exact this
 have HR:Hid (∀W1 W,uj w W1->Ac s.A W1 W->Calls prog 148 #[pj s.c,vj a,vj b,.bool y] W (D8 s.B s.c s.L (er,st') W)):=fun W1 W hW1 hW=>by
  have:=Qo (h.pane hi hW1).2.fine.wf a b y W (h.ref hi hW1 hW).1;rw[ho]at this;exact this
 have HIn:=Aa (h.inA hi);have HI:=Aa (aK h (aK hi hf));clear h hi hf ho;unfold BD Au;obtain⟨post,hpost⟩:∃P,P=At n0 pb n ps L w:=⟨_,rfl⟩;rw[<-hpost];have HPo:=Aa hpost;clear hpost;go_enter func96,ntmps96
 go_wp2_with(first
  |(go_at_call 38;refine(HP.out _ (al2 (aO _) _ _)).mono ?_;rintro e w2 ⟨rfl,hP,oP⟩;obtain⟨b1,b2⟩:=CA HIn.out.1 oP;have c1:=aP w2 _ 1 _ _ _ b1;have c2:=aP w2 _ 2 _ _ _ b2;have c3:=aP w2 _ 3 _ _ _ b2;have c5:=aP w2 _ 5 _ _ _ b2;simp only[br,bj,bt]at c1 c2 c3 c5;have H2:=Aa (aK hP oP);clear hP oP b1 b2)
  |(go_at_call 148;refine(HR.out _ _ (al2 (aO _) _ _) H2.out.2).mono ?_;rintro e w3 ⟨rfl,hR,oR⟩;have H3:=Aa (aK hR oR);clear hR oR))
 try go_ret
 rw[HPo.out];exact HI.out.1.done HI.out.2.1 (al2 (aO _) _ _) H2.out.1 H2.out.2 H3.out.1 H3.out.2 HI.out.2.2 (cT _) (Ac.refl _ _)
variable{W:World}{base:Nat}{l:List R4}{o1 o2:Obj}{u:Value}
theorem D0.pix(h:D0 w base v l u):Bb w u l:=by
 rcases h with⟨_,rfl,rfl⟩|⟨_,g,cap,rfl,hr⟩
 ·exact⟨none,0,rfl,fun h=>by simp at h⟩
 ·refine⟨_,cap,rfl,fun hl=>⟨by have:=A7 hr;omega,g,0,rfl,fun k hk=>?_⟩⟩;have cs:=cj hr (g:=g) rfl;have hk2:k<(l++[mkP 5,mkP 6]).length:=by rw[aY];omega
  obtain⟨p0,p1,p2,p3⟩:=Bk (l++[mkP 5,mkP 6]) k hk2;have e:(l++[mkP 5,mkP 6])[k]=l[k]:=List.getElem_append_left hk;rw[e]at p0 p1 p2 p3;have c0:=cs _ _ p0;have c1:=cs _ _ p1;have c2:=cs _ _ p2;have c3:=cs _ _ p3;rw[Bn]at c0 c1 c2 c3;simp only[Nat.zero_add];exact⟨c0,c1,c2,c3⟩
theorem D0.keep{w':World}(h:D0 w base v l u)(hk:∀g,base<=g->g<w.heap.size->w'.heap[g]?=w.heap[g]?):D0 w' base v l u:=by
 rcases h with h|⟨h1,g,cap,h2,h3⟩
 ·exact .inl h
 ·exact .inr ⟨h1,g,cap,h2,Ai h3 fun b hb=>hk b (h3.lt b hb).1 (h3.lt b hb).2⟩
theorem D0.own(h:D0 w base v l u):∀g,u.ownBlock=some g->base<=g/\g<w.heap.size:=by
 rcases h with⟨_,rfl,_⟩|⟨_,g,cap,rfl,h3⟩
 ·intro g hg;simp[Value.ownBlock]at hg
 ·intro b hb;exact h3.lt b hb
theorem D2(h:Below ((w.alloc o1).alloc o2).heap.size ((w.alloc o1).alloc o2) W):W.heap[w.heap.size]?=some o1/\W.heap[w.heap.size+1]?=some o2:=
 CA (S:=fun _=>False) (fun _ hh=>hh.elim) (Ac.below h)
theorem DT{W':World}{S:Nat->Prop}(h:W.heap[w.heap.size]?=some o1/\W.heap[w.heap.size+1]?=some o2)(hS:∀g,S g->g<w.heap.size)(h':Ac S W W'):W'.heap[w.heap.size]?=some o1/\W'.heap[w.heap.size+1]?=some o2:=
 ⟨(h'.block _ (aM.1 h.1).1 fun hh=>by have:=hS _ hh;omega).trans h.1,(h'.block _ (aM.1 h.2).1 fun hh=>by have:=hS _ hh;omega).trans h.2⟩
theorem OI{n0:Nat}{pb:Nat}{n:Cnt}{K:Nat->Prop}{ps:Value}{L:List Scr}(h:Inv n0 w pb n K ps L){i:Nat}{s:Scr}(hi:L[i]?=some s)(k a b c:Int)(y:Bool)(r:R4)(lv mv pv:Value)(l:List R4)
  (hpx:∀W,Ac (fun g=>n0<=g) w W->Bb W pv l) (hv:(pv=jj/\l=[])\/∃ad c,pv=.slice (some ad) l.length c) (hr:l.length*4<=140737488351232) (hby:MZ l):
  Calls prog 96 #[BD s,.agg (Au 4 k a b c y r lv mv pv)] w (At n0 pb n ps L w):=by
 have hn:=h.size;have hml:l.length<=maxLen:=by unfold maxLen;omega
 obtain⟨er,st',ho⟩:∃er st',BJ s.st a b c l.length (l.all Ef) (fun k=>l.getD k (0,0,0,0))=(er,st'):=⟨_,_,rfl⟩;have hf:Duo st' s.d s.L:=by
  have hq:=(h.pane hi (aN _ _)).2;have:=hq.quiet (Kd hq.fine a b c l hby) ((R8 hq.fine _ _ _ _ _ _).keptOk hq.kept) (Gm ..);rw[ho]at this;exact this
 have okA:=h.inA hi;have okN:(∀g,s.A g->n0<=g)/\∀g,s.B g->n0<=g:=by
  have ok:=h.scr s (bM.2 ⟨i,hi⟩);exact⟨fun g hg=>(ok.own g (.inl hg)).1,fun g hg=>(ok.own g (.inr hg)).1⟩
 have HL:Hid (∀W,uj w W->Calls prog 136 #[pv] W fun e w'=>∃u,e=.returned u/\D0 w' W.heap.size pv l u/\uj W w'):=fun W hW=>Nf l pv W (hpx W (Ac.below hW)) hv hr;have HP:Hid (∀W B u,uj w W->D0 W B pv l u->Calls prog 28 #[pj s.x,vj a,vj b,vj c,u] W (EM s.A s.x s.d (er,st') W)):=fun W B u hW hu=>by
  have:=N8 (h.pane hi hW).2.fine.wf a b c l u W (h.pane hi hW).1 hu.pix hml;rw[ho]at this;exact this
 have HR:Hid (∀W1 W,uj w W1->Ac s.A W1 W->Calls prog 143 #[pj s.c,vj a,vj b,vj c,pv] W (D8 s.B s.c s.L (er,st') W)):=fun W1 W hW1 hW=>by
  have hx:Bb W pv l:=hpx W ((Ac.below hW1).trans (hW.mono fun g _ hg=>.inl (okN.1 g hg)));have:=Ot (h.pane hi hW1).2.fine.wf a b c l pv W (h.ref hi hW1 hW).1 hx hml;rw[ho]at this;exact this
 have HT:Hid (∀W1 W2 W3 B u,uj w W1->w.heap.size<=B->D0 W1 B pv l u->Ac s.A W1 W2->Ac s.B W2 W3->Calls prog 138 #[u,pv] W3 fun e w'=>e=.returned (.bool true)/\Ac (fun g=>w.heap.size<=g/\g<W1.heap.size) W3 w'):=fun W1 W2 W3 B u hW1 hB hu o2 o3=>by
  have hx:Bb W3 pv l:=hpx W3 (((Ac.below hW1).trans (o2.mono fun g _ hg=>.inl (okN.1 g hg))).trans (o3.mono fun g _ hg=>.inl (okN.2 g hg)));have s1:=hW1.size;have s2:=o2.size;have hu3:D0 W3 B pv l u:=hu.keep fun g h1 h2=>(o3.block g (by omega) fun hh=>by have:=okA.2 g hh;omega).trans (o2.block g h2 fun hh=>by have:=okA.1 g hh;omega);refine(Hr l u pv B W3 hx hu3 hr).mono ?_;rintro e w' ⟨rfl,hg⟩;refine⟨rfl,(Ac.refl _ _).grown hg fun g hh=>.inl ?_⟩;have:=hu.own g hh;exact⟨by omega,this.2⟩
 have HIn:=Aa okA;have HI:=Aa (aK h (aK hi hf));clear h hi hf ho hpx hv hr hml okA okN hn hby;unfold BD Au;obtain⟨post,hpost⟩:∃P,P=At n0 pb n ps L w:=⟨_,rfl⟩;rw[<-hpost];have HPo:=Aa hpost;clear hpost;go_enter func96,ntmps96
 go_wp2_with(first
  |(go_at_call 136;refine(HL.out _ (al2 (aO _) _ _)).mono ?_;rintro e w1 ⟨u,rfl,hlent,hb1⟩;have hbx:=D2 hb1;have c0:=aP w1 _ 0 _ _ _ hbx.1;have c2:=aP w1 _ 2 _ _ _ hbx.2;have c3:=aP w1 _ 3 _ _ _ hbx.2;have c4:=aP w1 _ 4 _ _ _ hbx.2;simp only[br,bj,bt]at c0 c2 c3 c4;have H1:=Aa (aK ((al2 (aO _) _ _).trans (hb1.mono (by simp;omega))) (aK hlent hbx));clear hlent hb1 hbx)
  |(go_at_call 28;refine(HP.out _ _ _ H1.out.1 H1.out.2.1).mono ?_;rintro e w2 ⟨rfl,hP,oP⟩;have hbx:=DT H1.out.2.2 HIn.out.1 oP;have d1:=aP w2 _ 1 _ _ _ hbx.1;have d2:=aP w2 _ 2 _ _ _ hbx.2;have d3:=aP w2 _ 3 _ _ _ hbx.2;have d4:=aP w2 _ 4 _ _ _ hbx.2;have d12:=aP w2 _ 12 _ _ _ hbx.2;simp only[br,bj,bt]at d1 d2 d3 d4 d12;have H2:=Aa (aK hP (aK oP hbx));clear hP oP hbx)
  |(go_at_call 143;refine(HR.out _ _ H1.out.1 H2.out.2.1).mono ?_;rintro e w3 ⟨rfl,hR,oR⟩;have hbx:=DT H2.out.2.2 HIn.out.2 oR;have f12:=aP w3 _ 12 _ _ _ hbx.2;simp only[br,bj,bt]at f12;have H3:=Aa (aK hR oR);clear hR oR hbx)
  |(go_at_call 138;refine(HT.out _ _ _ _ _ H1.out.1 (by simp;omega) H1.out.2.1 H2.out.2.1 H3.out.2).mono ?_;rintro e w4 ⟨rfl,o4⟩;have H4:=Aa o4;clear o4))
 try go_ret
 rw[HPo.out];exact HI.out.1.done HI.out.2.1 H1.out.1 H2.out.1 H2.out.2.1 H3.out.1 H3.out.2 HI.out.2.2 (cT _) H4.out
theorem JK.rects(h:JK w base v l u):As w u l:=by
 rcases h with⟨_,rfl,rfl⟩|⟨_,g,cap,rfl,hr⟩
 ·exact⟨none,0,rfl,fun h=>by simp at h⟩
 ·refine⟨_,cap,rfl,fun hl=>⟨g,0,rfl,fun k hk=>?_⟩⟩;have cs:=cj hr (g:=g) rfl;have hk2:k<(l++[Dn,Dn]).length:=by rw[aY];omega
  obtain⟨p0,p1,p2,p3⟩:=Cs (l++[Dn,Dn]) k hk2;have e:(l++[Dn,Dn])[k]=l[k]:=List.getElem_append_left hk;rw[e]at p0 p1 p2 p3;have c0:=cs _ _ p0;have c1:=cs _ _ p1;have c2:=cs _ _ p2;have c3:=cs _ _ p3;rw[Bn]at c0 c1 c2 c3;simp only[Nat.zero_add];exact⟨c0,c1,c2,c3⟩
theorem JK.keep{w':World}(h:JK w base v l u)(hk:∀g,base<=g->g<w.heap.size->w'.heap[g]?=w.heap[g]?):JK w' base v l u:=by
 rcases h with h|⟨h1,g,cap,h2,h3⟩
 ·exact .inl h
 ·exact .inr ⟨h1,g,cap,h2,Ai h3 fun b hb=>hk b (h3.lt b hb).1 (h3.lt b hb).2⟩
theorem JK.own(h:JK w base v l u):∀g,u.ownBlock=some g->base<=g/\g<w.heap.size:=by
 rcases h with⟨_,rfl,_⟩|⟨_,g,cap,rfl,h3⟩
 ·intro g hg;simp[Value.ownBlock]at hg
 ·intro b hb;exact h3.lt b hb
theorem OM{n0:Nat}{pb:Nat}{n:Cnt}{K:Nat->Prop}{ps:Value}{L:List Scr}(h:Inv n0 w pb n K ps L){i:Nat}{s:Scr}(hi:L[i]?=some s)(k a b c:Int)(y:Bool)(r:R4)(lv mv pv:Value)(l:List R4)
  (hpx:∀W,Ac (fun g=>n0<=g) w W->As W lv l) (hv:(lv=jj/\l=[])\/∃ad c,lv=.slice (some ad) l.length c) (hr:l.length*32<=140737488351232) (hlow:∀b off c,lv=.slice (some (jA b off)) l.length c->0<l.length->b<n0):
  Calls prog 96 #[BD s,.agg (Au 8 k a b c y r lv mv pv)] w (At n0 pb n ps L w):=by
 have hn:=h.size;have hml:l.length<=maxLen:=by unfold maxLen;omega
 obtain⟨er,st',ho⟩:∃er st',BV s.st a l.length (l.all AU) (AE l)=(er,st'):=⟨_,_,rfl⟩;have hf:Duo st' s.d s.L:=by
  have hq:=(h.pane hi (aN _ _)).2;have:=hq.quiet (M4 hq.fine a l.length (l.all AU) (AE l)) ((I4 hq.fine _ _ _ _).keptOk hq.kept) (GC ..);rw[ho]at this;exact this
 have okA:=h.inA hi;have okN:(∀g,s.A g->n0<=g)/\∀g,s.B g->n0<=g:=by
  have ok:=h.scr s (bM.2 ⟨i,hi⟩);exact⟨fun g hg=>(ok.own g (.inl hg)).1,fun g hg=>(ok.own g (.inr hg)).1⟩
 have HL:Hid (∀W,uj w W->Calls prog 82 #[lv] W fun e w'=>∃u,e=.returned u/\JK w' W.heap.size lv l u/\uj W w'):=fun W hW=>Wo l lv W (hpx W (Ac.below hW)) hv hr;have HP:Hid (∀W B u,uj w W->JK W B lv l u->Calls prog 37 #[pj s.x,vj a,u] W (EM s.A s.x s.d (er,st') W)):=fun W B u hW hu=>by
  have:=On (h.pane hi hW).2.fine.wf a l u W (h.pane hi hW).1 hu.rects hml;rw[ho]at this;exact this
 have HR:Hid (∀W1 W,uj w W1->Ac s.A W1 W->Calls prog 147 #[pj s.c,vj a,lv] W (D8 s.B s.c s.L (er,st') W)):=fun W1 W hW1 hW=>by
  have hx:As W lv l:=hpx W ((Ac.below hW1).trans (hW.mono fun g _ hg=>.inl (okN.1 g hg)));have:=Ou (h.pane hi hW1).2.fine.wf a l lv W (h.ref hi hW1 hW).1 hx hml (fun e=>hv.imp And.left fun⟨ad,c,hh⟩=>⟨ad,c,by rw[hh,e];rfl⟩);rw[ho]at this;exact this
 have HT:Hid (∀W1 W2 W3 B u,uj w W1->w.heap.size<=B->JK W1 B lv l u->Ac s.A W1 W2->Ac s.B W2 W3->Calls prog 85 #[u,lv] W3 fun e w'=>e=.returned (.bool true)/\Ac (fun g=>w.heap.size<=g/\g<W1.heap.size) W3 w'):=fun W1 W2 W3 B u hW1 hB hu o2 o3=>by
  have hx:As W3 lv l:=hpx W3 (((Ac.below hW1).trans (o2.mono fun g _ hg=>.inl (okN.1 g hg))).trans (o3.mono fun g _ hg=>.inl (okN.2 g hg)));have s1:=hW1.size;have s2:=o2.size;have hu3:JK W3 B lv l u:=hu.keep fun g h1 h2=>(o3.block g (by omega) fun hh=>by have:=okA.2 g hh;omega).trans (o2.block g h2 fun hh=>by have:=okA.1 g hh;omega);refine(OK l u lv B W3 hx (fun b off c e hl=>aQ (hlow b off c e hl) (by omega)) hu3 hr).mono ?_;rintro e w' ⟨rfl,hg⟩;refine⟨rfl,(Ac.refl _ _).grown hg fun g hh=>.inl ?_⟩;have:=hu.own g hh;exact⟨by omega,this.2⟩
 have HIn:=Aa okA;have HI:=Aa (aK h (aK hi hf));clear h hi hf ho hpx hv hr hml okA okN hn hlow;unfold BD Au;obtain⟨post,hpost⟩:∃P,P=At n0 pb n ps L w:=⟨_,rfl⟩;rw[<-hpost];have HPo:=Aa hpost;clear hpost;go_enter func96,ntmps96
 go_wp2_with(first
  |(go_at_call 82;refine(HL.out _ (al2 (aO _) _ _)).mono ?_;rintro e w1 ⟨u,rfl,hlent,hb1⟩;have hbx:=D2 hb1;have c0:=aP w1 _ 0 _ _ _ hbx.1;have c2:=aP w1 _ 2 _ _ _ hbx.2;simp only[br,bj,bt]at c0 c2;have H1:=Aa (aK ((al2 (aO _) _ _).trans (hb1.mono (by simp;omega))) (aK hlent hbx));clear hlent hb1 hbx)
  |(go_at_call 37;refine(HP.out _ _ _ H1.out.1 H1.out.2.1).mono ?_;rintro e w2 ⟨rfl,hP,oP⟩;have hbx:=DT H1.out.2.2 HIn.out.1 oP;have d1:=aP w2 _ 1 _ _ _ hbx.1;have d2:=aP w2 _ 2 _ _ _ hbx.2;have d12:=aP w2 _ 10 _ _ _ hbx.2;simp only[br,bj,bt]at d1 d2 d12;have H2:=Aa (aK hP (aK oP hbx));clear hP oP hbx)
  |(go_at_call 147;refine(HR.out _ _ H1.out.1 H2.out.2.1).mono ?_;rintro e w3 ⟨rfl,hR,oR⟩;have hbx:=DT H2.out.2.2 HIn.out.2 oR;have f12:=aP w3 _ 10 _ _ _ hbx.2;simp only[br,bj,bt]at f12;have H3:=Aa (aK hR oR);clear hR oR hbx)
  |(go_at_call 85;refine(HT.out _ _ _ _ _ H1.out.1 (by simp;omega) H1.out.2.1 H2.out.2.1 H3.out.2).mono ?_;rintro e w4 ⟨rfl,o4⟩;have H4:=Aa o4;clear o4))
 try go_ret
 rw[HPo.out];exact HI.out.1.done HI.out.2.1 H1.out.1 H2.out.1 H2.out.2.1 H3.out.1 H3.out.2 HI.out.2.2 (cT _) H4.out
theorem Ni{d d':Cv}{o:Option (List R4)}(h:IK d d' o):d'.old<=d.old+1:=by
 cases o with
 |none=>
  have h':d'=d:=h;rw[h'];omega
 |some l=>
  obtain⟨R,rfl,_⟩:=h;exact cT _
structure Nj(n0:Nat)(w:World)(pv:Value)(l:List R4):Prop where
 at':∀W,Ac (fun g=>n0<=g) w W->Bb W pv l
 form:(pv=jj/\l=[])\/∃ad c,pv=.slice (some ad) l.length c
 fit:l.length*4<=140737488351232
 byte:MZ l
theorem Nj.only{pv:Value}(h:Nj n0 w pv l)(ho:Ac (fun g=>n0<=g) w W):Nj n0 W pv l:=
 ⟨fun W' hW'=>h.at' W' (ho.trans (hW'.mono fun _ _ hg=>.inl hg)),h.form,h.fit,h.byte⟩
structure Nk(n0:Nat)(w:World)(lv:Value)(l:List R4):Prop where
 at':∀W,Ac (fun g=>n0<=g) w W->As W lv l
 form:(lv=jj/\l=[])\/∃ad c,lv=.slice (some ad) l.length c
 fit:l.length*32<=140737488351232
 low:∀b off c,lv=.slice (some (jA b off)) l.length c->0<l.length->b<n0
theorem Nk.only{lv:Value}(h:Nk n0 w lv l)(ho:Ac (fun g=>n0<=g) w W):Nk n0 W lv l:=
 ⟨fun W' hW'=>h.at' W' (ho.trans (hW'.mono fun _ _ hg=>.inl hg)),h.form,h.fit,h.low⟩
theorem At.before{w':World}{e:Ending}(hb:uj w W)(h:At n0 pb n ps L W e w'):At n0 pb n ps L w e w':=by
 obtain⟨h1,h2,h3,h4⟩:=h;refine⟨h1,h2,fun g cur t ht hg=>?_,(Ac.below hb).trans (h4.mono fun _ _ hg=>.inl hg)⟩;have e:=hb.block g (aM.1 hg).1;exact(h3 g cur t ht (e.trans hg)).trans e
theorem Ft(kd k a b c:Int)(y:Bool)(r:R4)(lv mv pv:Value)
  (hA:∀W,uj w W->Calls prog 96 #[BD s,.agg (Au kd k a b c y r lv mv pv)] W (At n0 pb n ps L W))
  (hk:kd=4\/kd=5\/kd=6\/kd=7\/kd=8\/kd=9):
  Calls prog 49 #[pj pb,BD s,.agg (Au kd k a b c y r lv mv pv)] w (At n0 pb n ps L w):=by
 have HC:Hid (∀W,uj w W->Calls prog 96 #[BD s,.agg (Au kd k a b c y r lv mv pv)] W fun e w'=>e=.returned (.bool true)/\Hid (At n0 pb n ps L w (.returned (.bool true)) w')):=fun W hW=>(hA W hW).mono fun e w' hh=>by
  have:=hh.1;subst this;exact⟨rfl,hh.before hW⟩
 clear hA;unfold BD Au at*;rcases hk with rfl|rfl|rfl|rfl|rfl|rfl;all_goals
  go_enter func49,ntmps49
  go_wp2_with(go_at_call 96;refine(HC.out _ (al2 (aO _) _ _)).mono ?_;rintro e w' ⟨rfl,HH⟩)
  go_ret;exact HH.out
theorem XR(h:Inv n0 w pb n K ps L)(hi:L[i]?=some s)(k a b c:Int)(y:Bool)(r:R4)(lv mv pv:Value):
  Calls prog 49 #[pj pb,BD s,.agg (Au 2 k a b c y r lv mv pv)] w (At n0 pb n ps L w):=by
 obtain⟨nn,er,st',ho⟩:∃nn er st',Bo s.st a=(nn,er,st'):=⟨_,_,_,rfl⟩;have hf:Duo st' s.d s.L:=by
  have hq:=(h.pane hi (aN _ _)).2;have:=hq.quiet (Eo hq.fine a) (JB hq.kept a) (G7 ..);rw[ho]at this;exact this
 have HP:Hid (∀W,uj w W->Calls prog 27 #[pj s.x,vj a] W (Vs s.A s.x s.d (nn,er,st') W)):=fun W hW=>by
  have:=RC (h.pane hi hW).2.fine.wf a W (h.pane hi hW).1;rw[ho]at this;exact this
 have HR:Hid (∀W1 W,uj w W1->Ac s.A W1 W->Calls prog 89 #[pj s.c,vj a] W (SO s.B s.c s.L (nn,er,st') W)):=fun W1 W hW1 hW=>by
  have:=RZ (h.pane hi hW1).2.fine.wf a W (h.ref hi hW1 hW).1;rw[ho]at this;exact this
 have HIn:=Aa (h.inA hi);have HI:=Aa (aK h (aK hi hf));clear h hi hf ho;unfold BD Au;obtain⟨post,hpost⟩:∃P,P=At n0 pb n ps L w:=⟨_,rfl⟩;rw[<-hpost];have HPo:=Aa hpost;clear hpost;go_enter func49,ntmps49
 go_wp2_with(first
  |(go_at_call 27;refine(HP.out _ (al2 (aO _) _ _)).mono ?_;rintro e w2 ⟨rfl,hP,oP⟩;obtain⟨b1,b2⟩:=CA HIn.out.1 oP;have c1:=aP w2 _ 1 _ _ _ b1;have c2:=aP w2 _ 2 _ _ _ b2;simp only[br,bj,bt]at c1 c2;have H2:=Aa (aK hP oP);clear hP oP b1 b2)
  |(go_at_call 89;refine(HR.out _ _ (al2 (aO _) _ _) H2.out.2).mono ?_;rintro e w3 ⟨rfl,hR,oR⟩;have H3:=Aa (aK hR oR);clear hR oR))
 try go_ret
 rw[HPo.out];exact HI.out.1.done HI.out.2.1 (al2 (aO _) _ _) H2.out.1 H2.out.2 H3.out.1 H3.out.2 HI.out.2.2 (cT _) (Ac.refl _ _)
theorem Sj(h:Inv n0 w pb n K ps L)(hi:L[i]?=some s)(k a b c:Int)(y:Bool)(r:R4)(lv mv pv:Value):
  Calls prog 49 #[pj pb,BD s,.agg (Au 3 k a b c y r lv mv pv)] w (At n0 pb n ps L w):=by
 obtain⟨er,st',ho⟩:∃er st',AM s.st a=(er,st'):=⟨_,_,rfl⟩;have hf:∀d' L',(Co d'/\(d'.W:Int)=st'.w/\(d'.H:Int)=st'.h)->IK s.d d' (s.st.dmDestroy a)->Db s.L L' (s.st.w.toNat*s.st.h.toNat) (if s.st.isB a=true then Cq (s.st.partsL a.toNat) s.st.w.toNat else fun _=>false)->Duo st' d' L':=fun d' L' h1 h2 h3=>by
  have hq:=(h.pane hi (aN _ _)).2;have:=hq.destroy a (by rw[ho];exact h1) h2 h3;rw[ho]at this;exact this
 have HP:Hid (∀W,uj w W->Calls prog 32 #[pj s.x,vj a] W (Dz s.A s.x s.d (er,st') (s.st.dmDestroy a) W)):=fun W hW=>by
  have:=Ma (h.pane hi hW).2.fine.wf a W (h.pane hi hW).1;rw[ho]at this;exact this
 have HR:Hid (∀W1 W,uj w W1->Ac s.A W1 W->Calls prog 90 #[pj s.c,vj a] W (IZ s.B s.c s.L (er,st') (s.st.w.toNat*s.st.h.toNat) (if s.st.isB a=true then Cq (s.st.partsL a.toNat) s.st.w.toNat else fun _=>false) W)):=fun W1 W hW1 hW=>by
  have:=Mm (h.pane hi hW1).2.fine.wf a W (h.ref hi hW1 hW).1 (Oz ..);rw[ho]at this;exact this
 have HIn:=Aa (h.inA hi);have HI:=Aa (aK h (aK hi hf));clear h hi hf ho;unfold BD Au;obtain⟨post,hpost⟩:∃P,P=At n0 pb n ps L w:=⟨_,rfl⟩;rw[<-hpost];have HPo:=Aa hpost;clear hpost;go_enter func49,ntmps49
 go_wp2_with(first
  |(go_at_call 32;refine(HP.out _ (al2 (aO _) _ _)).mono ?_;rintro e w2 ⟨rfl,hP,oP⟩;obtain⟨b1,b2⟩:=CA HIn.out.1 oP;have c1:=aP w2 _ 1 _ _ _ b1;have c2:=aP w2 _ 2 _ _ _ b2;simp only[br,bj,bt]at c1 c2;have H2:=Aa (aK hP oP);clear hP oP b1 b2)
  |(go_at_call 90;refine(HR.out _ _ (al2 (aO _) _ _) H2.out.2).mono ?_;rintro e w3 ⟨rfl,hR,oR⟩;have H3:=Aa (aK hR oR);clear hR oR))
 try go_ret
 rw[HPo.out];obtain⟨d',hP',hD⟩:=H2.out.1;obtain⟨L9,hR',hH⟩:=H3.out.1;exact HI.out.1.done HI.out.2.1 (al2 (aO _) _ _) hP' H2.out.2 hR' H3.out.2 (HI.out.2.2 d' L9 hP'.facts hD hH) (Ni hD) (Ac.refl _ _)
theorem Uz(h:Inv n0 w pb n K ps L)(hi:L[i]?=some s)(k a b c:Int)(y:Bool)(r:R4)(lv mv pv:Value):
  Calls prog 49 #[pj pb,BD s,.agg (Au 10 k a b c y r lv mv pv)] w (At n0 pb n ps L w):=by
 obtain⟨er,st',ho⟩:∃er st',AZ s.st a=(er,st'):=⟨_,_,rfl⟩;have hf:∀d' L',(Co d'/\(d'.W:Int)=st'.w/\(d'.H:Int)=st'.h)->IK s.d d' (s.st.dmCommit a)->Db s.L L' (s.st.w.toNat*s.st.h.toNat) (if s.st.isB a=true then Cq (s.st.rcDam a.toNat) s.st.w.toNat else fun _=>false)->Duo st' d' L':=fun d' L' h1 h2 h3=>by
  have hq:=(h.pane hi (aN _ _)).2;have:=hq.commit a (by rw[ho];exact h1) h2 h3;rw[ho]at this;exact this
 have HP:Hid (∀W,uj w W->Calls prog 30 #[pj s.x,vj a] W (Dz s.A s.x s.d (er,st') (s.st.dmCommit a) W)):=fun W hW=>by
  have:=N9 (h.pane hi hW).2.fine a W (h.pane hi hW).1;rw[ho]at this;exact this
 have HR:Hid (∀W1 W,uj w W1->Ac s.A W1 W->Calls prog 91 #[pj s.c,vj a] W (IZ s.B s.c s.L (er,st') (s.st.w.toNat*s.st.h.toNat) (if s.st.isB a=true then Cq (s.st.rcDam a.toNat) s.st.w.toNat else fun _=>false) W)):=fun W1 W hW1 hW=>by
  have:=Ov (h.pane hi hW1).2.fine a W (h.ref hi hW1 hW).1 (Qu ..);rw[ho]at this;exact this
 have HIn:=Aa (h.inA hi);have HI:=Aa (aK h (aK hi hf));clear h hi hf ho;unfold BD Au;obtain⟨post,hpost⟩:∃P,P=At n0 pb n ps L w:=⟨_,rfl⟩;rw[<-hpost];have HPo:=Aa hpost;clear hpost;go_enter func49,ntmps49
 go_wp2_with(first
  |(go_at_call 30;refine(HP.out _ (al2 (aO _) _ _)).mono ?_;rintro e w2 ⟨rfl,hP,oP⟩;obtain⟨b1,b2⟩:=CA HIn.out.1 oP;have c1:=aP w2 _ 1 _ _ _ b1;have c2:=aP w2 _ 2 _ _ _ b2;simp only[br,bj,bt]at c1 c2;have H2:=Aa (aK hP oP);clear hP oP b1 b2)
  |(go_at_call 91;refine(HR.out _ _ (al2 (aO _) _ _) H2.out.2).mono ?_;rintro e w3 ⟨rfl,hR,oR⟩;have H3:=Aa (aK hR oR);clear hR oR))
 try go_ret
 rw[HPo.out];obtain⟨d',hP',hD⟩:=H2.out.1;obtain⟨L9,hR',hH⟩:=H3.out.1;exact HI.out.1.done HI.out.2.1 (al2 (aO _) _ _) hP' H2.out.2 hR' H3.out.2 (HI.out.2.2 d' L9 hP'.facts hD hH) (Ni hD) (Ac.refl _ _)
variable{B0 m:Nat}
def S2(w:World)(B0:Nat)(T:TypeId)(L:List Scr):Prop:=∀s∈L,∀g,s.own g->g<B0\/∃(cur:Array Value) (t:TypeId),t≠T/\w.heap[g]?=some (.cells cur t (0,0))
theorem Inv.listA(h:Inv n0 w pb n K ps L)(hB:B0<=w.heap.size)(hn0:n0<=B0)(hK:∀g,K g->g<B0)(hcl:S2 w B0 53 L)(hn:n.a<=1000000000000)(hm:m<=9000000)(hv:GF w B0 v m):
  Calls prog 87 #[.pointer (some (jA pb 1)),v] w fun e w'=>e=.returned (.tuple #[])/\(∃K',Inv n0 w' pb ⟨n.a+1,n.b,n.v⟩ K' ps L)/\(∀(g:Nat) (cur:Array Value) (t:TypeId),t≠53->t≠108->t≠69->w.heap[g]?=some (.cells cur t (0,0))->w'.heap[g]?=w.heap[g]?)/\Ac (fun g=>n0<=g) w w':=by
 obtain⟨pc,av,bv,cv,xa,xb,xc,hbk⟩:=h.play;refine(We (n:=m) hB hbk.blk hbk.p1 hbk.ca hK hn hm hv).mono ?_;rintro e w' ⟨rfl,⟨u',xs',hblk,hcol,hown⟩,ho,hoth⟩;have hs:=ho.size;have other:∀(g:Nat) (cur:Array Value) (t:TypeId),w.heap[g]?=some (.cells cur t (0,0))->t≠53->t≠108->t≠69->w'.heap[g]?=w.heap[g]? :=fun g cur t hg t1 t2 t3=>hoth g cur t t1 t2 t3 hg;have low:∀g,g<B0->E7 w g->w'.heap[g]?=w.heap[g]? :=fun g hg hnl=>ho.block g (by omega) fun hh=>by
  rcases hh with hh|hh|hh
  ·subst hh;exact hnl _ _ (by unfold Law;simp) hbk.blk
  ·obtain⟨c2,hc2⟩:=Ap hbk.ca.row hh;exact hnl _ _ (by unfold Law;simp) hc2
  ·omega
 have scr:∀s∈L,∀g,s.own g->w'.heap[g]?=w.heap[g]? :=fun s hs' g hg=>by
  obtain⟨_,q2,q3⟩:=(h.scr s hs').own g hg;rcases hcl s hs' g hg with hlt|⟨cur,t,ht,hc⟩
  ·exact low g hlt q3
  ·exact other g cur t hc ht (fun e=>q3 cur t (by rw[e];unfold Law;simp) hc) fun e=>q3 cur t (by rw[e];unfold Law;simp) hc
 refine⟨rfl,⟨fun g=>K g\/(B0<=g/\∃cur,w'.heap[g]?=some (.cells cur 53 (0,0))),⟨⟨_,u',bv,cv,xs',xb,xc,hblk,by rw[bC (by omega)];exact hbk.p0,by rw[Array.getElem?_setIfInBounds_self_of_lt (aM.1 hbk.p1).1],by rw[bC (by omega)];exact hbk.p2,by rw[bC (by omega)];exact hbk.p3,hcol,hbk.cb.keep (fun _ hb=>.inl hb) fun b cur t ht hb=>other b cur t hb (by rcases ht with⟨rfl,_⟩|rfl|rfl<;>decide) (by rcases ht with⟨rfl,_⟩|rfl|rfl<;>decide) (by rcases ht with⟨rfl,_⟩|rfl|rfl<;>decide),hbk.cc.keep (fun _ hb=>.inl hb) fun b cur t ht hb=>other b cur t hb (by rcases ht with⟨rfl,_⟩|rfl|rfl<;>decide) (by rcases ht with⟨rfl,_⟩|rfl|rfl<;>decide) (by rcases ht with⟨rfl,_⟩|rfl|rfl<;>decide),fun g hg=>?_,hbk.lb,hbk.lc⟩,h.lo,Ai h.row fun g hg=>?_,fun s hs'=>(h.scr s hs').keep hs (scr s hs'),h.apart,fun g hg=>?_,fun s hs' g hg hk=>?_⟩⟩,fun g cur t t1 t2 t3 hg=>other g cur t hg t1 t2 t3,ho.mono fun g _ hh=>?_⟩
 ·rcases hown with e|⟨g',e,hg'⟩
  ·rw[e]at hg;exact hbk.la g hg
  ·rw[e]at hg;injection hg with hg;omega
 ·obtain⟨cur,hc⟩:=Ap h.row hg;exact other g cur _ hc (by decide) (by decide) (by decide)
 ·rcases hg with hg|⟨hg,cur,hc⟩
  ·exact⟨(h.kk g hg).1,aQ (h.kk g hg).2 hs⟩
  ·exact⟨by omega,(aM.1 hc).1⟩
 ·rcases hk with hk|⟨hk,cur,hc⟩
  ·exact h.ks s hs' g hg hk
  ·rcases hcl s hs' g hg with hlt|⟨c2,t,ht,h2⟩
   ·omega
   ·have e1:=(scr s hs' g hg).trans h2;rw[hc]at e1;injection e1 with e1;injection e1 with _ e1;exact ht e1.symm
 ·rcases hh with rfl|hh|hh
  ·exact h.lo
  ·exact hbk.la g hh
  ·omega
theorem Inv.listB(h:Inv n0 w pb n K ps L)(hB:B0<=w.heap.size)(hn0:n0<=B0)(hK:∀g,K g->g<B0)(hcl:S2 w B0 51 L)(hn:n.b<=1000000000000)(hm:m<=9000000)(hv:FR w B0 v m):
  Calls prog 142 #[.pointer (some (jA pb 1)),v] w fun e w'=>e=.returned (.tuple #[])/\(∃K',Inv n0 w' pb ⟨n.a,n.b+1,n.v⟩ K' ps L)/\(∀(g:Nat) (cur:Array Value) (t:TypeId),t=72\/t=105->w.heap[g]?=some (.cells cur t (0,0))->w'.heap[g]?=w.heap[g]?)/\Ac (fun g=>n0<=g) w w':=by
 obtain⟨pc,av,bv,cv,xa,xb,xc,hbk⟩:=h.play;refine(Wh (n:=m) hB hbk.blk hbk.p2 hbk.cb hK hn hm hv).mono ?_;rintro e w' ⟨rfl,⟨u',xs',hblk,hcol,hown⟩,ho,hoth⟩;have hs:=ho.size;have other:∀(g:Nat) (cur:Array Value) (t:TypeId),w.heap[g]?=some (.cells cur t (0,0))->t≠51->t≠111->t≠69->w'.heap[g]?=w.heap[g]? :=fun g cur t hg t1 t2 t3=>hoth g cur t t1 t2 t3 hg;have low:∀g,g<B0->E7 w g->w'.heap[g]?=w.heap[g]? :=fun g hg hnl=>ho.block g (by omega) fun hh=>by
  rcases hh with hh|hh|hh
  ·subst hh;exact hnl _ _ (by unfold Law;simp) hbk.blk
  ·obtain⟨c2,hc2⟩:=Ap hbk.cb.row hh;exact hnl _ _ (by unfold Law;simp) hc2
  ·omega
 have scr:∀s∈L,∀g,s.own g->w'.heap[g]?=w.heap[g]? :=fun s hs' g hg=>by
  obtain⟨_,q2,q3⟩:=(h.scr s hs').own g hg;rcases hcl s hs' g hg with hlt|⟨cur,t,ht,hc⟩
  ·exact low g hlt q3
  ·exact other g cur t hc ht (fun e=>q3 cur t (by rw[e];unfold Law;simp) hc) fun e=>q3 cur t (by rw[e];unfold Law;simp) hc
 refine⟨rfl,⟨fun g=>K g\/(B0<=g/\∃cur,w'.heap[g]?=some (.cells cur 51 (0,0))),⟨⟨_,av,u',cv,xa,xs',xc,hblk,by rw[bC (by omega)];exact hbk.p0,by rw[bC (by omega)];exact hbk.p1,by rw[Array.getElem?_setIfInBounds_self_of_lt (aM.1 hbk.p2).1],by rw[bC (by omega)];exact hbk.p3,hbk.ca.keep (fun _ hb=>.inl hb) fun b cur t ht hb=>other b cur t hb (by rcases ht with⟨rfl,_⟩|rfl|rfl<;>decide) (by rcases ht with⟨rfl,_⟩|rfl|rfl<;>decide) (by rcases ht with⟨rfl,_⟩|rfl|rfl<;>decide),hcol,hbk.cc.keep (fun _ hb=>.inl hb) fun b cur t ht hb=>other b cur t hb (by rcases ht with⟨rfl,_⟩|rfl|rfl<;>decide) (by rcases ht with⟨rfl,_⟩|rfl|rfl<;>decide) (by rcases ht with⟨rfl,_⟩|rfl|rfl<;>decide),hbk.la,fun g hg=>?_,hbk.lc⟩,h.lo,Ai h.row fun g hg=>?_,fun s hs'=>(h.scr s hs').keep hs (scr s hs'),h.apart,fun g hg=>?_,fun s hs' g hg hk=>?_⟩⟩,fun g cur t ht hg=>other g cur t hg (by rcases ht with rfl|rfl<;>decide) (by rcases ht with rfl|rfl<;>decide) (by rcases ht with rfl|rfl<;>decide),ho.mono fun g _ hh=>?_⟩
 ·rcases hown with e|⟨g',e,hg'⟩
  ·rw[e]at hg;exact hbk.lb g hg
  ·rw[e]at hg;injection hg with hg;omega
 ·obtain⟨cur,hc⟩:=Ap h.row hg;exact other g cur _ hc (by decide) (by decide) (by decide)
 ·rcases hg with hg|⟨hg,cur,hc⟩
  ·exact⟨(h.kk g hg).1,aQ (h.kk g hg).2 hs⟩
  ·exact⟨by omega,(aM.1 hc).1⟩
 ·rcases hk with hk|⟨hk,cur,hc⟩
  ·exact h.ks s hs' g hg hk
  ·rcases hcl s hs' g hg with hlt|⟨c2,t,ht,h2⟩
   ·omega
   ·have e1:=(scr s hs' g hg).trans h2;rw[hc]at e1;injection e1 with e1;injection e1 with _ e1;exact ht e1.symm
 ·rcases hh with rfl|hh|hh
  ·exact h.lo
  ·exact hbk.lb g hh
  ·omega
theorem Inv.listV(h:Inv n0 w pb n K ps L)(hB:B0<=w.heap.size)(hn0:n0<=B0)(hK:∀g,K g->g<B0)(hcl:S2 w B0 59 L)(hn:n.v<=1000000000000)(hm:m<=9000000)(hv:GI w B0 v m):
  Calls prog 94 #[.pointer (some (jA pb 1)),v] w fun e w'=>e=.returned (.tuple #[])/\(∃K',Inv n0 w' pb ⟨n.a,n.b,n.v+1⟩ K' ps L)/\(∀(g:Nat) (cur:Array Value) (t:TypeId),t=72\/t=105->w.heap[g]?=some (.cells cur t (0,0))->w'.heap[g]?=w.heap[g]?)/\Ac (fun g=>n0<=g) w w':=by
 obtain⟨pc,av,bv,cv,xa,xb,xc,hbk⟩:=h.play;refine(Wi (n:=m) hB hbk.blk hbk.p3 hbk.cc hK hn hm hv).mono ?_;rintro e w' ⟨rfl,⟨u',xs',hblk,hcol,hown⟩,ho,hoth⟩;have hs:=ho.size;have other:∀(g:Nat) (cur:Array Value) (t:TypeId),w.heap[g]?=some (.cells cur t (0,0))->t≠59->t≠113->t≠69->w'.heap[g]?=w.heap[g]? :=fun g cur t hg t1 t2 t3=>hoth g cur t t1 t2 t3 hg;have low:∀g,g<B0->E7 w g->w'.heap[g]?=w.heap[g]? :=fun g hg hnl=>ho.block g (by omega) fun hh=>by
  rcases hh with hh|hh|hh
  ·subst hh;exact hnl _ _ (by unfold Law;simp) hbk.blk
  ·obtain⟨c2,hc2⟩:=Ap hbk.cc.row hh;exact hnl _ _ (by unfold Law;simp) hc2
  ·omega
 have scr:∀s∈L,∀g,s.own g->w'.heap[g]?=w.heap[g]? :=fun s hs' g hg=>by
  obtain⟨_,q2,q3⟩:=(h.scr s hs').own g hg;rcases hcl s hs' g hg with hlt|⟨cur,t,ht,hc⟩
  ·exact low g hlt q3
  ·exact other g cur t hc ht (fun e=>q3 cur t (by rw[e];unfold Law;simp) hc) fun e=>q3 cur t (by rw[e];unfold Law;simp) hc
 refine⟨rfl,⟨fun g=>K g\/(B0<=g/\∃cur,w'.heap[g]?=some (.cells cur 59 (0,0))),⟨⟨_,av,bv,u',xa,xb,xs',hblk,by rw[bC (by omega)];exact hbk.p0,by rw[bC (by omega)];exact hbk.p1,by rw[bC (by omega)];exact hbk.p2,by rw[Array.getElem?_setIfInBounds_self_of_lt (aM.1 hbk.p3).1],hbk.ca.keep (fun _ hb=>.inl hb) fun b cur t ht hb=>other b cur t hb (by rcases ht with⟨rfl,_⟩|rfl|rfl<;>decide) (by rcases ht with⟨rfl,_⟩|rfl|rfl<;>decide) (by rcases ht with⟨rfl,_⟩|rfl|rfl<;>decide),hbk.cb.keep (fun _ hb=>.inl hb) fun b cur t ht hb=>other b cur t hb (by rcases ht with⟨rfl,_⟩|rfl|rfl<;>decide) (by rcases ht with⟨rfl,_⟩|rfl|rfl<;>decide) (by rcases ht with⟨rfl,_⟩|rfl|rfl<;>decide),hcol,hbk.la,hbk.lb,fun g hg=>?_⟩,h.lo,Ai h.row fun g hg=>?_,fun s hs'=>(h.scr s hs').keep hs (scr s hs'),h.apart,fun g hg=>?_,fun s hs' g hg hk=>?_⟩⟩,fun g cur t ht hg=>other g cur t hg (by rcases ht with rfl|rfl<;>decide) (by rcases ht with rfl|rfl<;>decide) (by rcases ht with rfl|rfl<;>decide),ho.mono fun g _ hh=>?_⟩
 ·rcases hown with e|⟨g',e,hg'⟩
  ·rw[e]at hg;exact hbk.lc g hg
  ·rw[e]at hg;injection hg with hg;omega
 ·obtain⟨cur,hc⟩:=Ap h.row hg;exact other g cur _ hc (by decide) (by decide) (by decide)
 ·rcases hg with hg|⟨hg,cur,hc⟩
  ·exact⟨(h.kk g hg).1,aQ (h.kk g hg).2 hs⟩
  ·exact⟨by omega,(aM.1 hc).1⟩
 ·rcases hk with hk|⟨hk,cur,hc⟩
  ·exact h.ks s hs' g hg hk
  ·rcases hcl s hs' g hg with hlt|⟨c2,t,ht,h2⟩
   ·omega
   ·have e1:=(scr s hs' g hg).trans h2;rw[hc]at e1;injection e1 with e1;injection e1 with _ e1;exact ht e1.symm
 ·rcases hh with rfl|hh|hh
  ·exact h.lo
  ·exact hbk.lc g hh
  ·omega
theorem Ws{n0:Nat}{w:World}{pb:Nat}{n:Cnt}{K:Nat->Prop}{ps:Value}{L:List Scr}(h:Inv n0 w pb n K ps L)(hN:n.v<=1000000000000){i:Nat}{s:Scr}(hi:L[i]?=some s)(k a b c:Int)(y:Bool)(r:R4)(lv mv pv:Value):
  Calls prog 49 #[pj pb,BD s,.agg (Au 11 k a b c y r lv mv pv)] w (At n0 pb n ps L w):=by
 obtain⟨V,hV⟩:∃V,s.st.vis (s.st.dfs (-1))=V:=⟨_,rfl⟩;have hVl:V.length<=12:=by
  have h1:=Ku (st:=s.st) (s.st.dfs (-1));have h2:=Fz (h.pane hi (aN _ _)).2.fine.wf (p:= -1) (by omega);rw[<-hV];omega
 have HP:Hid (∀W,uj w W->Calls prog 23 #[pj s.x] W fun e w'=>∃v,e=.returned v/\DO w' W.heap.size v s.st V/\uj W w'):=fun W hW=>by
  have:=PQ (h.pane hi hW).2.fine.wf (h.pane hi hW).1;unfold CZ at this;rw[hV]at this;exact this
 have HR:Hid (∀W,uj w W->Calls prog 93 #[pj s.c] W fun e w'=>∃v,e=.returned v/\DO w' W.heap.size v s.st V/\uj W w'):=fun W hW=>by
  have:=Qq (h.pane hi hW).2.fine.wf W (h.ref hi hW (Ac.refl _ _)).1;unfold CZ at this;rw[hV]at this;exact this
 have HB:Hid (∀W W3 v,uj w W->uj W W3->DO W3 W.heap.size v s.st V->Calls prog 94 #[.pointer (some (jA pb 1)),v] W3 fun e w'=>e=.returned (.tuple #[])/\Hid (At n0 pb n ps L w (.returned (.bool true)) w')):=fun W W3 v hW hW3 hv=>by
  have hI:=h.below hW;have hI3:=hI.below hW3;have hn0:=hI.size;refine(hI3.listV (B0:=W.heap.size) (m:=V.length) hW3.size hn0 (fun g hg=>(hI.kk g hg).2) (fun s hs g hg=>.inl ((hI.scr s hs).own g hg).2.1) hN (by omega) ⟨_,hv⟩).mono ?_;rintro e w' ⟨rfl,⟨K',hK'⟩,h3,h4⟩;refine⟨rfl,?_⟩;exact At.before (hW.trans (hW3.mono hW.size)) ⟨rfl,⟨L,⟨n.a,n.b,n.v+1⟩,K',rfl,⟨cT _,cT _,aO _⟩,hK',fun T hT s hs=>Nat.le_succ_of_le (hT s hs)⟩,h3,h4⟩
 have HS:Hid (∀W u v b1 b2,DO W b1 u s.st V->DO W b2 v s.st V->Calls prog 92 #[u,v] W fun e w'=>e=.returned (.bool true)/\∃nq,w'=W.drewN nq):=fun W u v b1 b2 hu hv=>UA s.st V u v b1 b2 W hu hv (by omega);have hpn:pb<w.heap.size:=by
  obtain⟨pc,av,bv,cv,xa,xb,xc,hbk⟩:=h.play;exact Ab hbk.blk
 clear h hi hV hN;unfold BD Au;go_enter func49,ntmps49
 go_wp2_with(first
  |(go_at_call 23;refine(HP.out _ (al2 (aO _) _ _)).mono ?_;rintro e w1 ⟨v1,rfl,hv1,hb1⟩;have hbx:=D2 hb1;have c1:=aP w1 _ 1 _ _ _ hbx.1;simp only[br,bj,bt]at c1;have H1:=Aa (aK ((al2 (aO _) _ _).trans (hb1.mono (by simp;omega))) (aK hv1 (aK hb1 (al2 (aO w.heap.size) (.cells #[pj s.x,pj s.c] 105) (.cells #[vj 11,vj k,vj a,vj b,vj c,.bool y,vj r.1,vj r.2.1,vj r.2.2.1,vj r.2.2.2,lv,mv,pv] 72)))));clear hv1 hb1 hbx)
  |(go_at_call 93;refine(HR.out _ H1.out.1).mono ?_;rintro e w2 ⟨v2,rfl,hv2,hb2⟩;have H2:=Aa (aK hv2 (aK (Ai H1.out.2.1 fun g hg=>hb2.block g (H1.out.2.1.lt g hg).2) (H1.out.2.2.1.trans (hb2.mono H1.out.2.2.1.size))));clear hv2 hb2)
  |(go_at_call 92;refine(HS.out _ _ _ _ _ H2.out.2.1 H2.out.1).mono ?_;rintro e w3 ⟨rfl,nq,rfl⟩)
  |(go_at_call 94;refine(HB.out _ _ _ H1.out.2.2.2 (cS H2.out.2.2 _) (Ai H2.out.2.1 fun _ _=>rfl)).mono ?_;rintro e w4 ⟨rfl,HH⟩))
 go_ret;exact HH.out
theorem Ko{n0:Nat}{w:World}{pb:Nat}{n:Cnt}{K:Nat->Prop}{ps:Value}{L:List Scr}(h:Inv n0 w pb n K ps L){i:Nat}{s:Scr}(hi:L[i]?=some s)(k a b c:Int)(y:Bool)(r:R4)(lv mv pv:Value)(l:List R4)
  (hpx:∀W,Ac (fun g=>n0<=g) w W->Bb W pv l) (hv:(pv=jj/\l=[])\/∃ad c,pv=.slice (some ad) l.length c) (hr:l.length*4<=140737488351232):
  Calls prog 95 #[pj pb,BD s,.agg (Au 12 k a b c y r lv mv pv)] w (At n0 pb n ps L w):=by
 have hn:=h.size;have hml:l.length<=maxLen:=by unfold maxLen;omega
 have hq:=(h.pane hi (aN _ _)).2;have hnb:s.L.length=s.d.bufs.length:=hq.rel.len;obtain⟨er,GQ,RQ,hPq,hRq,hDq⟩:∃(er:Int) (GQ:Cv->Prop) (RQ:List RB->Prop),
   (∀(W:World) (u:Value),uj w W->Bb W u l->Calls prog 16 #[pj s.x,vj a,u] W fun e w'=>e=.returned (vj er)/\(∃d',AO w' (AA s.A W w') s.x s.st d'/\GQ d')/\Ac s.A W w')/\
   (∀W1 W:World,uj w W1->Ac s.A W1 W->Bb W pv l->Calls prog 137 #[pj s.c,vj a,pv] W fun e w'=>e=.returned (vj er)/\(∃L',A0 w' (AA s.B W w') s.c s.st L'/\RQ L')/\Ac s.B W w')/\
   (∀d' L',Co d'->GQ d'->RQ L'->Duo s.st d' L'/\d'.old<=s.d.old+1):=by
  by_cases h0:0<=a/\a<s.d.bufs.length
  ·obtain⟨j,hj⟩:∃j:Nat,a=j:=⟨a.toNat,by omega⟩;subst hj;have hjd:j<s.d.bufs.length:=by omega
   have hjL:j<s.L.length:=by omega
   obtain⟨e1,e2⟩:=hq.nat;by_cases hl:l.length=s.d.W*s.d.H
   ·refine⟨0,fun d'=>∃g,d'=s.d.filled j g fun k=>l.getD k (0,0,0,0),fun L'=>L'=s.L.set j ⟨fun k=>l.getD k (0,0,0,0),0,s.L[j].dirty⟩,fun W u hW hu=>?_,fun W1 W hW1 hW hu=>?_,fun d' L' hok hd hL=>?_⟩
    ·refine(Mp j hjd l u W (h.pane hi hW).1 hu hl).mono ?_;rintro e w' ⟨he,⟨g,hf⟩,ho⟩;exact⟨he,⟨_,hf,g,rfl⟩,ho⟩
    ·refine(Mo hq.fine.wf W (h.ref hi hW1 hW).1 j hjL l pv hu (by rw[e1,e2];exact hl)).mono ?_;rintro e w' ⟨he,hf,ho⟩;exact⟨he,⟨_,hf,rfl⟩,ho⟩
    ·obtain⟨g,rfl⟩:=hd;subst hL;exact⟨hq.fill j g _ _ hok,cT _⟩
   ·refine⟨4,fun d'=>d'=s.d,fun L'=>L'=s.L,fun W u hW hu=>?_,fun W1 W hW1 hW hu=>?_,fun d' L' hok hd hL=>?_⟩
    ·obtain⟨ua,uc,rfl,_⟩:=hu;refine(Mu j hjd ua l.length uc hl W (h.pane hi hW).1).mono ?_;rintro e w' ⟨he,hb⟩;exact⟨he,⟨s.d,((h.pane hi hW).1.below hb).mono fun _ hg=>AI hg,rfl⟩,Ac.below hb⟩
    ·obtain⟨ua,uc,rfl,_⟩:=hu;refine(Mn hq.fine.wf j hjL ua l.length uc (by rw[e1,e2];exact hl) W (h.ref hi hW1 hW).1).mono ?_;rintro e w' ⟨he,hb⟩;exact⟨he,⟨s.L,((h.ref hi hW1 hW).1.keep hb.size fun g _ hg=>hb.block g hg).mono fun _ hg=>AI hg,rfl⟩,Ac.below hb⟩
    ·subst hd hL;exact⟨hq,cT _⟩
  ·refine⟨10,fun d'=>d'=s.d,fun L'=>L'=s.L,fun W u hW hu=>?_,fun W1 W hW1 hW hu=>?_,fun d' L' hok hd hL=>?_⟩
   ·refine(ON a h0 u W (h.pane hi hW).1).mono ?_;rintro e w' ⟨he,hb⟩;exact⟨he,⟨s.d,((h.pane hi hW).1.below hb).mono fun _ hg=>AI hg,rfl⟩,Ac.below hb⟩
   ·refine(Ox a (by rw[hnb];exact h0) pv W (h.ref hi hW1 hW).1).mono ?_;rintro e w' ⟨he,hb⟩;exact⟨he,⟨s.L,((h.ref hi hW1 hW).1.keep hb.size fun g _ hg=>hb.block g hg).mono fun _ hg=>AI hg,rfl⟩,Ac.below hb⟩
   ·subst hd hL;exact⟨hq,cT _⟩
 have okA:=h.inA hi;have okN:(∀g,s.A g->n0<=g)/\∀g,s.B g->n0<=g:=by
  have ok:=h.scr s (bM.2 ⟨i,hi⟩);exact⟨fun g hg=>(ok.own g (.inl hg)).1,fun g hg=>(ok.own g (.inr hg)).1⟩
 have HL:Hid (∀W,uj w W->Calls prog 136 #[pv] W fun e w'=>∃u,e=.returned u/\D0 w' W.heap.size pv l u/\uj W w'):=fun W hW=>Nf l pv W (hpx W (Ac.below hW)) hv hr;have HP:Hid (∀W B u,uj w W->D0 W B pv l u->Calls prog 16 #[pj s.x,vj a,u] W fun e w'=>e=.returned (vj er)/\(∃d',AO w' (AA s.A W w') s.x s.st d'/\GQ d')/\Ac s.A W w'):=fun W B u hW hu=>hPq W u hW hu.pix;have HR:Hid (∀W1 W,uj w W1->Ac s.A W1 W->Calls prog 137 #[pj s.c,vj a,pv] W fun e w'=>e=.returned (vj er)/\(∃L',A0 w' (AA s.B W w') s.c s.st L'/\RQ L')/\Ac s.B W w'):=fun W1 W hW1 hW=>hRq W1 W hW1 hW (hpx W ((Ac.below hW1).trans (hW.mono fun g _ hg=>.inl (okN.1 g hg))));have HT:Hid (∀W1 W2 W3 B u,uj w W1->w.heap.size<=B->D0 W1 B pv l u->Ac s.A W1 W2->Ac s.B W2 W3->Calls prog 138 #[u,pv] W3 fun e w'=>e=.returned (.bool true)/\Ac (fun g=>w.heap.size<=g/\g<W1.heap.size) W3 w'):=fun W1 W2 W3 B u hW1 hB hu o2 o3=>by
  have hx:Bb W3 pv l:=hpx W3 (((Ac.below hW1).trans (o2.mono fun g _ hg=>.inl (okN.1 g hg))).trans (o3.mono fun g _ hg=>.inl (okN.2 g hg)));have s1:=hW1.size;have s2:=o2.size;have hu3:D0 W3 B pv l u:=hu.keep fun g h1 h2=>(o3.block g (by omega) fun hh=>by have:=okA.2 g hh;omega).trans (o2.block g h2 fun hh=>by have:=okA.1 g hh;omega);refine(Hr l u pv B W3 hx hu3 hr).mono ?_;rintro e w' ⟨rfl,hg⟩;refine⟨rfl,(Ac.refl _ _).grown hg fun g hh=>.inl ?_⟩;have:=hu.own g hh;exact⟨by omega,this.2⟩
 have HIn:=Aa okA;have HI:=Aa (aK h (aK hi hDq));clear h hi hPq hRq hDq hpx hv hr hml okA okN hn hq hnb;unfold BD Au;obtain⟨post,hpost⟩:∃P,P=At n0 pb n ps L w:=⟨_,rfl⟩;rw[<-hpost];have HPo:=Aa hpost;clear hpost;go_enter func95,ntmps95
 go_wp2_with(first
  |(go_at_call 136;refine(HL.out _ (al2 (aO _) _ _)).mono ?_;rintro e w1 ⟨u,rfl,hlent,hb1⟩;have hbx:=D2 hb1;have c0:=aP w1 _ 0 _ _ _ hbx.1;have c2:=aP w1 _ 2 _ _ _ hbx.2;simp only[br,bj,bt]at c0 c2;have H1:=Aa (aK ((al2 (aO _) _ _).trans (hb1.mono (by simp;omega))) (aK hlent hbx));clear hlent hb1 hbx)
  |(go_at_call 16;refine(HP.out _ _ _ H1.out.1 H1.out.2.1).mono ?_;rintro e w2 ⟨rfl,hP,oP⟩;have hbx:=DT H1.out.2.2 HIn.out.1 oP;have d1:=aP w2 _ 1 _ _ _ hbx.1;have d2:=aP w2 _ 2 _ _ _ hbx.2;have d12:=aP w2 _ 12 _ _ _ hbx.2;simp only[br,bj,bt]at d1 d2 d12;have H2:=Aa (aK hP (aK oP hbx));clear hP oP hbx)
  |(go_at_call 137;refine(HR.out _ _ H1.out.1 H2.out.2.1).mono ?_;rintro e w3 ⟨rfl,hR,oR⟩;have hbx:=DT H2.out.2.2 HIn.out.2 oR;have f12:=aP w3 _ 12 _ _ _ hbx.2;simp only[br,bj,bt]at f12;have H3:=Aa (aK hR oR);clear hR oR hbx)
  |(go_at_call 138;refine(HT.out _ _ _ _ _ H1.out.1 (by simp;omega) H1.out.2.1 H2.out.2.1 H3.out.2).mono ?_;rintro e w4 ⟨rfl,o4⟩;have H4:=Aa o4;clear o4))
 try go_ret
 rw[HPo.out];obtain⟨d',hP',hD⟩:=H2.out.1;obtain⟨L9,hR',hH⟩:=H3.out.1;obtain⟨hd1,hd2⟩:=HI.out.2.2 d' L9 hP'.facts.1 hD hH;exact HI.out.1.done HI.out.2.1 H1.out.1 hP' H2.out.2.1 hR' H3.out.2 hd1 hd2 H4.out
variable{n:Nat}
theorem Nl{base:Nat}{v:Value}{l:List R4}(h:w.ownsRow base 51 4 v n (Aq l))(hl:l.length=n):Bb w v l:=by
 obtain⟨a,c,hv⟩:=Al h;subst hl;refine⟨a,c,hv,fun hpos=>?_⟩;obtain⟨g,cap,e1,_,_⟩:=World.ownsRow.form h hpos;rw[hv]at e1;injection e1 with e1 _ e3;subst e1 e3;have hc:=A7 (by rw[hv]at h;exact h);refine⟨hc,g,0,rfl,fun k hk=>?_⟩;obtain⟨p0,p1,p2,p3⟩:=Bk l k hk;have c0:=cj h (g:=g) (by rw[hv];rfl) _ _ p0;have c1:=cj h (g:=g) (by rw[hv];rfl) _ _ p1;have c2:=cj h (g:=g) (by rw[hv];rfl) _ _ p2;have c3:=cj h (g:=g) (by rw[hv];rfl) _ _ p3;rw[Bn]at c0 c1 c2 c3;simp only[Nat.zero_add];exact⟨c0,c1,c2,c3⟩
theorem UC{f g:Nat->R4}(h:∀k,k<n->f k=g k):pxL f n=pxL g n:=by
 unfold pxL;exact List.map_congr_left fun k hk=>h k (cf.1 hk)
theorem UD{n:Cnt}(h:Inv n0 w pb n K ps L)(hi:L[i]?=some s)(a:Int):
  ∃(l:List R4) (ag er:Int),l.length<=576/\
   (∀W,uj w W->Calls prog 31 #[pj s.x,vj a] W fun e w'=>∃v q,e=.returned (.tuple #[.slice v l.length q,vj ag,vj er])/\w'.ownsRow W.heap.size 51 4 (.slice v l.length q) l.length (Aq l)/\uj W w')/\
   (∀W,uj w W->Calls prog 140 #[pj s.c,vj a] W fun e w'=>∃v q,e=.returned (.tuple #[.slice v l.length q,vj ag,vj er])/\Bb w' (.slice v l.length q) l/\uj W w'):=by
 have hq:=(h.pane hi (aN _ _)).2;have hnb:s.L.length=s.d.bufs.length:=hq.rel.len;by_cases h0:0<=a/\a<s.d.bufs.length
 ·obtain⟨j,hj⟩:∃j:Nat,a=j:=⟨a.toNat,by omega⟩;subst hj;have hjd:j<s.d.bufs.length:=by omega
  have hjL:j<s.L.length:=by omega
  obtain⟨e1,e2⟩:=hq.nat;have hl:(pxL s.d.bufs[j].f (s.d.W*s.d.H)).length=s.d.W*s.d.H:=B9 _ _;have hk:s.d.W*s.d.H<=24*24:=cI hq.ok.w1.2 hq.ok.h1.2;refine⟨pxL s.d.bufs[j].f (s.d.W*s.d.H),s.d.bufs[j].age,0,by rw[hl];exact hk,fun W hW=>?_,fun W hW=>?_⟩
  ·refine(R6 j hjd W (h.pane hi hW).1).mono ?_;rintro e w' ⟨_,v,rfl,ho,_,hb⟩;rw[hl];obtain⟨va,vc,rfl⟩:=Al ho;exact⟨va,vc,rfl,ho,hb⟩
  ·refine(R5 W (h.ref hi hW (Ac.refl _ _)).1 j hjL).mono ?_;rintro e w' ⟨v,rfl,⟨m,hm,ho,_⟩,hb⟩;rw[hl];have hm':m=s.d.W*s.d.H:=by rw[e1,e2]at hm;exact Int.ofNat.inj hm
   subst hm';obtain⟨va,vc,rfl⟩:=Al ho;rw[UC (hq.rel.pix j hjL hjd)]at ho;rw[hq.rel.age j hjL hjd];exact⟨va,vc,rfl,Nl ho hl,hb⟩
 ·refine⟨[],0,10,by decide,fun W hW=>?_,fun W hW=>?_⟩
  ·refine(UB a h0 W (h.pane hi hW).1).mono ?_;rintro e w' ⟨rfl,hb⟩;exact⟨none,0,rfl,bA _ _ _ _,hb⟩
  ·refine(Ui a (by rw[hnb];exact h0) W (h.ref hi hW (Ac.refl _ _)).1).mono ?_;rintro e w' ⟨rfl,hb⟩;exact⟨none,0,rfl,⟨none,0,rfl,fun hh=>absurd hh (by decide)⟩,hb⟩
theorem OO{n:Cnt}(h:Inv n0 w pb n K ps L)(hN:n.b<=1000000000000)(hi:L[i]?=some s)(k a b c:Int)(y:Bool)(r:R4)(lv mv pv:Value):
  Calls prog 95 #[pj pb,BD s,.agg (Au 14 k a b c y r lv mv pv)] w (At n0 pb n ps L w):=by
 obtain⟨l,ag,er,hl,hP,hR⟩:=UD h hi a;have HP:=Aa hP;have HR:=Aa hR;have HB:Hid (∀W W3 v q,uj w W->uj W W3->W3.ownsRow W.heap.size 51 4 (.slice v l.length q) l.length (Aq l)->Calls prog 142 #[.pointer (some (jA pb 1)),.slice v l.length q] W3 fun e w'=>e=.returned (.tuple #[])/\Hid (At n0 pb n ps L w (.returned (.bool true)) w')):=fun W W3 v q hW hW3 hv=>by
  have hI:=h.below hW;have hI3:=hI.below hW3;have hn0:=hI.size;refine(hI3.listB (B0:=W.heap.size) (m:=l.length) hW3.size hn0 (fun g hg=>(hI.kk g hg).2) (fun s hs g hg=>.inl ((hI.scr s hs).own g hg).2.1) hN (by omega) ⟨_,hv⟩).mono ?_;rintro e w' ⟨rfl,⟨K',hK'⟩,h3,h4⟩;refine⟨rfl,?_⟩;exact At.before (hW.trans (hW3.mono hW.size)) ⟨rfl,⟨L,⟨n.a,n.b+1,n.v⟩,K',rfl,⟨cT _,aO _,cT _⟩,hK',fun T hT s hs=>Nat.le_succ_of_le (hT s hs)⟩,h3,h4⟩
 have HS:Hid (∀W u v,Bb W u l->Bb W v l->Calls prog 141 #[u,v] W fun e w'=>e=.returned (.bool true)/\∃nq,w'=W.drewN nq):=fun W u v hu hv=>Sk l u v W hu hv (by omega);have hpn:pb<w.heap.size:=by
  obtain⟨pc,av,bv,cv,xa,xb,xc,hbk⟩:=h.play;exact Ab hbk.blk
 clear h hi hN hP hR;unfold BD Au;go_enter func95,ntmps95
 go_wp2_with(first
  |(go_at_call 31;refine(HP.out _ (al2 (aO _) _ _)).mono ?_;rintro e w1 ⟨v1,q1,rfl,hv1,hb1⟩;have hbx:=D2 hb1;have c1:=aP w1 _ 1 _ _ _ hbx.1;have c2:=aP w1 _ 2 _ _ _ hbx.2;simp only[br,bj,bt]at c1 c2;have H1:=Aa (aK ((al2 (aO _) _ _).trans (hb1.mono (by simp;omega))) (aK hv1 (aK hb1 (al2 (aO w.heap.size) (.cells #[pj s.x,pj s.c] 105) (.cells #[vj 14,vj k,vj a,vj b,vj c,.bool y,vj r.1,vj r.2.1,vj r.2.2.1,vj r.2.2.2,lv,mv,pv] 72)))));clear hv1 hb1 hbx)
  |(go_at_call 140;refine(HR.out _ H1.out.1).mono ?_;rintro e w2 ⟨v2,q2,rfl,hv2,hb2⟩;have H2:=Aa (aK hv2 (aK (Ai H1.out.2.1 fun g hg=>hb2.block g (H1.out.2.1.lt g hg).2) (H1.out.2.2.1.trans (hb2.mono H1.out.2.2.1.size))));clear hv2 hb2)
  |(go_at_call 141;refine(HS.out _ _ _ (Nl H2.out.2.1 rfl) H2.out.1).mono ?_;rintro e w3 ⟨rfl,nq,rfl⟩)
  |(go_at_call 142;refine(HB.out _ _ _ _ H1.out.2.2.2 (cS H2.out.2.2 _) (Ai H2.out.2.1 fun _ _=>rfl)).mono ?_;rintro e w4 ⟨rfl,HH⟩))
 go_ret;exact HH.out
end Go.Proofs.YtofinpocigbbeaaGreat
