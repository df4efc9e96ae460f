import Derived.Test.YtofinpocigbbeaaGreatKbw
import Derived.Test.YtofinpocigbbeaaGreatKbv
import Derived.Test.YtofinpocigbbeaaGreatKbr
import Derived.Test.YtofinpocigbbeaaGreatKbh
import Derived.Test.YtofinpocigbbeaaGreatKbp
import Derived.Test.YtofinpocigbbeaaGreatKaf
import Derived.SizedLaws
set_option maxHeartbeats 1000000
set_option maxRecDepth 100000
set_option linter.unusedSimpArgs false
namespace Go.Proofs.YtofinpocigbbeaaGreat
open Go.Proofs.Tryz Go.RowKit Go.ChangeShapes Go.WideShapes Go.ChangeAt Go.Deep
variable{A B:Nat->Prop}{D P:Nat->Value}{bv:Value}{st':St}{w w':World}
structure Ea(w:World)(A B:Nat->Prop)(c:Nat)(st:St)(bv:Value)(L:List RB)(P D:Nat->Value):Prop where
 ref:Aw w A c st bv
 buf:AG w B bv (st.w.toNat*st.h.toNat) L P D
 ap:∀g,A g->¬B g
 la:∀g,A g->g<w.heap.size
 lb:∀g,B g->g<w.heap.size
def A0(w:World)(S:Nat->Prop)(c:Nat)(st:St)(L:List RB):Prop:=∃A B bv P D,Ea w A B c st bv L P D/\(∀g,A g->S g)/\∀g,B g->S g
theorem A0.mono{S S':Nat->Prop}{c:Nat}{st:St}{L:List RB}(h:A0 w S c st L)(hS:∀g,S g->S' g):A0 w S' c st L:=by
 obtain⟨A,B,bv,P,D,h1,h2,h3⟩:=h;exact⟨A,B,bv,P,D,h1,fun g hg=>hS g (h2 g hg),fun g hg=>hS g (h3 g hg)⟩
theorem Ea.keep{c:Nat}{st:St}{L:List RB}(h:Ea w A B c st bv L P D)(hs:w.heap.size<=w'.heap.size)(hk:∀g,A g\/B g->g<w.heap.size->w'.heap[g]?=w.heap[g]?):Ea w' A B c st bv L P D:=
 ⟨h.ref.keep fun g hg hl=>hk g (.inl hg) hl,h.buf.keep fun g hg hl=>hk g (.inr hg) hl,h.ap,fun g hg=>aQ (h.la g hg) hs,fun g hg=>aQ (h.lb g hg) hs⟩
theorem A0.keep{S:Nat->Prop}{c:Nat}{st:St}{L:List RB}(h:A0 w S c st L)(hs:w.heap.size<=w'.heap.size)(hk:∀g,S g->g<w.heap.size->w'.heap[g]?=w.heap[g]?):A0 w' S c st L:=by
 obtain⟨A,B,bv,P,D,h1,h2,h3⟩:=h;exact⟨A,B,bv,P,D,h1.keep hs fun g hg hl=>hk g (hg.elim (h2 g) (h3 g)) hl,h2,h3⟩
theorem Ea.wh{c:Nat}{st:St}{L:List RB}(_h:Ea w A B c st bv L P D)(hw:Wf st):st.w=(st.w.toNat:Int)/\st.h=(st.h.toNat:Int):=by
 have:=hw.ww;have:=hw.hh;omega
def D8(S:Nat->Prop)(c:Nat)(L:List RB)(p:Int×St)(w:World)(e:Ending)(w':World):Prop:=e=.returned (.int .i64 p.1)/\A0 w' (AA S w w') c p.2 L/\Ac S w w'
def SO(S:Nat->Prop)(c:Nat)(L:List RB)(p:Int×Int×St)(w:World)(e:Ending)(w':World):Prop:=e=.returned (.tuple #[.int .i64 p.1,.int .i64 p.2.1])/\A0 w' (AA S w w') c p.2.2 L/\Ac S w w'
theorem Ea.next{S:Nat->Prop}{c:Nat}{st:St}{L:List RB}(h:Ea w A B c st bv L P D)(hA:∀g,A g->S g)(hB:∀g,B g->S g)(hr:Aw w' (AA A w w') c st' bv)(ho:Ac A w w')(hwh:st'.w=st.w/\st'.h=st.h):A0 w' (AA S w w') c st' L/\Ac S w w':=by
 have hs:=ho.size;refine⟨⟨AA A w w',B,bv,P,D,⟨hr,?_,fun g hg hb=>?_,fun g hg=>?_,fun g hg=>aQ (h.lb g hg) hs⟩,fun g hg=>hg.imp (hA g) id,fun g hg=>.inl (hB g hg)⟩,ho.mono fun g _ hg=>hA g hg⟩
 ·rw[hwh.1,hwh.2];exact h.buf.apart h.ap ho
 ·rcases hg with hg|hg
  ·exact h.ap g hg hb
  ·have:=h.lb g hb;omega
 ·rcases hg with hg|hg
  ·exact aQ (h.la g hg) hs
  ·exact hg.2
section
variable{S:Nat->Prop}{c:Nat}{st:St}{L:List RB}
theorem Oo(hw:Wf st)(id x y:Int)(w:World)(h:A0 w S c st L):Calls prog 144 #[.pointer (some ⟨c,0,none⟩),.int .i64 id,.int .i64 x,.int .i64 y] w (D8 S c L (Bp st id x y) w):=by
 obtain⟨A,B,bv,P,D,h1,h2,h3⟩:=h;exact(Md hw id x y w h1.ref).mono fun e w' hp=>⟨hp.1,h1.next h2 h3 hp.2.1 hp.2.2 (Gk ..)⟩
theorem Oq(hw:Wf st)(id:Int)(w:World)(h:A0 w S c st L):Calls prog 146 #[.pointer (some ⟨c,0,none⟩),.int .i64 id] w (D8 S c L (BU st id) w):=by
 obtain⟨A,B,bv,P,D,h1,h2,h3⟩:=h;exact(Me hw id w h1.ref).mono fun e w' hp=>⟨hp.1,h1.next h2 h3 hp.2.1 hp.2.2 (Gl ..)⟩
theorem RY(hw:Wf st)(id a0 a1 a2 a3:Int)(w:World)(h:A0 w S c st L):Calls prog 145 #[.pointer (some ⟨c,0,none⟩),.int .i64 id,.agg #[.int .i64 a0,.int .i64 a1,.int .i64 a2,.int .i64 a3]] w (D8 S c L (Dj st id (a0,a1,a2,a3) (AU (a0,a1,a2,a3))) w):=by
 obtain⟨A,B,bv,P,D,h1,h2,h3⟩:=h;exact(P5 hw id a0 a1 a2 a3 w h1.ref).mono fun e w' hp=>⟨hp.1,h1.next h2 h3 hp.2.1 hp.2.2 (Jv ..)⟩
theorem Qo(hw:Wf st)(id sb:Int)(ab:Bool)(w:World)(h:A0 w S c st L):Calls prog 148 #[.pointer (some ⟨c,0,none⟩),.int .i64 id,.int .i64 sb,.bool ab] w (D8 S c L (Cw st id sb ab) w):=by
 obtain⟨A,B,bv,P,D,h1,h2,h3⟩:=h;exact(Od hw id sb ab w h1.ref).mono fun e w' hp=>⟨hp.1,h1.next h2 h3 hp.2.1 hp.2.2 (If ..)⟩
theorem Ot(hw:Wf st)(id a b:Int)(l:List R4)(v:Value)(w:World)(h:A0 w S c st L)(hl:Bb w v l)(hlen:l.length<=maxLen):Calls prog 143 #[.pointer (some ⟨c,0,none⟩),.int .i64 id,.int .i64 a,.int .i64 b,v] w (D8 S c L (BJ st id a b l.length (l.all Ef) fun k=>l.getD k (0,0,0,0)) w):=by
 obtain⟨A,B,bv,P,D,h1,h2,h3⟩:=h;exact(Mf hw id a b l v w h1.ref hl hlen).mono fun e w' hp=>⟨hp.1,h1.next h2 h3 hp.2.1 hp.2.2 (Gm ..)⟩
theorem Ou(hw:Wf st)(id:Int)(l:List R4)(v:Value)(w:World)(h:A0 w S c st L)(hl:As w v l)(hlen:l.length<=maxLen)(hnl:l=[]->v=.slice none 0 0\/∃ad c,v=.slice (some ad) 0 c):Calls prog 147 #[.pointer (some ⟨c,0,none⟩),.int .i64 id,v] w (D8 S c L (BV st id l.length (l.all AU) (AE l)) w):=by
 obtain⟨A,B,bv,P,D,h1,h2,h3⟩:=h;exact(Mi hw id l v w h1.ref hl hlen hnl).mono fun e w' hp=>⟨hp.1,h1.next h2 h3 hp.2.1 hp.2.2 (GC ..)⟩
theorem RZ(hw:Wf st)(p:Int)(w:World)(h:A0 w S c st L):Calls prog 89 #[.pointer (some ⟨c,0,none⟩),.int .i64 p] w (SO S c L (Bo st p) w):=by
 obtain⟨A,B,bv,P,D,h1,h2,h3⟩:=h;exact(P6 hw p w h1.ref).mono fun e w' hp=>⟨hp.1,h1.next h2 h3 hp.2.1 hp.2.2 (G7 ..)⟩
def IZ(S:Nat->Prop)(c:Nat)(L:List RB)(p:Int×St)(N:Nat)(Q:Nat->Bool)(w:World)(e:Ending)(w':World):Prop:=e=.returned (.int .i64 p.1)/\(∃L',A0 w' (AA S w w') c p.2 L'/\Db L L' N Q)/\Ac S w w'
theorem Ea.nextD{er:Int}{Q:Nat->Bool}{e:Ending}(h:Ea w A B c st bv L P D)(hA:∀g,A g->S g)(hB:∀g,B g->S g)(hp:Gs A B c bv (st.w.toNat*st.h.toNat) L P D er st' Q w e w')(hwh:st'.w=st.w/\st'.h=st.h):IZ S c L (er,st') (st.w.toNat*st.h.toNat) Q w e w':=by
 obtain⟨he,hr,⟨L',hb,hh⟩,ho⟩:=hp;have hs:=ho.size;refine⟨he,⟨L',⟨AA A w w',B,bv,P,D,⟨hr,?_,fun g hg hb=>?_,fun g hg=>?_,fun g hg=>aQ (h.lb g hg) hs⟩,fun g hg=>hg.imp (hA g) id,fun g hg=>.inl (hB g hg)⟩,hh⟩,ho.mono fun g _ hg=>hg.elim (hA g) (hB g)⟩
 ·rw[hwh.1,hwh.2];exact hb
 ·rcases hg with hg|hg
  ·exact h.ap g hg hb
  ·have:=h.lb g hb;omega
 ·rcases hg with hg|hg
  ·exact aQ (h.la g hg) hs
  ·exact hg.2
theorem Ov(hf:AW st)(id:Int)(w:World)(h:A0 w S c st L)(hwh:(AZ st id).2.w=st.w/\(AZ st id).2.h=st.h):Calls prog 91 #[.pointer (some ⟨c,0,none⟩),.int .i64 id] w (IZ S c L (AZ st id) (st.w.toNat*st.h.toNat) (if st.isB id=true then Cq (st.rcDam id.toNat) st.w.toNat else fun _=>false) w):=by
 obtain⟨A,B,bv,P,D,h1,h2,h3⟩:=h;have hq:=h1.wh hf.wf;exact(Ml hf id w h1.ref h1.la h1.ap h1.lb st.w.toNat st.h.toNat hq.1 hq.2 h1.buf).mono fun e w' hp=>h1.nextD h2 h3 hp hwh
theorem Mm(hw:Wf st)(id:Int)(w:World)(h:A0 w S c st L)(hwh:(AM st id).2.w=st.w/\(AM st id).2.h=st.h):Calls prog 90 #[.pointer (some ⟨c,0,none⟩),.int .i64 id] w (IZ S c L (AM st id) (st.w.toNat*st.h.toNat) (if st.isB id=true then Cq (st.partsL id.toNat) st.w.toNat else fun _=>false) w):=by
 obtain⟨A,B,bv,P,D,h1,h2,h3⟩:=h;have hq:=h1.wh hw;exact(LB hw id w h1.ref h1.ap h1.lb st.w.toNat st.h.toNat hq.1 hq.2 h1.buf).mono fun e w' hp=>h1.nextD h2 h3 hp hwh
theorem Ea.bvForm(h:Ea w A B c st bv L P D):∃a cap,bv=.slice a L.length cap:=by
 obtain⟨xs,h1,_⟩:=h.buf.row;exact h1.form
theorem Ow(i:Int)(hi:¬(0<=i/\i<L.length))(w:World)(h:A0 w S c st L):Calls prog 139 #[.pointer (some ⟨c,0,none⟩),.int .i64 i] w fun e w'=>e=.returned (.tuple #[.agg #[.slice none 0 0,.int .i64 0],.int .i64 10])/\Below w.heap.size w w':=by
 obtain⟨A,B,bv,P,D,h1,h2,h3⟩:=h;obtain⟨a,cap,rfl⟩:=h1.bvForm;exact Mj i hi w h1.ref
theorem Ui(i:Int)(hi:¬(0<=i/\i<L.length))(w:World)(h:A0 w S c st L):Calls prog 140 #[.pointer (some ⟨c,0,none⟩),.int .i64 i] w fun e w'=>e=.returned (.tuple #[.slice none 0 0,.int .i64 0,.int .i64 10])/\Below w.heap.size w w':=by
 obtain⟨A,B,bv,P,D,h1,h2,h3⟩:=h;obtain⟨a,cap,rfl⟩:=h1.bvForm;exact RV i hi w h1.ref
theorem Ox(i:Int)(hi:¬(0<=i/\i<L.length))(v:Value)(w:World)(h:A0 w S c st L):Calls prog 137 #[.pointer (some ⟨c,0,none⟩),.int .i64 i,v] w fun e w'=>e=.returned (.int .i64 10)/\Below w.heap.size w w':=by
 obtain⟨A,B,bv,P,D,h1,h2,h3⟩:=h;obtain⟨a,cap,rfl⟩:=h1.bvForm;exact Mk i hi v w h1.ref
theorem Mn(hw:Wf st)(i:Nat)(hi:i<L.length)(va:Option Addr)(vn vc:Nat)(hv:vn≠st.w.toNat*st.h.toNat)(w:World)(h:A0 w S c st L):Calls prog 137 #[.pointer (some ⟨c,0,none⟩),.int .i64 i,.slice va vn vc] w fun e w'=>e=.returned (.int .i64 4)/\Below w.heap.size w w':=by
 obtain⟨A,B,bv,P,D,h1,h2,h3⟩:=h;have hq:=h1.wh hw;obtain⟨a,cap,rfl⟩:=h1.bvForm;exact Lz i hi st.w.toNat st.h.toNat hq.1 hq.2 hw va vn vc hv w h1.ref
theorem Ea.nextB{P' D':Nat->Value}{L':List RB}(h:Ea w A B c st bv L P D)(hA:∀g,A g->S g)(hB:∀g,B g->S g)(hr:Aw w' A c st bv)(hb:AG w' (AA B w w') bv (st.w.toNat*st.h.toNat) L' P' D')(ho:Ac B w w'):A0 w' (AA S w w') c st L'/\Ac S w w':=by
 have hs:=ho.size;refine⟨⟨A,AA B w w',bv,P',D',⟨hr,hb,fun g hg hb=>?_,fun g hg=>aQ (h.la g hg) hs,fun g hg=>?_⟩,fun g hg=>.inl (hA g hg),fun g hg=>hg.imp (hB g) id⟩,ho.mono fun g _ hg=>hB g hg⟩
 ·rcases hb with hb|hb
  ·exact h.ap g hg hb
  ·have:=h.la g hg;omega
 ·rcases hg with hg|hg
  ·exact aQ (h.lb g hg) hs
  ·exact hg.2
theorem Mo(hw:Wf st)(w:World)(h:A0 w S c st L)(i:Nat)(hi:i<L.length)(l:List R4)(v:Value)(hv:Bb w v l)(hl:l.length=st.w.toNat*st.h.toNat):
  Calls prog 137 #[.pointer (some ⟨c,0,none⟩),.int .i64 i,v] w fun e w'=>e=.returned (.int .i64 0)/\A0 w' (AA S w w') c st (L.set i ⟨fun k=>l.getD k (0,0,0,0),0,L[i].dirty⟩)/\Ac S w w':=by
 obtain⟨A,B,bv,P,D,h1,h2,h3⟩:=h;have hwh:=h1.wh hw;refine(LA hw w h1.ref h1.ap h1.lb st.w.toNat st.h.toNat hwh.1 hwh.2 h1.buf i hi l v hv hl).mono ?_;rintro e w' ⟨he,hr,⟨P',D',hb⟩,ho⟩;exact⟨he,h1.nextB h2 h3 hr hb ho⟩
theorem R5(w:World)(h:A0 w S c st L)(i:Nat)(hi:i<L.length):
  Calls prog 140 #[.pointer (some ⟨c,0,none⟩),.int .i64 i] w fun e w'=>∃v,e=.returned (.tuple #[v,.int .i64 L[i].age,.int .i64 0])/\AC w' S v ((st.w.toNat*st.h.toNat:Nat):Int) L[i].f/\Below w.heap.size w w':=by
 obtain⟨A,B,bv,P,D,h1,h2,h3⟩:=h;refine(Ql i hi w h1.ref h1.buf).mono ?_;rintro e w' ⟨he,hb⟩;exact⟨P i,he,((h1.buf.pix i hi).mono h3).keep fun g _ hg=>hb.block g hg,hb⟩
end
theorem VP(W H n:Int)(w:World)(hW:1<=W/\W<=24)(hH:1<=H/\H<=24)(hn:1<=n/\n<=3):
  Calls prog 81 #[.int .i64 W,.int .i64 H,.int .i64 n] w fun e w'=>∃c,e=.returned (.tuple #[.pointer (some ⟨c,0,none⟩),.int .i64 0])/\A0 w' (fun g=>w.heap.size<=g/\g<w'.heap.size) c ⟨W,H,[],[]⟩ (List.replicate n.toNat J8)/\Below w.heap.size w w':=by
 refine(Uc W H n w hW hH hn).mono ?_;rintro e w' ⟨c,bv,P,D,he,hc,hr,hb,hbel⟩;have hcl:c<w'.heap.size:=by
  obtain⟨sv,ov,F,hr2,_⟩:=hr;exact(aM.1 hr2.scr).1
 refine⟨c,he,⟨fun g=>g=c,fun g=>c<g/\g<w'.heap.size,bv,P,D,⟨hr,hb,fun g hg hb2=>?_,fun g hg=>?_,fun g hg=>hg.2⟩,fun g hg=>?_,fun g hg=>⟨by omega,hg.2⟩⟩,hbel⟩
 ·subst hg;omega
 ·subst hg;exact hcl
 ·subst hg;exact⟨hc,hcl⟩
variable{L L':List RB}{d d':Cv}{i:Nat}{st:St}
structure Duo(st:St)(d:Cv)(L:List RB):Prop where
 fine:AW st
 kept:CF st
 ok:Co d
 dw:(d.W:Int)=st.w
 dh:(d.H:Int)=st.h
 rel:C4 d L
theorem AO.facts{w:World}{S:Nat->Prop}{x:Nat}(h:AO w S x st d):Co d/\(d.W:Int)=st.w/\(d.H:Int)=st.h:=by
 obtain⟨A,B,c,h1,_⟩:=h;exact⟨h1.ok,h1.dw,h1.dh⟩
theorem Duo.nat(h:Duo st d L):st.w.toNat=d.W/\st.h.toNat=d.H:=by
 have:=h.dw;have:=h.dh;omega
theorem R8(hf:AW st)(id a b:Int)(n:Nat)(ok:Bool)(f:Nat->R4):BY st (BJ st id a b n ok f).2:=by
 unfold BJ;split
 ·rename_i hb
  split
  ·split
   ·exact BY.upd (CU hf hb).2.1 (fun _=>rfl) (fun _=>rfl) fun _=>rfl
   ·exact BY.refl _
  ·exact BY.refl _
 ·exact BY.refl _
theorem Qu(st:St)(id:Int):(AZ st id).2.w=st.w/\(AZ st id).2.h=st.h:=by unfold AZ;split<;>exact⟨rfl,rfl⟩
theorem Oz(st:St)(id:Int):(AM st id).2.w=st.w/\(AM st id).2.h=st.h:=by unfold AM;split<;>exact⟨rfl,rfl⟩
theorem Duo.quiet(h:Duo st d L)(hf:AW st')(hk:CF st')(hwh:st'.w=st.w/\st'.h=st.h):Duo st' d L:=⟨hf,hk,h.ok,by rw[hwh.1];exact h.dw,by rw[hwh.2];exact h.dh,h.rel⟩
theorem C4.same(h:C4 d L)(hH:Db L L' (d.W*d.H) fun _=>false):C4 d L':=by
 refine⟨hH.1.trans h.len,fun i hi hi' k hk=>?_,fun i hi hi'=>?_,fun i hi hi' a1 a4 k hk=>?_⟩;all_goals have hi0:i<L.length:=by rw[<-hH.1];exact hi
 ·rw[(hH.2 i hi0 hi).1];exact h.pix i hi0 hi' k hk
 ·rw[(hH.2 i hi0 hi).2.1];exact h.age i hi0 hi'
 ·rw[(hH.2 i hi0 hi).2.2 k hk,Bool.or_false];exact h.dirty i hi0 hi' a1 a4 k hk
theorem Duo.dam(h:Duo st d L)(hf:AW st')(hk:CF st')(hok:Co d'/\(d'.W:Int)=st'.w/\(d'.H:Int)=st'.h){l l':List R4}{b:Bool}(hD:IK d d' (if b=true then some l else none))(hH:Db L L' (st.w.toNat*st.h.toNat) (if b=true then Cq l' st.w.toNat else fun _=>false))(he:b=true->∀x y,AE l' x y=AE l x y):Duo st' d' L':=by
 obtain⟨e1,e2⟩:=h.nat;rw[e1,e2]at hH;refine⟨hf,hk,hok.1,hok.2.1,hok.2.2,?_⟩;cases b with
 |true=>
  rw[if_pos rfl]at hD hH;exact h.rel.hurt h.ok hD hH (he rfl)
 |false=>
  rw[if_neg (by simp)]at hD hH;have hD':d'=d:=hD;rw[hD'];exact h.rel.same hH
theorem Duo.commit(h:Duo st d L)(id:Int)(hok:Co d'/\(d'.W:Int)=(AZ st id).2.w/\(d'.H:Int)=(AZ st id).2.h)(hD:IK d d' (st.dmCommit id))(hH:Db L L' (st.w.toNat*st.h.toNat) (if st.isB id=true then Cq (st.rcDam id.toNat) st.w.toNat else fun _=>false)):Duo (AZ st id).2 d' L':=by
 refine h.dam (GD h.fine id) (GE h.fine h.kept id) hok (l:=st.cmDam id.toNat) (b:=st.isB id) hD hH fun hb x y=>?_;obtain⟨i,rfl,hi⟩:=(AV h.fine.wf id).1 hb;rw[aX];exact Uh h.fine hi x y
theorem Duo.destroy(h:Duo st d L)(id:Int)(hok:Co d'/\(d'.W:Int)=(AM st id).2.w/\(d'.H:Int)=(AM st id).2.h)(hD:IK d d' (st.dmDestroy id))(hH:Db L L' (st.w.toNat*st.h.toNat) (if st.isB id=true then Cq (st.partsL id.toNat) st.w.toNat else fun _=>false)):Duo (AM st id).2 d' L':=by
 refine h.dam (I0 h.fine id) (I5 h.fine h.kept id) hok (l:=(st.visAll id.toNat).map st.seen) (b:=st.isB id) hD hH fun hb x y=>?_;obtain⟨i,rfl,hi⟩:=(AV h.fine.wf id).1 hb;rw[aX];exact Jy h.fine.wf hi x y
def qOf(L:List RB)(i:Nat)(k:Nat):Bool:=match L[i]?with
 |some b=>b.dirty k||GA b.age
 |none=>false
theorem VZ(L:List RB)(hi:i<L.length)(k:Nat):qOf L i k=(L[i].dirty k||GA L[i].age):=by
 unfold qOf;rw[aU hi]
theorem Duo.stale(h:Duo st d L)(hi:i<L.length)(hi':i<d.bufs.length){k:Nat}(hk:k<d.W*d.H):qOf L i k=d.stale d.bufs[i].age ((k%d.W:Nat):Int) ((k/d.W:Nat):Int):=by
 rw[VZ L hi,h.rel.age i hi hi'];by_cases e:d.bufs[i].age=0\/4<d.bufs[i].age
 ·rw[RO d e (by have:=h.ok.w1;omega) hk];have:GA d.bufs[i].age=true:=by unfold GA;exact bQ e
  rw[this,Bool.or_true]
 ·have:GA d.bufs[i].age=false:=by unfold GA;exact cE e
  rw[this,Bool.or_false];exact h.rel.dirty i hi hi' (by omega) (by omega) k hk
theorem Duo.paint(h:Duo st d L)(hi:i<L.length)(hi':i<d.bufs.length){O O':Rgn}(hO:AL O)(hm:∀x y,Ay O x y=d.stale d.bufs[i].age x y)(hG:EE (AP st.w.toNat) (AP st.h.toNat) (CG (qOf L i) (st.w.toNat*st.h.toNat)) ((AP st.h.toNat).length-1) O'):
  O'=O/\Az (fun j=>if qOf L i j=true then(st.picL (st.visAll (-1)) ((j%st.w.toNat:Nat):Int) ((j/st.w.toNat:Nat):Int)).2 else 0) (st.w.toNat*st.h.toNat)=DX (fun x y=>(st.picL (st.visAll (-1)) x y).2) (rc O) (rc O).length/\
   Duo st (d.painted i (BA d.W (rc O) (fun x y=>(st.picL (st.visAll (-1)) x y).1) d.bufs[i].f)) (Cy L i (fTo (qOf L i) (fun k=>(st.picU ((k%st.w.toNat:Nat):Int) ((k/st.w.toNat:Nat):Int) (st.visAll (-1))).1) L[i].f (st.w.toNat*st.h.toNat))):=by
 obtain⟨e1,e2⟩:=h.nat;rw[e1,e2]at hG ⊢;have hW:=h.ok.w1;have hon:∀r∈rc O,Fc d.W d.H r:=fun r hr=>U3 hO (fun x y hh=>by
  rw[hm]at hh;have hin:inR (0,0,(d.W:Int),(d.H:Int)) x y=true:=by
   unfold Cv.stale at hh;split at hh
   ·exact hh
   ·rw[cF]at hh;obtain⟨k,_,hk⟩:=hh;unfold Cv.back at hk;rcases e:d.dam[(d.nw+4-k)%4]?with _|R
    ·rw[e]at hk;simp[Ay]at hk
    ·rw[e]at hk;exact h.ok.inside R (cH e) x y hk
  exact hin) hr
 have hq:∀k,k<d.W*d.H->AE (rc O) ((k%d.W:Nat):Int) ((k/d.W:Nat):Int)=qOf L i k:=fun k hk=>by rw[KQ,hm,h.stale hi hi' hk]
 refine⟨Qh h.ok (fun k hk=>h.stale hi hi' hk) hO hm hG,?_,⟨h.fine,h.kept,LC h.ok i _,h.dw,h.dh,h.rel.paint h.ok i fun k hk=>?_⟩⟩
 ·rw[TX _ (by omega) hO hon];exact Bm _ fun k hk=>by rw[hq k hk]
 ·unfold BA fTo;rw[hq k hk];cases hqk:qOf L i k with
  |true=>
   rw[if_pos ⟨hk,rfl⟩,if_pos rfl];exact(PS h.fine.wf h.kept _ _ _).symm
  |false=>
   rw[if_neg (fun hh=>by cases hh.2),if_neg (by simp)];exact h.rel.pix i hi hi' k hk
theorem Duo.fill(h:Duo st d L)(i g:Nat)(f:Nat->R4)(q:Nat->Bool)(hok:Co (d.filled i g f)):Duo st (d.filled i g f) (L.set i ⟨f,0,q⟩):=⟨h.fine,h.kept,hok,h.dw,h.dh,h.rel.fill i g q⟩
theorem Duo.new(W H:Int)(gs:List Nat)(hf:AW ⟨W,H,[],[]⟩)(hk:CF ⟨W,H,[],[]⟩)(hok:Co (Cv.new W.toNat H.toNat gs))(hW:0<=W)(hH:0<=H):Duo ⟨W,H,[],[]⟩ (Cv.new W.toNat H.toNat gs) (List.replicate gs.length J8):=
 ⟨hf,hk,hok,by show(W.toNat:Int)=W;omega,by show(H.toNat:Int)=H;omega,C4.new _ _ gs⟩
variable{K S:Nat->Prop}{N c g k n0 pb x:Nat}{T t:TypeId}{ps v:Value}{cur:Array Value}{f:Nat->R4}{w1 w2:World}{xs:List Value}
def Law(t:TypeId):Prop:=t=59\/t=56\/t=113\/t=33\/t=108\/t=44\/t=111\/t=69\/t=105\/t=72
def E7(w:World)(g:Nat):Prop:=∀(cur:Array Value) (t:TypeId),Law t->w.heap[g]?≠some (.cells cur t (0,0))
theorem E7.of(h:w.heap[g]?=some (.cells cur t (0,0)))(ht:¬Law t):E7 w g:=fun c t' hl e=>by
 rw[h]at e;injection e with e;injection e with _ e2;subst e2;exact ht hl
theorem E7.keep(h:E7 w g)(e:w'.heap[g]?=w.heap[g]?):E7 w' g:=fun c t hl=>by rw[e];exact h c t hl
def RS(S:Nat->Prop)(w:World):Nat->Prop:=fun g=>S g/\g<w.heap.size/\E7 w g
theorem A4.rs{n:Nat}(h:A4 w S T k v n xs)(hT:¬Law T):A4 w (RS S w) T k v n xs:=
 ⟨h.1,fun g hg=>⟨h.2 g hg,(h.1.lt g hg).2,by obtain⟨cur,hc⟩:=h.type hg;exact .of hc hT⟩⟩
theorem CV(h:w.heap[g]?=some (.cells cur t (0,0)))(hS:S g)(ht:¬Law t):RS S w g:=⟨hS,(aM.1 h).1,.of h ht⟩
theorem Jo.rs{n:Nat}(h:Jo w S v n f):Jo w (RS S w) v n f:=by
 obtain⟨a,h1,h2⟩:=h;refine⟨a,h1,fun hn=>?_⟩;obtain⟨g,e,hs,cur,hc,hr⟩:=h2 hn;exact⟨g,e,CV hc hs (by unfold Law;decide),cur,hc,hr⟩
theorem Gc.rs{n:Nat}{f:Nat->Bool}(h:Gc w S v n f):Gc w (RS S w) v n f:=by
 obtain⟨a,h1,h2⟩:=h;refine⟨a,h1,fun hn=>?_⟩;obtain⟨g,e,hs,cur,hc,hr⟩:=h2 hn;exact⟨g,e,CV hc hs (by unfold Law;decide),cur,hc,hr⟩
theorem D4.rs{O:Rgn}(h:D4 w S v O):D4 w (RS S w) v O:=by
 obtain⟨P,h1,h2,h3,h4,h5⟩:=h;refine⟨P,h1,h2,fun g hg=>?_,fun p hp=>⟨(h4 p hp).1,fun g hg=>?_⟩,h5⟩
 ·obtain⟨cur,hc⟩:=Ap h2 hg;exact CV hc (h3 g hg) (by unfold Law;decide)
 ·have hs:=(h4 p hp).2 g hg;rcases(h4 p hp).1 with⟨e,_⟩|⟨b,c,cur,e,_,hb,_⟩
  ·rw[e]at hg;simp[Value.ownBlock]at hg
  ·rw[e]at hg;simp[Value.ownBlock]at hg;subst hg;exact CV hb hs (by unfold Law;decide)
theorem SfD.rs{G:Nat->Value}{s:Sf}(h:SfD w S G s):SfD w (RS S w) G s:=
 ⟨h.pix.rs,let ⟨R,q,r⟩:=h.hint;⟨R,q.rs,r⟩,h.npix.rs,let ⟨R,q,r⟩:=h.nhint;⟨R,q.rs,r⟩,h.kw,h.kh,h.kept.rs⟩
theorem AX.rs(h:AX w S x st bv):AX w (RS S w) x st bv:=by
 obtain⟨sc,mp,blk,G,h⟩:=h;refine⟨sc,mp,blk,G,h.scr,h.sce,h.map,h.srf,⟨CV h.scr h.own.1 (by unfold Law;decide),CV h.sce h.own.2.1 (by unfold Law;decide),⟨h.own.2.2.1,h.map.lt,fun c t _ e=>h.map.ne e rfl⟩,fun p hp=>?_⟩,h.inj,fun p hp=>(h.on p hp).rs (by unfold Law;decide),h.apart,h.cells,fun i hi=>(h.data i hi).rs⟩;obtain⟨cur,h1,_⟩:=h.srf p hp;exact CV h1 (h.own.2.2.2 p hp) (by unfold Law;decide)
theorem AK.rs{rg:Nat}{dv:Array Value}(h:AK w S c d bv rg dv):AK w (RS S w) c d bv rg dv:=by
 refine⟨h.blk,CV h.blk h.own (by unfold Law;decide),h.row.rs (by unfold Law;decide),h.ring,CV h.ring h.rown (by unfold Law;decide),h.size,fun i R hi=>?_,fun b hb=>?_⟩
 ·obtain⟨v,h1,h2⟩:=h.regs i R hi;exact⟨v,h1,h2.rs⟩
 ·obtain⟨hs,cur,hc,hr⟩:=h.pix b hb;exact⟨CV hc hs (by unfold Law;decide),cur,hc,hr⟩
theorem AO.rs(h:AO w S x st d):AO w (RS S w) x st d:=by
 obtain⟨A,B,c,h1,h2,h3⟩:=h;refine⟨RS A w,RS B w,c,⟨h1.pane.rs,let ⟨bv,rg,dv,q⟩:=h1.cv;⟨bv,rg,dv,q.rs⟩,h1.ok,h1.dw,h1.dh,fun g hg=>hg.2.1,fun g hg=>hg.2.1,fun g hg hb=>h1.ap g hg.1 hb.1⟩,fun g hg=>⟨h2 g hg.1,hg.2⟩,fun g hg=>⟨h3 g hg.1,hg.2⟩⟩
theorem AC.rs{n:Int}(h:AC w S v n f):AC w (RS S w) v n f:=by
 obtain⟨m,h1,h2⟩:=h;exact⟨m,h1,h2.rs (by unfold Law;decide)⟩
theorem Bg.rs{f:Int->Int->Bool}(h:Bg w S v f):Bg w (RS S w) v f:=by
 obtain⟨l,h1,h2⟩:=h;exact⟨l,h1.rs (by unfold Law;decide),h2⟩
theorem AH.rs{n:Int}{f:Nat->Bool}(h:AH w S v n f):AH w (RS S w) v n f:=by
 obtain⟨m,h1,h2⟩:=h;exact⟨m,h1,h2.rs (by unfold Law;decide)⟩
theorem Aw.rs(h:Aw w S c st bv):Aw w (RS S w) c st bv:=by
 obtain⟨sv,ov,F,⟨h1,h2,⟨xs,h3,h4⟩,h5⟩,q⟩:=h;exact⟨sv,ov,F,⟨h1,CV h1 h2 (by unfold Law;decide),⟨xs,h3.rs (by unfold Law;decide),h4⟩,h5.rs (by unfold Law;decide)⟩,⟨q.rel,fun i hi=>⟨(q.dat i hi).pixN.rs,(q.dat i hi).pixX.rs,(q.dat i hi).hinN.rs,(q.dat i hi).hinX.rs,(q.dat i hi).kept.rs⟩⟩⟩
theorem AG.rs{L:List RB}(h:AG w B bv N L P D):AG w (RS B w) bv N L P D:=
 ⟨(let ⟨xs,h1,h2⟩:=h.row;⟨xs,h1.rs (by unfold Law;decide),h2⟩),h.few,fun i hi=>(h.pix i hi).rs,fun i hi=>(h.dir i hi).rs,h.apP,h.apD⟩
theorem A0.rs{L:List RB}(h:A0 w S c st L):A0 w (RS S w) c st L:=by
 obtain⟨A,B,bv,P,D,h1,h2,h3⟩:=h;exact⟨RS A w,RS B w,bv,P,D,⟨h1.ref.rs,h1.buf.rs,fun g ha hb=>h1.ap g ha.1 hb.1,fun g hg=>hg.2.1,fun g hg=>hg.2.1⟩,fun g hg=>⟨h2 g hg.1,hg.2⟩,fun g hg=>⟨h3 g hg.1,hg.2⟩⟩
structure Scr where
 x:Nat
 c:Nat
 st:St
 d:Cv
 L:List RB
 A:Nat->Prop
 B:Nat->Prop
def Scr.own(s:Scr)(g:Nat):Prop:=s.A g\/s.B g
def Scr.cells(s:Scr):List Value:=[BE s.x,BE s.c]
structure QF(w:World)(n0:Nat)(s:Scr):Prop where
 pan:AO w s.A s.x s.st s.d
 ref:A0 w s.B s.c s.st s.L
 duo:Duo s.st s.d s.L
 own:∀g,s.own g->n0<=g/\g<w.heap.size/\E7 w g
 ab:∀g,s.A g->¬s.B g
theorem QF.keep{s:Scr}(h:QF w n0 s)(hs:w.heap.size<=w'.heap.size)(hk:∀g,s.own g->w'.heap[g]?=w.heap[g]?):QF w' n0 s:=
 ⟨h.pan.keep hs fun g hg _=>hk g (.inl hg),h.ref.keep hs fun g hg _=>hk g (.inr hg),h.duo,fun g hg=>⟨(h.own g hg).1,aQ (h.own g hg).2.1 hs,(h.own g hg).2.2.keep (hk g hg)⟩,h.ab⟩
structure Cnt where
 a:Nat
 b:Nat
 v:Nat
def FO(w w':World):Prop:=∀(g:Nat) (cur:Array Value) (t:TypeId),Law t->w.heap[g]?=some (.cells cur t (0,0))->w'.heap[g]?=w.heap[g]?
structure SY(n0:Nat)(w:World)(pb:Nat)(n:Cnt)(K:Nat->Prop)(ps:Value)(pc:Array Value)(av bv cv:Value)(xa xb xc:List Value):Prop where
 blk:w.heap[pb]?=some (.cells pc 69 (0,0))
 p0:pc[0]?=some ps
 p1:pc[1]?=some av
 p2:pc[2]?=some bv
 p3:pc[3]?=some cv
 ca:LJ w K av n.a xa
 cb:I7 w K bv n.b xb
 cc:LK w K cv n.v xc
 la:∀g,av.ownBlock=some g->n0<=g
 lb:∀g,bv.ownBlock=some g->n0<=g
 lc:∀g,cv.ownBlock=some g->n0<=g
theorem SY.keep{n:Cnt}{pc:Array Value}{av cv:Value}{xa xb xc:List Value}(h:SY n0 w pb n K ps pc av bv cv xa xb xc)(hlaw:FO w w')(hK:∀g,K g->w'.heap[g]?=w.heap[g]?):SY n0 w' pb n K ps pc av bv cv xa xb xc:=by
 refine⟨(hlaw pb _ _ (by unfold Law;simp) h.blk).trans h.blk,h.p0,h.p1,h.p2,h.p3,h.ca.keep (fun _ hb=>hb) fun b cur t ht hb=>?_,h.cb.keep (fun _ hb=>hb) fun b cur t ht hb=>?_,h.cc.keep (fun _ hb=>hb) fun b cur t ht hb=>?_,h.la,h.lb,h.lc⟩
 ·rcases ht with⟨_,hk⟩|rfl|rfl
  ·exact hK b hk
  ·exact hlaw b cur _ (by unfold Law;simp) hb
  ·exact hlaw b cur _ (by unfold Law;simp) hb
 ·rcases ht with⟨_,hk⟩|rfl|rfl
  ·exact hK b hk
  ·exact hlaw b cur _ (by unfold Law;simp) hb
  ·exact hlaw b cur _ (by unfold Law;simp) hb
 ·rcases ht with⟨_,hk⟩|rfl|rfl
  ·exact hK b hk
  ·exact hlaw b cur _ (by unfold Law;simp) hb
  ·exact hlaw b cur _ (by unfold Law;simp) hb
structure Inv(n0:Nat)(w:World)(pb:Nat)(n:Cnt)(K:Nat->Prop)(ps:Value)(L:List Scr):Prop where
 play:∃pc av bv cv xa xb xc,SY n0 w pb n K ps pc av bv cv xa xb xc
 lo:n0<=pb
 row:w.ownsRow n0 105 2 ps L.length (L.flatMap Scr.cells)
 scr:∀s∈L,QF w n0 s
 apart:∀(i j:Nat) (s t:Scr),L[i]?=some s->L[j]?=some t->i≠j->∀g,s.own g->¬t.own g
 kk:∀g,K g->n0<=g/\g<w.heap.size
 ks:∀s∈L,∀g,s.own g->¬K g
theorem Inv.size{n:Cnt}{L:List Scr}(h:Inv n0 w pb n K ps L):n0<=w.heap.size:=by
 obtain⟨pc,av,bv,cv,xa,xb,xc,hb⟩:=h.play;have:=Ab hb.blk;have:=h.lo;omega
theorem Inv.keep{n:Cnt}{L:List Scr}(h:Inv n0 w pb n K ps L)(hs:w.heap.size<=w'.heap.size)(hlaw:FO w w')(hscr:∀s∈L,∀g,s.own g->w'.heap[g]?=w.heap[g]?)(hK:∀g,K g->w'.heap[g]?=w.heap[g]?):Inv n0 w' pb n K ps L:=by
 obtain⟨pc,av,bv,cv,xa,xb,xc,hb⟩:=h.play;refine⟨⟨pc,av,bv,cv,xa,xb,xc,hb.keep hlaw hK⟩,h.lo,Ai h.row fun g hg=>?_,fun s hs'=>(h.scr s hs').keep hs (hscr s hs'),h.apart,fun g hg=>⟨(h.kk g hg).1,aQ (h.kk g hg).2 hs⟩,h.ks⟩;obtain⟨cur,hc⟩:=Ap h.row hg;exact hlaw g cur _ (by unfold Law;simp) hc
theorem Inv.below{n:Cnt}{L:List Scr}(h:Inv n0 w pb n K ps L)(hb:Below w.heap.size w w'):Inv n0 w' pb n K ps L:=
 h.keep hb.size (fun g _ _ _ hg=>hb.block g (aM.1 hg).1) (fun s hs g hg=>hb.block g ((h.scr s hs).own g hg).2.1) fun g hg=>hb.block g (h.kk g hg).2
theorem Uw(L:List Scr)(i:Nat)(s s':Scr)(hi:L[i]?=some s)(hx:s'.x=s.x)(hc:s'.c=s.c):(L.set i s').flatMap Scr.cells=L.flatMap Scr.cells:=by
 induction L generalizing i with
 |nil=>rfl
 |cons a L ih=>
  cases i with
  |zero=>
   simp at hi;subst hi;simp[Scr.cells,hx,hc]
  |succ i=>
   simp at hi;simp[ih i hi]
theorem Inv.swap{n:Cnt}{L:List Scr}(h:Inv n0 w pb n K ps L){s s':Scr}(hi:L[i]?=some s)(hx:s'.x=s.x)(hc:s'.c=s.c)(hs:w.heap.size<=w'.heap.size)(hlaw:FO w w')(hK:∀g,K g->w'.heap[g]?=w.heap[g]?)
  (hoth:∀(j:Nat) (t:Scr),L[j]?=some t->i≠j->∀g,t.own g->w'.heap[g]?=w.heap[g]?) (hok:QF w' n0 s') (hnew:∀g,s'.own g->s.own g\/w.heap.size<=g):Inv n0 w' pb n K ps (L.set i s'):=by
 obtain⟨pc,av,bv,cv,xa,xb,xc,hb⟩:=h.play;have hil:i<L.length:=(bL.1 hi).1;have hsm:s∈L:=bM.2 ⟨i,hi⟩;refine⟨⟨pc,av,bv,cv,xa,xb,xc,hb.keep hlaw hK⟩,h.lo,?_,fun t ht=>?_,fun a b t u ha hb' hab g hg=>?_,fun g hg=>⟨(h.kk g hg).1,aQ (h.kk g hg).2 hs⟩,fun t ht g hg hk=>?_⟩
 ·rw[bG,Uw L i s s' hi hx hc];refine Ai h.row fun g hg=>?_;obtain⟨cur,hc⟩:=Ap h.row hg;exact hlaw g cur _ (by unfold Law;simp) hc
 ·obtain⟨j,hj⟩:=bM.1 ht;rw[bW]at hj;by_cases e:i=j
  ·rw[if_pos e,if_pos (by omega)]at hj;injection hj with hj;subst hj;exact hok
  ·rw[if_neg e]at hj;exact(h.scr t (bM.2 ⟨j,hj⟩)).keep hs (hoth j t hj e)
 ·rw[bW]at ha hb';have key:∀(j:Nat) (q:Scr),L[j]?=some q->i≠j->∀g,s'.own g->¬q.own g:=fun j q hj e g h1 h2=>by
   rcases hnew g h1 with h3|h3
   ·exact h.apart i j s q hi hj e g h3 h2
   ·have:=((h.scr q (bM.2 ⟨j,hj⟩)).own g h2).2.1;omega
  by_cases ea:i=a
  ·rw[if_pos ea,if_pos (by omega)]at ha;injection ha with ha;subst ha;rw[if_neg (by omega)]at hb';exact key b u hb' (by omega) g hg
  ·rw[if_neg ea]at ha;by_cases eb:i=b
   ·rw[if_pos eb,if_pos (by omega)]at hb';injection hb' with hb';subst hb';exact fun h2=>key a t ha ea g h2 hg
   ·rw[if_neg eb]at hb';exact h.apart a b t u ha hb' hab g hg
 ·obtain⟨j,hj⟩:=bM.1 ht;rw[bW]at hj;by_cases e:i=j
  ·rw[if_pos e,if_pos (by omega)]at hj;injection hj with hj;subst hj;rcases hnew g hg with h3|h3
   ·exact h.ks s hsm g h3 hk
   ·have:=(h.kk g hk).2;omega
  ·rw[if_neg e]at hj;exact h.ks t (bM.2 ⟨j,hj⟩) g hg hk
theorem Inv.pane{n:Cnt}{L:List Scr}(h:Inv n0 w pb n K ps L){s:Scr}(hi:L[i]?=some s)(hb:Below w.heap.size w w1):AO w1 s.A s.x s.st s.d/\Duo s.st s.d s.L:=by
 have ok:=h.scr s (bM.2 ⟨i,hi⟩);exact⟨ok.pan.keep hb.size fun g hg hl=>hb.block g hl,ok.duo⟩
theorem Inv.ref{n:Cnt}{L:List Scr}(h:Inv n0 w pb n K ps L){s:Scr}(hi:L[i]?=some s)(hb:Below w.heap.size w w1)(oP:Ac s.A w1 w2):A0 w2 s.B s.c s.st s.L/\∀g,s.B g->g<w2.heap.size:=by
 have ok:=h.scr s (bM.2 ⟨i,hi⟩);have h1:=hb.size;have h2:=oP.size;exact⟨ok.ref.keep (by omega) fun g hg hl=>(oP.block g (by omega) fun ha=>ok.ab g ha hg).trans (hb.block g hl),fun g hg=>by have:=(ok.own g (.inr hg)).2.1;omega⟩
theorem Inv.both{w3 w4:World}{n:Cnt}{L:List Scr}(h:Inv n0 w pb n K ps L){s:Scr}{st':St}{d':Cv}{L':List RB}(hi:L[i]?=some s)(hb:Below w.heap.size w w1)(hP:AO w2 (AA s.A w1 w2) s.x st' d')(oP:Ac s.A w1 w2)(hR:A0 w3 (AA s.B w2 w3) s.c st' L')(oR:Ac s.B w2 w3)(hd:Duo st' d' L')(o4:Ac (fun g=>w.heap.size<=g/\g<w1.heap.size) w3 w4):
  Inv n0 w4 pb n K ps (L.set i ⟨s.x,s.c,st',d',L',RS (AA s.A w1 w2) w4,RS (AA s.B w2 w3) w4⟩)/\FO w w4/\Ac (fun g=>n0<=g) w w4:=by
 have ok:=h.scr s (bM.2 ⟨i,hi⟩);have hks:=h.ks s (bM.2 ⟨i,hi⟩);have hn:=h.size;have h1:=hb.size;have h2:=oP.size;have h3:=oR.size;have h4:=o4.size;have step:∀g,g<w.heap.size->¬s.own g->w4.heap[g]?=w.heap[g]? :=fun g hg hs=>
  (o4.block g (by omega) (by omega)).trans ((oR.block g (by omega) fun hh=>hs (.inr hh)).trans ((oP.block g (by omega) fun hh=>hs (.inl hh)).trans (hb.block g hg)))
 have law:FO w w4:=fun g cur t ht hg=>step g (aM.1 hg).1 fun hs=>(ok.own g hs).2.2 cur t ht hg;have onA:∀g,s.A g->n0<=g/\g<w.heap.size:=fun g hg=>⟨(ok.own g (.inl hg)).1,(ok.own g (.inl hg)).2.1⟩;have onB:∀g,s.B g->n0<=g/\g<w.heap.size:=fun g hg=>⟨(ok.own g (.inr hg)).1,(ok.own g (.inr hg)).2.1⟩;refine⟨h.swap hi rfl rfl (by omega) law (fun g hg=>step g (h.kk g hg).2 fun hh=>hks g hh hg) (fun j t hj hne g hg=>step g ((h.scr t (bM.2 ⟨j,hj⟩)).own g hg).2.1 fun hs=>h.apart i j s t hi hj hne g hs hg) ⟨?_,?_,hd,fun g hg=>?_,fun g ha hbb=>?_⟩ fun g hg=>?_,law,⟨?_,?_,?_,by omega,fun g hg hs=>step g hg fun hh=>hs (ok.own g hh).1⟩⟩
 ·refine(hP.keep (by omega) fun g hg hl=>?_).rs;have hlt:g<w3.heap.size:=by omega
  rcases hg with hg|hg
  ·have:=(onA g hg).2;exact(o4.block g hlt (by omega)).trans (oR.block g hl fun hh=>ok.ab g hg hh)
  ·exact(o4.block g hlt (by omega)).trans (oR.block g hl fun hh=>by have:=(onB g hh).2;omega)
 ·refine(hR.keep (by omega) fun g hg hl=>?_).rs;rcases hg with hg|hg
  ·have:=(onB g hg).2;exact o4.block g hl (by omega)
  ·exact o4.block g hl (by omega)
 ·rcases hg with⟨hg|hg,hl,hnl⟩|⟨hg|hg,hl,hnl⟩
  ·exact⟨(onA g hg).1,hl,hnl⟩
  ·exact⟨by omega,hl,hnl⟩
  ·exact⟨(onB g hg).1,hl,hnl⟩
  ·exact⟨by omega,hl,hnl⟩
 ·rcases ha with⟨ha|ha,_⟩
  ·rcases hbb with⟨hbb|hbb,_⟩
   ·exact ok.ab g ha hbb
   ·have:=(onA g ha).2;omega
  ·rcases hbb with⟨hbb|hbb,_⟩
   ·have:=(onB g hbb).2;omega
   ·omega
 ·rcases hg with⟨hg|hg,_⟩|⟨hg|hg,_⟩
  ·exact .inl (.inl hg)
  ·exact .inr (by omega)
  ·exact .inl (.inr hg)
  ·exact .inr (by omega)
 ·exact o4.os.trans (oR.os.trans (oP.os.trans hb.os))
 ·exact o4.tape.trans (oR.tape.trans (oP.tape.trans hb.tape))
 ·exact o4.output.trans (oR.output.trans (oP.output.trans hb.output))
attribute [local go_sem ↓] Go.wp_at_zero Go.wp_at_succ
variable{L:List Scr}{n:Cnt}{s:Scr}
def BD(s:Scr):Value:=.agg #[.pointer (some ⟨s.x,0,none⟩),.pointer (some ⟨s.c,0,none⟩)]
def Au(k s a b c:Int)(y:Bool)(r:R4)(lv mv pv:Value):Array Value:=#[.int .i64 k,.int .i64 s,.int .i64 a,.int .i64 b,.int .i64 c,.bool y,.int .i64 r.1,.int .i64 r.2.1,.int .i64 r.2.2.1,.int .i64 r.2.2.2,lv,mv,pv]
def Eb(T:Nat)(L:List Scr):Prop:=∀s∈L,s.d.old<=T
def Cnt.le1(n n':Cnt):Prop:=n'.a<=n.a+1/\n'.b<=n.b+1/\n'.v<=n.v+1
def At(n0:Nat)(pb:Nat)(n:Cnt)(ps:Value)(L:List Scr)(w:World)(e:Ending)(w':World):Prop:=
 e=.returned (.bool true)/\(∃L' n' K',L'.length=L.length/\n.le1 n'/\Inv n0 w' pb n' K' ps L'/\∀T,Eb T L->Eb (T+1) L')/\(∀(g:Nat) (cur:Array Value) (t:TypeId),t=72\/t=105->w.heap[g]?=some (.cells cur t (0,0))->w'.heap[g]?=w.heap[g]?)/\Ac (fun g=>n0<=g) w w'
theorem Eb.set{T:Nat}(h:Eb T L){s':Scr}(hi:L[i]?=some s)(hd:s'.d.old<=s.d.old+1):Eb (T+1) (L.set i s'):=fun t ht=>by
 obtain⟨j,hj⟩:=bM.1 ht;rw[bW]at hj;by_cases e:i=j
 ·rw[if_pos e]at hj;split at hj
  ·injection hj with hj;subst hj;have:=h s (bM.2 ⟨i,hi⟩);omega
  ·cases hj
 ·rw[if_neg e]at hj;have:=h t (bM.2 ⟨j,hj⟩);omega
theorem CA{W:World}{S:Nat->Prop}{o1 o2:Obj}(hS:∀g,S g->g<w.heap.size)(h:Ac S ((w.alloc o1).alloc o2) W):W.heap[w.heap.size]?=some o1/\W.heap[w.heap.size+1]?=some o2:=by
 have e1:((w.alloc o1).alloc o2).heap[w.heap.size]?=some o1:=by
  rw[Ad (w.alloc o1) o2 w.heap.size (by simp)];exact aR w o1
 have e2:((w.alloc o1).alloc o2).heap[w.heap.size+1]?=some o2:=by
  have:=aR (w.alloc o1) o2;simpa using this
 exact⟨(h.block _ (by simp;omega) fun hh=>by have:=hS _ hh;omega).trans e1,(h.block _ (by simp) fun hh=>by have:=hS _ hh;omega).trans e2⟩
theorem Inv.inA(h:Inv n0 w pb n K ps L)(hi:L[i]?=some s):(∀g,s.A g->g<w.heap.size)/\∀g,s.B g->g<w.heap.size:=by
 have ok:=h.scr s (bM.2 ⟨i,hi⟩);exact⟨fun g hg=>(ok.own g (.inl hg)).2.1,fun g hg=>(ok.own g (.inr hg)).2.1⟩
theorem Inv.done{w1 w2 w3 w4:World}(h:Inv n0 w pb n K ps L){st':St}{d':Cv}{L':List RB}(hi:L[i]?=some s)(hb:Below w.heap.size w w1)(hP:AO w2 (AA s.A w1 w2) s.x st' d')(oP:Ac s.A w1 w2)(hR:A0 w3 (AA s.B w2 w3) s.c st' L')(oR:Ac s.B w2 w3)(hd:Duo st' d' L')(hold:d'.old<=s.d.old+1)(o4:Ac (fun g=>w.heap.size<=g/\g<w1.heap.size) w3 w4):
  At n0 pb n ps L w (.returned (.bool true)) w4:=by
 obtain⟨h1,h2,h3⟩:=h.both hi hb hP oP hR oR hd o4;exact⟨rfl,⟨_,n,K,by rw[bG],⟨by omega,by omega,by omega⟩,h1,fun T hT=>hT.set hi hold⟩,fun g cur t ht hg=>h2 g cur t (by unfold Law;rcases ht with rfl|rfl<;>simp) hg,h3⟩
theorem OG(h:Inv n0 w pb n K ps L)(hi:L[i]?=some s)(k a b c:Int)(y:Bool)(r:R4)(lv mv pv:Value):
  Calls prog 96 #[BD s,.agg (Au 5 k a b c y r lv mv pv)] w (At n0 pb n ps L w):=by
 obtain⟨er,st',ho⟩:∃er st',Bp s.st a b c=(er,st'):=⟨_,_,rfl⟩;have hf:Duo st' s.d s.L:=by
  have hq:=(h.pane hi (aN _ _)).2;have:=hq.quiet (EP hq.fine a b c) ((I2 hq.fine _ _ _).keptOk hq.kept) (Gk ..);rw[ho]at this;exact this
 have HP:Hid (∀W,Below w.heap.size w W->Calls prog 29 #[.pointer (some ⟨s.x,0,none⟩),.int .i64 a,.int .i64 b,.int .i64 c] W (EM s.A s.x s.d (er,st') W)):=fun W hW=>by
  have:=IJ (h.pane hi hW).2.fine.wf a b c W (h.pane hi hW).1;rw[ho]at this;exact this
 have HR:Hid (∀W1 W,Below w.heap.size w W1->Ac s.A W1 W->Calls prog 144 #[.pointer (some ⟨s.c,0,none⟩),.int .i64 a,.int .i64 b,.int .i64 c] W (D8 s.B s.c s.L (er,st') W)):=fun W1 W hW1 hW=>by
  have:=Oo (h.pane hi hW1).2.fine.wf a b c W (h.ref hi hW1 hW).1;rw[ho]at this;exact this
 have HIn:=Aa (h.inA hi);have HI:=Aa (aK h (aK hi hf));clear h hi hf ho;unfold BD Au;obtain⟨post,hpost⟩:∃P,P=At n0 pb n ps L w:=⟨_,rfl⟩;rw[<-hpost];have HPo:=Aa hpost;clear hpost;go_enter func96,ntmps96
 go_wp2_with(first
  |(go_at_call 29;refine(HP.out _ (al2 (aO _) _ _)).mono ?_;rintro e w2 ⟨rfl,hP,oP⟩;obtain⟨b1,b2⟩:=CA HIn.out.1 oP;have c1:=aP w2 _ 1 _ _ _ b1;have c2:=aP w2 _ 2 _ _ _ b2;have c3:=aP w2 _ 3 _ _ _ b2;have c4:=aP w2 _ 4 _ _ _ b2;simp only[br,bj,bt]at c1 c2 c3 c4;have H2:=Aa (aK hP oP);clear hP oP b1 b2)
  |(go_at_call 144;refine(HR.out _ _ (al2 (aO _) _ _) H2.out.2).mono ?_;rintro e w3 ⟨rfl,hR,oR⟩;have H3:=Aa (aK hR oR);clear hR oR))
 try go_ret
 rw[HPo.out];exact HI.out.1.done HI.out.2.1 (al2 (aO _) _ _) H2.out.1 H2.out.2 H3.out.1 H3.out.2 HI.out.2.2 (cT _) (Ac.refl _ _)
theorem Sh(h:Inv n0 w pb n K ps L)(hi:L[i]?=some s)(k a b c:Int)(y:Bool)(r:R4)(lv mv pv:Value):
  Calls prog 96 #[BD s,.agg (Au 6 k a b c y r lv mv pv)] w (At n0 pb n ps L w):=by
 obtain⟨er,st',ho⟩:∃er st',Dj s.st a (r.1,r.2.1,r.2.2.1,r.2.2.2) (AU (r.1,r.2.1,r.2.2.1,r.2.2.2))=(er,st'):=⟨_,_,rfl⟩;have hf:Duo st' s.d s.L:=by
  have hq:=(h.pane hi (aN _ _)).2;have:=hq.quiet (MY hq.fine a (r.1,r.2.1,r.2.2.1,r.2.2.2)) ((I3 hq.fine _ _ _).keptOk hq.kept) (Jv ..);rw[ho]at this;exact this
 have HP:Hid (∀W,Below w.heap.size w W->Calls prog 35 #[.pointer (some ⟨s.x,0,none⟩),.int .i64 a,.agg #[.int .i64 r.1,.int .i64 r.2.1,.int .i64 r.2.2.1,.int .i64 r.2.2.2]] W (EM s.A s.x s.d (er,st') W)):=fun W hW=>by
  have:=RA (h.pane hi hW).2.fine.wf a r.1 r.2.1 r.2.2.1 r.2.2.2 W (h.pane hi hW).1;rw[ho]at this;exact this
 have HR:Hid (∀W1 W,Below w.heap.size w W1->Ac s.A W1 W->Calls prog 145 #[.pointer (some ⟨s.c,0,none⟩),.int .i64 a,.agg #[.int .i64 r.1,.int .i64 r.2.1,.int .i64 r.2.2.1,.int .i64 r.2.2.2]] W (D8 s.B s.c s.L (er,st') W)):=fun W1 W hW1 hW=>by
  have:=RY (h.pane hi hW1).2.fine.wf a r.1 r.2.1 r.2.2.1 r.2.2.2 W (h.ref hi hW1 hW).1;rw[ho]at this;exact this
 have HIn:=Aa (h.inA hi);have HI:=Aa (aK h (aK hi hf));clear h hi hf ho;unfold BD Au;obtain⟨post,hpost⟩:∃P,P=At n0 pb n ps L w:=⟨_,rfl⟩;rw[<-hpost];have HPo:=Aa hpost;clear hpost;go_enter func96,ntmps96
 go_wp2_with(first
  |(go_at_call 35;refine(HP.out _ (al2 (aO _) _ _)).mono ?_;rintro e w2 ⟨rfl,hP,oP⟩;obtain⟨b1,b2⟩:=CA HIn.out.1 oP;have c1:=aP w2 _ 1 _ _ _ b1;have c2:=aP w2 _ 2 _ _ _ b2;have c6:=aP w2 _ 6 _ _ _ b2;have c7:=aP w2 _ 7 _ _ _ b2;have c8:=aP w2 _ 8 _ _ _ b2;have c9:=aP w2 _ 9 _ _ _ b2;simp only[br,bj,bt]at c1 c2 c6 c7 c8 c9;have H2:=Aa (aK hP oP);clear hP oP b1 b2)
  |(go_at_call 145;refine(HR.out _ _ (al2 (aO _) _ _) H2.out.2).mono ?_;rintro e w3 ⟨rfl,hR,oR⟩;have H3:=Aa (aK hR oR);clear hR oR))
 try go_ret
 rw[HPo.out];exact HI.out.1.done HI.out.2.1 (al2 (aO _) _ _) H2.out.1 H2.out.2 H3.out.1 H3.out.2 HI.out.2.2 (cT _) (Ac.refl _ _)
theorem OH(h:Inv n0 w pb n K ps L)(hi:L[i]?=some s)(k a b c:Int)(y:Bool)(r:R4)(lv mv pv:Value):
  Calls prog 96 #[BD s,.agg (Au 7 k a b c y r lv mv pv)] w (At n0 pb n ps L w):=by
 obtain⟨er,st',ho⟩:∃er st',BU s.st a=(er,st'):=⟨_,_,rfl⟩;have hf:Duo st' s.d s.L:=by
  have hq:=(h.pane hi (aN _ _)).2;have:=hq.quiet (Kc hq.fine a) ((FJ hq.fine _).keptOk hq.kept) (Gl ..);rw[ho]at this;exact this
 have HP:Hid (∀W,Below w.heap.size w W->Calls prog 36 #[.pointer (some ⟨s.x,0,none⟩),.int .i64 a] W (EM s.A s.x s.d (er,st') W)):=fun W hW=>by
  have:=N7 (h.pane hi hW).2.fine.wf a W (h.pane hi hW).1;rw[ho]at this;exact this
 have HR:Hid (∀W1 W,Below w.heap.size w W1->Ac s.A W1 W->Calls prog 146 #[.pointer (some ⟨s.c,0,none⟩),.int .i64 a] W (D8 s.B s.c s.L (er,st') W)):=fun W1 W hW1 hW=>by
  have:=Oq (h.pane hi hW1).2.fine.wf a W (h.ref hi hW1 hW).1;rw[ho]at this;exact this
 have HIn:=Aa (h.inA hi);have HI:=Aa (aK h (aK hi hf));clear h hi hf ho;unfold BD Au;obtain⟨post,hpost⟩:∃P,P=At n0 pb n ps L w:=⟨_,rfl⟩;rw[<-hpost];have HPo:=Aa hpost;clear hpost;go_enter func96,ntmps96
 go_wp2_with(first
  |(go_at_call 36;refine(HP.out _ (al2 (aO _) _ _)).mono ?_;rintro e w2 ⟨rfl,hP,oP⟩;obtain⟨b1,b2⟩:=CA HIn.out.1 oP;have c1:=aP w2 _ 1 _ _ _ b1;have c2:=aP w2 _ 2 _ _ _ b2;simp only[br,bj,bt]at c1 c2;have H2:=Aa (aK hP oP);clear hP oP b1 b2)
  |(go_at_call 146;refine(HR.out _ _ (al2 (aO _) _ _) H2.out.2).mono ?_;rintro e w3 ⟨rfl,hR,oR⟩;have H3:=Aa (aK hR oR);clear hR oR))
 try go_ret
 rw[HPo.out];exact HI.out.1.done HI.out.2.1 (al2 (aO _) _ _) H2.out.1 H2.out.2 H3.out.1 H3.out.2 HI.out.2.2 (cT _) (Ac.refl _ _)
theorem QG(h:Inv n0 w pb n K ps L)(hi:L[i]?=some s)(k a b c:Int)(y:Bool)(r:R4)(lv mv pv:Value):
  Calls prog 96 #[BD s,.agg (Au 9 k a b c y r lv mv pv)] w (At n0 pb n ps L w):=by
 obtain⟨er,st',ho⟩:∃er st',Cw s.st a b y=(er,st'):=⟨_,_,rfl⟩;have hf:Duo st' s.d s.L:=by
  have hq:=(h.pane hi (aN _ _)).2;have:=hq.quiet (LE hq.fine a b y) ((Hb hq.fine _ _ _).keptOk hq.kept) (If ..);rw[ho]at this;exact this
 have HP:Hid (∀W,Below w.heap.size w W->Calls prog 38 #[.pointer (some ⟨s.x,0,none⟩),.int .i64 a,.int .i64 b,.bool y] W (EM s.A s.x s.d (er,st') W)):=fun W hW=>by
  have:=PP (h.pane hi hW).2.fine.wf a b y W (h.pane hi hW).1;rw[ho]at this;exact this
 have HR:Hid (∀W1 W,Below w.heap.size w W1->Ac s.A W1 W->Calls prog 148 #[.pointer (some ⟨s.c,0,none⟩),.int .i64 a,.int .i64 b,.bool y] W (D8 s.B s.c s.L (er,st') W)):=fun W1 W hW1 hW=>by
  have:=Qo (h.pane hi hW1).2.fine.wf a b y W (h.ref hi hW1 hW).1;rw[ho]at this;exact this
 have HIn:=Aa (h.inA hi);have HI:=Aa (aK h (aK hi hf));clear h hi hf ho;unfold BD Au;obtain⟨post,hpost⟩:∃P,P=At n0 pb n ps L w:=⟨_,rfl⟩;rw[<-hpost];have HPo:=Aa hpost;clear hpost;go_enter func96,ntmps96
 go_wp2_with(first
  |(go_at_call 38;refine(HP.out _ (al2 (aO _) _ _)).mono ?_;rintro e w2 ⟨rfl,hP,oP⟩;obtain⟨b1,b2⟩:=CA HIn.out.1 oP;have c1:=aP w2 _ 1 _ _ _ b1;have c2:=aP w2 _ 2 _ _ _ b2;have c3:=aP w2 _ 3 _ _ _ b2;have c5:=aP w2 _ 5 _ _ _ b2;simp only[br,bj,bt]at c1 c2 c3 c5;have H2:=Aa (aK hP oP);clear hP oP b1 b2)
  |(go_at_call 148;refine(HR.out _ _ (al2 (aO _) _ _) H2.out.2).mono ?_;rintro e w3 ⟨rfl,hR,oR⟩;have H3:=Aa (aK hR oR);clear hR oR))
 try go_ret
 rw[HPo.out];exact HI.out.1.done HI.out.2.1 (al2 (aO _) _ _) H2.out.1 H2.out.2 H3.out.1 H3.out.2 HI.out.2.2 (cT _) (Ac.refl _ _)
variable{W:World}{base:Nat}{l:List R4}{o1 o2:Obj}{u:Value}
theorem D0.pix(h:D0 w base v l u):Bb w u l:=by
 rcases h with⟨_,rfl,rfl⟩|⟨_,g,cap,rfl,hr⟩
 ·exact⟨none,0,rfl,fun h=>by simp at h⟩
 ·refine⟨_,cap,rfl,fun hl=>⟨by have:=A7 hr;omega,g,0,rfl,fun k hk=>?_⟩⟩;have cs:=cj hr (g:=g) rfl;have hk2:k<(l++[mkP 5,mkP 6]).length:=by rw[aY];omega
  obtain⟨p0,p1,p2,p3⟩:=Bk (l++[mkP 5,mkP 6]) k hk2;have e:(l++[mkP 5,mkP 6])[k]=l[k]:=List.getElem_append_left hk;rw[e]at p0 p1 p2 p3;have c0:=cs _ _ p0;have c1:=cs _ _ p1;have c2:=cs _ _ p2;have c3:=cs _ _ p3;rw[Bn]at c0 c1 c2 c3;simp only[Nat.zero_add];exact⟨c0,c1,c2,c3⟩
theorem D0.keep{w':World}(h:D0 w base v l u)(hk:∀g,base<=g->g<w.heap.size->w'.heap[g]?=w.heap[g]?):D0 w' base v l u:=by
 rcases h with h|⟨h1,g,cap,h2,h3⟩
 ·exact .inl h
 ·exact .inr ⟨h1,g,cap,h2,Ai h3 fun b hb=>hk b (h3.lt b hb).1 (h3.lt b hb).2⟩
theorem D0.own(h:D0 w base v l u):∀g,u.ownBlock=some g->base<=g/\g<w.heap.size:=by
 rcases h with⟨_,rfl,_⟩|⟨_,g,cap,rfl,h3⟩
 ·intro g hg;simp[Value.ownBlock]at hg
 ·intro b hb;exact h3.lt b hb
theorem D2(h:Below ((w.alloc o1).alloc o2).heap.size ((w.alloc o1).alloc o2) W):W.heap[w.heap.size]?=some o1/\W.heap[w.heap.size+1]?=some o2:=
 CA (S:=fun _=>False) (fun _ hh=>hh.elim) (Ac.below h)
theorem DT{W':World}{S:Nat->Prop}(h:W.heap[w.heap.size]?=some o1/\W.heap[w.heap.size+1]?=some o2)(hS:∀g,S g->g<w.heap.size)(h':Ac S W W'):W'.heap[w.heap.size]?=some o1/\W'.heap[w.heap.size+1]?=some o2:=
 ⟨(h'.block _ (aM.1 h.1).1 fun hh=>by have:=hS _ hh;omega).trans h.1,(h'.block _ (aM.1 h.2).1 fun hh=>by have:=hS _ hh;omega).trans h.2⟩
theorem OI{n0:Nat}{pb:Nat}{n:Cnt}{K:Nat->Prop}{ps:Value}{L:List Scr}(h:Inv n0 w pb n K ps L){i:Nat}{s:Scr}(hi:L[i]?=some s)(k a b c:Int)(y:Bool)(r:R4)(lv mv pv:Value)(l:List R4)
  (hpx:∀W,Ac (fun g=>n0<=g) w W->Bb W pv l) (hv:(pv=.slice none 0 0/\l=[])\/∃ad c,pv=.slice (some ad) l.length c) (hr:l.length*4<=140737488351232) (hby:MZ l):
  Calls prog 96 #[BD s,.agg (Au 4 k a b c y r lv mv pv)] w (At n0 pb n ps L w):=by
 have hn:=h.size;have hml:l.length<=maxLen:=by unfold maxLen;omega
 obtain⟨er,st',ho⟩:∃er st',BJ s.st a b c l.length (l.all Ef) (fun k=>l.getD k (0,0,0,0))=(er,st'):=⟨_,_,rfl⟩;have hf:Duo st' s.d s.L:=by
  have hq:=(h.pane hi (aN _ _)).2;have:=hq.quiet (Kd hq.fine a b c l hby) ((R8 hq.fine _ _ _ _ _ _).keptOk hq.kept) (Gm ..);rw[ho]at this;exact this
 have okA:=h.inA hi;have okN:(∀g,s.A g->n0<=g)/\∀g,s.B g->n0<=g:=by
  have ok:=h.scr s (bM.2 ⟨i,hi⟩);exact⟨fun g hg=>(ok.own g (.inl hg)).1,fun g hg=>(ok.own g (.inr hg)).1⟩
 have HL:Hid (∀W,Below w.heap.size w W->Calls prog 136 #[pv] W fun e w'=>∃u,e=.returned u/\D0 w' W.heap.size pv l u/\Below W.heap.size W w'):=fun W hW=>Nf l pv W (hpx W (Ac.below hW)) hv hr;have HP:Hid (∀W B u,Below w.heap.size w W->D0 W B pv l u->Calls prog 28 #[.pointer (some ⟨s.x,0,none⟩),.int .i64 a,.int .i64 b,.int .i64 c,u] W (EM s.A s.x s.d (er,st') W)):=fun W B u hW hu=>by
  have:=N8 (h.pane hi hW).2.fine.wf a b c l u W (h.pane hi hW).1 hu.pix hml;rw[ho]at this;exact this
 have HR:Hid (∀W1 W,Below w.heap.size w W1->Ac s.A W1 W->Calls prog 143 #[.pointer (some ⟨s.c,0,none⟩),.int .i64 a,.int .i64 b,.int .i64 c,pv] W (D8 s.B s.c s.L (er,st') W)):=fun W1 W hW1 hW=>by
  have hx:Bb W pv l:=hpx W ((Ac.below hW1).trans (hW.mono fun g _ hg=>.inl (okN.1 g hg)));have:=Ot (h.pane hi hW1).2.fine.wf a b c l pv W (h.ref hi hW1 hW).1 hx hml;rw[ho]at this;exact this
 have HT:Hid (∀W1 W2 W3 B u,Below w.heap.size w W1->w.heap.size<=B->D0 W1 B pv l u->Ac s.A W1 W2->Ac s.B W2 W3->Calls prog 138 #[u,pv] W3 fun e w'=>e=.returned (.bool true)/\Ac (fun g=>w.heap.size<=g/\g<W1.heap.size) W3 w'):=fun W1 W2 W3 B u hW1 hB hu o2 o3=>by
  have hx:Bb W3 pv l:=hpx W3 (((Ac.below hW1).trans (o2.mono fun g _ hg=>.inl (okN.1 g hg))).trans (o3.mono fun g _ hg=>.inl (okN.2 g hg)));have s1:=hW1.size;have s2:=o2.size;have hu3:D0 W3 B pv l u:=hu.keep fun g h1 h2=>(o3.block g (by omega) fun hh=>by have:=okA.2 g hh;omega).trans (o2.block g h2 fun hh=>by have:=okA.1 g hh;omega);refine(Hr l u pv B W3 hx hu3 hr).mono ?_;rintro e w' ⟨rfl,hg⟩;refine⟨rfl,(Ac.refl _ _).grown hg fun g hh=>.inl ?_⟩;have:=hu.own g hh;exact⟨by omega,this.2⟩
 have HIn:=Aa okA;have HI:=Aa (aK h (aK hi hf));clear h hi hf ho hpx hv hr hml okA okN hn hby;unfold BD Au;obtain⟨post,hpost⟩:∃P,P=At n0 pb n ps L w:=⟨_,rfl⟩;rw[<-hpost];have HPo:=Aa hpost;clear hpost;go_enter func96,ntmps96
 go_wp2_with(first
  |(go_at_call 136;refine(HL.out _ (al2 (aO _) _ _)).mono ?_;rintro e w1 ⟨u,rfl,hlent,hb1⟩;have hbx:=D2 hb1;have c0:=aP w1 _ 0 _ _ _ hbx.1;have c2:=aP w1 _ 2 _ _ _ hbx.2;have c3:=aP w1 _ 3 _ _ _ hbx.2;have c4:=aP w1 _ 4 _ _ _ hbx.2;simp only[br,bj,bt]at c0 c2 c3 c4;have H1:=Aa (aK ((al2 (aO _) _ _).trans (hb1.mono (by simp;omega))) (aK hlent hbx));clear hlent hb1 hbx)
  |(go_at_call 28;refine(HP.out _ _ _ H1.out.1 H1.out.2.1).mono ?_;rintro e w2 ⟨rfl,hP,oP⟩;have hbx:=DT H1.out.2.2 HIn.out.1 oP;have d1:=aP w2 _ 1 _ _ _ hbx.1;have d2:=aP w2 _ 2 _ _ _ hbx.2;have d3:=aP w2 _ 3 _ _ _ hbx.2;have d4:=aP w2 _ 4 _ _ _ hbx.2;have d12:=aP w2 _ 12 _ _ _ hbx.2;simp only[br,bj,bt]at d1 d2 d3 d4 d12;have H2:=Aa (aK hP (aK oP hbx));clear hP oP hbx)
  |(go_at_call 143;refine(HR.out _ _ H1.out.1 H2.out.2.1).mono ?_;rintro e w3 ⟨rfl,hR,oR⟩;have hbx:=DT H2.out.2.2 HIn.out.2 oR;have f12:=aP w3 _ 12 _ _ _ hbx.2;simp only[br,bj,bt]at f12;have H3:=Aa (aK hR oR);clear hR oR hbx)
  |(go_at_call 138;refine(HT.out _ _ _ _ _ H1.out.1 (by simp;omega) H1.out.2.1 H2.out.2.1 H3.out.2).mono ?_;rintro e w4 ⟨rfl,o4⟩;have H4:=Aa o4;clear o4))
 try go_ret
 rw[HPo.out];exact HI.out.1.done HI.out.2.1 H1.out.1 H2.out.1 H2.out.2.1 H3.out.1 H3.out.2 HI.out.2.2 (cT _) H4.out
theorem JK.rects(h:JK w base v l u):As w u l:=by
 rcases h with⟨_,rfl,rfl⟩|⟨_,g,cap,rfl,hr⟩
 ·exact⟨none,0,rfl,fun h=>by simp at h⟩
 ·refine⟨_,cap,rfl,fun hl=>⟨g,0,rfl,fun k hk=>?_⟩⟩;have cs:=cj hr (g:=g) rfl;have hk2:k<(l++[Dn,Dn]).length:=by rw[aY];omega
  obtain⟨p0,p1,p2,p3⟩:=Cs (l++[Dn,Dn]) k hk2;have e:(l++[Dn,Dn])[k]=l[k]:=List.getElem_append_left hk;rw[e]at p0 p1 p2 p3;have c0:=cs _ _ p0;have c1:=cs _ _ p1;have c2:=cs _ _ p2;have c3:=cs _ _ p3;rw[Bn]at c0 c1 c2 c3;simp only[Nat.zero_add];exact⟨c0,c1,c2,c3⟩
theorem JK.keep{w':World}(h:JK w base v l u)(hk:∀g,base<=g->g<w.heap.size->w'.heap[g]?=w.heap[g]?):JK w' base v l u:=by
 rcases h with h|⟨h1,g,cap,h2,h3⟩
 ·exact .inl h
 ·exact .inr ⟨h1,g,cap,h2,Ai h3 fun b hb=>hk b (h3.lt b hb).1 (h3.lt b hb).2⟩
theorem JK.own(h:JK w base v l u):∀g,u.ownBlock=some g->base<=g/\g<w.heap.size:=by
 rcases h with⟨_,rfl,_⟩|⟨_,g,cap,rfl,h3⟩
 ·intro g hg;simp[Value.ownBlock]at hg
 ·intro b hb;exact h3.lt b hb
theorem OM{n0:Nat}{pb:Nat}{n:Cnt}{K:Nat->Prop}{ps:Value}{L:List Scr}(h:Inv n0 w pb n K ps L){i:Nat}{s:Scr}(hi:L[i]?=some s)(k a b c:Int)(y:Bool)(r:R4)(lv mv pv:Value)(l:List R4)
  (hpx:∀W,Ac (fun g=>n0<=g) w W->As W lv l) (hv:(lv=.slice none 0 0/\l=[])\/∃ad c,lv=.slice (some ad) l.length c) (hr:l.length*32<=140737488351232) (hlow:∀b off c,lv=.slice (some ⟨b,off,none⟩) l.length c->0<l.length->b<n0):
  Calls prog 96 #[BD s,.agg (Au 8 k a b c y r lv mv pv)] w (At n0 pb n ps L w):=by
 have hn:=h.size;have hml:l.length<=maxLen:=by unfold maxLen;omega
 obtain⟨er,st',ho⟩:∃er st',BV s.st a l.length (l.all AU) (AE l)=(er,st'):=⟨_,_,rfl⟩;have hf:Duo st' s.d s.L:=by
  have hq:=(h.pane hi (aN _ _)).2;have:=hq.quiet (M4 hq.fine a l.length (l.all AU) (AE l)) ((I4 hq.fine _ _ _ _).keptOk hq.kept) (GC ..);rw[ho]at this;exact this
 have okA:=h.inA hi;have okN:(∀g,s.A g->n0<=g)/\∀g,s.B g->n0<=g:=by
  have ok:=h.scr s (bM.2 ⟨i,hi⟩);exact⟨fun g hg=>(ok.own g (.inl hg)).1,fun g hg=>(ok.own g (.inr hg)).1⟩
 have HL:Hid (∀W,Below w.heap.size w W->Calls prog 82 #[lv] W fun e w'=>∃u,e=.returned u/\JK w' W.heap.size lv l u/\Below W.heap.size W w'):=fun W hW=>Wo l lv W (hpx W (Ac.below hW)) hv hr;have HP:Hid (∀W B u,Below w.heap.size w W->JK W B lv l u->Calls prog 37 #[.pointer (some ⟨s.x,0,none⟩),.int .i64 a,u] W (EM s.A s.x s.d (er,st') W)):=fun W B u hW hu=>by
  have:=On (h.pane hi hW).2.fine.wf a l u W (h.pane hi hW).1 hu.rects hml;rw[ho]at this;exact this
 have HR:Hid (∀W1 W,Below w.heap.size w W1->Ac s.A W1 W->Calls prog 147 #[.pointer (some ⟨s.c,0,none⟩),.int .i64 a,lv] W (D8 s.B s.c s.L (er,st') W)):=fun W1 W hW1 hW=>by
  have hx:As W lv l:=hpx W ((Ac.below hW1).trans (hW.mono fun g _ hg=>.inl (okN.1 g hg)));have:=Ou (h.pane hi hW1).2.fine.wf a l lv W (h.ref hi hW1 hW).1 hx hml (fun e=>hv.imp And.left fun⟨ad,c,hh⟩=>⟨ad,c,by rw[hh,e];rfl⟩);rw[ho]at this;exact this
 have HT:Hid (∀W1 W2 W3 B u,Below w.heap.size w W1->w.heap.size<=B->JK W1 B lv l u->Ac s.A W1 W2->Ac s.B W2 W3->Calls prog 85 #[u,lv] W3 fun e w'=>e=.returned (.bool true)/\Ac (fun g=>w.heap.size<=g/\g<W1.heap.size) W3 w'):=fun W1 W2 W3 B u hW1 hB hu o2 o3=>by
  have hx:As W3 lv l:=hpx W3 (((Ac.below hW1).trans (o2.mono fun g _ hg=>.inl (okN.1 g hg))).trans (o3.mono fun g _ hg=>.inl (okN.2 g hg)));have s1:=hW1.size;have s2:=o2.size;have hu3:JK W3 B lv l u:=hu.keep fun g h1 h2=>(o3.block g (by omega) fun hh=>by have:=okA.2 g hh;omega).trans (o2.block g h2 fun hh=>by have:=okA.1 g hh;omega);refine(OK l u lv B W3 hx (fun b off c e hl=>aQ (hlow b off c e hl) (by omega)) hu3 hr).mono ?_;rintro e w' ⟨rfl,hg⟩;refine⟨rfl,(Ac.refl _ _).grown hg fun g hh=>.inl ?_⟩;have:=hu.own g hh;exact⟨by omega,this.2⟩
 have HIn:=Aa okA;have HI:=Aa (aK h (aK hi hf));clear h hi hf ho hpx hv hr hml okA okN hn hlow;unfold BD Au;obtain⟨post,hpost⟩:∃P,P=At n0 pb n ps L w:=⟨_,rfl⟩;rw[<-hpost];have HPo:=Aa hpost;clear hpost;go_enter func96,ntmps96
 go_wp2_with(first
  |(go_at_call 82;refine(HL.out _ (al2 (aO _) _ _)).mono ?_;rintro e w1 ⟨u,rfl,hlent,hb1⟩;have hbx:=D2 hb1;have c0:=aP w1 _ 0 _ _ _ hbx.1;have c2:=aP w1 _ 2 _ _ _ hbx.2;simp only[br,bj,bt]at c0 c2;have H1:=Aa (aK ((al2 (aO _) _ _).trans (hb1.mono (by simp;omega))) (aK hlent hbx));clear hlent hb1 hbx)
  |(go_at_call 37;refine(HP.out _ _ _ H1.out.1 H1.out.2.1).mono ?_;rintro e w2 ⟨rfl,hP,oP⟩;have hbx:=DT H1.out.2.2 HIn.out.1 oP;have d1:=aP w2 _ 1 _ _ _ hbx.1;have d2:=aP w2 _ 2 _ _ _ hbx.2;have d12:=aP w2 _ 10 _ _ _ hbx.2;simp only[br,bj,bt]at d1 d2 d12;have H2:=Aa (aK hP (aK oP hbx));clear hP oP hbx)
  |(go_at_call 147;refine(HR.out _ _ H1.out.1 H2.out.2.1).mono ?_;rintro e w3 ⟨rfl,hR,oR⟩;have hbx:=DT H2.out.2.2 HIn.out.2 oR;have f12:=aP w3 _ 10 _ _ _ hbx.2;simp only[br,bj,bt]at f12;have H3:=Aa (aK hR oR);clear hR oR hbx)
  |(go_at_call 85;refine(HT.out _ _ _ _ _ H1.out.1 (by simp;omega) H1.out.2.1 H2.out.2.1 H3.out.2).mono ?_;rintro e w4 ⟨rfl,o4⟩;have H4:=Aa o4;clear o4))
 try go_ret
 rw[HPo.out];exact HI.out.1.done HI.out.2.1 H1.out.1 H2.out.1 H2.out.2.1 H3.out.1 H3.out.2 HI.out.2.2 (cT _) H4.out
theorem Ni{d d':Cv}{o:Option (List R4)}(h:IK d d' o):d'.old<=d.old+1:=by
 cases o with
 |none=>
  have h':d'=d:=h;rw[h'];omega
 |some l=>
  obtain⟨R,rfl,_⟩:=h;exact cT _
structure Nj(n0:Nat)(w:World)(pv:Value)(l:List R4):Prop where
 at':∀W,Ac (fun g=>n0<=g) w W->Bb W pv l
 form:(pv=.slice none 0 0/\l=[])\/∃ad c,pv=.slice (some ad) l.length c
 fit:l.length*4<=140737488351232
 byte:MZ l
theorem Nj.only{pv:Value}(h:Nj n0 w pv l)(ho:Ac (fun g=>n0<=g) w W):Nj n0 W pv l:=
 ⟨fun W' hW'=>h.at' W' (ho.trans (hW'.mono fun _ _ hg=>.inl hg)),h.form,h.fit,h.byte⟩
structure Nk(n0:Nat)(w:World)(lv:Value)(l:List R4):Prop where
 at':∀W,Ac (fun g=>n0<=g) w W->As W lv l
 form:(lv=.slice none 0 0/\l=[])\/∃ad c,lv=.slice (some ad) l.length c
 fit:l.length*32<=140737488351232
 low:∀b off c,lv=.slice (some ⟨b,off,none⟩) l.length c->0<l.length->b<n0
theorem Nk.only{lv:Value}(h:Nk n0 w lv l)(ho:Ac (fun g=>n0<=g) w W):Nk n0 W lv l:=
 ⟨fun W' hW'=>h.at' W' (ho.trans (hW'.mono fun _ _ hg=>.inl hg)),h.form,h.fit,h.low⟩
theorem At.before{w':World}{e:Ending}(hb:Below w.heap.size w W)(h:At n0 pb n ps L W e w'):At n0 pb n ps L w e w':=by
 obtain⟨h1,h2,h3,h4⟩:=h;refine⟨h1,h2,fun g cur t ht hg=>?_,(Ac.below hb).trans (h4.mono fun _ _ hg=>.inl hg)⟩;have e:=hb.block g (aM.1 hg).1;exact(h3 g cur t ht (e.trans hg)).trans e
theorem Ft(kd k a b c:Int)(y:Bool)(r:R4)(lv mv pv:Value)
  (hA:∀W,Below w.heap.size w W->Calls prog 96 #[BD s,.agg (Au kd k a b c y r lv mv pv)] W (At n0 pb n ps L W))
  (hk:kd=4\/kd=5\/kd=6\/kd=7\/kd=8\/kd=9):
  Calls prog 49 #[.pointer (some ⟨pb,0,none⟩),BD s,.agg (Au kd k a b c y r lv mv pv)] w (At n0 pb n ps L w):=by
 have HC:Hid (∀W,Below w.heap.size w W->Calls prog 96 #[BD s,.agg (Au kd k a b c y r lv mv pv)] W fun e w'=>e=.returned (.bool true)/\Hid (At n0 pb n ps L w (.returned (.bool true)) w')):=fun W hW=>(hA W hW).mono fun e w' hh=>by
  have:=hh.1;subst this;exact⟨rfl,hh.before hW⟩
 clear hA;unfold BD Au at*;rcases hk with rfl|rfl|rfl|rfl|rfl|rfl;all_goals
  go_enter func49,ntmps49
  go_wp2_with(go_at_call 96;refine(HC.out _ (al2 (aO _) _ _)).mono ?_;rintro e w' ⟨rfl,HH⟩)
  go_ret;exact HH.out
theorem XR(h:Inv n0 w pb n K ps L)(hi:L[i]?=some s)(k a b c:Int)(y:Bool)(r:R4)(lv mv pv:Value):
  Calls prog 49 #[.pointer (some ⟨pb,0,none⟩),BD s,.agg (Au 2 k a b c y r lv mv pv)] w (At n0 pb n ps L w):=by
 obtain⟨nn,er,st',ho⟩:∃nn er st',Bo s.st a=(nn,er,st'):=⟨_,_,_,rfl⟩;have hf:Duo st' s.d s.L:=by
  have hq:=(h.pane hi (aN _ _)).2;have:=hq.quiet (Eo hq.fine a) (JB hq.kept a) (G7 ..);rw[ho]at this;exact this
 have HP:Hid (∀W,Below w.heap.size w W->Calls prog 27 #[.pointer (some ⟨s.x,0,none⟩),.int .i64 a] W (Vs s.A s.x s.d (nn,er,st') W)):=fun W hW=>by
  have:=RC (h.pane hi hW).2.fine.wf a W (h.pane hi hW).1;rw[ho]at this;exact this
 have HR:Hid (∀W1 W,Below w.heap.size w W1->Ac s.A W1 W->Calls prog 89 #[.pointer (some ⟨s.c,0,none⟩),.int .i64 a] W (SO s.B s.c s.L (nn,er,st') W)):=fun W1 W hW1 hW=>by
  have:=RZ (h.pane hi hW1).2.fine.wf a W (h.ref hi hW1 hW).1;rw[ho]at this;exact this
 have HIn:=Aa (h.inA hi);have HI:=Aa (aK h (aK hi hf));clear h hi hf ho;unfold BD Au;obtain⟨post,hpost⟩:∃P,P=At n0 pb n ps L w:=⟨_,rfl⟩;rw[<-hpost];have HPo:=Aa hpost;clear hpost;go_enter func49,ntmps49
 go_wp2_with(first
  |(go_at_call 27;refine(HP.out _ (al2 (aO _) _ _)).mono ?_;rintro e w2 ⟨rfl,hP,oP⟩;obtain⟨b1,b2⟩:=CA HIn.out.1 oP;have c1:=aP w2 _ 1 _ _ _ b1;have c2:=aP w2 _ 2 _ _ _ b2;simp only[br,bj,bt]at c1 c2;have H2:=Aa (aK hP oP);clear hP oP b1 b2)
  |(go_at_call 89;refine(HR.out _ _ (al2 (aO _) _ _) H2.out.2).mono ?_;rintro e w3 ⟨rfl,hR,oR⟩;have H3:=Aa (aK hR oR);clear hR oR))
 try go_ret
 rw[HPo.out];exact HI.out.1.done HI.out.2.1 (al2 (aO _) _ _) H2.out.1 H2.out.2 H3.out.1 H3.out.2 HI.out.2.2 (cT _) (Ac.refl _ _)
theorem Sj(h:Inv n0 w pb n K ps L)(hi:L[i]?=some s)(k a b c:Int)(y:Bool)(r:R4)(lv mv pv:Value):
  Calls prog 49 #[.pointer (some ⟨pb,0,none⟩),BD s,.agg (Au 3 k a b c y r lv mv pv)] w (At n0 pb n ps L w):=by
 obtain⟨er,st',ho⟩:∃er st',AM s.st a=(er,st'):=⟨_,_,rfl⟩;have hf:∀d' L',(Co d'/\(d'.W:Int)=st'.w/\(d'.H:Int)=st'.h)->IK s.d d' (s.st.dmDestroy a)->Db s.L L' (s.st.w.toNat*s.st.h.toNat) (if s.st.isB a=true then Cq (s.st.partsL a.toNat) s.st.w.toNat else fun _=>false)->Duo st' d' L':=fun d' L' h1 h2 h3=>by
  have hq:=(h.pane hi (aN _ _)).2;have:=hq.destroy a (by rw[ho];exact h1) h2 h3;rw[ho]at this;exact this
 have HP:Hid (∀W,Below w.heap.size w W->Calls prog 32 #[.pointer (some ⟨s.x,0,none⟩),.int .i64 a] W (Dz s.A s.x s.d (er,st') (s.st.dmDestroy a) W)):=fun W hW=>by
  have:=Ma (h.pane hi hW).2.fine.wf a W (h.pane hi hW).1;rw[ho]at this;exact this
 have HR:Hid (∀W1 W,Below w.heap.size w W1->Ac s.A W1 W->Calls prog 90 #[.pointer (some ⟨s.c,0,none⟩),.int .i64 a] W (IZ s.B s.c s.L (er,st') (s.st.w.toNat*s.st.h.toNat) (if s.st.isB a=true then Cq (s.st.partsL a.toNat) s.st.w.toNat else fun _=>false) W)):=fun W1 W hW1 hW=>by
  have:=Mm (h.pane hi hW1).2.fine.wf a W (h.ref hi hW1 hW).1 (Oz ..);rw[ho]at this;exact this
 have HIn:=Aa (h.inA hi);have HI:=Aa (aK h (aK hi hf));clear h hi hf ho;unfold BD Au;obtain⟨post,hpost⟩:∃P,P=At n0 pb n ps L w:=⟨_,rfl⟩;rw[<-hpost];have HPo:=Aa hpost;clear hpost;go_enter func49,ntmps49
 go_wp2_with(first
  |(go_at_call 32;refine(HP.out _ (al2 (aO _) _ _)).mono ?_;rintro e w2 ⟨rfl,hP,oP⟩;obtain⟨b1,b2⟩:=CA HIn.out.1 oP;have c1:=aP w2 _ 1 _ _ _ b1;have c2:=aP w2 _ 2 _ _ _ b2;simp only[br,bj,bt]at c1 c2;have H2:=Aa (aK hP oP);clear hP oP b1 b2)
  |(go_at_call 90;refine(HR.out _ _ (al2 (aO _) _ _) H2.out.2).mono ?_;rintro e w3 ⟨rfl,hR,oR⟩;have H3:=Aa (aK hR oR);clear hR oR))
 try go_ret
 rw[HPo.out];obtain⟨d',hP',hD⟩:=H2.out.1;obtain⟨L9,hR',hH⟩:=H3.out.1;exact HI.out.1.done HI.out.2.1 (al2 (aO _) _ _) hP' H2.out.2 hR' H3.out.2 (HI.out.2.2 d' L9 hP'.facts hD hH) (Ni hD) (Ac.refl _ _)
theorem Uz(h:Inv n0 w pb n K ps L)(hi:L[i]?=some s)(k a b c:Int)(y:Bool)(r:R4)(lv mv pv:Value):
  Calls prog 49 #[.pointer (some ⟨pb,0,none⟩),BD s,.agg (Au 10 k a b c y r lv mv pv)] w (At n0 pb n ps L w):=by
 obtain⟨er,st',ho⟩:∃er st',AZ s.st a=(er,st'):=⟨_,_,rfl⟩;have hf:∀d' L',(Co d'/\(d'.W:Int)=st'.w/\(d'.H:Int)=st'.h)->IK s.d d' (s.st.dmCommit a)->Db s.L L' (s.st.w.toNat*s.st.h.toNat) (if s.st.isB a=true then Cq (s.st.rcDam a.toNat) s.st.w.toNat else fun _=>false)->Duo st' d' L':=fun d' L' h1 h2 h3=>by
  have hq:=(h.pane hi (aN _ _)).2;have:=hq.commit a (by rw[ho];exact h1) h2 h3;rw[ho]at this;exact this
 have HP:Hid (∀W,Below w.heap.size w W->Calls prog 30 #[.pointer (some ⟨s.x,0,none⟩),.int .i64 a] W (Dz s.A s.x s.d (er,st') (s.st.dmCommit a) W)):=fun W hW=>by
  have:=N9 (h.pane hi hW).2.fine a W (h.pane hi hW).1;rw[ho]at this;exact this
 have HR:Hid (∀W1 W,Below w.heap.size w W1->Ac s.A W1 W->Calls prog 91 #[.pointer (some ⟨s.c,0,none⟩),.int .i64 a] W (IZ s.B s.c s.L (er,st') (s.st.w.toNat*s.st.h.toNat) (if s.st.isB a=true then Cq (s.st.rcDam a.toNat) s.st.w.toNat else fun _=>false) W)):=fun W1 W hW1 hW=>by
  have:=Ov (h.pane hi hW1).2.fine a W (h.ref hi hW1 hW).1 (Qu ..);rw[ho]at this;exact this
 have HIn:=Aa (h.inA hi);have HI:=Aa (aK h (aK hi hf));clear h hi hf ho;unfold BD Au;obtain⟨post,hpost⟩:∃P,P=At n0 pb n ps L w:=⟨_,rfl⟩;rw[<-hpost];have HPo:=Aa hpost;clear hpost;go_enter func49,ntmps49
 go_wp2_with(first
  |(go_at_call 30;refine(HP.out _ (al2 (aO _) _ _)).mono ?_;rintro e w2 ⟨rfl,hP,oP⟩;obtain⟨b1,b2⟩:=CA HIn.out.1 oP;have c1:=aP w2 _ 1 _ _ _ b1;have c2:=aP w2 _ 2 _ _ _ b2;simp only[br,bj,bt]at c1 c2;have H2:=Aa (aK hP oP);clear hP oP b1 b2)
  |(go_at_call 91;refine(HR.out _ _ (al2 (aO _) _ _) H2.out.2).mono ?_;rintro e w3 ⟨rfl,hR,oR⟩;have H3:=Aa (aK hR oR);clear hR oR))
 try go_ret
 rw[HPo.out];obtain⟨d',hP',hD⟩:=H2.out.1;obtain⟨L9,hR',hH⟩:=H3.out.1;exact HI.out.1.done HI.out.2.1 (al2 (aO _) _ _) hP' H2.out.2 hR' H3.out.2 (HI.out.2.2 d' L9 hP'.facts hD hH) (Ni hD) (Ac.refl _ _)
variable{B0 m:Nat}
def S2(w:World)(B0:Nat)(T:TypeId)(L:List Scr):Prop:=∀s∈L,∀g,s.own g->g<B0\/∃(cur:Array Value) (t:TypeId),t≠T/\w.heap[g]?=some (.cells cur t (0,0))
theorem Inv.listA(h:Inv n0 w pb n K ps L)(hB:B0<=w.heap.size)(hn0:n0<=B0)(hK:∀g,K g->g<B0)(hcl:S2 w B0 53 L)(hn:n.a<=1000000000000)(hm:m<=9000000)(hv:GF w B0 v m):
  Calls prog 87 #[.pointer (some ⟨pb,1,none⟩),v] w fun e w'=>e=.returned (.tuple #[])/\(∃K',Inv n0 w' pb ⟨n.a+1,n.b,n.v⟩ K' ps L)/\(∀(g:Nat) (cur:Array Value) (t:TypeId),t≠53->t≠108->t≠69->w.heap[g]?=some (.cells cur t (0,0))->w'.heap[g]?=w.heap[g]?)/\Ac (fun g=>n0<=g) w w':=by
 obtain⟨pc,av,bv,cv,xa,xb,xc,hbk⟩:=h.play;refine(We (n:=m) hB hbk.blk hbk.p1 hbk.ca hK hn hm hv).mono ?_;rintro e w' ⟨rfl,⟨u',xs',hblk,hcol,hown⟩,ho,hoth⟩;have hs:=ho.size;have other:∀(g:Nat) (cur:Array Value) (t:TypeId),w.heap[g]?=some (.cells cur t (0,0))->t≠53->t≠108->t≠69->w'.heap[g]?=w.heap[g]? :=fun g cur t hg t1 t2 t3=>hoth g cur t t1 t2 t3 hg;have low:∀g,g<B0->E7 w g->w'.heap[g]?=w.heap[g]? :=fun g hg hnl=>ho.block g (by omega) fun hh=>by
  rcases hh with hh|hh|hh
  ·subst hh;exact hnl _ _ (by unfold Law;simp) hbk.blk
  ·obtain⟨c2,hc2⟩:=Ap hbk.ca.row hh;exact hnl _ _ (by unfold Law;simp) hc2
  ·omega
 have scr:∀s∈L,∀g,s.own g->w'.heap[g]?=w.heap[g]? :=fun s hs' g hg=>by
  obtain⟨_,q2,q3⟩:=(h.scr s hs').own g hg;rcases hcl s hs' g hg with hlt|⟨cur,t,ht,hc⟩
  ·exact low g hlt q3
  ·exact other g cur t hc ht (fun e=>q3 cur t (by rw[e];unfold Law;simp) hc) fun e=>q3 cur t (by rw[e];unfold Law;simp) hc
 refine⟨rfl,⟨fun g=>K g\/(B0<=g/\∃cur,w'.heap[g]?=some (.cells cur 53 (0,0))),⟨⟨_,u',bv,cv,xs',xb,xc,hblk,by rw[bC (by omega)];exact hbk.p0,by rw[Array.getElem?_setIfInBounds_self_of_lt (aM.1 hbk.p1).1],by rw[bC (by omega)];exact hbk.p2,by rw[bC (by omega)];exact hbk.p3,hcol,hbk.cb.keep (fun _ hb=>.inl hb) fun b cur t ht hb=>other b cur t hb (by rcases ht with⟨rfl,_⟩|rfl|rfl<;>decide) (by rcases ht with⟨rfl,_⟩|rfl|rfl<;>decide) (by rcases ht with⟨rfl,_⟩|rfl|rfl<;>decide),hbk.cc.keep (fun _ hb=>.inl hb) fun b cur t ht hb=>other b cur t hb (by rcases ht with⟨rfl,_⟩|rfl|rfl<;>decide) (by rcases ht with⟨rfl,_⟩|rfl|rfl<;>decide) (by rcases ht with⟨rfl,_⟩|rfl|rfl<;>decide),fun g hg=>?_,hbk.lb,hbk.lc⟩,h.lo,Ai h.row fun g hg=>?_,fun s hs'=>(h.scr s hs').keep hs (scr s hs'),h.apart,fun g hg=>?_,fun s hs' g hg hk=>?_⟩⟩,fun g cur t t1 t2 t3 hg=>other g cur t hg t1 t2 t3,ho.mono fun g _ hh=>?_⟩
 ·rcases hown with e|⟨g',e,hg'⟩
  ·rw[e]at hg;exact hbk.la g hg
  ·rw[e]at hg;injection hg with hg;omega
 ·obtain⟨cur,hc⟩:=Ap h.row hg;exact other g cur _ hc (by decide) (by decide) (by decide)
 ·rcases hg with hg|⟨hg,cur,hc⟩
  ·exact⟨(h.kk g hg).1,aQ (h.kk g hg).2 hs⟩
  ·exact⟨by omega,(aM.1 hc).1⟩
 ·rcases hk with hk|⟨hk,cur,hc⟩
  ·exact h.ks s hs' g hg hk
  ·rcases hcl s hs' g hg with hlt|⟨c2,t,ht,h2⟩
   ·omega
   ·have e1:=(scr s hs' g hg).trans h2;rw[hc]at e1;injection e1 with e1;injection e1 with _ e1;exact ht e1.symm
 ·rcases hh with rfl|hh|hh
  ·exact h.lo
  ·exact hbk.la g hh
  ·omega
theorem Inv.listB(h:Inv n0 w pb n K ps L)(hB:B0<=w.heap.size)(hn0:n0<=B0)(hK:∀g,K g->g<B0)(hcl:S2 w B0 51 L)(hn:n.b<=1000000000000)(hm:m<=9000000)(hv:FR w B0 v m):
  Calls prog 142 #[.pointer (some ⟨pb,1,none⟩),v] w fun e w'=>e=.returned (.tuple #[])/\(∃K',Inv n0 w' pb ⟨n.a,n.b+1,n.v⟩ K' ps L)/\(∀(g:Nat) (cur:Array Value) (t:TypeId),t=72\/t=105->w.heap[g]?=some (.cells cur t (0,0))->w'.heap[g]?=w.heap[g]?)/\Ac (fun g=>n0<=g) w w':=by
 obtain⟨pc,av,bv,cv,xa,xb,xc,hbk⟩:=h.play;refine(Wh (n:=m) hB hbk.blk hbk.p2 hbk.cb hK hn hm hv).mono ?_;rintro e w' ⟨rfl,⟨u',xs',hblk,hcol,hown⟩,ho,hoth⟩;have hs:=ho.size;have other:∀(g:Nat) (cur:Array Value) (t:TypeId),w.heap[g]?=some (.cells cur t (0,0))->t≠51->t≠111->t≠69->w'.heap[g]?=w.heap[g]? :=fun g cur t hg t1 t2 t3=>hoth g cur t t1 t2 t3 hg;have low:∀g,g<B0->E7 w g->w'.heap[g]?=w.heap[g]? :=fun g hg hnl=>ho.block g (by omega) fun hh=>by
  rcases hh with hh|hh|hh
  ·subst hh;exact hnl _ _ (by unfold Law;simp) hbk.blk
  ·obtain⟨c2,hc2⟩:=Ap hbk.cb.row hh;exact hnl _ _ (by unfold Law;simp) hc2
  ·omega
 have scr:∀s∈L,∀g,s.own g->w'.heap[g]?=w.heap[g]? :=fun s hs' g hg=>by
  obtain⟨_,q2,q3⟩:=(h.scr s hs').own g hg;rcases hcl s hs' g hg with hlt|⟨cur,t,ht,hc⟩
  ·exact low g hlt q3
  ·exact other g cur t hc ht (fun e=>q3 cur t (by rw[e];unfold Law;simp) hc) fun e=>q3 cur t (by rw[e];unfold Law;simp) hc
 refine⟨rfl,⟨fun g=>K g\/(B0<=g/\∃cur,w'.heap[g]?=some (.cells cur 51 (0,0))),⟨⟨_,av,u',cv,xa,xs',xc,hblk,by rw[bC (by omega)];exact hbk.p0,by rw[bC (by omega)];exact hbk.p1,by rw[Array.getElem?_setIfInBounds_self_of_lt (aM.1 hbk.p2).1],by rw[bC (by omega)];exact hbk.p3,hbk.ca.keep (fun _ hb=>.inl hb) fun b cur t ht hb=>other b cur t hb (by rcases ht with⟨rfl,_⟩|rfl|rfl<;>decide) (by rcases ht with⟨rfl,_⟩|rfl|rfl<;>decide) (by rcases ht with⟨rfl,_⟩|rfl|rfl<;>decide),hcol,hbk.cc.keep (fun _ hb=>.inl hb) fun b cur t ht hb=>other b cur t hb (by rcases ht with⟨rfl,_⟩|rfl|rfl<;>decide) (by rcases ht with⟨rfl,_⟩|rfl|rfl<;>decide) (by rcases ht with⟨rfl,_⟩|rfl|rfl<;>decide),hbk.la,fun g hg=>?_,hbk.lc⟩,h.lo,Ai h.row fun g hg=>?_,fun s hs'=>(h.scr s hs').keep hs (scr s hs'),h.apart,fun g hg=>?_,fun s hs' g hg hk=>?_⟩⟩,fun g cur t ht hg=>other g cur t hg (by rcases ht with rfl|rfl<;>decide) (by rcases ht with rfl|rfl<;>decide) (by rcases ht with rfl|rfl<;>decide),ho.mono fun g _ hh=>?_⟩
 ·rcases hown with e|⟨g',e,hg'⟩
  ·rw[e]at hg;exact hbk.lb g hg
  ·rw[e]at hg;injection hg with hg;omega
 ·obtain⟨cur,hc⟩:=Ap h.row hg;exact other g cur _ hc (by decide) (by decide) (by decide)
 ·rcases hg with hg|⟨hg,cur,hc⟩
  ·exact⟨(h.kk g hg).1,aQ (h.kk g hg).2 hs⟩
  ·exact⟨by omega,(aM.1 hc).1⟩
 ·rcases hk with hk|⟨hk,cur,hc⟩
  ·exact h.ks s hs' g hg hk
  ·rcases hcl s hs' g hg with hlt|⟨c2,t,ht,h2⟩
   ·omega
   ·have e1:=(scr s hs' g hg).trans h2;rw[hc]at e1;injection e1 with e1;injection e1 with _ e1;exact ht e1.symm
 ·rcases hh with rfl|hh|hh
  ·exact h.lo
  ·exact hbk.lb g hh
  ·omega
theorem Ko{n0:Nat}{w:World}{pb:Nat}{n:Cnt}{K:Nat->Prop}{ps:Value}{L:List Scr}(h:Inv n0 w pb n K ps L){i:Nat}{s:Scr}(hi:L[i]?=some s)(k a b c:Int)(y:Bool)(r:R4)(lv mv pv:Value)(l:List R4)
  (hpx:∀W,Ac (fun g=>n0<=g) w W->Bb W pv l) (hv:(pv=.slice none 0 0/\l=[])\/∃ad c,pv=.slice (some ad) l.length c) (hr:l.length*4<=140737488351232):
  Calls prog 95 #[.pointer (some ⟨pb,0,none⟩),BD s,.agg (Au 12 k a b c y r lv mv pv)] w (At n0 pb n ps L w):=by
 have hn:=h.size;have hml:l.length<=maxLen:=by unfold maxLen;omega
 have hq:=(h.pane hi (aN _ _)).2;have hnb:s.L.length=s.d.bufs.length:=hq.rel.len;obtain⟨er,GQ,RQ,hPq,hRq,hDq⟩:∃(er:Int) (GQ:Cv->Prop) (RQ:List RB->Prop),
   (∀(W:World) (u:Value),Below w.heap.size w W->Bb W u l->Calls prog 16 #[.pointer (some ⟨s.x,0,none⟩),.int .i64 a,u] W fun e w'=>e=.returned (.int .i64 er)/\(∃d',AO w' (AA s.A W w') s.x s.st d'/\GQ d')/\Ac s.A W w')/\
   (∀W1 W:World,Below w.heap.size w W1->Ac s.A W1 W->Bb W pv l->Calls prog 137 #[.pointer (some ⟨s.c,0,none⟩),.int .i64 a,pv] W fun e w'=>e=.returned (.int .i64 er)/\(∃L',A0 w' (AA s.B W w') s.c s.st L'/\RQ L')/\Ac s.B W w')/\
   (∀d' L',Co d'->GQ d'->RQ L'->Duo s.st d' L'/\d'.old<=s.d.old+1):=by
  by_cases h0:0<=a/\a<s.d.bufs.length
  ·obtain⟨j,hj⟩:∃j:Nat,a=j:=⟨a.toNat,by omega⟩;subst hj;have hjd:j<s.d.bufs.length:=by omega
   have hjL:j<s.L.length:=by omega
   obtain⟨e1,e2⟩:=hq.nat;by_cases hl:l.length=s.d.W*s.d.H
   ·refine⟨0,fun d'=>∃g,d'=s.d.filled j g fun k=>l.getD k (0,0,0,0),fun L'=>L'=s.L.set j ⟨fun k=>l.getD k (0,0,0,0),0,s.L[j].dirty⟩,fun W u hW hu=>?_,fun W1 W hW1 hW hu=>?_,fun d' L' hok hd hL=>?_⟩
    ·refine(Mp j hjd l u W (h.pane hi hW).1 hu hl).mono ?_;rintro e w' ⟨he,⟨g,hf⟩,ho⟩;exact⟨he,⟨_,hf,g,rfl⟩,ho⟩
    ·refine(Mo hq.fine.wf W (h.ref hi hW1 hW).1 j hjL l pv hu (by rw[e1,e2];exact hl)).mono ?_;rintro e w' ⟨he,hf,ho⟩;exact⟨he,⟨_,hf,rfl⟩,ho⟩
    ·obtain⟨g,rfl⟩:=hd;subst hL;exact⟨hq.fill j g _ _ hok,cT _⟩
   ·refine⟨4,fun d'=>d'=s.d,fun L'=>L'=s.L,fun W u hW hu=>?_,fun W1 W hW1 hW hu=>?_,fun d' L' hok hd hL=>?_⟩
    ·obtain⟨ua,uc,rfl,_⟩:=hu;refine(Mu j hjd ua l.length uc hl W (h.pane hi hW).1).mono ?_;rintro e w' ⟨he,hb⟩;exact⟨he,⟨s.d,((h.pane hi hW).1.below hb).mono fun _ hg=>AI hg,rfl⟩,Ac.below hb⟩
    ·obtain⟨ua,uc,rfl,_⟩:=hu;refine(Mn hq.fine.wf j hjL ua l.length uc (by rw[e1,e2];exact hl) W (h.ref hi hW1 hW).1).mono ?_;rintro e w' ⟨he,hb⟩;exact⟨he,⟨s.L,((h.ref hi hW1 hW).1.keep hb.size fun g _ hg=>hb.block g hg).mono fun _ hg=>AI hg,rfl⟩,Ac.below hb⟩
    ·subst hd hL;exact⟨hq,cT _⟩
  ·refine⟨10,fun d'=>d'=s.d,fun L'=>L'=s.L,fun W u hW hu=>?_,fun W1 W hW1 hW hu=>?_,fun d' L' hok hd hL=>?_⟩
   ·refine(ON a h0 u W (h.pane hi hW).1).mono ?_;rintro e w' ⟨he,hb⟩;exact⟨he,⟨s.d,((h.pane hi hW).1.below hb).mono fun _ hg=>AI hg,rfl⟩,Ac.below hb⟩
   ·refine(Ox a (by rw[hnb];exact h0) pv W (h.ref hi hW1 hW).1).mono ?_;rintro e w' ⟨he,hb⟩;exact⟨he,⟨s.L,((h.ref hi hW1 hW).1.keep hb.size fun g _ hg=>hb.block g hg).mono fun _ hg=>AI hg,rfl⟩,Ac.below hb⟩
   ·subst hd hL;exact⟨hq,cT _⟩
 have okA:=h.inA hi;have okN:(∀g,s.A g->n0<=g)/\∀g,s.B g->n0<=g:=by
  have ok:=h.scr s (bM.2 ⟨i,hi⟩);exact⟨fun g hg=>(ok.own g (.inl hg)).1,fun g hg=>(ok.own g (.inr hg)).1⟩
 have HL:Hid (∀W,Below w.heap.size w W->Calls prog 136 #[pv] W fun e w'=>∃u,e=.returned u/\D0 w' W.heap.size pv l u/\Below W.heap.size W w'):=fun W hW=>Nf l pv W (hpx W (Ac.below hW)) hv hr;have HP:Hid (∀W B u,Below w.heap.size w W->D0 W B pv l u->Calls prog 16 #[.pointer (some ⟨s.x,0,none⟩),.int .i64 a,u] W fun e w'=>e=.returned (.int .i64 er)/\(∃d',AO w' (AA s.A W w') s.x s.st d'/\GQ d')/\Ac s.A W w'):=fun W B u hW hu=>hPq W u hW hu.pix;have HR:Hid (∀W1 W,Below w.heap.size w W1->Ac s.A W1 W->Calls prog 137 #[.pointer (some ⟨s.c,0,none⟩),.int .i64 a,pv] W fun e w'=>e=.returned (.int .i64 er)/\(∃L',A0 w' (AA s.B W w') s.c s.st L'/\RQ L')/\Ac s.B W w'):=fun W1 W hW1 hW=>hRq W1 W hW1 hW (hpx W ((Ac.below hW1).trans (hW.mono fun g _ hg=>.inl (okN.1 g hg))));have HT:Hid (∀W1 W2 W3 B u,Below w.heap.size w W1->w.heap.size<=B->D0 W1 B pv l u->Ac s.A W1 W2->Ac s.B W2 W3->Calls prog 138 #[u,pv] W3 fun e w'=>e=.returned (.bool true)/\Ac (fun g=>w.heap.size<=g/\g<W1.heap.size) W3 w'):=fun W1 W2 W3 B u hW1 hB hu o2 o3=>by
  have hx:Bb W3 pv l:=hpx W3 (((Ac.below hW1).trans (o2.mono fun g _ hg=>.inl (okN.1 g hg))).trans (o3.mono fun g _ hg=>.inl (okN.2 g hg)));have s1:=hW1.size;have s2:=o2.size;have hu3:D0 W3 B pv l u:=hu.keep fun g h1 h2=>(o3.block g (by omega) fun hh=>by have:=okA.2 g hh;omega).trans (o2.block g h2 fun hh=>by have:=okA.1 g hh;omega);refine(Hr l u pv B W3 hx hu3 hr).mono ?_;rintro e w' ⟨rfl,hg⟩;refine⟨rfl,(Ac.refl _ _).grown hg fun g hh=>.inl ?_⟩;have:=hu.own g hh;exact⟨by omega,this.2⟩
 have HIn:=Aa okA;have HI:=Aa (aK h (aK hi hDq));clear h hi hPq hRq hDq hpx hv hr hml okA okN hn hq hnb;unfold BD Au;obtain⟨post,hpost⟩:∃P,P=At n0 pb n ps L w:=⟨_,rfl⟩;rw[<-hpost];have HPo:=Aa hpost;clear hpost;go_enter func95,ntmps95
 go_wp2_with(first
  |(go_at_call 136;refine(HL.out _ (al2 (aO _) _ _)).mono ?_;rintro e w1 ⟨u,rfl,hlent,hb1⟩;have hbx:=D2 hb1;have c0:=aP w1 _ 0 _ _ _ hbx.1;have c2:=aP w1 _ 2 _ _ _ hbx.2;simp only[br,bj,bt]at c0 c2;have H1:=Aa (aK ((al2 (aO _) _ _).trans (hb1.mono (by simp;omega))) (aK hlent hbx));clear hlent hb1 hbx)
  |(go_at_call 16;refine(HP.out _ _ _ H1.out.1 H1.out.2.1).mono ?_;rintro e w2 ⟨rfl,hP,oP⟩;have hbx:=DT H1.out.2.2 HIn.out.1 oP;have d1:=aP w2 _ 1 _ _ _ hbx.1;have d2:=aP w2 _ 2 _ _ _ hbx.2;have d12:=aP w2 _ 12 _ _ _ hbx.2;simp only[br,bj,bt]at d1 d2 d12;have H2:=Aa (aK hP (aK oP hbx));clear hP oP hbx)
  |(go_at_call 137;refine(HR.out _ _ H1.out.1 H2.out.2.1).mono ?_;rintro e w3 ⟨rfl,hR,oR⟩;have hbx:=DT H2.out.2.2 HIn.out.2 oR;have f12:=aP w3 _ 12 _ _ _ hbx.2;simp only[br,bj,bt]at f12;have H3:=Aa (aK hR oR);clear hR oR hbx)
  |(go_at_call 138;refine(HT.out _ _ _ _ _ H1.out.1 (by simp;omega) H1.out.2.1 H2.out.2.1 H3.out.2).mono ?_;rintro e w4 ⟨rfl,o4⟩;have H4:=Aa o4;clear o4))
 try go_ret
 rw[HPo.out];obtain⟨d',hP',hD⟩:=H2.out.1;obtain⟨L9,hR',hH⟩:=H3.out.1;obtain⟨hd1,hd2⟩:=HI.out.2.2 d' L9 hP'.facts.1 hD hH;exact HI.out.1.done HI.out.2.1 H1.out.1 hP' H2.out.2.1 hR' H3.out.2 hd1 hd2 H4.out
variable{n:Nat}
theorem Nl{base:Nat}{v:Value}{l:List R4}(h:w.ownsRow base 51 4 v n (Aq l))(hl:l.length=n):Bb w v l:=by
 obtain⟨a,c,hv⟩:=Al h;subst hl;refine⟨a,c,hv,fun hpos=>?_⟩;obtain⟨g,cap,e1,_,_⟩:=World.ownsRow.form h hpos;rw[hv]at e1;injection e1 with e1 _ e3;subst e1 e3;have hc:=A7 (by rw[hv]at h;exact h);refine⟨hc,g,0,rfl,fun k hk=>?_⟩;obtain⟨p0,p1,p2,p3⟩:=Bk l k hk;have c0:=cj h (g:=g) (by rw[hv];rfl) _ _ p0;have c1:=cj h (g:=g) (by rw[hv];rfl) _ _ p1;have c2:=cj h (g:=g) (by rw[hv];rfl) _ _ p2;have c3:=cj h (g:=g) (by rw[hv];rfl) _ _ p3;rw[Bn]at c0 c1 c2 c3;simp only[Nat.zero_add];exact⟨c0,c1,c2,c3⟩
theorem UC{f g:Nat->R4}(h:∀k,k<n->f k=g k):pxL f n=pxL g n:=by
 unfold pxL;exact List.map_congr_left fun k hk=>h k (cf.1 hk)
theorem UD{n:Cnt}(h:Inv n0 w pb n K ps L)(hi:L[i]?=some s)(a:Int):
  ∃(l:List R4) (ag er:Int),l.length<=576/\
   (∀W,Below w.heap.size w W->Calls prog 31 #[.pointer (some ⟨s.x,0,none⟩),.int .i64 a] W fun e w'=>∃v q,e=.returned (.tuple #[.slice v l.length q,.int .i64 ag,.int .i64 er])/\w'.ownsRow W.heap.size 51 4 (.slice v l.length q) l.length (Aq l)/\Below W.heap.size W w')/\
   (∀W,Below w.heap.size w W->Calls prog 140 #[.pointer (some ⟨s.c,0,none⟩),.int .i64 a] W fun e w'=>∃v q,e=.returned (.tuple #[.slice v l.length q,.int .i64 ag,.int .i64 er])/\Bb w' (.slice v l.length q) l/\Below W.heap.size W w'):=by
 have hq:=(h.pane hi (aN _ _)).2;have hnb:s.L.length=s.d.bufs.length:=hq.rel.len;by_cases h0:0<=a/\a<s.d.bufs.length
 ·obtain⟨j,hj⟩:∃j:Nat,a=j:=⟨a.toNat,by omega⟩;subst hj;have hjd:j<s.d.bufs.length:=by omega
  have hjL:j<s.L.length:=by omega
  obtain⟨e1,e2⟩:=hq.nat;have hl:(pxL s.d.bufs[j].f (s.d.W*s.d.H)).length=s.d.W*s.d.H:=B9 _ _;have hk:s.d.W*s.d.H<=24*24:=cI hq.ok.w1.2 hq.ok.h1.2;refine⟨pxL s.d.bufs[j].f (s.d.W*s.d.H),s.d.bufs[j].age,0,by rw[hl];exact hk,fun W hW=>?_,fun W hW=>?_⟩
  ·refine(R6 j hjd W (h.pane hi hW).1).mono ?_;rintro e w' ⟨_,v,rfl,ho,_,hb⟩;rw[hl];obtain⟨va,vc,rfl⟩:=Al ho;exact⟨va,vc,rfl,ho,hb⟩
  ·refine(R5 W (h.ref hi hW (Ac.refl _ _)).1 j hjL).mono ?_;rintro e w' ⟨v,rfl,⟨m,hm,ho,_⟩,hb⟩;rw[hl];have hm':m=s.d.W*s.d.H:=by rw[e1,e2]at hm;exact Int.ofNat.inj hm
   subst hm';obtain⟨va,vc,rfl⟩:=Al ho;rw[UC (hq.rel.pix j hjL hjd)]at ho;rw[hq.rel.age j hjL hjd];exact⟨va,vc,rfl,Nl ho hl,hb⟩
 ·refine⟨[],0,10,by decide,fun W hW=>?_,fun W hW=>?_⟩
  ·refine(UB a h0 W (h.pane hi hW).1).mono ?_;rintro e w' ⟨rfl,hb⟩;exact⟨none,0,rfl,bA _ _ _ _,hb⟩
  ·refine(Ui a (by rw[hnb];exact h0) W (h.ref hi hW (Ac.refl _ _)).1).mono ?_;rintro e w' ⟨rfl,hb⟩;exact⟨none,0,rfl,⟨none,0,rfl,fun hh=>absurd hh (by decide)⟩,hb⟩
theorem OO{n:Cnt}(h:Inv n0 w pb n K ps L)(hN:n.b<=1000000000000)(hi:L[i]?=some s)(k a b c:Int)(y:Bool)(r:R4)(lv mv pv:Value):
  Calls prog 95 #[.pointer (some ⟨pb,0,none⟩),BD s,.agg (Au 14 k a b c y r lv mv pv)] w (At n0 pb n ps L w):=by
 obtain⟨l,ag,er,hl,hP,hR⟩:=UD h hi a;have HP:=Aa hP;have HR:=Aa hR;have HB:Hid (∀W W3 v q,Below w.heap.size w W->Below W.heap.size W W3->W3.ownsRow W.heap.size 51 4 (.slice v l.length q) l.length (Aq l)->Calls prog 142 #[.pointer (some ⟨pb,1,none⟩),.slice v l.length q] W3 fun e w'=>e=.returned (.tuple #[])/\Hid (At n0 pb n ps L w (.returned (.bool true)) w')):=fun W W3 v q hW hW3 hv=>by
  have hI:=h.below hW;have hI3:=hI.below hW3;have hn0:=hI.size;refine(hI3.listB (B0:=W.heap.size) (m:=l.length) hW3.size hn0 (fun g hg=>(hI.kk g hg).2) (fun s hs g hg=>.inl ((hI.scr s hs).own g hg).2.1) hN (by omega) ⟨_,hv⟩).mono ?_;rintro e w' ⟨rfl,⟨K',hK'⟩,h3,h4⟩;refine⟨rfl,?_⟩;exact At.before (hW.trans (hW3.mono hW.size)) ⟨rfl,⟨L,⟨n.a,n.b+1,n.v⟩,K',rfl,⟨cT _,aO _,cT _⟩,hK',fun T hT s hs=>Nat.le_succ_of_le (hT s hs)⟩,h3,h4⟩
 have HS:Hid (∀W u v,Bb W u l->Bb W v l->Calls prog 141 #[u,v] W fun e w'=>e=.returned (.bool true)/\∃nq,w'=W.drewN nq):=fun W u v hu hv=>Sk l u v W hu hv (by omega);have hpn:pb<w.heap.size:=by
  obtain⟨pc,av,bv,cv,xa,xb,xc,hbk⟩:=h.play;exact Ab hbk.blk
 clear h hi hN hP hR;unfold BD Au;go_enter func95,ntmps95
 go_wp2_with(first
  |(go_at_call 31;refine(HP.out _ (al2 (aO _) _ _)).mono ?_;rintro e w1 ⟨v1,q1,rfl,hv1,hb1⟩;have hbx:=D2 hb1;have c1:=aP w1 _ 1 _ _ _ hbx.1;have c2:=aP w1 _ 2 _ _ _ hbx.2;simp only[br,bj,bt]at c1 c2;have H1:=Aa (aK ((al2 (aO _) _ _).trans (hb1.mono (by simp;omega))) (aK hv1 (aK hb1 (al2 (aO w.heap.size) (.cells #[.pointer (some ⟨s.x,0,none⟩),.pointer (some ⟨s.c,0,none⟩)] 105) (.cells #[.int .i64 14,.int .i64 k,.int .i64 a,.int .i64 b,.int .i64 c,.bool y,.int .i64 r.1,.int .i64 r.2.1,.int .i64 r.2.2.1,.int .i64 r.2.2.2,lv,mv,pv] 72)))));clear hv1 hb1 hbx)
  |(go_at_call 140;refine(HR.out _ H1.out.1).mono ?_;rintro e w2 ⟨v2,q2,rfl,hv2,hb2⟩;have H2:=Aa (aK hv2 (aK (Ai H1.out.2.1 fun g hg=>hb2.block g (H1.out.2.1.lt g hg).2) (H1.out.2.2.1.trans (hb2.mono H1.out.2.2.1.size))));clear hv2 hb2)
  |(go_at_call 141;refine(HS.out _ _ _ (Nl H2.out.2.1 rfl) H2.out.1).mono ?_;rintro e w3 ⟨rfl,nq,rfl⟩)
  |(go_at_call 142;refine(HB.out _ _ _ _ H1.out.2.2.2 (cS H2.out.2.2 _) (Ai H2.out.2.1 fun _ _=>rfl)).mono ?_;rintro e w4 ⟨rfl,HH⟩))
 go_ret;exact HH.out
variable{L:List RB}
def XS(w:World)(g:Nat):Prop:=∃(cur:Array Value) (t:TypeId),t≠53/\w.heap[g]?=some (.cells cur t (0,0))
theorem A4.ot{T:TypeId}{k:Nat}{v:Value}{n:Nat}{xs:List Value}(h:A4 w S T k v n xs)(hT:T≠53):A4 w (fun g=>S g/\XS w g) T k v n xs:=
 ⟨h.1,fun g hg=>⟨h.2 g hg,by
  obtain⟨cur,hc⟩:=h.type hg;exact⟨cur,T,hT,hc⟩⟩⟩
theorem AG.ot{N:Nat}(h:AG w B bv N L P D):AG w (fun g=>B g/\XS w g) bv N L P D:=
 ⟨(let ⟨xs,h1,h2⟩:=h.row;⟨xs,h1.ot (by decide),h2⟩),h.few,fun i hi=>(let ⟨m,h1,h2⟩:=h.pix i hi;⟨m,h1,h2.ot (by decide)⟩),fun i hi=>(let ⟨m,h1,h2⟩:=h.dir i hi;⟨m,h1,h2.ot (by decide)⟩),h.apP,h.apD⟩
def QL(S:Nat->Prop)(w w':World)(g:Nat):Prop:=S g\/(w.heap.size<=g/\g<w'.heap.size/\XS w' g)
theorem Ea.nextO{w':World}{A:Nat->Prop}{P' D':Nat->Value}(h:Ea w A B c st bv L P D)(hA:∀g,A g->S g)(hB:∀g,B g->S g)(hr:Aw w' A c st bv)(hb:AG w' (AA B w w') bv (st.w.toNat*st.h.toNat) L' P' D')(ho:Ac B w w'):A0 w' (QL S w w') c st L'/\Ac S w w':=by
 have hs:=ho.size;refine⟨⟨A,fun g=>AA B w w' g/\XS w' g,bv,P',D',⟨hr,hb.ot,fun g hg hb=>?_,fun g hg=>aQ (h.la g hg) hs,fun g hg=>?_⟩,fun g hg=>.inl (hA g hg),fun g hg=>?_⟩,ho.mono fun g _ hg=>hB g hg⟩
 ·rcases hb.1 with hb|hb
  ·exact h.ap g hg hb
  ·have:=h.la g hg;omega
 ·rcases hg.1 with hg|hg
  ·exact aQ (h.lb g hg) hs
  ·exact hg.2
 ·rcases hg with⟨hg|hg,h2⟩
  ·exact .inl (hB g hg)
  ·exact .inr ⟨hg.1,hg.2,h2⟩
theorem LP(hw:Wf st)(w:World)(h:A0 w S c st L)(i:Nat)(hi:i<L.length)(hag:∀j (hj:j<L.length),L[j].age<=4611686018427387904)(q:Nat->Bool)(hq:∀k,k<st.w.toNat*st.h.toNat->q k=(L[i].dirty k||GA L[i].age)):
  Calls prog 139 #[.pointer (some ⟨c,0,none⟩),.int .i64 i] w fun e w'=>∃(rv:Value) (O:Rgn),e=.returned (.tuple #[.agg #[rv,.int .i64 (Az (fun j=>if q j=true then(st.picL (st.visAll (-1)) ((j%st.w.toNat:Nat):Int) ((j/st.w.toNat:Nat):Int)).2 else 0) (st.w.toNat*st.h.toNat))],.int .i64 0])/\AF w' w.heap.size rv (rc O)/\EE (AP st.w.toNat) (AP st.h.toNat) (CG q (st.w.toNat*st.h.toNat)) ((AP st.h.toNat).length-1) O/\A0 w' (QL S w w') c st (Cy L i (fTo q (fun k=>(st.picU ((k%st.w.toNat:Nat):Int) ((k/st.w.toNat:Nat):Int) (st.visAll (-1))).1) L[i].f (st.w.toNat*st.h.toNat)))/\Ac S w w':=by
 obtain⟨A,B,bv,P,D,h1,h2,h3⟩:=h;have hwh:=h1.wh hw;refine(GB hw w h1.ref h1.ap h1.la h1.lb st.w.toNat st.h.toNat hwh.1 hwh.2 h1.buf i hi hag q hq).mono ?_;rintro e w' ⟨rv,O,P',D',he,hO,hG,hr,hb,ho⟩;exact⟨rv,O,he,hO,hG,h1.nextO h2 h3 hr hb ho⟩
theorem Inv.bothO{n0:Nat}{w1 w2 w3 w4:World}{pb:Nat}{n:Cnt}{K:Nat->Prop}{ps:Value}{L:List Scr}(h:Inv n0 w pb n K ps L){i:Nat}{s:Scr}{d':Cv}(hi:L[i]?=some s)(hb:Below w.heap.size w w1)(hP:AO w2 s.A s.x s.st d')(oP:Ac s.A w1 w2)(hR:A0 w3 (QL s.B w2 w3) s.c s.st L')(oR:Ac s.B w2 w3)(hd:Duo s.st d' L')(hold:d'.old<=s.d.old+1)(h4:Below w3.heap.size w3 w4):
  ∃L2,L2.length=L.length/\(∀T,Eb T L->Eb (T+1) L2)/\Inv n0 w4 pb n K ps L2/\FO w w4/\Ac (fun g=>n0<=g) w w4/\S2 w4 w1.heap.size 53 L2:=by
 have ok:=h.scr s (bM.2 ⟨i,hi⟩);have hks:=h.ks s (bM.2 ⟨i,hi⟩);have hn:=h.size;have h1:=hb.size;have h2:=oP.size;have h3:=oR.size;have h5:=h4.size;have step:∀g,g<w.heap.size->¬s.own g->w4.heap[g]?=w.heap[g]? :=fun g hg hs=>
  (h4.block g (by omega)).trans ((oR.block g (by omega) fun hh=>hs (.inr hh)).trans ((oP.block g (by omega) fun hh=>hs (.inl hh)).trans (hb.block g hg)))
 have law:FO w w4:=fun g cur t ht hg=>step g (aM.1 hg).1 fun hs=>(ok.own g hs).2.2 cur t ht hg;have onA:∀g,s.A g->n0<=g/\g<w.heap.size:=fun g hg=>⟨(ok.own g (.inl hg)).1,(ok.own g (.inl hg)).2.1⟩;have onB:∀g,s.B g->n0<=g/\g<w.heap.size:=fun g hg=>⟨(ok.own g (.inr hg)).1,(ok.own g (.inr hg)).2.1⟩;refine⟨L.set i ⟨s.x,s.c,s.st,d',L',RS s.A w4,RS (QL s.B w2 w3) w4⟩,by rw[bG],fun T hT=>hT.set hi hold,h.swap hi rfl rfl (by omega) law (fun g hg=>step g (h.kk g hg).2 fun hh=>hks g hh hg) (fun j t hj hne g hg=>step g ((h.scr t (bM.2 ⟨j,hj⟩)).own g hg).2.1 fun hs=>h.apart i j s t hi hj hne g hs hg) ⟨?_,?_,hd,fun g hg=>?_,fun g ha hbb=>?_⟩ fun g hg=>?_,law,⟨?_,?_,?_,by omega,fun g hg hs=>step g hg fun hh=>hs (ok.own g hh).1⟩,fun t ht g hg=>?_⟩
 ·refine(hP.keep (by omega) fun g hg hl=>?_).rs;exact(h4.block g (by omega)).trans (oR.block g hl fun hh=>ok.ab g hg hh)
 ·exact(hR.keep (by omega) fun g hg hl=>h4.block g hl).rs
 ·rcases hg with⟨hg,hl,hnl⟩|⟨hg|hg,hl,hnl⟩
  ·exact⟨(onA g hg).1,hl,hnl⟩
  ·exact⟨(onB g hg).1,hl,hnl⟩
  ·exact⟨by omega,hl,hnl⟩
 ·rcases ha with⟨ha,_⟩;rcases hbb with⟨hbb|hbb,_⟩
  ·exact ok.ab g ha hbb
  ·have:=(onA g ha).2;omega
 ·rcases hg with⟨hg,_⟩|⟨hg|hg,_⟩
  ·exact .inl (.inl hg)
  ·exact .inl (.inr hg)
  ·exact .inr (by omega)
 ·exact h4.os.trans (oR.os.trans (oP.os.trans hb.os))
 ·exact h4.tape.trans (oR.tape.trans (oP.tape.trans hb.tape))
 ·exact h4.output.trans (oR.output.trans (oP.output.trans hb.output))
 ·obtain⟨j,hj⟩:=bM.1 ht;rw[bW]at hj;by_cases e:i=j
  ·rw[if_pos e,if_pos (by have:=(bL.1 hi).1;omega)]at hj;injection hj with hj;subst hj;rcases hg with⟨hg,_⟩|⟨hg|hg,_⟩
   ·have:=(onA g hg).2;exact .inl (by omega)
   ·have:=(onB g hg).2;exact .inl (by omega)
   ·obtain⟨_,hl,cur,t,ht,hc⟩:=hg;exact .inr ⟨cur,t,ht,(h4.block g hl).trans hc⟩
  ·rw[if_neg e]at hj;have:=((h.scr t (bM.2 ⟨j,hj⟩)).own g hg).2.1;exact .inl (by omega)
variable{L:List Scr}{n:Cnt}
def Wt(n0:Nat)(pb:Nat)(n:Cnt)(ps:Value)(L:List Scr)(w w3:World)(u v:Value):Prop:=
 (∀W,Below w3.heap.size w3 W->Calls prog 86 #[u,v] W fun e w'=>e=.returned (.bool true)/\∃nq,w'=W.drewN nq)/\
 ∀W,Below w3.heap.size w3 W->Calls prog 87 #[.pointer (some ⟨pb,1,none⟩),u] W fun e w'=>e=.returned (.tuple #[])/\(∀(g:Nat) (cur:Array Value),W.heap[g]?=some (.cells cur 35 (0,0))->w'.heap[g]?=W.heap[g]?)/\At n0 pb n ps L w (.returned (.bool true)) w'
theorem S3{W1 w2 V w3:World}(h:Inv n0 w pb n K ps L)(hN:n.a<=1000000000000){d':Cv}{L':List RB}{l:List R4}{u v:Value}{bv:Nat}(hi:L[i]?=some s)(hl:l.length<=9000000)(hb:Below w.heap.size w W1)(hP:AO w2 s.A s.x s.st d')(oP:Ac s.A W1 w2)(hu:AF w2 W1.heap.size u l)(hV:Below w2.heap.size w2 V)(hR:A0 w3 (QL s.B V w3) s.c s.st L')(oR:Ac s.B V w3)(hv:AF w3 bv v l)(hd:Duo s.st d' L')(hold:d'.old<=s.d.old+1):Wt n0 pb n ps L w w3 u v:=by
 have ok:=h.scr s (bM.2 ⟨i,hi⟩);have s1:=hb.size;have hu3:AF w3 W1.heap.size u l:=by
  refine hu.keep fun g hg=>?_;obtain⟨g1,g2⟩:=hu.1.lt g hg;have:=hV.size;exact(oR.block g (by omega) fun hh=>by have:=(ok.own g (.inr hh)).2.1;omega).trans (hV.block g g2)
 have hP':AO V s.A s.x s.st d':=hP.keep hV.size fun g _ hl=>hV.block g hl;have oP':Ac s.A W1 V:=oP.trans ((Ac.below hV).mono fun g _ hg=>.inl hg);refine⟨fun W hW=>Wq l u v W (hu3.stay hW).rects (hv.stay hW).rects hl,fun W hW=>?_⟩;obtain⟨L2,q1,q2,q3,q4,q5,q6⟩:=h.bothO hi hb hP' oP' hR oR hd hold hW;have hn:=h.size;refine(q3.listA (B0:=W1.heap.size) (m:=l.length) (bh oP'.size (bh oR.size hW.size)) (by omega) (fun g hg=>by have:=(h.kk g hg).2;omega) q6 hN hl ⟨_,(hu3.stay hW).1⟩).mono ?_;rintro e w' ⟨rfl,⟨K',hK'⟩,h3,h4⟩;refine⟨rfl,fun g cur hg=>h3 g cur _ (by decide) (by decide) (by decide) hg,rfl,⟨L2,⟨n.a+1,n.b,n.v⟩,K',q1,⟨aO _,cT _,cT _⟩,hK',q2⟩,fun g cur t ht hg=>?_,q5.trans (h4.mono fun _ _ hg=>.inl hg)⟩;have e1:=q4 g cur t (by unfold Law;rcases ht with rfl|rfl<;>simp) hg;exact(h3 g cur t (by rcases ht with rfl|rfl<;>decide) (by rcases ht with rfl|rfl<;>decide) (by rcases ht with rfl|rfl<;>decide) (e1.trans hg)).trans e1
theorem OP(h:Inv n0 w pb n K ps L)(hN:n.a<=1000000000000){T:Nat}(hT:Eb T L)(hT2:T<=4611686018427387904)(hi:L[i]?=some s)(a:Int)(W1:World)(hW1:Below w.heap.size w W1):
  Calls prog 14 #[.pointer (some ⟨s.x,0,none⟩),.int .i64 a] W1 fun e w2=>∃ra rn rq z er,e=.returned (.tuple #[.agg #[.slice ra rn rq,.int .i64 z],.int .i64 er])/\Ac s.A W1 w2/\
   ∀V,Below w2.heap.size w2 V->Calls prog 139 #[.pointer (some ⟨s.c,0,none⟩),.int .i64 a] V fun e w3=>∃sa sn sq,e=.returned (.tuple #[.agg #[.slice sa sn sq,.int .i64 z],.int .i64 er])/\Ac s.B V w3/\Wt n0 pb n ps L w w3 (.slice ra rn rq) (.slice sa sn sq):=by
 have hsm:s∈L:=bM.2 ⟨i,hi⟩;have hq:=(h.pane hi (aN _ _)).2;have hnb:s.L.length=s.d.bufs.length:=hq.rel.len;have href:∀w2 V,Ac s.A W1 w2->Below w2.heap.size w2 V->A0 V s.B s.c s.st s.L:=fun w2 V o hV=>(h.ref hi hW1 (o.trans ((Ac.below hV).mono fun g _ hg=>.inl hg))).1;by_cases h0:0<=a/\a<s.d.bufs.length
 ·obtain⟨j,hj⟩:∃j:Nat,a=j:=⟨a.toNat,by omega⟩;subst hj;have hjd:j<s.d.bufs.length:=by omega
  have hjL:j<s.L.length:=by omega
  have hold:s.d.old<=4611686018427387904:=bh (hT s hsm) hT2;refine(LI hq.fine.wf j hjd hold W1 (h.pane hi hW1).1).mono ?_;rintro e w2 ⟨_,rv,O,rfl,hG,hM,hrv,hfm,ho⟩;obtain⟨ra,rq,rfl⟩:=hrv.rects.form;refine⟨ra,_,rq,_,_,rfl,ho,fun V hV=>?_⟩;refine(LP hq.fine.wf V (href w2 V ho hV) j hjL (fun k hk=>?_) (qOf s.L j) fun k _=>VZ s.L hjL k).mono ?_
  ·rw[hq.rel.age k hk (by omega)];exact bh (hq.ok.age _ (aZ _)) hold
  ·rintro e w3 ⟨sv,O',rfl,hsv,hGr,hfr,ho3⟩;obtain⟨eO,eS,hD⟩:=hq.paint hjL hjd hG hM hGr;subst eO;obtain⟨sa,sq,rfl⟩:=hsv.rects.form;rw[eS];refine⟨sa,_,sq,rfl,ho3,S3 h hN hi ?_ hW1 hfm ho hrv hV hfr ho3 hsv hD (aO _)⟩;have:=RL hG;omega
 ·refine(Oy a h0 W1 (h.pane hi hW1).1).mono ?_;rintro e w2 ⟨rfl,hb⟩;have ho:Ac s.A W1 w2:=Ac.below hb;refine⟨none,0,0,0,10,rfl,ho,fun V hV=>?_⟩;refine(Ow a (by rw[hnb];exact h0) V (href w2 V ho hV)).mono ?_;rintro e w3 ⟨rfl,hb3⟩;refine⟨none,0,0,rfl,Ac.below hb3,S3 h hN (l:=[]) (bv:=0) hi (by decide) hW1 ((h.pane hi hW1).1.keep hb.size fun g _ hl=>hb.block g hl) ho ⟨bA _ _ _ _,fun _=>rfl⟩ hV (((href w2 V ho hV).keep hb3.size fun g _ hl=>hb3.block g hl).mono fun g hg=>.inl hg) (Ac.below hb3) ⟨bA _ _ _ _,fun _=>rfl⟩ hq (cT _)⟩
theorem Kp{n0:Nat}{w:World}{pb:Nat}{n:Cnt}{K:Nat->Prop}{ps:Value}{L:List Scr}(h:Inv n0 w pb n K ps L)(hN:n.a<=1000000000000){T:Nat}(hT:Eb T L)(hT2:T<=4611686018427387904){i:Nat}{s:Scr}(hi:L[i]?=some s)(k a b c:Int)(y:Bool)(r:R4)(lv mv pv:Value):
  Calls prog 95 #[.pointer (some ⟨pb,0,none⟩),BD s,.agg (Au 13 k a b c y r lv mv pv)] w (At n0 pb n ps L w):=by
 have HP:=Aa (OP h hN hT hT2 hi a);have HIn:=Aa (h.inA hi);have hpn:pb<w.heap.size:=by
  obtain⟨pc,av,bv,cv,xa,xb,xc,hbk⟩:=h.play;exact Ab hbk.blk
 clear h hi hN hT hT2;unfold BD Au;obtain⟨post,hpost⟩:∃P,P=At n0 pb n ps L w:=⟨_,rfl⟩;rw[<-hpost];have HPo:=Aa hpost;clear hpost;go_enter func95,ntmps95
 go_upto_region 10 with(go_at_call 14;refine(HP.out _ (al2 (aO _) _ _)).mono ?_;rintro e w2 ⟨ra,rn,rq,z,er,rfl,oP,hV⟩;have hbx:=CA HIn.out.1 oP;have H2:=Aa (aK hV (aK oP.size hbx));clear hV oP hbx)
 have hs2:w.heap.size+2<=w2.heap.size:=by
  have:=H2.out.2.1;simpa using this
 have hb4:Below w2.heap.size w2 (w2.alloc (.cells #[.slice ra rn rq,.int .i64 z] 35)):=al1 (aO _) _;have hp4:(w2.alloc (.cells #[.slice ra rn rq,.int .i64 z] 35)).heap[w2.heap.size]?=some (.cells #[.slice ra rn rq,.int .i64 z] 35 (0,0)):=aR w2 _;generalize w2.alloc (.cells #[.slice ra rn rq,.int .i64 z] 35)=W4 at*;obtain⟨p,hp⟩:∃p,w2.heap.size=p:=⟨_,rfl⟩;have hbx:=H2.out.2.2;have c1:=aP W4 _ 1 _ _ _ ((hb4.block _ (by omega)).trans hbx.1);have c2:=aP W4 _ 2 _ _ _ ((hb4.block _ (by omega)).trans hbx.2);simp only[br,bj,bt]at c1 c2;have H4:=Aa (aK hb4 hp4);clear hbx hb4 hp4
 go_upto_region 11 with(go_at_call 139;refine(H2.out.1 _ H4.out.1).mono ?_;rintro e w3 ⟨sa,sn,sq,rfl,oR,hE⟩;have H3:=Aa (aK oR hE);clear oR hE)
 have hp3:w3.heap[p]?=some (.cells #[.slice ra rn rq,.int .i64 z] 35 (0,0)):=by
  have e:=H4.out.2;rw[hp]at e;exact(H3.out.1.block _ (aM.1 e).1 fun hh=>by have:=HIn.out.2 _ hh;omega).trans e
 have hb5:Below w3.heap.size w3 (w3.alloc (.cells #[.slice sa sn sq,.int .i64 z] 35)):=al1 (aO _) _;have hq5:(w3.alloc (.cells #[.slice sa sn sq,.int .i64 z] 35)).heap[w3.heap.size]?=some (.cells #[.slice sa sn sq,.int .i64 z] 35 (0,0)):=aR w3 _;have hp5:=(hb5.block _ (aM.1 hp3).1).trans hp3;generalize w3.alloc (.cells #[.slice sa sn sq,.int .i64 z] 35)=W5 at*;obtain⟨q,hq⟩:∃q,w3.heap.size=q:=⟨_,rfl⟩;have hq5':=hq5;rw[hq]at hq5';have p0:=aP W5 _ 0 _ _ _ hp5;have q0:=aP W5 _ 0 _ _ _ hq5';simp only[br,bj]at p0 q0;have H5:=Aa (aK hb5 (aK hp5 hq5'));clear hb5 hq5 hq5' hp5 hp3 c1 c2
 go_upto_region 12 with(go_at_call 86;refine(H3.out.2.1 _ H5.out.1).mono ?_;rintro e w6 ⟨rfl,nq,rfl⟩)
 have hb6:Below w3.heap.size w3 (W5.drewN nq):=cS H5.out.1 _;have hp6:(W5.drewN nq).heap[p]?=some (.cells #[.slice ra rn rq,.int .i64 z] 35 (0,0)):=H5.out.2.1;have hq6:(W5.drewN nq).heap[q]?=some (.cells #[.slice sa sn sq,.int .i64 z] 35 (0,0)):=H5.out.2.2;clear p0 q0;generalize W5.drewN nq=W6 at*;have p0:=aP W6 _ 0 _ _ _ hp6;simp only[br,bj]at p0;have H6:=Aa (aK hb6 (aK hp6 hq6));clear hb6 hp6 hq6;have HW:=Aa (H3.out.2.2 _ (H6.out.1.drew))
 go_still_tail 5,(by kernel_rfl)
 go_upto_region 13 with(go_at_call 87;refine HW.out.mono ?_;rintro e w7 ⟨rfl,hk7,hs7⟩;have p1:=aP w7 _ 1 _ _ _ ((hk7 _ _ H6.out.2.1).trans H6.out.2.1);have q1:=aP w7 _ 1 _ _ _ ((hk7 _ _ H6.out.2.2).trans H6.out.2.2);simp only[br,bj,bt]at p1 q1;have H7:=Aa hs7;clear hk7 hs7)
 go_wp2
 try go_ret
 rw[HPo.out];exact H7.out
theorem Iq{n0:Nat}{w:World}{pb:Nat}{n:Cnt}{ps:Value}{L:List Scr}{s:Scr}(kd k a b c:Int)(y:Bool)(r:R4)(lv mv pv:Value)
  (hA:∀W,Below w.heap.size w W->Calls prog 95 #[.pointer (some ⟨pb,0,none⟩),BD s,.agg (Au kd k a b c y r lv mv pv)] W (At n0 pb n ps L W))
  (hk:kd=12\/kd=13\/kd=14):
  Calls prog 49 #[.pointer (some ⟨pb,0,none⟩),BD s,.agg (Au kd k a b c y r lv mv pv)] w (At n0 pb n ps L w):=by
 have HC:Hid (∀W,Below w.heap.size w W->Calls prog 95 #[.pointer (some ⟨pb,0,none⟩),BD s,.agg (Au kd k a b c y r lv mv pv)] W fun e w'=>e=.returned (.bool true)/\Hid (At n0 pb n ps L w (.returned (.bool true)) w')):=fun W hW=>(hA W hW).mono fun e w' hh=>by
  have:=hh.1;subst this;exact⟨rfl,hh.before hW⟩
 clear hA;unfold BD Au at*;rcases hk with rfl|rfl|rfl;all_goals
  go_enter func49,ntmps49
  go_wp2_with(go_at_call 95;refine(HC.out _ (al2 (aO _) _ _)).mono ?_;rintro e w' ⟨rfl,HH⟩)
  go_ret;exact HH.out
structure ZS(n:Cnt)(T:Nat)(L:List Scr):Prop where
 a:n.a<=1000000000000
 b:n.b<=1000000000000
 v:n.v<=1000000000000
 old:Eb T L
 t:T<=4611686018427387904
 len:L.length<=1000000000000
def CW(kd:Int):Prop:=∀(n0:Nat) (w:World) (pb:Nat) (n:Cnt) (K:Nat->Prop) (ps:Value) (L:List Scr),Inv n0 w pb n K ps L->∀T:Nat,ZS n T L->∀(i:Nat) (s:Scr),L[i]?=some s->∀(k a b c:Int) (y:Bool) (r:R4) (lv mv pv:Value) (l:List R4),Nj n0 w pv l->∀ll:List R4,Nk n0 w lv ll->
  Calls prog 49 #[.pointer (some ⟨pb,0,none⟩),BD s,.agg (Au kd k a b c y r lv mv pv)] w (At n0 pb n ps L w)
theorem ZT:CW 2:=fun _ _ _ _ _ _ _ h _ _ _ _ hi k a b c y r lv mv pv _ _ _ _=>XR h hi k a b c y r lv mv pv
theorem ZU:CW 3:=fun _ _ _ _ _ _ _ h _ _ _ _ hi k a b c y r lv mv pv _ _ _ _=>Sj h hi k a b c y r lv mv pv
theorem ZV:CW 4:=fun _ _ _ _ _ _ _ h _ _ _ _ hi k a b c y r lv mv pv l hp _ _=>Ft 4 k a b c y r lv mv pv (fun _ hW=>OI (h.below hW) hi k a b c y r lv mv pv l (hp.only (Ac.below hW)).at' hp.form hp.fit hp.byte) (by simp)
theorem ZW:CW 5:=fun _ _ _ _ _ _ _ h _ _ _ _ hi k a b c y r lv mv pv _ _ _ _=>Ft 5 k a b c y r lv mv pv (fun _ hW=>OG (h.below hW) hi k a b c y r lv mv pv) (by simp)
theorem ZX:CW 6:=fun _ _ _ _ _ _ _ h _ _ _ _ hi k a b c y r lv mv pv _ _ _ _=>Ft 6 k a b c y r lv mv pv (fun _ hW=>Sh (h.below hW) hi k a b c y r lv mv pv) (by simp)
theorem ZY:CW 7:=fun _ _ _ _ _ _ _ h _ _ _ _ hi k a b c y r lv mv pv _ _ _ _=>Ft 7 k a b c y r lv mv pv (fun _ hW=>OH (h.below hW) hi k a b c y r lv mv pv) (by simp)
theorem aI:CW 8:=fun _ _ _ _ _ _ _ h _ _ _ _ hi k a b c y r lv mv pv _ _ ll hl=>Ft 8 k a b c y r lv mv pv (fun _ hW=>OM (h.below hW) hi k a b c y r lv mv pv ll (hl.only (Ac.below hW)).at' hl.form hl.fit hl.low) (by simp)
theorem ZZ:CW 9:=fun _ _ _ _ _ _ _ h _ _ _ _ hi k a b c y r lv mv pv _ _ _ _=>Ft 9 k a b c y r lv mv pv (fun _ hW=>QG (h.below hW) hi k a b c y r lv mv pv) (by simp)
theorem Yb:CW 10:=fun _ _ _ _ _ _ _ h _ _ _ _ hi k a b c y r lv mv pv _ _ _ _=>Uz h hi k a b c y r lv mv pv
theorem Z0:CW 12:=fun _ _ _ _ _ _ _ h _ _ _ _ hi k a b c y r lv mv pv l hp _ _=>Iq 12 k a b c y r lv mv pv (fun _ hW=>Ko (h.below hW) hi k a b c y r lv mv pv l (hp.only (Ac.below hW)).at' hp.form hp.fit) (by simp)
theorem Yc:CW 13:=fun _ _ _ _ _ _ _ h _ hF _ _ hi k a b c y r lv mv pv _ _ _ _=>Iq 13 k a b c y r lv mv pv (fun _ hW=>Kp (h.below hW) hF.a hF.old hF.t hi k a b c y r lv mv pv) (by simp)
theorem Yd:CW 14:=fun _ _ _ _ _ _ _ h _ hF _ _ hi k a b c y r lv mv pv _ _ _ _=>Iq 14 k a b c y r lv mv pv (fun _ hW=>OO (h.below hW) hF.b hi k a b c y r lv mv pv) (by simp)
theorem Inv.opened{n0:Nat}{w w1 w2 w3 w4:World}{pb:Nat}{n:Cnt}{K:Nat->Prop}{ps ps':Value}{L:List Scr}(h:Inv n0 w pb n K ps L){x c:Nat}{st:St}{d:Cv}{LR:List RB}(hb1:Below w.heap.size w w1)(hP:AO w1 (fun g=>w.heap.size<=g/\g<w1.heap.size) x st d)(hb2:Below w1.heap.size w1 w2)(hR:A0 w2 (fun g=>w1.heap.size<=g/\g<w2.heap.size) c st LR)(hf:Duo st d LR)(hold:d.old=0)
  (hb3:Below w2.heap.size w2 w3) (hg4:w3.grownBy w4 ps.ownBlock) (hr4:w4.ownsRow n0 105 2 ps' (L.length+1) (L.flatMap Scr.cells++[BE x,BE c])):
  ∃L',L'.length=L.length+1/\(∀T,Eb T L->Eb (T+1) L')/\Inv n0 (w4.setCell ⟨pb,0,none⟩ ps') pb n K ps' L'/\(∀(g:Nat) (cur:Array Value),w.heap[g]?=some (.cells cur 72 (0,0))->(w4.setCell ⟨pb,0,none⟩ ps').heap[g]?=w.heap[g]?)/\Ac (fun g=>n0<=g) w (w4.setCell ⟨pb,0,none⟩ ps'):=by
 obtain⟨pc,av,bv,cv,xa,xb,xc,hbk⟩:=h.play;have hn:=h.size;have hs1:=hb1.size;have hs2:=hb2.size;have hs3:=hb3.size;have hs4:=hg4.size;have hpl:=Ab hbk.blk;have to3:∀g,g<w.heap.size->w3.heap[g]?=w.heap[g]? :=fun g hg=>(hb3.block g (by omega)).trans ((hb2.block g (by omega)).trans (hb1.block g hg));have to4:∀g,g<w.heap.size->ps.ownBlock≠some g->w4.heap[g]?=w.heap[g]? :=fun g hg hne=>(hg4.block g (by omega) (fun e=>hne e.symm)).trans (to3 g hg);have step:∀g,g<w.heap.size->g≠pb->ps.ownBlock≠some g->(w4.setCell ⟨pb,0,none⟩ ps').heap[g]?=w.heap[g]? :=fun g hg h1 h2=>(aL w4 ⟨pb,0,none⟩ g ps' h1).trans (to4 g hg h2);have psT:∀(g:Nat) (cur:Array Value) (t:TypeId),w.heap[g]?=some (.cells cur t (0,0))->t≠105->ps.ownBlock≠some g:=fun g cur t hg ht e=>by
  obtain⟨c2,hc2⟩:=Ap h.row e;rw[hc2]at hg;injection hg with hg;injection hg with _ hg;exact ht hg.symm
 have other:∀(g:Nat) (cur:Array Value) (t:TypeId),w.heap[g]?=some (.cells cur t (0,0))->t≠69->t≠105->(w4.setCell ⟨pb,0,none⟩ ps').heap[g]?=w.heap[g]? :=fun g cur t hg t1 t2=>
  step g (aM.1 hg).1 (fun e=>by
   subst e;rw[hbk.blk]at hg;injection hg with hg;injection hg with _ hg;exact t1 hg.symm) (psT g cur t hg t2)
 have hpb4:w4.heap[pb]?=some (.cells pc 69 (0,0)):=(to4 pb hpl (psT pb _ _ hbk.blk (by decide))).trans hbk.blk;have new:∀g,w.heap.size<=g->g<w3.heap.size->(w4.setCell ⟨pb,0,none⟩ ps').heap[g]?=w3.heap[g]? :=fun g h1 h2=>(aL w4 ⟨pb,0,none⟩ g ps' (by show g≠pb;omega)).trans (hg4.block g h2 fun e=>by
  have:=(h.row.lt g e.symm).2;omega)
 have hscr:∀s∈L,∀g,s.own g->(w4.setCell ⟨pb,0,none⟩ ps').heap[g]?=w.heap[g]? :=fun s hs g hg=>by
  obtain⟨_,q2,q3⟩:=(h.scr s hs).own g hg;refine step g q2 (fun e=>?_) fun e=>?_
  ·subst e;exact q3 _ _ (by unfold Law;simp) hbk.blk
  ·obtain⟨c2,hc2⟩:=Ap h.row e;exact q3 _ _ (by unfold Law;simp) hc2
 have hPz:AO (w4.setCell ⟨pb,0,none⟩ ps') (RS (fun g=>w.heap.size<=g/\g<w1.heap.size) (w4.setCell ⟨pb,0,none⟩ ps')) x st d:=(hP.keep (by simp;omega) fun g hg hl=>(new g hg.1 (by omega)).trans ((hb3.block g (by omega)).trans (hb2.block g hl))).rs;have hRz:A0 (w4.setCell ⟨pb,0,none⟩ ps') (RS (fun g=>w1.heap.size<=g/\g<w2.heap.size) (w4.setCell ⟨pb,0,none⟩ ps')) c st LR:=(hR.keep (by simp;omega) fun g hg hl=>(new g (by omega) (by omega)).trans (hb3.block g hl)).rs;have hsz:w.heap.size<=(w4.setCell ⟨pb,0,none⟩ ps').heap.size:=by simp;omega
 refine⟨L++[⟨x,c,st,d,LR,RS (fun g=>w.heap.size<=g/\g<w1.heap.size) (w4.setCell ⟨pb,0,none⟩ ps'),RS (fun g=>w1.heap.size<=g/\g<w2.heap.size) (w4.setCell ⟨pb,0,none⟩ ps')⟩],by simp,fun T hT s hs=>?_,⟨⟨pc.setIfInBounds 0 ps',av,bv,cv,xa,xb,xc,⟨bH w4 pb 0 pc _ ps' hpb4,?_,?_,?_,?_,?_,?_,?_,hbk.la,hbk.lb,hbk.lc⟩⟩,h.lo,?_,fun s hs=>?_,fun i j s t hi hj hij g hg=>?_,fun g hg=>⟨(h.kk g hg).1,aQ (h.kk g hg).2 hsz⟩,fun s hs g hg hk=>?_⟩,fun g cur hg=>other g cur _ hg (by decide) (by decide),⟨?_,?_,?_,hsz,fun g hg hs=>step g hg (fun e=>hs (e▸h.lo)) fun e=>hs (h.row.lt g e).1⟩⟩
 ·rcases bV.1 hs with hs|hs
  ·exact Nat.le_succ_of_le (hT s hs)
  ·rw[List.mem_singleton]at hs;subst hs;show d.old<=T+1;omega
 ·have:0<pc.size:=(aM.1 hbk.p0).1;rw[Array.getElem?_setIfInBounds_self_of_lt this]
 ·rw[bC (by omega)];exact hbk.p1
 ·rw[bC (by omega)];exact hbk.p2
 ·rw[bC (by omega)];exact hbk.p3
 ·exact hbk.ca.keep (fun _ hb=>hb) fun b cur t ht hb=>other b cur t hb (by rcases ht with⟨rfl,_⟩|rfl|rfl<;>decide) (by rcases ht with⟨rfl,_⟩|rfl|rfl<;>decide)
 ·exact hbk.cb.keep (fun _ hb=>hb) fun b cur t ht hb=>other b cur t hb (by rcases ht with⟨rfl,_⟩|rfl|rfl<;>decide) (by rcases ht with⟨rfl,_⟩|rfl|rfl<;>decide)
 ·exact hbk.cc.keep (fun _ hb=>hb) fun b cur t ht hb=>other b cur t hb (by rcases ht with⟨rfl,_⟩|rfl|rfl<;>decide) (by rcases ht with⟨rfl,_⟩|rfl|rfl<;>decide)
 ·rw[aY,cM];refine Ai hr4 fun g hg=>aL w4 ⟨pb,0,none⟩ g ps' fun e=>?_;obtain⟨cur,hc⟩:=Ap hr4 hg;have e':g=pb:=e;subst e';rw[hpb4]at hc;injection hc with hc;injection hc with _ hc;exact absurd hc (by decide)
 ·rcases bV.1 hs with hs|hs
  ·exact(h.scr s hs).keep hsz (hscr s hs)
  ·rw[List.mem_singleton]at hs;subst hs;refine⟨hPz,hRz,hf,fun g hg=>?_,fun g ha hb=>?_⟩
   ·rcases hg with⟨q1,q2,q3⟩|⟨q1,q2,q3⟩
    ·exact⟨by omega,q2,q3⟩
    ·exact⟨by omega,q2,q3⟩
   ·have h1:=ha.1;have h2:=hb.1;simp only at h1 h2;omega
 ·have fresh:∀(k:Nat) (q:Scr),L[k]?=some q->∀g,(w.heap.size<=g)->¬q.own g:=fun k q hk g hg hq=>by
   have:=((h.scr q (bM.2 ⟨k,hk⟩)).own g hq).2.1;omega
  have lastOwn:∀g,Scr.own ⟨x,c,st,d,LR,RS (fun g=>w.heap.size<=g/\g<w1.heap.size) (w4.setCell ⟨pb,0,none⟩ ps'),RS (fun g=>w1.heap.size<=g/\g<w2.heap.size) (w4.setCell ⟨pb,0,none⟩ ps')⟩ g->w.heap.size<=g:=fun g hg=>by
   rcases hg with⟨q1,_⟩|⟨q1,_⟩
   ·exact q1.1
   ·have:=q1.1;omega
  rw[List.getElem?_append]at hi hj;by_cases ei:i<L.length
  ·rw[if_pos ei]at hi;by_cases ej:j<L.length
   ·rw[if_pos ej]at hj;exact h.apart i j s t hi hj hij g hg
   ·rw[if_neg ej]at hj;obtain⟨_,hj⟩:=bL.1 hj;rw[List.getElem_singleton]at hj;subst hj;exact fun hh=>fresh i s hi g (lastOwn g hh) hg
  ·rw[if_neg ei]at hi;have hil:=(bL.1 hi).1;obtain⟨_,hi⟩:=bL.1 hi;rw[List.getElem_singleton]at hi;subst hi;by_cases ej:j<L.length
   ·rw[if_pos ej]at hj;exact fresh j t hj g (lastOwn g hg)
   ·rw[if_neg ej]at hj;have hjl:=(bL.1 hj).1;simp at hil hjl;omega
 ·rcases bV.1 hs with hs|hs
  ·exact h.ks s hs g hg hk
  ·rw[List.mem_singleton]at hs;subst hs;have h1:=(h.kk g hk).2;rcases hg with⟨q1,_⟩|⟨q1,_⟩
   ·have:=q1.1;omega
   ·have:=q1.1;omega
 ·exact hg4.os.trans (hb3.os.trans (hb2.os.trans hb1.os))
 ·exact hg4.tape.trans (hb3.tape.trans (hb2.tape.trans hb1.tape))
 ·exact hg4.output.trans (hb3.output.trans (hb2.output.trans hb1.output))
variable{lo:Nat}
def A8(n0:Nat)(pb:Nat)(n:Cnt)(L:List Scr)(lo:Nat)(w:World)(e:Ending)(w':World):Prop:=
 e=.returned (.bool true)/\(∃ps' L' n' K',lo<=L'.length/\L'.length<=L.length+1/\n.le1 n'/\Inv n0 w' pb n' K' ps' L'/\∀T,Eb T L->Eb (T+1) L')/\(∀(g:Nat) (cur:Array Value),w.heap[g]?=some (.cells cur 72 (0,0))->w'.heap[g]?=w.heap[g]?)/\Ac (fun g=>n0<=g) w w'
theorem At.any{e:Ending}(h:At n0 pb n ps L w e w'):A8 n0 pb n L L.length w e w':=by
 obtain⟨h1,⟨L',n',K',h2,h3,h4,h7⟩,h5,h6⟩:=h;exact⟨h1,⟨ps,L',n',K',by omega,by omega,h3,h4,h7⟩,fun g cur hg=>h5 g cur _ (.inl rfl) hg,h6⟩
theorem A8.weak{lo':Nat}{e:Ending}(h:A8 n0 pb n L lo w e w')(hl:lo'<=lo):A8 n0 pb n L lo' w e w':=by
 obtain⟨h1,⟨ps',L',n',K',h2,h3⟩,h4⟩:=h;exact⟨h1,⟨ps',L',n',K',bh hl h2,h3⟩,h4⟩
theorem A8.before{e:Ending}(hb:Below w.heap.size w W)(h:A8 n0 pb n L lo W e w'):A8 n0 pb n L lo w e w':=by
 obtain⟨h1,h2,h3,h4⟩:=h;refine⟨h1,h2,fun g cur hg=>?_,(Ac.below hb).trans (h4.mono fun _ _ hg=>.inl hg)⟩;have e:=hb.block g (aM.1 hg).1;exact(h3 g cur (e.trans hg)).trans e
theorem A8.none(h:Inv n0 w pb n K ps L)(hb:Below w.heap.size w W):A8 n0 pb n L L.length w (.returned (.bool true)) W:=
 ⟨rfl,⟨ps,L,n,K,aO _,by omega,⟨by omega,by omega,by omega⟩,h.below hb,fun T hT s hs=>Nat.le_succ_of_le (hT s hs)⟩,fun g _ hg=>hb.block g (aM.1 hg).1,Ac.below hb⟩
theorem XT{W H:Int}:CF ⟨W,H,[],[]⟩:=fun i k h=>by
 have e:St.sf ⟨W,H,[],[]⟩ i=sf0:=rfl;rw[e]at h;cases h
theorem Ww:(prog.info? 105).map (fun i=>(i.zero,i.size,i.bytes))=some (some (.agg #[.pointer none,.pointer none]),2,16):=by kernel_rfl
theorem Nm(h:Inv n0 w pb n K ps L)(k a b c:Int)(y:Bool)(r:R4)(lv mv pv:Value)(er:Int)
  (hP:∀W,Calls prog 26 #[.int .i64 a,.int .i64 b,.int .i64 c] W (Ud er W)) (hR:∀W,Calls prog 81 #[.int .i64 a,.int .i64 b,.int .i64 c] W (Ud er W)):
  Calls prog 46 #[.pointer (some ⟨pb,0,none⟩),.agg (Au 1 k a b c y r lv mv pv)] w (A8 n0 pb n L L.length w):=by
 have HP:=Aa hP;have HR:=Aa hR;have HI:=Aa h;clear hP hR h;unfold Au;obtain⟨post,hpost⟩:∃P,P=A8 n0 pb n L L.length w:=⟨_,rfl⟩;rw[<-hpost];have HPo:=Aa hpost;clear hpost;go_enter func46,ntmps46
 go_wp2_with(first
  |(go_at_call 26;refine(HP.out _).mono ?_;rintro e w1 ⟨rfl,hb1⟩;have hbx:=(hb1.block w.heap.size (by simp)).trans (aR w _);have c2:=aP w1 _ 2 _ _ _ hbx;have c3:=aP w1 _ 3 _ _ _ hbx;have c4:=aP w1 _ 4 _ _ _ hbx;simp only[br,bj,bt]at c2 c3 c4;have H1:=Aa ((al1 (aO _) _).trans (hb1.mono (by simp)));clear hb1 hbx)
  |(go_at_call 81;refine(HR.out _).mono ?_;rintro e w2 ⟨rfl,hb2⟩;have H2:=Aa (H1.out.trans (hb2.mono H1.out.size));clear hb2))
 try go_ret
 rw[HPo.out];exact A8.none HI.out H2.out
theorem Nn(h:Inv n0 w pb n K ps L)(hL:L.length<=1000000000000)(k a b c:Int)(y:Bool)(r:R4)(lv mv pv:Value)(hW:1<=a/\a<=24)(hH:1<=b/\b<=24)(hn:1<=c/\c<=3):
  Calls prog 46 #[.pointer (some ⟨pb,0,none⟩),.agg (Au 1 k a b c y r lv mv pv)] w (A8 n0 pb n L (L.length+1) w):=by
 obtain⟨i0,hi0,hz0,hz1,hz2⟩:=cW Ww;have HP:Hid (∀W,Calls prog 26 #[.int .i64 a,.int .i64 b,.int .i64 c] W fun e w'=>∃x,e=.returned (.tuple #[.pointer (some ⟨x,0,none⟩),.int .i64 0])/\(∃d,AO w' (fun g=>W.heap.size<=g/\g<w'.heap.size) x ⟨a,b,[],[]⟩ d/\d.old=0/\Duo ⟨a,b,[],[]⟩ d (List.replicate c.toNat J8))/\Below W.heap.size W w'):=fun W=>by
  refine(Wv a b c W hW hH hn).mono ?_;rintro e w' ⟨x,gs,he,hf,hg,hb⟩;refine⟨x,he,⟨_,hf,rfl,?_⟩,hb⟩;have:=Duo.new a b gs (AW.new hW hH) XT hf.facts.1 (by omega) (by omega);rw[hg]at this;exact this
 have HR:=Aa (fun W=>VP a b c W hW hH hn);have hsz:=h.size;obtain⟨pc,av,bv,cv,xa,xb,xc,hbk⟩:=h.play;have hpl:=Ab hbk.blk;obtain⟨pa,pcap,hpf⟩:=Al h.row;have hpb0:w.cell? ⟨pb,0,none⟩=some ps:=(aP w pb 0 pc _ _ hbk.blk).trans hbk.p0;have HPS:Hid (∀W,Below w.heap.size w W->W.cell? ⟨pb,0,none⟩=some ps/\W.ownsRow n0 105 2 ps L.length (L.flatMap Scr.cells)/\n0<=W.heap.size):=fun W hb=>⟨(hb.cell (p:=⟨pb,0,none⟩) hpl).trans hpb0,Ai h.row fun g hg=>hb.block g (h.row.lt g hg).2,bh hsz hb.size⟩;have HPB:Hid (∀W W6:World,Below w.heap.size w W->W.grownBy W6 ps.ownBlock->(∃q,W6.cell? ⟨pb,0,none⟩=some q)/\W6.frozen? ⟨pb,0,none⟩=false):=fun W W6 hb hg=>by
  have e:W6.heap[pb]?=some (.cells pc 69 (0,0)):=by
   rw[hg.block pb (aQ hpl hb.size) (fun e=>?_),hb.block pb hpl,hbk.blk];obtain⟨c2,hc2⟩:=Ap h.row e.symm;have:=hbk.blk;rw[hc2]at this;injection this with this;injection this with _ this;exact absurd this (by decide)
  exact⟨⟨_,(aP W6 pb 0 pc _ _ e).trans hbk.p0⟩,by simp[World.frozen?,e]⟩
 have HI:=Aa h;subst hpf;obtain⟨ln,hln⟩:∃ln,L.length=ln:=⟨_,rfl⟩;have HE:Hid (∀W1 W2 W3 W6 v x c0,Below (w.alloc (.cells (Au 1 k a b c y r lv mv pv) 72)).heap.size (w.alloc (.cells (Au 1 k a b c y r lv mv pv) 72)) W1->(∃d,AO W1 (fun g=>(w.alloc (.cells (Au 1 k a b c y r lv mv pv) 72)).heap.size<=g/\g<W1.heap.size) x ⟨a,b,[],[]⟩ d/\d.old=0/\Duo ⟨a,b,[],[]⟩ d (List.replicate c.toNat J8))->Below W1.heap.size W1 W2->A0 W2 (fun g=>W1.heap.size<=g/\g<W2.heap.size) c0 ⟨a,b,[],[]⟩ (List.replicate c.toNat J8)->Below W2.heap.size W2 W3->W3.grownBy W6 (Value.slice pa L.length pcap).ownBlock->W6.ownsRow n0 105 2 v (L.length+1) (L.flatMap Scr.cells++[BE x,BE c0])->A8 n0 pb n L (L.length+1) w (.returned (.bool true)) (W6.setCell ⟨pb,0,none⟩ v)):=fun W1 W2 W3 W6 v x c0 e1 e2 e3 e4 e5 e6 e7=>by
  obtain⟨d,e21,e22,e23⟩:=e2;obtain⟨L',q1,q5,q2,q3,q4⟩:=(h.below (al1 (aO _) (.cells (Au 1 k a b c y r lv mv pv) 72))).opened e1 e21 e3 e4 e23 e22 e5 e6 e7;exact A8.before (al1 (aO _) (.cells (Au 1 k a b c y r lv mv pv) 72)) ⟨rfl,⟨v,L',n,K,by omega,by omega,⟨by omega,by omega,by omega⟩,q2,q5⟩,q3,q4⟩
 obtain⟨post,hpost⟩:∃P,P=A8 n0 pb n L (L.length+1) w:=⟨_,rfl⟩;rw[<-hpost];rw[<-hpost]at HE;unfold Au at*;rw[hln]at HE HPS HPB hL;unfold BE at HE;clear hpost h hbk hpl hpb0 hsz hW hH hn HI;go_enter func46,ntmps46
 go_wp2_with(first
  |(go_at_call 26;refine(HP.out _).mono ?_;rintro e w1 ⟨x,rfl,hp1,hb1⟩;have hbx:=(hb1.block w.heap.size (by simp)).trans (aR w _);have c2:=aP w1 _ 2 _ _ _ hbx;have c3:=aP w1 _ 3 _ _ _ hbx;have c4:=aP w1 _ 4 _ _ _ hbx;simp only[br,bj,bt]at c2 c3 c4;have H1:=Aa (aK ((al1 (aO _) _).trans (hb1.mono (by simp))) (aK hp1 hb1));clear hp1 hb1 hbx)
  |(go_at_call 81;refine(HR.out _).mono ?_;rintro e w2 ⟨x2,rfl,hp2,hb2⟩;have H2:=Aa (aK (H1.out.1.trans (hb2.mono H1.out.1.size)) (aK hp2 hb2));have d0:=(HPS.out w2 H2.out.1).1;clear hp2 hb2)
  |(at_builtin;refine Am (P:=prog) rfl (.tmp 45) (.tmp 49) 62 rfl n0 105 i0 _ 2 16 underlying62 hi0 hz0 hz1 hz2 rfl (by decide) (.slice pa ln pcap) ln (L.flatMap Scr.cells) rfl ((HPS.out w2 H2.out.1).2.1.alloc _) (.slice (some ⟨w2.heap.size,0,none⟩) 1 1) 1 [.pointer (some ⟨x,0,none⟩),.pointer (some ⟨x2,0,none⟩)] rfl rfl (.inr ⟨_,_,rfl,bI (cs:=#[.pointer (some ⟨x,0,none⟩),.pointer (some ⟨x2,0,none⟩)]) (t:=105) (fr:=(0,0)) (aR w2 _)⟩) (by simp[Value.oneCell']) (by unfold maxLen;omega) (by omega) (by have:=(HPS.out w2 H2.out.1).2.2;simp;omega) ?_;intro v6 w6 r6 g6 _ _;obtain⟨va6,vc6,hv6⟩:=Al r6;subst hv6;obtain⟨⟨q0,hq0⟩,hfz0⟩:=HPB.out _ _ (H2.out.1.alloc H2.out.1.size _) g6;have HR6:=Aa (aK r6 g6);clear r6 g6))
 try go_ret
 exact HE.out w1 w2 _ w6 _ x x2 H1.out.2.2 H1.out.2.1 H2.out.2.2 H2.out.2.1 (al1 (aO _) _) HR6.out.2 HR6.out.1
theorem Sn(h:Inv n0 w pb n K ps L)(hL:L.length<=1000000000000)(k a b c:Int)(y:Bool)(r:R4)(lv mv pv:Value):
  Calls prog 46 #[.pointer (some ⟨pb,0,none⟩),.agg (Au 1 k a b c y r lv mv pv)] w (A8 n0 pb n L L.length w):=by
 by_cases h1:a<1\/24<a\/b<1\/24<b
 ·exact Nm h k a b c y r lv mv pv 5 (fun W=>Sm a b c W h1) fun W=>Qk a b c W h1
 ·by_cases h2:c<1\/3<c
  ·exact Nm h k a b c y r lv mv pv 10 (fun W=>UF a b c W (by omega) (by omega) h2) fun W=>RT a b c W (by omega) (by omega) h2
  ·exact Calls.mono (Nn h hL k a b c y r lv mv pv (by omega) (by omega) (by omega)) fun e w' q=>q.weak (cT _)
theorem QN{lo:Nat}(k a b c:Int)(y:Bool)(r:R4)(lv mv pv:Value)
  (hC:∀W,Below w.heap.size w W->Calls prog 46 #[.pointer (some ⟨pb,0,none⟩),.agg (Au 1 k a b c y r lv mv pv)] W (A8 n0 pb n L lo W)):
  Calls prog 24 #[.pointer (some ⟨pb,0,none⟩),.agg (Au 1 k a b c y r lv mv pv)] w (A8 n0 pb n L lo w):=by
 have HC:Hid (∀W,Below w.heap.size w W->Calls prog 46 #[.pointer (some ⟨pb,0,none⟩),.agg (Au 1 k a b c y r lv mv pv)] W fun e w'=>e=.returned (.bool true)/\Hid (A8 n0 pb n L lo w (.returned (.bool true)) w')):=fun W hW=>(hC W hW).mono fun e w' hh=>by
  have:=hh.1;subst this;exact⟨rfl,hh.before hW⟩
 clear hC;unfold Au at*;go_enter func24,ntmps24
 go_wp2_with(go_at_call 46;refine(HC.out _ (al1 (aO _) _)).mono ?_;rintro e w' ⟨rfl,HH⟩)
 go_ret;exact HH.out
theorem Wy(L:List Scr):∀(j:Nat) (s:Scr),L[j]?=some s->(L.flatMap Scr.cells)[j*2]?=some (.pointer (some ⟨s.x,0,none⟩))/\(L.flatMap Scr.cells)[j*2+1]?=some (.pointer (some ⟨s.c,0,none⟩)):=by
 induction L with
 |nil=>intro j s hj;simp at hj
 |cons a L ih=>
  intro j s hj;rw[ce];cases j with
  |zero=>
   simp at hj;subst hj;exact⟨rfl,rfl⟩
  |succ j=>
   simp at hj;have:=ih j s hj;have hl:a.cells.length=2:=rfl;refine⟨?_,?_⟩
   ·rw[bO (by rw[hl];omega),hl,show(j+1)*2-2=j*2 by omega];exact this.1
   ·rw[bO (by rw[hl];omega),hl,show(j+1)*2+1-2=j*2+1 by omega];exact this.2
theorem XU{K:Nat->Prop}{ps:Value}(h:Inv n0 w pb n K ps L)(hL0:0<L.length){T:Nat}(hF:ZS n T L)(kd k a b c:Int)(hk64: -9223372036854775808<=k/\k<=9223372036854775807)(y:Bool)(r:R4)(lv mv pv:Value)(l:List R4)(hp:Nj n0 w pv l)(ll:List R4)(hl:Nk n0 w lv ll)
  (hk:2<=kd/\kd<=14) (hon:CW kd):
  Calls prog 24 #[.pointer (some ⟨pb,0,none⟩),.agg (Au kd k a b c y r lv mv pv)] w (A8 n0 pb n L L.length w):=by
 have hL:=hF.len;obtain⟨pg,pcap,hpf,hpbase,hpg⟩:=World.ownsRow.form h.row hL0;have hcap:=A7 (by have h9:=h.row;rw[hpf]at h9;exact h9);have HO:Hid (∀(W:World) (j:Nat) (s:Scr),Below w.heap.size w W->L[j]?=some s->Calls prog 49 #[.pointer (some ⟨pb,0,none⟩),.agg #[.pointer (some ⟨s.x,0,none⟩),.pointer (some ⟨s.c,0,none⟩)],.agg (Au kd k a b c y r lv mv pv)] W fun e w'=>e=.returned (.bool true)/\Hid (At n0 pb n ps L W (.returned (.bool true)) w')):=fun W j s hW hj=>(hon _ _ _ _ _ _ _ (h.below hW) _ hF _ _ hj k a b c y r lv mv pv l (hp.only (Ac.below hW)) ll (hl.only (Ac.below hW))).mono fun e w' hh=>by
  have:=hh.1;subst this;exact⟨rfl,hh⟩
 have HPk:Hid (∀W:World,Calls prog 50 #[.int .i64 k,.int .i64 (L.length:Nat)] W fun e w'=>(∃q:Nat,q<L.length/\e=.returned (.int .i64 q))/\w'=W):=fun W=>UG k L.length hL0 (by omega) hk64 W;obtain⟨pc,av,bv,cv,xa,xb,xc,hbk⟩:=h.play;have hpl:=Ab hbk.blk;have hc0:w.cell? ⟨pb,0,none⟩=some ps:=(aP w pb 0 pc _ _ hbk.blk).trans hbk.p0;obtain⟨X,hX⟩:∃X:Nat->Nat,X=fun j=>(L[j]?.map Scr.x).getD 0:=⟨_,rfl⟩;obtain⟨Y,hY⟩:∃Y:Nat->Nat,Y=fun j=>(L[j]?.map Scr.c).getD 0:=⟨_,rfl⟩;have hXY:∀j,j<L.length->∃s,L[j]?=some s/\s.x=X j/\s.c=Y j:=fun j hj=>⟨L[j],aU hj,by rw[hX];simp[aU hj],by rw[hY];simp[aU hj]⟩;clear hX hY;have hpr:∀j,j<L.length->w.cell? ⟨pg,j*2,none⟩=some (.pointer (some ⟨X j,0,none⟩))/\w.cell? ⟨pg,j*2+1,none⟩=some (.pointer (some ⟨Y j,0,none⟩)):=fun j hj=>by
  obtain⟨s,h1,h2,h3⟩:=hXY j hj;obtain⟨c1,c2⟩:=Wy L j s h1;have cs:=cj h.row (g:=pg) (by rw[hpf];rfl);have d1:=cs _ _ c1;have d2:=cs _ _ c2;rw[Bn]at d1 d2;rw[<-h2,<-h3];exact⟨d1,d2⟩
 have hpt:=Ap h.row (k:=pg) (by rw[hpf];rfl);have HI:=Aa h;clear hp hl hk64 hbk;subst hpf;obtain⟨ln,hln⟩:∃ln,L.length=ln:=⟨_,rfl⟩;rw[hln]at HPk hXY hpr hcap hL0 hL;have HE:Hid (∀W w':World,Below w.heap.size w W->At n0 pb n (.slice (some ⟨pg,0,none⟩) L.length pcap) L W (.returned (.bool true)) w'->A8 n0 pb n L L.length w (.returned (.bool true)) w'):=fun W w' hb hh=>A8.before hb hh.any;have HS:Hid (∀W:World,(W.cell? ⟨pb,0,none⟩=some (.slice (some ⟨pg,0,none⟩) L.length pcap)/\W.heap[pg]?=w.heap[pg]?/\W.heap[w.heap.size]?=some (.cells #[.int .i64 kd,.int .i64 k,.int .i64 a,.int .i64 b,.int .i64 c,.bool y,.int .i64 r.1,.int .i64 r.2.1,.int .i64 r.2.2.1,.int .i64 r.2.2.2,lv,mv,pv] 72 (0,0)))->W.cell? ⟨pb,0,none⟩=some (.slice (some ⟨pg,0,none⟩) ln pcap)/\(∀j,j<ln->W.cell? ⟨pg,j*2,none⟩=some (.pointer (some ⟨X j,0,none⟩)))/\(∀j,j<ln->W.cell? ⟨pg,j*2+1,none⟩=some (.pointer (some ⟨Y j,0,none⟩)))/\W.cell? ⟨w.heap.size,0,none⟩=some (.int .i64 kd)/\W.cell? ⟨w.heap.size,1,none⟩=some (.int .i64 k)/\W.cell? ⟨w.heap.size,2,none⟩=some (.int .i64 a)/\W.cell? ⟨w.heap.size,3,none⟩=some (.int .i64 b)/\W.cell? ⟨w.heap.size,4,none⟩=some (.int .i64 c)/\W.cell? ⟨w.heap.size,5,none⟩=some (.bool y)/\W.cell? ⟨w.heap.size,6,none⟩=some (.int .i64 r.1)/\W.cell? ⟨w.heap.size,7,none⟩=some (.int .i64 r.2.1)/\W.cell? ⟨w.heap.size,8,none⟩=some (.int .i64 r.2.2.1)/\W.cell? ⟨w.heap.size,9,none⟩=some (.int .i64 r.2.2.2)/\W.cell? ⟨w.heap.size,10,none⟩=some lv/\W.cell? ⟨w.heap.size,11,none⟩=some mv/\W.cell? ⟨w.heap.size,12,none⟩=some pv):=fun W ⟨h1,h2,h3⟩=>by
  have e:=fun j=>aP W w.heap.size j _ _ _ h3;have e0:=e 0;have e1:=e 1;have e2:=e 2;have e3:=e 3;have e4:=e 4;have e5:=e 5;have e6:=e 6;have e7:=e 7;have e8:=e 8;have e9:=e 9;have e10:=e 10;have e11:=e 11;have e12:=e 12;simp only[br,bj,bt]at e0 e1 e2 e3 e4 e5 e6 e7 e8 e9 e10 e11 e12;rw[hln]at h1;exact⟨h1,fun j hj=>(aV h2).trans (hpr j hj).1,fun j hj=>(aV h2).trans (hpr j hj).2,e0,e1,e2,e3,e4,e5,e6,e7,e8,e9,e10,e11,e12⟩
 have HS1:Hid (∀W:World,Below (w.heap.size+1) (w.alloc (.cells #[.int .i64 kd,.int .i64 k,.int .i64 a,.int .i64 b,.int .i64 c,.bool y,.int .i64 r.1,.int .i64 r.2.1,.int .i64 r.2.2.1,.int .i64 r.2.2.2,lv,mv,pv] 72 (0,0))) W->W.cell? ⟨pb,0,none⟩=some (.slice (some ⟨pg,0,none⟩) ln pcap)/\(∀j,j<ln->W.cell? ⟨pg,j*2,none⟩=some (.pointer (some ⟨X j,0,none⟩)))/\(∀j,j<ln->W.cell? ⟨pg,j*2+1,none⟩=some (.pointer (some ⟨Y j,0,none⟩)))/\W.cell? ⟨w.heap.size,0,none⟩=some (.int .i64 kd)/\W.cell? ⟨w.heap.size,1,none⟩=some (.int .i64 k)/\W.cell? ⟨w.heap.size,2,none⟩=some (.int .i64 a)/\W.cell? ⟨w.heap.size,3,none⟩=some (.int .i64 b)/\W.cell? ⟨w.heap.size,4,none⟩=some (.int .i64 c)/\W.cell? ⟨w.heap.size,5,none⟩=some (.bool y)/\W.cell? ⟨w.heap.size,6,none⟩=some (.int .i64 r.1)/\W.cell? ⟨w.heap.size,7,none⟩=some (.int .i64 r.2.1)/\W.cell? ⟨w.heap.size,8,none⟩=some (.int .i64 r.2.2.1)/\W.cell? ⟨w.heap.size,9,none⟩=some (.int .i64 r.2.2.2)/\W.cell? ⟨w.heap.size,10,none⟩=some lv/\W.cell? ⟨w.heap.size,11,none⟩=some mv/\W.cell? ⟨w.heap.size,12,none⟩=some pv):=fun W hb=>by
  have hb0:Below w.heap.size w W:=(al1 (aO _) (.cells #[.int .i64 kd,.int .i64 k,.int .i64 a,.int .i64 b,.int .i64 c,.bool y,.int .i64 r.1,.int .i64 r.2.1,.int .i64 r.2.2.1,.int .i64 r.2.2.2,lv,mv,pv] 72 (0,0))).trans (hb.mono (by omega));exact HS.out W ⟨(hb0.cell (p:=⟨pb,0,none⟩) hpl).trans hc0,hb0.block pg hpg,(hb.block w.heap.size (by omega)).trans (aR w _)⟩
 have HS2:Hid (∀W W':World,Below (w.heap.size+1) (w.alloc (.cells #[.int .i64 kd,.int .i64 k,.int .i64 a,.int .i64 b,.int .i64 c,.bool y,.int .i64 r.1,.int .i64 r.2.1,.int .i64 r.2.2.1,.int .i64 r.2.2.2,lv,mv,pv] 72 (0,0))) W->At n0 pb n (.slice (some ⟨pg,0,none⟩) L.length pcap) L W (.returned (.bool true)) W'->W'.cell? ⟨pb,0,none⟩=some (.slice (some ⟨pg,0,none⟩) ln pcap)/\(∀j,j<ln->W'.cell? ⟨pg,j*2,none⟩=some (.pointer (some ⟨X j,0,none⟩)))/\(∀j,j<ln->W'.cell? ⟨pg,j*2+1,none⟩=some (.pointer (some ⟨Y j,0,none⟩)))/\W'.cell? ⟨w.heap.size,0,none⟩=some (.int .i64 kd)/\W'.cell? ⟨w.heap.size,1,none⟩=some (.int .i64 k)/\W'.cell? ⟨w.heap.size,2,none⟩=some (.int .i64 a)/\W'.cell? ⟨w.heap.size,3,none⟩=some (.int .i64 b)/\W'.cell? ⟨w.heap.size,4,none⟩=some (.int .i64 c)/\W'.cell? ⟨w.heap.size,5,none⟩=some (.bool y)/\W'.cell? ⟨w.heap.size,6,none⟩=some (.int .i64 r.1)/\W'.cell? ⟨w.heap.size,7,none⟩=some (.int .i64 r.2.1)/\W'.cell? ⟨w.heap.size,8,none⟩=some (.int .i64 r.2.2.1)/\W'.cell? ⟨w.heap.size,9,none⟩=some (.int .i64 r.2.2.2)/\W'.cell? ⟨w.heap.size,10,none⟩=some lv/\W'.cell? ⟨w.heap.size,11,none⟩=some mv/\W'.cell? ⟨w.heap.size,12,none⟩=some pv):=fun W W' hb hh=>by
  have hb0:Below w.heap.size w W:=(al1 (aO _) (.cells #[.int .i64 kd,.int .i64 k,.int .i64 a,.int .i64 b,.int .i64 c,.bool y,.int .i64 r.1,.int .i64 r.2.1,.int .i64 r.2.2.1,.int .i64 r.2.2.2,lv,mv,pv] 72 (0,0))).trans (hb.mono (by omega));obtain⟨_,⟨L',N',K',q1,_,q2,_⟩,q3,_⟩:=hh;obtain⟨pc',_,_,_,_,_,_,hbk'⟩:=q2.play;obtain⟨cur,hcur⟩:=hpt;refine HS.out W' ⟨(aP W' pb 0 pc' _ _ hbk'.blk).trans hbk'.p0,?_,?_⟩
  ·rw[q3 pg cur _ (.inr rfl) ((hb0.block pg hpg).trans hcur),hb0.block pg hpg]
  ·have e:=(hb.block w.heap.size (by omega)).trans (aR w _);rw[q3 w.heap.size _ _ (.inl rfl) e,e]
 have HO2:Hid (∀(W:World) (j:Nat),Below w.heap.size w W->j<ln->Calls prog 49 #[.pointer (some ⟨pb,0,none⟩),.agg #[.pointer (some ⟨X j,0,none⟩),.pointer (some ⟨Y j,0,none⟩)],.agg #[.int .i64 kd,.int .i64 k,.int .i64 a,.int .i64 b,.int .i64 c,.bool y,.int .i64 r.1,.int .i64 r.2.1,.int .i64 r.2.2.1,.int .i64 r.2.2.2,lv,mv,pv]] W fun e w'=>e=.returned (.bool true)/\Hid (At n0 pb n (.slice (some ⟨pg,0,none⟩) L.length pcap) L W (.returned (.bool true)) w')):=fun W j hW hj=>by
  obtain⟨s,h1,h2,h3⟩:=hXY j hj;rw[<-h2,<-h3];exact HO.out W j s hW h1
 obtain⟨post,hpost⟩:∃P,P=A8 n0 pb n L L.length w:=⟨_,rfl⟩;rw[<-hpost]at HE ⊢;have hc0':=hc0;rw[hln]at hc0';have k1:¬kd=1:=by omega
 have k15:¬kd=15:=by omega
 have k16:¬kd=16:=by omega
 have k2:¬kd<2:=by omega
 have k14:¬14<kd:=by omega
 have l0:¬(ln:Int)=0:=by omega
 have l1:¬ln=0:=by omega
 have hpw:¬pb=w.heap.size:=by omega
 have hgw:¬pg=w.heap.size:=by omega
 unfold Au;clear hpost h HO hk hon hXY hpr hpt HI HS hc0 hF hL;go_enter func24,ntmps24
 go_upto_region 10 with fail
 have HB0:Hid (Below w.heap.size w (w.alloc (.cells #[.int .i64 kd,.int .i64 k,.int .i64 a,.int .i64 b,.int .i64 c,.bool y,.int .i64 r.1,.int .i64 r.2.1,.int .i64 r.2.2.1,.int .i64 r.2.2.2,lv,mv,pv] 72 (0,0)))):=al1 (aO _) _;generalize (w.alloc (.cells #[.int .i64 kd,.int .i64 k,.int .i64 a,.int .i64 b,.int .i64 c,.bool y,.int .i64 r.1,.int .i64 r.2.1,.int .i64 r.2.2.1,.int .i64 r.2.2.2,lv,mv,pv] 72 (0,0)))=W0 at*
 go_region_held3 (fun w'=>w'.cell? ⟨pb,0,none⟩=some (.slice (some ⟨pg,0,none⟩) ln pcap)/\(∀j,j<ln->w'.cell? ⟨pg,j*2,none⟩=some (.pointer (some ⟨X j,0,none⟩)))/\(∀j,j<ln->w'.cell? ⟨pg,j*2+1,none⟩=some (.pointer (some ⟨Y j,0,none⟩)))/\w'.cell? ⟨w.heap.size,0,none⟩=some (.int .i64 kd)/\w'.cell? ⟨w.heap.size,1,none⟩=some (.int .i64 k)/\w'.cell? ⟨w.heap.size,2,none⟩=some (.int .i64 a)/\w'.cell? ⟨w.heap.size,3,none⟩=some (.int .i64 b)/\w'.cell? ⟨w.heap.size,4,none⟩=some (.int .i64 c)/\w'.cell? ⟨w.heap.size,5,none⟩=some (.bool y)/\w'.cell? ⟨w.heap.size,6,none⟩=some (.int .i64 r.1)/\w'.cell? ⟨w.heap.size,7,none⟩=some (.int .i64 r.2.1)/\w'.cell? ⟨w.heap.size,8,none⟩=some (.int .i64 r.2.2.1)/\w'.cell? ⟨w.heap.size,9,none⟩=some (.int .i64 r.2.2.2)/\w'.cell? ⟨w.heap.size,10,none⟩=some lv/\w'.cell? ⟨w.heap.size,11,none⟩=some mv/\w'.cell? ⟨w.heap.size,12,none⟩=some pv)
  (first
   |with_reducible exact HS1.out _ (aN _ _)
   |with_reducible exact HS1.out _ (aN _ _).drew
   |with_reducible exact HS2.out _ _ (aN _ _).drew HH.out
   |fail)
  (first
   |(go_at_call 50;refine(HPk.out _).mono ?_;rintro e w2 ⟨⟨q,hq,rfl⟩,rfl⟩;have hq1:(q:Int)<(ln:Int):=(by omega);have hq0:(0:Int)<=(q:Int):=(by omega);have hqc:q<pcap:=(by omega))
   |(go_at_call 49;refine(HO2.out _ q HB0.out.drew hq).mono ?_;rintro e w5 ⟨rfl,HH⟩)
   |fail)
 all_goals go_wp2_with fail
 all_goals(try go_ret)
 all_goals exact HE.out _ _ HB0.out.drew HH.out
variable{wr:World}
structure OpD where
 kd:Int
 k:Int
 a:Int
 b:Int
 c:Int
 y:Bool
 r:R4
 lv:Value
 mv:Value
 pv:Value
 l:List R4
 ll:List R4
 ml:List R4
def OpD.cells(d:OpD):Array Value:=Au d.kd d.k d.a d.b d.c d.y d.r d.lv d.mv d.pv
structure Hs(w:World)(v:Value)(l:List R4):Prop where
 at':As w v l
 form:(v=.slice none 0 0/\l=[])\/∃ad c,v=.slice (some ad) l.length c
 fit:l.length*32<=140737488351232
 low:∀b off c,v=.slice (some ⟨b,off,none⟩) l.length c->0<l.length->b<w.heap.size
structure GK(w:World)(d:OpD):Prop where
 k64: -9223372036854775808<=d.k/\d.k<=9223372036854775807
 pix:Bb w d.pv d.l
 form:(d.pv=.slice none 0 0/\d.l=[])\/∃ad c,d.pv=.slice (some ad) d.l.length c
 fit:d.l.length*4<=140737488351232
 byte:MZ d.l
 rl:Hs w d.lv d.ll
 rm:Hs w d.mv d.ml
structure Ht(w:World)(v:Value)(D:List OpD):Prop where
 form:∃a c,v=.slice a D.length c
 cells:∀a c,v=.slice a D.length c->∀i (hi:i<D.length),D.length<=c/\∃b off,a=some ⟨b,off,none⟩/\b<w.heap.size/\∀o u,D[i].cells[o]?=some u->w.cell? ⟨b,off+i*13+o,none⟩=some u
 ok:∀d∈D,GK w d
def JM(w:World)(pb:Nat):Prop:=∃na nb nc,Ei w pb 1 na 4 zA/\Ei w pb (1+1) nb 4 zB/\Ei w pb (1+2) nc 9 zV/\na<=1000000000000/\nb<=1000000000000/\nc<=1000000000000
theorem Inv.whole{n0:Nat}{pb:Nat}(h:Inv n0 w pb n K ps L)(hn:n.a<=1000000000000/\n.b<=1000000000000/\n.v<=1000000000000):JM w pb:=by
 obtain⟨pc,av,bv,cv,xa,xb,xc,hbk⟩:=h.play;exact⟨n.a,n.b,n.v,hbk.ca.cells hbk.blk hbk.p1,hbk.cb.cells hbk.blk hbk.p2,hbk.cc.cells hbk.blk hbk.p3,hn.1,hn.2.1,hn.2.2⟩
structure Dh(w:World)(wr:World)(i:Nat):Prop where
 inv:∃ps L n K,Inv w.heap.size wr w.heap.size n K ps L/\0<L.length/\L.length<=i+1/\(n.a<=i+1/\n.b<=i+1/\n.v<=i+1)/\Eb (i+1) L
 bel:Below w.heap.size w wr
theorem Dh.below{wr':World}(h:Dh w wr i)(hb:Below wr.heap.size wr wr'):Dh w wr' i:=
 ⟨(let ⟨ps,L,n,K,a,b⟩:=h.inv;⟨ps,L,n,K,a.below hb,b⟩),h.bel.trans (hb.mono h.bel.size)⟩
theorem Dh.next(h:Dh w wr i):Dh w wr (i+1):=
 ⟨(let ⟨ps,L,n,K,a,b,c,d,e⟩:=h.inv;⟨ps,L,n,K,a,b,Nat.le_succ_of_le c,⟨Nat.le_succ_of_le d.1,Nat.le_succ_of_le d.2.1,Nat.le_succ_of_le d.2.2⟩,fun s hs=>Nat.le_succ_of_le (e s hs)⟩),h.bel⟩
theorem Dh.drewN(h:Dh w wr i)(n:Nat):Dh w (wr.drewN n) i:=h.below ⟨rfl,rfl,rfl,aO _,fun _ _=>rfl⟩
theorem Inv.start(w:World):Inv w.heap.size (w.alloc (.cells #[.slice none 0 0,.slice none 0 0,.slice none 0 0,.slice none 0 0] 69)) w.heap.size ⟨0,0,0⟩ (fun _=>False) (.slice none 0 0) []:=
 ⟨⟨_,.slice none 0 0,.slice none 0 0,.slice none 0 0,[],[],[],⟨aR w _,rfl,rfl,rfl,rfl,LJ.nil _ _,I7.nil _ _,LK.nil _ _,fun g hg=>by simp[Value.ownBlock]at hg,fun g hg=>by simp[Value.ownBlock]at hg,fun g hg=>by simp[Value.ownBlock]at hg⟩⟩,aO _,bA _ _ _ _,fun s hs=>(by cases hs),fun i j s t hi=>(by simp at hi),fun g hg=>hg.elim,fun s hs=>(by cases hs)⟩
def LQ(w:World)(i:Nat)(e:Ending)(w':World):Prop:=e=.returned (.bool true)/\Dh w w' (i+1)/\JM w' w.heap.size
theorem Dh.fin(h:Dh w wr i)(hi:i<=926000000000)(hI:Inv w.heap.size wr w.heap.size n K ps L)(h1:0<L.length)(h2:L.length<=i+1)(h3:n.a<=i+1/\n.b<=i+1/\n.v<=i+1)(h4:Eb (i+1) L)(e:Ending)(w':World)(q:A8 w.heap.size w.heap.size n L L.length wr e w'):LQ w i e w':=by
 obtain⟨q1,⟨ps',L',n',K',q2,q3,⟨k1,k2,k3⟩,q5,q7⟩,_,q6⟩:=q;exact⟨q1,⟨⟨ps',L',n',K',q5,by omega,by omega,⟨by omega,by omega,by omega⟩,q7 _ h4⟩,h.bel.trans (q6.to_below (fun g hg=>hg) hI.size)⟩,q5.whole ⟨by omega,by omega,by omega⟩⟩
theorem Hs.op{v:Value}{l:List R4}(h:Hs w v l)(hb:Below w.heap.size w wr)(hs:w.heap.size<=wr.heap.size):Nk w.heap.size wr v l:=
 ⟨fun _ hW'=>h.at'.below (hb.trans (hW'.to_below (fun _ hg=>hg) hs)),h.form,h.fit,h.low⟩
theorem No(h:Dh w wr i)(hi:i<=926000000000)(d:OpD)(hd:GK w d)(hk:d.kd=1\/(2<=d.kd/\d.kd<=14/\CW d.kd)):
  Calls prog 24 #[.pointer (some ⟨w.heap.size,0,none⟩),.agg d.cells] wr (LQ w i):=by
 obtain⟨ps,L,n,K,hI,h1,h2,h3,h4⟩:=h.inv;have fin:=h.fin hi hI h1 h2 h3 h4;rcases hk with e1|⟨e1,e2,e3⟩
 ·unfold OpD.cells;rw[e1];refine Calls.mono (QN d.k d.a d.b d.c d.y d.r d.lv d.mv d.pv fun W hW=>?_) fin;exact Sn (hI.below hW) (by omega) d.k d.a d.b d.c d.y d.r d.lv d.mv d.pv
 ·have hp:Nj w.heap.size wr d.pv d.l:=⟨fun W' hW'=>hd.pix.below (h.bel.trans (hW'.to_below (fun g hg=>hg) hI.size)),hd.form,hd.fit,hd.byte⟩;exact Calls.mono (XU hI h1 ⟨by omega,by omega,by omega,h4,by omega,by omega⟩ d.kd d.k d.a d.b d.c hd.k64 d.y d.r d.lv d.mv d.pv d.l hp d.ll (hd.rl.op h.bel hI.size) ⟨e1,e2⟩ e3) fin
theorem So(hb:Below (w.heap.size+1) (w.alloc (.cells #[.slice none 0 0,.slice none 0 0,.slice none 0 0,.slice none 0 0] 69)) wr):
  Calls prog 24 #[.pointer (some ⟨w.heap.size,0,none⟩),.agg (Au 1 0 6 5 2 false (0,0,0,0) (.slice none 0 0) (.slice none 0 0) (.slice none 0 0))] wr fun e w'=>e=.returned (.bool true)/\Dh w w' 0:=by
 have hI:Inv w.heap.size wr w.heap.size ⟨0,0,0⟩ (fun _=>False) (.slice none 0 0) []:=(Inv.start w).below (by simpa using hb);have hbw:Below w.heap.size w wr:=(al1 (aO _) _).trans (hb.mono (by omega));refine Calls.mono (QN (n0:=w.heap.size) (n:=⟨0,0,0⟩) (L:=[]) (lo:=1) 0 6 5 2 false (0,0,0,0) (.slice none 0 0) (.slice none 0 0) (.slice none 0 0) fun W hW=>?_) fun e w' ⟨q1,⟨ps',L',n',K',q2,q3,⟨k1,k2,k3⟩,q5,q7⟩,_,q6⟩=>?_
 ·exact Nn (hI.below hW) (by simp) 0 6 5 2 false (0,0,0,0) (.slice none 0 0) (.slice none 0 0) (.slice none 0 0) (by omega) (by omega) (by omega)
 ·exact⟨q1,⟨ps',L',n',K',q5,by omega,by simpa using q3,⟨k1,k2,k3⟩,q7 0 fun s hs=>by cases hs⟩,hbw.trans (q6.to_below (fun g hg=>hg) hI.size)⟩
def QO(ks:List Int)(kd:Int)(j:Nat):Bool:=decide (kd∈ks.take j)
theorem UH(ks:List Int)(kd:Int)(j:Nat)(hj:j<ks.length):QO ks kd (j+1)=(QO ks kd j||decide (kd=ks[j])):=by
 unfold QO;rw[bn hj,Bool.eq_iff_iff];simp only[Bool.or_eq_true,bT,bV,List.mem_singleton]
theorem WA(ks:List Int)(kd:Int)(h:QO ks kd ks.length=true):kd∈ks:=by
 unfold QO at h;rw[List.take_length]at h;exact ck h
theorem Np(D:List OpD)(v:Value)(kb:Nat)(w:World)(h:Ht w v D)(hD:D.length<=926000000000)(hkb:kb<w.heap.size)(ks:List Int)(nk:Nat)(hnk:ks.length=nk)(hnk2:nk<=1000)(hks:∀j (hj:j<ks.length),w.cell? ⟨kb,j,none⟩=some (.int .i64 (ks[j]'hj)))
  (hstep:∀(wr:World) (i:Nat) (d:OpD),Dh w wr i->i<=926000000000->GK w d->d.kd∈ks->Calls prog 24 #[.pointer (some ⟨w.heap.size,0,none⟩),.agg d.cells] wr (LQ w i)):
  Calls prog 11 #[v,.slice (some ⟨kb,0,none⟩) nk nk] w fun e w'=>e=.returned (.bool true)/\Below w.heap.size w w':=by
 obtain⟨sa,sc,hvf⟩:=h.form;have hcs:=h.cells sa sc hvf;have HF:=Aa (fun(wr:World) (hb:Below (w.heap.size+1) (w.alloc (.cells #[.slice none 0 0,.slice none 0 0,.slice none 0 0,.slice none 0 0] 69)) wr)=>So hb);have HSt:Hid (∀(wr:World) (i:Nat) (hi:i<D.length),Dh w wr i->D[i].kd∈ks->Calls prog 24 #[.pointer (some ⟨w.heap.size,0,none⟩),.agg D[i].cells] wr fun e w'=>e=.returned (.bool true)/\Dh w w' (i+1)/\JM w' w.heap.size):=fun wr i hi hp hk=>hstep wr i D[i] hp (by omega) (h.ok _ (aZ hi)) hk;have HW:Hid (∀(wr:World),JM wr w.heap.size->Calls prog 25 #[.pointer (some ⟨w.heap.size,1,none⟩)] wr fun e w'=>e=.returned (.bool true)/\Below wr.heap.size wr w'):=fun wr ⟨na,nb,nc,q1,q2,q3,q4,q5,q6⟩=>Sg wr q1 q2 q3 q4 q5 q6;subst hvf;obtain⟨m,hm⟩:∃m,D.length=m:=⟨_,rfl⟩;have HKs:=Aa hks;have HCs:=Aa hcs;rw[hm]at hD ⊢;clear h hcs hks hstep;unfold Au at HF;go_enter func11,ntmps11
 go_wp2_with(go_at_call 24;refine(HF.out _ (aN _ _)).mono ?_;rintro e w1 ⟨rfl,hp1⟩;have HP1:=Aa hp1;clear hp1)
 go_loopg [7] m (fun gg s7 wr=>∃i:Nat,s7=.int .i64 i/\gg+i=m/\Dh w wr i)
 case atStart=>exact⟨0,rfl,by omega,HP1.out⟩
 case round=>
  rename World=>wr;obtain⟨i,rfl,hgi,hPI⟩:=hrel;have HPI:=Aa hPI;clear hPI;cases gk with
  |zero=>
   have hlt:¬(i:Int)<(m:Int):=by omega
   go_wp2;go_ret;exact⟨rfl,HPI.out.bel⟩
  |succ gk=>
   have hlt:(i:Int)<(m:Int):=by omega
   have hi0:(0:Int)<=(i:Int):=by omega
   have him:i<D.length:=by omega
   obtain⟨hcap,b,off,hsa,hbl,hcl⟩:=HCs.out i him;subst hsa;have hcw:∀o u,D[i].cells[o]?=some u->wr.cell? ⟨b,off+i*13+o,none⟩=some u:=fun o u hu=>(HPI.out.bel.cell (p:=⟨b,off+i*13+o,none⟩) hbl).trans (hcl o u hu);have HS2:Hid (∀W:World,Dh w W i->D[i].kd∈ks->Calls prog 24 #[.pointer (some ⟨w.heap.size,0,none⟩),.agg D[i].cells] W fun e w'=>e=.returned (.bool true)/\Dh w w' (i+1)/\JM w' w.heap.size):=fun W hW hk=>HSt.out W i him hW hk;obtain⟨d,hd⟩:∃d,D[i]=d:=⟨_,rfl⟩;rw[hd]at HS2 hcw;have HCw:=Aa hcw;clear hcw hcl HSt HF HP1 hd;have c0:wr.cell? ⟨b,off+i*13,none⟩=some (.int .i64 d.kd):=HCw.out 0 _ rfl;have hic:i<sc:=by omega
   go_wp2_with fail
   go_loopg [8,9] nk (fun gg s8 s9 wi=>∃j nq:Nat,s9=.int .i64 j/\gg+j=nk/\s8=.bool (QO ks d.kd j)/\wi=wr.drewN nq)
   case atStart=>exact⟨0,0,rfl,by omega,rfl,rfl⟩
   case round=>
    rename World=>wi;rename Nat=>gj;obtain⟨j,nq,rfl,hgj,rfl,rfl⟩:=hrel;cases gj with
    |zero=>
     have hj10:j=nk:=by omega
     subst hj10;have hjn:¬(j:Int)<(j:Int):=by omega
     cases hk:QO ks d.kd j with
     |false=>
      go_wp2_with fail
      go_roundg gk
      case measure=>omega
      case rel=>exact⟨i+1,by go_num,by omega,(HPI.out.drewN nq).next⟩
     |true=>
      have HG:Hid (Calls prog 24 #[.pointer (some ⟨w.heap.size,0,none⟩),.agg #[.int .i64 d.kd,.int .i64 d.k,.int .i64 d.a,.int .i64 d.b,.int .i64 d.c,.bool d.y,.int .i64 d.r.1,.int .i64 d.r.2.1,.int .i64 d.r.2.2.1,.int .i64 d.r.2.2.2,d.lv,d.mv,d.pv]] (wr.drewN nq) fun e w'=>e=.returned (.bool true)/\Dh w w' (i+1)/\JM w' w.heap.size):=HS2.out _ (HPI.out.drewN nq) (WA _ _ (by rw[hnk];exact hk));have c1:wr.cell? ⟨b,off+i*13+1,none⟩=some (.int .i64 d.k):=HCw.out 1 _ rfl;have c2:wr.cell? ⟨b,off+i*13+2,none⟩=some (.int .i64 d.a):=HCw.out 2 _ rfl;have c3:wr.cell? ⟨b,off+i*13+3,none⟩=some (.int .i64 d.b):=HCw.out 3 _ rfl;have c4:wr.cell? ⟨b,off+i*13+4,none⟩=some (.int .i64 d.c):=HCw.out 4 _ rfl;have c5:wr.cell? ⟨b,off+i*13+5,none⟩=some (.bool d.y):=HCw.out 5 _ rfl;have c6:wr.cell? ⟨b,off+i*13+6,none⟩=some (.int .i64 d.r.1):=HCw.out 6 _ rfl;have c7:wr.cell? ⟨b,off+i*13+7,none⟩=some (.int .i64 d.r.2.1):=HCw.out 7 _ rfl;have c8:wr.cell? ⟨b,off+i*13+8,none⟩=some (.int .i64 d.r.2.2.1):=HCw.out 8 _ rfl;have c9:wr.cell? ⟨b,off+i*13+9,none⟩=some (.int .i64 d.r.2.2.2):=HCw.out 9 _ rfl;have c10:wr.cell? ⟨b,off+i*13+10,none⟩=some d.lv:=HCw.out 10 _ rfl;have c11:wr.cell? ⟨b,off+i*13+11,none⟩=some d.mv:=HCw.out 11 _ rfl;have c12:wr.cell? ⟨b,off+i*13+12,none⟩=some d.pv:=HCw.out 12 _ rfl
      go_wp2_with(first
       |(go_at_call 24;refine HG.out.mono ?_;rintro e w5 ⟨rfl,hp5,hb5⟩;have H5:=Aa hp5;have HB5:=Aa hb5;clear hp5 hb5)
       |(go_at_call 25;refine(HW.out _ HB5.out).mono ?_;rintro e w6 ⟨rfl,hb6⟩;have H6:=Aa (H5.out.below hb6);clear hb6)
       |fail)
      go_roundg gk
      case measure=>omega
      case rel=>exact⟨i+1,by go_num,by omega,H6.out⟩
    |succ gj=>
     have hj:j<ks.length:=by omega
     have hjk:j<nk:=by omega
     have hj1:(j:Int)<(nk:Int):=by omega
     have hj0:(0:Int)<=(j:Int):=by omega
     have hkc:wr.cell? ⟨kb,j,none⟩=some (.int .i64 (ks[j]'hj)):=(HPI.out.bel.cell (p:=⟨kb,j,none⟩) hkb).trans (HKs.out j hj);have hsucc:=UH ks d.kd j hj;obtain⟨kk,hkk⟩:∃kk,ks[j]'hj=kk:=⟨_,rfl⟩;rw[hkk]at hkc;have hkk':(ks[j]'hj)=kk:=hkk;cases hk:QO ks d.kd j with
     |true=>
      go_upto_region 12 with fail
      go_quiet (fail)
      go_wp2_with fail
      go_roundg gj
      case measure=>omega
      case rel=>exact⟨j+1,_,by go_num,by omega,by rw[hsucc,hk];rfl,by first|rfl|(simp;rfl)⟩
     |false=>
      go_upto_region 12 with fail
      go_quiet (fail)
      go_wp2_with fail
      go_roundg gj
      case measure=>omega
      case rel=>exact⟨j+1,_,by go_num,by omega,by rw[hsucc,hk,hkk',Bool.false_or];rfl,by first|rfl|(simp;rfl)⟩
variable{cs:List Value}{fuel:Nat}{x:Int}
theorem UI:prog.cellsOf 5=1:=by kernel_rfl
theorem UJ:prog.cellsOf 4=1:=by kernel_rfl
theorem Sp:prog.cellsOf 51=4:=by kernel_rfl
theorem Sq:prog.cellsOf 33=1:=by kernel_rfl
theorem QR:prog.cellsOf 44=1:=by kernel_rfl
theorem S5:prog.cellsOf 72=13:=by kernel_rfl
theorem Sr:prog.bytesOf 51=4:=by kernel_rfl
theorem LS:prog.bytesOf 53=32:=by kernel_rfl
theorem XV:prog.bytesOf 72=152:=by kernel_rfl
theorem GM{α:Type}(n:Nat)(Q:Nat->α->Prop)(h:∀i,i<n->∃r,Q i r):∃l:List α,l.length=n/\∀i (hi:i<l.length),Q i l[i]:=by
 induction n with
 |zero=>exact⟨[],rfl,fun i hi=>by simp at hi⟩
 |succ n ih=>
  obtain⟨l,hl,hq⟩:=ih fun i hi=>h i (by omega);obtain⟨r,hr⟩:=h n (by omega);refine⟨l++[r],by simp[hl],fun i hi=>?_⟩;by_cases e:i<l.length
  ·rw[List.getElem_append_left e];exact hq i e
  ·have:i=l.length:=by simp at hi;omega
   subst this;rw[List.getElem_append_right (by omega)];simp;rw[hl];exact hr
theorem WB(h:(Lit.int .u8 x).wf=true):0<=x:=(bounds_u8 h).1
theorem Zr(h:(Lit.int .u8 x).wf=true):x<=255:=(bounds_u8 h).2
theorem QS{H:Type}{enc:TypeId×Value->H}{x:DataW H×List MemPlace}
  (hf:DataW.trod enc prog W 0 (fun _=>true) true fuel 44 cs=some x):
  ∃(v:Value) (l:List R4),cs=[v]/\Bb W v l/\MZ l/\((v=.slice none 0 0/\l=[])\/((∃ad c,v=.slice (some ad) l.length c)/\∃el sp,x.1=.slice el sp/\el.length=l.length)):=by
 rcases open_slice underlying44 hf with⟨hcs,_⟩|⟨a,ln,cp,m,n,D,Pl,hcs,_,hl,hm,hmm,hd,hx⟩
 ·exact⟨_,[],hcs,⟨none,0,rfl,fun h=>by simp at h⟩,fun r hr=>(by cases hr),.inl ⟨rfl,rfl⟩⟩
 ·subst hcs;have hm':m=cp:=by simpa using hmm
  subst hm';obtain⟨b,off,spot⟩:=a;have each:∀i,i<ln->∃r:R4,(W.cell? ((⟨b,off,spot⟩:Addr).add (i*4))=some (.int .u8 r.1)/\W.cell? ((⟨b,off,spot⟩:Addr).add (i*4+1))=some (.int .u8 r.2.1)/\W.cell? ((⟨b,off,spot⟩:Addr).add (i*4+2))=some (.int .u8 r.2.2.1)/\W.cell? ((⟨b,off,spot⟩:Addr).add (i*4+3))=some (.int .u8 r.2.2.2)/\(0<=r.1/\0<=r.2.1/\0<=r.2.2.1/\r.2.2.2<=255)):=by
   intro i hi;obtain⟨cs',h1,h2⟩:=hx i (by omega);rw[Sp]at h1;obtain⟨_,hlen,hcell⟩:=World.cells?_some h1;obtain⟨xs,k,_,_,_,hxl,hg⟩:=DataW.trod_array underlying51 h2;have g0:=hg 0 (by omega);have g1:=hg 1 (by omega);have g2:=hg 2 (by omega);have g3:=hg 3 (by omega);rw[aU (by omega)]at g0 g1 g2 g3
   match cs',hlen with
   | [v0,v1,v2,v3],_=>
    simp[UI]at g0 g1 g2 g3;obtain⟨x0,e0,_,w0⟩:=DataW.trod_int underlying5 g0;obtain⟨x1,e1,_,w1⟩:=DataW.trod_int underlying5 g1;obtain⟨x2,e2,_,w2⟩:=DataW.trod_int underlying5 g2;obtain⟨x3,e3,_,w3⟩:=DataW.trod_int underlying5 g3;simp at e0 e1 e2 e3;subst e0 e1 e2 e3;have q0:=hcell 0 (by omega);have q1:=hcell 1 (by omega);have q2:=hcell 2 (by omega);have q3:=hcell 3 (by omega);rw[add_add]at q0 q1 q2 q3;exact⟨(x0,x1,x2,x3),⟨by simpa using q0,by simpa using q1,by simpa using q2,by simpa using q3,WB w0,WB w1,WB w2,Zr w3⟩⟩
  obtain⟨l,hll,hq⟩:=GM ln _ each;subst hll;refine⟨_,l,rfl,⟨_,m,rfl,fun hpos=>⟨hl,?_⟩⟩,fun r hr=>(by obtain⟨k,hk,rfl⟩:=List.mem_iff_getElem.1 hr;exact(hq k hk).2.2.2.2),.inr ⟨⟨_,m,rfl⟩,_,_,(Prod.ext_iff.1 hd).1,by simp⟩⟩;have hs:spot=none:=by
   have:=(hq 0 hpos).1;simpa[Addr.add]using World.cell?_spot this
  subst hs;refine⟨b,off,rfl,fun k hk=>?_⟩;obtain⟨a1,a2,a3,a4,_⟩:=hq k hk;rw[Jc]at a1 a2 a3 a4;exact⟨a1,a2,a3,a4⟩
theorem Nq{H:Type}{enc:TypeId×Value->H}{x:DataW H×List MemPlace}
  (hf:DataW.trod enc prog W 0 (fun _=>true) true fuel 33 cs=some x):
  ∃(v:Value) (l:List R4),cs=[v]/\As W v l/\((v=.slice none 0 0/\l=[])\/((∃ad c,v=.slice (some ad) l.length c)/\∃el sp,x.1=.slice el sp/\el.length=l.length)):=by
 rcases open_slice underlying33 hf with⟨hcs,_⟩|⟨a,ln,cp,m,n,D,Pl,hcs,_,hl,hm,hmm,hd,hx⟩
 ·exact⟨_,[],hcs,⟨none,0,rfl,fun h=>by simp at h⟩,.inl ⟨rfl,rfl⟩⟩
 ·subst hcs;have hm':m=cp:=by simpa using hmm
  subst hm';obtain⟨b,off,spot⟩:=a;have each:∀i,i<ln->∃r:R4,(W.cell? ((⟨b,off,spot⟩:Addr).add (i*4))=some (.int .i64 r.1)/\W.cell? ((⟨b,off,spot⟩:Addr).add (i*4+1))=some (.int .i64 r.2.1)/\W.cell? ((⟨b,off,spot⟩:Addr).add (i*4+2))=some (.int .i64 r.2.2.1)/\W.cell? ((⟨b,off,spot⟩:Addr).add (i*4+3))=some (.int .i64 r.2.2.2)):=by
   intro i hi;obtain⟨cs',h1,h2⟩:=hx i (by omega);rw[JN]at h1;obtain⟨_,hlen,hcell⟩:=World.cells?_some h1;obtain⟨y0,y1,y2,y3,k,_,_,g0,g1,g2,g3⟩:=Go.Joins.trod_struct4 underlying53 h2
   match cs',hlen with
   | [v0,v1,v2,v3],_=>
    simp[Jb]at g0 g1 g2 g3;obtain⟨x0,e0,_⟩:=DataW.trod_int underlying3 g0;obtain⟨x1,e1,_⟩:=DataW.trod_int underlying3 g1;obtain⟨x2,e2,_⟩:=DataW.trod_int underlying3 g2;obtain⟨x3,e3,_⟩:=DataW.trod_int underlying3 g3;simp at e0 e1 e2 e3;subst e0 e1 e2 e3;have q0:=hcell 0 (by omega);have q1:=hcell 1 (by omega);have q2:=hcell 2 (by omega);have q3:=hcell 3 (by omega);rw[add_add]at q0 q1 q2 q3;exact⟨(x0,x1,x2,x3),by simpa using q0,by simpa using q1,by simpa using q2,by simpa using q3⟩
  obtain⟨l,hll,hq⟩:=GM ln _ each;subst hll;refine⟨_,l,rfl,⟨_,m,rfl,fun hpos=>?_⟩,.inr ⟨⟨_,m,rfl⟩,_,_,(Prod.ext_iff.1 hd).1,by simp⟩⟩;have hs:spot=none:=by
   have:=(hq 0 hpos).1;simpa[Addr.add]using World.cell?_spot this
  subst hs;refine⟨b,off,rfl,fun k hk=>?_⟩;obtain⟨a1,a2,a3,a4⟩:=hq k hk;rw[Jc]at a1 a2 a3 a4;exact⟨a1,a2,a3,a4⟩
theorem Nr{l:List R4}(h:As W v l):∀b off c,v=.slice (some ⟨b,off,none⟩) l.length c->0<l.length->b<W.heap.size:=by
 obtain⟨a,c,hv,hc⟩:=h;intro b off c' hv' hl;obtain⟨b2,off2,ha,hcs⟩:=hc hl;rw[hv,ha]at hv';simp only[Value.slice.injEq,Option.some.injEq,Addr.mk.injEq,true_and,and_true]at hv';have:=Ak (hcs 0 hl).1;obtain⟨⟨e,_⟩,_⟩:=hv';rw[<-e];exact this
theorem Zs{α:Type}{cs:List α}(h:cs.length=13):∃c0 c1 c2 c3 c4 c5 c6 c7 c8 c9 c10 c11 c12,cs=[c0,c1,c2,c3,c4,c5,c6,c7,c8,c9,c10,c11,c12]:=by
 match cs,h with
 | [c0,c1,c2,c3,c4,c5,c6,c7,c8,c9,c10,c11,c12],_=>exact⟨_,_,_,_,_,_,_,_,_,_,_,_,_,rfl⟩
theorem XW{H:Type}{enc:TypeId×Value->H}{x:DataW H×List MemPlace}
  (hf:DataW.trod enc prog W 0 (fun _=>true) true fuel 72 cs=some x) (hs:∀n∈x.1.weights prog 72,n<=reachBytes):
  ∃d:OpD,cs=d.cells.toList/\GK W d:=by
 obtain⟨xs,n,_,rfl,hlen,hxl,hfs⟩:=DataW.trod_struct underlying72 hf;rw[S5]at hlen;obtain⟨c0,c1,c2,c3,c4,c5,c6,c7,c8,c9,c10,c11,c12,rfl⟩:=Zs hlen;have g0:=hfs 0 _ rfl;have g1:=hfs 1 _ rfl;have g2:=hfs 2 _ rfl;have g3:=hfs 3 _ rfl;have g4:=hfs 4 _ rfl;have g5:=hfs 5 _ rfl;have g6:=hfs 6 _ rfl;have g7:=hfs 7 _ rfl;have g8:=hfs 8 _ rfl;have g9:=hfs 9 _ rfl;have hxl':xs.length=10:=hxl;rw[aU (by omega)]at g0 g1 g2 g3 g4 g5 g6 g7 g8 g9;simp[Jb,UJ,JN,Sq,QR]at g0 g1 g2 g3 g4 g5 g6 g7 g8 g9;obtain⟨x0,e0,_,w0⟩:=DataW.trod_int underlying3 g0;obtain⟨x1,e1,_,w1⟩:=DataW.trod_int underlying3 g1;obtain⟨x2,e2,_,w2⟩:=DataW.trod_int underlying3 g2;obtain⟨x3,e3,_,w3⟩:=DataW.trod_int underlying3 g3;obtain⟨x4,e4,_,w4⟩:=DataW.trod_int underlying3 g4;obtain⟨x5,e5,_⟩:=DataW.trod_bool underlying4 g5;obtain⟨y0,y1,y2,y3,k,_,_,r0,r1,r2,r3⟩:=Go.Joins.trod_struct4 underlying53 g6;simp[Jb]at r0 r1 r2 r3;obtain⟨z0,f0,_⟩:=DataW.trod_int underlying3 r0;obtain⟨z1,f1,_⟩:=DataW.trod_int underlying3 r1;obtain⟨z2,f2,_⟩:=DataW.trod_int underlying3 r2;obtain⟨z3,f3,_⟩:=DataW.trod_int underlying3 r3;obtain⟨lv,ll,e7,hpl,hforml⟩:=Nq g7;obtain⟨mv,ml,e8,hpm,hformm⟩:=Nq g8;obtain⟨pv,l,e9,hp,hby,hform⟩:=QS g9;simp at e0 e1 e2 e3 e4 e5 f0 f1 f2 f3 e7 e8 e9;subst e0 e1 e2 e3 e4 e5 f0 f1 f2 f3 e7 e8 e9;refine⟨⟨x0,x1,x2,x3,x4,x5,(z0,z1,z2,z3),c10,c11,c12,l,ll,ml⟩,rfl,⟨QP w1,hp,hform.imp id And.left,?_,hby,⟨hpl,hforml.imp id And.left,?_,Nr hpl⟩,⟨hpm,hformm.imp id And.left,?_,Nr hpm⟩⟩⟩
 ·rcases hform with⟨_,rfl⟩|⟨_,el,sp,hx,hel⟩
  ·simp
  ·have hm:=hs ((el.length+sp.length)*4) (by
    simp only[DataW.weights,underlying72];refine DataW.weights_mem_each (j:=9) rfl (d:=xs[9].1) (by simp[hxl']) _ ?_;rw[hx];simp[DataW.weights,underlying44,Sr])
   unfold reachBytes at hm;show l.length*4<=_;omega
 ·rcases hforml with⟨_,rfl⟩|⟨_,el,sp,hx,hel⟩
  ·simp
  ·have hm:=hs ((el.length+sp.length)*32) (by
    simp only[DataW.weights,underlying72];refine DataW.weights_mem_each (j:=7) rfl (d:=xs[7].1) (by simp[hxl']) _ ?_;rw[hx];simp[DataW.weights,underlying33,LS])
   unfold reachBytes at hm;show ll.length*32<=_;omega
 ·rcases hformm with⟨_,rfl⟩|⟨_,el,sp,hx,hel⟩
  ·simp
  ·have hm:=hs ((el.length+sp.length)*32) (by
    simp only[DataW.weights,underlying72];refine DataW.weights_mem_each (j:=8) rfl (d:=xs[8].1) (by simp[hxl']) _ ?_;rw[hx];simp[DataW.weights,underlying33,LS])
   unfold reachBytes at hm;show ml.length*32<=_;omega
theorem GN{H:Type}{P:Program}{e:TypeId}:∀ {l:List (DataW H)} {d:DataW H},d∈l->∀n∈d.weights P e,n∈DataW.weightsAll P e l
 |y::l,d,h,n,hn=>by
  simp only[DataW.weightsAll,bV];rcases cw.1 h with rfl|h
  ·exact Or.inl hn
  ·exact Or.inr (GN h n hn)
theorem QT{H:Type}{enc:TypeId×Value->H}{base:Nat}{d:DataW H}{p:List MemPlace}
  (hv:Value.okWide prog W .any base 22 v) (h:DataW.Trod enc prog W 0 (fun _=>true) true 22 v d p) (hs:∀n∈d.weights prog 22,n<=reachBytes):
  ∃D:List OpD,Ht W v D/\D.length<=926000000000:=by
 obtain⟨x,ln,cp,rfl⟩:=okWide_slice underlying22 hv;obtain⟨fuel,hf⟩:=h;rcases open_slice underlying22 hf with⟨hcs,_⟩|⟨a,len,cap,m,n,D,Pl,hcs,_,hl,hm,hmm,hd,hx⟩
 ·simp[Value.cells]at hcs;obtain⟨rfl,rfl,rfl⟩:=hcs;exact⟨[],⟨⟨none,0,rfl⟩,fun a c _ i hi=>by simp at hi,fun d hd=>by simp at hd⟩,by simp⟩
 ·simp[Value.cells]at hcs;obtain⟨rfl,rfl,rfl⟩:=hcs;have hm':m=cp:=by simpa using hmm
  subst hm';obtain rfl:=(Prod.ext_iff.1 hd).1;obtain⟨b,off,spot⟩:=a;have each:∀i,i<ln->∃o:OpD,(∀k,k<13->W.cell? ((⟨b,off,spot⟩:Addr).add (i*13+k))=o.cells[k]?)/\GK W o:=by
   intro i hi;obtain⟨cs',h1,h2⟩:=hx i (by omega);rw[S5]at h1;obtain⟨_,hlen,hcell⟩:=World.cells?_some h1;obtain⟨o,rfl,ho⟩:=XW h2 fun nn hn=>hs nn (by
    simp only[DataW.weights,underlying22,cw,bV];exact .inr (.inl (GN (d:=D i) (List.mem_map.2 ⟨i,cf.2 hi,rfl⟩) nn hn)))
   refine⟨o,fun k hk=>?_,ho⟩;have q:=hcell k hk;rw[add_add]at q;simpa using q
  obtain⟨l,hll,hq⟩:=GM ln _ each;subst hll;have hsz:=hs ((l.length+(m-l.length))*152) (by simp[DataW.weights,underlying22,XV]);unfold reachBytes at hsz;refine⟨l,⟨⟨_,m,rfl⟩,fun a c e i hi=>?_,fun d hd=>?_⟩,by omega⟩
  ·simp only[Value.slice.injEq]at e;obtain⟨rfl,_,rfl⟩:=e;have hc0:∀o:OpD,∃u,o.cells[0]?=some u:=fun o=>⟨_,rfl⟩;have h00:=(hq 0 (by omega)).1 0 (by omega);obtain⟨u0,hu0⟩:=hc0 (l[0]'(by omega));rw[hu0]at h00;have hsp:spot=none:=by simpa[Addr.add]using World.cell?_spot h00
   subst hsp;have h0:=(hq i hi).1 0 (by omega);obtain⟨u,hu⟩:=hc0 l[i];rw[hu]at h0;rw[Jc]at h0;refine⟨hl,b,off,rfl,Ak h0,fun o u' hu'=>?_⟩;have ho:o<13:=by
    have:=(aM.1 hu').1;exact this
   have:=(hq i hi).1 o ho;rw[Jc,hu']at this;rw[<-this];congr 2
   omega
  ·obtain⟨i,hi,rfl⟩:=List.getElem_of_mem hd;exact(hq i hi).2
end Go.Proofs.YtofinpocigbbeaaGreat
