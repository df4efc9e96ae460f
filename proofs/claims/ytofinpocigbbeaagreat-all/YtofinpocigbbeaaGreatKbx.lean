import Derived.Test.YtofinpocigbbeaaGreatKbv
import Derived.Test.YtofinpocigbbeaaGreatKbw
import Derived.Test.YtofinpocigbbeaaGreatKac
import Derived.SizedLaws
set_option maxHeartbeats 1000000
set_option maxRecDepth 100000
set_option linter.unusedSimpArgs false
namespace Go.Proofs.YtofinpocigbbeaaGreat
open Go.Proofs.Tryz Go.RowKit Go.ChangeShapes Go.WideShapes Go.ChangeAt Go.Deep
variable{B S:Nat->Prop}{D P:Nat->Value}{L L':List RB}{bv:Value}{c:Nat}{st:St}{w:World}
def XS(w:World)(g:Nat):Prop:=∃(cur:Array Value) (t:TypeId),t≠53/\w.heap[g]?=some (.cells cur t (0,0))
theorem A4.ot{T:TypeId}{k:Nat}{v:Value}{n:Nat}{xs:List Value}(h:A4 w S T k v n xs)(hT:T≠53):A4 w (fun g=>S g/\XS w g) T k v n xs:=
 ⟨h.1,fun g hg=>⟨h.2 g hg,by
  obtain⟨cur,hc⟩:=h.type hg;exact⟨cur,T,hT,hc⟩⟩⟩
theorem AG.ot{N:Nat}(h:AG w B bv N L P D):AG w (fun g=>B g/\XS w g) bv N L P D:=
 ⟨(let ⟨xs,h1,h2⟩:=h.row;⟨xs,h1.ot (by decide),h2⟩),h.few,fun i hi=>(let ⟨m,h1,h2⟩:=h.pix i hi;⟨m,h1,h2.ot (by decide)⟩),fun i hi=>(let ⟨m,h1,h2⟩:=h.dir i hi;⟨m,h1,h2.ot (by decide)⟩),h.apP,h.apD⟩
def QL(S:Nat->Prop)(w w':World)(g:Nat):Prop:=S g\/(w.heap.size<=g/\g<w'.heap.size/\XS w' g)
theorem Ea.nextO{w':World}{A:Nat->Prop}{P' D':Nat->Value}(h:Ea w A B c st bv L P D)(hA:∀g,A g->S g)(hB:∀g,B g->S g)(hr:Aw w' A c st bv)(hb:AG w' (AA B w w') bv (st.w.toNat*st.h.toNat) L' P' D')(ho:Ac B w w'):A0 w' (QL S w w') c st L'/\Ac S w w':=by
 have hs:=ho.size;refine⟨⟨A,fun g=>AA B w w' g/\XS w' g,bv,P',D',⟨hr,hb.ot,fun g hg hb=>?_,fun g hg=>aQ (h.la g hg) hs,fun g hg=>?_⟩,fun g hg=>.inl (hA g hg),fun g hg=>?_⟩,ho.mono fun g _ hg=>hB g hg⟩
 ·rcases hb.1 with hb|hb
  ·exact h.ap g hg hb
  ·have:=h.la g hg;omega
 ·rcases hg.1 with hg|hg
  ·exact aQ (h.lb g hg) hs
  ·exact hg.2
 ·rcases hg with⟨hg|hg,h2⟩
  ·exact .inl (hB g hg)
  ·exact .inr ⟨hg.1,hg.2,h2⟩
theorem LP(hw:Wf st)(w:World)(h:A0 w S c st L)(i:Nat)(hi:i<L.length)(hag:∀j (hj:j<L.length),L[j].age<=4611686018427387904)(q:Nat->Bool)(hq:∀k,k<st.w.toNat*st.h.toNat->q k=(L[i].dirty k||GA L[i].age)):
  Calls prog 139 #[pj c,vj i] w fun e w'=>∃(rv:Value) (O:Rgn),e=.returned (.tuple #[.agg #[rv,vj (Az (fun j=>if q j=true then(st.picL (st.visAll (-1)) ((j%st.w.toNat:Nat):Int) ((j/st.w.toNat:Nat):Int)).2 else 0) (st.w.toNat*st.h.toNat))],vj 0])/\AF w' w.heap.size rv (rc O)/\EE (AP st.w.toNat) (AP st.h.toNat) (CG q (st.w.toNat*st.h.toNat)) ((AP st.h.toNat).length-1) O/\A0 w' (QL S w w') c st (Cy L i (fTo q (fun k=>(st.picU ((k%st.w.toNat:Nat):Int) ((k/st.w.toNat:Nat):Int) (st.visAll (-1))).1) L[i].f (st.w.toNat*st.h.toNat)))/\Ac S w w':=by
 obtain⟨A,B,bv,P,D,h1,h2,h3⟩:=h;have hwh:=h1.wh hw;refine(GB hw w h1.ref h1.ap h1.la h1.lb st.w.toNat st.h.toNat hwh.1 hwh.2 h1.buf i hi hag q hq).mono ?_;rintro e w' ⟨rv,O,P',D',he,hO,hG,hr,hb,ho⟩;exact⟨rv,O,he,hO,hG,h1.nextO h2 h3 hr hb ho⟩
theorem Inv.bothO{n0:Nat}{w1 w2 w3 w4:World}{pb:Nat}{n:Cnt}{K:Nat->Prop}{ps:Value}{L:List Scr}(h:Inv n0 w pb n K ps L){i:Nat}{s:Scr}{d':Cv}(hi:L[i]?=some s)(hb:uj w w1)(hP:AO w2 s.A s.x s.st d')(oP:Ac s.A w1 w2)(hR:A0 w3 (QL s.B w2 w3) s.c s.st L')(oR:Ac s.B w2 w3)(hd:Duo s.st d' L')(hold:d'.old<=s.d.old+1)(h4:uj w3 w4):
  ∃L2,L2.length=L.length/\(∀T,Eb T L->Eb (T+1) L2)/\Inv n0 w4 pb n K ps L2/\FO w w4/\Ac (fun g=>n0<=g) w w4/\S2 w4 w1.heap.size 53 L2:=by
 have ok:=h.scr s (bM.2 ⟨i,hi⟩);have hks:=h.ks s (bM.2 ⟨i,hi⟩);have hn:=h.size;have h1:=hb.size;have h2:=oP.size;have h3:=oR.size;have h5:=h4.size;have step:∀g,g<w.heap.size->¬s.own g->w4.heap[g]?=w.heap[g]? :=fun g hg hs=>
  (h4.block g (by omega)).trans ((oR.block g (by omega) fun hh=>hs (.inr hh)).trans ((oP.block g (by omega) fun hh=>hs (.inl hh)).trans (hb.block g hg)))
 have law:FO w w4:=fun g cur t ht hg=>step g (aM.1 hg).1 fun hs=>(ok.own g hs).2.2 cur t ht hg;have onA:∀g,s.A g->n0<=g/\g<w.heap.size:=fun g hg=>⟨(ok.own g (.inl hg)).1,(ok.own g (.inl hg)).2.1⟩;have onB:∀g,s.B g->n0<=g/\g<w.heap.size:=fun g hg=>⟨(ok.own g (.inr hg)).1,(ok.own g (.inr hg)).2.1⟩;refine⟨L.set i ⟨s.x,s.c,s.st,d',L',RS s.A w4,RS (QL s.B w2 w3) w4⟩,by rw[bG],fun T hT=>hT.set hi hold,h.swap hi rfl rfl (by omega) law (fun g hg=>step g (h.kk g hg).2 fun hh=>hks g hh hg) (fun j t hj hne g hg=>step g ((h.scr t (bM.2 ⟨j,hj⟩)).own g hg).2.1 fun hs=>h.apart i j s t hi hj hne g hs hg) ⟨?_,?_,hd,fun g hg=>?_,fun g ha hbb=>?_⟩ fun g hg=>?_,law,⟨?_,?_,?_,by omega,fun g hg hs=>step g hg fun hh=>hs (ok.own g hh).1⟩,fun t ht g hg=>?_⟩
 ·refine(hP.keep (by omega) fun g hg hl=>?_).rs;exact(h4.block g (by omega)).trans (oR.block g hl fun hh=>ok.ab g hg hh)
 ·exact(hR.keep (by omega) fun g hg hl=>h4.block g hl).rs
 ·rcases hg with⟨hg,hl,hnl⟩|⟨hg|hg,hl,hnl⟩
  ·exact⟨(onA g hg).1,hl,hnl⟩
  ·exact⟨(onB g hg).1,hl,hnl⟩
  ·exact⟨by omega,hl,hnl⟩
 ·rcases ha with⟨ha,_⟩;rcases hbb with⟨hbb|hbb,_⟩
  ·exact ok.ab g ha hbb
  ·have:=(onA g ha).2;omega
 ·rcases hg with⟨hg,_⟩|⟨hg|hg,_⟩
  ·exact .inl (.inl hg)
  ·exact .inl (.inr hg)
  ·exact .inr (by omega)
 ·exact h4.os.trans (oR.os.trans (oP.os.trans hb.os))
 ·exact h4.tape.trans (oR.tape.trans (oP.tape.trans hb.tape))
 ·exact h4.output.trans (oR.output.trans (oP.output.trans hb.output))
 ·obtain⟨j,hj⟩:=bM.1 ht;rw[bW]at hj;by_cases e:i=j
  ·rw[if_pos e,if_pos (by have:=(bL.1 hi).1;omega)]at hj;injection hj with hj;subst hj;rcases hg with⟨hg,_⟩|⟨hg|hg,_⟩
   ·have:=(onA g hg).2;exact .inl (by omega)
   ·have:=(onB g hg).2;exact .inl (by omega)
   ·obtain⟨_,hl,cur,t,ht,hc⟩:=hg;exact .inr ⟨cur,t,ht,(h4.block g hl).trans hc⟩
  ·rw[if_neg e]at hj;have:=((h.scr t (bM.2 ⟨j,hj⟩)).own g hg).2.1;exact .inl (by omega)
attribute [local go_sem ↓] Go.wp_at_zero Go.wp_at_succ
variable{K:Nat->Prop}{L:List Scr}{i n0 pb:Nat}{n:Cnt}{ps:Value}{s:Scr}
def Wt(n0:Nat)(pb:Nat)(n:Cnt)(ps:Value)(L:List Scr)(w w3:World)(u v:Value):Prop:=
 (∀W,uj w3 W->Calls prog 86 #[u,v] W fun e w'=>e=.returned (.bool true)/\∃nq,w'=W.drewN nq)/\
 ∀W,uj w3 W->Calls prog 87 #[.pointer (some (jA pb 1)),u] W fun e w'=>e=.returned (.tuple #[])/\(∀(g:Nat) (cur:Array Value),W.heap[g]?=some (.cells cur 35 (0,0))->w'.heap[g]?=W.heap[g]?)/\At n0 pb n ps L w (.returned (.bool true)) w'
theorem S3{W1 w2 V w3:World}(h:Inv n0 w pb n K ps L)(hN:n.a<=1000000000000){d':Cv}{L':List RB}{l:List R4}{u v:Value}{bv:Nat}(hi:L[i]?=some s)(hl:l.length<=9000000)(hb:uj w W1)(hP:AO w2 s.A s.x s.st d')(oP:Ac s.A W1 w2)(hu:AF w2 W1.heap.size u l)(hV:uj w2 V)(hR:A0 w3 (QL s.B V w3) s.c s.st L')(oR:Ac s.B V w3)(hv:AF w3 bv v l)(hd:Duo s.st d' L')(hold:d'.old<=s.d.old+1):Wt n0 pb n ps L w w3 u v:=by
 have ok:=h.scr s (bM.2 ⟨i,hi⟩);have s1:=hb.size;have hu3:AF w3 W1.heap.size u l:=by
  refine hu.keep fun g hg=>?_;obtain⟨g1,g2⟩:=hu.1.lt g hg;have:=hV.size;exact(oR.block g (by omega) fun hh=>by have:=(ok.own g (.inr hh)).2.1;omega).trans (hV.block g g2)
 have hP':AO V s.A s.x s.st d':=hP.keep hV.size fun g _ hl=>hV.block g hl;have oP':Ac s.A W1 V:=oP.trans ((Ac.below hV).mono fun g _ hg=>.inl hg);refine⟨fun W hW=>Wq l u v W (hu3.stay hW).rects (hv.stay hW).rects hl,fun W hW=>?_⟩;obtain⟨L2,q1,q2,q3,q4,q5,q6⟩:=h.bothO hi hb hP' oP' hR oR hd hold hW;have hn:=h.size;refine(q3.listA (B0:=W1.heap.size) (m:=l.length) (bh oP'.size (bh oR.size hW.size)) (by omega) (fun g hg=>by have:=(h.kk g hg).2;omega) q6 hN hl ⟨_,(hu3.stay hW).1⟩).mono ?_;rintro e w' ⟨rfl,⟨K',hK'⟩,h3,h4⟩;refine⟨rfl,fun g cur hg=>h3 g cur _ (by decide) (by decide) (by decide) hg,rfl,⟨L2,⟨n.a+1,n.b,n.v⟩,K',q1,⟨aO _,cT _,cT _⟩,hK',q2⟩,fun g cur t ht hg=>?_,q5.trans (h4.mono fun _ _ hg=>.inl hg)⟩;have e1:=q4 g cur t (by unfold Law;rcases ht with rfl|rfl<;>simp) hg;exact(h3 g cur t (by rcases ht with rfl|rfl<;>decide) (by rcases ht with rfl|rfl<;>decide) (by rcases ht with rfl|rfl<;>decide) (e1.trans hg)).trans e1
theorem OP(h:Inv n0 w pb n K ps L)(hN:n.a<=1000000000000){T:Nat}(hT:Eb T L)(hT2:T<=4611686018427387904)(hi:L[i]?=some s)(a:Int)(W1:World)(hW1:uj w W1):
  Calls prog 14 #[pj s.x,vj a] W1 fun e w2=>∃ra rn rq z er,e=.returned (.tuple #[.agg #[.slice ra rn rq,vj z],vj er])/\Ac s.A W1 w2/\
   ∀V,uj w2 V->Calls prog 139 #[pj s.c,vj a] V fun e w3=>∃sa sn sq,e=.returned (.tuple #[.agg #[.slice sa sn sq,vj z],vj er])/\Ac s.B V w3/\Wt n0 pb n ps L w w3 (.slice ra rn rq) (.slice sa sn sq):=by
 have hsm:s∈L:=bM.2 ⟨i,hi⟩;have hq:=(h.pane hi (aN _ _)).2;have hnb:s.L.length=s.d.bufs.length:=hq.rel.len;have href:∀w2 V,Ac s.A W1 w2->uj w2 V->A0 V s.B s.c s.st s.L:=fun w2 V o hV=>(h.ref hi hW1 (o.trans ((Ac.below hV).mono fun g _ hg=>.inl hg))).1;by_cases h0:0<=a/\a<s.d.bufs.length
 ·obtain⟨j,hj⟩:∃j:Nat,a=j:=⟨a.toNat,by omega⟩;subst hj;have hjd:j<s.d.bufs.length:=by omega
  have hjL:j<s.L.length:=by omega
  have hold:s.d.old<=4611686018427387904:=bh (hT s hsm) hT2;refine(LI hq.fine.wf j hjd hold W1 (h.pane hi hW1).1).mono ?_;rintro e w2 ⟨_,rv,O,rfl,hG,hM,hrv,hfm,ho⟩;obtain⟨ra,rq,rfl⟩:=hrv.rects.form;refine⟨ra,_,rq,_,_,rfl,ho,fun V hV=>?_⟩;refine(LP hq.fine.wf V (href w2 V ho hV) j hjL (fun k hk=>?_) (qOf s.L j) fun k _=>VZ s.L hjL k).mono ?_
  ·rw[hq.rel.age k hk (by omega)];exact bh (hq.ok.age _ (aZ _)) hold
  ·rintro e w3 ⟨sv,O',rfl,hsv,hGr,hfr,ho3⟩;obtain⟨eO,eS,hD⟩:=hq.paint hjL hjd hG hM hGr;subst eO;obtain⟨sa,sq,rfl⟩:=hsv.rects.form;rw[eS];refine⟨sa,_,sq,rfl,ho3,S3 h hN hi ?_ hW1 hfm ho hrv hV hfr ho3 hsv hD (aO _)⟩;have:=RL hG;omega
 ·refine(Oy a h0 W1 (h.pane hi hW1).1).mono ?_;rintro e w2 ⟨rfl,hb⟩;have ho:Ac s.A W1 w2:=Ac.below hb;refine⟨none,0,0,0,10,rfl,ho,fun V hV=>?_⟩;refine(Ow a (by rw[hnb];exact h0) V (href w2 V ho hV)).mono ?_;rintro e w3 ⟨rfl,hb3⟩;refine⟨none,0,0,rfl,Ac.below hb3,S3 h hN (l:=[]) (bv:=0) hi (by decide) hW1 ((h.pane hi hW1).1.keep hb.size fun g _ hl=>hb.block g hl) ho ⟨bA _ _ _ _,fun _=>rfl⟩ hV (((href w2 V ho hV).keep hb3.size fun g _ hl=>hb3.block g hl).mono fun g hg=>.inl hg) (Ac.below hb3) ⟨bA _ _ _ _,fun _=>rfl⟩ hq (cT _)⟩
theorem Kp{n0:Nat}{w:World}{pb:Nat}{n:Cnt}{K:Nat->Prop}{ps:Value}{L:List Scr}(h:Inv n0 w pb n K ps L)(hN:n.a<=1000000000000){T:Nat}(hT:Eb T L)(hT2:T<=4611686018427387904){i:Nat}{s:Scr}(hi:L[i]?=some s)(k a b c:Int)(y:Bool)(r:R4)(lv mv pv:Value):
  Calls prog 95 #[pj pb,BD s,.agg (Au 13 k a b c y r lv mv pv)] w (At n0 pb n ps L w):=by
 have HP:=Aa (OP h hN hT hT2 hi a);have HIn:=Aa (h.inA hi);have hpn:pb<w.heap.size:=by
  obtain⟨pc,av,bv,cv,xa,xb,xc,hbk⟩:=h.play;exact Ab hbk.blk
 clear h hi hN hT hT2;unfold BD Au;obtain⟨post,hpost⟩:∃P,P=At n0 pb n ps L w:=⟨_,rfl⟩;rw[<-hpost];have HPo:=Aa hpost;clear hpost;go_enter func95,ntmps95
 go_upto_region 10 with(go_at_call 14;refine(HP.out _ (al2 (aO _) _ _)).mono ?_;rintro e w2 ⟨ra,rn,rq,z,er,rfl,oP,hV⟩;have hbx:=CA HIn.out.1 oP;have H2:=Aa (aK hV (aK oP.size hbx));clear hV oP hbx)
 have hs2:w.heap.size+2<=w2.heap.size:=by
  have:=H2.out.2.1;simpa using this
 have hb4:uj w2 (w2.alloc (.cells #[.slice ra rn rq,vj z] 35)):=al1 (aO _) _;have hp4:(w2.alloc (.cells #[.slice ra rn rq,vj z] 35)).heap[w2.heap.size]?=some (.cells #[.slice ra rn rq,vj z] 35 (0,0)):=aR w2 _;generalize w2.alloc (.cells #[.slice ra rn rq,vj z] 35)=W4 at*;obtain⟨p,hp⟩:∃p,w2.heap.size=p:=⟨_,rfl⟩;have hbx:=H2.out.2.2;have c1:=aP W4 _ 1 _ _ _ ((hb4.block _ (by omega)).trans hbx.1);have c2:=aP W4 _ 2 _ _ _ ((hb4.block _ (by omega)).trans hbx.2);simp only[br,bj,bt]at c1 c2;have H4:=Aa (aK hb4 hp4);clear hbx hb4 hp4
 go_upto_region 11 with(go_at_call 139;refine(H2.out.1 _ H4.out.1).mono ?_;rintro e w3 ⟨sa,sn,sq,rfl,oR,hE⟩;have H3:=Aa (aK oR hE);clear oR hE)
 have hp3:w3.heap[p]?=some (.cells #[.slice ra rn rq,vj z] 35 (0,0)):=by
  have e:=H4.out.2;rw[hp]at e;exact(H3.out.1.block _ (aM.1 e).1 fun hh=>by have:=HIn.out.2 _ hh;omega).trans e
 have hb5:uj w3 (w3.alloc (.cells #[.slice sa sn sq,vj z] 35)):=al1 (aO _) _;have hq5:(w3.alloc (.cells #[.slice sa sn sq,vj z] 35)).heap[w3.heap.size]?=some (.cells #[.slice sa sn sq,vj z] 35 (0,0)):=aR w3 _;have hp5:=(hb5.block _ (aM.1 hp3).1).trans hp3;generalize w3.alloc (.cells #[.slice sa sn sq,vj z] 35)=W5 at*;obtain⟨q,hq⟩:∃q,w3.heap.size=q:=⟨_,rfl⟩;have hq5':=hq5;rw[hq]at hq5';have p0:=aP W5 _ 0 _ _ _ hp5;have q0:=aP W5 _ 0 _ _ _ hq5';simp only[br,bj]at p0 q0;have H5:=Aa (aK hb5 (aK hp5 hq5'));clear hb5 hq5 hq5' hp5 hp3 c1 c2
 go_upto_region 12 with(go_at_call 86;refine(H3.out.2.1 _ H5.out.1).mono ?_;rintro e w6 ⟨rfl,nq,rfl⟩)
 have hb6:uj w3 (W5.drewN nq):=cS H5.out.1 _;have hp6:(W5.drewN nq).heap[p]?=some (.cells #[.slice ra rn rq,vj z] 35 (0,0)):=H5.out.2.1;have hq6:(W5.drewN nq).heap[q]?=some (.cells #[.slice sa sn sq,vj z] 35 (0,0)):=H5.out.2.2;clear p0 q0;generalize W5.drewN nq=W6 at*;have p0:=aP W6 _ 0 _ _ _ hp6;simp only[br,bj]at p0;have H6:=Aa (aK hb6 (aK hp6 hq6));clear hb6 hp6 hq6;have HW:=Aa (H3.out.2.2 _ (H6.out.1.drew))
 go_still_tail 5,(by kernel_rfl)
 go_upto_region 13 with(go_at_call 87;refine HW.out.mono ?_;rintro e w7 ⟨rfl,hk7,hs7⟩;have p1:=aP w7 _ 1 _ _ _ ((hk7 _ _ H6.out.2.1).trans H6.out.2.1);have q1:=aP w7 _ 1 _ _ _ ((hk7 _ _ H6.out.2.2).trans H6.out.2.2);simp only[br,bj,bt]at p1 q1;have H7:=Aa hs7;clear hk7 hs7)
 go_wp2
 try go_ret
 rw[HPo.out];exact H7.out
theorem Iq{n0:Nat}{w:World}{pb:Nat}{n:Cnt}{ps:Value}{L:List Scr}{s:Scr}(kd k a b c:Int)(y:Bool)(r:R4)(lv mv pv:Value)
  (hA:∀W,uj w W->Calls prog 95 #[pj pb,BD s,.agg (Au kd k a b c y r lv mv pv)] W (At n0 pb n ps L W))
  (hk:kd=12\/kd=13\/kd=14):
  Calls prog 49 #[pj pb,BD s,.agg (Au kd k a b c y r lv mv pv)] w (At n0 pb n ps L w):=by
 have HC:Hid (∀W,uj w W->Calls prog 95 #[pj pb,BD s,.agg (Au kd k a b c y r lv mv pv)] W fun e w'=>e=.returned (.bool true)/\Hid (At n0 pb n ps L w (.returned (.bool true)) w')):=fun W hW=>(hA W hW).mono fun e w' hh=>by
  have:=hh.1;subst this;exact⟨rfl,hh.before hW⟩
 clear hA;unfold BD Au at*;rcases hk with rfl|rfl|rfl;all_goals
  go_enter func49,ntmps49
  go_wp2_with(go_at_call 95;refine(HC.out _ (al2 (aO _) _ _)).mono ?_;rintro e w' ⟨rfl,HH⟩)
  go_ret;exact HH.out
structure ZS(n:Cnt)(T:Nat)(L:List Scr):Prop where
 a:n.a<=1000000000000
 b:n.b<=1000000000000
 v:n.v<=1000000000000
 old:Eb T L
 t:T<=4611686018427387904
 len:L.length<=1000000000000
def CW(kd:Int):Prop:=∀(n0:Nat) (w:World) (pb:Nat) (n:Cnt) (K:Nat->Prop) (ps:Value) (L:List Scr),Inv n0 w pb n K ps L->∀T:Nat,ZS n T L->∀(i:Nat) (s:Scr),L[i]?=some s->∀(k a b c:Int) (y:Bool) (r:R4) (lv mv pv:Value) (l:List R4),Nj n0 w pv l->∀ll:List R4,Nk n0 w lv ll->
  Calls prog 49 #[pj pb,BD s,.agg (Au kd k a b c y r lv mv pv)] w (At n0 pb n ps L w)
theorem ZT:CW 2:=fun _ _ _ _ _ _ _ h _ _ _ _ hi k a b c y r lv mv pv _ _ _ _=>XR h hi k a b c y r lv mv pv
theorem ZU:CW 3:=fun _ _ _ _ _ _ _ h _ _ _ _ hi k a b c y r lv mv pv _ _ _ _=>Sj h hi k a b c y r lv mv pv
theorem ZV:CW 4:=fun _ _ _ _ _ _ _ h _ _ _ _ hi k a b c y r lv mv pv l hp _ _=>Ft 4 k a b c y r lv mv pv (fun _ hW=>OI (h.below hW) hi k a b c y r lv mv pv l (hp.only (Ac.below hW)).at' hp.form hp.fit hp.byte) (by simp)
theorem ZW:CW 5:=fun _ _ _ _ _ _ _ h _ _ _ _ hi k a b c y r lv mv pv _ _ _ _=>Ft 5 k a b c y r lv mv pv (fun _ hW=>OG (h.below hW) hi k a b c y r lv mv pv) (by simp)
theorem ZX:CW 6:=fun _ _ _ _ _ _ _ h _ _ _ _ hi k a b c y r lv mv pv _ _ _ _=>Ft 6 k a b c y r lv mv pv (fun _ hW=>Sh (h.below hW) hi k a b c y r lv mv pv) (by simp)
theorem ZY:CW 7:=fun _ _ _ _ _ _ _ h _ _ _ _ hi k a b c y r lv mv pv _ _ _ _=>Ft 7 k a b c y r lv mv pv (fun _ hW=>OH (h.below hW) hi k a b c y r lv mv pv) (by simp)
theorem aI:CW 8:=fun _ _ _ _ _ _ _ h _ _ _ _ hi k a b c y r lv mv pv _ _ ll hl=>Ft 8 k a b c y r lv mv pv (fun _ hW=>OM (h.below hW) hi k a b c y r lv mv pv ll (hl.only (Ac.below hW)).at' hl.form hl.fit hl.low) (by simp)
theorem ZZ:CW 9:=fun _ _ _ _ _ _ _ h _ _ _ _ hi k a b c y r lv mv pv _ _ _ _=>Ft 9 k a b c y r lv mv pv (fun _ hW=>QG (h.below hW) hi k a b c y r lv mv pv) (by simp)
theorem Yb:CW 10:=fun _ _ _ _ _ _ _ h _ _ _ _ hi k a b c y r lv mv pv _ _ _ _=>Uz h hi k a b c y r lv mv pv
theorem aJ:CW 11:=fun _ _ _ _ _ _ _ h _ hF _ _ hi k a b c y r lv mv pv _ _ _ _=>Ws h hF.v hi k a b c y r lv mv pv
theorem Z0:CW 12:=fun _ _ _ _ _ _ _ h _ _ _ _ hi k a b c y r lv mv pv l hp _ _=>Iq 12 k a b c y r lv mv pv (fun _ hW=>Ko (h.below hW) hi k a b c y r lv mv pv l (hp.only (Ac.below hW)).at' hp.form hp.fit) (by simp)
theorem Yc:CW 13:=fun _ _ _ _ _ _ _ h _ hF _ _ hi k a b c y r lv mv pv _ _ _ _=>Iq 13 k a b c y r lv mv pv (fun _ hW=>Kp (h.below hW) hF.a hF.old hF.t hi k a b c y r lv mv pv) (by simp)
theorem Yd:CW 14:=fun _ _ _ _ _ _ _ h _ hF _ _ hi k a b c y r lv mv pv _ _ _ _=>Iq 14 k a b c y r lv mv pv (fun _ hW=>OO (h.below hW) hF.b hi k a b c y r lv mv pv) (by simp)
theorem Inv.opened{n0:Nat}{w w1 w2 w3 w4:World}{pb:Nat}{n:Cnt}{K:Nat->Prop}{ps ps':Value}{L:List Scr}(h:Inv n0 w pb n K ps L){x c:Nat}{st:St}{d:Cv}{LR:List RB}(hb1:uj w w1)(hP:AO w1 (fun g=>w.heap.size<=g/\g<w1.heap.size) x st d)(hb2:uj w1 w2)(hR:A0 w2 (fun g=>w1.heap.size<=g/\g<w2.heap.size) c st LR)(hf:Duo st d LR)(hold:d.old=0)
  (hb3:uj w2 w3) (hg4:w3.grownBy w4 ps.ownBlock) (hr4:w4.ownsRow n0 105 2 ps' (L.length+1) (L.flatMap Scr.cells++[BE x,BE c])):
  ∃L',L'.length=L.length+1/\(∀T,Eb T L->Eb (T+1) L')/\Inv n0 (w4.setCell (jA pb 0) ps') pb n K ps' L'/\(∀(g:Nat) (cur:Array Value),w.heap[g]?=some (.cells cur 72 (0,0))->(w4.setCell (jA pb 0) ps').heap[g]?=w.heap[g]?)/\Ac (fun g=>n0<=g) w (w4.setCell (jA pb 0) ps'):=by
 obtain⟨pc,av,bv,cv,xa,xb,xc,hbk⟩:=h.play;have hn:=h.size;have hs1:=hb1.size;have hs2:=hb2.size;have hs3:=hb3.size;have hs4:=hg4.size;have hpl:=Ab hbk.blk;have to3:∀g,g<w.heap.size->w3.heap[g]?=w.heap[g]? :=fun g hg=>(hb3.block g (by omega)).trans ((hb2.block g (by omega)).trans (hb1.block g hg));have to4:∀g,g<w.heap.size->ps.ownBlock≠some g->w4.heap[g]?=w.heap[g]? :=fun g hg hne=>(hg4.block g (by omega) (fun e=>hne e.symm)).trans (to3 g hg);have step:∀g,g<w.heap.size->g≠pb->ps.ownBlock≠some g->(w4.setCell (jA pb 0) ps').heap[g]?=w.heap[g]? :=fun g hg h1 h2=>(aL w4 (jA pb 0) g ps' h1).trans (to4 g hg h2);have psT:∀(g:Nat) (cur:Array Value) (t:TypeId),w.heap[g]?=some (.cells cur t (0,0))->t≠105->ps.ownBlock≠some g:=fun g cur t hg ht e=>by
  obtain⟨c2,hc2⟩:=Ap h.row e;rw[hc2]at hg;injection hg with hg;injection hg with _ hg;exact ht hg.symm
 have other:∀(g:Nat) (cur:Array Value) (t:TypeId),w.heap[g]?=some (.cells cur t (0,0))->t≠69->t≠105->(w4.setCell (jA pb 0) ps').heap[g]?=w.heap[g]? :=fun g cur t hg t1 t2=>
  step g (aM.1 hg).1 (fun e=>by
   subst e;rw[hbk.blk]at hg;injection hg with hg;injection hg with _ hg;exact t1 hg.symm) (psT g cur t hg t2)
 have hpb4:w4.heap[pb]?=some (.cells pc 69 (0,0)):=(to4 pb hpl (psT pb _ _ hbk.blk (by decide))).trans hbk.blk;have new:∀g,w.heap.size<=g->g<w3.heap.size->(w4.setCell (jA pb 0) ps').heap[g]?=w3.heap[g]? :=fun g h1 h2=>(aL w4 (jA pb 0) g ps' (by show g≠pb;omega)).trans (hg4.block g h2 fun e=>by
  have:=(h.row.lt g e.symm).2;omega)
 have hscr:∀s∈L,∀g,s.own g->(w4.setCell (jA pb 0) ps').heap[g]?=w.heap[g]? :=fun s hs g hg=>by
  obtain⟨_,q2,q3⟩:=(h.scr s hs).own g hg;refine step g q2 (fun e=>?_) fun e=>?_
  ·subst e;exact q3 _ _ (by unfold Law;simp) hbk.blk
  ·obtain⟨c2,hc2⟩:=Ap h.row e;exact q3 _ _ (by unfold Law;simp) hc2
 have hPz:AO (w4.setCell (jA pb 0) ps') (RS (fun g=>w.heap.size<=g/\g<w1.heap.size) (w4.setCell (jA pb 0) ps')) x st d:=(hP.keep (by simp;omega) fun g hg hl=>(new g hg.1 (by omega)).trans ((hb3.block g (by omega)).trans (hb2.block g hl))).rs;have hRz:A0 (w4.setCell (jA pb 0) ps') (RS (fun g=>w1.heap.size<=g/\g<w2.heap.size) (w4.setCell (jA pb 0) ps')) c st LR:=(hR.keep (by simp;omega) fun g hg hl=>(new g (by omega) (by omega)).trans (hb3.block g hl)).rs;have hsz:w.heap.size<=(w4.setCell (jA pb 0) ps').heap.size:=by simp;omega
 refine⟨L++[⟨x,c,st,d,LR,RS (fun g=>w.heap.size<=g/\g<w1.heap.size) (w4.setCell (jA pb 0) ps'),RS (fun g=>w1.heap.size<=g/\g<w2.heap.size) (w4.setCell (jA pb 0) ps')⟩],by simp,fun T hT s hs=>?_,⟨⟨pc.setIfInBounds 0 ps',av,bv,cv,xa,xb,xc,⟨bH w4 pb 0 pc _ ps' hpb4,?_,?_,?_,?_,?_,?_,?_,hbk.la,hbk.lb,hbk.lc⟩⟩,h.lo,?_,fun s hs=>?_,fun i j s t hi hj hij g hg=>?_,fun g hg=>⟨(h.kk g hg).1,aQ (h.kk g hg).2 hsz⟩,fun s hs g hg hk=>?_⟩,fun g cur hg=>other g cur _ hg (by decide) (by decide),⟨?_,?_,?_,hsz,fun g hg hs=>step g hg (fun e=>hs (e▸h.lo)) fun e=>hs (h.row.lt g e).1⟩⟩
 ·rcases bV.1 hs with hs|hs
  ·exact Nat.le_succ_of_le (hT s hs)
  ·rw[List.mem_singleton]at hs;subst hs;show d.old<=T+1;omega
 ·have:0<pc.size:=(aM.1 hbk.p0).1;rw[Array.getElem?_setIfInBounds_self_of_lt this]
 ·rw[bC (by omega)];exact hbk.p1
 ·rw[bC (by omega)];exact hbk.p2
 ·rw[bC (by omega)];exact hbk.p3
 ·exact hbk.ca.keep (fun _ hb=>hb) fun b cur t ht hb=>other b cur t hb (by rcases ht with⟨rfl,_⟩|rfl|rfl<;>decide) (by rcases ht with⟨rfl,_⟩|rfl|rfl<;>decide)
 ·exact hbk.cb.keep (fun _ hb=>hb) fun b cur t ht hb=>other b cur t hb (by rcases ht with⟨rfl,_⟩|rfl|rfl<;>decide) (by rcases ht with⟨rfl,_⟩|rfl|rfl<;>decide)
 ·exact hbk.cc.keep (fun _ hb=>hb) fun b cur t ht hb=>other b cur t hb (by rcases ht with⟨rfl,_⟩|rfl|rfl<;>decide) (by rcases ht with⟨rfl,_⟩|rfl|rfl<;>decide)
 ·rw[aY,cM];refine Ai hr4 fun g hg=>aL w4 (jA pb 0) g ps' fun e=>?_;obtain⟨cur,hc⟩:=Ap hr4 hg;have e':g=pb:=e;subst e';rw[hpb4]at hc;injection hc with hc;injection hc with _ hc;exact absurd hc (by decide)
 ·rcases bV.1 hs with hs|hs
  ·exact(h.scr s hs).keep hsz (hscr s hs)
  ·rw[List.mem_singleton]at hs;subst hs;refine⟨hPz,hRz,hf,fun g hg=>?_,fun g ha hb=>?_⟩
   ·rcases hg with⟨q1,q2,q3⟩|⟨q1,q2,q3⟩
    ·exact⟨by omega,q2,q3⟩
    ·exact⟨by omega,q2,q3⟩
   ·have h1:=ha.1;have h2:=hb.1;simp only at h1 h2;omega
 ·have fresh:∀(k:Nat) (q:Scr),L[k]?=some q->∀g,(w.heap.size<=g)->¬q.own g:=fun k q hk g hg hq=>by
   have:=((h.scr q (bM.2 ⟨k,hk⟩)).own g hq).2.1;omega
  have lastOwn:∀g,Scr.own ⟨x,c,st,d,LR,RS (fun g=>w.heap.size<=g/\g<w1.heap.size) (w4.setCell (jA pb 0) ps'),RS (fun g=>w1.heap.size<=g/\g<w2.heap.size) (w4.setCell (jA pb 0) ps')⟩ g->w.heap.size<=g:=fun g hg=>by
   rcases hg with⟨q1,_⟩|⟨q1,_⟩
   ·exact q1.1
   ·have:=q1.1;omega
  rw[List.getElem?_append]at hi hj;by_cases ei:i<L.length
  ·rw[if_pos ei]at hi;by_cases ej:j<L.length
   ·rw[if_pos ej]at hj;exact h.apart i j s t hi hj hij g hg
   ·rw[if_neg ej]at hj;obtain⟨_,hj⟩:=bL.1 hj;rw[List.getElem_singleton]at hj;subst hj;exact fun hh=>fresh i s hi g (lastOwn g hh) hg
  ·rw[if_neg ei]at hi;have hil:=(bL.1 hi).1;obtain⟨_,hi⟩:=bL.1 hi;rw[List.getElem_singleton]at hi;subst hi;by_cases ej:j<L.length
   ·rw[if_pos ej]at hj;exact fresh j t hj g (lastOwn g hg)
   ·rw[if_neg ej]at hj;have hjl:=(bL.1 hj).1;simp at hil hjl;omega
 ·rcases bV.1 hs with hs|hs
  ·exact h.ks s hs g hg hk
  ·rw[List.mem_singleton]at hs;subst hs;have h1:=(h.kk g hk).2;rcases hg with⟨q1,_⟩|⟨q1,_⟩
   ·have:=q1.1;omega
   ·have:=q1.1;omega
 ·exact hg4.os.trans (hb3.os.trans (hb2.os.trans hb1.os))
 ·exact hg4.tape.trans (hb3.tape.trans (hb2.tape.trans hb1.tape))
 ·exact hg4.output.trans (hb3.output.trans (hb2.output.trans hb1.output))
variable{W w':World}{lo:Nat}
def A8(n0:Nat)(pb:Nat)(n:Cnt)(L:List Scr)(lo:Nat)(w:World)(e:Ending)(w':World):Prop:=
 e=.returned (.bool true)/\(∃ps' L' n' K',lo<=L'.length/\L'.length<=L.length+1/\n.le1 n'/\Inv n0 w' pb n' K' ps' L'/\∀T,Eb T L->Eb (T+1) L')/\(∀(g:Nat) (cur:Array Value),w.heap[g]?=some (.cells cur 72 (0,0))->w'.heap[g]?=w.heap[g]?)/\Ac (fun g=>n0<=g) w w'
theorem At.any{e:Ending}(h:At n0 pb n ps L w e w'):A8 n0 pb n L L.length w e w':=by
 obtain⟨h1,⟨L',n',K',h2,h3,h4,h7⟩,h5,h6⟩:=h;exact⟨h1,⟨ps,L',n',K',by omega,by omega,h3,h4,h7⟩,fun g cur hg=>h5 g cur _ (.inl rfl) hg,h6⟩
theorem A8.weak{lo':Nat}{e:Ending}(h:A8 n0 pb n L lo w e w')(hl:lo'<=lo):A8 n0 pb n L lo' w e w':=by
 obtain⟨h1,⟨ps',L',n',K',h2,h3⟩,h4⟩:=h;exact⟨h1,⟨ps',L',n',K',bh hl h2,h3⟩,h4⟩
theorem A8.before{e:Ending}(hb:uj w W)(h:A8 n0 pb n L lo W e w'):A8 n0 pb n L lo w e w':=by
 obtain⟨h1,h2,h3,h4⟩:=h;refine⟨h1,h2,fun g cur hg=>?_,(Ac.below hb).trans (h4.mono fun _ _ hg=>.inl hg)⟩;have e:=hb.block g (aM.1 hg).1;exact(h3 g cur (e.trans hg)).trans e
theorem A8.none(h:Inv n0 w pb n K ps L)(hb:uj w W):A8 n0 pb n L L.length w (.returned (.bool true)) W:=
 ⟨rfl,⟨ps,L,n,K,aO _,by omega,⟨by omega,by omega,by omega⟩,h.below hb,fun T hT s hs=>Nat.le_succ_of_le (hT s hs)⟩,fun g _ hg=>hb.block g (aM.1 hg).1,Ac.below hb⟩
theorem XT{W H:Int}:CF ⟨W,H,[],[]⟩:=fun i k h=>by
 have e:St.sf ⟨W,H,[],[]⟩ i=sf0:=rfl;rw[e]at h;cases h
theorem Ww:(prog.info? 105).map (fun i=>(i.zero,i.size,i.bytes))=some (some (.agg #[.pointer none,.pointer none]),2,16):=by kernel_rfl
theorem Nm(h:Inv n0 w pb n K ps L)(k a b c:Int)(y:Bool)(r:R4)(lv mv pv:Value)(er:Int)
  (hP:∀W,Calls prog 26 #[vj a,vj b,vj c] W (Ud er W)) (hR:∀W,Calls prog 81 #[vj a,vj b,vj c] W (Ud er W)):
  Calls prog 46 #[pj pb,.agg (Au 1 k a b c y r lv mv pv)] w (A8 n0 pb n L L.length w):=by
 have HP:=Aa hP;have HR:=Aa hR;have HI:=Aa h;clear hP hR h;unfold Au;obtain⟨post,hpost⟩:∃P,P=A8 n0 pb n L L.length w:=⟨_,rfl⟩;rw[<-hpost];have HPo:=Aa hpost;clear hpost;go_enter func46,ntmps46
 go_wp2_with(first
  |(go_at_call 26;refine(HP.out _).mono ?_;rintro e w1 ⟨rfl,hb1⟩;have hbx:=(hb1.block w.heap.size (by simp)).trans (aR w _);have c2:=aP w1 _ 2 _ _ _ hbx;have c3:=aP w1 _ 3 _ _ _ hbx;have c4:=aP w1 _ 4 _ _ _ hbx;simp only[br,bj,bt]at c2 c3 c4;have H1:=Aa ((al1 (aO _) _).trans (hb1.mono (by simp)));clear hb1 hbx)
  |(go_at_call 81;refine(HR.out _).mono ?_;rintro e w2 ⟨rfl,hb2⟩;have H2:=Aa (H1.out.trans (hb2.mono H1.out.size));clear hb2))
 try go_ret
 rw[HPo.out];exact A8.none HI.out H2.out
theorem Nn(h:Inv n0 w pb n K ps L)(hL:L.length<=1000000000000)(k a b c:Int)(y:Bool)(r:R4)(lv mv pv:Value)(hW:1<=a/\a<=24)(hH:1<=b/\b<=24)(hn:1<=c/\c<=3):
  Calls prog 46 #[pj pb,.agg (Au 1 k a b c y r lv mv pv)] w (A8 n0 pb n L (L.length+1) w):=by
 obtain⟨i0,hi0,hz0,hz1,hz2⟩:=cW Ww;have HP:Hid (∀W,Calls prog 26 #[vj a,vj b,vj c] W fun e w'=>∃x,e=.returned (.tuple #[pj x,vj 0])/\(∃d,AO w' (fun g=>W.heap.size<=g/\g<w'.heap.size) x ⟨a,b,[],[]⟩ d/\d.old=0/\Duo ⟨a,b,[],[]⟩ d (List.replicate c.toNat J8))/\uj W w'):=fun W=>by
  refine(Wv a b c W hW hH hn).mono ?_;rintro e w' ⟨x,gs,he,hf,hg,hb⟩;refine⟨x,he,⟨_,hf,rfl,?_⟩,hb⟩;have:=Duo.new a b gs (AW.new hW hH) XT hf.facts.1 (by omega) (by omega);rw[hg]at this;exact this
 have HR:=Aa (fun W=>VP a b c W hW hH hn);have hsz:=h.size;obtain⟨pc,av,bv,cv,xa,xb,xc,hbk⟩:=h.play;have hpl:=Ab hbk.blk;obtain⟨pa,pcap,hpf⟩:=Al h.row;have hpb0:w.cell? (jA pb 0)=some ps:=(aP w pb 0 pc _ _ hbk.blk).trans hbk.p0;have HPS:Hid (∀W,uj w W->W.cell? (jA pb 0)=some ps/\W.ownsRow n0 105 2 ps L.length (L.flatMap Scr.cells)/\n0<=W.heap.size):=fun W hb=>⟨(hb.cell (p:=(jA pb 0)) hpl).trans hpb0,Ai h.row fun g hg=>hb.block g (h.row.lt g hg).2,bh hsz hb.size⟩;have HPB:Hid (∀W W6:World,uj w W->W.grownBy W6 ps.ownBlock->(∃q,W6.cell? (jA pb 0)=some q)/\W6.frozen? (jA pb 0)=false):=fun W W6 hb hg=>by
  have e:W6.heap[pb]?=some (.cells pc 69 (0,0)):=by
   rw[hg.block pb (aQ hpl hb.size) (fun e=>?_),hb.block pb hpl,hbk.blk];obtain⟨c2,hc2⟩:=Ap h.row e.symm;have:=hbk.blk;rw[hc2]at this;injection this with this;injection this with _ this;exact absurd this (by decide)
  exact⟨⟨_,(aP W6 pb 0 pc _ _ e).trans hbk.p0⟩,by simp[World.frozen?,e]⟩
 have HI:=Aa h;subst hpf;obtain⟨ln,hln⟩:∃ln,L.length=ln:=⟨_,rfl⟩;have HE:Hid (∀W1 W2 W3 W6 v x c0,Below (w.alloc (.cells (Au 1 k a b c y r lv mv pv) 72)).heap.size (w.alloc (.cells (Au 1 k a b c y r lv mv pv) 72)) W1->(∃d,AO W1 (fun g=>(w.alloc (.cells (Au 1 k a b c y r lv mv pv) 72)).heap.size<=g/\g<W1.heap.size) x ⟨a,b,[],[]⟩ d/\d.old=0/\Duo ⟨a,b,[],[]⟩ d (List.replicate c.toNat J8))->uj W1 W2->A0 W2 (fun g=>W1.heap.size<=g/\g<W2.heap.size) c0 ⟨a,b,[],[]⟩ (List.replicate c.toNat J8)->uj W2 W3->W3.grownBy W6 (Value.slice pa L.length pcap).ownBlock->W6.ownsRow n0 105 2 v (L.length+1) (L.flatMap Scr.cells++[BE x,BE c0])->A8 n0 pb n L (L.length+1) w (.returned (.bool true)) (W6.setCell (jA pb 0) v)):=fun W1 W2 W3 W6 v x c0 e1 e2 e3 e4 e5 e6 e7=>by
  obtain⟨d,e21,e22,e23⟩:=e2;obtain⟨L',q1,q5,q2,q3,q4⟩:=(h.below (al1 (aO _) (.cells (Au 1 k a b c y r lv mv pv) 72))).opened e1 e21 e3 e4 e23 e22 e5 e6 e7;exact A8.before (al1 (aO _) (.cells (Au 1 k a b c y r lv mv pv) 72)) ⟨rfl,⟨v,L',n,K,by omega,by omega,⟨by omega,by omega,by omega⟩,q2,q5⟩,q3,q4⟩
 obtain⟨post,hpost⟩:∃P,P=A8 n0 pb n L (L.length+1) w:=⟨_,rfl⟩;rw[<-hpost];rw[<-hpost]at HE;unfold Au at*;rw[hln]at HE HPS HPB hL;unfold BE at HE;clear hpost h hbk hpl hpb0 hsz hW hH hn HI;go_enter func46,ntmps46
 go_wp2_with(first
  |(go_at_call 26;refine(HP.out _).mono ?_;rintro e w1 ⟨x,rfl,hp1,hb1⟩;have hbx:=(hb1.block w.heap.size (by simp)).trans (aR w _);have c2:=aP w1 _ 2 _ _ _ hbx;have c3:=aP w1 _ 3 _ _ _ hbx;have c4:=aP w1 _ 4 _ _ _ hbx;simp only[br,bj,bt]at c2 c3 c4;have H1:=Aa (aK ((al1 (aO _) _).trans (hb1.mono (by simp))) (aK hp1 hb1));clear hp1 hb1 hbx)
  |(go_at_call 81;refine(HR.out _).mono ?_;rintro e w2 ⟨x2,rfl,hp2,hb2⟩;have H2:=Aa (aK (H1.out.1.trans (hb2.mono H1.out.1.size)) (aK hp2 hb2));have d0:=(HPS.out w2 H2.out.1).1;clear hp2 hb2)
  |(at_builtin;refine Am (P:=prog) rfl (.tmp 45) (.tmp 49) 62 rfl n0 105 i0 _ 2 16 underlying62 hi0 hz0 hz1 hz2 rfl (by decide) (.slice pa ln pcap) ln (L.flatMap Scr.cells) rfl ((HPS.out w2 H2.out.1).2.1.alloc _) (sj w2.heap.size 1 1) 1 [pj x,pj x2] rfl rfl (.inr ⟨_,_,rfl,bI (cs:=#[pj x,pj x2]) (t:=105) (fr:=(0,0)) (aR w2 _)⟩) (by simp[Value.oneCell']) (by unfold maxLen;omega) (by omega) (by have:=(HPS.out w2 H2.out.1).2.2;simp;omega) ?_;intro v6 w6 r6 g6 _ _;obtain⟨va6,vc6,hv6⟩:=Al r6;subst hv6;obtain⟨⟨q0,hq0⟩,hfz0⟩:=HPB.out _ _ (H2.out.1.alloc H2.out.1.size _) g6;have HR6:=Aa (aK r6 g6);clear r6 g6))
 try go_ret
 exact HE.out w1 w2 _ w6 _ x x2 H1.out.2.2 H1.out.2.1 H2.out.2.2 H2.out.2.1 (al1 (aO _) _) HR6.out.2 HR6.out.1
theorem Sn(h:Inv n0 w pb n K ps L)(hL:L.length<=1000000000000)(k a b c:Int)(y:Bool)(r:R4)(lv mv pv:Value):
  Calls prog 46 #[pj pb,.agg (Au 1 k a b c y r lv mv pv)] w (A8 n0 pb n L L.length w):=by
 by_cases h1:a<1\/24<a\/b<1\/24<b
 ·exact Nm h k a b c y r lv mv pv 5 (fun W=>Sm a b c W h1) fun W=>Qk a b c W h1
 ·by_cases h2:c<1\/3<c
  ·exact Nm h k a b c y r lv mv pv 10 (fun W=>UF a b c W (by omega) (by omega) h2) fun W=>RT a b c W (by omega) (by omega) h2
  ·exact Calls.mono (Nn h hL k a b c y r lv mv pv (by omega) (by omega) (by omega)) fun e w' q=>q.weak (cT _)
theorem QN{lo:Nat}(k a b c:Int)(y:Bool)(r:R4)(lv mv pv:Value)
  (hC:∀W,uj w W->Calls prog 46 #[pj pb,.agg (Au 1 k a b c y r lv mv pv)] W (A8 n0 pb n L lo W)):
  Calls prog 24 #[pj pb,.agg (Au 1 k a b c y r lv mv pv)] w (A8 n0 pb n L lo w):=by
 have HC:Hid (∀W,uj w W->Calls prog 46 #[pj pb,.agg (Au 1 k a b c y r lv mv pv)] W fun e w'=>e=.returned (.bool true)/\Hid (A8 n0 pb n L lo w (.returned (.bool true)) w')):=fun W hW=>(hC W hW).mono fun e w' hh=>by
  have:=hh.1;subst this;exact⟨rfl,hh.before hW⟩
 clear hC;unfold Au at*;go_enter func24,ntmps24
 go_wp2_with(go_at_call 46;refine(HC.out _ (al1 (aO _) _)).mono ?_;rintro e w' ⟨rfl,HH⟩)
 go_ret;exact HH.out
theorem Wy(L:List Scr):∀(j:Nat) (s:Scr),L[j]?=some s->(L.flatMap Scr.cells)[j*2]?=some (pj s.x)/\(L.flatMap Scr.cells)[j*2+1]?=some (pj s.c):=by
 induction L with
 |nil=>intro j s hj;simp at hj
 |cons a L ih=>
  intro j s hj;rw[ce];cases j with
  |zero=>
   simp at hj;subst hj;exact⟨rfl,rfl⟩
  |succ j=>
   simp at hj;have:=ih j s hj;have hl:a.cells.length=2:=rfl;refine⟨?_,?_⟩
   ·rw[bO (by rw[hl];omega),hl,show(j+1)*2-2=j*2 by omega];exact this.1
   ·rw[bO (by rw[hl];omega),hl,show(j+1)*2+1-2=j*2+1 by omega];exact this.2
theorem XU{K:Nat->Prop}{ps:Value}(h:Inv n0 w pb n K ps L)(hL0:0<L.length){T:Nat}(hF:ZS n T L)(kd k a b c:Int)(hk64: -9223372036854775808<=k/\k<=9223372036854775807)(y:Bool)(r:R4)(lv mv pv:Value)(l:List R4)(hp:Nj n0 w pv l)(ll:List R4)(hl:Nk n0 w lv ll)
  (hk:2<=kd/\kd<=14) (hon:CW kd):
  Calls prog 24 #[pj pb,.agg (Au kd k a b c y r lv mv pv)] w (A8 n0 pb n L L.length w):=by
 have hL:=hF.len;obtain⟨pg,pcap,hpf,hpbase,hpg⟩:=World.ownsRow.form h.row hL0;have hcap:=A7 (by have h9:=h.row;rw[hpf]at h9;exact h9);have HO:Hid (∀(W:World) (j:Nat) (s:Scr),uj w W->L[j]?=some s->Calls prog 49 #[pj pb,.agg #[pj s.x,pj s.c],.agg (Au kd k a b c y r lv mv pv)] W fun e w'=>e=.returned (.bool true)/\Hid (At n0 pb n ps L W (.returned (.bool true)) w')):=fun W j s hW hj=>(hon _ _ _ _ _ _ _ (h.below hW) _ hF _ _ hj k a b c y r lv mv pv l (hp.only (Ac.below hW)) ll (hl.only (Ac.below hW))).mono fun e w' hh=>by
  have:=hh.1;subst this;exact⟨rfl,hh⟩
 have HPk:Hid (∀W:World,Calls prog 50 #[vj k,vj (L.length:Nat)] W fun e w'=>(∃q:Nat,q<L.length/\e=.returned (vj q))/\w'=W):=fun W=>UG k L.length hL0 (by omega) hk64 W;obtain⟨pc,av,bv,cv,xa,xb,xc,hbk⟩:=h.play;have hpl:=Ab hbk.blk;have hc0:w.cell? (jA pb 0)=some ps:=(aP w pb 0 pc _ _ hbk.blk).trans hbk.p0;obtain⟨X,hX⟩:∃X:Nat->Nat,X=fun j=>(L[j]?.map Scr.x).getD 0:=⟨_,rfl⟩;obtain⟨Y,hY⟩:∃Y:Nat->Nat,Y=fun j=>(L[j]?.map Scr.c).getD 0:=⟨_,rfl⟩;have hXY:∀j,j<L.length->∃s,L[j]?=some s/\s.x=X j/\s.c=Y j:=fun j hj=>⟨L[j],aU hj,by rw[hX];simp[aU hj],by rw[hY];simp[aU hj]⟩;clear hX hY;have hpr:∀j,j<L.length->w.cell? (jA pg (j*2))=some (pj (X j))/\w.cell? (jA pg (j*2+1))=some (pj (Y j)):=fun j hj=>by
  obtain⟨s,h1,h2,h3⟩:=hXY j hj;obtain⟨c1,c2⟩:=Wy L j s h1;have cs:=cj h.row (g:=pg) (by rw[hpf];rfl);have d1:=cs _ _ c1;have d2:=cs _ _ c2;rw[Bn]at d1 d2;rw[<-h2,<-h3];exact⟨d1,d2⟩
 have hpt:=Ap h.row (k:=pg) (by rw[hpf];rfl);have HI:=Aa h;clear hp hl hk64 hbk;subst hpf;obtain⟨ln,hln⟩:∃ln,L.length=ln:=⟨_,rfl⟩;rw[hln]at HPk hXY hpr hcap hL0 hL;have HE:Hid (∀W w':World,uj w W->At n0 pb n (sj pg L.length pcap) L W (.returned (.bool true)) w'->A8 n0 pb n L L.length w (.returned (.bool true)) w'):=fun W w' hb hh=>A8.before hb hh.any;have HS:Hid (∀W:World,(W.cell? (jA pb 0)=some (sj pg L.length pcap)/\W.heap[pg]?=w.heap[pg]?/\W.heap[w.heap.size]?=some (.cells #[vj kd,vj k,vj a,vj b,vj c,.bool y,vj r.1,vj r.2.1,vj r.2.2.1,vj r.2.2.2,lv,mv,pv] 72 (0,0)))->W.cell? (jA pb 0)=some (sj pg ln pcap)/\(∀j,j<ln->W.cell? (jA pg (j*2))=some (pj (X j)))/\(∀j,j<ln->W.cell? (jA pg (j*2+1))=some (pj (Y j)))/\W.cell? (jA w.heap.size 0)=some (vj kd)/\W.cell? (jA w.heap.size 1)=some (vj k)/\W.cell? (jA w.heap.size 2)=some (vj a)/\W.cell? (jA w.heap.size 3)=some (vj b)/\W.cell? (jA w.heap.size 4)=some (vj c)/\W.cell? (jA w.heap.size 5)=some (.bool y)/\W.cell? (jA w.heap.size 6)=some (vj r.1)/\W.cell? (jA w.heap.size 7)=some (vj r.2.1)/\W.cell? (jA w.heap.size 8)=some (vj r.2.2.1)/\W.cell? (jA w.heap.size 9)=some (vj r.2.2.2)/\W.cell? (jA w.heap.size 10)=some lv/\W.cell? (jA w.heap.size 11)=some mv/\W.cell? (jA w.heap.size 12)=some pv):=fun W ⟨h1,h2,h3⟩=>by
  have e:=fun j=>aP W w.heap.size j _ _ _ h3;have e0:=e 0;have e1:=e 1;have e2:=e 2;have e3:=e 3;have e4:=e 4;have e5:=e 5;have e6:=e 6;have e7:=e 7;have e8:=e 8;have e9:=e 9;have e10:=e 10;have e11:=e 11;have e12:=e 12;simp only[br,bj,bt]at e0 e1 e2 e3 e4 e5 e6 e7 e8 e9 e10 e11 e12;rw[hln]at h1;exact⟨h1,fun j hj=>(aV h2).trans (hpr j hj).1,fun j hj=>(aV h2).trans (hpr j hj).2,e0,e1,e2,e3,e4,e5,e6,e7,e8,e9,e10,e11,e12⟩
 have HS1:Hid (∀W:World,Below (w.heap.size+1) (w.alloc (.cells #[vj kd,vj k,vj a,vj b,vj c,.bool y,vj r.1,vj r.2.1,vj r.2.2.1,vj r.2.2.2,lv,mv,pv] 72 (0,0))) W->W.cell? (jA pb 0)=some (sj pg ln pcap)/\(∀j,j<ln->W.cell? (jA pg (j*2))=some (pj (X j)))/\(∀j,j<ln->W.cell? (jA pg (j*2+1))=some (pj (Y j)))/\W.cell? (jA w.heap.size 0)=some (vj kd)/\W.cell? (jA w.heap.size 1)=some (vj k)/\W.cell? (jA w.heap.size 2)=some (vj a)/\W.cell? (jA w.heap.size 3)=some (vj b)/\W.cell? (jA w.heap.size 4)=some (vj c)/\W.cell? (jA w.heap.size 5)=some (.bool y)/\W.cell? (jA w.heap.size 6)=some (vj r.1)/\W.cell? (jA w.heap.size 7)=some (vj r.2.1)/\W.cell? (jA w.heap.size 8)=some (vj r.2.2.1)/\W.cell? (jA w.heap.size 9)=some (vj r.2.2.2)/\W.cell? (jA w.heap.size 10)=some lv/\W.cell? (jA w.heap.size 11)=some mv/\W.cell? (jA w.heap.size 12)=some pv):=fun W hb=>by
  have hb0:uj w W:=(al1 (aO _) (.cells #[vj kd,vj k,vj a,vj b,vj c,.bool y,vj r.1,vj r.2.1,vj r.2.2.1,vj r.2.2.2,lv,mv,pv] 72 (0,0))).trans (hb.mono (by omega));exact HS.out W ⟨(hb0.cell (p:=(jA pb 0)) hpl).trans hc0,hb0.block pg hpg,(hb.block w.heap.size (by omega)).trans (aR w _)⟩
 have HS2:Hid (∀W W':World,Below (w.heap.size+1) (w.alloc (.cells #[vj kd,vj k,vj a,vj b,vj c,.bool y,vj r.1,vj r.2.1,vj r.2.2.1,vj r.2.2.2,lv,mv,pv] 72 (0,0))) W->At n0 pb n (sj pg L.length pcap) L W (.returned (.bool true)) W'->W'.cell? (jA pb 0)=some (sj pg ln pcap)/\(∀j,j<ln->W'.cell? (jA pg (j*2))=some (pj (X j)))/\(∀j,j<ln->W'.cell? (jA pg (j*2+1))=some (pj (Y j)))/\W'.cell? (jA w.heap.size 0)=some (vj kd)/\W'.cell? (jA w.heap.size 1)=some (vj k)/\W'.cell? (jA w.heap.size 2)=some (vj a)/\W'.cell? (jA w.heap.size 3)=some (vj b)/\W'.cell? (jA w.heap.size 4)=some (vj c)/\W'.cell? (jA w.heap.size 5)=some (.bool y)/\W'.cell? (jA w.heap.size 6)=some (vj r.1)/\W'.cell? (jA w.heap.size 7)=some (vj r.2.1)/\W'.cell? (jA w.heap.size 8)=some (vj r.2.2.1)/\W'.cell? (jA w.heap.size 9)=some (vj r.2.2.2)/\W'.cell? (jA w.heap.size 10)=some lv/\W'.cell? (jA w.heap.size 11)=some mv/\W'.cell? (jA w.heap.size 12)=some pv):=fun W W' hb hh=>by
  have hb0:uj w W:=(al1 (aO _) (.cells #[vj kd,vj k,vj a,vj b,vj c,.bool y,vj r.1,vj r.2.1,vj r.2.2.1,vj r.2.2.2,lv,mv,pv] 72 (0,0))).trans (hb.mono (by omega));obtain⟨_,⟨L',N',K',q1,_,q2,_⟩,q3,_⟩:=hh;obtain⟨pc',_,_,_,_,_,_,hbk'⟩:=q2.play;obtain⟨cur,hcur⟩:=hpt;refine HS.out W' ⟨(aP W' pb 0 pc' _ _ hbk'.blk).trans hbk'.p0,?_,?_⟩
  ·rw[q3 pg cur _ (.inr rfl) ((hb0.block pg hpg).trans hcur),hb0.block pg hpg]
  ·have e:=(hb.block w.heap.size (by omega)).trans (aR w _);rw[q3 w.heap.size _ _ (.inl rfl) e,e]
 have HO2:Hid (∀(W:World) (j:Nat),uj w W->j<ln->Calls prog 49 #[pj pb,.agg #[pj (X j),pj (Y j)],.agg #[vj kd,vj k,vj a,vj b,vj c,.bool y,vj r.1,vj r.2.1,vj r.2.2.1,vj r.2.2.2,lv,mv,pv]] W fun e w'=>e=.returned (.bool true)/\Hid (At n0 pb n (sj pg L.length pcap) L W (.returned (.bool true)) w')):=fun W j hW hj=>by
  obtain⟨s,h1,h2,h3⟩:=hXY j hj;rw[<-h2,<-h3];exact HO.out W j s hW h1
 obtain⟨post,hpost⟩:∃P,P=A8 n0 pb n L L.length w:=⟨_,rfl⟩;rw[<-hpost]at HE ⊢;have hc0':=hc0;rw[hln]at hc0';have k1:¬kd=1:=by omega
 have k15:¬kd=15:=by omega
 have k16:¬kd=16:=by omega
 have k2:¬kd<2:=by omega
 have k14:¬14<kd:=by omega
 have l0:¬(ln:Int)=0:=by omega
 have l1:¬ln=0:=by omega
 have hpw:¬pb=w.heap.size:=by omega
 have hgw:¬pg=w.heap.size:=by omega
 unfold Au;clear hpost h HO hk hon hXY hpr hpt HI HS hc0 hF hL;go_enter func24,ntmps24
 go_upto_region 10 with fail
 have HB0:Hid (uj w (w.alloc (.cells #[vj kd,vj k,vj a,vj b,vj c,.bool y,vj r.1,vj r.2.1,vj r.2.2.1,vj r.2.2.2,lv,mv,pv] 72 (0,0)))):=al1 (aO _) _;generalize (w.alloc (.cells #[vj kd,vj k,vj a,vj b,vj c,.bool y,vj r.1,vj r.2.1,vj r.2.2.1,vj r.2.2.2,lv,mv,pv] 72 (0,0)))=W0 at*
 go_region_held3 (fun w'=>w'.cell? (jA pb 0)=some (sj pg ln pcap)/\(∀j,j<ln->w'.cell? (jA pg (j*2))=some (pj (X j)))/\(∀j,j<ln->w'.cell? (jA pg (j*2+1))=some (pj (Y j)))/\w'.cell? (jA w.heap.size 0)=some (vj kd)/\w'.cell? (jA w.heap.size 1)=some (vj k)/\w'.cell? (jA w.heap.size 2)=some (vj a)/\w'.cell? (jA w.heap.size 3)=some (vj b)/\w'.cell? (jA w.heap.size 4)=some (vj c)/\w'.cell? (jA w.heap.size 5)=some (.bool y)/\w'.cell? (jA w.heap.size 6)=some (vj r.1)/\w'.cell? (jA w.heap.size 7)=some (vj r.2.1)/\w'.cell? (jA w.heap.size 8)=some (vj r.2.2.1)/\w'.cell? (jA w.heap.size 9)=some (vj r.2.2.2)/\w'.cell? (jA w.heap.size 10)=some lv/\w'.cell? (jA w.heap.size 11)=some mv/\w'.cell? (jA w.heap.size 12)=some pv)
  (first
   |with_reducible exact HS1.out _ (aN _ _)
   |with_reducible exact HS1.out _ (aN _ _).drew
   |with_reducible exact HS2.out _ _ (aN _ _).drew HH.out
   |fail)
  (first
   |(go_at_call 50;refine(HPk.out _).mono ?_;rintro e w2 ⟨⟨q,hq,rfl⟩,rfl⟩;have hq1:(q:Int)<(ln:Int):=(by omega);have hq0:(0:Int)<=(q:Int):=(by omega);have hqc:q<pcap:=(by omega))
   |(go_at_call 49;refine(HO2.out _ q HB0.out.drew hq).mono ?_;rintro e w5 ⟨rfl,HH⟩)
   |fail)
 all_goals go_wp2_with fail
 all_goals(try go_ret)
 all_goals exact HE.out _ _ HB0.out.drew HH.out
variable{wr:World}
structure OpD where
 kd:Int
 k:Int
 a:Int
 b:Int
 c:Int
 y:Bool
 r:R4
 lv:Value
 mv:Value
 pv:Value
 l:List R4
 ll:List R4
 ml:List R4
def OpD.cells(d:OpD):Array Value:=Au d.kd d.k d.a d.b d.c d.y d.r d.lv d.mv d.pv
structure Hs(w:World)(v:Value)(l:List R4):Prop where
 at':As w v l
 form:(v=jj/\l=[])\/∃ad c,v=.slice (some ad) l.length c
 fit:l.length*32<=140737488351232
 low:∀b off c,v=.slice (some (jA b off)) l.length c->0<l.length->b<w.heap.size
structure GK(w:World)(d:OpD):Prop where
 k64: -9223372036854775808<=d.k/\d.k<=9223372036854775807
 pix:Bb w d.pv d.l
 form:(d.pv=jj/\d.l=[])\/∃ad c,d.pv=.slice (some ad) d.l.length c
 fit:d.l.length*4<=140737488351232
 byte:MZ d.l
 rl:Hs w d.lv d.ll
 rm:Hs w d.mv d.ml
structure Ht(w:World)(v:Value)(D:List OpD):Prop where
 form:∃a c,v=.slice a D.length c
 cells:∀a c,v=.slice a D.length c->∀i (hi:i<D.length),D.length<=c/\∃b off,a=some (jA b off)/\b<w.heap.size/\∀o u,D[i].cells[o]?=some u->w.cell? (jA b (off+i*13+o))=some u
 ok:∀d∈D,GK w d
def JM(w:World)(pb:Nat):Prop:=∃na nb nc,Ei w pb 1 na 4 zA/\Ei w pb (1+1) nb 4 zB/\Ei w pb (1+2) nc 9 zV/\na<=1000000000000/\nb<=1000000000000/\nc<=1000000000000
theorem Inv.whole{n0:Nat}{pb:Nat}(h:Inv n0 w pb n K ps L)(hn:n.a<=1000000000000/\n.b<=1000000000000/\n.v<=1000000000000):JM w pb:=by
 obtain⟨pc,av,bv,cv,xa,xb,xc,hbk⟩:=h.play;exact⟨n.a,n.b,n.v,hbk.ca.cells hbk.blk hbk.p1,hbk.cb.cells hbk.blk hbk.p2,hbk.cc.cells hbk.blk hbk.p3,hn.1,hn.2.1,hn.2.2⟩
structure Dh(w:World)(wr:World)(i:Nat):Prop where
 inv:∃ps L n K,Inv w.heap.size wr w.heap.size n K ps L/\0<L.length/\L.length<=i+1/\(n.a<=i+1/\n.b<=i+1/\n.v<=i+1)/\Eb (i+1) L
 bel:uj w wr
theorem Dh.below{wr':World}(h:Dh w wr i)(hb:uj wr wr'):Dh w wr' i:=
 ⟨(let ⟨ps,L,n,K,a,b⟩:=h.inv;⟨ps,L,n,K,a.below hb,b⟩),h.bel.trans (hb.mono h.bel.size)⟩
theorem Dh.next(h:Dh w wr i):Dh w wr (i+1):=
 ⟨(let ⟨ps,L,n,K,a,b,c,d,e⟩:=h.inv;⟨ps,L,n,K,a,b,Nat.le_succ_of_le c,⟨Nat.le_succ_of_le d.1,Nat.le_succ_of_le d.2.1,Nat.le_succ_of_le d.2.2⟩,fun s hs=>Nat.le_succ_of_le (e s hs)⟩),h.bel⟩
theorem Dh.drewN(h:Dh w wr i)(n:Nat):Dh w (wr.drewN n) i:=h.below ⟨rfl,rfl,rfl,aO _,fun _ _=>rfl⟩
theorem Inv.start(w:World):Inv w.heap.size (w.alloc (.cells #[jj,jj,jj,jj] 69)) w.heap.size ⟨0,0,0⟩ (fun _=>False) (jj) []:=
 ⟨⟨_,jj,jj,jj,[],[],[],⟨aR w _,rfl,rfl,rfl,rfl,dP.nil _ _,dP.nil _ _,dP.nil _ _,fun g hg=>by simp[Value.ownBlock]at hg,fun g hg=>by simp[Value.ownBlock]at hg,fun g hg=>by simp[Value.ownBlock]at hg⟩⟩,aO _,bA _ _ _ _,fun s hs=>(by cases hs),fun i j s t hi=>(by simp at hi),fun g hg=>hg.elim,fun s hs=>(by cases hs)⟩
def LQ(w:World)(i:Nat)(e:Ending)(w':World):Prop:=e=.returned (.bool true)/\Dh w w' (i+1)/\JM w' w.heap.size
theorem Dh.fin(h:Dh w wr i)(hi:i<=926000000000)(hI:Inv w.heap.size wr w.heap.size n K ps L)(h1:0<L.length)(h2:L.length<=i+1)(h3:n.a<=i+1/\n.b<=i+1/\n.v<=i+1)(h4:Eb (i+1) L)(e:Ending)(w':World)(q:A8 w.heap.size w.heap.size n L L.length wr e w'):LQ w i e w':=by
 obtain⟨q1,⟨ps',L',n',K',q2,q3,⟨k1,k2,k3⟩,q5,q7⟩,_,q6⟩:=q;exact⟨q1,⟨⟨ps',L',n',K',q5,by omega,by omega,⟨by omega,by omega,by omega⟩,q7 _ h4⟩,h.bel.trans (q6.to_below (fun g hg=>hg) hI.size)⟩,q5.whole ⟨by omega,by omega,by omega⟩⟩
theorem Hs.op{v:Value}{l:List R4}(h:Hs w v l)(hb:uj w wr)(hs:w.heap.size<=wr.heap.size):Nk w.heap.size wr v l:=
 ⟨fun _ hW'=>h.at'.below (hb.trans (hW'.to_below (fun _ hg=>hg) hs)),h.form,h.fit,h.low⟩
theorem No(h:Dh w wr i)(hi:i<=926000000000)(d:OpD)(hd:GK w d)(hk:d.kd=1\/(2<=d.kd/\d.kd<=14/\CW d.kd)):
  Calls prog 24 #[pj w.heap.size,.agg d.cells] wr (LQ w i):=by
 obtain⟨ps,L,n,K,hI,h1,h2,h3,h4⟩:=h.inv;have fin:=h.fin hi hI h1 h2 h3 h4;rcases hk with e1|⟨e1,e2,e3⟩
 ·unfold OpD.cells;rw[e1];refine Calls.mono (QN d.k d.a d.b d.c d.y d.r d.lv d.mv d.pv fun W hW=>?_) fin;exact Sn (hI.below hW) (by omega) d.k d.a d.b d.c d.y d.r d.lv d.mv d.pv
 ·have hp:Nj w.heap.size wr d.pv d.l:=⟨fun W' hW'=>hd.pix.below (h.bel.trans (hW'.to_below (fun g hg=>hg) hI.size)),hd.form,hd.fit,hd.byte⟩;exact Calls.mono (XU hI h1 ⟨by omega,by omega,by omega,h4,by omega,by omega⟩ d.kd d.k d.a d.b d.c hd.k64 d.y d.r d.lv d.mv d.pv d.l hp d.ll (hd.rl.op h.bel hI.size) ⟨e1,e2⟩ e3) fin
theorem So(hb:Below (w.heap.size+1) (w.alloc (.cells #[jj,jj,jj,jj] 69)) wr):
  Calls prog 24 #[pj w.heap.size,.agg (Au 1 0 6 5 2 false (0,0,0,0) (jj) (jj) (jj))] wr fun e w'=>e=.returned (.bool true)/\Dh w w' 0:=by
 have hI:Inv w.heap.size wr w.heap.size ⟨0,0,0⟩ (fun _=>False) (jj) []:=(Inv.start w).below (hb.mono (Nat.le_of_eq (World.size_alloc w _)));have hbw:uj w wr:=(al1 (aO _) _).trans (hb.mono (by omega));refine Calls.mono (QN (n0:=w.heap.size) (n:=⟨0,0,0⟩) (L:=[]) (lo:=1) 0 6 5 2 false (0,0,0,0) (jj) (jj) (jj) fun W hW=>?_) fun e w' ⟨q1,⟨ps',L',n',K',q2,q3,⟨k1,k2,k3⟩,q5,q7⟩,_,q6⟩=>?_
 ·exact Nn (hI.below hW) (by simp) 0 6 5 2 false (0,0,0,0) (jj) (jj) (jj) (by omega) (by omega) (by omega)
 ·exact⟨q1,⟨ps',L',n',K',q5,by omega,by simpa using q3,⟨k1,k2,k3⟩,q7 0 fun s hs=>by cases hs⟩,hbw.trans (q6.to_below (fun g hg=>hg) hI.size)⟩
def QO(ks:List Int)(kd:Int)(j:Nat):Bool:=decide (kd∈ks.take j)
theorem UH(ks:List Int)(kd:Int)(j:Nat)(hj:j<ks.length):QO ks kd (j+1)=(QO ks kd j||decide (kd=ks[j])):=by
 unfold QO;rw[bn hj,Bool.eq_iff_iff];simp only[Bool.or_eq_true,bT,bV,List.mem_singleton]
theorem WA(ks:List Int)(kd:Int)(h:QO ks kd ks.length=true):kd∈ks:=by
 unfold QO at h;rw[List.take_length]at h;exact ck h
theorem Np(D:List OpD)(v:Value)(kb:Nat)(w:World)(h:Ht w v D)(hD:D.length<=926000000000)(hkb:kb<w.heap.size)(ks:List Int)(nk:Nat)(hnk:ks.length=nk)(hnk2:nk<=1000)(hks:∀j (hj:j<ks.length),w.cell? (jA kb j)=some (vj (ks[j]'hj)))
  (hstep:∀(wr:World) (i:Nat) (d:OpD),Dh w wr i->i<=926000000000->GK w d->d.kd∈ks->Calls prog 24 #[pj w.heap.size,.agg d.cells] wr (LQ w i)):
  Calls prog 11 #[v,sj kb nk nk] w fun e w'=>e=.returned (.bool true)/\uj w w':=by
 obtain⟨sa,sc,hvf⟩:=h.form;have hcs:=h.cells sa sc hvf;have HF:=Aa (fun(wr:World) (hb:Below (w.heap.size+1) (w.alloc (.cells #[jj,jj,jj,jj] 69)) wr)=>So hb);have HSt:Hid (∀(wr:World) (i:Nat) (hi:i<D.length),Dh w wr i->D[i].kd∈ks->Calls prog 24 #[pj w.heap.size,.agg D[i].cells] wr fun e w'=>e=.returned (.bool true)/\Dh w w' (i+1)/\JM w' w.heap.size):=fun wr i hi hp hk=>hstep wr i D[i] hp (by omega) (h.ok _ (aZ hi)) hk;have HW:Hid (∀(wr:World),JM wr w.heap.size->Calls prog 25 #[.pointer (some (jA w.heap.size 1))] wr fun e w'=>e=.returned (.bool true)/\uj wr w'):=fun wr ⟨na,nb,nc,q1,q2,q3,q4,q5,q6⟩=>Sg wr q1 q2 q3 q4 q5 q6;subst hvf;obtain⟨m,hm⟩:∃m,D.length=m:=⟨_,rfl⟩;have HKs:=Aa hks;have HCs:=Aa hcs;rw[hm]at hD ⊢;clear h hcs hks hstep;unfold Au at HF;go_enter func11,ntmps11
 go_wp2_with(go_at_call 24;refine(HF.out _ (aN _ _)).mono ?_;rintro e w1 ⟨rfl,hp1⟩;have HP1:=Aa hp1;clear hp1)
 go_loopg [7] m (fun gg s7 wr=>∃i:Nat,s7=vj i/\gg+i=m/\Dh w wr i)
 case atStart=>exact⟨0,rfl,by omega,HP1.out⟩
 case round=>
  rename World=>wr;obtain⟨i,rfl,hgi,hPI⟩:=hrel;have HPI:=Aa hPI;clear hPI;cases gk with
  |zero=>
   have hlt:¬(i:Int)<(m:Int):=by omega
   go_wp2;go_ret;exact⟨rfl,HPI.out.bel⟩
  |succ gk=>
   have hlt:(i:Int)<(m:Int):=by omega
   have hi0:(0:Int)<=(i:Int):=by omega
   have him:i<D.length:=by omega
   obtain⟨hcap,b,off,hsa,hbl,hcl⟩:=HCs.out i him;subst hsa;have hcw:∀o u,D[i].cells[o]?=some u->wr.cell? (jA b (off+i*13+o))=some u:=fun o u hu=>(HPI.out.bel.cell (p:=(jA b (off+i*13+o))) hbl).trans (hcl o u hu);have HS2:Hid (∀W:World,Dh w W i->D[i].kd∈ks->Calls prog 24 #[pj w.heap.size,.agg D[i].cells] W fun e w'=>e=.returned (.bool true)/\Dh w w' (i+1)/\JM w' w.heap.size):=fun W hW hk=>HSt.out W i him hW hk;obtain⟨d,hd⟩:∃d,D[i]=d:=⟨_,rfl⟩;rw[hd]at HS2 hcw;have HCw:=Aa hcw;clear hcw hcl HSt HF HP1 hd;have c0:wr.cell? (jA b (off+i*13))=some (vj d.kd):=HCw.out 0 _ rfl;have hic:i<sc:=by omega
   go_wp2_with fail
   go_loopg [8,9] nk (fun gg s8 s9 wi=>∃j nq:Nat,s9=vj j/\gg+j=nk/\s8=.bool (QO ks d.kd j)/\wi=wr.drewN nq)
   case atStart=>exact⟨0,0,rfl,by omega,rfl,rfl⟩
   case round=>
    rename World=>wi;rename Nat=>gj;obtain⟨j,nq,rfl,hgj,rfl,rfl⟩:=hrel;cases gj with
    |zero=>
     have hj10:j=nk:=by omega
     subst hj10;have hjn:¬(j:Int)<(j:Int):=by omega
     cases hk:QO ks d.kd j with
     |false=>
      go_wp2_with fail
      go_roundg gk
      case measure=>omega
      case rel=>exact⟨i+1,by go_num,by omega,(HPI.out.drewN nq).next⟩
     |true=>
      have HG:Hid (Calls prog 24 #[pj w.heap.size,.agg #[vj d.kd,vj d.k,vj d.a,vj d.b,vj d.c,.bool d.y,vj d.r.1,vj d.r.2.1,vj d.r.2.2.1,vj d.r.2.2.2,d.lv,d.mv,d.pv]] (wr.drewN nq) fun e w'=>e=.returned (.bool true)/\Dh w w' (i+1)/\JM w' w.heap.size):=HS2.out _ (HPI.out.drewN nq) (WA _ _ (by rw[hnk];exact hk));have c1:wr.cell? (jA b (off+i*13+1))=some (vj d.k):=HCw.out 1 _ rfl;have c2:wr.cell? (jA b (off+i*13+2))=some (vj d.a):=HCw.out 2 _ rfl;have c3:wr.cell? (jA b (off+i*13+3))=some (vj d.b):=HCw.out 3 _ rfl;have c4:wr.cell? (jA b (off+i*13+4))=some (vj d.c):=HCw.out 4 _ rfl;have c5:wr.cell? (jA b (off+i*13+5))=some (.bool d.y):=HCw.out 5 _ rfl;have c6:wr.cell? (jA b (off+i*13+6))=some (vj d.r.1):=HCw.out 6 _ rfl;have c7:wr.cell? (jA b (off+i*13+7))=some (vj d.r.2.1):=HCw.out 7 _ rfl;have c8:wr.cell? (jA b (off+i*13+8))=some (vj d.r.2.2.1):=HCw.out 8 _ rfl;have c9:wr.cell? (jA b (off+i*13+9))=some (vj d.r.2.2.2):=HCw.out 9 _ rfl;have c10:wr.cell? (jA b (off+i*13+10))=some d.lv:=HCw.out 10 _ rfl;have c11:wr.cell? (jA b (off+i*13+11))=some d.mv:=HCw.out 11 _ rfl;have c12:wr.cell? (jA b (off+i*13+12))=some d.pv:=HCw.out 12 _ rfl
      go_wp2_with(first
       |(go_at_call 24;refine HG.out.mono ?_;rintro e w5 ⟨rfl,hp5,hb5⟩;have H5:=Aa hp5;have HB5:=Aa hb5;clear hp5 hb5)
       |(go_at_call 25;refine(HW.out _ HB5.out).mono ?_;rintro e w6 ⟨rfl,hb6⟩;have H6:=Aa (H5.out.below hb6);clear hb6)
       |fail)
      go_roundg gk
      case measure=>omega
      case rel=>exact⟨i+1,by go_num,by omega,H6.out⟩
    |succ gj=>
     have hj:j<ks.length:=by omega
     have hjk:j<nk:=by omega
     have hj1:(j:Int)<(nk:Int):=by omega
     have hj0:(0:Int)<=(j:Int):=by omega
     have hkc:wr.cell? (jA kb j)=some (vj (ks[j]'hj)):=(HPI.out.bel.cell (p:=(jA kb j)) hkb).trans (HKs.out j hj);have hsucc:=UH ks d.kd j hj;obtain⟨kk,hkk⟩:∃kk,ks[j]'hj=kk:=⟨_,rfl⟩;rw[hkk]at hkc;have hkk':(ks[j]'hj)=kk:=hkk;cases hk:QO ks d.kd j with
     |true=>
      go_upto_region 12 with fail
      go_quiet (fail)
      go_wp2_with fail
      go_roundg gj
      case measure=>omega
      case rel=>exact⟨j+1,_,by go_num,by omega,by rw[hsucc,hk];rfl,by first|rfl|(simp;rfl)⟩
     |false=>
      go_upto_region 12 with fail
      go_quiet (fail)
      go_wp2_with fail
      go_roundg gj
      case measure=>omega
      case rel=>exact⟨j+1,_,by go_num,by omega,by rw[hsucc,hk,hkk',Bool.false_or];rfl,by first|rfl|(simp;rfl)⟩
variable{cs:List Value}{fuel:Nat}{v:Value}{x:Int}
theorem UI:prog.cellsOf 5=1:=by kernel_rfl
theorem UJ:prog.cellsOf 4=1:=by kernel_rfl
theorem Sp:prog.cellsOf 51=4:=by kernel_rfl
theorem Sq:prog.cellsOf 33=1:=by kernel_rfl
theorem QR:prog.cellsOf 44=1:=by kernel_rfl
theorem S5:prog.cellsOf 72=13:=by kernel_rfl
theorem Sr:prog.bytesOf 51=4:=by kernel_rfl
theorem LS:prog.bytesOf 53=32:=by kernel_rfl
theorem XV:prog.bytesOf 72=152:=by kernel_rfl
theorem GM{α:Type}(n:Nat)(Q:Nat->α->Prop)(h:∀i,i<n->∃r,Q i r):∃l:List α,l.length=n/\∀i (hi:i<l.length),Q i l[i]:=by
 induction n with
 |zero=>exact⟨[],rfl,fun i hi=>by simp at hi⟩
 |succ n ih=>
  obtain⟨l,hl,hq⟩:=ih fun i hi=>h i (by omega);obtain⟨r,hr⟩:=h n (by omega);refine⟨l++[r],by simp[hl],fun i hi=>?_⟩;by_cases e:i<l.length
  ·rw[List.getElem_append_left e];exact hq i e
  ·have:i=l.length:=by simp at hi;omega
   subst this;rw[List.getElem_append_right (by omega)];simp;rw[hl];exact hr
theorem WB(h:(Lit.int .u8 x).wf=true):0<=x:=(bounds_u8 h).1
theorem Zr(h:(Lit.int .u8 x).wf=true):x<=255:=(bounds_u8 h).2
theorem QS{H:Type}{enc:TypeId×Value->H}{x:DataW H×List MemPlace}
  (hf:DataW.trod enc prog W 0 (fun _=>true) true fuel 44 cs=some x):
  ∃(v:Value) (l:List R4),cs=[v]/\Bb W v l/\MZ l/\((v=jj/\l=[])\/((∃ad c,v=.slice (some ad) l.length c)/\∃el sp,x.1=.slice el sp/\el.length=l.length)):=by
 rcases open_slice underlying44 hf with⟨hcs,_⟩|⟨a,ln,cp,m,n,D,Pl,hcs,_,hl,hm,hmm,hd,hx⟩
 ·exact⟨_,[],hcs,⟨none,0,rfl,fun h=>by simp at h⟩,fun r hr=>(by cases hr),.inl ⟨rfl,rfl⟩⟩
 ·subst hcs;have hm':m=cp:=by simpa using hmm
  subst hm';obtain⟨b,off,spot⟩:=a;have each:∀i,i<ln->∃r:R4,(W.cell? ((⟨b,off,spot⟩:Addr).add (i*4))=some (.int .u8 r.1)/\W.cell? ((⟨b,off,spot⟩:Addr).add (i*4+1))=some (.int .u8 r.2.1)/\W.cell? ((⟨b,off,spot⟩:Addr).add (i*4+2))=some (.int .u8 r.2.2.1)/\W.cell? ((⟨b,off,spot⟩:Addr).add (i*4+3))=some (.int .u8 r.2.2.2)/\(0<=r.1/\0<=r.2.1/\0<=r.2.2.1/\r.2.2.2<=255)):=by
   intro i hi;obtain⟨cs',h1,h2⟩:=hx i (by omega);rw[Sp]at h1;obtain⟨_,hlen,hcell⟩:=World.cells?_some h1;obtain⟨xs,k,_,_,_,hxl,hg⟩:=DataW.trod_array underlying51 h2;have g0:=hg 0 (by omega);have g1:=hg 1 (by omega);have g2:=hg 2 (by omega);have g3:=hg 3 (by omega);rw[aU (by omega)]at g0 g1 g2 g3
   match cs',hlen with
   | [v0,v1,v2,v3],_=>
    simp[UI]at g0 g1 g2 g3;obtain⟨x0,e0,_,w0⟩:=DataW.trod_int underlying5 g0;obtain⟨x1,e1,_,w1⟩:=DataW.trod_int underlying5 g1;obtain⟨x2,e2,_,w2⟩:=DataW.trod_int underlying5 g2;obtain⟨x3,e3,_,w3⟩:=DataW.trod_int underlying5 g3;simp at e0 e1 e2 e3;subst e0 e1 e2 e3;have q0:=hcell 0 (by omega);have q1:=hcell 1 (by omega);have q2:=hcell 2 (by omega);have q3:=hcell 3 (by omega);rw[add_add]at q0 q1 q2 q3;exact⟨(x0,x1,x2,x3),⟨by simpa using q0,by simpa using q1,by simpa using q2,by simpa using q3,WB w0,WB w1,WB w2,Zr w3⟩⟩
  obtain⟨l,hll,hq⟩:=GM ln _ each;subst hll;refine⟨_,l,rfl,⟨_,m,rfl,fun hpos=>⟨hl,?_⟩⟩,fun r hr=>(by obtain⟨k,hk,rfl⟩:=List.mem_iff_getElem.1 hr;exact(hq k hk).2.2.2.2),.inr ⟨⟨_,m,rfl⟩,_,_,(Prod.ext_iff.1 hd).1,by simp⟩⟩;have hs:spot=none:=by
   have:=(hq 0 hpos).1;simpa[Addr.add]using World.cell?_spot this
  subst hs;refine⟨b,off,rfl,fun k hk=>?_⟩;obtain⟨a1,a2,a3,a4,_⟩:=hq k hk;rw[Jc]at a1 a2 a3 a4;exact⟨a1,a2,a3,a4⟩
theorem Nq{H:Type}{enc:TypeId×Value->H}{x:DataW H×List MemPlace}
  (hf:DataW.trod enc prog W 0 (fun _=>true) true fuel 33 cs=some x):
  ∃(v:Value) (l:List R4),cs=[v]/\As W v l/\((v=jj/\l=[])\/((∃ad c,v=.slice (some ad) l.length c)/\∃el sp,x.1=.slice el sp/\el.length=l.length)):=by
 rcases open_slice underlying33 hf with⟨hcs,_⟩|⟨a,ln,cp,m,n,D,Pl,hcs,_,hl,hm,hmm,hd,hx⟩
 ·exact⟨_,[],hcs,⟨none,0,rfl,fun h=>by simp at h⟩,.inl ⟨rfl,rfl⟩⟩
 ·subst hcs;have hm':m=cp:=by simpa using hmm
  subst hm';obtain⟨b,off,spot⟩:=a;have each:∀i,i<ln->∃r:R4,(W.cell? ((⟨b,off,spot⟩:Addr).add (i*4))=some (vj r.1)/\W.cell? ((⟨b,off,spot⟩:Addr).add (i*4+1))=some (vj r.2.1)/\W.cell? ((⟨b,off,spot⟩:Addr).add (i*4+2))=some (vj r.2.2.1)/\W.cell? ((⟨b,off,spot⟩:Addr).add (i*4+3))=some (vj r.2.2.2)):=by
   intro i hi;obtain⟨cs',h1,h2⟩:=hx i (by omega);rw[JN]at h1;obtain⟨_,hlen,hcell⟩:=World.cells?_some h1;obtain⟨y0,y1,y2,y3,k,_,_,g0,g1,g2,g3⟩:=Go.Joins.trod_struct4 underlying53 h2
   match cs',hlen with
   | [v0,v1,v2,v3],_=>
    simp[Jb]at g0 g1 g2 g3;obtain⟨x0,e0,_⟩:=DataW.trod_int underlying3 g0;obtain⟨x1,e1,_⟩:=DataW.trod_int underlying3 g1;obtain⟨x2,e2,_⟩:=DataW.trod_int underlying3 g2;obtain⟨x3,e3,_⟩:=DataW.trod_int underlying3 g3;simp at e0 e1 e2 e3;subst e0 e1 e2 e3;have q0:=hcell 0 (by omega);have q1:=hcell 1 (by omega);have q2:=hcell 2 (by omega);have q3:=hcell 3 (by omega);rw[add_add]at q0 q1 q2 q3;exact⟨(x0,x1,x2,x3),by simpa using q0,by simpa using q1,by simpa using q2,by simpa using q3⟩
  obtain⟨l,hll,hq⟩:=GM ln _ each;subst hll;refine⟨_,l,rfl,⟨_,m,rfl,fun hpos=>?_⟩,.inr ⟨⟨_,m,rfl⟩,_,_,(Prod.ext_iff.1 hd).1,by simp⟩⟩;have hs:spot=none:=by
   have:=(hq 0 hpos).1;simpa[Addr.add]using World.cell?_spot this
  subst hs;refine⟨b,off,rfl,fun k hk=>?_⟩;obtain⟨a1,a2,a3,a4⟩:=hq k hk;rw[Jc]at a1 a2 a3 a4;exact⟨a1,a2,a3,a4⟩
theorem Nr{l:List R4}(h:As W v l):∀b off c,v=.slice (some (jA b off)) l.length c->0<l.length->b<W.heap.size:=by
 obtain⟨a,c,hv,hc⟩:=h;intro b off c' hv' hl;obtain⟨b2,off2,ha,hcs⟩:=hc hl;rw[hv,ha]at hv';simp only[Value.slice.injEq,Option.some.injEq,Addr.mk.injEq,true_and,and_true]at hv';have:=Ak (hcs 0 hl).1;obtain⟨⟨e,_⟩,_⟩:=hv';rw[<-e];exact this
theorem Zs{α:Type}{cs:List α}(h:cs.length=13):∃c0 c1 c2 c3 c4 c5 c6 c7 c8 c9 c10 c11 c12,cs=[c0,c1,c2,c3,c4,c5,c6,c7,c8,c9,c10,c11,c12]:=by
 match cs,h with
 | [c0,c1,c2,c3,c4,c5,c6,c7,c8,c9,c10,c11,c12],_=>exact⟨_,_,_,_,_,_,_,_,_,_,_,_,_,rfl⟩
theorem XW{H:Type}{enc:TypeId×Value->H}{x:DataW H×List MemPlace}
  (hf:DataW.trod enc prog W 0 (fun _=>true) true fuel 72 cs=some x) (hs:∀n∈x.1.weights prog 72,n<=reachBytes):
  ∃d:OpD,cs=d.cells.toList/\GK W d:=by
 obtain⟨xs,n,_,rfl,hlen,hxl,hfs⟩:=DataW.trod_struct underlying72 hf;rw[S5]at hlen;obtain⟨c0,c1,c2,c3,c4,c5,c6,c7,c8,c9,c10,c11,c12,rfl⟩:=Zs hlen;have g0:=hfs 0 _ rfl;have g1:=hfs 1 _ rfl;have g2:=hfs 2 _ rfl;have g3:=hfs 3 _ rfl;have g4:=hfs 4 _ rfl;have g5:=hfs 5 _ rfl;have g6:=hfs 6 _ rfl;have g7:=hfs 7 _ rfl;have g8:=hfs 8 _ rfl;have g9:=hfs 9 _ rfl;have hxl':xs.length=10:=hxl;rw[aU (by omega)]at g0 g1 g2 g3 g4 g5 g6 g7 g8 g9;simp[Jb,UJ,JN,Sq,QR]at g0 g1 g2 g3 g4 g5 g6 g7 g8 g9;obtain⟨x0,e0,_,w0⟩:=DataW.trod_int underlying3 g0;obtain⟨x1,e1,_,w1⟩:=DataW.trod_int underlying3 g1;obtain⟨x2,e2,_,w2⟩:=DataW.trod_int underlying3 g2;obtain⟨x3,e3,_,w3⟩:=DataW.trod_int underlying3 g3;obtain⟨x4,e4,_,w4⟩:=DataW.trod_int underlying3 g4;obtain⟨x5,e5,_⟩:=DataW.trod_bool underlying4 g5;obtain⟨y0,y1,y2,y3,k,_,_,r0,r1,r2,r3⟩:=Go.Joins.trod_struct4 underlying53 g6;simp[Jb]at r0 r1 r2 r3;obtain⟨z0,f0,_⟩:=DataW.trod_int underlying3 r0;obtain⟨z1,f1,_⟩:=DataW.trod_int underlying3 r1;obtain⟨z2,f2,_⟩:=DataW.trod_int underlying3 r2;obtain⟨z3,f3,_⟩:=DataW.trod_int underlying3 r3;obtain⟨lv,ll,e7,hpl,hforml⟩:=Nq g7;obtain⟨mv,ml,e8,hpm,hformm⟩:=Nq g8;obtain⟨pv,l,e9,hp,hby,hform⟩:=QS g9;simp at e0 e1 e2 e3 e4 e5 f0 f1 f2 f3 e7 e8 e9;subst e0 e1 e2 e3 e4 e5 f0 f1 f2 f3 e7 e8 e9;refine⟨⟨x0,x1,x2,x3,x4,x5,(z0,z1,z2,z3),c10,c11,c12,l,ll,ml⟩,rfl,⟨QP w1,hp,hform.imp id And.left,?_,hby,⟨hpl,hforml.imp id And.left,?_,Nr hpl⟩,⟨hpm,hformm.imp id And.left,?_,Nr hpm⟩⟩⟩
 ·rcases hform with⟨_,rfl⟩|⟨_,el,sp,hx,hel⟩
  ·simp
  ·have hm:=hs ((el.length+sp.length)*4) (by
    simp only[DataW.weights,underlying72];refine DataW.weights_mem_each (j:=9) rfl (d:=xs[9].1) (by simp[hxl']) _ ?_;rw[hx];simp[DataW.weights,underlying44,Sr])
   unfold reachBytes at hm;show l.length*4<=_;omega
 ·rcases hforml with⟨_,rfl⟩|⟨_,el,sp,hx,hel⟩
  ·simp
  ·have hm:=hs ((el.length+sp.length)*32) (by
    simp only[DataW.weights,underlying72];refine DataW.weights_mem_each (j:=7) rfl (d:=xs[7].1) (by simp[hxl']) _ ?_;rw[hx];simp[DataW.weights,underlying33,LS])
   unfold reachBytes at hm;show ll.length*32<=_;omega
 ·rcases hformm with⟨_,rfl⟩|⟨_,el,sp,hx,hel⟩
  ·simp
  ·have hm:=hs ((el.length+sp.length)*32) (by
    simp only[DataW.weights,underlying72];refine DataW.weights_mem_each (j:=8) rfl (d:=xs[8].1) (by simp[hxl']) _ ?_;rw[hx];simp[DataW.weights,underlying33,LS])
   unfold reachBytes at hm;show ml.length*32<=_;omega
theorem GN{H:Type}{P:Program}{e:TypeId}:∀ {l:List (DataW H)} {d:DataW H},d∈l->∀n∈d.weights P e,n∈DataW.weightsAll P e l
 |y::l,d,h,n,hn=>by
  simp only[DataW.weightsAll,bV];rcases cw.1 h with rfl|h
  ·exact Or.inl hn
  ·exact Or.inr (GN h n hn)
theorem QT{H:Type}{enc:TypeId×Value->H}{base:Nat}{d:DataW H}{p:List MemPlace}
  (hv:Value.okWide prog W .any base 22 v) (h:DataW.Trod enc prog W 0 (fun _=>true) true 22 v d p) (hs:∀n∈d.weights prog 22,n<=reachBytes):
  ∃D:List OpD,Ht W v D/\D.length<=926000000000:=by
 obtain⟨x,ln,cp,rfl⟩:=okWide_slice underlying22 hv;obtain⟨fuel,hf⟩:=h;rcases open_slice underlying22 hf with⟨hcs,_⟩|⟨a,len,cap,m,n,D,Pl,hcs,_,hl,hm,hmm,hd,hx⟩
 ·simp[Value.cells]at hcs;obtain⟨rfl,rfl,rfl⟩:=hcs;exact⟨[],⟨⟨none,0,rfl⟩,fun a c _ i hi=>by simp at hi,fun d hd=>by simp at hd⟩,by simp⟩
 ·simp[Value.cells]at hcs;obtain⟨rfl,rfl,rfl⟩:=hcs;have hm':m=cp:=by simpa using hmm
  subst hm';obtain rfl:=(Prod.ext_iff.1 hd).1;obtain⟨b,off,spot⟩:=a;have each:∀i,i<ln->∃o:OpD,(∀k,k<13->W.cell? ((⟨b,off,spot⟩:Addr).add (i*13+k))=o.cells[k]?)/\GK W o:=by
   intro i hi;obtain⟨cs',h1,h2⟩:=hx i (by omega);rw[S5]at h1;obtain⟨_,hlen,hcell⟩:=World.cells?_some h1;obtain⟨o,rfl,ho⟩:=XW h2 fun nn hn=>hs nn (by
    simp only[DataW.weights,underlying22,cw,bV];exact .inr (.inl (GN (d:=D i) (List.mem_map.2 ⟨i,cf.2 hi,rfl⟩) nn hn)))
   refine⟨o,fun k hk=>?_,ho⟩;have q:=hcell k hk;rw[add_add]at q;simpa using q
  obtain⟨l,hll,hq⟩:=GM ln _ each;subst hll;have hsz:=hs ((l.length+(m-l.length))*152) (by simp[DataW.weights,underlying22,XV]);unfold reachBytes at hsz;refine⟨l,⟨⟨_,m,rfl⟩,fun a c e i hi=>?_,fun d hd=>?_⟩,by omega⟩
  ·simp only[Value.slice.injEq]at e;obtain⟨rfl,_,rfl⟩:=e;have hc0:∀o:OpD,∃u,o.cells[0]?=some u:=fun o=>⟨_,rfl⟩;have h00:=(hq 0 (by omega)).1 0 (by omega);obtain⟨u0,hu0⟩:=hc0 (l[0]'(by omega));rw[hu0]at h00;have hsp:spot=none:=by simpa[Addr.add]using World.cell?_spot h00
   subst hsp;have h0:=(hq i hi).1 0 (by omega);obtain⟨u,hu⟩:=hc0 l[i];rw[hu]at h0;rw[Jc]at h0;refine⟨hl,b,off,rfl,Ak h0,fun o u' hu'=>?_⟩;have ho:o<13:=by
    have:=(aM.1 hu').1;exact this
   have:=(hq i hi).1 o ho;rw[Jc,hu']at this;rw[<-this];congr 2
   omega
  ·obtain⟨i,hi,rfl⟩:=List.getElem_of_mem hd;exact(hq i hi).2
end Go.Proofs.YtofinpocigbbeaaGreat
