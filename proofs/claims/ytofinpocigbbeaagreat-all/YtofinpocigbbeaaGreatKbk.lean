import Derived.Test.YtofinpocigbbeaaGreatKbd
import Derived.Test.YtofinpocigbbeaaGreatKbj
import Derived.Test.YtofinpocigbbeaaGreatKax
import Derived.Test.YtofinpocigbbeaaGreatKbe
set_option maxHeartbeats 4000000
set_option maxRecDepth 100000
set_option linter.unusedSimpArgs false
namespace Go.Proofs.YtofinpocigbbeaaGreat
open Go.RowKit Go.Proofs.Tryz
attribute [local go_sem ↓] Go.wp_at_zero Go.wp_at_succ
variable{S:Nat->Prop}{w:World}
def EY(s:Sf):Sf:={s with now:=s.next,kept:=Cn s.next}
theorem K9(st:St)(i:Nat)(o:List Nat)(ho:o=if st.puts i=true then rsL st.order i (st.sf i).sib.toNat (st.sf i).above else st.order):D9 (upd (upd st i EY) i CE) o=cm st i:=by
 subst ho;unfold cm upd D9;simp only[St.mk.injEq,true_and,and_true];rw[List.modify_modify_eq];rfl
def St.moved(st:St)(i:Nat):Bool:= !NP ((cm st i).sf i).now ((cm st i).pos i) (st.sf i).now (st.pos i)
def St.cmDam(st:St)(i:Nat):List R4:=
 if st.moved i=true then(st.visAll i).map st.seen++((cm st i).visAll i).map (cm st i).seen
 else [BG ((cm st i).otherAt i (st.sf i).now.pix) ((cm st i).seen i)]
def Lb(w:World)(b:Nat)(v3 v4 v5 v6 v7 v8 v9 v10 v11 v12 v13:Value):World:=
 ((((((((((w.setCell (jA b 3) v3).setCell (jA b 4) v4).setCell (jA b 5) v5).setCell (jA b 6) v6).setCell (jA b 7) v7).setCell (jA b 8) v8).setCell (jA b 9) v9).setCell (jA b 10) v10).setCell (jA b 11) v11).setCell (jA b 12) v12).setCell (jA b 13) v13
theorem Ie(w:World)(b g:Nat)(hg:g≠b)(v3 v4 v5 v6 v7 v8 v9 v10 v11 v12 v13:Value):(Lb w b v3 v4 v5 v6 v7 v8 v9 v10 v11 v12 v13).heap[g]?=w.heap[g]? :=by
 unfold Lb;rw[aL _ (jA b 13) g _ hg,aL _ (jA b 12) g _ hg,aL _ (jA b 11) g _ hg,aL _ (jA b 10) g _ hg,aL _ (jA b 9) g _ hg,aL _ (jA b 8) g _ hg,aL _ (jA b 7) g _ hg,aL _ (jA b 6) g _ hg,aL _ (jA b 5) g _ hg,aL _ (jA b 4) g _ hg,aL _ (jA b 3) g _ hg]
theorem TL(w:World)(b:Nat)(hb:S b)(v3 v4 v5 v6 v7 v8 v9 v10 v11 v12 v13:Value):Ac S w (Lb w b v3 v4 v5 v6 v7 v8 v9 v10 v11 v12 v13):=
 (((((((((((Ac.refl S w).set (.inl hb) _).set (.inl hb) _).set (.inl hb) _).set (.inl hb) _).set (.inl hb) _).set (.inl hb) _).set (.inl hb) _).set (.inl hb) _).set (.inl hb) _).set (.inl hb) _).set (.inl hb) _
def Yv(F:Nat->Value)(v3 v4 v5 v6 v7 v8 v9 v10 v11 v12 v13:Value):Nat->Value:=upO (upO (upO (upO (upO (upO (upO (upO (upO (upO (upO F 3 v3) 4 v4) 5 v5) 6 v6) 7 v7) 8 v8) 9 v9) 10 v10) 11 v11) 12 v12) 13 v13
theorem PO{b:Nat}{F:Nat->Value}(h:B4 w b F)(v3 v4 v5 v6 v7 v8 v9 v10 v11 v12 v13:Value):B4 (Lb w b v3 v4 v5 v6 v7 v8 v9 v10 v11 v12 v13) b (Yv F v3 v4 v5 v6 v7 v8 v9 v10 v11 v12 v13):=
 ((((((((((h.set 3 v3).set 4 v4).set 5 v5).set 6 v6).set 7 v7).set 8 v8).set 9 v9).set 10 v10).set 11 v11).set 12 v12).set 13 v13
theorem Ju(w:World)(b:Nat)(v3 v4 v5 v6 v7 v8 v9 v10 v11 v12 v13:Value):(Lb w b v3 v4 v5 v6 v7 v8 v9 v10 v11 v12 v13).heap.size=w.heap.size:=by
 unfold Lb;simp
theorem AR.nowK{W2:World}{x:Nat}{st:St}(hw:Wf st){bv:Value}{sc mp:Nat}{blk:Int->Nat}{G:Int->Nat->Value}(h:AR w S x st bv sc mp blk G){i:Nat}(hi:i∈st.order)(l:Dm)(hl:(st.sf i).next=l)(pv hv:Value)(hpv:G i 16=pv)(hhv:G i 24=hv)(kg:Nat)
  (W1:World) (hW1:W1=Lb w (blk i) (vj l.w) (vj l.h) pv (vj l.x) (vj l.y) (vj l.clip.1) (vj l.clip.2.1) (vj l.clip.2.2.1) (vj l.clip.2.2.2) (.bool l.cut) hv) (hb:uj W1 W2) (hkg:w.heap.size<=kg) (hbf:A2 W2 kg l.n (Cn l)) (S':Nat->Prop) (hS:∀g,S g->S' g) (hS2:S' kg):
  ∃G',AR (((W2.setCell (jA (blk i) 28) (vj l.w)).setCell (jA (blk i) 29) (vj l.h)).setCell (jA (blk i) 30) (sj kg l.n l.n)) S' x (Go.Proofs.YtofinpocigbbeaaGreat.upd st i EY) bv sc mp blk G':=by
 have hil:=hw.lt hi;obtain⟨kc,kf,kl⟩:=h.at (Af hi);have q:=(h.cells i (Af hi)).nat;have d:=h.data i hi;have hs:B4 w (blk i) (G i):=h.srf i (Af hi);have hsz:W1.heap.size=w.heap.size:=by rw[hW1];exact Ju ..
 have hs1:B4 W1 (blk i) (Yv (G i) (vj l.w) (vj l.h) pv (vj l.x) (vj l.y) (vj l.clip.1) (vj l.clip.2.1) (vj l.clip.2.2.1) (vj l.clip.2.2.2) (.bool l.cut) hv):=by rw[hW1];exact PO hs ..
 have hs2:=hs1.keep (hb.block (blk i) (by omega));have hs3:=((hs2.set 28 (vj l.w)).set 29 (vj l.h)).set 30 (sj kg l.n l.n);have hkb:kg≠blk i:=by omega
 have hoth:∀g,g<w.heap.size->g≠blk i->(((W2.setCell (jA (blk i) 28) (vj l.w)).setCell (jA (blk i) 29) (vj l.h)).setCell (jA (blk i) 30) (sj kg l.n l.n)).heap[g]?=w.heap[g]? :=fun g hg hne=>by
  rw[aL _ (jA (blk i) 30) g _ hne,aL _ (jA (blk i) 29) g _ hne,aL _ (jA (blk i) 28) g _ hne,hb.block g (by omega),hW1,Ie w _ g hne]
 obtain⟨scur,hscur,_⟩:=hs;have hkd:Bq w (((W2.setCell (jA (blk i) 28) (vj l.w)).setCell (jA (blk i) 29) (vj l.h)).setCell (jA (blk i) 30) (sj kg l.n l.n)):=fun g cur t ht e=>hoth g (Ab e) (neT e hscur (ht.ne (by unfold Dw;decide)));have d2:=(d.kd hkd).mono hS;have dp:=d2.npix;have dh:=d2.nhint;rw[hl,hpv]at dp;rw[hl,hhv]at dh;have qn:=q.next;rw[hl]at qn;have hnow:((EY) (st.sf i)).now=l:=hl;refine⟨_,h.updS hS (gf:=EY) hi hil (fun _=>rfl) hoth hs3 rfl (Dk.upd hil ⟨q.num,q.par,?_,?_,q.stk,⟨_,_,_,_,_,rfl,rfl,rfl⟩⟩) ?_⟩
 ·rw[hnow];exact⟨rfl,rfl,by rw[<-hpv];exact qn.pix,rfl,rfl,rfl,rfl,rfl,rfl,rfl,by rw[<-hhv];exact qn.hint⟩
 ·exact⟨q.next.w,q.next.h,q.next.pix,q.next.x,q.next.y,q.next.c0,q.next.c1,q.next.c2,q.next.c3,q.next.cut,q.next.hint⟩
 ·refine⟨?_,?_,d2.npix,d2.nhint,?_,?_,?_⟩
  ·rw[hnow];exact dp
  ·rw[hnow];exact dh
  ·rw[hnow];rfl
  ·rw[hnow];rfl
  ·rw[hnow];refine⟨some (jA kg 0),rfl,fun _=>⟨kg,rfl,hS2,?_⟩⟩;have hk:(EY (st.sf i)).kept=Cn l:=by rw[<-hl];rfl
   rw[hk];refine hbf.keep ?_;rw[aL _ (jA (blk i) 30) kg _ hkb,aL _ (jA (blk i) 29) kg _ hkb,aL _ (jA (blk i) 28) kg _ hkb]
section
variable{G4:Int->Nat->Value}{GR OL:Array Value}{S:Nat->Prop}{T:TypeId}{W4 u w:World}{base gx i k kg m mp n ob on sc x:Nat}{blk:Int->Nat}{bv v vv:Value}{l parts:List R4}{o:Obj}{old:Nat->R4}{st:St}
def OlO(o:Obj):Prop:=∃cs:Array Value,o=.cells cs 181 (0,0)/\cs.size=10
def GrO(o:Obj):Prop:=∃cs:Array Value,o=.cells cs 122 (0,0)/\cs.size=3
theorem DV:OlO (.cells #[vj 0,vj 0,vj 0,vj 0,vj 0,vj 0,vj 0,vj 0,.bool false,vj 0] 181):=⟨_,rfl,rfl⟩
theorem DW:GrO (.cells #[vj 0,vj 0,jj] 122):=⟨_,rfl,rfl⟩
theorem J5:Ax (u.alloc o) n T k↔(n=u.heap.size/\∃cs:Array Value,o=.cells cs T (0,0)/\cs.size=k)\/Ax u n T k:=by
 constructor
 ·intro h;by_cases e:n=u.heap.size
  ·subst e;obtain⟨cs,h1,h2⟩:=h;rw[aR]at h1;injection h1 with h1;exact .inl ⟨rfl,cs,h1,h2⟩
  ·have hl:=h.lt;simp at hl;exact .inr (h.keep (Ad u o n (by omega)).symm)
 ·rintro(⟨rfl,cs,rfl,h2⟩|h)
  ·exact⟨cs,aR u _,h2⟩
  ·exact h.alloc o
theorem BP:Ax (u.alloc o) n 181 10↔(n=u.heap.size/\OlO o)\/Ax u n 181 10:=J5
theorem BQ:Ax (u.alloc o) n 122 3↔(n=u.heap.size/\GrO o)\/Ax u n 122 3:=J5
theorem G6{a0 a1 a2 a3 a4 a5 a6 a7:Int}{b:Bool}{a9:Int}(hne:n≠m):Ax (u.setRow m #[vj a0,vj a1,vj a2,vj a3,vj a4,vj a5,vj a6,vj a7,.bool b,vj a9]) n 122 3↔Ax u n 122 3:=by
 constructor
 ·exact fun h=>h.keep (setRow_other u m n _ hne).symm
 ·exact fun h=>h.keep (setRow_other u m n _ hne)
theorem X5(ad:Addr)(a0 a1:Int)(pa:Option Addr)(pn pk:Nat):storeCells ad [vj a0,vj a1,.slice pa pn pk] 0=St9 ad [vj a0,vj a1,.slice pa pn pk]:=rfl
theorem Vo{g:Nat}(h:Ax w g 122 3)(a0 a1:Int)(pa:Option Addr)(pn pk:Nat):(St9 (jA g 0) [vj a0,vj a1,.slice pa pn pk]).run prog w=.ok () (w.setRow g #[vj a0,vj a1,.slice pa pn pk]):=h.row _ rfl (by simp[Value.oneCell'])
theorem Blk.sameRow(h:Ax u n T k)(cs:Array Value):Blk (u.setRow n cs) n T cs:=by
 obtain⟨cur,h1,_⟩:=h;exact setRow_heap u n _ _ _ _ h1
theorem Blk.otherRow{cs cs':Array Value}(h:Blk u m T cs)(hne:m≠n):Blk (u.setRow n cs') m T cs:=(setRow_other u n m _ hne).trans h
theorem AF.rowT(h:AF u base v l)(hb:Ax u n T k)(hT:T≠53)(cs:Array Value):AF (u.setRow n cs) base v l:=by
 refine⟨Ai h.1 fun g hg=>setRow_other u n g _ fun e=>?_,h.2⟩;obtain⟨cur,e1⟩:=Ap h.1 hg;obtain⟨cur2,e2,_⟩:=hb;subst e;have:=e1.symm.trans e2;simp at this;exact hT this.2.symm
attribute [local go_sem high] Rs NO X5 Vo
attribute [local go_sem] DV DW BP BQ A3 G6
theorem TM(h:AF w base v l):(v=jj/\l.length=0)\/∃ad c,v=.slice (some ad) l.length c/\∀j u,(Ae l)[j]?=some u->w.cell? (ad.add j)=some u:=by
 by_cases hl:l=[]
 ·exact .inl ⟨h.2 hl,by rw[hl];rfl⟩
 ·have hpos:0<l.length:=List.length_pos_iff.2 hl;obtain⟨g,cap,e1,e2,e3⟩:=World.ownsRow.form h.1 hpos;exact .inr ⟨_,cap,e1,fun j u hu=>cj h.1 (g:=g) (by rw[e1];rfl) j u hu⟩
theorem L7(l:List R4):∀u∈Ae l,u.oneCell'=true:=by
 intro u hu;unfold Ae at hu;rw[List.mem_flatMap]at hu;obtain⟨r,_,hu⟩:=hu;simp at hu;rcases hu with rfl|rfl|rfl|rfl<;>rfl
theorem AF.belowR{w':World}(h:AF w base v l)(hb:uj w w'):AF w' base v l:=⟨Ai h.1 fun g hg=>hb.block g (h.1.lt g hg).2,h.2⟩
theorem Vp(w:World)(r:R4):AF (w.alloc (.cells #[vj r.1,vj r.2.1,vj r.2.2.1,vj r.2.2.2] 53)) w.heap.size (sj w.heap.size 1 1) [r]:=
 ⟨⟨rfl,.inr ⟨w.heap.size,1,_,rfl,aO _,aR w _,by simp,by unfold maxLen;omega,rfl,rfl⟩⟩,fun h=>by cases h⟩
structure CmM(w W4:World)(S:Nat->Prop)(x:Nat)(st:St)(i:Nat)(bv:Value)(sc mp:Nat)(blk:Int->Nat)(G4:Int->Nat->Value)(kg:Nat)(ob gx:Nat)(OL GR:Array Value)(vv:Value)(parts:List R4)(opa:Option Addr)(on:Nat)(old:Nat->R4):Prop where
 raw:AR W4 (fun g=>S g\/g=kg) x (cm st i) bv sc mp blk G4
 only:Ac S w W4
 kg1:w.heap.size<=kg
 kg2:∃cur,W4.heap[kg]?=some (.cells cur 4 (0,0))
 ol:Blk W4 ob 181 OL
 gr:Blk W4 gx 122 GR
 row:AF W4 w.heap.size vv parts
 was:0<on->∃g,opa=some (jA g 0)/\Bj W4 g on old
 sl:∀g,S g->g<w.heap.size
theorem CmM.below{W5:World}{opa:Option Addr}(h:CmM w W4 S x st i bv sc mp blk G4 kg ob gx OL GR vv parts opa on old)(hb:uj W4 W5):CmM w W5 S x st i bv sc mp blk G4 kg ob gx OL GR vv parts opa on old:=
 ⟨h.raw.below hb,h.only.after hb,h.kg1,let ⟨cur,e⟩:=h.kg2;⟨cur,(hb.block kg (Ab e)).trans e⟩,h.ol.keep (hb.block _ (Ab h.ol)),h.gr.keep (hb.block _ (Ab h.gr)),h.row.belowR hb,fun hn=>let ⟨g,e1,e2⟩:=h.was hn;⟨g,e1,e2.keep (hb.block g e2.has.lt)⟩,h.sl⟩
def NX(S:Nat->Prop)(x:Nat)(st:St)(i:Nat)(bv:Value)(w:World)(e:Ending)(w':World):Prop:=∃v,e=.returned v/\AF w' w.heap.size v (st.cmDam i)/\AX w' (AA S w w') x (cm st i) bv/\Ac S w w'
theorem CmM.pane{opa:Option Addr}(h:CmM w W4 S x st i bv sc mp blk G4 kg ob gx OL GR vv parts opa on old):AX W4 (AA S w W4) x (cm st i) bv:=
 ⟨sc,mp,blk,G4,h.raw.mono fun g hg=>hg.elim (fun hs=>.inl hs) fun e=>.inr ⟨by rw[e];exact h.kg1,by rw[e];exact let ⟨cur,q⟩:=h.kg2;Ab q⟩⟩
theorem CmM.moved{W6 W7:World}{v':Value}{parts2:List R4}{opa:Option Addr}(h:CmM w W6 S x st i bv sc mp blk G4 kg ob gx OL GR vv parts opa on old)
  (hp:parts=(st.visAll i).map st.seen) (hp2:parts2=((cm st i).visAll i).map (cm st i).seen) (hmv:st.moved i=true) (ho:W7.ownsRow w.heap.size 53 4 v' (parts.length+parts2.length) (Ae parts++Ae parts2)) (hg:W6.grownBy W7 vv.ownBlock) (hv:v'=jj↔vv=jj/\parts2.length=0):NX S x st i bv w (.returned v') W7:=by
 have hlo:∀b,vv.ownBlock=some b->w.heap.size<=b:=fun b hb=>(h.row.1.lt b hb).1;have hne:∀g,(S g\/g=kg)->some g≠vv.ownBlock:=fun g hg e=>by
  rcases hg with hg|rfl
  ·have:=h.sl g hg;have:=hlo g e.symm;omega
  ·obtain⟨cur,e1⟩:=h.kg2;obtain⟨cur2,e2⟩:=Ap h.row.1 e.symm;have:=e1.symm.trans e2;simp at this
 have hraw:=h.raw.keep (w':=W7) fun g hs hl=>hg.block g hl (hne g hs);have hdam:st.cmDam i=parts++parts2:=by
  unfold St.cmDam;rw[if_pos hmv,hp,hp2]
 refine⟨v',rfl,?_,⟨sc,mp,blk,G4,hraw.mono fun g hs=>?_⟩,h.only.grown hg fun b hb=>.inr (hlo b hb)⟩
 ·rw[hdam];refine⟨?_,fun hnil=>?_⟩
  ·rw[aY,AD];exact ho
  ·rw[List.append_eq_nil_iff]at hnil;exact hv.2 ⟨h.row.2 hnil.1,by rw[hnil.2];rfl⟩
 ·rcases hs with hs|rfl
  ·exact .inl hs
  ·exact .inr ⟨h.kg1,let ⟨cur,q⟩:=h.kg2;aQ (Ab q) hg.size⟩
end
variable{F:Nat->Value}{G:Int->Nat->Value}{b i mp sc x:Nat}{blk:Int->Nat}{bv:Value}{st:St}{wx:World}
theorem WW(hw:Wf st)(h:AR wx S x st bv sc mp blk G)(hi:i∈st.order)(l:Dm)(hl:(st.sf i).next=l)(W H:Nat)(hW:l.w=W)(hH:l.h=H)(pa ha:Option Addr)(hm hk:Nat)(hpv:G i 16=.slice pa l.n l.n)(hhv:G i 24=.slice ha hm hk)(V:World)(hV:Bq wx V):
  Calls prog 107 #[.agg (SJ W H (.slice pa l.n l.n) l.x l.y l.clip l.cut (.slice ha hm hk))] V fun e w'=>∃g,e=.returned (.agg #[vj W,vj H,sj g l.n l.n])/\A2 w' g l.n (Cn l)/\V.heap.size<=g/\uj V w':=by
 have d:=(h.data i hi).kd hV;have lk:=(hw.lk i).2;rw[hl]at lk;have lw:=lk.w;have lh:=lk.h;obtain⟨pa',e,hp⟩:=d.npix;rw[hl]at e hp;rw[hpv]at e;injection e with e;subst e;obtain⟨R,hR,hG,hM⟩:=d.nhint;rw[hhv]at hR;rw[hl]at hM;have hn:W*H=l.n:=by unfold Dm.n;rw[hW,hH,<-Int.natCast_mul,aX]
 refine(NV W H l.n pa l.x l.y l.clip l.cut ha hm hk l.pix l.hint R V (by omega) (by omega) hn (fun h0=>?_) (Bz.bands hR.out) hG hM).mono ?_
 ·obtain⟨g,e1,_,e2⟩:=hp h0;exact⟨g,e1,e2⟩
 ·rintro e w' ⟨g,rfl,hb,hg,hB⟩;refine⟨g,rfl,?_,hg,hB⟩;have:(fun k:Nat=>l.hint ((k:Int)%W) ((k:Int)/W)&&decide ((l.pix k).2.2.2=255))=Cn l:=by
   funext k
   unfold Cn;rw[hW]
  rw[<-this];exact hb
theorem TN(h:B4 w b F)(v3 v4 v5 v6 v7 v8 v9 v10 v11 v12 v13:Value):Bq w (Lb w b v3 v4 v5 v6 v7 v8 v9 v10 v11 v12 v13):=fun g cur t ht e=>by
 obtain⟨scur,hscur,_⟩:=h;exact Ie w b g (neT e hscur (ht.ne (by unfold Dw;decide))) ..
theorem Yw(hil:i<st.sfs.length):(Go.Proofs.YtofinpocigbbeaaGreat.upd st i EY).sf i=EY (st.sf i):=by rw[Bf _ _ _ _ hil,if_pos rfl]
theorem Rz{W2:World}(hf:AW st)(hSl:∀g,S g->g<w.heap.size)(h:AR w S x st bv sc mp blk G)(hi:i∈st.order)(hbx:uj w wx){ob gx:Nat}{OL GR:Array Value}{vv:Value}{parts:List R4}
  (hob:Blk wx ob 181 OL) (hgx:Blk wx gx 122 GR) (hrow:AF wx w.heap.size vv parts) (hob1:w.heap.size<=ob) (hgx1:w.heap.size<=gx) (l:Dm) (hl:(st.sf i).next=l) (pv hv:Value) (hpv:G i 16=pv) (hhv:G i 24=hv) (kg:Nat)
  (W1:World) (hW1:W1=Lb wx (blk i) (vj l.w) (vj l.h) pv (vj l.x) (vj l.y) (vj l.clip.1) (vj l.clip.2.1) (vj l.clip.2.2.1) (vj l.clip.2.2.2) (.bool l.cut) hv) (hb:uj W1 W2) (hkg:wx.heap.size<=kg) (hbf:A2 W2 kg l.n (Cn l)) (oa:Option Addr) (on:Nat) (hon:on=(st.sf i).now.n) (h5:G i 5=.slice oa on on):
  Calls prog 108 #[pj (blk i)] (((W2.setCell (jA (blk i) 28) (vj l.w)).setCell (jA (blk i) 29) (vj l.h)).setCell (jA (blk i) 30) (sj kg l.n l.n)) fun e w'=>e=.returned (.tuple #[])/\∃G4,CmM w w' S x st i bv sc mp blk G4 kg ob gx OL GR vv parts oa on (st.sf i).now.pix:=by
 have hw:=hf.wf;have hil:=hw.lt hi;have hx:=h.below hbx;have hibS:S (blk i):=h.own.2.2.2 i (Af hi);have hibl:=hSl _ hibS;have hsx:=hbx.size;have hs:B4 wx (blk i) (G i):=hx.srf i (Af hi);have hsz:W1.heap.size=wx.heap.size:=by rw[hW1];exact Ju ..
 have hO1:Ac S w W1:=by
  rw[hW1];exact(Ac.below hbx).trans ((TL (S:=S) wx (blk i) hibS ..).mono fun g _ hg=>.inl hg)
 obtain⟨G3,h3⟩:=hx.nowK hw hi l hl pv hv hpv hhv kg W1 hW1 hb hkg hbf (fun g=>S g\/g=kg) (fun g hg=>.inl hg) (.inr rfl);have hO3:Ac S w (((W2.setCell (jA (blk i) 28) (vj l.w)).setCell (jA (blk i) 29) (vj l.h)).setCell (jA (blk i) 30) (sj kg l.n l.n)):=(((hO1.after hb).set (.inl hibS) _).set (.inl hibS) _).set (.inl hibS) _;have hoth:∀g,g<W2.heap.size->g≠blk i->(((W2.setCell (jA (blk i) 28) (vj l.w)).setCell (jA (blk i) 29) (vj l.h)).setCell (jA (blk i) 30) (sj kg l.n l.n)).heap[g]?=W2.heap[g]? :=fun g hg hne=>by
  rw[aL _ (jA (blk i) 30) g _ hne,aL _ (jA (blk i) 29) g _ hne,aL _ (jA (blk i) 28) g _ hne]
 have hs2:=hb.size;have hold:∀g,g<wx.heap.size->g≠blk i->(((W2.setCell (jA (blk i) 28) (vj l.w)).setCell (jA (blk i) 29) (vj l.h)).setCell (jA (blk i) 30) (sj kg l.n l.n)).heap[g]?=wx.heap[g]? :=fun g hg hne=>by
  rw[hoth g (by omega) hne,hb.block g (by omega),hW1,Ie wx _ g hne]
 have hW3s:(((W2.setCell (jA (blk i) 28) (vj l.w)).setCell (jA (blk i) 29) (vj l.h)).setCell (jA (blk i) 30) (sj kg l.n l.n)).heap.size=W2.heap.size:=by simp
 obtain⟨kcur,hkc,_⟩:=id hbf;have hkl:=Ab hkc;have hkd:Bq wx (((W2.setCell (jA (blk i) 28) (vj l.w)).setCell (jA (blk i) 29) (vj l.h)).setCell (jA (blk i) 30) (sj kg l.n l.n)):=fun g cur t ht e=>by
  obtain⟨scur,hscur,_⟩:=hs;exact hold g (Ab e) (neT e hscur (ht.ne (by unfold Dw;decide)))
 generalize (((W2.setCell (jA (blk i) 28) (vj l.w)).setCell (jA (blk i) 29) (vj l.h)).setCell (jA (blk i) 30) (sj kg l.n l.n))=W3 at h3 hO3 hoth hold hW3s hkd ⊢;have hfw:Wf (Go.Proofs.YtofinpocigbbeaaGreat.upd st i EY):=Hz hw hil (fun _=>rfl) (fun _=>rfl) ⟨(hw.lk i).2,(hw.lk i).2⟩;have e1:=Yw (st:=st) hil;have hpar:∀j,((Go.Proofs.YtofinpocigbbeaaGreat.upd st i EY).sf j).parent=(st.sf j).parent:=(B7 hil (g:=EY) fun _=>rfl).par;have hend:∀w':World,∀e:Ending,(e=.returned (.tuple #[])/\(∃G4,AR w' (fun g=>S g\/g=kg) x (cm st i) bv sc mp blk G4)/\Ac (fun g=>S g\/g=kg) W3 w'/\Bq W3 w')->e=.returned (.tuple #[])/\∃G4,CmM w w' S x st i bv sc mp blk G4 kg ob gx OL GR vv parts oa on (st.sf i).now.pix:=by
  rintro w' e ⟨rfl,⟨G4,h4⟩,r2,r3⟩;have hnew:∀g,w.heap.size<=g->g<wx.heap.size->w'.heap[g]?=wx.heap[g]? :=fun g h1 h2=>by
   rw[r2.block g (by omega) (fun hh=>by
    rcases hh with hh|hh
    ·have:=hSl g hh;omega
    ·omega),hold g h2 (by omega)]
  refine⟨rfl,G4,h4,hO3.trans (r2.mono fun g _ hg=>?_),by omega,⟨kcur,?_⟩,hob.keep (hnew _ hob1 (Ab hob)),hgx.keep (hnew _ hgx1 (Ab hgx)),⟨Ai hrow.1 fun g hg=>hnew g (hrow.1.lt g hg).1 (hrow.1.lt g hg).2,hrow.2⟩,fun hn=>?_,hSl⟩
  ·rcases hg with hg|rfl
   ·exact .inl hg
   ·exact .inr ⟨by omega,by omega⟩
  ·have hk3:W3.heap[kg]?=some (.cells kcur 4 (0,0)):=(hoth kg hkl (by omega)).trans hkc;exact(r3 kg kcur 4 (.inr (.inl rfl)) hk3).trans hk3
  ·obtain⟨a,f1,f2⟩:=(((hx.data i hi).kd hkd).kd r3).pix;rw[<-hon]at f1 f2;rw[h5]at f1;injection f1 with f1;subst f1;obtain⟨g,q1,_,q2⟩:=f2 hn;exact⟨g,q1,q2⟩
 by_cases hask:(st.sf i).ask=true
 ·obtain⟨s,s1,s2,s3,s4⟩:=hf.sib i hi hask;by_cases hso:s∈st.order
  ·have hputs:st.puts i=true:=by
    unfold St.puts;rw[hask,s1,(AV hw _).2 ⟨s,rfl,hso⟩];rfl
   refine(Rw hfw h3 i s hi hso s2 (by rw[hpar,hpar];exact s4) (st.sf i).above (by rw[e1];exact hask) (by rw[e1];exact s1) (by rw[e1];rfl)).mono ?_;rintro e w' ⟨rfl,r1,r2,r3⟩;refine hend w' _ ⟨rfl,?_,r2,r3⟩;have:=K9 st i (rsL st.order i s (st.sf i).above) (by rw[if_pos hputs,s1,aX]);rw[<-this];exact r1
  ·have hputs:¬st.puts i=true:=by
    unfold St.puts;rw[s1];intro hb;rw[Bool.and_eq_true]at hb;obtain⟨j,j1,j2⟩:=(AV hw _).1 hb.2;have:s=j:=by omega
    subst this;exact hso j2
   refine(PJ hfw h3 i s hi hso (by rw[e1];exact hask) (by rw[e1];exact s1)).mono ?_;rintro e w' ⟨rfl,r1,r2,r3⟩;refine hend w' _ ⟨rfl,?_,r2,r3⟩;have:=K9 st i st.order (by rw[if_neg hputs]);rw[<-this];exact r1
 ·have hask2:(st.sf i).ask=false:=by simpa using hask
  have hputs:¬st.puts i=true:=by
   unfold St.puts;rw[hask2];simp
  refine(Rv hfw h3 i hi (by rw[e1];exact hask2)).mono ?_;rintro e w' ⟨rfl,r1,r2,r3⟩;refine hend w' _ ⟨rfl,?_,r2,r3⟩;have:=K9 st i st.order (by rw[if_neg hputs]);rw[<-this];exact r1
theorem B4.cell(h:B4 w b F)(o:Nat)(ho:o<31):w.cell? (jA b o)=some (F o):=by
 obtain⟨cur,h1,h2,h3⟩:=h;rw[<-h3 o ho];have:=aP w b o cur _ _ h1;exact this
theorem B4.free(h:B4 w b F)(o:Nat):w.frozen? (jA b o)=false:=by
 obtain⟨cur,h1,h2,h3⟩:=h;exact Ax.free ⟨cur,h1,h2⟩ o
theorem Vq{V:World}{gb:Nat}(h:B4 V gb F)(a b:Int)(p:Option Addr)(n m:Nat):(St9 (jA gb 28) [vj a,vj b,.slice p n m]).run prog V=.ok () (((V.setCell (jA gb 28) (vj a)).setCell (jA gb 29) (vj b)).setCell (jA gb 30) (.slice p n m)):=by
 have e28:=h.cell 28 (by omega);have e29:=h.cell 29 (by omega);have e30:=h.cell 30 (by omega);have g28:=h.free 28;have g29:=h.free 29;have g30:=h.free 30;show(storeCells (jA gb 28) [vj a,vj b,.slice p n m] 0).run prog V=_
 go_simp
section
attribute [local go_sem high] Rs NO X5 Vo
attribute [local go_sem] DV DW BP BQ A3 G6
set_option linter.unusedSimpArgs false in
theorem NY{w:World}{S:Nat->Prop}{x:Nat}{st:St}(hf:AW st){bv:Value}{sc mp:Nat}{blk:Int->Nat}{G:Int->Nat->Value}(h:AR w S x st bv sc mp blk G)(hSl:∀g,S g->g<w.heap.size)(i:Nat)(hi:i∈st.order):
  Calls prog 64 #[pj (blk i)] w (NX S x st i bv w):=by
 have hw:=hf.wf;have hwc:=MH hw hf.sib hi;have hic:i∈(cm st i).order:=(EK hw hf.sib hi).mem_iff.2 hi;obtain⟨i0,hi0,hz0,hz1,hz2⟩:=cW C8;obtain⟨gb,hgb⟩:∃gb,blk i=gb:=⟨_,rfl⟩;obtain⟨N,hN⟩:∃N,(st.sf i).now=N:=⟨_,rfl⟩;obtain⟨K,hK⟩:∃K:Int,(st.pos i:Int)=K:=⟨_,rfl⟩;obtain⟨N2,hN2⟩:∃N2,((cm st i).sf i).now=N2:=⟨_,rfl⟩;obtain⟨K2,hK2⟩:∃K2:Int,((cm st i).pos i:Int)=K2:=⟨_,rfl⟩;obtain⟨parts,hparts⟩:∃parts,(st.visAll i).map st.seen=parts:=⟨_,rfl⟩;obtain⟨rn,hrn⟩:∃rn,parts.length=rn:=⟨_,rfl⟩;obtain⟨parts2,hparts2⟩:∃parts2,((cm st i).visAll i).map (cm st i).seen=parts2:=⟨_,rfl⟩;obtain⟨rn2,hrn2⟩:∃rn2,parts2.length=rn2:=⟨_,rfl⟩;have hr13:rn<=13:=by rw[<-hrn,<-hparts,List.length_map];exact Cg hw (Af hi)
 have hr13':rn2<=13:=by rw[<-hrn2,<-hparts2,List.length_map];exact Cg hwc (Af hic)
 obtain⟨a,ha⟩:∃a,N.w=a:=⟨_,rfl⟩;obtain⟨b,hb⟩:∃b,N.h=b:=⟨_,rfl⟩;obtain⟨opa,e5,_⟩:=(h.data i hi).pix;obtain⟨on,hon⟩:∃on,(st.sf i).now.n=on:=⟨_,rfl⟩;rw[hon]at e5;obtain⟨mb,hmb⟩:∃mb,st.moved i=mb:=⟨_,rfl⟩;have FG:Hid (∀V:World,uj w V->V.cell? (jA gb 3)=some (vj a)/\V.cell? (jA gb 4)=some (vj b)/\V.cell? (jA gb 5)=some (.slice opa on on)):=fun V hV=>by
  obtain⟨kc,kf,kl⟩:=(h.below hV).at (Af hi);have q:=(h.cells i (Af hi)).nat;have qn:=q.now;rw[hN]at qn;rw[<-hgb];exact⟨by rw[kc 3 (by omega),<-ha];exact congrArg some qn.w,by rw[kc 4 (by omega),<-hb];exact congrArg some qn.h,by rw[kc 5 (by omega),e5]⟩
 have HOl:Hid (∀V:World,uj w V->Calls prog 105 #[pj gb] V fun e w1=>e=.returned (.agg #[vj a,vj b,vj N.x,vj N.y,vj N.clip.1,vj N.clip.2.1,vj N.clip.2.2.1,vj N.clip.2.2.2,.bool N.cut,vj K])/\uj V w1/\uj w w1):=fun V hV=>by
  have:=J2 hw h i hi V hV;rw[hgb,hN,hK]at this;unfold olC at this;rw[ha,hb]at this;refine this.mono ?_;rintro e w1 ⟨rfl,h1⟩;exact⟨rfl,h1,hV.trans (h1.mono hV.size)⟩
 have HSp:Hid (∀V:World,uj w V->Calls prog 106 #[pj gb] V fun e w2=>∃v2 c2,e=.returned (.slice v2 rn c2)/\AF w2 w.heap.size (.slice v2 rn c2) parts/\uj V w2/\uj w w2):=fun V hV=>by
  have hr:=h.below hV;have:=EX hw (Af hi) (hr.lays hw (Af hi)) (hr.sl hw (Af hi));rw[hgb,hparts]at this;refine this.mono ?_;rintro e w2 ⟨v,rfl,h1,h2⟩;obtain⟨va,vc,rfl⟩:=h1.form;rw[hrn]at h1 ⊢;exact⟨va,vc,rfl,h1.lower hV.size,h2,hV.trans (h2.mono hV.size)⟩
 rw[hgb];have HRaw:=Aa h;have HF:=Aa (aK hf (aK hSl (aK hi (aK hwc (aK hic (aK hw hmb))))));have HE:=Aa (aK hgb (aK hN (aK hK (aK hN2 (aK hK2 (aK hparts (aK hrn (aK hparts2 (aK hrn2 (aK ha (aK hb (aK e5 hon))))))))))));clear h hf hSl hi hwc hic hw hmb hgb hN hK hN2 hK2 hparts hrn hparts2 hrn2 ha hb e5 hon;go_enter func64,ntmps64
 go_upto_region 1 with fail
 go_cut [3,4,5] (fun s3 s4 s5 wx=>∃ob gx v c,s3=pj ob/\s4=pj gx/\s5=.slice v rn c/\Hid (uj w wx/\Blk wx ob 181 #[vj a,vj b,vj N.x,vj N.y,vj N.clip.1,vj N.clip.2.1,vj N.clip.2.2.1,vj N.clip.2.2.2,.bool N.cut,vj K]/\Blk wx gx 122 #[vj a,vj b,.slice opa on on]/\AF wx w.heap.size (.slice v rn c) parts/\w.heap.size<=ob/\w.heap.size<=gx))
 case first=>
  clear HRaw HF HE
  go_region_held3 (fun w'=>w'.cell? (jA gb 3)=some (vj a)/\w'.cell? (jA gb 4)=some (vj b)/\w'.cell? (jA gb 5)=some (.slice opa on on))
   (first
    |(refine FG.out _ ?_;(repeat(first|with_reducible exact aN _ _|with_reducible exact HB1.out|with_reducible exact HB2.out.1|with_reducible refine bD ?_ |with_reducible refine Below.setRow ?_ (by first|omega|(simp<;>omega)) _|with_reducible refine bS ?_ (by first|omega|(simp<;>omega)) _));done)
    |fail)
   (first
    |(go_at_call 105;refine(HOl.out _ ?_).mono ?_;(repeat(first|with_reducible exact aN _ _|with_reducible refine bD ?_ |with_reducible refine bS ?_ (by first|omega|(simp<;>omega)) _));rintro e w1 ⟨rfl,hb,hb1⟩;have n1:=hb.size;(try simp at n1);(try have p1:w1.heap.size≠w.heap.size:=by omega);(try have p1':w.heap.size≠w1.heap.size:=by omega);have HB1:=Aa hb1;(try(have q0:=Ax.under (n:=w.heap.size) (T:=181) (k:=10) hb;simp[DV,BP,A3]at q0));(try(have q1:=Ax.under (n:=w.heap.size+1) (T:=181) (k:=10) hb;simp[DV,BP,A3]at q1));(try(have r0:=Ax.under (n:=w.heap.size) (T:=122) (k:=3) hb;simp[DW,BQ,A3]at r0));(try(have r1:=Ax.under (n:=w.heap.size+1) (T:=122) (k:=3) hb;simp[DW,BQ,A3]at r1));clear hb1 hb)
    |(go_at_call 106;refine(HSp.out _ ?_).mono ?_;(repeat(first|with_reducible exact aN _ _|with_reducible exact HB1.out|with_reducible refine bD ?_ |with_reducible refine bS ?_ (by first|omega|(simp<;>omega)) _));rintro e w2 ⟨v2,c2,rfl,hr2,hb,hb2⟩;have n2:=hb.size;(try simp at n2);(try have p2:w2.heap.size≠w.heap.size:=by omega);(try have p2':w.heap.size≠w2.heap.size:=by omega);(try have p3:w2.heap.size≠w1.heap.size:=by omega);(try have p3':w1.heap.size≠w2.heap.size:=by omega);have HB2:=Aa (aK hb2 hr2);(try(have q2:=Ax.under (n:=w.heap.size) (T:=181) (k:=10) hb;simp[DV,BP,A3, *]at q2));(try(have q3:=Ax.under (n:=w.heap.size+1) (T:=181) (k:=10) hb;simp[DV,BP,A3, *]at q3));(try(have q4:=Ax.under (n:=w1.heap.size) (T:=181) (k:=10) hb;simp[DV,BP,A3]at q4));(try(have q5:=Ax.under (n:=w1.heap.size+1) (T:=181) (k:=10) hb;simp[DV,BP,A3]at q5));(try(have r2:=Ax.under (n:=w.heap.size) (T:=122) (k:=3) hb;simp[DW,BQ,A3, *]at r2));(try(have r3:=Ax.under (n:=w.heap.size+1) (T:=122) (k:=3) hb;simp[DW,BQ,A3, *]at r3));(try(have r4:=Ax.under (n:=w1.heap.size) (T:=122) (k:=3) hb;simp[DW,BQ,A3]at r4));(try(have r5:=Ax.under (n:=w1.heap.size+1) (T:=122) (k:=3) hb;simp[DW,BQ,A3]at r5));clear hb2 hb hr2)
    |fail)
  all_goals go_wp2_with fail
  all_goals go_meet
  all_goals refine⟨_,_,_,_,rfl,rfl,rfl,?_⟩
  all_goals unfold Hid
  all_goals refine⟨?_,?_,?_,?_,?_,?_⟩
  all_goals first
   |((repeat(first|with_reducible exact aN _ _|with_reducible exact HB2.out.1|with_reducible refine bD ?_ |with_reducible refine Below.setRow ?_ (by first|omega|(simp<;>omega)) _|with_reducible refine bS ?_ (by first|omega|(simp<;>omega)) _));done)
   |omega
   |(simp;omega)
   |((repeat(first
     |with_reducible refine Blk.sameRow (T:=181) (k:=10) ?_ _
     |with_reducible refine Blk.sameRow (T:=122) (k:=3) ?_ _
     |with_reducible refine Blk.otherRow ?_ (by first|omega|(simp<;>omega))))
     simp[DV,DW,BP,BQ,A3,G6, *];done)
   |(refine AF.rowT (T:=122) (k:=3) (AF.rowT (T:=181) (k:=10) ?_ ?_ (by decide) _) ?_ (by decide) _
     all_goals first
      |((repeat(first|exact HB2.out.2|refine AF.alloc ?_ _));done)
      |(simp[DV,DW,BP,BQ,A3,G6, *];done))
 case rest=>
  obtain⟨ob,gx,va,vc,rfl,rfl,rfl,HC⟩:=hcut;obtain⟨hbx,hob,hgx,hrow,hob1,hgx1⟩:=HC.out;obtain⟨hf,hSl,hi,hwc,hic,hw,hmb⟩:=HF.out;obtain⟨hgb,hN,hK,hN2,hK2,hparts,hrn,hparts2,hrn2,ha,hb,e5,hon⟩:=HE.out;have h:=HRaw.out;have hx:=h.below hbx;obtain⟨kc,kf,kl⟩:=hx.at (Af hi);have q:=(hx.cells i (Af hi)).nat;obtain⟨l,hl⟩:∃l,(st.sf i).next=l:=⟨_,rfl⟩;have lk:=(hw.lk i).2;rw[hl]at lk;have lw:=lk.w;have lh:=lk.h;obtain⟨W,hWl⟩:∃W:Nat,l.w=(W:Int):=⟨l.w.toNat,by omega⟩;obtain⟨H,hHl⟩:∃H:Nat,l.h=(H:Int):=⟨l.h.toNat,by omega⟩;obtain⟨n,hn⟩:∃n,l.n=n:=⟨_,rfl⟩;obtain⟨pa,e16,_⟩:=(hx.data i hi).npix;rw[hl,hn]at e16;obtain⟨ha',hm,hk,e24⟩:=q.next.hint;have e24':G i 24=.slice ha' hm hk:=e24;have qn:=q.next;rw[hl]at qn;obtain⟨W1,hW1⟩:∃W1,W1=Lb wc (blk i) (vj l.w) (vj l.h) (.slice pa n n) (vj l.x) (vj l.y) (vj l.clip.1) (vj l.clip.2.1) (vj l.clip.2.2.1) (vj l.clip.2.2.2) (.bool l.cut) (.slice ha' hm hk):=⟨_,rfl⟩;have hs1:B4 W1 (blk i) (Yv (G i) (vj l.w) (vj l.h) (.slice pa n n) (vj l.x) (vj l.y) (vj l.clip.1) (vj l.clip.2.1) (vj l.clip.2.2.1) (vj l.clip.2.2.2) (.bool l.cut) (.slice ha' hm hk)):=by rw[hW1];exact PO (hx.srf i (Af hi)) ..
  have hkd1:Bq wc W1:=by rw[hW1];exact TN (hx.srf i (Af hi)) _ _ _ _ _ _ _ _ _ _ _
  have hsz1:W1.heap.size=wc.heap.size:=by rw[hW1];exact Ju ..
  have HKh:Hid (Calls prog 107 #[.agg #[vj W,vj H,.slice pa n n,vj l.x,vj l.y,vj l.clip.1,vj l.clip.2.1,vj l.clip.2.2.1,vj l.clip.2.2.2,.bool l.cut,.slice ha' hm hk]] W1 fun e w'=>∃g,e=.returned (.agg #[vj W,vj H,sj g n n])/\A2 w' g n (Cn l)/\W1.heap.size<=g/\uj W1 w'):=by
   have:=WW hw hx hi l hl W H hWl hHl pa ha' hm hk (by rw[hn];exact e16) e24' W1 hkd1;rw[hn]at this;exact this
  have HSt:Hid (∀(V:World) (kg:Nat),uj W1 V->(St9 (jA gb 28) [vj W,vj H,sj kg n n]).run prog V=.ok () (((V.setCell (jA gb 28) (vj W)).setCell (jA gb 29) (vj H)).setCell (jA gb 30) (sj kg n n))):=fun V kg hV=>by
   rw[<-hgb];exact Vq (hs1.keep (hV.block (blk i) (by omega))) _ _ _ _ _
  have HRs:Hid (∀(W2:World) (kg:Nat),A2 W2 kg n (Cn l)->W1.heap.size<=kg->uj W1 W2->Calls prog 108 #[pj gb] (((W2.setCell (jA gb 28) (vj W)).setCell (jA gb 29) (vj H)).setCell (jA gb 30) (sj kg n n)) fun e w'=>e=.returned (.tuple #[])/\∃G4,CmM w w' S x st i bv sc mp blk G4 kg ob gx #[vj a,vj b,vj N.x,vj N.y,vj N.clip.1,vj N.clip.2.1,vj N.clip.2.2.1,vj N.clip.2.2.2,.bool N.cut,vj K] #[vj a,vj b,.slice opa on on] (.slice va rn vc) parts opa on (st.sf i).now.pix):=fun W2 kg h1 h2 h3=>by
   have:=Rz hf hSl h hi hbx hob hgx hrow hob1 hgx1 l hl _ _ e16 e24' kg W1 hW1 h3 (by omega) (by rw[hn];exact h1) opa on hon.symm e5;rw[hgb,hWl,hHl,hn]at this;exact this
  have HD1:Hid (W1.cell? (jA gb 3)=some (vj W)/\W1.cell? (jA gb 4)=some (vj H)/\W1.cell? (jA gb 5)=some (.slice pa n n)/\W1.cell? (jA gb 6)=some (vj l.x)/\W1.cell? (jA gb 7)=some (vj l.y)/\W1.cell? (jA gb 8)=some (vj l.clip.1)/\W1.cell? (jA gb 9)=some (vj l.clip.2.1)/\W1.cell? (jA gb 10)=some (vj l.clip.2.2.1)/\W1.cell? (jA gb 11)=some (vj l.clip.2.2.2)/\W1.cell? (jA gb 12)=some (.bool l.cut)/\W1.cell? (jA gb 13)=some (.slice ha' hm hk)):=by
   rw[<-hgb,<-hWl,<-hHl];exact⟨hs1.cell 3 (by omega),hs1.cell 4 (by omega),hs1.cell 5 (by omega),hs1.cell 6 (by omega),hs1.cell 7 (by omega),hs1.cell 8 (by omega),hs1.cell 9 (by omega),hs1.cell 10 (by omega),hs1.cell 11 (by omega),hs1.cell 12 (by omega),hs1.cell 13 (by omega)⟩
  have c14:=(kc 14 (by omega)).trans (congrArg some qn.w);have c15:=(kc 15 (by omega)).trans (congrArg some qn.h);have c16:=(kc 16 (by omega)).trans (congrArg some e16);have c17:=(kc 17 (by omega)).trans (congrArg some qn.x);have c18:=(kc 18 (by omega)).trans (congrArg some qn.y);have c19:=(kc 19 (by omega)).trans (congrArg some qn.c0);have c20:=(kc 20 (by omega)).trans (congrArg some qn.c1);have c21:=(kc 21 (by omega)).trans (congrArg some qn.c2);have c22:=(kc 22 (by omega)).trans (congrArg some qn.c3);have c23:=(kc 23 (by omega)).trans (congrArg some qn.cut);have c24:=(kc 24 (by omega)).trans (congrArg some e24');have c3:=kc 3 (by omega);have c4:=kc 4 (by omega);have c5:=kc 5 (by omega);have c6:=kc 6 (by omega);have c7:=kc 7 (by omega);have c8:=kc 8 (by omega);have c9:=kc 9 (by omega);have c10:=kc 10 (by omega);have c11:=kc 11 (by omega);have c12:=kc 12 (by omega);have c13:=kc 13 (by omega);have f3:=kf 3;have f4:=kf 4;have f5:=kf 5;have f6:=kf 6;have f7:=kf 7;have f8:=kf 8;have f9:=kf 9;have f10:=kf 10;have f11:=kf 11;have f12:=kf 12;have f13:=kf 13;rw[hWl]at c14 hW1;rw[hHl]at c15 hW1;rw[hgb]at c3 c4 c5 c6 c7 c8 c9 c10 c11 c12 c13 c14 c15 c16 c17 c18 c19 c20 c21 c22 c23 c24 f3 f4 f5 f6 f7 f8 f9 f10 f11 f12 f13 hW1;have HW1:=Aa hW1;unfold Lb at HW1;have HL:=Aa hl;clear HC hbx hob hgx hrow hob1 hgx1 hf hSl hi hwc hic hw hmb hgb hN hK hN2 hK2 hparts hrn hparts2 hrn2 ha hb e5 hon h hx kc kf kl q lk lw lh hWl hHl hn e16 e24 e24' qn hs1 hkd1 hsz1 hW1 hl FG HOl HSp
  go_upto_region 3 with fail
  rw[<-HW1.out];clear c3 c4 c5 c6 c7 c8 c9 c10 c11 c12 c13 c14 c15 c16 c17 c18 c19 c20 c21 c22 c23 c24 f3 f4 f5 f6 f7 f8 f9 f10 f11 f12 f13;obtain⟨d3,d4,d5,d6,d7,d8,d9,d10,d11,d12,d13⟩:=HD1.out
  go_upto_region 4 with(go_at_call 107;refine HKh.out.mono ?_;rintro e W2 ⟨kg,rfl,hbf,hkg,hB2⟩;have eSt:=HSt.out W2 kg hB2;have HB2:=Aa (aK hbf (aK hkg hB2));clear hbf hkg hB2)
  clear d3 d4 d5 d6 d7 d8 d9 d10 d11 d12 d13 eSt HSt
  go_upto_region 5 with(go_at_call 108;refine(HRs.out W2 kg HB2.out.1 HB2.out.2.1 HB2.out.2.2).mono ?_;rintro e W4 ⟨rfl,G4,hM⟩;have HM4:=Aa hM;clear hM)
  clear HRs HKh HW1 HD1;obtain⟨hf,hSl,hi,hwc,hic,hw,hmb⟩:=HF.out;obtain⟨hgb,hN,hK,hN2,hK2,hparts,hrn,hparts2,hrn2,ha,hb,e5,hon⟩:=HE.out;have hmq:NP N2 K2 N K= !mb:=by
   rw[<-hmb];unfold St.moved;rw[hN2,hK2,hN,hK];simp
  have HOl2:Hid (∀V:World,uj W4 V->Calls prog 105 #[pj gb] V fun e w1=>e=.returned (.agg #[vj N2.w,vj N2.h,vj N2.x,vj N2.y,vj N2.clip.1,vj N2.clip.2.1,vj N2.clip.2.2.1,vj N2.clip.2.2.2,.bool N2.cut,vj K2])/\uj W4 w1):=fun V hV=>by
   have:=J2 hwc HM4.out.raw i hic V hV;rw[hgb,hN2,hK2]at this;unfold olC at this;refine this.mono ?_;rintro e w1 ⟨rfl,h1⟩;exact⟨rfl,hV.trans (h1.mono hV.size)⟩
  have FcS:Hid (∀V:World,uj W4 V->V.cell? (jA ob 0)=some (vj a)/\V.cell? (jA ob 1)=some (vj b)/\V.cell? (jA ob 2)=some (vj N.x)/\V.cell? (jA ob 3)=some (vj N.y)/\V.cell? (jA ob 4)=some (vj N.clip.1)/\V.cell? (jA ob 5)=some (vj N.clip.2.1)/\V.cell? (jA ob 6)=some (vj N.clip.2.2.1)/\V.cell? (jA ob 7)=some (vj N.clip.2.2.2)/\V.cell? (jA ob 8)=some (.bool N.cut)/\V.cell? (jA ob 9)=some (vj K)):=fun V hV=>by
   have k:=(HM4.out.below hV).ol;exact⟨k.cell 0,k.cell 1,k.cell 2,k.cell 3,k.cell 4,k.cell 5,k.cell 6,k.cell 7,k.cell 8,k.cell 9⟩
  have HQe:Hid (∀V:World,(Op.equalIn 10000 181 (.agg #[vj N2.w,vj N2.h,vj N2.x,vj N2.y,vj N2.clip.1,vj N2.clip.2.1,vj N2.clip.2.2.1,vj N2.clip.2.2.2,.bool N2.cut,vj K2]) (.agg #[vj a,vj b,vj N.x,vj N.y,vj N.clip.1,vj N.clip.2.1,vj N.clip.2.2.1,vj N.clip.2.2.2,.bool N.cut,vj K])).run prog V=.ok (!mb) V):=fun V=>by
   have:=Z7 N2 K2 N K V;unfold olC at this;rw[ha,hb,hmq]at this;exact this
  clear hf hSl hi hwc hic hw hmb hgb hN hK hN2 hK2 hparts hrn hparts2 hrn2 ha hb e5 hon hmq
  go_cut [35] (fun s35 wx=>s35=.bool mb/\Hid (uj W4 wx))
  case first=>
   have eqs:=HQe.out;clear HQe HRaw HF HE
   go_region_held3 (fun w'=>w'.cell? (jA ob 0)=some (vj a)/\w'.cell? (jA ob 1)=some (vj b)/\w'.cell? (jA ob 2)=some (vj N.x)/\w'.cell? (jA ob 3)=some (vj N.y)/\w'.cell? (jA ob 4)=some (vj N.clip.1)/\w'.cell? (jA ob 5)=some (vj N.clip.2.1)/\w'.cell? (jA ob 6)=some (vj N.clip.2.2.1)/\w'.cell? (jA ob 7)=some (vj N.clip.2.2.2)/\w'.cell? (jA ob 8)=some (.bool N.cut)/\w'.cell? (jA ob 9)=some (vj K))
    (first
     |(refine FcS.out _ ?_;(repeat(first|with_reducible exact aN _ _|with_reducible exact HB5.out|with_reducible refine bD ?_));done)
     |fail)
    (first
     |(go_at_call 105;refine(HOl2.out _ ?_).mono ?_;(repeat(first|with_reducible exact aN _ _|with_reducible refine bD ?_));rintro e w5 ⟨rfl,hb5⟩;have HB5:=Aa hb5;clear hb5)
     |fail)
   all_goals go_wp2_with fail
   all_goals go_meet
   all_goals exact⟨by simp,HB5.out⟩
  case rest=>
   obtain⟨rfl,HZ⟩:=hcut;have HM5:=Aa (HM4.out.below HZ.out);clear HOl2 FcS HQe HM4 HZ;cases mb with
   |true=>
    have HSp2:Hid (Calls prog 106 #[pj gb] wc fun e w2=>∃v2 c2,e=.returned (.slice v2 rn2 c2)/\AF w2 wc.heap.size (.slice v2 rn2 c2) parts2/\uj wc w2):=by
     obtain⟨hf,hSl,hi,hwc,hic,hw,hmb⟩:=HF.out;obtain⟨hgb,hN,hK,hN2,hK2,hparts,hrn,hparts2,hrn2,ha,hb,e5,hon⟩:=HE.out;have hr:=HM5.out.raw;have:=EX hwc (Af hic) (hr.lays hwc (Af hic)) (hr.sl hwc (Af hic));rw[hgb,hparts2]at this;refine this.mono ?_;rintro e w2 ⟨v,rfl,h1,h2⟩;obtain⟨va,vc,rfl⟩:=h1.form;rw[hrn2]at h1 ⊢;exact⟨va,vc,rfl,h1,h2⟩
    have HAp:Hid (∀(w6:World) (v2:Option Addr) (c2:Nat),AF w6 wc.heap.size (.slice v2 rn2 c2) parts2->uj wc w6->w6.ownsRow w.heap.size 53 4 (.slice va rn vc) rn (Ae parts)/\(Ae parts2).length=rn2*4/\((Value.slice v2 rn2 c2=jj/\rn2=0)\/∃ad c,Value.slice v2 rn2 c2=.slice (some ad) rn2 c/\∀j u,(Ae parts2)[j]?=some u->w6.cell? (ad.add j)=some u)/\w.heap.size<=w6.heap.size/\(∀v9 w9,w9.ownsRow w.heap.size 53 4 v9 (rn+rn2) (Ae parts++Ae parts2)->w6.grownBy w9 (Value.slice va rn vc).ownBlock->(v9=jj↔Value.slice va rn vc=jj/\rn2=0)->NX S x st i bv w (.returned v9) w9)):=fun w6 v2 c2 h1 h2=>by
     obtain⟨hf,hSl,hi,hwc,hic,hw,hmb⟩:=HF.out;obtain⟨hgb,hN,hK,hN2,hK2,hparts,hrn,hparts2,hrn2,ha,hb,e5,hon⟩:=HE.out;have hm6:=HM5.out.below h2;have hr:=hm6.row.1;rw[hrn]at hr;have hnw:=TM h1;rw[hrn2]at hnw;refine⟨hr,by rw[AT,hrn2],hnw,hm6.only.size,fun v9 w9 k1 k2 k3=>?_⟩;exact hm6.moved hparts.symm hparts2.symm hmb (by rw[hrn,hrn2];exact k1) k2 (by rw[hrn2];exact k3)
    clear HM5 HRaw HF HE
    go_wp2_with(first
     |(go_at_call 106;refine HSp2.out.mono ?_;rintro e w6 ⟨v2,c2,rfl,hr2,hb6⟩;have H6:=Aa (HAp.out w6 v2 c2 hr2 hb6);clear hr2 hb6)
     |(at_builtin;refine Am (P:=prog) rfl (.tmp 36) (.tmp 38) 33 rfl w.heap.size 53 i0 _ 4 32 underlying33 hi0 hz0 hz1 hz2 rfl (by decide) (.slice va rn vc) rn (Ae parts) rfl H6.out.1 (.slice v2 rn2 c2) rn2 (Ae parts2) rfl H6.out.2.1 H6.out.2.2.1 (L7 _) (by unfold maxLen;omega) (by omega) H6.out.2.2.2.1 ?_;intro v9 w9 ho9 hg9 hn9 ha9;have H9:=Aa (H6.out.2.2.2.2 v9 w9 ho9 hg9 hn9);obtain⟨ga,gc,hvf⟩:=Al ho9;subst hvf;clear ho9 hg9 hn9 ha9))
    go_ret;exact H9.out
   |false=>
    obtain⟨Q,hQ⟩:∃Q,BG ((cm st i).otherAt i (st.sf i).now.pix) ((cm st i).seen i)=Q:=⟨_,rfl⟩;have HOt:Hid (Calls prog 109 #[pj gb,.agg #[vj a,vj b,.slice opa on on]] wc fun e w'=>e=.returned (.agg #[vj Q.1,vj Q.2.1,vj Q.2.2.1,vj Q.2.2.2])/\uj wc w'):=by
     obtain⟨hf,hSl,hi,hwc,hic,hw,hmb⟩:=HF.out;obtain⟨hgb,hN,hK,hN2,hK2,hparts,hrn,hparts2,hrn2,ha,hb,e5,hon⟩:=HE.out;have hq:NP N2 K2 N K=true:=by
      unfold St.moved at hmb;rw[hN2,hK2,hN,hK]at hmb;simpa using hmb
     unfold NP at hq;simp only[Bool.and_eq_true,beq_iff_eq]at hq;have q1:N2.w=a:=hq.1.trans ha;have q2:N2.h=b:=hq.2.1.trans hb;have q3:N2.n=on:=by
      rw[<-hon,hN];unfold Dm.n;rw[hq.1,hq.2.1]
     have:=Kj hwc HM5.out.raw i hic opa (st.sf i).now.pix (by
      rw[hN2,q3];exact HM5.out.was)
     rw[hgb,hN2,q1,q2,q3,hQ]at this;exact this
    have HEn:Hid (∀w6:World,uj wc w6->NX S x st i bv w (.returned (sj w6.heap.size 1 1)) (w6.alloc (.cells #[vj Q.1,vj Q.2.1,vj Q.2.2.1,vj Q.2.2.2] 53))):=fun w6 h6=>by
     obtain⟨hf,hSl,hi,hwc,hic,hw,hmb⟩:=HF.out;have hm6:=HM5.out.below h6;have hm7:=hm6.below ((aN w6.heap.size w6).alloc (aO _) (.cells #[vj Q.1,vj Q.2.1,vj Q.2.2.1,vj Q.2.2.2] 53));refine⟨_,rfl,?_,hm7.pane,hm7.only⟩;have:st.cmDam i=[Q]:=by
      unfold St.cmDam;rw[hmb,if_neg (by simp),hQ]
     rw[this];exact(Vp w6 Q).lower hm6.only.size
    have HGr:Hid (wc.cell? (jA gx 0)=some (vj a)/\wc.cell? (jA gx 1)=some (vj b)/\wc.cell? (jA gx 2)=some (.slice opa on on)):=⟨HM5.out.gr.cell 0,HM5.out.gr.cell 1,HM5.out.gr.cell 2⟩;obtain⟨g0,g1,g2⟩:=HGr.out;clear HM5 HRaw HF HE hQ
    go_wp2_with(go_at_call 109;refine HOt.out.mono ?_;rintro e w6 ⟨rfl,hb6⟩;have H6:=Aa (HEn.out w6 hb6);clear hb6)
    go_ret;exact H6.out
end
end Go.Proofs.YtofinpocigbbeaaGreat
