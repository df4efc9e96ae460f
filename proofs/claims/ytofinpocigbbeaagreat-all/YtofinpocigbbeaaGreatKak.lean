import Derived.Test.YtofinpocigbbeaaGreatKah
import Derived.Test.YtofinpocigbbeaaGreatKaj
import Derived.Lib.SmallJoins
set_option maxHeartbeats 2000000
set_option maxRecDepth 100000
set_option linter.unusedSimpArgs false
namespace Go.Proofs.YtofinpocigbbeaaGreat
open Go.Proofs.Tryz Go.RowKit
attribute [local go_sem ↓] Go.wp_at_zero Go.wp_at_succ
def Cv.back(d:Cv)(k:Nat):Rgn:=(d.dam[(d.nw+4-k)%4]?).getD []
def Cv.on(d:Cv)(x y:Int):Bool:=inR (0,0,d.W,d.H) x y
def Cv.stale(d:Cv)(age:Nat)(x y:Int):Bool:=if age=0\/4<age then d.on x y else(List.range age).any fun k=>Ay (d.back k) x y
theorem Cv.back_good{d:Cv}(h:Co d)(k:Nat):AL (d.back k):=by
 unfold Cv.back;rcases e:d.dam[(d.nw+4-k)%4]?with _|R
 ·exact C7
 ·exact h.good R (cH e)
theorem KO(k:Nat)(p:Nat->Bool):(List.range (k+1)).any p=((List.range k).any p||p k):=by
 rw[List.range_succ,List.any_append];simp
theorem LV{w:World}{S:Nat->Prop}{c:Nat}{d:Cv}{bv:Value}{rg:Nat}{dv:Array Value}(h:AK w S c d bv rg dv)(hd:Co d)(age:Nat)(hage:age<=4611686018427387904):
  Calls prog 76 #[pj c,vj age] w fun e w'=>∃u O,e=.returned (.agg #[u])/\AJ w' u O/\AL O/\(∀x y,Ay O x y=d.stale age x y)/\uj w w':=by
 have hnw:=hd.nw;have k0:w.cell? (jA c 0)=some (vj 0):=h.blk.cell 0;have k1:w.cell? (jA c 1)=some (vj 0):=h.blk.cell 1;have k2:w.cell? (jA c 2)=some (vj d.W):=h.blk.cell 2;have k3:w.cell? (jA c 3)=some (vj d.H):=h.blk.cell 3;have k5:w.cell? (jA c 5)=some (sj rg 4 4):=h.blk.cell 5;have k6:w.cell? (jA c 6)=some (vj d.nw):=h.blk.cell 6;have hcl:=Ak k5;have hcn:¬c=w.heap.size:=by omega
 by_cases hb:age=0\/4<age
 ·have HO:Hid (∀W:World,As W (sj (w.heap.size+1) 1 1) [(0,0,(d.W:Int),(d.H:Int))]->Calls prog 73 #[sj (w.heap.size+1) 1 1] W fun e w'=>∃u O,e=.returned (.agg #[u])/\AJ w' u O/\AL O/\(∀x y,Ay O x y=d.stale age x y)/\uj W w'):=fun W hW=>(KF _ _ W hW (by simp) (fun r hr=>by
   simp at hr;subst hr;have:=hd.w1;have:=hd.h1;unfold AU;simp;omega)).mono fun e w' ⟨u,O,q1,q2,q3,q4,q5⟩=>⟨u,O,q1,q2,q3,fun x y=>by rw[q4];unfold Cv.stale Cv.on;rw[if_pos hb];simp[AE],q5⟩
  clear h hd;obtain⟨post,hpost⟩:∃P:Ending->World->Prop,P=fun e w'=>∃u O,e=.returned (.agg #[u])/\AJ w' u O/\AL O/\(∀x y,Ay O x y=d.stale age x y)/\uj w w':=⟨_,rfl⟩;have HE:Hid (∀(W W':World) (u:Value) (O:Rgn),uj w W->W.heap[w.heap.size]?=some (.cells #[jj] 136 (0,0))->AJ W' u O->AL O->(∀x y,Ay O x y=d.stale age x y)->uj W W'->post (.returned (.agg #[u])) (W'.setCell (jA w.heap.size 0) u)):=fun W W' u O h1 h2 h3 h4 h5 h6=>by
   rw[hpost];have h7:=(h6.block _ (Ab h2)).trans h2;exact⟨u,O,rfl,h3.setBox h7 u,h4,h5,(h1.trans (h6.mono h1.size)).setCell (by simp) _⟩
  rw[<-hpost];clear hpost;have HO2:Hid (Calls prog 73 #[sj (w.heap.size+1) 1 1] ((w.alloc (.cells #[jj] 136)).alloc (.cells #[vj 0,vj 0,vj d.W,vj d.H] 53)) fun e w'=>∃ua un uc,e=.returned (.agg #[.slice ua un uc])/\w'.cell? (jA w.heap.size 0)=some (jj)/\w'.frozen? (jA w.heap.size 0)=false/\Hid (post (.returned (.agg #[.slice ua un uc])) (w'.setCell (jA w.heap.size 0) (.slice ua un uc)))):=by
   have e0:((w.alloc (.cells #[jj] 136)).alloc (.cells #[vj 0,vj 0,vj d.W,vj d.H] 53)).heap[w.heap.size]?=some (.cells #[jj] 136 (0,0)):=(Ad _ _ _ (by simp)).trans (aR w _);have e1:((w.alloc (.cells #[jj] 136)).alloc (.cells #[vj 0,vj 0,vj d.W,vj d.H] 53)).heap[w.heap.size+1]?=some (.cells #[vj 0,vj 0,vj d.W,vj d.H] 53 (0,0)):=by
    have q:=aR (w.alloc (.cells #[jj] 136)) (.cells #[vj 0,vj 0,vj d.W,vj d.H] 53);rw[show(w.alloc (.cells #[jj] 136)).heap.size=w.heap.size+1 by simp]at q;exact q
   have ec:=fun o=>aP _ _ o _ _ _ e1;refine(HO.out _ ⟨some (jA (w.heap.size+1) 0),1,rfl,fun _=>⟨w.heap.size+1,0,rfl,fun k hk=>?_⟩⟩).mono fun e w' ⟨u,O,q1,q2,q3,q4,q5⟩=>?_
   ·have hk0:k=0:=by simpa using hk
    subst hk0;exact⟨ec 0,ec 1,ec 2,ec 3⟩
   ·obtain⟨ua,un,uc,rfl⟩:=q2.form;have hz:=(q5.block _ (Ab e0)).trans e0;refine⟨ua,un,uc,q1,cell_of_one hz,free_of_one hz,HE.out _ _ _ O ?_ e0 q2 q3 q4 q5⟩;exact Joins.below_alloc2 w _ _
  clear HO HE;rcases hb with rfl|h4
  ·go_enter func76,ntmps76
   go_wp2_with(go_at_call 73;refine HO2.out.mono ?_;rintro e w1 ⟨ua,un,uc,rfl,z1,z2,HP⟩)
   refine cU (v:=.agg #[.slice ua un uc]) (by simp[results,results76,go_sem,z1]) rfl HP.out
  ·have h40:¬(age:Int)=0:=by omega
   have h41:(4:Int)<(age:Int):=by omega
   go_enter func76,ntmps76
   go_wp2_with(go_at_call 73;refine HO2.out.mono ?_;rintro e w1 ⟨ua,un,uc,rfl,z1,z2,HP⟩)
   refine cU (v:=.agg #[.slice ua un uc]) (by simp[results,results76,go_sem,z1]) rfl HP.out
 ·have h0:¬(age:Int)=0:=by omega
  have h4:¬(4:Int)<(age:Int):=by omega
  have hst:∀x y,d.stale age x y=(List.range age).any fun k=>Ay (d.back k) x y:=fun x y=>by unfold Cv.stale;rw[if_neg hb]
  have hrl:=Ab h.ring;have HBk:Hid (∀k:Nat,k<age->∃a n c',Bz w 0 (.slice a n c') (d.back k)/\∀W:World,uj w W->Calls prog 104 #[.agg #[sj rg 4 4,vj d.nw],vj k] W fun e w'=>e=.returned (.agg #[.slice a n c'])/\uj W w'):=fun k hk=>by
   have hq:(d.nw+4-k)%4<d.dam.length:=by rw[hd.ln];omega
   obtain⟨v0,hv0,ho0⟩:=h.regs _ _ (aU hq);replace ho0:=ho0.out;obtain⟨a0,n0,c0,rfl⟩:=ho0.bands.form;refine⟨a0,n0,c0,?_,fun W hW=>Pm rg d.nw k _ hnw (by omega) rfl a0 n0 c0 W ((hW.cell (p:=(jA rg _)) hrl).trans ((h.ring.cell _).trans hv0))⟩;unfold Cv.back;rw[aU hq];exact ho0
  have HGd:Hid (∀k:Nat,AL (d.back k)):=fun k=>Cv.back_good hd k;clear h hd;go_enter func76,ntmps76
  go_wp2_with fail
  go_loopg [20] age (fun g s20 wr=>∃(k:Nat) (u:Value) (O:Rgn),s20=vj k/\g+k=age/\AJ wr u O/\AL O/\(∀x y,Ay O x y=(List.range k).any fun k=>Ay (d.back k) x y)/\wr.heap[w.heap.size]?=some (.cells #[jj] 136 (0,0))/\wr.heap[w.heap.size+1]?=some (.cells #[u] 136 (0,0))/\uj w wr)
  case atStart=>
   refine⟨0,jj,[],rfl,by omega,.inl ⟨rfl,rfl⟩,C7,fun x y=>by simp[Ay],?_,?_,?_⟩
   ·exact(Ad _ _ _ (by simp)).trans (aR w _)
   ·have h:=aR (w.alloc (.cells #[jj] 136)) (.cells #[jj] 136);rw[show(w.alloc (.cells #[jj] 136)).heap.size=w.heap.size+1 by simp]at h;exact h
   ·exact Joins.below_alloc2 w _ _
  case round=>
   obtain⟨k,u,O,rfl,hgk,hu,hO,hmem,b0,b1,hbel⟩:=hrel;obtain⟨ua,un,uc,rfl⟩:=hu.form;have z0:=cell_of_one b0;have z1:=cell_of_one b1;have f0:=free_of_one b0;have f1:=free_of_one b1;have zl0:=Ak z0;have zl1:=Ak z1;cases gk with
   |zero=>
    have hlt:¬(k:Int)<(age:Int):=by omega
    have hka:k=age:=by omega
    subst hka;have HE:=Aa (aK hu (aK hO (aK hmem (aK b0 hbel))));clear hu hO hmem hbel b0 b1
    go_wp2_with fail
    refine cU (v:=.agg #[.slice ua un uc]) (by simp[results,results76,go_sem,z0]) rfl ⟨_,rfl,O,?_,HE.out.2.1,HE.out.2.2.1,?_⟩
    ·exact HE.out.1.setBox HE.out.2.2.2.1 _
    ·exact HE.out.2.2.2.2.setCell (by simp) _
   |succ g=>
    have hlt:(k:Int)<(age:Int):=by omega
    obtain⟨a2,n2,c2,ho2,hB⟩:=HBk.out k (by omega);have hsz:=hbel.size;have j5:wr.cell? (jA c 5)=some (sj rg 4 4):=(hbel.cell (p:=(jA c 5)) hcl).trans k5;have j6:wr.cell? (jA c 6)=some (vj d.nw):=(hbel.cell (p:=(jA c 6)) hcl).trans k6;have hcw:c<wr.heap.size:=by omega
    have HB:Hid (∀W:World,uj wr W->Calls prog 104 #[.agg #[sj rg 4 4,vj d.nw],vj k] W fun e w'=>e=.returned (.agg #[.slice a2 n2 c2])/\w'.cell? (jA (w.heap.size+1) 0)=some (.slice ua un uc)/\w'.frozen? (jA (w.heap.size+1) 0)=false/\Hid (uj wr w')):=fun W hW=>(hB W (hbel.trans (hW.mono hsz))).mono fun e w' ⟨q1,q2⟩=>by
     have q3:uj wr w':=hW.trans (q2.mono hW.size);exact⟨q1,(q3.cell (p:=(jA (w.heap.size+1) 0)) zl1).trans z1,(q3.frozen (p:=(jA (w.heap.size+1) 0)) zl1).trans f1,q3⟩
    have HCm:Hid (∀W:World,uj wr W->Calls prog 103 #[vj 0,.agg #[.slice ua un uc],.agg #[.slice a2 n2 c2]] W fun e w'=>∃a3 n3 c3,e=.returned (.agg #[.slice a3 n3 c3])/\w'.cell? (jA (w.heap.size+1) 0)=some (.slice ua un uc)/\w'.frozen? (jA (w.heap.size+1) 0)=false/\Hid (∃O2,AJ w' (.slice a3 n3 c3) O2/\AL O2/\(∀x y,Ay O2 x y=(Ay O x y||Ay (d.back k) x y))/\uj wr w')):=fun W hW=>(JQ 0 O (d.back k) _ _ W hO (HGd.out k) (hu.below hW) ((ho2.bands.below (hbel.trans (hW.mono hsz))))).mono fun e w' ⟨v2,O2,q1,q2,q3,q4,q5⟩=>by
     obtain⟨a3,n3,c3,rfl⟩:=q2.form;have q6:uj wr w':=hW.trans (q5.mono hW.size);exact⟨a3,n3,c3,q1,(q6.cell (p:=(jA (w.heap.size+1) 0)) zl1).trans z1,(q6.frozen (p:=(jA (w.heap.size+1) 0)) zl1).trans f1,O2,q2,q3,fun x y=>by rw[q4];rfl,q6⟩
    have HE:=Aa (aK hmem (aK b0 (aK b1 hbel)));clear hu hO hmem hbel b0 b1 ho2 hB
    go_wp2_with fail
    go_region_with (first
     |(go_at_call 104;refine(HB.out _ (aN _ _).drew).mono ?_;rintro e w1 ⟨rfl,y1,y2,H1⟩)
     |(go_at_call 103;refine(HCm.out _ H1.out).mono ?_;rintro e w2 ⟨a3,n3,c3,rfl,x1,x2,H2⟩))
    all_goals
     go_wp2_with fail
     go_roundg g
     case measure=>omega
     case rel=>
      obtain⟨O2,hv2,hO2,hm2,hbw⟩:=H2.out;obtain⟨hmem,b0,b1,hbel⟩:=HE.out;have b0':=(hbw.block _ (Ab b0)).trans b0;have b1':=(hbw.block _ (Ab b1)).trans b1;refine⟨k+1,.slice a3 n3 c3,O2,by go_num,by omega,hv2.setBox b1' _,hO2,fun x y=>?_,?_,one_setCell b1',(hbel.trans (hbw.mono hbel.size)).setCell (by simp) _⟩
      ·rw[hm2,hmem,KO]
      ·exact(Below.heap_setCell _ _ _ _ (by simp)).trans b0'
theorem Fb{α:Type}(f:α->List Value)(hf:∀a,(f a).length=4):∀(L:List α) (i o:Nat) (_:o<4) (hi:i<L.length),(L.flatMap f)[i*4+o]?=(f L[i])[o]?
 |a::L,0,o,ho,_=>by
  rw[ce,cA (by rw[hf];omega)];simp
 |a::L,i+1,o,ho,hi=>by
  rw[ce,bO (by rw[hf];omega),hf,show(i+1)*4+o-4=i*4+o by omega];have:=Fb f hf L i o ho (by simpa using hi);simpa using this
 | [],_,_,_,hi=>by simp at hi
theorem Ji{α:Type}(f:α->List Value)(hf:∀a,(f a).length=4)(u:Value):∀(L:List α) (i o:Nat) (_:o<4) (hi:i<L.length) (b:α),f b=(f L[i]).set o u->(L.flatMap f).set (i*4+o) u=(L.set i b).flatMap f
 |a::L,0,o,ho,_,b,hb=>by
  rw[List.set_cons_zero,ce,ce,List.set_append_left _ _ (by rw[hf];omega),hb];simp
 |a::L,i+1,o,ho,hi,b,hb=>by
  rw[List.set_cons_succ,ce,ce,List.set_append_right _ _ (by rw[hf];omega),hf,show(i+1)*4+o-4=i*4+o by omega,Ji f hf u L i o ho (by simpa using hi) b (by simpa using hb)]
 | [],_,_,_,hi,_,_=>by simp at hi
theorem Ev(W H:Nat)(b:Buf):(DN W H b).length=4:=rfl
def Buf.older(b:Buf):Buf:=if 0<b.age then{b with age:=b.age+1}else b
theorem Buf.older_g(b:Buf):b.older.g=b.g:=by unfold Buf.older;split<;>rfl
theorem Buf.older_f(b:Buf):b.older.f=b.f:=by unfold Buf.older;split<;>rfl
def AY(i:Nat)(L:List Buf):List Buf:=L.mapIdx fun j b=>if j<i then b.older else b
theorem CP(i:Nat)(L:List Buf):(AY i L).length=L.length:=by simp[AY]
theorem NC(L:List Buf):AY 0 L=L:=by
 apply List.ext_getElem?;intro j;simp[AY]
theorem Po(L:List Buf):AY L.length L=L.map Buf.older:=by
 apply List.ext_getElem?;intro j;simp only[AY,List.getElem?_mapIdx,bZ];by_cases e:j<L.length
 ·rw[aU e];simp[e]
 ·rw[cD (by omega)];rfl
theorem Fx(i:Nat)(L:List Buf)(hi:i<L.length):(AY i L)[i]'(by rw[CP];exact hi)=L[i]:=by simp[AY]
theorem IA(i:Nat)(L:List Buf)(hi:i<L.length):(AY i L).set i L[i].older=AY (i+1) L:=by
 apply List.ext_getElem?;intro j;rw[bW];simp only[AY,List.getElem?_mapIdx,List.length_mapIdx];by_cases e:i=j
 ·subst e;simp[hi]
 ·rw[if_neg e];have:(j<i)=(j<i+1):=by simp;omega
  simp only[this]
theorem ND(i:Nat)(L:List Buf)(hi:i<L.length)(h0:¬0<L[i].age):AY (i+1) L=AY i L:=by
 rw[<-IA i L hi];have:L[i].older=L[i]:=by unfold Buf.older;rw[if_neg h0]
 rw[this];have h2:=Fx i L hi
 conv=>lhs;rw[<-h2]
 simp
theorem AK.setBuf{w:World}{S:Nat->Prop}{c:Nat}{d:Cv}{bg n cap:Nat}{rg:Nat}{dv:Array Value}(h:AK w S c d (sj bg n cap) rg dv)(hn:n=d.bufs.length)(i o:Nat)(ho:o<4)(hi:i<d.bufs.length)(b:Buf)(u:Value)(hb:DN d.W d.H b=(DN d.W d.H d.bufs[i]).set o u)(hp:S b.g/\Bj w b.g (d.W*d.H) b.f):
  AK (w.setCell (jA bg (i*4+o)) u) S c {d with bufs:=d.bufs.set i b} (sj bg n cap) rg dv:=by
 subst hn;obtain⟨cur,hcur⟩:=h.row.type (g:=bg) rfl;have hne:∀(g:Nat) (cur2:Array Value) (t:TypeId),t≠148->w.heap[g]?=some (.cells cur2 t (0,0))->(w.setCell (jA bg (i*4+o)) u).heap[g]?=w.heap[g]? :=fun g cur2 t ht e=>by
  refine aL w _ g u fun e2=>?_;subst e2;have:=hcur.symm.trans e;simp at this;exact ht this.2.symm
 have hkr:CB w (w.setCell (jA bg (i*4+o)) u):=fun g cur2 t ht e=>hne g cur2 t (by rcases ht with rfl|rfl<;>decide) e;have pk:∀g f,Bj w g (d.W*d.H) f->Bj (w.setCell (jA bg (i*4+o)) u) g (d.W*d.H) f:=fun g f ⟨cur2,q,q2⟩=>⟨cur2,(hne g cur2 51 (by decide) q).trans q,q2⟩;refine⟨h.blk.keep (hne c _ 145 (by decide) h.blk),h.own,?_,h.ring.keep (hne rg _ 136 (by decide) h.ring),h.rown,h.size,fun j R hj=>let ⟨v,h1,h2⟩:=h.regs j R hj;⟨v,h1,h2.keptR hkr⟩,fun b' hb'=>?_⟩
 ·have:=h.row.set (i*4+o) u;rw[Ji _ (Ev _ _) u d.bufs i o ho hi b hb]at this;simpa using this
 ·rcases List.mem_or_eq_of_mem_set hb' with q|q
  ·exact⟨(h.pix b' q).1,pk _ _ (h.pix b' q).2⟩
  ·subst q;exact⟨hp.1,pk _ _ hp.2⟩
def Cv.grown(d:Cv):Cv:={d with bufs:=d.bufs.map Buf.older,dam:=d.dam.set ((d.nw+1)%4) [],nw:=(d.nw+1)%4,old:=d.old+1}
def CvS(c bg rg:Nat):Nat->Prop:=fun g=>g=c\/g=bg\/g=rg
theorem LW{w:World}{S:Nat->Prop}{c:Nat}{d:Cv}{bg cap:Nat}{rg:Nat}{dv:Array Value}(h:AK w S c d (sj bg d.bufs.length cap) rg dv)(hd:Co d)(hold:d.old<=4611686018427387904):
  Calls prog 79 #[pj c] w fun e w'=>e=.returned (.tuple #[])/\(∃dv',AK w' S c d.grown (sj bg d.bufs.length cap) rg dv')/\Ac (CvS c bg rg) w w':=by
 have hnw:=hd.nw;have hn3:=hd.n;have hcap:d.bufs.length<=cap:=A7 h.row.1;obtain⟨n,hn⟩:∃n,d.bufs.length=n:=⟨_,rfl⟩;have HM:Hid (∀(W:World) (i:Nat),AK W S c {d with bufs:=AY i d.bufs} (sj bg d.bufs.length cap) rg dv->W.cell? (jA c 4)=some (sj bg n cap)/\∀hi:i<d.bufs.length,W.cell? (jA bg (i*4+3))=some (vj d.bufs[i].age)/\W.frozen? (jA bg (i*4+3))=false):=fun W i hW=>by
  refine⟨by rw[<-hn];exact hW.blk.cell 4,fun hi=>?_⟩;obtain⟨g',cap',q1,q2,q3,q4,q5,q6⟩:=hW.row.open (by simp only[CP];omega);simp only[CP,Value.slice.injEq,Option.some.injEq,Addr.mk.injEq]at q1;obtain⟨⟨rfl,_⟩,_,rfl⟩:=q1;refine⟨q5 _ _ ?_,q6 _⟩;show((AY i d.bufs).flatMap (DN d.W d.H))[i*4+3]?=_;rw[Fb _ (Ev _ _) _ i 3 (by omega) (by rw[CP];exact hi),Fx i _ hi];rfl
 have HN:Hid (∀(W:World) (i:Nat) (hi:i<d.bufs.length),AK W S c {d with bufs:=AY i d.bufs} (sj bg d.bufs.length cap) rg dv->0<d.bufs[i].age->AK (W.setCell (jA bg (i*4+3)) (vj ((d.bufs[i].age:Int)+1))) S c {d with bufs:=AY (i+1) d.bufs} (sj bg d.bufs.length cap) rg dv):=fun W i hi hW ha=>by
  have hi':i<(AY i d.bufs).length:=by rw[CP];exact hi
  have hp:=h.pix d.bufs[i] (aZ hi);have:=hW.setBuf (by simp[CP]) i 3 (by omega) hi' d.bufs[i].older (vj ((d.bufs[i].age:Int)+1)) (by
   show DN d.W d.H _=(DN d.W d.H ((AY i d.bufs)[i])).set 3 _;rw[Fx i _ hi];unfold Buf.older;rw[if_pos ha];unfold DN;simp) (by
   have q:=hW.pix ((AY i d.bufs)[i]) (aZ hi');rw[Fx i _ hi]at q;rw[Buf.older_g,Buf.older_f];exact q)
  have e:=IA i d.bufs hi;simp only[e]at this;exact this
 have HAg:Hid (∀(i:Nat) (hi:i<d.bufs.length),d.bufs[i].age<=4611686018427387904):=fun i hi=>bh (hd.age _ (aZ hi)) hold;have HZ:Hid (AK w S c {d with bufs:=AY 0 d.bufs} (sj bg d.bufs.length cap) rg dv):=by rw[Hid,NC];exact h
 have HSa:Hid (∀(W:World) (i:Nat) (hi:i<d.bufs.length),AK W S c {d with bufs:=AY i d.bufs} (sj bg d.bufs.length cap) rg dv->¬0<d.bufs[i].age->AK W S c {d with bufs:=AY (i+1) d.bufs} (sj bg d.bufs.length cap) rg dv):=fun W i hi hW ha=>by rw[ND i _ hi ha];exact hW
 have HA:Hid (∀W:World,AK W S c {d with bufs:=AY n d.bufs} (sj bg d.bufs.length cap) rg dv->Calls prog 117 #[.pointer (some (jA c 5)),.agg #[jj]] W fun e w'=>e=.returned (.tuple #[])/\(∃dv',AK w' S c d.grown (sj bg d.bufs.length cap) rg dv')/\Ac (CvS c bg rg) W w'):=fun W hW=>by
  have hcr:c≠rg:=fun e=>by
   subst e;have:=hW.blk.symm.trans hW.ring;simp at this
  refine(Pn c rg d.nw _ hnw rfl none 0 0 _ _ _ W hW.blk rfl rfl hW.ring hW.size hcr).mono fun e w' ⟨q1,q2,q3,q4⟩=>⟨q1,⟨dv.setIfInBounds ((d.nw+1)%4) (jj),?_⟩,q4.mono fun g _ hg=>hg.elim .inl fun hg=>.inr (.inr hg)⟩;have hne:∀(g:Nat) (cur2:Array Value) (t:TypeId),t≠145->t≠136->W.heap[g]?=some (.cells cur2 t (0,0))->w'.heap[g]?=W.heap[g]? :=fun g cur2 t ht ht2 e=>q4.block g (Ab e) fun hg=>by
   rcases hg with rfl|rfl
   ·have:=hW.blk.symm.trans e;simp at this;exact ht this.2.symm
   ·have:=hW.ring.symm.trans e;simp at this;exact ht2 this.2.symm
  have hkr:CB W w':=fun g cur2 t ht e=>hne g cur2 t (by rcases ht with rfl|rfl<;>decide) (by rcases ht with rfl|rfl<;>decide) e;rw[<-hn,Po]at hW;refine⟨?_,hW.own,?_,q3,hW.rown,by simpa using hW.size,fun i R hi=>?_,fun b hb=>⟨(hW.pix b hb).1,let ⟨cur2,k1,k2⟩:=(hW.pix b hb).2;⟨cur2,(hne b.g cur2 51 (by decide) (by decide) k1).trans k1,k2⟩⟩⟩
  ·have e:NB d.grown (sj bg d.bufs.length cap) (sj rg 4 4)=(NB {d with bufs:=AY n d.bufs} (sj bg d.bufs.length cap) (sj rg 4 4)).setIfInBounds 6 (vj (((d.nw+1)%4:Nat):Int)):=rfl;rw[e];exact q2
  ·exact hW.row.other fun g cur2 e=>hne g cur2 148 (by decide) (by decide) e
  ·have hi2:(d.dam.set ((d.nw+1)%4) [])[i]?=some R:=hi;by_cases e:i=(d.nw+1)%4
   ·subst e;have hlt:(d.nw+1)%4<d.dam.length:=by rw[hd.ln];omega
    have:R=[]:=by simpa[List.getElem?_set_self hlt]using hi2.symm
    subst this;exact⟨jj,by rw[Array.getElem?_setIfInBounds_self_of_lt (by rw[hW.size];omega)],D4.nil _ _⟩
   ·have hi':d.dam[i]?=some R:=by simpa[List.getElem?_set_ne (fun q=>e q.symm)]using hi2
    obtain⟨v',k1,k2⟩:=hW.regs i R hi';exact⟨v',by rw[bC (fun q=>e q.symm)];exact k1,k2.keptR hkr⟩
 have hcl:=Ab h.blk;have c4:w.cell? (jA c 4)=some (sj bg n cap):=(HM.out w 0 HZ.out).1;rw[hn]at hcap;clear h hd;go_enter func79,ntmps79
 go_wp2_with fail
 go_loopg [8] n (fun gg s8 wr=>∃i:Nat,s8=vj i/\gg+i=n/\AK wr S c {d with bufs:=AY i d.bufs} (sj bg d.bufs.length cap) rg dv/\Ac (CvS c bg rg) w wr)
 case atStart=>exact⟨0,rfl,by omega,HZ.out,Ac.refl _ _⟩
 case round=>
  rename World=>wr;obtain⟨i,rfl,hgi,hI,ho⟩:=hrel;have HI:=Aa hI;have HO:=Aa ho;clear hI ho;have j4:=(HM.out wr i HI.out).1;cases gk with
  |zero=>
   have hlt:¬(i:Int)<(n:Int):=by omega
   have hin:i=n:=by omega
   subst hin
   go_wp2_with(go_at_call 117;refine(HA.out _ HI.out).mono ?_;rintro e w1 ⟨rfl,q1,q2⟩;have H1:=Aa (aK q1 (HO.out.trans (q2.mono fun g _ hg=>.inl hg)));clear q1 q2)
   exact cV (v:=.tuple #[]) (by simp[results,results79]) rfl ⟨rfl,H1.out⟩
  |succ gk=>
   have hlt:(i:Int)<(n:Int):=by omega
   have hi0:(0:Int)<=(i:Int):=by omega
   have hid:i<d.bufs.length:=by omega
   have hic:i<cap:=by omega
   obtain⟨a3,f3⟩:=(HM.out wr i HI.out).2 hid;have hag:=HAg.out i hid;have HN2:=Aa (HN.out wr i hid HI.out);have HS2:=Aa (HSa.out wr i hid HI.out);obtain⟨ag,hagd⟩:∃ag,d.bufs[i].age=ag:=⟨_,rfl⟩;rw[hagd]at a3 hag HN2 HS2;by_cases ha:0<ag
   ·have ha':(0:Int)<(ag:Int):=by omega
    go_wp2_with fail
    go_roundg gk
    case measure=>omega
    case rel=>exact⟨i+1,by go_num,by omega,HN2.out ha,HO.out.set (.inl (.inr (.inl rfl))) _⟩
   ·have ha':¬(0:Int)<(ag:Int):=by omega
    go_wp2_with fail
    go_roundg gk
    case measure=>omega
    case rel=>exact⟨i+1,by go_num,by omega,HS2.out ha,HO.out⟩
variable{f:Nat->R4}{g n:Nat}{w:World}
def Ch(p:R4):Array Value:=#[.int .u8 p.1,.int .u8 p.2.1,.int .u8 p.2.2.1,.int .u8 p.2.2.2]
theorem Bj.set4(h:Bj w g n f)(k:Nat)(hk:k<n)(p:R4):
  Bj ((((w.setCell (jA g (k*4)) (.int .u8 p.1)).setCell (jA g (k*4+1)) (.int .u8 p.2.1)).setCell (jA g (k*4+2)) (.int .u8 p.2.2.1)).setCell (jA g (k*4+3)) (.int .u8 p.2.2.2)) g n (fun j=>if j=k then p else f j):=by
 obtain⟨cur,h1,h2,h3⟩:=h;have b1:Blk w g 51 cur:=h1;have b2:=(((b1.set (k*4) (.int .u8 p.1)).set (k*4+1) (.int .u8 p.2.1)).set (k*4+2) (.int .u8 p.2.2.1)).set (k*4+3) (.int .u8 p.2.2.2);refine⟨_,b2,by simpa using h2,fun j hj=>?_⟩;have q:=h3 j hj;simp only[bN,Array.size_setIfInBounds];by_cases e:j=k
 ·subst e;rw[if_pos rfl];refine⟨?_,?_,?_,?_⟩
  ·rw[if_neg (by omega),if_neg (by omega),if_neg (by omega),if_pos rfl,if_pos (by omega)]<;>simp
  ·rw[if_neg (by omega),if_neg (by omega),if_pos rfl,if_pos (by omega)]<;>simp
  ·rw[if_neg (by omega),if_pos rfl,if_pos (by omega)]<;>simp
  ·rw[if_pos rfl,if_pos (by omega)]<;>simp
 ·rw[show(if j=k then p else f j)=f j from if_neg e];refine⟨?_,?_,?_,?_⟩
  ·rw[if_neg (by omega),if_neg (by omega),if_neg (by omega),if_neg (by omega)];exact q.1
  ·rw[if_neg (by omega),if_neg (by omega),if_neg (by omega),if_neg (by omega)];exact q.2.1
  ·rw[if_neg (by omega),if_neg (by omega),if_neg (by omega),if_neg (by omega)];exact q.2.2.1
  ·rw[if_neg (by omega),if_neg (by omega),if_neg (by omega),if_neg (by omega)];exact q.2.2.2
theorem Bj.has(h:Bj w g n f):Ax w g 51 (n*4):=let ⟨cur,h1,h2,_⟩:=h;⟨cur,h1,h2⟩
theorem Pp(W H n g x y K:Nat)(hW:W<=24)(hy:y<24)(hK:y*W+x=K)(hKn:K<n)(hn:n<=576)(p:R4)(f:Nat->R4)(w:World)(h:Bj w g n f):
  Calls prog 116 #[.agg #[vj W,vj H,sj g n n],vj x,vj y,.agg (Ch p)] w fun e w'=>e=.returned (.tuple #[])/\Bj w' g n (fun j=>if j=K then p else f j)/\Ac (fun b=>b=g) w w':=by
 have hl:=h.has.lt;obtain⟨u0,c0⟩:=h.has.cell (K*4) (by omega);obtain⟨u1,c1⟩:=h.has.cell (K*4+1) (by omega);obtain⟨u2,c2⟩:=h.has.cell (K*4+2) (by omega);obtain⟨u3,c3⟩:=h.has.cell (K*4+3) (by omega);have f0:=h.has.free (K*4);have f1:=h.has.free (K*4+1);have f2:=h.has.free (K*4+2);have f3:=h.has.free (K*4+3);have HE:Hid (∀o1 o2:Obj,Bj ((((((w.setCell (jA g (K*4)) (.int .u8 p.1)).setCell (jA g (K*4+1)) (.int .u8 p.2.1)).setCell (jA g (K*4+2)) (.int .u8 p.2.2.1)).setCell (jA g (K*4+3)) (.int .u8 p.2.2.2)).alloc o1).alloc o2) g n (fun j=>if j=K then p else f j)/\Ac (fun b=>b=g) w ((((((w.setCell (jA g (K*4)) (.int .u8 p.1)).setCell (jA g (K*4+1)) (.int .u8 p.2.1)).setCell (jA g (K*4+2)) (.int .u8 p.2.2.1)).setCell (jA g (K*4+3)) (.int .u8 p.2.2.2)).alloc o1).alloc o2)):=fun o1 o2=>by
  refine⟨((h.set4 K hKn p).keep (Ad _ _ _ (by simpa using hl))).keep (Ad _ _ _ (by simp;omega)),?_⟩;exact((((((Ac.refl (fun b=>b=g) w).set (.inl rfl) _).set (.inl rfl) _).set (.inl rfl) _).set (.inl rfl) _).alloc _).alloc _
 have e1:(y:Int)*(W:Int)=((y*W:Nat):Int):=by simp
 obtain⟨M,hM⟩:∃M,y*W=M:=⟨_,rfl⟩;have hMb:M<=576:=by rw[<-hM];exact bh (cI (show y<=24 by omega) hW) (by omega)
 rw[hM]at e1 hK;have e2:(M:Int)+(x:Int)=(K:Int):=by omega
 have hKn':(K:Int)<(n:Int):=by omega
 have hK0:(0:Int)<=(K:Int):=by omega
 clear h hM hK;unfold Ch;go_enter func116,ntmps116
 go_wp2_with fail
 refine cV (v:=.tuple #[]) (by simp[results,results116]) rfl ⟨rfl,?_⟩;exact HE.out _ _
theorem Bj.congr{w:World}{g n:Nat}{f f':Nat->R4}(h:Bj w g n f)(he:∀k,k<n->f k=f' k):Bj w g n f':=by
 obtain⟨cur,h1,h2,h3⟩:=h;exact⟨cur,h1,h2,fun k hk=>by rw[<-he k hk];exact h3 k hk⟩
abbrev inN(x0 y0 x1 y1 x y:Nat):Prop:=x0<=x/\x<x1/\y0<=y/\y<y1
def BL(W x0 y0 x1 y1:Nat)(pic:Nat->Nat->R4)(f:Nat->R4)(y x:Nat)(k:Nat):R4:=
 if inN x0 y0 x1 y1 (k%W) (k/W)/\(k/W<y\/(k/W=y/\k%W<x))then pic (k%W) (k/W)else f k
def KP(W x0 y0 x1 y1:Nat)(pic:Nat->Nat->R4)(f:Nat->R4)(k:Nat):R4:=
 if inN x0 y0 x1 y1 (k%W) (k/W)then pic (k%W) (k/W)else f k
theorem Hh(W x0 y0 x1 y1:Nat)(pic:Nat->Nat->R4)(f:Nat->R4)(k:Nat):f k=BL W x0 y0 x1 y1 pic f y0 x0 k:=by
 unfold BL inN;rw[if_neg];omega
theorem JT(W x0 y0 x1 y1:Nat)(pic:Nat->Nat->R4)(f:Nat->R4)(y x:Nat)(hx:x1<=x)(k:Nat):BL W x0 y0 x1 y1 pic f y x k=BL W x0 y0 x1 y1 pic f (y+1) x0 k:=by
 unfold BL inN;by_cases h:(x0<=k%W/\k%W<x1/\y0<=k/W/\k/W<y1)/\(k/W<y\/(k/W=y/\k%W<x))
 ·rw[if_pos h,if_pos (by omega)]
 ·rw[if_neg h,if_neg (by omega)]
theorem JU(W x0 y0 x1 y1:Nat)(pic:Nat->Nat->R4)(f:Nat->R4)(y x:Nat)(hy:y1<=y)(k:Nat):BL W x0 y0 x1 y1 pic f y x k=KP W x0 y0 x1 y1 pic f k:=by
 unfold BL KP inN;by_cases h:x0<=k%W/\k%W<x1/\y0<=k/W/\k/W<y1
 ·rw[if_pos ⟨h,by omega⟩,if_pos h]
 ·rw[if_neg (fun q=>h q.1),if_neg h]
theorem JV(W x0 y0 x1 y1:Nat)(pic:Nat->Nat->R4)(f:Nat->R4)(y x:Nat)(hxW:x<W)(hx:x0<=x/\x<x1)(hy:y0<=y/\y<y1)(k:Nat):
  (if k=y*W+x then pic x y else BL W x0 y0 x1 y1 pic f y x k)=BL W x0 y0 x1 y1 pic f y (x+1) k:=by
 have hm:k=y*W+x↔k%W=x/\k/W=y:=by
  constructor
  ·intro h;subst h;rw[Nat.mul_comm y W];exact⟨by rw[Nat.mul_add_mod,Nat.mod_eq_of_lt hxW],by rw[Nat.mul_add_div (by omega),Nat.div_eq_of_lt hxW];omega⟩
  ·rintro⟨h1,h2⟩;have:=Nat.div_add_mod k W;rw[h1,h2,Nat.mul_comm]at this;exact this.symm
 by_cases e:k=y*W+x
 ·rw[if_pos e];obtain⟨e1,e2⟩:=hm.1 e;unfold BL inN;rw[e1,e2,if_pos (by omega)]
 ·rw[if_neg e];unfold BL inN;have e3:¬(k%W=x/\k/W=y):=fun h=>e (hm.2 h);by_cases h:(x0<=k%W/\k%W<x1/\y0<=k/W/\k/W<y1)/\(k/W<y\/(k/W=y/\k%W<x))
  ·rw[if_pos h,if_pos (by omega)]
  ·rw[if_neg h,if_neg (by omega)]
def Az(h:Nat->Int):Nat->Int
 |0=>0
 |m+1=>Az h m+h m
theorem CQ(h:Nat->Int)(b:Int)(hb:0<=b):∀m,(∀i,i<m->0<=h i/\h i<=b)->0<=Az h m/\Az h m<=m*b
 |0,_=>by simp[Az]
 |m+1,hh=>by
  have h1:=CQ h b hb m fun i hi=>hh i (by omega);have h2:=hh m (by omega);unfold Az;have e:((m+1:Nat):Int)*b=m*b+b:=by rw[Int.natCast_add,Int.add_mul];simp
  omega
def EV(laid:Nat->Nat->Int)(x0 y0 x1 y1:Nat):Int:=Az (fun j=>Az (fun i=>laid (x0+i) (y0+j)) (x1-x0)) (y1-y0)
theorem Tp(W H n g age x0 y0 x1 y1:Nat)(hW:W<=24)(hH:H<=24)(hn:W*H=n)(hx:x0<=x1/\x1<=W)(hy:y0<=y1/\y1<=H)(la:Option Addr)(ln lc:Nat)(pic:Nat->Nat->R4)(laid:Nat->Nat->Int)(f:Nat->R4)(w:World)(h:Bj w g n f)
  (hl:∀x y,0<=laid x y/\laid x y<=1000)
  (hAt:∀(V:World) (x y:Nat),Ac (fun b=>b=g) w V->x<W->y<H->Calls prog 115 #[.agg #[.slice la ln lc],vj x,vj y] V fun e w'=>e=.returned (.tuple #[.agg (Ch (pic x y)),vj (laid x y)])/\uj V w'):
  Calls prog 78 #[.agg #[vj W,vj H,sj g n n,vj age],.agg #[vj x0,vj y0,vj x1,vj y1],.agg #[.slice la ln lc]] w fun e w'=>e=.returned (vj (EV laid x0 y0 x1 y1))/\Bj w' g n (KP W x0 y0 x1 y1 pic f)/\Ac (fun b=>b=g) w w':=by
 have hn2:n<=576:=by rw[<-hn];exact bh (cI hW hH) (by omega)
 have hgl:=h.has.lt;have HS:Hid (∀V:World,Ac (fun b=>b=g) (((w.alloc (.cells #[vj W,vj H,sj g n n,vj age] 148)).alloc (.cells #[vj x0,vj y0,vj x1,vj y1] 53)).alloc (.cells #[.slice la ln lc] 95)) V->Ac (fun b=>b=g) w V/\V.heap[w.heap.size]?=some (.cells #[vj W,vj H,sj g n n,vj age] 148 (0,0))/\V.heap[w.heap.size+1]?=some (.cells #[vj x0,vj y0,vj x1,vj y1] 53 (0,0))/\V.heap[w.heap.size+1+1]?=some (.cells #[.slice la ln lc] 95 (0,0))):=fun V hV=>by
  refine⟨((((Ac.refl _ w).alloc _).alloc _).alloc _).trans (hV.mono fun b _ hb=>.inl hb),?_,?_,?_⟩
  ·rw[hV.block _ (by simp;omega) (by omega)];exact((Ad _ _ _ (by simp;omega)).trans (Ad _ _ _ (by simp))).trans (aR w _)
  ·rw[hV.block _ (by simp) (by omega)];refine(Ad _ _ _ (by simp)).trans ?_;have q:=aR (w.alloc (.cells #[vj W,vj H,sj g n n,vj age] 148)) (.cells #[vj x0,vj y0,vj x1,vj y1] 53);rw[show(w.alloc (.cells #[vj W,vj H,sj g n n,vj age] 148)).heap.size=w.heap.size+1 by simp]at q;exact q
  ·rw[hV.block _ (by simp) (by omega)];have q:=aR ((w.alloc (.cells #[vj W,vj H,sj g n n,vj age] 148)).alloc (.cells #[vj x0,vj y0,vj x1,vj y1] 53)) (.cells #[.slice la ln lc] 95);rw[show((w.alloc (.cells #[vj W,vj H,sj g n n,vj age] 148)).alloc (.cells #[vj x0,vj y0,vj x1,vj y1] 53)).heap.size=w.heap.size+1+1 by simp]at q;exact q
 have HAt:=Aa hAt;have HL:=Aa hl;have HF:Hid (Bj (((w.alloc (.cells #[vj W,vj H,sj g n n,vj age] 148)).alloc (.cells #[vj x0,vj y0,vj x1,vj y1] 53)).alloc (.cells #[.slice la ln lc] 95)) g n (BL W x0 y0 x1 y1 pic f y0 x0)):=
  ((((h.keep (Ad _ _ _ hgl)).keep (Ad _ _ _ (by simp;omega))).keep (Ad _ _ _ (by simp;omega)))).congr fun k _=>Hh W x0 y0 x1 y1 pic f k
 clear h hAt hl;go_enter func78,ntmps78
 go_wp2_with fail
 generalize ((w.alloc (.cells #[vj W,vj H,sj g n n,vj age] 148)).alloc (.cells #[vj x0,vj y0,vj x1,vj y1] 53)).alloc (.cells #[.slice la ln lc] 95)=W3 at*;have HR:Hid (∀j m,m<=x1-x0->0<=Az (fun i=>laid (x0+i) (y0+j)) m/\Az (fun i=>laid (x0+i) (y0+j)) m<=24000):=fun j m hm=>by
  have:=CQ (fun i=>laid (x0+i) (y0+j)) 1000 (by omega) m fun i _=>HL.out _ _;have hm':(m:Int)<=24:=by omega
  omega
 have HT:Hid (∀j,j<=y1-y0->0<=Az (fun j=>Az (fun i=>laid (x0+i) (y0+j)) (x1-x0)) j/\Az (fun j=>Az (fun i=>laid (x0+i) (y0+j)) (x1-x0)) j<=576000):=fun j hj=>by
  have:=CQ (fun j=>Az (fun i=>laid (x0+i) (y0+j)) (x1-x0)) 24000 (by omega) j fun i _=>HR.out i _ (aO _);have hm':(j:Int)<=24:=by omega
  omega
 go_loopg [7,8] (y1-y0) (fun gg s7 s8 wr=>∃(j Y:Nat) (B:Int),s8=vj Y/\Y=y0+j/\gg+j=y1-y0/\s7=vj B/\B=Az (fun j=>Az (fun i=>laid (x0+i) (y0+j)) (x1-x0)) j/\Bj wr g n (BL W x0 y0 x1 y1 pic f Y x0)/\Ac (fun b=>b=g) W3 wr)
 case atStart=>exact⟨0,y0,0,rfl,rfl,rfl,rfl,rfl,HF.out,Ac.refl _ _⟩
 case round=>
  rename World=>wr;obtain⟨j,Y,B,rfl,hY,hgj,rfl,hB,hp,ho⟩:=hrel;obtain⟨ow,bb,bq,bp⟩:=HS.out wr ho;have q1:wr.cell? (jA (w.heap.size+1) 0)=some (vj x0):=aP _ _ 0 _ _ _ bq;have q3:wr.cell? (jA (w.heap.size+1) 3)=some (vj y1):=aP _ _ 3 _ _ _ bq;have HI:=Aa (aK hp ho);clear ow bb bq bp hp ho;cases gk with
  |zero=>
   have hlt:¬(Y:Int)<(y1:Int):=by omega
   have HE:Hid (vj B=vj (EV laid x0 y0 x1 y1)):=by
    unfold Hid EV;rw[hB,show j=y1-y0 by omega]
   have hYe:y1<=Y:=by omega
   clear hB hY
   go_wp2_with fail
   go_ret;exact⟨congrArg Ending.returned HE.out,HI.out.1.congr fun k _=>JU W x0 y0 x1 y1 pic f Y x0 hYe k,(HS.out _ HI.out.2).1⟩
  |succ gj=>
   have hlt:(Y:Int)<(y1:Int):=by omega
   have hBb:=HT.out j (by omega);rw[<-hB]at hBb;have HY:=Aa (aK hY hB);have hYy:Y<y1:=by omega
   clear hY hB
   go_wp2_with fail
   go_loopg [7,9] (x1-x0) (fun gg s7 s9 wi=>∃(i X:Nat) (C:Int),s9=vj X/\X=x0+i/\gg+i=x1-x0/\s7=vj C/\C=B+Az (fun i=>laid (x0+i) (y0+j)) i/\Bj wi g n (BL W x0 y0 x1 y1 pic f Y X)/\Ac (fun b=>b=g) W3 wi)
   case atStart=>exact⟨0,x0,B,rfl,rfl,rfl,rfl,by simp[Az],HI.out.1,HI.out.2⟩
   case round=>
    rename World=>wi;rename Nat=>gi;obtain⟨i,X,C,rfl,hX,hgi,rfl,hC,hp,ho⟩:=hrel;obtain⟨ow,bb,bq,bp⟩:=HS.out wi ho;have r2:wi.cell? (jA (w.heap.size+1) 2)=some (vj x1):=aP _ _ 2 _ _ _ bq;have t0:wi.cell? (jA (w.heap.size+1+1) 0)=some (.slice la ln lc):=aP _ _ 0 _ _ _ bp;have HJ:=Aa (aK hp (aK ho ow));have hrb:=HR.out j i (by omega);have hb1:=Ab bb;clear ow bb bq bp hp ho;cases gi with
    |zero=>
     have hlt2:¬(X:Int)<(x1:Int):=by omega
     have HX:=Aa (aK hX hC);clear hX hC
     go_wp2_with fail
     go_roundg gj
     case measure=>omega
     case rel=>
      have hX:=HX.out.1;refine⟨j+1,Y+1,C,by go_num,by have:=HY.out.1;omega,by omega,rfl,?_,HJ.out.1.congr fun k _=>?_,HJ.out.2.1⟩
      ·rw[HX.out.2,HY.out.2,show i=x1-x0 by omega];rfl
      ·exact JT W x0 y0 x1 y1 pic f Y X (by omega) k
    |succ gi=>
     have hlt2:(X:Int)<(x1:Int):=by omega
     have HA2:=Aa (HAt.out wi X Y HJ.out.2.2 (by omega) (by omega));have hlb:=HL.out X Y;have HX:=Aa (aK hX hC);have hXx:X<x1:=by omega
     have hCb:0<=C/\C<=700000:=by omega
     clear hX hC;obtain⟨P,hP⟩:∃P,pic X Y=P:=⟨_,rfl⟩;obtain⟨L,hL⟩:∃L,laid X Y=L:=⟨_,rfl⟩;rw[hP,hL]at HA2;rw[hL]at hlb;unfold Ch at HA2;have HPL:=Aa (aK hP hL);clear hP hL;have hKn:Y*W+X<n:=by
      have e1:(Y+1)*W<=H*W:=bU W (by omega);have e2:(Y+1)*W=Y*W+W:=Nat.succ_mul Y W;have e3:H*W=n:=by rw[Nat.mul_comm];exact hn
      omega
     have HB5:Hid (∀w5:World,uj wi w5->w5.cell? (jA w.heap.size 0)=some (vj W)/\w5.cell? (jA w.heap.size 1)=some (vj H)/\w5.cell? (jA w.heap.size 2)=some (sj g n n)/\w.heap.size<w5.heap.size):=fun w5 b5=>by
      obtain⟨_,bb,_,_⟩:=HS.out w5 (HJ.out.2.1.after b5);exact⟨aP _ _ 0 _ _ _ bb,aP _ _ 1 _ _ _ bb,aP _ _ 2 _ _ _ bb,Ab bb⟩
     have HSt:Hid (∀(w5:World) (o:Obj),uj wi w5->Calls prog 116 #[.agg #[vj W,vj H,sj g n n],vj X,vj Y,.agg #[.int .u8 P.1,.int .u8 P.2.1,.int .u8 P.2.2.1,.int .u8 P.2.2.2]] (w5.alloc o) fun e w'=>e=.returned (.tuple #[])/\Hid (Bj w' g n (BL W x0 y0 x1 y1 pic f Y (X+1))/\Ac (fun b=>b=g) W3 w')):=fun w5 o b5=>by
      have hpx:=HJ.out.1;have hlt5:g<wi.heap.size:=hpx.has.lt;have hp5:=(hpx.keep (b5.block g hlt5)).keep (Ad w5 o g (aQ hlt5 b5.size));refine(Pp W H n g X Y (Y*W+X) hW (by omega) rfl hKn hn2 P _ (w5.alloc o) hp5).mono fun e w' ⟨q1,q2,q3⟩=>⟨q1,q2.congr fun k _=>?_,((HJ.out.2.1.after b5).alloc o).trans (q3.mono fun b _ hb=>.inl hb)⟩;have:=JV W x0 y0 x1 y1 pic f Y X (by omega) (by have:=HX.out.1;omega) (by have:=HY.out.1;omega) k;rw[HPL.out.1]at this;exact this
     go_wp2_with(first
      |(go_at_call 115;refine HA2.out.mono ?_;rintro e w5 ⟨rfl,b5⟩;obtain⟨s0,s1,s2,s3⟩:=HB5.out w5 b5;have HSt2:=Aa (fun o=>HSt.out w5 o b5);clear b5)
      |(go_at_call 116;refine(HSt2.out _).mono ?_;rintro e w6 ⟨rfl,H6⟩)
      |fail)
     go_roundg gi
     case measure=>omega
     case rel=>
      refine⟨i+1,X+1,C+L,by go_num,by have:=HX.out.1;omega,by omega,by go_num,?_,H6.out⟩;show C+L=B+(Az _ i+laid (x0+i) (y0+j));rw[HX.out.2,<-HPL.out.2,HX.out.1,HY.out.1];omega
variable{H W:Nat}{O:Rgn}{r:R4}
def BA(W:Nat)(l:List R4)(pic:Nat->Nat->R4)(f:Nat->R4)(k:Nat):R4:=if AE l ((k%W:Nat):Int) ((k/W:Nat):Int)then pic (k%W) (k/W)else f k
def JW(laid:Nat->Nat->Int)(r:R4):Int:=EV laid r.1.toNat r.2.1.toNat r.2.2.1.toNat r.2.2.2.toNat
def DX(laid:Nat->Nat->Int)(l:List R4)(m:Nat):Int:=Az (fun j=>JW laid (l.getD j (0,0,0,0))) m
theorem JX(W:Nat)(l:List R4)(pic:Nat->Nat->R4)(f:Nat->R4)(k:Nat):BA W (l.take 0) pic f k=f k:=by simp[BA,AE]
theorem JY(W:Nat)(l:List R4)(pic:Nat->Nat->R4)(f:Nat->R4)(m:Nat)(hm:m<l.length)(x0 y0 x1 y1:Nat)(hr:l[m]=((x0:Int),(y0:Int),(x1:Int),(y1:Int)))(k:Nat):
  KP W x0 y0 x1 y1 pic (BA W (l.take m) pic f) k=BA W (l.take (m+1)) pic f k:=by
 unfold KP BA;rw[MB l m hm,hr];have e:inR ((x0:Int),(y0:Int),(x1:Int),(y1:Int)) ((k%W:Nat):Int) ((k/W:Nat):Int)=decide (inN x0 y0 x1 y1 (k%W) (k/W)):=by
  unfold inR;rw[Bool.eq_iff_iff];simp only[bT];omega
 rw[e];by_cases h:inN x0 y0 x1 y1 (k%W) (k/W)
 ·rw[if_pos h];simp[h]
 ·rw[if_neg h];simp[h]
theorem IB(laid:Nat->Nat->Int)(hl:∀x y,0<=laid x y/\laid x y<=1000)(x0 y0 x1 y1:Nat)(hx:x1-x0<=24)(hy:y1-y0<=24):0<=EV laid x0 y0 x1 y1/\EV laid x0 y0 x1 y1<=576000:=by
 have h1:∀j,0<=Az (fun i=>laid (x0+i) (y0+j)) (x1-x0)/\Az (fun i=>laid (x0+i) (y0+j)) (x1-x0)<=24000:=fun j=>by
  have:=CQ (fun i=>laid (x0+i) (y0+j)) 1000 (by omega) (x1-x0) fun i _=>hl _ _;omega
 have:=CQ (fun j=>Az (fun i=>laid (x0+i) (y0+j)) (x1-x0)) 24000 (by omega) (y1-y0) fun j _=>h1 j;unfold EV;omega
def Fc(W H:Nat)(r:R4):Prop:=0<=r.1/\r.1<=r.2.2.1/\r.2.2.1<=W/\0<=r.2.1/\r.2.1<=r.2.2.2/\r.2.2.2<=H
theorem Fc.nats(h:Fc W H r):∃x0 y0 x1 y1:Nat,r=((x0:Int),(y0:Int),(x1:Int),(y1:Int))/\x0<=x1/\x1<=W/\y0<=y1/\y1<=H:=by
 obtain⟨a,b,c,d⟩:=r;unfold Fc at h;simp only at h;refine⟨a.toNat,b.toNat,c.toNat,d.toNat,?_,by omega,by omega,by omega,by omega⟩;simp only[Prod.mk.injEq];omega
theorem Pq:∀ {S:List (Int×Int)},(An S).Pairwise (· < ·)->∀s∈S,s.1<s.2
 |a::S,h,s,hs=>by
  have e:An (a::S)=a.1::a.2::An S:=rfl;rw[e,bX,bX]at h;rcases cw.1 hs with rfl|hs
  ·exact h.1 _ (List.mem_cons_self ..)
  ·exact Pq h.2.2 s hs
theorem Tq(hO:AL O)(hr:r∈rc O):r.1<r.2.2.1/\r.2.1<r.2.2.2/\∀x y,inR r x y=true->Ay O x y=true:=by
 unfold rc at hr;rw[List.mem_flatMap]at hr;obtain⟨b,hb,hs⟩:=hr;rw[List.mem_map]at hs;obtain⟨s,hs,rfl⟩:=hs;have h1:=hO.tb b hb;have h2:=(hO.sp b hb).1;refine⟨Pq h2.rising s hs,h1,fun x y hxy=>?_⟩;unfold Ay;rw[cF];refine⟨b,hb,?_⟩;unfold inR at hxy;simp only[bT]at hxy;rw[Bool.and_eq_true];refine⟨bQ (by omega),?_⟩;unfold Bi;rw[cF];exact⟨s,hs,bQ (by omega)⟩
theorem KQ(O:Rgn)(x y:Int):AE (rc O) x y=Ay O x y:=by
 rw[Bool.eq_iff_iff];unfold AE Ay Bi rc;simp only[cF,Bool.and_eq_true,bT,inR,List.mem_flatMap,List.mem_map];constructor
 ·rintro⟨r,⟨b,hb,s,hs,rfl⟩,h⟩;simp only at h;exact⟨b,hb,by omega,s,hs,by omega⟩
 ·rintro⟨b,hb,h1,s,hs,h2⟩;exact⟨_,⟨b,hb,s,hs,rfl⟩,by simp only;omega⟩
theorem U3(hO:AL O)(h:∀x y,Ay O x y=true->inR (0,0,(W:Int),(H:Int)) x y=true)(hr:r∈rc O):Fc W H r:=by
 obtain⟨h1,h2,h3⟩:=Tq hO hr;have q1:=h _ _ (h3 r.1 r.2.1 (by unfold inR;exact bQ (by omega)));have q2:=h _ _ (h3 (r.2.2.1-1) (r.2.2.2-1) (by unfold inR;exact bQ (by omega)));unfold inR at q1 q2;simp only[bT]at q1 q2;unfold Fc;omega
theorem KR{α:Type}{l:List α}{i:Nat}{u:α}(h:l[i]?=some u):l.set i u=l:=by
 apply List.ext_getElem?;intro j;rw[bW];by_cases e:i=j
 ·subst e;rw[if_pos rfl,if_pos (bL.1 h).1,h]
 ·rw[if_neg e]
theorem AK.painted{w w':World}{S:Nat->Prop}{c:Nat}{d:Cv}{bv:Value}{rg:Nat}{dv:Array Value}(h:AK w S c d bv rg dv)(hd:Co d)(i:Nat)(hi:i<d.bufs.length)(f:Nat->R4)(ho:Ac (fun b=>b=d.bufs[i].g) w w')(hf:Bj w' d.bufs[i].g (d.W*d.H) f):
  AK w' S c {d with bufs:=d.bufs.set i {d.bufs[i]with f:=f} } bv rg dv:=by
 obtain⟨hSi,cur0,hc0,_⟩:=h.pix d.bufs[i] (aZ hi);have hne:∀(g:Nat) (cur2:Array Value) (t:TypeId),t≠51->w.heap[g]?=some (.cells cur2 t (0,0))->w'.heap[g]?=w.heap[g]? :=fun g cur2 t ht e=>ho.block g (Ab e) fun e2=>by
  subst e2;have:=hc0.symm.trans e;simp at this;exact ht this.2.symm
 have hkr:CB w w':=fun g cur2 t ht e=>hne g cur2 t (by rcases ht with rfl|rfl<;>decide) e;refine⟨h.blk.keep (hne c _ 145 (by decide) h.blk),h.own,?_,h.ring.keep (hne rg _ 136 (by decide) h.ring),h.rown,h.size,fun j R hj=>let ⟨v,h1,h2⟩:=h.regs j R hj;⟨v,h1,h2.keptR hkr⟩,fun b hb=>?_⟩
 ·have e:(d.bufs.set i {d.bufs[i]with f:=f}).flatMap (DN d.W d.H)=d.bufs.flatMap (DN d.W d.H):=by
   have h4:=Ji (DN d.W d.H) (Ev _ _) (vj d.bufs[i].age) d.bufs i 3 (by omega) hi {d.bufs[i]with f:=f} rfl;rw[<-h4];refine KR ?_;rw[Fb _ (Ev _ _) _ i 3 (by omega) hi];rfl
  show A4 w' S _ 4 bv (d.bufs.set i _).length _;rw[e,bG];exact h.row.other fun g cur2 e=>hne g cur2 148 (by decide) e
 ·obtain⟨j,hj,rfl⟩:=List.getElem_of_mem hb;simp only[bG]at hj;simp only[List.getElem_set];by_cases e:i=j
  ·subst e;rw[if_pos rfl];exact⟨hSi,hf⟩
  ·rw[if_neg e];have hp:=h.pix d.bufs[j] (aZ hj);refine⟨hp.1,hp.2.keep (ho.block _ hp.2.has.lt fun e2=>e ?_)⟩;exact hd.apart i j _ _ (aU hi) (aU hj) e2.symm
variable{S:Nat->Prop}{c rg:Nat}{d:Cv}{dv:Array Value}
theorem AK.keepS{w':World}{bv:Value}(h:AK w S c d bv rg dv)(hk:∀g,S g->w'.heap[g]?=w.heap[g]?)(hr:CB w w'):AK w' S c d bv rg dv:=
 ⟨h.blk.keep (hk c h.own),h.own,h.row.keep fun g hg _=>hk g hg,h.ring.keep (hk rg h.rown),h.rown,h.size,fun i R hi=>let ⟨v,h1,h2⟩:=h.regs i R hi;⟨v,h1,h2.keptR hr⟩,fun b hb=>⟨(h.pix b hb).1,(h.pix b hb).2.keep (hk b.g (h.pix b hb).1)⟩⟩
def Cv.painted(d:Cv)(i:Nat)(f:Nat->R4):Cv:={d.grown with bufs:=d.bufs.mapIdx fun j b=>if j=i then⟨b.g,1,f⟩else b.older}
theorem NE(d:Cv)(i:Nat)(hi:i<d.bufs.length)(f:Nat->R4):(((d.bufs.set i {d.bufs[i]with f:=f}).map Buf.older).set i ⟨d.bufs[i].g,1,f⟩)=d.bufs.mapIdx fun j b=>if j=i then⟨b.g,1,f⟩else b.older:=by
 apply List.ext_getElem?;intro j;rw[bW,List.getElem?_mapIdx];by_cases e:i=j
 ·subst e;simp[hi]
 ·rw[if_neg e,bZ,bW,if_neg e];have e2:¬j=i:=fun q=>e q.symm;cases d.bufs[j]? <;>simp[e2]
theorem Pr(laid:Nat->Nat->Int)(hl:∀x y,0<=laid x y/\laid x y<=1000)(W H:Nat)(hW:W<=24)(hH:H<=24)(l:List R4)(hon:∀r∈l,Fc W H r)(m:Nat)(hm:m<=l.length):0<=DX laid l m/\DX laid l m<=m*576000:=by
 refine CQ _ 576000 (by omega) m fun j hj=>?_;have hjl:j<l.length:=by omega
 obtain⟨x0,y0,x1,y1,e,h1,h2,h3,h4⟩:=(hon l[j] (aZ hjl)).nats;rw[bu,aU hjl,Option.getD_some,e];unfold JW;exact IB laid hl _ _ _ _ (by simp;omega) (by simp;omega)
theorem CB.set{g:Nat}{cur:Array Value}{t:TypeId}(hg:w.heap[g]?=some (.cells cur t (0,0)))(h1:t≠192)(h2:t≠194)(j:Nat)(u:Value):CB w (w.setCell (jA g j) u):=fun b cur2 t2 ht e=>by
 refine aL w (jA g j) b u fun e2=>?_;subst e2;have:=hg.symm.trans e;simp at this;rcases ht with rfl|rfl
 ·exact h1 this.2
 ·exact h2 this.2
theorem Rg{bg cap:Nat}(h:AK w S c d (sj bg d.bufs.length cap) rg dv)(hS:∀g,S g->g<w.heap.size)(hd:Co d)(hold:d.old<=4611686018427387904)(i:Nat)(hi:i<d.bufs.length)
  (la:Option Addr) (ln lc:Nat) (pic:Nat->Nat->R4) (laid:Nat->Nat->Int) (hl:∀x y,0<=laid x y/\laid x y<=1000)
  (hAt:∀(V:World) (x y:Nat),Ac (fun b=>b=d.bufs[i].g) w V->x<d.W->y<d.H->Calls prog 115 #[.agg #[.slice la ln lc],vj x,vj y] V fun e w'=>e=.returned (.tuple #[.agg (Ch (pic x y)),vj (laid x y)])/\uj V w'):
  Calls prog 40 #[pj c,vj i,.agg #[.slice la ln lc]] w fun e w'=>∃rv O,e=.returned (.agg #[rv,vj (DX laid (rc O) (rc O).length)])/\AL O/\(∀x y,Ay O x y=d.stale d.bufs[i].age x y)/\AF w' w.heap.size rv (rc O)/\(∃dv',AK w' S c (d.painted i (BA d.W (rc O) pic d.bufs[i].f)) (sj bg d.bufs.length cap) rg dv')/\Ac (fun g=>CvS c bg rg g\/g=d.bufs[i].g) w w':=by
 obtain⟨b,hb⟩:∃b,d.bufs[i]=b:=⟨_,rfl⟩;have hW:=hd.w1;have hH:=hd.h1;have hn3:=hd.n;have hcap:d.bufs.length<=cap:=A7 h.row.1;have hcl:c<w.heap.size:=hS c h.own;have hbl:bg<w.heap.size:=hS bg (h.row.2 bg rfl);have hgl:b.g<w.heap.size:=hS b.g (by rw[<-hb];exact(h.pix _ (aZ hi)).1);have hage:b.age<=4611686018427387904:=by rw[<-hb];exact bh (hd.age _ (aZ hi)) hold
 obtain⟨n,hn⟩:∃n,d.bufs.length=n:=⟨_,rfl⟩;have HC:Hid (∀(V:World) (f:Nat->R4),AK V S c {d with bufs:=d.bufs.set i {b with f:=f} } (sj bg d.bufs.length cap) rg dv->V.cell? (jA c 4)=some (sj bg n cap)/\V.cell? (jA bg (i*4))=some (vj d.W)/\V.cell? (jA bg (i*4+1))=some (vj d.H)/\V.cell? (jA bg (i*4+2))=some (sj b.g (d.W*d.H) (d.W*d.H))/\V.cell? (jA bg (i*4+3))=some (vj b.age)):=fun V f hV=>by
  have hi':i<(d.bufs.set i {b with f:=f}).length:=by simpa using hi
  obtain⟨g',cap',q1,q2,q3,q4,q5,q6⟩:=hV.row.open (cP (cB _) hi');simp only[bG,Value.slice.injEq,Option.some.injEq,Addr.mk.injEq]at q1;obtain⟨⟨rfl,_⟩,_,rfl⟩:=q1;have hat:=fun o (ho:o<4)=>Fb (DN d.W d.H) (Ev _ _) (d.bufs.set i {b with f:=f}) i o ho hi';simp only[List.getElem_set_self]at hat;exact⟨by rw[<-hn];exact hV.blk.cell 4,q5 _ _ (hat 0 (by omega)),q5 _ _ (hat 1 (by omega)),q5 _ _ (hat 2 (by omega)),q5 _ _ (hat 3 (by omega))⟩
 have hself:d.bufs.set i {b with f:=b.f} =d.bufs:=KR (by rw[aU hi,hb]);have HM0:Hid (AK w S c {d with bufs:=d.bufs.set i {b with f:=b.f} } (sj bg d.bufs.length cap) rg dv):=by rw[Hid,hself];exact h
 obtain⟨c4,b0,b1,b2,b3⟩:=HC.out w b.f HM0.out;have HOD:Hid (∀V:World,uj w V->Calls prog 76 #[pj c,vj b.age] V fun e w'=>∃ua un uc O,e=.returned (.agg #[.slice ua un uc])/\Hid (AJ w' (.slice ua un uc) O/\AL O/\(∀x y,Ay O x y=d.stale b.age x y)/\uj V w')):=fun V hV=>(LV (h.below hV) hd b.age hage).mono fun e w' ⟨u,O,q1,q2,q3,q4,q5⟩=>by
  obtain⟨ua,un,uc,rfl⟩:=q2.form;exact⟨ua,un,uc,O,q1,q2,q3,q4,q5⟩
 have HRc:Hid (∀(V:World) (u:Value) (O:Rgn),AJ V u O->AL O->Calls prog 77 #[.agg #[u]] V fun e w'=>∃ra rcap,e=.returned (.slice ra (rc O).length rcap)/\Hid (AF w' V.heap.size (.slice ra (rc O).length rcap) (rc O)/\uj V w')):=fun V u O hV hO=>(Je O u V hV hO).mono fun e w' ⟨v,q1,q2,q3⟩=>by
  obtain⟨ra,rcap,rfl⟩:=q2.form;exact⟨ra,rcap,q1,q2,q3⟩
 have HIn:Hid (∀O:Rgn,AL O->(∀x y,Ay O x y=d.stale b.age x y)->(rc O).length<=10000000/\∀r∈rc O,Fc d.W d.H r):=fun O hO hm=>by
  refine⟨?_,fun r hr=>U3 hO (fun x y hxy=>?_) hr⟩
  ·have h1:=Nz hO O.length;have h2:=hO.len;rw[bw (aO _)]at h1;exact bh h1 (bh (bU _ h2) (by omega))
  ·rw[hm]at hxy;unfold Cv.stale at hxy;split at hxy
   ·exact hxy
   ·rw[cF]at hxy;obtain⟨k,_,hk⟩:=hxy;unfold Cv.back at hk;rcases e:d.dam[(d.nw+4-k)%4]?with _|R
    ·rw[e]at hk;simp[Ay]at hk
    ·rw[e]at hk;exact hd.inside R (cH e) x y hk
 have HOk:Hid (∀f:Nat->R4,Co {d with bufs:=d.bufs.set i {b with f:=f} }):=fun f=>by
   refine⟨hd.w1,hd.h1,by simpa using hd.n,hd.nw,hd.ln,hd.good,fun b' hb'=>?_,hd.inside,fun j k a a' hj hk hg=>?_⟩
   ·rcases List.mem_or_eq_of_mem_set hb' with q|q
    ·exact hd.age b' q
    ·subst q;have:=hd.age _ (aZ hi);rw[hb]at this;exact this
   ·have key:∀(q:Nat) (z:Buf),(d.bufs.set i {b with f:=f})[q]?=some z->∃z',d.bufs[q]?=some z'/\z'.g=z.g:=fun q z hz=>by
     rw[bW]at hz;split at hz
     ·rename_i e
      subst e;simp at hz;subst hz;exact⟨b,by rw[aU hi,hb],rfl⟩
     ·exact⟨z,hz,rfl⟩
    obtain⟨z1,y1,y2⟩:=key j a hj;obtain⟨z2,y3,y4⟩:=key k a' hk;exact hd.apart j k z1 z2 y1 y3 (by rw[y2,y4];exact hg)
 have HG:Hid (∀(V:World) (f:Nat->R4),AK V S c {d with bufs:=d.bufs.set i {b with f:=f} } (sj bg d.bufs.length cap) rg dv->Calls prog 79 #[pj c] V fun e w'=>e=.returned (.tuple #[])/\w'.cell? (jA c 4)=some (sj bg n cap)/\(∃u,w'.cell? (jA bg (i*4+3))=some u)/\w'.frozen? (jA bg (i*4+3))=false/\Ac (CvS c bg rg) V w'/\Hid (∃dv',AK (w'.setCell (jA bg (i*4+3)) (vj 1)) S c (d.painted i f) (sj bg d.bufs.length cap) rg dv')):=fun V f hV=>by
  have hlen:(d.bufs.set i {b with f:=f}).length=d.bufs.length:=by simp
  rw[<-hlen]at hV;refine(LW hV (HOk.out f) hold).mono fun e w' ⟨q1,⟨dv',q2⟩,q3⟩=>?_;have hlen2:(Cv.grown {d with bufs:=d.bufs.set i {b with f:=f} }).bufs.length=d.bufs.length:=by simp[Cv.grown]
  have hi2:i<(Cv.grown {d with bufs:=d.bufs.set i {b with f:=f} }).bufs.length:=by rw[hlen2];exact hi
  obtain⟨g',cap',z1,z2,z3,z4,z5,z6⟩:=q2.row.open (cP (cB _) hi2);rw[hlen,hlen2]at z1;simp only[Value.slice.injEq,Option.some.injEq,Addr.mk.injEq]at z1;obtain⟨⟨rfl,_⟩,_,rfl⟩:=z1;have hat:=Fb (DN d.W d.H) (Ev _ _) (Cv.grown {d with bufs:=d.bufs.set i {b with f:=f} }).bufs i 3 (by omega) hi2;refine⟨q1,?_,⟨_,z5 _ _ hat⟩,z6 _,q3,dv',?_⟩
  ·rw[<-hn,<-hlen];exact q2.blk.cell 4
  ·have hbg:(Cv.grown {d with bufs:=d.bufs.set i {b with f:=f} }).bufs[i].g=b.g:=by simp[Cv.grown,Buf.older_g]
   have hp:=q2.pix _ (aZ hi2);have hst:=q2.setBuf (by rw[hlen2,hlen]) i 3 (by omega) hi2 ⟨b.g,1,f⟩ (vj 1) (by
    unfold DN;rw[hbg];rfl) (by
    have e2:(Cv.grown {d with bufs:=d.bufs.set i {b with f:=f} }).bufs[i].f=f:=by simp[Cv.grown,Buf.older_f]
    rw[hbg,e2]at hp;exact hp)
   have hbe:=NE d i hi f;rw[hb]at hbe;have e3:(Cv.grown {d with bufs:=d.bufs.set i {b with f:=f} }).bufs.set i ⟨b.g,1,f⟩=(d.painted i f).bufs:=hbe;rw[e3,hlen]at hst;exact hst
 rw[hb]at hAt;have HAt:=Aa hAt;have HL:=Aa hl;have Hd:=Aa hd;have HP:Hid (∀(V V':World) (f:Nat->R4),AK V S c {d with bufs:=d.bufs.set i {b with f:=f} } (sj bg d.bufs.length cap) rg dv->∀f',Ac (fun g=>g=b.g) V V'->Bj V' b.g (d.W*d.H) f'->AK V' S c {d with bufs:=d.bufs.set i {b with f:=f'} } (sj bg d.bufs.length cap) rg dv):=fun V V' f hV f' ho hf=>by
  have hi':i<(d.bufs.set i {b with f:=f}).length:=by simpa using hi
  have q:=hV.painted (HOk.out f) i hi' f' (by simpa using ho) (by simpa using hf);simpa using q
 rw[hn]at hcap;rw[hb];clear h hd hl hAt hself;go_enter func40,ntmps40
 have hin':(i:Int)<(n:Int):=by omega
 have hi0:(0:Int)<=(i:Int):=by omega
 have hic:i<cap:=by omega
 go_wp2_with(first
  |(go_at_call 76;refine(HOD.out _ (Joins.below_alloc2 w _ _)).mono ?_;rintro e w1 ⟨ua,un,uc,O,rfl,H1⟩)
  |(go_at_call 77;refine(HRc.out _ _ _ H1.out.1 H1.out.2.1).mono ?_;rintro e w2 ⟨ra,rcap,rfl,H2⟩)
  |fail)
 obtain⟨hG1,hm1⟩:AL O/\∀x y,Ay O x y=d.stale b.age x y:=⟨H1.out.2.1,H1.out.2.2.1⟩;obtain⟨hlm,hon⟩:=HIn.out O hG1 hm1;have HGm:=Aa (aK hG1 hm1);have hVb:=H1.out.2.2.2;have hb12:=H2.out.2;have hw2:uj w w2:=(Joins.below_alloc2 w _ _).trans ((hVb.mono (by simp;omega)).trans (hb12.mono (bh (by simp;omega) hVb.size)));have x0:w2.heap[w.heap.size]?=some (.cells #[.slice la ln lc] 95 (0,0)):=by
  rw[hb12.block _ (aQ (by simp;omega) hVb.size),hVb.block _ (by simp;omega)];exact(Ad _ _ _ (by simp)).trans (aR w _)
 have x1:w2.heap[w.heap.size+1]?=some (.cells #[jj,vj 0] 35 (0,0)):=by
  rw[hb12.block _ (aQ (by simp) hVb.size),hVb.block _ (by simp)];have q:=aR (w.alloc (.cells #[.slice la ln lc] 95)) (.cells #[jj,vj 0] 35);rw[show(w.alloc (.cells #[.slice la ln lc] 95)).heap.size=w.heap.size+1 by simp]at q;exact q
 have hsz2:w.heap.size+1<w2.heap.size:=Ab x1;have hor:AF w2 w.heap.size (.slice ra (rc O).length rcap) (rc O):=H2.out.1.lower (bh (by simp;omega) hVb.size);have HQ:Hid (∀l,rc O=l->AL O/\(∀x y,Ay O x y=d.stale b.age x y)/\rc O=l):=fun l hl=>⟨hG1,hm1,hl⟩;obtain⟨l,hlq⟩:∃l,rc O=l:=⟨_,rfl⟩;rw[hlq]at hlm hon hor;rw[hlq];have HO3:=Aa (HQ.out l hlq);obtain⟨m,hm⟩:∃m,l.length=m:=⟨_,rfl⟩;rw[hm]at hlm hor;rw[hm];have HK:Hid (∀wr:World,Ac (fun g=>g=b.g) w2 wr->wr.heap[w.heap.size]?=some (.cells #[.slice la ln lc] 95 (0,0))/\wr.heap[w.heap.size+1]?=some (.cells #[jj,vj 0] 35 (0,0))/\AF wr w.heap.size (.slice ra m rcap) l/\Ac (fun g=>g=b.g) w wr):=fun wr ho=>by
  refine⟨(ho.block _ (by omega) (by omega)).trans x0,(ho.block _ (by omega) (by omega)).trans x1,⟨?_,hor.2⟩,(Ac.below hw2).trans (ho.mono fun g _ hg=>.inl hg)⟩;obtain⟨k1,k2⟩:=hor.1;refine⟨k1,?_⟩;rcases k2 with k2|⟨g,cap',cur,a1,a2,a3,a4⟩
  ·exact .inl k2
  ·exact .inr ⟨g,cap',cur,a1,a2,(ho.block g (Ab a3) (by omega)).trans a3,a4⟩
 have HLb:Hid (∀j,j<=m->0<=DX laid l j/\DX laid l j<=5760000000000):=fun j hj=>by
  have:=Pr laid HL.out d.W d.H hW.2 hH.2 l hon j (by omega);have hj':(j:Int)<=10000000:=by omega
  omega
 have HOn:=Aa hon;clear hG1 hm1 hVb hb12 x0 x1 hor HQ hlq HIn HOD HRc H1 H2 HGm hon
 go_loopg [25] m (fun gg s25 wr=>∃(j:Nat) (B:Int),s25=vj j/\gg+j=m/\B=DX laid l j/\wr.heap[w2.heap.size]?=some (.cells #[.slice ra m rcap,vj B] 35 (0,0))/\AK wr S c {d with bufs:=d.bufs.set i {b with f:=BA d.W (l.take j) pic b.f} } (sj bg d.bufs.length cap) rg dv/\Ac (fun g=>g=b.g) w2 wr)
 case atStart=>
  refine⟨0,0,rfl,by omega,rfl,aR w2 _,?_,(Ac.refl _ w2).alloc _⟩;rw[show BA d.W (l.take 0) pic b.f=b.f from funext (JX d.W l pic b.f)];exact HM0.out.below (hw2.alloc hw2.size _)
 case round=>
  rename World=>wr;obtain⟨j,B,rfl,hgj,hB,hD,hcv,ho⟩:=hrel;obtain⟨y0,y1,hor,how⟩:=HK.out wr ho;have hszr:w2.heap.size<wr.heap.size:=Ab hD;have d0:wr.cell? (jA w2.heap.size 0)=some (.slice ra m rcap):=aP _ _ 0 _ _ _ hD;have d1:wr.cell? (jA w2.heap.size 1)=some (vj B):=aP _ _ 1 _ _ _ hD;have nD:¬w2.heap.size=bg:=by omega
  have nR:¬w.heap.size+1=bg:=by omega
  have nDR:¬w2.heap.size=w.heap.size+1:=by omega
  cases gk with
  |zero=>
   have hlt:¬(j:Int)<(m:Int):=by omega
   have hjm:j=m:=by omega
   have HB:Hid (B=DX laid l l.length):=by rw[Hid,hB,hm,hjm]
   have hcv2:AK wr S c {d with bufs:=d.bufs.set i {b with f:=BA d.W l pic b.f} } (sj bg d.bufs.length cap) rg dv:=by
    rw[hjm,<-hm,bw (aO _)]at hcv;exact hcv
   have hrgl:rg<w.heap.size:=hS rg hcv.rown;have HG2:Hid (Calls prog 79 #[pj c] wr fun e w'=>e=.returned (.tuple #[])/\w'.cell? (jA c 4)=some (sj bg n cap)/\(∃u,w'.cell? (jA bg (i*4+3))=some u)/\w'.frozen? (jA bg (i*4+3))=false/\w'.cell? (jA w2.heap.size 0)=some (.slice ra m rcap)/\w'.cell? (jA w2.heap.size 1)=some (vj B)/\w'.cell? (jA (w.heap.size+1) 0)=some (jj)/\w'.cell? (jA (w.heap.size+1) 1)=some (vj 0)/\w'.frozen? (jA (w.heap.size+1) 0)=false/\w'.frozen? (jA (w.heap.size+1) 1)=false/\Hid (∃O,(AL O/\(∀x y,Ay O x y=d.stale b.age x y)/\rc O=l)/\AF (((w'.setCell (jA bg (i*4+3)) (vj 1)).setCell (jA (w.heap.size+1) 0) (.slice ra m rcap)).setCell (jA (w.heap.size+1) 1) (vj B)) w.heap.size (.slice ra m rcap) l/\(∃dv',AK (((w'.setCell (jA bg (i*4+3)) (vj 1)).setCell (jA (w.heap.size+1) 0) (.slice ra m rcap)).setCell (jA (w.heap.size+1) 1) (vj B)) S c (d.painted i (BA d.W l pic b.f)) (sj bg d.bufs.length cap) rg dv')/\Ac (fun g=>CvS c bg rg g\/g=b.g) w (((w'.setCell (jA bg (i*4+3)) (vj 1)).setCell (jA (w.heap.size+1) 0) (.slice ra m rcap)).setCell (jA (w.heap.size+1) 1) (vj B)))):=(HG.out wr _ hcv2).mono fun e w' ⟨q1,q2,q3,q4,q5,⟨dv',q6⟩⟩=>by
    have kD:=(q5.block w2.heap.size hszr (by unfold CvS;omega)).trans hD;have kR:=(q5.block (w.heap.size+1) (by omega) (by unfold CvS;omega)).trans y1;refine⟨q1,q2,q3,q4,aP _ _ 0 _ _ _ kD,aP _ _ 1 _ _ _ kD,aP _ _ 0 _ _ _ kR,aP _ _ 1 _ _ _ kR,by simp[World.frozen?,kR],by simp[World.frozen?,kR],O,HO3.out,?_,⟨dv',?_⟩,?_⟩
    ·refine⟨?_,hor.2⟩;obtain⟨k1,k2⟩:=hor.1;refine⟨k1,?_⟩;rcases k2 with k2|⟨g,cap',cur,a1,a2,a3,a4⟩
     ·exact .inl k2
     ·refine .inr ⟨g,cap',cur,a1,a2,?_,a4⟩;have hgR:g≠w.heap.size+1:=fun e=>by
       subst e;have:=y1.symm.trans a3;simp at this
      rw[aL _ _ g _ hgR,aL _ _ g _ hgR,aL _ _ g _ (show g≠bg by omega),q5.block g (Ab a3) (by unfold CvS;omega)];exact a3
    ·have kR2:(w'.setCell (jA bg (i*4+3)) (vj 1)).heap[w.heap.size+1]?=some (.cells #[jj,vj 0] 35 (0,0)):=(aL _ (jA bg (i*4+3)) _ _ nR).trans kR;have kR3:=bH _ (w.heap.size+1) 0 _ _ (Value.slice ra m rcap) kR2;refine(q6.keepS (fun g hg=>aL _ _ g _ (show g≠w.heap.size+1 by have:=hS g hg;omega)) (CB.set kR2 (by decide) (by decide) _ _)).keepS (fun g hg=>aL _ _ g _ (show g≠w.heap.size+1 by have:=hS g hg;omega)) (CB.set kR3 (by decide) (by decide) _ _)
    ·refine Ac.set (Ac.set (Ac.set ((how.mono fun g _ hg=>.inr hg).trans (q5.mono fun g _ hg=>.inl (.inl hg))) (.inl (.inl (.inr (.inl rfl)))) _) (.inr (by simp)) _) (.inr (by simp)) _
   clear hcv hcv2 hB hD hor how y0 y1 HG
   go_wp2_with(go_at_call 79;refine HG2.out.mono ?_;rintro e w7 ⟨rfl,z4,⟨u3,z3⟩,zf,e0,e1,r0,r1,f0,f1,H7⟩)
   obtain⟨O',⟨g1,g2,g3⟩,g4,g5,g6⟩:=H7.out;refine cU (v:=.agg #[.slice ra m rcap,vj B]) (by simp[results,results40,go_sem,r0,r1]) rfl ⟨.slice ra m rcap,O',?_,g1,g2,?_,?_,?_⟩
   ·rw[g3,<-HB.out]
   ·rw[g3];exact g4
   ·rw[g3];exact g5
   ·exact g6
  |succ gk=>
   have hlt:(j:Int)<(m:Int):=by omega
   have hjl:j<l.length:=by omega
   obtain⟨x0,y0',x1,y1',hr,hx1,hx2,hy1,hy2⟩:=(HOn.out l[j] (aZ hjl)).nats;obtain⟨ar,cr,hf,hcs0⟩:=hor.rects;simp only[Value.slice.injEq]at hf;obtain⟨rfl,hx9,rfl⟩:=hf;clear hx9;obtain⟨rb,roff,hra,hcs⟩:=hcs0 (by omega);obtain⟨k0,k1,k2,k3⟩:=hcs j hjl;rw[hr]at k0 k1 k2 k3;simp only at k0 k1 k2 k3;subst hra;have hrbl:=Ak k0;have hm0:0<l.length:=by omega
   obtain⟨pg,pcap,hpf,_,hpg⟩:=World.ownsRow.form (by have q:=hor.1;rw[hm]at q ⊢;exact q) hm0;rw[hm]at hpf;simp only[Value.slice.injEq,Option.some.injEq,Addr.mk.injEq]at hpf;obtain⟨⟨rfl,hro,_⟩,_,rfl⟩:=hpf;subst hro;simp only[Nat.zero_add]at k0 k1 k2 k3;have hcapj:j<rcap:=by
    have q:=hor.1;rw[hm]at q;have:=A7 q;omega
   obtain⟨a4,e0,e1,e2,e3⟩:=HC.out wr _ hcv;obtain⟨LL,hLL⟩:∃LL,EV laid x0 y0' x1 y1'=LL:=⟨_,rfl⟩;have hLb:0<=LL/\LL<=576000:=by rw[<-hLL];exact IB laid HL.out _ _ _ _ (by omega) (by omega)
   have hBb:=HLb.out j (by omega);rw[<-hB]at hBb;have HPt:Hid (∀N:Nat,N=d.W*d.H->Calls prog 78 #[.agg #[vj d.W,vj d.H,sj b.g N N,vj b.age],.agg #[vj x0,vj y0',vj x1,vj y1'],.agg #[.slice la ln lc]] (wr.alloc (.cells #[vj x0,vj y0',vj x1,vj y1'] 53)).drew fun e w'=>e=.returned (vj LL)/\w'.cell? (jA w2.heap.size 1)=some (vj B)/\w'.frozen? (jA w2.heap.size 1)=false/\Hid (B+LL=DX laid l (j+1)/\(w'.setCell (jA w2.heap.size 1) (vj (B+LL))).heap[w2.heap.size]?=some (.cells #[sj rb m rcap,vj (B+LL)] 35 (0,0))/\AK (w'.setCell (jA w2.heap.size 1) (vj (B+LL))) S c {d with bufs:=d.bufs.set i {b with f:=BA d.W (l.take (j+1)) pic b.f} } (sj bg d.bufs.length cap) rg dv/\Ac (fun g=>g=b.g) w2 (w'.setCell (jA w2.heap.size 1) (vj (B+LL))))):=fun N hN=>by
    subst hN;have hbV:uj wr (wr.alloc (.cells #[vj x0,vj y0',vj x1,vj y1'] 53)).drew:=(Joins.below_alloc1 wr _).drew;have hcvV:=hcv.below hbV;have hi':i<(d.bufs.set i {b with f:=BA d.W (l.take j) pic b.f}).length:=by simpa using hi
    have hpx:=(hcvV.pix _ (aZ hi')).2;simp only[List.getElem_set_self]at hpx;refine(Tp d.W d.H (d.W*d.H) b.g b.age x0 y0' x1 y1' hW.2 hH.2 rfl ⟨hx1,hx2⟩ ⟨hy1,hy2⟩ la ln lc pic laid _ _ hpx HL.out fun V x y hV hx hy=>HAt.out V x y ((how.after hbV).trans (hV.mono fun g _ hg=>.inl hg)) hx hy).mono fun e w' ⟨q1,q2,q3⟩=>?_;have kD:w'.heap[w2.heap.size]?=some (.cells #[sj rb m rcap,vj B] 35 (0,0)):=(q3.block _ (aQ hszr hbV.size) (by omega)).trans ((hbV.block _ hszr).trans hD);refine⟨by rw[q1,hLL],aP _ _ 1 _ _ _ kD,by simp[World.frozen?,kD],?_,?_,?_,?_⟩
    ·rw[hB,<-hLL];unfold DX;show _=Az _ j+JW laid (l.getD j (0,0,0,0));rw[bu,aU hjl,Option.getD_some,hr];unfold JW;simp
    ·exact bH _ w2.heap.size 1 _ _ _ kD
    ·have q4:=HP.out _ w' _ hcvV (BA d.W (l.take (j+1)) pic b.f) q3 (q2.congr fun k _=>JY d.W l pic b.f j hjl x0 y0' x1 y1' hr k);exact q4.keepS (fun g hg=>aL _ _ g _ (show g≠w2.heap.size by have:=hS g hg;omega)) (CB.set kD (by decide) (by decide) _ _)
    ·exact Ac.set ((ho.after hbV).trans (q3.mono fun g _ hg=>.inl hg)) (.inr (aO _)) _
   obtain⟨N,hN⟩:∃N,d.W*d.H=N:=⟨_,rfl⟩;have HPt2:=Aa (HPt.out N hN.symm);rw[hN]at e2;have pc:wr.cell? (jA w.heap.size 0)=some (.slice la ln lc):=cell_of_one y0;clear hcv hB hD hor how y0 y1 HG HPt hr hcs hcs0 hLL hN HC HP HM0;have hcr:c<wr.heap.size:=by omega
   have hbr:bg<wr.heap.size:=by omega
   have hwr:w.heap.size<wr.heap.size:=by omega
   go_wp2_with fail
   go_region_with (go_at_call 78;refine HPt2.out.mono ?_;rintro e w5 ⟨rfl,v1,v2,H5⟩)
   all_goals
    go_wp2_with fail
    go_roundg gk
    case measure=>omega
    case rel=>exact⟨j+1,B+LL,by go_num,by omega,H5.out.1,H5.out.2.1,H5.out.2.2.1,H5.out.2.2.2⟩
variable{l:List R4}{v:Value}{w':World}
def Bb(w:World)(v:Value)(l:List R4):Prop:=
 ∃a c,v=.slice a l.length c/\(0<l.length->l.length<=c/\∃b off,a=some (jA b off)/\∀k (h:k<l.length),w.cell? (jA b (off+k*4))=some (.int .u8 l[k].1)/\w.cell? (jA b (off+k*4+1))=some (.int .u8 l[k].2.1)/\w.cell? (jA b (off+k*4+2))=some (.int .u8 l[k].2.2.1)/\w.cell? (jA b (off+k*4+3))=some (.int .u8 l[k].2.2.2))
theorem Bb.keep(h:Bb w v l)(hk:∀b,v.ownBlock=some b->b<w.heap.size->w'.heap[b]?=w.heap[b]?):Bb w' v l:=by
 obtain⟨a,c,hv,hc⟩:=h;refine⟨a,c,hv,fun hl=>?_⟩;obtain⟨hlc,b,off,ha,hcs⟩:=hc hl;refine⟨hlc,b,off,ha,fun k hk2=>?_⟩;obtain⟨h1,h2,h3,h4⟩:=hcs k hk2;have hlt:=Ak h1;have hbl:=hk b (by rw[hv,ha];rfl) hlt;exact⟨(aV hbl).trans h1,(aV hbl).trans h2,(aV hbl).trans h3,(aV hbl).trans h4⟩
theorem Bb.below(h:Bb w v l)(hb:uj w w'):Bb w' v l:=h.keep fun b _ hl=>hb.block b hl
def Aq(l:List R4):List Value:=l.flatMap fun r=>[.int .u8 r.1,.int .u8 r.2.1,.int .u8 r.2.2.1,.int .u8 r.2.2.2]
theorem BM(l:List R4):(Aq l).length=l.length*4:=by
 unfold Aq;induction l with
 |nil=>rfl
 |cons a l ih=>rw[ce,aY,ih];simp;omega
theorem D5(l m:List R4):Aq (l++m)=Aq l++Aq m:=by unfold Aq;rw[cM]
theorem JZ(l:List R4):∀x∈Aq l,∃a:Int,x=.int .u8 a:=by
 intro x hx;unfold Aq at hx;rw[List.mem_flatMap]at hx;obtain⟨r,_,hx⟩:=hx;simp at hx;rcases hx with rfl|rfl|rfl|rfl<;>exact⟨_,rfl⟩
theorem Ed:(prog.info? 51).map (fun i=>(i.zero,i.size,i.bytes))=some (some (.agg #[.int .u8 0,.int .u8 0,.int .u8 0,.int .u8 0]),4,4):=by kernel_rfl
theorem Bk(l:List R4)(i:Nat)(hi:i<l.length):
  (Aq l)[i*4]?=some (.int .u8 l[i].1)/\(Aq l)[i*4+1]?=some (.int .u8 l[i].2.1)/\(Aq l)[i*4+2]?=some (.int .u8 l[i].2.2.1)/\(Aq l)[i*4+3]?=some (.int .u8 l[i].2.2.2):=by
 induction l generalizing i with
 |nil=>simp at hi
 |cons a l ih=>
  unfold Aq;rw[ce];cases i with
  |zero=>exact⟨rfl,rfl,rfl,rfl⟩
  |succ i=>
   have h9:=ih i (by simpa using hi);unfold Aq at h9;refine⟨?_,?_,?_,?_⟩
   ·rw[bO (by simp;omega),show(i+1)*4-_=i*4 by simp;omega];exact h9.1
   ·rw[bO (by simp;omega),show(i+1)*4+1-_=i*4+1 by simp;omega];exact h9.2.1
   ·rw[bO (by simp;omega),show(i+1)*4+2-_=i*4+2 by simp;omega];exact h9.2.2.1
   ·rw[bO (by simp;omega),show(i+1)*4+3-_=i*4+3 by simp;omega];exact h9.2.2.2
theorem DY(l:List R4):∀u∈Aq l,u.oneCell'=true:=by
 intro u hu;obtain⟨a,rfl⟩:=JZ l u hu;rfl
theorem KS(h:Bb w v l)(hn:l=[]->v=jj\/∃ad c,v=.slice (some ad) 0 c):(v=jj/\l.length=0)\/∃ad c,v=.slice (some ad) l.length c/\∀j u,(Aq l)[j]?=some u->w.cell? (ad.add j)=some u:=by
 by_cases hl:l=[]
 ·rcases hn hl with hn|⟨ad,c,hn⟩
  ·exact .inl ⟨hn,by rw[hl];rfl⟩
  ·exact .inr ⟨ad,c,by rw[hl];exact hn,fun j u hu=>by rw[hl]at hu;simp[Aq]at hu⟩
 ·right;have hpos:0<l.length:=by cases l with
   |nil=>exact absurd rfl hl
   |cons a l=>simp
  obtain⟨a,c,rfl,hc⟩:=h;obtain⟨_,b,off,rfl,hcs⟩:=hc hpos;refine⟨_,c,rfl,fun j u hu=>?_⟩;have hj:j<l.length*4:=by
   rw[<-BM];exact(bL.1 hu).1
  obtain⟨k,hk⟩:∃k,j/4=k:=⟨_,rfl⟩;have hkl:k<l.length:=by omega
  obtain⟨q1,q2,q3,q4⟩:=Bk l k hkl;obtain⟨c1,c2,c3,c4⟩:=hcs k hkl;rw[Es];have hcase:j=k*4\/j=k*4+1\/j=k*4+2\/j=k*4+3:=by omega
  clear hk hj;rcases hcase with rfl|rfl|rfl|rfl
  ·rw[q1]at hu;rw[<-hu];exact c1
  ·rw[q2]at hu;rw[<-hu];exact c2
  ·rw[q3]at hu;rw[<-hu];exact c3
  ·rw[q4]at hu;rw[<-hu];exact c4
theorem J0(w:World):(binOp .eql 44 (jj) (jj)).run prog w=.ok (.bool true) w:=rfl
theorem Fy(ad:Addr)(n c:Nat)(w:World):(binOp .eql 44 (.slice (some ad) n c) (jj)).run prog w=.ok (.bool false) w:=rfl
def pxL(f:Nat->R4)(n:Nat):List R4:=(List.range n).map f
theorem B9(f:Nat->R4)(n:Nat):(pxL f n).length=n:=by simp[pxL]
theorem Bj.at'{w:World}{g n:Nat}{f:Nat->R4}(h:Bj w g n f)(c:Nat)(hn:n<=c):Bb w (sj g n c) (pxL f n):=by
 obtain⟨cur,h1,h2,h3⟩:=h;refine⟨some (jA g 0),c,by rw[B9],fun _=>⟨by rw[B9];exact hn,g,0,rfl,fun k hk=>?_⟩⟩;rw[B9]at hk;have q:=h3 k hk;have e:(pxL f n)[k]'(by rw[B9];exact hk)=f k:=by simp[pxL]
 rw[e];have ec:=fun o=>aP w g (0+k*4+o) cur _ _ h1;refine⟨?_,?_,?_,?_⟩
 ·have:=ec 0;simp only[Nat.zero_add,Nat.add_zero]at this ⊢;rw[this];exact q.1
 ·have:=ec 1;simp only[Nat.zero_add]at this ⊢;rw[this];exact q.2.1
 ·have:=ec 2;simp only[Nat.zero_add]at this ⊢;rw[this];exact q.2.2.1
 ·have:=ec 3;simp only[Nat.zero_add]at this ⊢;rw[this];exact q.2.2.2
theorem Tr(g n c:Nat)(hc:n<=c)(hn:n<=576)(f:Nat->R4)(w:World)(h:Bj w g n f):
  Calls prog 165 #[sj g n c] w fun e w'=>∃v,e=.returned v/\w'.ownsRow w.heap.size 51 4 v n (Aq (pxL f n))/\v≠jj/\uj w w':=by
 obtain⟨i0,hi0,hz0,hz1,hz2⟩:=cW Ed;have hl:=h.has.lt;have hnews:=KS ((h.keep (Ad w (.cells #[] 51) g hl)).at' c hc) fun e=>.inr ⟨(jA g 0),c,by have:=congrArg List.length e;rw[B9]at this;simp at this;rw[this]⟩;rw[B9]at hnews;have HNw:=Aa hnews;clear hnews h;have HOw:Hid ((w.alloc (.cells #[] 51)).ownsRow w.heap.size 51 4 (sj w.heap.size 0 0) 0 []):=⟨rfl,.inr ⟨w.heap.size,0,#[],rfl,aO _,aR w _,by simp,by simp⟩⟩;have hq:=Fy;go_enter func165,ntmps165
 go_wp2_with(at_builtin;refine Am (P:=prog) rfl (.tmp 5) (.tmp 6) 44 rfl w.heap.size 51 i0 _ 4 4 underlying44 hi0 hz0 hz1 hz2 rfl (by decide) (sj w.heap.size 0 0) 0 [] rfl ?_ (sj g n c) n (Aq (pxL f n)) rfl ?_ HNw.out (DY _) (by unfold maxLen;omega) (by omega) (by simp) ?_;exact HOw.out;(rw[BM,B9]);intro v3 w3 ho3 hg3 hn3 ha3;have HB3:=Aa (((aN w.heap.size w).alloc (aO _) _).grown hg3 (by simp) (fun k hk=>by simp[Value.ownBlock]at hk;omega));have HO3:=Aa (aK ho3 hn3);clear ho3 hg3 hn3 ha3)
 go_ret;refine⟨_,rfl,?_,?_,HB3.out⟩
 ·have q:=HO3.out.1;rw[Nat.zero_add,List.nil_append]at q;exact q
 ·intro e;have q:=HO3.out.2.1 e;simp at q
theorem Ts(W H g n:Nat)(hn:n<=576)(f:Nat->R4)(w:World)(h:Bj w g n f):
  Calls prog 110 #[.agg #[vj W,vj H,sj g n n]] w fun e w'=>∃v,e=.returned v/\w'.ownsRow w.heap.size 51 4 v n (Aq (pxL f n))/\v≠jj/\uj w w':=by
 have hl:=h.has.lt;have HC:=Aa (Tr g n n (aO _) hn f _ (h.keep (Ad w (.cells #[vj W,vj H,sj g n n] 122) g hl)));clear h;go_enter func110,ntmps110
 go_wp2_with(go_at_call 165;refine HC.out.mono ?_;rintro e w1 ⟨v,rfl,q1,q2,q3⟩;have H1:=Aa (aK q1 (aK q2 q3));clear q1 q2 q3)
 go_ret;obtain⟨q1,q2,q3⟩:=H1.out;refine⟨_,rfl,⟨q1.1,q1.2.imp id fun⟨g,cap,cur,a1,a2,a3⟩=>⟨g,cap,cur,a1,bh (by simp) a2,a3⟩⟩,q2,(Joins.below_alloc1 w _).trans (q3.mono (by simp))⟩
theorem WK{w:World}{S:Nat->Prop}{c:Nat}{d:Cv}{bg cap:Nat}{rg:Nat}{dv:Array Value}(h:AK w S c d (sj bg d.bufs.length cap) rg dv)(i:Int):
  Calls prog 39 #[pj c,vj i] w fun e w'=>e=.returned (.bool (decide (0<=i/\i<d.bufs.length)))/\w'=w:=by
 have c4:w.cell? (jA c 4)=some (sj bg d.bufs.length cap):=h.blk.cell 4;have hcl:=Ak c4;obtain⟨n,hn⟩:∃n,d.bufs.length=n:=⟨_,rfl⟩;rw[hn]at c4;rw[hn];clear h hn;by_cases h0:0<=i
 ·by_cases h1:i<n
  ·have e:decide (0<=i/\i<(n:Int))=true:=bQ ⟨h0,h1⟩;rw[e];go_enter func39,ntmps39
   go_wp2_with fail
   go_ret;exact⟨rfl,rfl⟩
  ·have e:decide (0<=i/\i<(n:Int))=false:=cE fun q=>h1 q.2;rw[e];go_enter func39,ntmps39
   go_wp2_with fail
   go_ret;exact⟨rfl,rfl⟩
 ·have e:decide (0<=i/\i<(n:Int))=false:=cE fun q=>h0 q.1;rw[e];go_enter func39,ntmps39
  go_wp2_with fail
  go_ret;exact⟨rfl,rfl⟩
theorem NZ(r:R4)(w:World):Calls prog 100 #[.agg #[.int .u8 r.1,.int .u8 r.2.1,.int .u8 r.2.2.1,.int .u8 r.2.2.2]] w fun e w'=>e=.returned (.bool (!Ef r))/\uj w w':=by
 have HM:=Aa (GS r.1 r.2.1 r.2.2.1 r.2.2.2);have HA:=Aa (fun o1 o2=>al2 (aO w.heap.size) o1 o2);go_enter func100,ntmps100
 go_wp2_with(go_at_call 101;refine(HM.out _).mono ?_;rintro e w' ⟨rfl,rfl⟩)
 go_ret;exact⟨rfl,HA.out _ _⟩
theorem Vr(l:List R4)(v:Value)(w:World)(hv:Bb w v l)(hlen:l.length<=maxLen):
  Calls prog 149 #[v,.func (.func 100) #[] #[]] w fun e w'=>∃r:Int,e=.returned (vj r)/\((r= -1/\l.all Ef=true)\/(0<=r/\l.all Ef=false))/\uj w w':=by
 unfold maxLen at hlen;obtain⟨res,hres⟩:∃b,l.all Ef=b:=⟨_,rfl⟩;rw[hres];have HRes:=Aa hres;clear hres;obtain⟨a,c,rfl,hc⟩:=hv;obtain⟨m,hm⟩:∃m,l.length=m:=⟨_,rfl⟩;rw[hm]at hlen ⊢;have H1:=Aa hc;have HM:=Aa hm;clear hc hm;go_enter func149,ntmps149
 go_wp2_with fail
 go_loopg [8] m (fun g s8 wr=>∃(k:Nat),s8=vj (k:Int)/\g+k=m/\(∀j (h:j<l.length),j<k->Ef l[j]=true)/\Hid (uj w wr))
 case atStart=>exact⟨0,rfl,by omega,fun j _ h=>absurd h (by omega),aN _ _⟩
 case round=>
  obtain⟨k,rfl,hgk,hno,HB⟩:=hrel;have HNo:=Aa hno;clear hno;cases gk with
  |zero=>
   have hlt:¬(k:Int)<(m:Int):=by omega
   go_wp2_with fail
   go_ret;refine⟨_,rfl,.inl ⟨rfl,?_⟩,HB.out⟩;rw[<-HRes.out,cG];intro r hr;obtain⟨j,hj,rfl⟩:=List.getElem_of_mem hr;exact HNo.out j hj (by have:=HM.out;omega)
  |succ g=>
   have hlt:(k:Int)<(m:Int):=by omega
   have hltn:k<m:=by omega
   have hkl:k<l.length:=by have:=HM.out;omega
   obtain⟨hlc,b,off,rfl,hcs⟩:=H1.out (by omega);obtain⟨e1,e2,e3,e4⟩:=hcs k hkl;have hbl:=Ak e1;have c1:=(HB.out.cell (p:=(jA b (off+k*4))) hbl).trans e1;have c2:=(HB.out.cell (p:=(jA b (off+k*4+1))) hbl).trans e2;have c3:=(HB.out.cell (p:=(jA b (off+k*4+2))) hbl).trans e3;have c4:=(HB.out.cell (p:=(jA b (off+k*4+3))) hbl).trans e4;obtain⟨r,hr⟩:∃r,l[k]=r:=⟨_,rfl⟩;rw[hr]at c1 c2 c3 c4;have HK:=Aa hr;clear e1 e2 e3 e4 hcs hr;have HN:=Aa (fun W=>NZ r W);by_cases hin:Ef r=true
   ·rw[hin]at HN
    go_wp2_with(go_at_call 100;refine(HN.out _).mono ?_;rintro e w' ⟨rfl,hb⟩;have HB2:=Aa (HB.out.trans (hb.mono HB.out.size));clear hb)
    go_roundg g
    case measure=>omega
    case rel=>
     refine⟨k+1,by go_num,by omega,fun j hj hjk=>?_,HB2.out⟩;by_cases e:j=k
     ·subst e;rw[HK.out];exact hin
     ·exact HNo.out j hj (by omega)
   ·have hin2:Ef r=false:=by simpa using hin
    rw[hin2]at HN
    go_wp2_with(go_at_call 100;refine(HN.out _).mono ?_;rintro e w' ⟨rfl,hb⟩;have HB2:=Aa (HB.out.trans (hb.mono HB.out.size));clear hb)
    go_ret;refine⟨_,rfl,.inr ⟨by omega,?_⟩,HB2.out⟩;rw[<-HRes.out,List.all_eq_false];exact⟨l[k],aZ hkl,by rw[HK.out,hin2];simp⟩
theorem N0(l:List R4)(v:Value)(w:World)(hv:Bb w v l)(hlen:l.length<=maxLen):
  Calls prog 59 #[v] w fun e w'=>e=.returned (.bool (l.all Ef))/\uj w w':=by
 have HI:=Aa (Vr l v w hv hlen);have HC:Hid (Calls prog 99 #[v,.func (.func 100) #[] #[]] w fun e w'=>e=.returned (.bool (!l.all Ef))/\uj w w'):=by
  go_enter func99,ntmps99
  go_wp2_with(go_at_call 149;refine HI.out.mono ?_;rintro e w' ⟨r,rfl,hr,hb⟩;have HB:=Aa (aK hr hb);clear hr hb)
  go_ret;refine⟨Cm ?_,HB.out.2⟩;rcases HB.out.1 with⟨rfl,h2⟩|⟨h1,h2⟩
  ·rw[h2];rfl
  ·rw[h2];simpa using h1
 clear HI hv;go_enter func59,ntmps59
 go_wp2_with(go_at_call 99;refine HC.out.mono ?_;rintro e w' ⟨rfl,hb⟩;have HB:=Aa hb;clear hb)
 go_ret;exact⟨Cm (by simp),HB.out⟩
end Go.Proofs.YtofinpocigbbeaaGreat
