import Derived.Test.YtofinpocigbbeaaGreatKaa
import Derived.Deep.LoopGhost
import Derived.Deep.DeepCutAuto
import Derived.Deep.CutBlock
import Derived.Deep.RegionWith
import Derived.Deep.DrawnRows
set_option maxHeartbeats 2000000
set_option maxRecDepth 100000
set_option linter.unusedSimpArgs false
namespace Go.Proofs.YtofinpocigbbeaaGreat
open Go.Proofs.Tryz Go.RowKit
attribute [local go_sem ↓] Go.wp_at_zero Go.wp_at_succ
variable{A B O:List (Int×Int×List (Int×Int))}{L:List (Int×Int)}{T c kind x1 x2:Int}{base i j:Nat}{v va vb:Value}{w w':World}
def Ye(kind:Int)(A B:List (Int×Int×List (Int×Int)))(va vb:Value)(w:World)(g:Nat)(s8 s9:Value)(wr:World):Prop:=
 ∃(c:Int) (i j:Nat) (O:List (Int×Int×List (Int×Int))) (v:Value),s8=vj i/\s9=vj j/\OV kind A B c i j O/\c<=2000/\g+i+j=2*A.length+2*B.length/\
  wr.heap[w.heap.size]?=some (.cells #[va] 136 (0,0))/\wr.heap[w.heap.size+1]?=some (.cells #[vb] 136 (0,0))/\wr.heap[w.heap.size+2]?=some (.cells #[jj] 136 (0,0))/\
  wr.heap[w.heap.size+3]?=some (.cells #[v] 136 (0,0))/\Bz wr w.heap.size v O/\uj w wr
theorem Q6(kind:Int)(A B:List (Int×Int×List (Int×Int)))(va vb:Value)(w:World)(hA:AL A)(hB:AL B):
  Ye kind A B va vb w (2*A.length+2*B.length) (vj 0) (vj 0) ((((w.alloc (.cells #[va] 136)).alloc (.cells #[vb] 136)).alloc (.cells #[jj] 136)).alloc (.cells #[jj] 136)):=by
 have n0:=aR w (.cells #[va] 136);have n1:=aR (w.alloc (.cells #[va] 136)) (.cells #[vb] 136);have n2:=aR ((w.alloc (.cells #[va] 136)).alloc (.cells #[vb] 136)) (.cells #[jj] 136);have n3:=aR (((w.alloc (.cells #[va] 136)).alloc (.cells #[vb] 136)).alloc (.cells #[jj] 136)) (.cells #[jj] 136);rw[show(w.alloc (.cells #[va] 136)).heap.size=w.heap.size+1 by simp]at n1;rw[show((w.alloc (.cells #[va] 136)).alloc (.cells #[vb] 136)).heap.size=w.heap.size+2 by simp]at n2;rw[show(((w.alloc (.cells #[va] 136)).alloc (.cells #[vb] 136)).alloc (.cells #[jj] 136)).heap.size=w.heap.size+3 by simp]at n3;refine⟨-3000,0,0,[],jj,rfl,rfl,Q0 hA hB,by omega,by omega,?_,?_,?_,n3,Sw _ _,?_⟩
 ·rw[Ad _ _ _ (by simp<;>omega),Ad _ _ _ (by simp<;>omega),Ad _ _ _ (by simp<;>omega)];exact n0
 ·rw[Ad _ _ _ (by simp<;>omega),Ad _ _ _ (by simp<;>omega)];exact n1
 ·rw[Ad _ _ _ (by simp)];exact n2
 ·repeat(first|exact aN _ _|refine bS ?_ (by simp<;>omega) _)
theorem KE{W X:World}(h:uj W X){a b:Nat}(k0:W.cell? (jA a 0)=some va)(k1:W.cell? (jA b 0)=some vb):
  X.cell? (jA a 0)=some va/\X.cell? (jA b 0)=some vb/\a<X.heap.size/\b<X.heap.size:=by
 have l0:=Ak k0;have l1:=Ak k1;have:=h.size;exact⟨(h.cell (p:=(jA a 0)) l0).trans k0,(h.cell (p:=(jA b 0)) l1).trans k1,by omega,by omega⟩
theorem Nw(h:x2<x1)(H:min x1 x2=T):vj x2=vj T:=by rw[<-H];congr 1;omega
theorem Nx(h:x1<=x2)(H:min x1 x2=T):vj x1=vj T:=by rw[<-H];congr 1;omega
theorem Q7(b n c q k:Nat)(u:Value)(w:World)(hqn:q<n)(hn:n<=10000)(hd:(k:Int)/2=q)(hm:(k:Int)%2=1)(c3:w.cell? (jA b (q*3+2))=some u):
  Calls prog 152 #[.agg #[sj b n c],vj k] w fun e w'=>e=.returned u/\w'=w.alloc (.cells #[sj b n c] 136):=by
 have hb:=Ak c3;go_enter func152,ntmps152
 go_wp2;go_ret;exact⟨rfl,rfl⟩
theorem O5(v:Value)(k:Nat)(w:World)(hm:(k:Int)%2=0):
  Calls prog 152 #[.agg #[v],vj k] w fun e w'=>e=.returned (jj)/\w'=w.alloc (.cells #[v] 136):=by
 go_enter func152,ntmps152
 go_wp2;go_ret;exact⟨rfl,rfl⟩
theorem Sx(A:List (Int×Int×List (Int×Int)))(v:Value)(k:Nat)(w:World)(h:AJ w v A)(hl:A.length<=10000)(hk:k<=2*A.length):
  ∃u,AS w u (rowAt A k)/\∀W,uj w W->Calls prog 152 #[.agg #[v],vj k] W fun e w'=>e=.returned u/\w'=W.alloc (.cells #[v] 136):=by
 obtain⟨q,r,hq,hr⟩:=Q3 k;rcases hr with rfl|rfl
 ·have hR:rowAt A k=[]:=by rw[show k=2*q by omega];exact KA A q
  exact⟨jj,.inl ⟨rfl,hR⟩,fun W _=>O5 v k W (by omega)⟩
 ·have hqn:q<A.length:=by omega
  rcases h with⟨rfl,rfl⟩|⟨b,c,rfl,hne,hc⟩
  ·simp at hqn
  ·obtain⟨c1,c2,u,c3,hsp⟩:=hc q hqn;have hR:rowAt A k=A[q].2.2:=by rw[show k=2*q+1 by omega];exact Mx A q hqn
   rw[hR];exact⟨u,hsp,fun W hW=>Q7 b A.length c q k u W hqn hl (by omega) (by omega) ((hW.cell (p:=(jA b (q*3+2))) (Ak c3)).trans c3)⟩
theorem UR:(prog.info? 194).map (fun i=>(i.zero,i.size,i.bytes))=some (some (.agg #[vj 0,vj 0]),2,16):=by kernel_rfl
def US(kind:Int)(S T:List (Int×Int))(wc:World)(g:Nat)(s14 s15 s16 s17 s18:Value)(wx:World):Prop:=
 ∃(c:Int) (m n:Nat) (frm:Int) (inside:Bool) (L:List (Int×Int)),s15=vj m/\s16=vj n/\s17=vj frm/\s18=.bool inside/\Row kind S T c m n frm inside L/\c<=2000/\g+m+n=2*S.length+2*T.length/\
  wx.ownsRow wc.heap.size 194 2 s14 L.length ((An L).map (Value.int .i64))/\(L=[]->s14=jj)/\uj wc wx
theorem O6{S T:List (Int×Int)}(hS:BO S)(hT:BO T)(wc:World):US kind S T wc (2*S.length+2*T.length) (jj) (vj 0) (vj 0) (vj 0) (.bool false) wc:=
 ⟨-3000,0,0,0,false,[],rfl,rfl,rfl,rfl,S7 hS hT,by omega,by omega,bA _ _ _ _,fun _=>rfl,aN _ _⟩
theorem Ny(h:w.ownsRow base 194 2 v L.length ((An L).map (Value.int .i64)))(hn:L=[]->v=jj):AS w v L:=by
 by_cases hL:L=[]
 ·exact .inl ⟨hn hL,hL⟩
 ·have hpos:0<L.length:=by cases L with
   |nil=>exact absurd rfl hL
   |cons a L=>simp
  rcases h.2 with⟨_,h0⟩|⟨g,cap,cur,rfl,_,hg,_,_,hcs,htk⟩
  ·omega
  ·refine .inr ⟨g,cap,cur,rfl,hL,hg,fun j hj=>?_⟩;have hj':j<(An L).length:=by rw[BR];exact hj
   have h1:(cur.toList.take (L.length*2))[j]?=((An L).map (Value.int .i64))[j]? :=by rw[htk]
   rw[List.getElem?_take_of_lt (by omega),bZ,aU hj']at h1;rw[<-cQ,h1,BZ _ _ hj'];rfl
theorem Sy(m:Nat):((m:Int)%2==1)=Ep m:=by
 unfold Ep;rw[Bool.eq_iff_iff];simp;omega
theorem Mz(E:List Int)(m:Nat)(x:Int)(h:m<=E.length)(hx:x≠big):Bd E m x<=E.length:=by
 unfold Bd;split
 ·rename_i e
  by_cases hm:m<E.length
  ·omega
  ·rw[Hu E m (by omega)]at e;exact absurd e.symm hx
 ·exact h
theorem O8(E:List Int)(hs:E.Pairwise (· <= ·))(c x:Int)(h:c<=x):cnt E c<=cnt E x:=by
 by_cases hh:cnt E x<cnt E c
 ·have hl:cnt E x<E.length:=aQ hh (CL E c);have a:=(Do E hs c).1 _ hl hh;have b:=(Do E hs x).2 _ hl (aO _);omega
 ·omega
theorem O9(E:List Int)(hs:E.Pairwise (· <= ·))(c x:Int)(hx:x=nth E (cnt E c))(hb:x≠big):cnt E c<cnt E x:=by
 have hl:cnt E c<E.length:=by
  by_cases h:cnt E c<E.length
  ·exact h
  ·rw[Hu E _ (by omega)]at hx;exact absurd hx hb
 rw[BZ E _ hl]at hx;by_cases hh:cnt E x<=cnt E c
 ·have:=(Do E hs x).2 _ hl hh;omega
 ·omega
theorem Te(hA:AL A)(hB:AL B)(h:OV kind A B c i j O)(T:Int)(hT:T=BF (Ag A) (Ag B) i j)(hb:T≠big)(hc:c<T)(i2 j2:Nat)(hi:i2=cnt (Ag A) T)(hj:j2=cnt (Ag B) T):i+j<i2+j2:=by
 have m1:=O8 (Ag A) hA.lv c T (by omega);have m2:=O8 (Ag B) hB.lv c T (by omega);rw[<-h.hi,<-hi]at m1;rw[<-h.hj,<-hj]at m2;unfold BF at hT;by_cases e:T=nth (Ag A) i
 ·have:=O9 (Ag A) hA.lv c T (by rw[<-h.hi];exact e) hb;rw[<-h.hi,<-hi]at this;omega
 ·have e':T=nth (Ag B) j:=by omega
  have:=O9 (Ag B) hB.lv c T (by rw[<-h.hj];exact e') hb;rw[<-h.hj,<-hj]at this;omega
theorem UT(E F:List Int)(m n:Nat)(X:Int)(h:BF E F m n=X):m+n<Bd E m X+Bd F n X:=by
 unfold Bd;unfold BF at h;by_cases e:nth E m=X
 ·rw[if_pos e];split<;>omega
 ·have e':nth F n=X:=by omega
  rw[if_neg e,if_pos e'];omega
theorem Tf{wo wr:World}{Bt:Int}{i2 j2 gO:Nat}(hA:AL A)(hB:AL B)
  (hW:OV kind A B c i j O) (hc:c<=2000) (hg:gO+i+j=2*A.length+2*B.length) (b0:wo.heap[w.heap.size]?=some (.cells #[va] 136 (0,0))) (b1:wo.heap[w.heap.size+1]?=some (.cells #[vb] 136 (0,0)))
  (b2:wo.heap[w.heap.size+2]?=some (.cells #[jj] 136 (0,0))) (hbel:uj w wo)
  (hbo:uj wo wr) (hT:T=BF (Ag A) (Ag B) i j) (hb:T≠big) (hi2:i2=cnt (Ag A) T) (hj2:j2=cnt (Ag B) T) (hBt:Bt=BF (Ag A) (Ag B) i2 j2) (hL:BO L)
  (hmem:∀x,Bi L x=keepB kind (Bi (rowAt A i2) x) (Bi (rowAt B j2) x)) (hadd:GO wr w' w.heap.size (w.heap.size+3) (CY O (T,Bt,L))):
  2*A.length+2*B.length-i2-j2<gO/\Ye kind A B va vb w (2*A.length+2*B.length-i2-j2) (vj i2) (vj j2) w':=by
 have hcb:c<big:=by rw[Hv];omega
 obtain⟨hcT,hTlo⟩:=Jd hA hB hW hcb T hT hb;have hmore:=Te hA hB hW T hT hb hcT i2 j2 hi2 hj2;have hi2l:i2<=2*A.length:=by rw[hi2,<-BT];exact CL _ _
 have hj2l:j2<=2*B.length:=by rw[hj2,<-BT];exact CL _ _
 obtain⟨v',a1,a2,a3,a4⟩:=hadd;refine⟨by omega,T,i2,j2,_,v',rfl,rfl,S8 hA hB hW hcb T hT hb i2 j2 hi2 hj2 Bt hBt L hL hmem,hTlo.2,by omega,?_,?_,?_,a1,a2,(hbel.trans (hbo.mono hbel.size)).trans a3⟩
 ·exact a4 _ _ _ (by omega) (by decide) ((hbo.block _ (Ab b0)).trans b0)
 ·exact a4 _ _ _ (by omega) (by decide) ((hbo.block _ (Ab b1)).trans b1)
 ·exact a4 _ _ _ (by omega) (by decide) ((hbo.block _ (Ab b2)).trans b2)
theorem Bz.low(h:Bz w base v O):Bz w 0 v O:=by
 obtain⟨P,h1,h2,h3,h4⟩:=h;refine⟨P,h1,⟨h2.1,h2.2.imp id fun⟨g,cap,cur,hv,hg,r⟩=>⟨g,cap,cur,hv,cB _,r⟩⟩,fun p hp=>⟨(h3 p hp).1,fun g _=>cB g⟩,h4⟩
theorem Bz.rows(h:Bz w base v O)(hk:∀(b:Nat) (cur:Array Value) (t:TypeId),t≠136->w.heap[b]?=some (.cells cur t (0,0))->w'.heap[b]?=w.heap[b]?):Bz w' base v O:=by
 obtain⟨P,hP,hown,hsp,hnil⟩:=h;refine⟨P,hP,?_,fun p hp=>⟨(hsp p hp).1.kept fun b cur e=>hk b cur _ (by decide) e,(hsp p hp).2⟩,hnil⟩;obtain⟨h1,h2⟩:=hown;refine⟨h1,?_⟩;rcases h2 with h2|⟨g,cap,cur,a1,a2,a3,a4⟩
 ·exact .inl h2
 ·exact .inr ⟨g,cap,cur,a1,a2,(hk g cur _ (by decide) a3).trans a3,a4⟩
theorem EI(kind:Int)(A B:List (Int×Int×List (Int×Int)))(va vb:Value)(w:World)(hA:AL A)(hB:AL B)(hva:AJ w va A)(hvb:AJ w vb B):
  Calls prog 103 #[vj kind,.agg #[va],.agg #[vb]] w fun e w'=>∃v O,e=.returned (.agg #[v])/\Bz w' w.heap.size v O/\AL O/\(∀x y,Ay O x y=keepB kind (Ay A x y) (Ay B x y))/\uj w w':=by
 have H0:=Aa (Q6 kind A B va vb w hA hB);have HA:=Aa hA;have HB:=Aa hB;have HVA:=Aa hva;have HVB:=Aa hvb;clear hA hB hva hvb;go_enter func103,ntmps103
 go_wp2
 go_step3
 go_wp2
 go_step3
 go_wp2
 go_loopg [8,9] (2*A.length+2*B.length) (fun g s8 s9 wr=>Ye kind A B va vb w g s8 s9 wr)
 case atStart=>exact H0.out
 case round=>
  clear H0;rename World=>wo;rename Nat=>gO;obtain⟨c,i,j,O,v,rfl,rfl,hW,hc,hg,b0,b1,b2,b3,hO,hbel⟩:=hrel;have hil:i<=2*A.length:=by rw[hW.hi,<-BT];exact CL _ _
  have hjl:j<=2*B.length:=by rw[hW.hj,<-BT];exact CL _ _
  have hAl:=HA.out.len;have hBl:=HB.out.len;have k0:=cell_of_one b0;have k1:=cell_of_one b1;have z0:=Ak k0;have z1:=Ak k1;have hBA:=HVA.out.below hbel;have hBB:=HVB.out.below hbel;have hLA:∀W,uj wo W->Calls prog 150 #[.agg #[va],vj i] W fun e w'=>e=.returned (vj (nth (Ag A) i))/\w'=W.alloc (.cells #[va] 136):=fun W hb=>Fa A va i W (hBA.below hb) (by omega) hil;have hLB:∀W,uj wo W->Calls prog 150 #[.agg #[vb],vj j] W fun e w'=>e=.returned (vj (nth (Ag B) j))/\w'=W.alloc (.cells #[vb] 136):=fun W hb=>Fa B vb j W (hBB.below hb) (by omega) hjl;obtain⟨x1,hx1⟩:∃x,nth (Ag A) i=x:=⟨_,rfl⟩;obtain⟨x2,hx2⟩:∃x,nth (Ag B) j=x:=⟨_,rfl⟩;rw[hx1]at hLA;rw[hx2]at hLB;obtain⟨T,hT⟩:∃x,min x1 x2=x:=⟨_,rfl⟩;have HT:Hid (T=BF (Ag A) (Ag B) i j):=by rw[Hid,<-hT,<-hx1,<-hx2];rfl
  have HMin:=Aa hT;have HX:=Aa (aK hx1 hx2);have HI:=Aa (aK hW (aK hc (aK hg (aK b0 (aK b1 (aK b2 (aK b3 (aK hO hbel))))))));have HZ:=Aa (aK hil (aK hjl (aK hAl hBl)));have HBA:=Aa hBA;have HBB:=Aa hBB;clear hT hx1 hx2 hW hc hg b0 b1 b2 b3 hO hbel hil hjl hAl hBl hBA hBB
  go_wp2_with fail
  go_step3
  go_upto_region 3 with fail
  go_cut [10] (fun s10 wx=>s10=vj T/\uj wo wx)
  case first=>
   go_region_with (first
    |(go_at_call_of 150 (Value.agg #[va]);refine(hLA _ ?_).mono ?_;(repeat(first|exact aN _ _|refine bD ?_ |refine bS ?_ (by first|omega|(simp<;>omega)) _));rintro e w' ⟨rfl,rfl⟩)
    |(go_at_call_of 150 (Value.agg #[vb]);refine(hLB _ ?_).mono ?_;(repeat(first|exact aN _ _|refine bD ?_ |refine bS ?_ (by first|omega|(simp<;>omega)) _));rintro e w' ⟨rfl,rfl⟩))
   all_goals go_wp2_with fail
   all_goals go_meet
   all_goals refine⟨by first|exact Nw (by assumption) HMin.out|exact Nx (by assumption) HMin.out,?_⟩
   all_goals(repeat(first|exact aN _ _|assumption|refine bD ?_ |refine bS ?_ (by first|omega|(simp<;>omega)) _))
  case rest=>
   obtain⟨rfl,hb1⟩:=hcut;clear hLA hLB HMin HX;have hTb:(T==9223372036854775807)=true\/(T==9223372036854775807)=false:=by cases (T==9223372036854775807)<;>simp
   rcases hTb with hTb|hTb
   ·
    obtain⟨hW,hc,hg,b0,b1,b2,b3,hO,hbel⟩:=HI.out;have hsz:=hb1.size;obtain⟨sa,sn,sc,rfl⟩:∃a n c,v=.slice a n c:=by
     rcases hO.bands with⟨h,_⟩|⟨_,_,h,_⟩
     ·exact⟨_,_,_,h⟩
     ·exact⟨_,_,_,h⟩
    have kr:=cell_of_one b2;have ko:=cell_of_one b3;have fr:=free_of_one b2;have zr:=Ak kr;have zo:=Ak ko;have kr':wc.cell? (jA (w.heap.size+1+1) 0)=some (jj):=(hb1.cell (p:=(jA (w.heap.size+2) 0)) zr).trans kr;have ko':wc.cell? (jA (w.heap.size+1+1+1) 0)=some (.slice sa sn sc):=(hb1.cell (p:=(jA (w.heap.size+3) 0)) zo).trans ko;have fr':wc.frozen? (jA (w.heap.size+1+1) 0)=false:=(hb1.frozen (p:=(jA (w.heap.size+2) 0)) zr).trans fr;have HB1:=Aa hb1;have HE:=Aa (aK hW (aK hO hbel));have HSz:=Aa hsz;clear hW hc hg b0 b1 b2 b3 hO hbel hb1 kr ko fr zr zo hsz;go_wp2;rw[Exit.noGoto_exit];go_wp2;rw[Exit.noGoto_ret];refine cU (v:=.agg #[.slice sa sn sc]) (by simp[results,results103,go_sem,kr']) rfl ?_;obtain⟨hW,hO,hbel⟩:=HE.out;have hT:T=big:=by rw[Hv];simpa using hTb
    refine⟨.slice sa sn sc,O,rfl,?_,hW.good,S9 HA.out HB.out hW (by rw[<-HT.out];exact hT),?_⟩
    ·obtain⟨_,_,_,_,_,b2,_⟩:=HI.out;refine hO.rows fun b cur t ht e=>?_;have hne:b≠w.heap.size+1+1:=by
      intro h;subst h;rw[b2]at e;simp at e;exact ht e.2.symm
     exact(Below.heap_setCell _ _ _ _ hne).trans (HB1.out.block b (Ab e))
    ·exact(hbel.trans (HB1.out.mono hbel.size)).setCell (by simp;omega) _
   ·
    have hcr:=KE hb1 k0 k1;obtain⟨m0,m1,y0,y1⟩:=hcr;obtain⟨i2,hi2⟩:∃x,cnt (Ag A) T=x:=⟨_,rfl⟩;obtain⟨j2,hj2⟩:∃x,cnt (Ag B) T=x:=⟨_,rfl⟩;have hTne:T≠big:=by rw[Hv];simpa using hTb
    obtain⟨hW,hc,hg,b0,b1,b2,b3,hO,hbel⟩:=HI.out;have hcb:c<big:=by rw[Hv];omega
    obtain⟨hcT,hTlo⟩:=Jd HA.out HB.out hW hcb T HT.out hTne;have hPA:∀W,uj wo W->Calls prog 151 #[.agg #[va],vj i,vj T] W fun e w'=>e=.returned (vj i2)/\uj wo w'/\w'.cell? (jA w.heap.size 0)=some va/\w'.cell? (jA (w.heap.size+1) 0)=some vb/\w.heap.size<w'.heap.size/\w.heap.size+1<w'.heap.size:=fun W hb=>
     (FX A va i c T W (HBA.out.below hb) (by have:=HZ.out.2.2.1;omega) HA.out.lv hcT hW.hi (by have:=HT.out;unfold BF at this;omega)).mono fun e w' ⟨he,hw⟩=>by
      have hw2:=hb.trans (hw.mono hb.size);exact⟨by rw[he,hi2],hw2,KE hw2 k0 k1⟩
    have hPB:∀W,uj wo W->Calls prog 151 #[.agg #[vb],vj j,vj T] W fun e w'=>e=.returned (vj j2)/\uj wo w'/\w'.cell? (jA w.heap.size 0)=some va/\w'.cell? (jA (w.heap.size+1) 0)=some vb/\w.heap.size<w'.heap.size/\w.heap.size+1<w'.heap.size:=fun W hb=>
     (FX B vb j c T W (HBB.out.below hb) (by have:=HZ.out.2.2.2;omega) HB.out.lv hcT hW.hj (by have:=HT.out;unfold BF at this;omega)).mono fun e w' ⟨he,hw⟩=>by
      have hw2:=hb.trans (hw.mono hb.size);exact⟨by rw[he,hj2],hw2,KE hw2 k0 k1⟩
    have HI2:=Aa (aK hi2.symm hj2.symm);have HT2:=Aa (aK hTne (aK hcb (aK hcT hTlo)));clear hi2 hj2 hTne hW hc hg b0 b1 b2 b3 hO hbel hcb hcT hTlo
    go_upto_region 5 with fail
    go_cut [8,9] (fun s8 s9 wx=>s8=vj i2/\s9=vj j2/\uj wo wx)
    case first=>
     go_region_with (first
      |(go_at_call_of 151 (Value.agg #[va]);refine(hPA _ ?_).mono ?_;(repeat(first|exact aN _ _|assumption|refine bD ?_ |refine bS ?_ (by first|omega|(simp<;>omega)) _));rintro e w' ⟨rfl,hbA,qa,qb,qc,qd⟩)
      |(go_at_call_of 151 (Value.agg #[vb]);refine(hPB _ ?_).mono ?_;(repeat(first|exact aN _ _|assumption|refine bD ?_ |refine bS ?_ (by first|omega|(simp<;>omega)) _));rintro e w' ⟨rfl,hbB,qa,qb,qc,qd⟩))
     all_goals go_wp2_with fail
     all_goals go_meet
     all_goals exact⟨rfl,rfl,by assumption⟩
    case rest=>
     obtain⟨rfl,rfl,hb2⟩:=hcut;clear hPA hPB hb1 m0 m1 y0 y1;obtain⟨m0,m1,y0,y1⟩:=KE hb2 k0 k1;have hsz2:=hb2.size;have hi2l:i2<=2*A.length:=by rw[HI2.out.1,<-BT];exact CL _ _
     have hj2l:j2<=2*B.length:=by rw[HI2.out.2,<-BT];exact CL _ _
     have hLA:∀W,uj wo W->Calls prog 150 #[.agg #[va],vj i2] W fun e w'=>e=.returned (vj (nth (Ag A) i2))/\w'=W.alloc (.cells #[va] 136):=fun W hb=>Fa A va i2 W (HBA.out.below hb) (by have:=HZ.out.2.2.1;omega) hi2l;have hLB:∀W,uj wo W->Calls prog 150 #[.agg #[vb],vj j2] W fun e w'=>e=.returned (vj (nth (Ag B) j2))/\w'=W.alloc (.cells #[vb] 136):=fun W hb=>Fa B vb j2 W (HBB.out.below hb) (by have:=HZ.out.2.2.2;omega) hj2l;obtain⟨sA,hu1,hRA⟩:=Sx A va i2 wo HBA.out (by have:=HZ.out.2.2.1;omega) hi2l;obtain⟨sB,hu2,hRB⟩:=Sx B vb j2 wo HBB.out (by have:=HZ.out.2.2.2;omega) hj2l;obtain⟨x3,hx3⟩:∃x,nth (Ag A) i2=x:=⟨_,rfl⟩;obtain⟨x4,hx4⟩:∃x,nth (Ag B) j2=x:=⟨_,rfl⟩;rw[hx3]at hLA;rw[hx4]at hLB;obtain⟨Bt,hBt⟩:∃x,min x3 x4=x:=⟨_,rfl⟩;have HBt:Hid (Bt=BF (Ag A) (Ag B) i2 j2):=by rw[Hid,<-hBt,<-hx3,<-hx4];rfl
     have HMin:=Aa hBt;have HU1:=Aa hu1;have HU2:=Aa hu2;have HZ2:=Aa (aK hi2l hj2l);clear hx3 hx4 hBt hu1 hu2 hi2l hj2l;have HRA:=Aa hRA;have HRB:=Aa hRB;clear hRA hRB
     go_upto_region 6 with fail
     go_cut [11] (fun s11 wx=>s11=vj Bt/\uj wo wx)
     case first=>
      go_region_with (first
       |(go_at_call_of 150 (Value.agg #[va]);refine(hLA _ ?_).mono ?_;(repeat(first|exact aN _ _|assumption|refine bD ?_ |refine bS ?_ (by first|omega|(simp<;>omega)) _));rintro e w' ⟨rfl,rfl⟩)
       |(go_at_call_of 150 (Value.agg #[vb]);refine(hLB _ ?_).mono ?_;(repeat(first|exact aN _ _|assumption|refine bD ?_ |refine bS ?_ (by first|omega|(simp<;>omega)) _));rintro e w' ⟨rfl,rfl⟩))
      all_goals go_wp2_with fail
      all_goals go_meet
      all_goals refine⟨by first|exact Nw (by assumption) HMin.out|exact Nx (by assumption) HMin.out,?_⟩
      all_goals(repeat(first|exact aN _ _|assumption|refine bD ?_ |refine bS ?_ (by first|omega|(simp<;>omega)) _))
     case rest=>
      obtain⟨rfl,hb3⟩:=hcut;clear hLA hLB HMin hb2 m0 m1 y0 y1 hsz2;obtain⟨m0,m1,y0,y1⟩:=KE hb3 k0 k1;have hsz3:=hb3.size;have hRA:=HRA.out;have hRB:=HRB.out;clear HRA HRB
      go_upto_region 7 with fail
      go_cut [12,13] (fun s12 s13 wx=>s12=sA/\s13=sB/\uj wo wx)
      case first=>
       go_region_with (first
        |(go_at_call_of 152 (Value.agg #[va]);refine(hRA _ ?_).mono ?_;(repeat(first|exact aN _ _|assumption|refine bD ?_ |refine bS ?_ (by first|omega|(simp<;>omega)) _));rintro e w' ⟨rfl,rfl⟩)
        |(go_at_call_of 152 (Value.agg #[vb]);refine(hRB _ ?_).mono ?_;(repeat(first|exact aN _ _|assumption|refine bD ?_ |refine bS ?_ (by first|omega|(simp<;>omega)) _));rintro e w' ⟨rfl,rfl⟩))
       all_goals go_wp2_with fail
       all_goals go_meet
       all_goals refine⟨rfl,rfl,?_⟩
       all_goals(repeat(first|exact aN _ _|assumption|refine bD ?_ |refine bS ?_ (by first|omega|(simp<;>omega)) _))
      case rest=>
       obtain⟨h12,h13,hb4⟩:=hcut;replace h12:=h12.symm;replace h13:=h13.symm;subst h12;subst h13;rename World=>wk;clear hRA hRB hb3 m0 m1 y0 y1 hsz3;have HB4:=Aa hb4;have hSp:=Aa (JP HA.out i2);have hTp:=Aa (JP HB.out j2);clear hb4
       go_wp2_with fail
       go_step3
       go_wp2_with fail
       go_loopg [14,15,16,17,18] (2*(rowAt A i2).length+2*(rowAt B j2).length) (fun g s14 s15 s16 s17 s18 wx=>US kind (rowAt A i2) (rowAt B j2) wk g s14 s15 s16 s17 s18 wx)
       case atStart=>exact O6 hSp.out hTp.out wk
       case round=>
        obtain⟨S,hS⟩:∃S,rowAt A i2=S:=⟨_,rfl⟩;obtain⟨T2,hT2⟩:∃S,rowAt B j2=S:=⟨_,rfl⟩;rw[hS,hT2]at hrel;rw[hS]at hSp HU1;rw[hT2]at hTp HU2;have HS:=Aa (aK hS hT2);clear hS hT2;obtain⟨c2,m,n,frm,inside,L,rfl,rfl,rfl,rfl,hR,hc2,hg2,hown,hnil,hb5⟩:=hrel;obtain⟨ra,rc,rfl⟩:∃a c,u14=.slice a L.length c:=by
         rcases hown.2 with⟨h,h0⟩|⟨g,cap,cur,h,_⟩
         ·exact⟨none,0,by rw[h,h0]⟩
         ·exact⟨_,_,h⟩
        have hml:m<=2*S.length:=by rw[hR.hm,<-BR];exact CL _ _
        have hnl:n<=2*T2.length:=by rw[hR.hn,<-BR];exact CL _ _
        have hsl:=hSp.out.len;have htl:=hTp.out.len;have hbo:=HB4.out.trans (hb5.mono HB4.out.size);have hs1:=HU1.out.below hbo;have hs2:=HU2.out.below hbo;have hE1:=KC S sA m wr hs1 (by omega) hml;have hE2:=KC T2 sB n wr hs2 (by omega) hnl;obtain⟨X,hX⟩:∃x,BF (An S) (An T2) m n=x:=⟨_,rfl⟩;have hP1:=Iu S sA m X wr hs1 (by omega) hml;have hP2:=Iu T2 sB n X wr hs2 (by omega) hnl;obtain⟨e1,he1⟩:∃x,nth (An S) m=x:=⟨_,rfl⟩;obtain⟨e2,he2⟩:∃x,nth (An T2) n=x:=⟨_,rfl⟩;obtain⟨m2,hm2⟩:∃x,Bd (An S) m X=x:=⟨_,rfl⟩;obtain⟨n2,hn2⟩:∃x,Bd (An T2) n X=x:=⟨_,rfl⟩;rw[he1]at hE1;rw[he2]at hE2;rw[hm2]at hP1;rw[hn2]at hP2;have HMin:Hid (min e1 e2=X):=by rw[Hid,<-he1,<-he2];exact hX
        have HX:=Aa hX;have HP:=Aa (aK hm2 hn2);have HR:=Aa hR;have HOwn:=Aa (aK hown hnil);have HB5:=Aa (aK hb5 hbo);have HC:=Aa (aK hc2 (aK hg2 (aK hml (aK hnl (aK hsl htl)))));clear he1 he2 hX hm2 hn2 hR hown hnil hb5 hbo hc2 hg2 hml hnl hsl htl hs1 hs2;have HP1:=Aa hP1;have HP2:=Aa hP2;clear hP1 hP2
        go_upto_region 10 with fail
        go_cut [19] (fun s19 wx=>s19=vj X/\wx=wr)
        case first=>
         go_wp2_with(first
          |(go_at_call_of 153 sA;refine hE1.mono ?_;rintro e w' ⟨rfl,rfl⟩)
          |(go_at_call_of 153 sB;refine hE2.mono ?_;rintro e w' ⟨rfl,rfl⟩))
         all_goals go_meet
         all_goals refine⟨by first|exact Nw (by assumption) HMin.out|exact Nx (by assumption) HMin.out,rfl⟩
        case rest=>
         obtain⟨rfl,hwc⟩:=hcut;replace hwc:=hwc.symm;subst hwc;clear hE1 hE2 HMin;have hXb:(X==9223372036854775807)=true\/(X==9223372036854775807)=false:=by cases (X==9223372036854775807)<;>simp
         rcases hXb with hXb|hXb
         ·
          obtain⟨hown,hnil⟩:=HOwn.out;obtain⟨hb5,hbo⟩:=HB5.out;have hXe:X=big:=by rw[Hv];simpa using hXb
          obtain⟨hLs,hmem⟩:=UO hSp.out hTp.out HR.out (HX.out.trans hXe);obtain⟨hW,hc,hg,b0,b1,b2,b3,hO,hbel⟩:=HI.out;have hAdd:Calls prog 154 #[pj (w.heap.size+1+1+1),.agg #[vj T,vj Bt,.slice ra L.length rc]] wr fun e w'=>e=.returned (.tuple #[])/\GO wr w' w.heap.size (w.heap.size+3) (CY O (T,Bt,L)):=
           WG w.heap.size (w.heap.size+3) v (.slice ra L.length rc) O T Bt L wr ((hbo.block _ (Ab b3)).trans b3) (hO.kept fun b hb _=>hbo.block b hb) (Ny hown hnil) (fun g hg=>bh (bh hbel.size HB4.out.size) (hown.lt g hg).1) (by have:=hbel.size;have:=hbo.size;omega) (by omega) (by have:=hW.good.len;omega) (by have:=hLs.len;omega) (fun b hb=>by have:=(hW.good.sp b hb).1.len;omega)
          have HN:=Aa (fun w' h=>Tf (w':=w') (L:=L) HA.out HB.out hW hc hg b0 b1 b2 hbel hbo HT.out HT2.out.1 HI2.out.1 HI2.out.2 HBt.out hLs (by rw[HS.out.1,HS.out.2];exact hmem) h);clear hown hnil hb5 hbo hXe hLs hmem hW hc hg b0 b1 b2 b3 hO hbel
          go_wp2_with(go_at_call 154;refine hAdd.mono ?_;rintro e w' ⟨rfl,hadd⟩)
          rw[Exit.noGoto_exit];go_wp2
          go_roundg (2*A.length+2*B.length-i2-j2)
          case measure=>exact(HN.out _ (by assumption)).1
          case rel=>exact(HN.out _ (by assumption)).2
         ·
          have hXne:X≠big:=by rw[Hv];simpa using hXb
          have hP1:=HP1.out;have hP2:=HP2.out;clear HP1 HP2;obtain⟨p1,hp1⟩:∃p,Ep m2=p:=⟨_,rfl⟩;obtain⟨p2,hp2⟩:∃p,Ep n2=p:=⟨_,rfl⟩;have hq1:((m2:Int)%2==1)=p1:=(Sy m2).trans hp1;have hq2:((n2:Int)%2==1)=p2:=(Sy n2).trans hp2;have hK:=Ta kind p1 p2 wr;obtain⟨N,hN⟩:∃p,keepB kind p1 p2=p:=⟨_,rfl⟩;rw[hN]at hK;have HNow:Hid (keepB kind (Ep (Bd (An S) m X)) (Ep (Bd (An T2) n X))=N):=by rw[Hid,HP.out.1,HP.out.2,hp1,hp2];exact hN
          have HXne:=Aa hXne;clear hp1 hp2 hN hXne;have hcb2:c2<big:=by have:=HC.out.1;rw[Hv];omega
          have hxl:=(It hSp.out hTp.out HR.out X HX.out.symm HXne.out hcb2).2.1.2;have hmore:=UT _ _ m n X HX.out;have hm2l:=Mz (An S) m X (by rw[BR];exact HC.out.2.2.1) HXne.out;have hn2l:=Mz (An T2) n X (by rw[BR];exact HC.out.2.2.2.1) HXne.out;rw[BR,HP.out.1]at hm2l;rw[BR,HP.out.2]at hn2l;rw[HP.out.1,HP.out.2]at hmore;have HM:=Aa (aK hcb2 (aK hxl (aK hmore (aK hm2l hn2l))));clear hcb2 hxl hmore hm2l hn2l;by_cases hNI:N=inside
          ·
           subst hNI;have HRn:=Aa (UM hSp.out hTp.out HR.out X HX.out.symm HXne.out HM.out.1 HNow.out);have hdec:(N==N)=true:=by simp
           go_wp2_with(first
            |(go_at_call_of 155 sA;refine hP1.mono ?_;rintro e w' ⟨rfl,hw⟩;replace hw:=hw.symm;subst hw)
            |(go_at_call_of 155 sB;refine hP2.mono ?_;rintro e w' ⟨rfl,hw⟩;replace hw:=hw.symm;subst hw)
            |(go_at_call 156;refine hK.mono ?_;rintro e w' ⟨rfl,hw⟩;replace hw:=hw.symm;subst hw))
           go_roundg (2*S.length+2*T2.length-m2-n2)
           case measure=>have:=HM.out;have:=HC.out;omega
           case rel=>
            rw[HS.out.1,HS.out.2];have hr:=HRn.out;rw[HP.out.1,HP.out.2]at hr;exact⟨X,m2,n2,frm,N,L,rfl,rfl,rfl,rfl,hr,HM.out.2.1,by have:=HM.out;have:=HC.out;omega,HOwn.out.1,HOwn.out.2,HB5.out.1⟩
          ·cases inside with
           |false=>
            obtain rfl:N=true:=by cases N with
             |false=>exact absurd rfl hNI
             |true=>rfl
            clear hNI;have HRn:=Aa (QW hSp.out hTp.out HR.out X HX.out.symm HXne.out HM.out.1 HNow.out)
            go_wp2_with(first
            |(go_at_call_of 155 sA;refine hP1.mono ?_;rintro e w' ⟨rfl,hw⟩;replace hw:=hw.symm;subst hw)
            |(go_at_call_of 155 sB;refine hP2.mono ?_;rintro e w' ⟨rfl,hw⟩;replace hw:=hw.symm;subst hw)
            |(go_at_call 156;refine hK.mono ?_;rintro e w' ⟨rfl,hw⟩;replace hw:=hw.symm;subst hw))
            go_roundg (2*S.length+2*T2.length-m2-n2)
            case measure=>have:=HM.out;have:=HC.out;omega
            case rel=>
             rw[HS.out.1,HS.out.2];have hr:=HRn.out;rw[HP.out.1,HP.out.2]at hr;exact⟨X,m2,n2,X,true,L,rfl,rfl,rfl,rfl,hr,HM.out.2.1,by have:=HM.out;have:=HC.out;omega,HOwn.out.1,HOwn.out.2,HB5.out.1⟩
           |true=>
            obtain rfl:N=false:=by cases N with
             |false=>rfl
             |true=>exact absurd rfl hNI
            clear hNI;have HRn:=Aa (UN hSp.out hTp.out HR.out X HX.out.symm HXne.out HM.out.1 HNow.out);obtain⟨i0,hi0,hz0,hz1,hz2⟩:=cW UR;have hLl:L.length<=3000:=by
             have:=Kz (An L) (-2000) 2000 HR.out.rising HR.out.bd;rw[BR]at this;omega
            have hsz:=HB5.out.1.size
            go_wp2_with(first
            |(go_at_call_of 155 sA;refine hP1.mono ?_;rintro e w' ⟨rfl,hw⟩;replace hw:=hw.symm;subst hw)
            |(go_at_call_of 155 sB;refine hP2.mono ?_;rintro e w' ⟨rfl,hw⟩;replace hw:=hw.symm;subst hw)
            |(go_at_call 156;refine hK.mono ?_;rintro e w' ⟨rfl,hw⟩;replace hw:=hw.symm;subst hw)
            |(at_builtin;refine wpList_append_lies _ rfl _ _ 190 rfl wk.heap.size 194 i0 _ 2 16 underlying190 hi0 hz0 hz1 hz2 rfl (by omega) (.slice ra L.length rc) L.length ((An L).map (Value.int .i64)) rfl (HOwn.out.1.alloc _) (jA wr.heap.size 0) 1 1 [vj frm,vj X] rfl rfl (bI (cs:=#[vj frm,vj X]) (t:=194) (fr:=(0,0)) (aR wr _)) (by simp[Value.oneCell']) (by omega) (by unfold maxLen;omega) (by omega) (by simp;omega) _ rfl ?_;intro gg cp w1 hown1 hgrow hat hlt;have HO1:=Aa hown1;have HG1:=Aa hgrow;clear hown1 hgrow hat))
            go_roundg (2*S.length+2*T2.length-m2-n2)
            case measure=>have:=HM.out;have:=HC.out;omega
            case rel=>
             rw[HS.out.1,HS.out.2];have hr:=HRn.out;rw[HP.out.1,HP.out.2]at hr;refine⟨X,m2,n2,X,false,L++[(frm,X)],rfl,rfl,rfl,rfl,hr,HM.out.2.1,by have:=HM.out;have:=HC.out;omega,?_,fun h=>by simp at h,?_⟩
             ·have:=HO1.out;rw[CX,cL,aY];exact this
             ·exact(HB5.out.1.alloc hsz _).grown HG1.out (by simp;omega) fun k hk=>(HOwn.out.1.lt k hk).1
theorem JQ(kind:Int)(A B:List (Int×Int×List (Int×Int)))(va vb:Value)(w:World)(hA:AL A)(hB:AL B)(hva:AJ w va A)(hvb:AJ w vb B):
  Calls prog 103 #[vj kind,.agg #[va],.agg #[vb]] w fun e w'=>∃v O,e=.returned (.agg #[v])/\AJ w' v O/\AL O/\(∀x y,Ay O x y=keepB kind (Ay A x y) (Ay B x y))/\uj w w':=
 (EI kind A B va vb w hA hB hva hvb).mono fun _ _ ⟨v,O,h1,h2,h3,h4,h5⟩=>⟨v,O,h1,h2.bands,h3,h4,h5⟩
def As(w:World)(v:Value)(l:List (Int×Int×Int×Int)):Prop:=
 ∃a c,v=.slice a l.length c/\(0<l.length->∃b off,a=some (jA b off)/\∀k (h:k<l.length),w.cell? (jA b (off+k*4))=some (vj l[k].1)/\w.cell? (jA b (off+k*4+1))=some (vj l[k].2.1)/\w.cell? (jA b (off+k*4+2))=some (vj l[k].2.2.1)/\w.cell? (jA b (off+k*4+3))=some (vj l[k].2.2.2))
theorem As.below{w w':World}{v:Value}{l:List (Int×Int×Int×Int)}(h:As w v l)(hb:uj w w'):As w' v l:=by
 obtain⟨a,c,hv,hc⟩:=h;refine⟨a,c,hv,fun hl=>?_⟩;obtain⟨b,off,ha,hcs⟩:=hc hl;refine⟨b,off,ha,fun k hk=>?_⟩;obtain⟨h1,h2,h3,h4⟩:=hcs k hk;have hlt:=Ak h1;exact⟨(hb.cell hlt).trans h1,(hb.cell hlt).trans h2,(hb.cell hlt).trans h3,(hb.cell hlt).trans h4⟩
def AU(r:Int×Int×Int×Int):Bool:=decide (-2000<=r.1/\r.1<=r.2.2.1/\r.2.2.1<=2000/\-2000<=r.2.1/\r.2.1<=r.2.2.2/\r.2.2.2<=2000)
def inR(r:Int×Int×Int×Int)(x y:Int):Bool:=decide (r.1<=x/\x<r.2.2.1/\r.2.1<=y/\y<r.2.2.2)
def AE(l:List (Int×Int×Int×Int))(x y:Int):Bool:=l.any fun r=>inR r x y
theorem Hx(a b c d:Int)(w:World):
  Calls prog 68 #[.agg #[vj a,vj b,vj c,vj d]] w fun e w'=>e=.returned (.bool (AU (a,b,c,d)))/\w'=w.alloc (.cells #[vj a,vj b,vj c,vj d] 53):=by
 go_enter func68,ntmps68
 go_wp2;all_goals
  go_ret;refine⟨Cm ?_,rfl⟩;unfold AU;rw[Bool.eq_iff_iff]
  try rw[bT]
  try rw[bT]
  simp only[Bool.false_eq_true,false_iff, *]
  try simp
  try omega
def Kh(r:Int×Int×Int×Int):List (Int×Int×List (Int×Int)):=if r.1<r.2.2.1/\r.2.1<r.2.2.2 then [(r.2.1,r.2.2.2,[(r.1,r.2.2.1)])]else []
theorem Tg(r:Int×Int×Int×Int)(h:AU r=true):AL (Kh r):=by
 unfold AU at h;simp only[bT]at h;unfold Kh;split
 ·rename_i hc
  refine⟨?_,?_,?_,?_,?_⟩
  ·rw[AB,Bw];simp;omega
  ·intro b hb;simp at hb;subst hb;exact hc.2
  ·intro e he;rw[AB,Bw]at he;simp at he;rcases he with he|he<;>subst he<;>omega
  ·intro b hb;simp at hb;subst hb;refine⟨⟨?_,?_⟩,by simp⟩
   ·rw[A5,Dl];simp;omega
   ·intro e he;rw[A5,Dl]at he;simp at he;rcases he with he|he<;>subst he<;>omega
  ·intro k hk;simp at hk
 ·exact C7
theorem UU(r:Int×Int×Int×Int)(x y:Int):Ay (Kh r) x y=inR r x y:=by
 unfold Kh inR;split
 ·unfold Ay Bi;simp;rw[Bool.eq_iff_iff];simp;omega
 ·rename_i h
  unfold Ay;symm;simp;omega
theorem Pa(w:World)(o1 o2 o3 o4 o5:Obj):(((((w.alloc o1).alloc o2).alloc o3).alloc o4).alloc o5).heap[w.heap.size+1+1+1]?=some o4/\(((((w.alloc o1).alloc o2).alloc o3).alloc o4).alloc o5).heap[w.heap.size+1+1+1+1]?=some o5:=by
 have n3:=aR (((w.alloc o1).alloc o2).alloc o3) o4;have n4:=aR ((((w.alloc o1).alloc o2).alloc o3).alloc o4) o5;rw[show(((w.alloc o1).alloc o2).alloc o3).heap.size=w.heap.size+1+1+1 by simp]at n3;rw[show((((w.alloc o1).alloc o2).alloc o3).alloc o4).heap.size=w.heap.size+1+1+1+1 by simp]at n4;exact⟨(Ad _ _ _ (by simp)).trans n3,n4⟩
theorem WI(a b c d:Int)(w:World):
  Calls prog 114 #[.agg #[vj a,vj b,vj c,vj d]] w fun e w'=>∃v,e=.returned (.agg #[v])/\AJ w' v (Kh (a,b,c,d))/\uj w w':=by
 by_cases h:a<c/\b<d
 ·obtain⟨h1,h2⟩:=h;have hO:Hid (Kh (a,b,c,d)=[(b,d,[(a,c)])]):=by rw[Hid];unfold Kh;rw[if_pos ⟨h1,h2⟩]
  go_enter func114,ntmps114
  go_wp2;refine cU (v:=.agg #[sj (w.heap.size+1+1+1+1) 1 1]) (by simp[results,results114,go_sem]) rfl ⟨_,rfl,?_,?_⟩
  ·rw[hO.out];refine .inr ⟨w.heap.size+1+1+1+1,1,rfl,by simp,fun k hk=>?_⟩;have hk0:k=0:=by simpa using hk
   subst hk0;obtain⟨f3,f4⟩:=Pa w (.cells #[vj a,vj b,vj c,vj d] 53) (.cells #[sj (w.heap.size+1+1+1+1) 1 1] 136) (.cells #[vj a,vj b,vj c,vj d] 53) (.cells #[vj a,vj c] 194) (.cells #[vj b,vj d,sj (w.heap.size+1+1+1) 1 1] 192);refine⟨aP _ _ 0 _ _ _ f4,aP _ _ 1 _ _ _ f4,sj (w.heap.size+1+1+1) 1 1,aP _ _ 2 _ _ _ f4,.inr ⟨w.heap.size+1+1+1,1,#[vj a,vj c],rfl,by simp,?_,fun j hj=>?_⟩⟩
   ·exact f3
   ·have hj2:j=0\/j=1:=by simp at hj;omega
    rcases hj2 with rfl|rfl<;>rfl
  ·repeat(first|exact aN _ _|refine cO ?_ (by simp<;>omega) _|refine bS ?_ (by simp<;>omega) _)
 ·have hO:Hid (Kh (a,b,c,d)=[]):=by rw[Hid];unfold Kh;rw[if_neg h]
  by_cases h1:a<c
  ·have h2:¬b<d:=fun h2=>h ⟨h1,h2⟩;clear h;go_enter func114,ntmps114
   go_wp2;refine cU (v:=.agg #[jj]) (by simp[results,results114,go_sem]) rfl ⟨_,rfl,.inl ⟨rfl,hO.out⟩,?_⟩;repeat(first|exact aN _ _|refine cO ?_ (by simp<;>omega) _|refine bS ?_ (by simp<;>omega) _)
  ·clear h;go_enter func114,ntmps114
   go_wp2;refine cU (v:=.agg #[jj]) (by simp[results,results114,go_sem]) rfl ⟨_,rfl,.inl ⟨rfl,hO.out⟩,?_⟩;repeat(first|exact aN _ _|refine cO ?_ (by simp<;>omega) _|refine bS ?_ (by simp<;>omega) _)
end Go.Proofs.YtofinpocigbbeaaGreat
