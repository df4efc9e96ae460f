import Derived.Test.YtofinpocigbbeaaGreatKag
import Derived.Laws.StructEq
set_option maxHeartbeats 2000000
set_option maxRecDepth 100000
set_option linter.unusedSimpArgs false
namespace Go.Proofs.YtofinpocigbbeaaGreat
open Go.Proofs.Tryz Go.RowKit
variable{E:List Int}{g k:Nat}{o:Obj}{v1:Value}{w1 w2 wr:World}{x:Int}
def DA(E E2:List Int)(x:Int):Prop:=E2.Pairwise (· < ·)/\(∀y,y∈E2↔y∈E\/y=x)/\E2.length<=E.length+1/\E2≠[]
theorem Mg(x:Int):DA [] [x] x:=⟨by simp,fun y=>by simp,by simp,by simp⟩
theorem Og(hs:E.Pairwise (· < ·))(h:x∈E):DA E E x:=
 ⟨hs,fun y=>⟨fun hy=>.inl hy,fun hy=>by rcases hy with hy|hy;exact hy;subst hy;exact h⟩,by omega,fun e=>by rw[e]at h;simp at h⟩
theorem IS(hs:E.Pairwise (· < ·))(h1:∀j (hj:j<E.length),j<k->E[j]<x)(h2:∀j (hj:j<E.length),k<=j->x<E[j]):DA E (E.take k++[x]++E.drop k) x:=by
 have a:∀y∈E.take k,y<x:=by
  intro y hy;obtain⟨j,hj,rfl⟩:=List.getElem_of_mem hy;rw[List.getElem_take];rw[bR]at hj;exact h1 j (by omega) (by omega)
 have b:∀y∈E.drop k,x<y:=by
  intro y hy;obtain⟨j,hj,rfl⟩:=List.getElem_of_mem hy;rw[List.getElem_drop];rw[cC]at hj;exact h2 (k+j) (by omega) (by omega)
 refine⟨?_,fun y=>?_,?_,by simp⟩
 ·rw[List.pairwise_append,List.pairwise_append];refine⟨⟨hs.sublist (List.take_sublist k E),by simp,fun p hp q hq=>?_⟩,hs.sublist (List.drop_sublist k E),fun p hp q hq=>?_⟩
  ·simp at hq;subst hq;exact a p hp
  ·have hb:=b q hq;simp at hp;rcases hp with hp|hp
   ·have:=a p hp;omega
   ·omega
 ·rw[bV,bV,List.mem_singleton];constructor
  ·rintro((h|h)|h)
   ·exact .inl (List.mem_of_mem_take h)
   ·exact .inr h
   ·exact .inl (List.mem_of_mem_drop h)
  ·rintro(h|h)
   ·rw[<-List.take_append_drop k E,bV]at h;rcases h with h|h
    ·exact .inl (.inl h)
    ·exact .inr h
   ·exact .inl (.inr h)
 ·simp[bR,cC];omega
def EC(base:Nat)(E:List Int)(x:Int)(w:World)(e:Ending)(w':World):Prop:=∃u E2,e=.returned u/\ET w' base u E2/\DA E E2 x/\uj w w'
theorem G9{W:World}(hc:∀j (hj:j<E.length),W.cell? (jA g j)=some (vj E[j]))(off m:Nat)(h:off+m<=E.length):
  ((((E.drop off).take m).map (Value.int .i64)).length=m*1)/\∀j u,(((E.drop off).take m).map (Value.int .i64))[j]?=some u->W.cell? (((jA g off):Addr).add j)=some u:=by
 refine⟨by rw[List.length_map,bR,cC];omega,fun j u hu=>?_⟩;rw[bZ]at hu;have hadd:((jA g off):Addr).add j=(jA g (off+j)):=by unfold Addr.add;split<;>simp_all
 by_cases hj:j<m
 ·rw[List.getElem?_take_of_lt hj,List.getElem?_drop,aU (by omega)]at hu;simp at hu;rw[hadd,<-hu];exact hc (off+j) (by omega)
 ·rw[cD (by simp;omega)]at hu;simp at hu
theorem Gv(L:List Int):∀u∈L.map (Value.int .i64),u.oneCell'=true:=by
 intro u hu;rw[List.mem_map]at hu;obtain⟨x,_,rfl⟩:=hu;rfl
theorem Ln(hc:∀j (hj:j<E.length),wr.cell? (jA g j)=some (vj E[j]))(hgl:g<wr.heap.size)(h1:wr.grownBy w1 (jj).ownBlock)
  (ha:v1.ownBlock=(jj).ownBlock\/v1.ownBlock=some wr.heap.size) (hz:wr.heap.size<=w1.heap.size) (h2:(w1.alloc o).grownBy w2 v1.ownBlock):∀j (hj:j<E.length),w2.cell? (jA g j)=some (vj E[j]):=by
 intro j hj;have a1:w1.cell? (jA g j)=wr.cell? (jA g j):=h1.cell_far (jA g j) hgl (by simp[Value.ownBlock]);have a2:(w1.alloc o).cell? (jA g j)=w1.cell? (jA g j):=BI w1 o g j (by omega);have a3:w2.cell? (jA g j)=(w1.alloc o).cell? (jA g j):=h2.cell_far (jA g j) (by simp;omega) (by
  intro e;rcases ha with ha|ha
  ·rw[ha]at e;simp[Value.ownBlock]at e
  ·rw[ha]at e;simp at e;omega)
 rw[a3,a2,a1];exact hc j hj
theorem MU{base n:Nat}{w3:World}{v2 u:Value}(hn:E.length=n)(hk:k<=n)(hb:base<=wr.heap.size)(hwd:DA E (E.take k++[x]++E.drop k) x)
  (o1:w1.ownsRow wr.heap.size 3 1 v1 k ((E.take k).map (Value.int .i64))) (g1:wr.grownBy w1 (jj).ownBlock) (g2:(w1.alloc o).grownBy w2 v1.ownBlock)
  (o2:w2.ownsRow wr.heap.size 3 1 v2 (k+1) ((E.take k).map (Value.int .i64)++[vj x])) (g3:w2.grownBy w3 v2.ownBlock)
  (o3:w3.ownsRow wr.heap.size 3 1 u (k+1+(n-k)) ((E.take k).map (Value.int .i64)++[vj x]++((E.drop k).take (n-k)).map (Value.int .i64))):EC base E x wr (.returned u) w3:=by
 refine⟨u,_,rfl,⟨?_,fun h=>by simp at h⟩,hwd,?_⟩
 ·have e1:(E.take k++[x]++E.drop k).length=k+1+(n-k):=by simp[bR,cC];omega
  have e2:(E.take k++[x]++E.drop k).map (Value.int .i64)=(E.take k).map (Value.int .i64)++[vj x]++((E.drop k).take (n-k)).map (Value.int .i64):=by
   rw[cL,cL,bw (l:=E.drop k) (by rw[cC];omega)];rfl
  rw[e1,e2];exact⟨o3.1,o3.2.imp id fun⟨g,c,cur,e1,e2,e3⟩=>⟨g,c,cur,e1,bh hb e2,e3⟩⟩
 ·have b1:uj wr w1:=(aN wr.heap.size wr).grown g1 (aO _) fun k hk=>by simp[Value.ownBlock]at hk
  have z1:=g1.size;have b2:uj wr w2:=(b1.alloc (by omega) o).grown g2 (by simp;omega) fun k hk=>(o1.lt k hk).1;have z2:=g2.size;simp at z2;exact b2.grown g3 (by omega) fun k hk=>(o2.lt k hk).1
theorem TY(E:List Int)(v:Value)(x:Int)(base:Nat)(w:World)(h:ET w base v E)(hs:E.Pairwise (· < ·))(hne:E≠[])(hl:E.length<=1000)(hb:base<=w.heap.size):
  Calls prog 121 #[v,vj x] w (EC base E x w):=by
 obtain⟨i0,hi0,hz0,hz1,hz2⟩:=cW EJ;have HO:=Aa h;obtain⟨g,cp,hv,hbg,hgl,hcap,hcs⟩:=h.at hne;subst hv;have HS:=Aa hs;have HC:=Aa hcs;obtain⟨n,hn⟩:∃n,E.length=n:=⟨_,rfl⟩;rw[hn]at hcap hl;rw[hn];have HN:=Aa hn;clear h hs hcs hn hne;go_enter func121,ntmps121
 go_wp2
 go_loopg [5] n (fun gg s5 wr=>∃k:Nat,s5=vj k/\gg+k=n/\(∀j (hj:j<E.length),j<k->E[j]<x)/\wr=w)
 case atStart=>exact⟨0,rfl,by omega,fun j _ h=>by omega,rfl⟩
 case round=>
  obtain⟨k,rfl,hgk,hrun,hw⟩:=hrel;subst hw;have HRun:=Aa hrun;clear hrun;by_cases hkn:k<n
  ·have hkE:k<E.length:=by rw[HN.out];exact hkn
   have c1:=HC.out k hkE;obtain⟨e,he⟩:∃e,E[k]=e:=⟨_,rfl⟩;rw[he]at c1;have HE:=Aa he;clear he;have hlt:(k:Int)<(n:Int):=by omega
   by_cases h1:e<x
   ·go_wp2
    go_roundg (gk-1)
    case measure=>omega
    case rel=>
     refine⟨k+1,by go_num,by omega,fun j hj hjk=>?_,rfl⟩;by_cases ej:j=k
     ·subst ej;rw[HE.out];exact h1
     ·exact HRun.out j hj (by omega)
   ·by_cases h2:e=x
    ·have h2b:(e==x)=true:=by simpa using h2
     have H2:=Aa h2;clear h2;go_wp2;go_ret;refine⟨_,E,rfl,?_,Og HS.out ?_,aN _ _⟩
     ·have:=HO.out;rw[HN.out]at this;exact this
     ·rw[<-H2.out,<-HE.out];exact aZ hkE
    ·have h2b:(e==x)=false:=by simpa using h2
     have hwd:Hid (DA E (E.take k++[x]++E.drop k) x):=IS HS.out HRun.out fun j hj hkj=>by
      have h3:x<E[k]:=by rw[HE.out];omega
      by_cases ej:j=k
      ·subst ej;exact h3
      ·have:=cN.1 HS.out k j hkE hj (by omega);omega
     have hkc:(k:Int)<=(cp:Int):=by omega
     have hkn2:(k:Int)<=(n:Int):=by omega
     have HT1:=Aa (G9 HC.out 0 k (by rw[HN.out];omega))
     go_wp2_with(first
      |(at_builtin;refine wpList_append_own_at _ rfl (.tmp 34) (.tmp 37) 24 rfl wr.heap.size 3 i0 (vj 0) 1 8 underlying24 hi0 hz0 hz1 hz2 rfl (by decide) (jj) 0 [] rfl (bA _ _ _ _) (jA g 0) k cp (((E.drop 0).take k).map (Value.int .i64)) rfl HT1.out.1 HT1.out.2 (Gv _) (by unfold maxLen;omega) (by omega) (by omega) ?_;intro v1 w1 hown1 hgrow1 hnil1 hat1;simp only[Nat.zero_add,List.nil_append,List.drop_zero]at hown1;have HO1:=Aa hown1;have HG1:=Aa hgrow1;have HA1:=Aa hat1;have hz1s:wr.heap.size<=w1.heap.size:=hgrow1.size;clear hown1 hgrow1 hnil1 hat1)
      |(at_builtin;refine wpList_append_lies _ rfl (.tmp 39) (.tmp 41) 24 rfl wr.heap.size 3 i0 (vj 0) 1 8 underlying24 hi0 hz0 hz1 hz2 rfl (by decide) v1 k ((E.take k).map (Value.int .i64)) rfl (HO1.out.alloc _) (jA w1.heap.size 0) 1 1 [vj x] rfl rfl (bI (cs:=#[vj x]) (t:=3) (fr:=(0,0)) (aR w1 _)) (by simp[Value.oneCell']) (by omega) (by unfold maxLen;omega) (by omega) (by simp;omega) _ rfl ?_;intro g2 cp2 w2 hown2 hgrow2 hat2 hlt2;have HO2:=Aa hown2;have hcp2:k+1<=cp2:=A7 hown2;have HG2:=Aa hgrow2;have HC2:=Aa (Ln HC.out hgl HG1.out HA1.out hz1s hgrow2);have hz2s:w1.heap.size<=w2.heap.size:=(by have:=hgrow2.size;simp at this;omega);clear hown2 hgrow2 hat2)
      |(at_builtin;refine wpList_append_lies _ rfl (.tmp 43) (.tmp 46) 24 rfl wr.heap.size 3 i0 (vj 0) 1 8 underlying24 hi0 hz0 hz1 hz2 rfl (by decide) (sj g2 (k+1) cp2) (k+1) ((E.take k).map (Value.int .i64)++[vj x]) rfl HO2.out (jA g k) (n-k) (cp-k) (((E.drop k).take (n-k)).map (Value.int .i64)) rfl (G9 HC2.out k (n-k) (by rw[HN.out];omega)).1 (G9 HC2.out k (n-k) (by rw[HN.out];omega)).2 (Gv _) (by omega) (by unfold maxLen;omega) (by omega) (by omega) _ rfl ?_;intro g3 cp3 w3 hown3 hgrow3 hat3 hlt3;have HO3:=Aa hown3;have HG3:=Aa hgrow3;clear hown3 hgrow3 hat3))
     go_ret;exact MU HN.out (by omega) hb hwd.out HO1.out HG1.out HG2.out HO2.out HG3.out HO3.out
  ·have hk:k=n:=by omega
   subst hk;have hlt:¬(k:Int)<(k:Int):=by omega
   have hwd:Hid (DA E (E.take k++[x]++E.drop k) x):=IS HS.out HRun.out fun j hj hkj=>by have:=HN.out;omega
   have hkc:(k:Int)<=(cp:Int):=by omega
   have HT1:=Aa (G9 HC.out 0 k (by rw[HN.out];omega))
   go_wp2_with(first
    |(at_builtin;refine wpList_append_own_at _ rfl (.tmp 34) (.tmp 37) 24 rfl wr.heap.size 3 i0 (vj 0) 1 8 underlying24 hi0 hz0 hz1 hz2 rfl (by decide) (jj) 0 [] rfl (bA _ _ _ _) (jA g 0) k cp (((E.drop 0).take k).map (Value.int .i64)) rfl HT1.out.1 HT1.out.2 (Gv _) (by unfold maxLen;omega) (by omega) (by omega) ?_;intro v1 w1 hown1 hgrow1 hnil1 hat1;simp only[Nat.zero_add,List.nil_append,List.drop_zero]at hown1;have HO1:=Aa hown1;have HG1:=Aa hgrow1;have HA1:=Aa hat1;have hz1s:wr.heap.size<=w1.heap.size:=hgrow1.size;clear hown1 hgrow1 hnil1 hat1)
    |(at_builtin;refine wpList_append_lies _ rfl (.tmp 39) (.tmp 41) 24 rfl wr.heap.size 3 i0 (vj 0) 1 8 underlying24 hi0 hz0 hz1 hz2 rfl (by decide) v1 k ((E.take k).map (Value.int .i64)) rfl (HO1.out.alloc _) (jA w1.heap.size 0) 1 1 [vj x] rfl rfl (bI (cs:=#[vj x]) (t:=3) (fr:=(0,0)) (aR w1 _)) (by simp[Value.oneCell']) (by omega) (by unfold maxLen;omega) (by omega) (by simp;omega) _ rfl ?_;intro g2 cp2 w2 hown2 hgrow2 hat2 hlt2;have HO2:=Aa hown2;have hcp2:k+1<=cp2:=A7 hown2;have HG2:=Aa hgrow2;have HC2:=Aa (Ln HC.out hgl HG1.out HA1.out hz1s hgrow2);have hz2s:w1.heap.size<=w2.heap.size:=(by have:=hgrow2.size;simp at this;omega);clear hown2 hgrow2 hat2))
   all_goals
    go_ret;have e0:k+1+(k-k)=k+1:=by omega
    have e1:(E.take k).map (Value.int .i64)++[vj x]++((E.drop k).take (k-k)).map (Value.int .i64)=(E.take k).map (Value.int .i64)++[vj x]:=by simp
    exact MU HN.out (aO _) hb hwd.out HO1.out HG1.out HG2.out HO2.out ⟨rfl,rfl,rfl,aO _,fun _ _ _=>rfl⟩ (by rw[e0,e1];exact HO2.out)
theorem IT(E:List Int)(v:Value)(x:Int)(base:Nat)(w:World)(h:ET w base v E)(hs:E.Pairwise (· < ·))(hl:E.length<=1000)(hb:base<=w.heap.size):
  Calls prog 121 #[v,vj x] w (EC base E x w):=by
 by_cases hne:E=[]
 ·subst hne;have hv:=h.2 rfl;subst hv;refine(Q9 x w.heap.size w (aO _)).mono fun e w' ⟨u,he,ho,hbl⟩=>⟨u,[x],he,⟨⟨ho.1.1,ho.1.2.imp id fun⟨g,c,cur,e1,e2,e3⟩=>⟨g,c,cur,e1,bh hb e2,e3⟩⟩,ho.2⟩,Mg x,hbl⟩
 ·exact TY E v x base w h hs hne hl hb
attribute [local go_sem ↓] Go.wp_at_zero Go.wp_at_succ
variable{v:Value}{w w':World}
def Kw(w:World)(v:Value)(I:List Bool):Prop:=
 ∃a c,v=.slice a I.length c/\(0<I.length->∃b off,a=some (jA b off)/\∀j,j<I.length->w.cell? (jA b (off+j))=some (.bool (I.getD j false)))
theorem Kw.below{I:List Bool}(h:Kw w v I)(hb:uj w w'):Kw w' v I:=by
 obtain⟨a,c,hv,hc⟩:=h;refine⟨a,c,hv,fun hl=>?_⟩;obtain⟨b,off,ha,hcs⟩:=hc hl;exact⟨b,off,ha,fun j hj=>(hb.cell (p:=(jA b (off+j))) (Ak (hcs j hj))).trans (hcs j hj)⟩
def DP(w:World)(g:Nat)(E:List Int):Prop:=∀j,j<E.length->w.cell? (jA g j)=some (vj (nth E j))
theorem DP.below{g:Nat}(h:DP w g E)(hb:uj w w'):DP w' g E:=fun j hj=>
 (hb.cell (p:=(jA g j)) (Ak (h j hj))).trans (h j hj)
theorem ET.ints{base:Nat}(h:ET w base v E)(hne:E≠[]):∃g c,v=sj g E.length c/\DP w g E:=by
 obtain⟨g,c,hv,_,_,_,hc⟩:=h.at hne;exact⟨g,c,hv,fun j hj=>by rw[BZ E j hj];exact hc j hj⟩
def Ah(y0 y1:Int)(L:List (Int×Int)):List (Int×Int×Int×Int):=L.map fun s=>(s.1,y0,s.2,y1)
theorem Cp(y0 y1:Int)(L M:List (Int×Int)):Ah y0 y1 (L++M)=Ah y0 y1 L++Ah y0 y1 M:=by simp[Ah]
theorem Lq(M:List (Int×Int×Int×Int))(a b z d z':Int):(Ae (M++[(a,b,z,d)])).set (M.length*4+2) (vj z')=Ae (M++[(a,b,z',d)]):=by
 rw[AD,AD,List.set_append,if_neg (by rw[AT];omega),AT,show M.length*4+2-M.length*4=2 by omega];rfl
def Oh(E:List Int)(I:List Bool)(y0 y1:Int)(w:World)(e:Ending)(w':World):Prop:=∃u L,e=.returned u/\AF w' w.heap.size u (Ah y0 y1 L)/\Kk E I I.length L/\uj w w'
theorem SL(E:List Int)(I:List Bool)(gx cx:Nat)(vI:Value)(y0 y1:Int)(w:World)(hE:DP w gx E)(hI:Kw w vI I)(hs:E.Pairwise (· < ·))(hl:I.length+1=E.length)(hl2:E.length<=1000):
  Calls prog 175 #[sj gx E.length cx,vI,vj y0,vj y1] w (Oh E I y0 y1 w):=by
 obtain⟨i0,hi0,hz0,hz1,hz2⟩:=cW C8;have HE:=Aa hE;have HI:=Aa hI;have HS:=Aa hs;have HL:=Aa hl;obtain⟨ia,ic,hv⟩:∃a c,vI=.slice a I.length c:=by obtain⟨a,c,h,_⟩:=hI;exact⟨a,c,h⟩
 obtain⟨n,hn⟩:∃n,I.length=n:=⟨_,rfl⟩;have HN:=Aa hn;rw[hn]at hv;have HV:=Aa hv;have hEn:E.length=n+1:=by omega
 rw[hv,hEn];have HEn:=Aa hEn;rw[hEn]at hl2;clear hE hI hs hl hn hv hEn;go_enter func175,ntmps175
 go_wp2
 go_loopg [9,10] n (fun g s9 s10 wr=>∃(i:Nat) (L:List (Int×Int)),s10=vj i/\g+i=n/\Kk E I i L/\AF wr w.heap.size s9 (Ah y0 y1 L)/\L.length<=i/\uj w wr)
 case atStart=>exact⟨0,[],rfl,by omega,RI HS.out HL.out,⟨bA _ _ _ _,fun _=>rfl⟩,by simp,aN _ _⟩
 case round=>
  obtain⟨i,L,rfl,hgi,hR,hown,hLi,hbel⟩:=hrel;obtain⟨ra,rcp,rfl⟩:=hown.form;obtain⟨m,hm⟩:∃m,(Ah y0 y1 L).length=m:=⟨_,rfl⟩;have hmL:m=L.length:=by rw[<-hm];simp[Ah]
  rw[hm];have HM:=Aa (aK hm hmL);have hm1:m<=1000:=by omega
  cases gk with
  |zero=>
   have hlt:¬(i:Int)+1<((n+1:Nat):Int):=by omega
   have HX:=Aa (aK hR (aK hown hbel));clear hR hown hbel hm hmL;go_wp2;go_ret;refine⟨_,L,rfl,?_,?_,HX.out.2.2⟩
   ·have:=HX.out.2.1;rw[HM.out.1]at this;exact this
   ·have:I.length=i:=by rw[HN.out];omega
    rw[this];exact HX.out.1
  |succ g=>
   have hlt:(i:Int)+1<((n+1:Nat):Int):=by omega
   have hin:i<n:=by omega
   have hiI:i<I.length:=by rw[HN.out];exact hin
   obtain⟨ia',ic',hv',hcs⟩:=HI.out.below hbel;rw[HV.out,HN.out]at hv';simp at hv';obtain⟨rfl,rfl⟩:=hv';obtain⟨ib,ioff,rfl,hct⟩:=hcs (by omega);have c1:=hct i hiI;have hEb:=HE.out.below hbel;have e1:=hEb i (by rw[HEn.out];omega);have e2:=hEb (i+1) (by rw[HEn.out];omega);have hzi:=Ak c1;have hze:=Ak e1;have hwr:=hbel.size;obtain⟨bi,hbi⟩:∃b,I.getD i false=b:=⟨_,rfl⟩;rw[hbi]at c1;cases bi with
   |false=>
    have HX:=Aa (aK (TZ HS.out HL.out hR hiI hbi) (aK hown hbel));clear hR hown hbel hm hmL hcs hct hEb hbi;go_wp2
    go_roundg g
    case measure=>omega
    case rel=>
     have:=HX.out.2.1;rw[HM.out.1]at this;exact⟨i+1,L,by go_num,by omega,HX.out.1,this,by omega,HX.out.2.2⟩
   |true=>
    by_cases hprev:0<i/\I.getD (i-1) false=true
    ·
     obtain⟨hi0',hIp⟩:=hprev;obtain⟨D,f,rfl⟩:=hR.grows hi0' hIp;have HX:=Aa (aK (T5 HS.out HL.out hR hiI hbi) hbel);obtain⟨d,hd⟩:∃d,D.length=d:=⟨_,rfl⟩;have hmd:m=d+1:=by rw[hmL,aY,hd];rfl
     subst hmd;have hown2:=hown;rw[hm]at hown2;have ho1:=hown2.1;rw[hm]at ho1;obtain⟨gr,cr,hvr,hgb,hgl⟩:=ho1.form (by omega);simp at hvr;obtain⟨rfl,rfl⟩:=hvr;have cs:=ho1.cells (g:=gr) rfl;have hk2:wr.cell? (jA gr (d*4+2))=some (vj (nth E i)):=by
      obtain⟨_,_,q3,_⟩:=Cs (Ah y0 y1 (D++[(f,nth E i)])) d (by rw[hm];omega);have:=cs _ _ q3;rw[Bn]at this;rw[this];simp[Ah,hd]
     have hfz:=CM ho1 (d*4+2);obtain⟨im,him⟩:∃k,i-1=k:=⟨_,rfl⟩;have hsub:(i:Int)-1=(im:Int):=by omega
     have hc2:=hct im (by omega);rw[<-him,hIp,him]at hc2;have hi0b:(0:Int)<(i:Int):=by omega
     have himn:im<n:=by omega
     have HO:=Aa ho1;have HD:=Aa hd;clear hR hown hown2 hbel hm hmL hcs hct hEb hbi hIp him hd cs ho1;go_wp2
     go_roundg g
     case measure=>omega
     case rel=>
      refine⟨i+1,D++[(f,nth E (i+1))],by go_num,by omega,HX.out.1,?_,by simp at hLi ⊢;omega,HX.out.2.setCell hgb _⟩;have hset:=Dr (j:=d*4+2) HO.out (vj (nth E (i+1)));have e3:Ae (Ah y0 y1 (D++[(f,nth E i)]))=Ae (Ah y0 y1 D++[(f,y0,nth E i,y1)]):=by rw[Cp];rfl
      have e4:(Ah y0 y1 D).length=d:=by rw[<-HD.out];simp[Ah]
      rw[e3,<-e4,Lq]at hset;have e5:Ah y0 y1 (D++[(f,nth E (i+1))])=Ah y0 y1 D++[(f,y0,nth E (i+1),y1)]:=by rw[Cp];rfl
      rw[e5];refine⟨?_,fun h=>by simp at h⟩;rw[aY,e4];rw[e4]at hset;exact hset
    ·
     have hp:i=0\/I.getD (i-1) false=false:=by
      by_cases h0:i=0
      ·exact .inl h0
      ·right;cases hq:I.getD (i-1) false with
       |false=>rfl
       |true=>exact absurd ⟨by omega,hq⟩ hprev
     have HX:=Aa (aK (VH HS.out HL.out hR hiI hbi hp) hbel);have hown2:=hown;rw[hm]at hown2;have ho1:=hown2.1;rw[hm]at ho1;have HO2:=Aa ho1;have HNE:Hid (some gx≠(Value.slice ra m rcp).ownBlock):=by
      intro e;have:=(HO2.out.lt gx e.symm).1;have:=Ak (HE.out 0 (by rw[HEn.out];omega));omega
     obtain⟨X0,hX0⟩:∃x,nth E i=x:=⟨_,rfl⟩;obtain⟨X1,hX1⟩:∃x,nth E (i+1)=x:=⟨_,rfl⟩;rw[hX0]at e1;rw[hX1]at e2;have HXX:=Aa (aK hX0 hX1);have hi0c:(0:Int)<=(i:Int):=by omega
     have hi1c:(0:Int)<=(i:Int)+1:=by omega
     have hi2c:(i:Int)+1<((n:Int)+1):=by omega
     have hi3c:(i:Int)<((n:Int)+1):=by omega
     have hi4c:i<n+1:=by omega
     have hi5c:i+1<n+1:=by omega
     have hwrap:IntKind.i64.wrap ((i:Int)+1)=(i:Int)+1:=by rw[bB];omega
     by_cases hz:0<i
     ·have hp:I.getD (i-1) false=false:=by
       rcases hp with hp|hp
       ·omega
       ·exact hp
      obtain⟨im,him⟩:∃k,i-1=k:=⟨_,rfl⟩;have hsub:(i:Int)-1=(im:Int):=by omega
      have hc2:=hct im (by omega);rw[<-him,hp,him]at hc2;have hi0b:(0:Int)<(i:Int):=by omega
      have himn:im<n:=by omega
      clear hR hown hown2 hbel hm hmL hcs hct hEb hbi ho1 hX0 hX1 hprev hp him;go_wp2
      go_region_held3 (fun w'=>w'.cell? (jA gx i)=some (vj X0)/\w'.cell? (jA gx (i+1))=some (vj X1))
       (first
        |go_keep
        |(go_split_ands
          have hne:some gx≠(Value.slice ra m rcp).ownBlock:=HNE.out;refine⟨?_,?_⟩
          ·(rw[HG1.out.cell_far _ (by simp;omega) hne];assumption)
          ·(rw[HG1.out.cell_far _ (by simp;omega) hne];assumption)))
       (first
        |(refine step_append_lies _ (by rfl) (.tmp 43) (.tmp 56) _ (by rfl) w.heap.size 53 i0 _ 4 32 underlying33 hi0 hz0 hz1 hz2 rfl (by omega) (.slice ra m rcp) m (Ae (Ah y0 y1 L)) (by rfl) ((HO2.out.alloc _).drew) (jA wr.heap.size 0) 1 1 [vj X0,vj y0,vj X1,vj y1] (by rfl) (by rfl) (bI (cs:=#[vj X0,vj y0,vj X1,vj y1]) (t:=53) (fr:=(0,0)) (aR wr _)) (by simp[Value.oneCell']) (by omega) (by unfold maxLen;omega) (by omega) (by simp;omega) (wr.heap.size+1) (by simp) ?_;intro gg cp w1 hown1 hgrow hat hlt9;have HO1:=Aa hown1;have HG1:=Aa hgrow;clear hown1 hgrow hat)
        |fail)
      go_wp2
      go_roundg g
      case measure=>omega
      case rel=>
       refine⟨i+1,L++[(nth E i,nth E (i+1))],by go_num,by omega,HX.out.1,?_,by simp;omega,?_⟩
       ·have e5:Ah y0 y1 (L++[(nth E i,nth E (i+1))])=Ah y0 y1 L++[(nth E i,y0,nth E (i+1),y1)]:=by rw[Cp];rfl
        rw[e5];refine⟨?_,fun h=>by simp at h⟩;rw[aY,HM.out.1,AD,HXX.out.1,HXX.out.2];exact HO1.out
       ·exact((HX.out.2.alloc hwr _).drew).grown HG1.out (by simp;omega) fun k hk=>(HO2.out.lt k hk).1
     ·have hz:¬(0:Int)<(i:Int):=by omega
      clear hR hown hown2 hbel hm hmL hcs hct hEb hbi ho1 hX0 hX1 hprev hp;go_wp2
      go_region_held3 (fun w'=>w'.cell? (jA gx i)=some (vj X0)/\w'.cell? (jA gx (i+1))=some (vj X1))
       (first
        |go_keep
        |(go_split_ands
          have hne:some gx≠(Value.slice ra m rcp).ownBlock:=HNE.out;refine⟨?_,?_⟩
          ·(rw[HG1.out.cell_far _ (by simp;omega) hne];assumption)
          ·(rw[HG1.out.cell_far _ (by simp;omega) hne];assumption)))
       (first
        |(refine step_append_lies _ (by rfl) (.tmp 43) (.tmp 56) _ (by rfl) w.heap.size 53 i0 _ 4 32 underlying33 hi0 hz0 hz1 hz2 rfl (by omega) (.slice ra m rcp) m (Ae (Ah y0 y1 L)) (by rfl) ((HO2.out.alloc _).drew) (jA wr.heap.size 0) 1 1 [vj X0,vj y0,vj X1,vj y1] (by rfl) (by rfl) (bI (cs:=#[vj X0,vj y0,vj X1,vj y1]) (t:=53) (fr:=(0,0)) (aR wr _)) (by simp[Value.oneCell']) (by omega) (by unfold maxLen;omega) (by omega) (by simp;omega) (wr.heap.size+1) (by simp) ?_;intro gg cp w1 hown1 hgrow hat hlt9;have HO1:=Aa hown1;have HG1:=Aa hgrow;clear hown1 hgrow hat)
        |fail)
      go_wp2
      go_roundg g
      case measure=>omega
      case rel=>
       refine⟨i+1,L++[(nth E i,nth E (i+1))],by go_num,by omega,HX.out.1,?_,by simp;omega,?_⟩
       ·have e5:Ah y0 y1 (L++[(nth E i,nth E (i+1))])=Ah y0 y1 L++[(nth E i,y0,nth E (i+1),y1)]:=by rw[Cp];rfl
        rw[e5];refine⟨?_,fun h=>by simp at h⟩;rw[aY,HM.out.1,AD,HXX.out.1,HXX.out.2];exact HO1.out
       ·exact((HX.out.2.alloc hwr _).drew).grown HG1.out (by simp;omega) fun k hk=>(HO2.out.lt k hk).1
variable{a b c:Nat}{l:List (Int×Int×Int×Int)}
theorem As.at{v:Value}(h:As w v l)(k:Nat)(hk:k<l.length):
  ∃b off c,v=.slice (some (jA b off)) l.length c/\w.cell? (jA b (off+k*4))=some (vj (l.getD k (0,0,0,0)).1)/\w.cell? (jA b (off+k*4+1))=some (vj (l.getD k (0,0,0,0)).2.1)/\w.cell? (jA b (off+k*4+2))=some (vj (l.getD k (0,0,0,0)).2.2.1)/\w.cell? (jA b (off+k*4+3))=some (vj (l.getD k (0,0,0,0)).2.2.2):=by
 obtain⟨a,c,rfl,hc⟩:=h;obtain⟨b,off,rfl,hcs⟩:=hc (by omega);have e:l.getD k (0,0,0,0)=l[k]:=by rw[bu,aU hk];rfl
 rw[e];exact⟨b,off,c,rfl,hcs k hk⟩
theorem IU(y0 y1:Int)(L:List (Int×Int))(i:Nat)(h:i<L.length):(Ah y0 y1 L).getD i (0,0,0,0)=(L[i].1,y0,L[i].2,y1):=by
 unfold Ah;rw[bu,bZ,aU h];rfl
theorem Be(y0 y1:Int)(L:List (Int×Int)):(Ah y0 y1 L).length=L.length:=by simp[Ah]
theorem RJ(y0 y1 z0 z1:Int)(L M:List (Int×Int))(u v:Value)(w:World)(hu:As w u (Ah y0 y1 L))(hv:As w v (Ah z0 z1 M))(hl:L.length<=100000):
  Calls prog 176 #[u,v] w fun e w'=>e=.returned (.bool (decide (L=M)))/\∃nq,w'=w.drewN nq:=by
 obtain⟨ua,uc,hfu⟩:=hu.form;obtain⟨va,vc,hfv⟩:=hv.form;rw[Be]at hfu hfv;subst hfu;subst hfv;obtain⟨res,hres⟩:∃b,decide (L=M)=b:=⟨_,rfl⟩;rw[hres];by_cases hne:L.length=M.length
 ·have HU:=Aa hu;have HV:=Aa hv;have HE:=Aa hne;have HR:=Aa hres;obtain⟨n,hn⟩:∃n,L.length=n:=⟨_,rfl⟩;rw[<-hne,hn];rw[hn]at hl;have HN:=Aa hn;clear hu hv hne hres hn;go_enter func176,ntmps176
  go_wp2
  go_loopg [5] n (fun g s5 wr=>∃i:Nat,s5=vj i/\g+i=n/\(∀j (h1:j<L.length) (h2:j<M.length),j<i->L[j]=M[j])/\∃nq,wr=w.drewN nq)
  case atStart=>exact⟨0,rfl,by omega,fun j _ _ h=>by omega,0,rfl⟩
  case round=>
   obtain⟨i,rfl,hgi,hrun,n0,rfl⟩:=hrel;have HRun:=Aa hrun;clear hrun;cases gk with
   |zero=>
    have hlt:¬(i:Int)<(n:Int):=by omega
    go_wp2;go_ret;refine⟨Cm ?_,n0,rfl⟩;rw[<-HR.out];symm;rw[bT];exact List.ext_getElem HE.out fun j h1 h2=>HRun.out j h1 h2 (by have:=HN.out;omega)
   |succ g=>
    have hlt:(i:Int)<(n:Int):=by omega
    have hin:i<n:=by omega
    have hiL:i<L.length:=by rw[HN.out];exact hin
    have hiM:i<M.length:=by rw[<-HE.out];exact hiL
    obtain⟨b1,o1,k1,e1,q1,_,q2,_⟩:=HU.out.at i (by rw[Be];exact hiL);obtain⟨b2,o2,k2,e2,q3,_,q4,_⟩:=HV.out.at i (by rw[Be];exact hiM);rw[Be]at e1 e2;simp at e1 e2;obtain⟨rfl,rfl⟩:=e1;obtain⟨rfl,rfl⟩:=e2;rw[IU y0 y1 L i hiL]at q1 q2;rw[IU z0 z1 M i hiM]at q3 q4;simp only at q1 q2 q3 q4;obtain⟨⟨p0,p1⟩,hp⟩:∃s,L[i]=s:=⟨_,rfl⟩;obtain⟨⟨r0,r1⟩,hr⟩:∃s,M[i]=s:=⟨_,rfl⟩;rw[hp]at q1 q2;rw[hr]at q3 q4;simp only at q1 q2 q3 q4;have HQ:=Aa (aK hp hr);clear hp hr;have hno:Hid (L[i]≠M[i]->res=false):=by
     intro h;rw[<-HR.out,decide_eq_false_iff_not];intro e;subst e;exact h rfl
    by_cases t0:p0=r0
    ·have d0:(p0 != r0)=false:=by simpa using t0
     have T0:=Aa t0;clear t0;by_cases t1:p1=r1
     ·have d1:(p1 != r1)=false:=by simpa using t1
      have T1:=Aa t1;clear t1
      go_wp2_with fail
      go_quiet (fail)
      go_wp2
      go_roundg g
      case measure=>omega
      case rel=>
       refine⟨i+1,by go_num,by omega,fun j h1 h2 hj=>?_,n0+nq,by simp⟩;by_cases e:j=i
       ·subst e;rw[HQ.out.1,HQ.out.2,T0.out,T1.out]
       ·exact HRun.out j h1 h2 (by omega)
     ·have d1:(p1 != r1)=true:=by simpa using t1
      have T1:=Aa t1;clear t1
      go_wp2_with fail
      go_quiet (fail)
      go_wp2;go_ret;refine⟨Cm (hno.out ?_).symm,n0+nq,by simp⟩;rw[HQ.out.1,HQ.out.2];intro h;simp at h;exact T1.out h.2
    ·have d0:(p0 != r0)=true:=by simpa using t0
     have T0:=Aa t0;clear t0
     go_wp2_with fail
     go_quiet (fail)
     go_wp2;go_ret;refine⟨Cm (hno.out ?_).symm,n0+nq,by simp⟩;rw[HQ.out.1,HQ.out.2];intro h;simp at h;exact T0.out h.1
 ·have HR:Hid (res=false):=by
   rw[Hid,<-hres,decide_eq_false_iff_not];intro e;exact hne (by rw[e])
  generalize L.length=n at*;generalize M.length=m at*;have hnm:((n:Int) != (m:Int))=true:=by simp;omega
  clear hu hv hres;go_enter func176,ntmps176
  go_wp2;go_ret;exact⟨Cm HR.out.symm,0,rfl⟩
variable{D O:List (Int×Int×List (Int×Int))}{F:List Int}{L Ls:List (Int×Int)}{base i nL:Nat}{sl so:Value}{wo wx:World}{z0 z1:Int}
theorem Xc(D:List (Int×Int×List (Int×Int)))(b:Int×Int×List (Int×Int)):rc (D++[b])=rc D++Ah b.1 b.2.1 b.2.2:=by
 unfold rc Ah;rw[cM];simp
def Xd(base:Nat)(wr:World)(F:List Int)(i:Nat)(so sl:Value)(O:List (Int×Int×List (Int×Int))):Prop:=
 ∃D Ls z0 z1,AF wr base so (rc D)/\AF wr base sl (Ah z0 z1 Ls)/\(∀k,so.ownBlock=some k->sl.ownBlock≠some k)/\((Ls=[]/\O=D/\∀e∈Ag O,e<nth F i)\/(Ls≠[]/\O=D++[(z0,z1,Ls)]))
theorem T7{t:Int}(hne:Ls≠[]):CY (D++[(z0,z1,Ls)]) (z1,t,Ls)=D++[(z0,t,Ls)]:=by
 unfold CY;rw[if_neg hne];simp
theorem VI{y0 y1:Int}(h:(Ls=[]/\O=D/\∀e∈Ag O,e<y0)\/(Ls≠[]/\O=D++[(z0,z1,Ls)]))(hn:¬(Ls≠[]/\L=Ls/\z1=y0))(hL:L≠[]):CY O (y0,y1,L)=O++[(y0,y1,L)]:=by
 unfold CY;rw[if_neg hL];rcases h with⟨_,_,h3⟩|⟨h1,rfl⟩
 ·cases hl:O.getLast? with
  |none=>
   have:O=[]:=by
    cases O with
    |nil=>rfl
    |cons a O=>rw[List.getLast?_eq_some_getLast (by simp)]at hl;simp at hl
   subst this;rfl
  |some l=>
   have hO:=DU O l hl;have hlm:l∈O:=by rw[hO];simp
   have:=h3 l.2.1 (Nv hlm);show(if l.2.1=y0/\l.2.2=L then O.dropLast++[(l.1,y1,l.2.2)]else O++[(y0,y1,L)])=_;rw[if_neg];rintro⟨a,_⟩;omega
 ·have:(D++[(z0,z1,Ls)]).getLast? =some (z0,z1,Ls):=by simp
  rw[this];simp only;rw[if_neg];rintro⟨a,b⟩;exact hn ⟨h1,b.symm,a⟩
theorem Gz{P:Prop}(h:(Ls=[]/\O=D/\P)\/(Ls≠[]/\O=D++[(z0,z1,Ls)])):rc O=rc D++Ah z0 z1 Ls:=by
 rcases h with⟨rfl,rfl,_⟩|⟨_,rfl⟩
 ·simp[Ah]
 ·rw[Xc]
theorem T8{w2:World}(hm:nth F i<nth F (i+1))(hup:∀e∈Ag O,e<=nth F i)
  (h:(Ls=[]/\O=D/\∀e∈Ag O,e<nth F i)\/(Ls≠[]/\O=D++[(z0,z1,Ls)])) (hn:¬(Ls≠[]/\L=Ls/\z1=nth F i))
  (ho:AF w2 base so (rc D++Ah z0 z1 Ls)) (hl:AF w2 base sl (Ah (nth F i) (nth F (i+1)) L)) (hd:∀k,so.ownBlock=some k->sl.ownBlock≠some k):Xd base w2 F (i+1) so sl (CY O (nth F i,nth F (i+1),L)):=by
 rw[<-Gz h]at ho;refine⟨O,L,nth F i,nth F (i+1),ho,hl,hd,?_⟩;by_cases hL:L=[]
 ·subst hL;left;have:CY O (nth F i,nth F (i+1),[])=O:=by unfold CY;simp
  rw[this];exact⟨rfl,rfl,fun e he=>by have:=hup e he;omega⟩
 ·right;exact⟨hL,VI h hn hL⟩
theorem Lt(A B:List (Int×Int×Int×Int))(a b z d d':Int):(Ae (A++(a,b,z,d)::B)).set (A.length*4+3) (vj d')=Ae (A++(a,b,z,d')::B):=by
 have e:∀q,Ae (A++(a,b,z,q)::B)=Ae A++([vj a,vj b,vj z,vj q]++Ae B):=fun q=>by rw[AD];rfl
 rw[e,e,List.set_append,if_neg (by rw[AT];omega),AT,show A.length*4+3-A.length*4=3 by omega];rfl
theorem AF.keep(h:AF w base v l)(hk:∀g,v.ownBlock=some g->w'.heap[g]?=w.heap[g]?):AF w' base v l:=by
 obtain⟨⟨h1,h2⟩,h3⟩:=h;refine⟨⟨h1,?_⟩,h3⟩;rcases h2 with h2|⟨g,cap,cur,e1,e2,e3,e4⟩
 ·exact .inl h2
 ·exact .inr ⟨g,cap,cur,e1,e2,by rw[hk g (by rw[e1];rfl)];exact e3,e4⟩
theorem AF.stay(h:AF w base v l)(hb:uj w w'):AF w' base v l:=
 h.keep fun g hg=>hb.block g (h.1.lt g hg).2
theorem AF.low{base':Nat}(h:AF w base v l)(hb:base'<=base):AF w base' v l:=⟨⟨h.1.1,h.1.2.imp id fun⟨g,c,cur,e1,e2,e3⟩=>⟨g,c,cur,e1,bh hb e2,e3⟩⟩,h.2⟩
theorem RL(hO:AL O):(rc O).length<=4001*2001:=by
 have h1:=Nz hO O.length;rw[bw (aO _)]at h1;exact bh h1 (bU _ hO.len)
theorem Ik{w1:World}{nD nq nr:Nat}{s11 v1:Value}(hbel:uj w wo)(hbx:uj wo wx)
  (hown:AF wo w.heap.size so (rc D)) (hrow:AF wx wo.heap.size s11 (Ah (nth F i) (nth F (i+1)) L)) (hnD:(rc D).length=nD) (hnL:(Ah z0 z1 Ls).length=nL)
  (hm:nth F i<nth F (i+1)) (hup:∀e∈Ag O,e<=nth F i) (h:(Ls=[]/\O=D/\∀e∈Ag O,e<nth F i)\/(Ls≠[]/\O=D++[(z0,z1,Ls)])) (hn:¬(Ls≠[]/\L=Ls/\z1=nth F i))
  (ho1:w1.ownsRow w.heap.size 53 4 v1 (nD+nL) (Ae (rc D)++Ae (Ah z0 z1 Ls))) (hg:((wx.drewN nq).drewN nr).grownBy w1 so.ownBlock) (hnil:v1=jj↔so=jj/\nL=0) (hat:v1.ownBlock=so.ownBlock\/v1.ownBlock=some wx.heap.size):
  Xd w.heap.size w1 F (i+1) v1 s11 (CY O (nth F i,nth F (i+1),L))/\uj w w1:=by
 have hz1:=hbel.size;have hz2:=hbx.size;have hne:∀g,s11.ownBlock=some g->some g≠so.ownBlock:=fun g hg9 e=>by
  have a1:=(hrow.1.lt g hg9).1;have a2:=(hown.1.lt g e.symm).2;omega
 refine⟨T8 hm hup h hn ⟨?_,fun e=>?_⟩ ((hrow.low hz1).keep fun g hg9=>?_) fun k hk e=>?_,?_⟩
 ·rw[aY,hnD,hnL,AD];exact ho1
 ·rw[hnil];have e2:=List.append_eq_nil_iff.1 e;exact⟨hown.2 e2.1,by rw[<-hnL,e2.2];rfl⟩
 ·exact hg.block g (by have:=(hrow.1.lt g hg9).2;simpa using this) (hne g hg9)
 ·rcases hat with hat|hat
  ·rw[hat]at hk;exact hne k e hk.symm
  ·rw[hat]at hk;have:=(hrow.1.lt k e).2;simp at hk;omega
 ·have b1:uj w ((wx.drewN nq).drewN nr):=cS (cS (hbel.trans (hbx.mono hz1)) nq) nr;exact b1.grown hg (by simp;omega) fun k hk=>(hown.1.lt k hk).1
theorem RM{g lc k:Nat}{Y1:Int}(hk:k<Ls.length)(h:AF wr base (sj g nL lc) (Ah z0 Y1 (Ls.take k)++Ah z0 z1 (Ls.drop k))):
  AF (wr.setCell (jA g (k*4+3)) (vj Y1)) base (sj g nL lc) (Ah z0 Y1 (Ls.take (k+1))++Ah z0 z1 (Ls.drop (k+1))):=by
 have e1:Ah z0 z1 (Ls.drop k)=(Ls[k].1,z0,Ls[k].2,z1)::Ah z0 z1 (Ls.drop (k+1)):=by rw[List.drop_eq_getElem_cons hk];rfl
 have e2:Ah z0 Y1 (Ls.take (k+1))=Ah z0 Y1 (Ls.take k)++[(Ls[k].1,z0,Ls[k].2,Y1)]:=by rw[bn hk,Cp];rfl
 have e3:(Ah z0 Y1 (Ls.take k)).length=k:=by rw[Be,bR];omega
 have hl:(Ah z0 Y1 (Ls.take k)++Ah z0 z1 (Ls.drop k)).length=nL:=by
  obtain⟨a,c,e⟩:=h.form;simp only[Value.slice.injEq]at e;exact e.2.1.symm
 have hl2:(Ah z0 Y1 (Ls.take (k+1))++Ah z0 z1 (Ls.drop (k+1))).length=nL:=by
  rw[<-hl];simp only[aY,Be,bR,cC];omega
 refine⟨?_,fun e=>?_⟩
 ·have h1:=h.1;rw[hl]at h1;rw[hl2];have h2:=Dr (j:=k*4+3) h1 (vj Y1);have h3:=Lt (Ah z0 Y1 (Ls.take k)) (Ah z0 z1 (Ls.drop (k+1))) Ls[k].1 z0 Ls[k].2 z1 Y1;rw[e3,<-e1]at h3;rw[h3]at h2;rw[e2,List.append_assoc];exact h2
 ·rw[e]at hl2;rw[aY,e3,e1]at hl;simp at hl2 hl;omega
theorem RN(hbx:uj wo wx)(hown:AF wo w.heap.size so (rc D))(hdis:∀k,so.ownBlock=some k->sl.ownBlock≠some k)
  (h:(Ls=[]/\O=D/\∀e∈Ag O,e<nth F i)\/(Ls≠[]/\O=D++[(z0,z1,Ls)])) (hne:Ls≠[]) (hL:L=Ls) (hz:z1=nth F i) (hl:AF wr w.heap.size sl (Ah z0 (nth F (i+1)) Ls)) (hk:∀g,sl.ownBlock≠some g->wr.heap[g]?=wx.heap[g]?):
  Xd w.heap.size wr F (i+1) so sl (CY O (nth F i,nth F (i+1),L)):=by
 refine⟨D,Ls,z0,nth F (i+1),(hown.stay hbx).keep fun g hg=>hk g (hdis g hg),hl,hdis,.inr ⟨hne,?_⟩⟩;rcases h with⟨h,_⟩|⟨_,rfl⟩
 ·exact absurd h hne
 ·rw[hL,<-hz];exact T7 hne
def Mh(w:World)(base:Nat)(v:Value)(I:List Bool):Prop:=w.ownsRow base 4 1 v I.length (I.map Value.bool)/\(I=[]->v=jj)
theorem Mh.at{w:World}{base:Nat}{v:Value}{I:List Bool}(h:Mh w base v I)(hne:I≠[]):∃g c,v=sj g I.length c/\I.length<=c/\∀j (hj:j<I.length),w.cell? (jA g j)=some (.bool I[j]):=by
 have hpos:0<I.length:=by cases I with
  |nil=>exact absurd rfl hne
  |cons a I=>simp
 obtain⟨h1,h2⟩:=h;obtain⟨g,c,rfl,hb,hl⟩:=h1.form hpos;have cs:=h1.cells (g:=g) rfl;refine⟨g,c,rfl,A7 h1,fun j hj=>?_⟩;have:=cs j (.bool I[j]) (by rw[bZ,aU hj];rfl);rw[Bn]at this;exact this
def MW(E F:List Int)(I:List Bool)(w:World)(e:Ending)(w':World):Prop:=∃u O,e=.returned u/\AF w' w.heap.size u (rc O)/\EE E F I (F.length-1) O/\uj w w'
theorem Lu(E F:List Int)(I:List Bool)(gx cx gy cy:Nat)(vI:Value)(w:World)(hE:DP w gx E)(hF:DP w gy F)(hI:Mh w 0 vI I)(sE:E.Pairwise (· < ·))(sF:F.Pairwise (· < ·))(bE:∀e∈E, -2000<=e/\e<=2000)(bF:∀e∈F, -2000<=e/\e<=2000)
  (lE:E.length<=100) (lF:F.length<=100) (nE:0<E.length) (nF:0<F.length) (hl:I.length=(F.length-1)*(E.length-1)):
  Calls prog 124 #[sj gx E.length cx,sj gy F.length cy,vI] w (MW E F I w):=by
 obtain⟨i0,hi0,hz0,hz1,hz2⟩:=cW C8;have HE:=Aa hE;have HF:=Aa hF;have HI:=Aa hI;have HS:=Aa (aK sE (aK sF (aK bE bF)));have HL:=Aa hl;obtain⟨n,hn⟩:∃n,E.length=n+1:=⟨E.length-1,by omega⟩;obtain⟨m,hm⟩:∃m,F.length=m+1:=⟨F.length-1,by omega⟩;have HNM:=Aa (aK hn hm);rw[hn,hm];rw[hn]at lE;rw[hm]at lF;obtain⟨tot,htot⟩:∃t,I.length=t:=⟨_,rfl⟩;obtain⟨va,vc,hvI⟩:∃a c,vI=.slice a tot c:=by
  by_cases h:I=[]
  ·refine⟨none,0,?_⟩;rw[<-htot,h];exact hI.2 h
  ·obtain⟨g,c,h1,_⟩:=hI.at h;exact⟨_,_,by rw[<-htot];exact h1⟩
 subst hvI;have HT:=Aa htot;clear hE hF hI sE sF bE bF hl nE nF hn hm htot;go_enter func124,ntmps124
 go_wp2
 go_loopg [7,8,10] m (fun g s7 s8 s10 wr=>∃(i:Nat) (O:List (Int×Int×List (Int×Int))),s10=vj i/\g+i=m/\EE E F I i O/\Xd w.heap.size wr F i s7 s8 O/\uj w wr)
 case atStart=>exact⟨0,[],rfl,by omega,Qd HS.out.2.1,⟨[],[],0,0,⟨bA _ _ _ _,fun _=>rfl⟩,⟨bA _ _ _ _,fun _=>rfl⟩,fun k hk=>by simp[Value.ownBlock]at hk,.inl ⟨rfl,rfl,fun e he=>by simp[Ag]at he⟩⟩,aN _ _⟩
 case round=>
  rename World=>wo;rename Nat=>gO;obtain⟨i,O,rfl,hgi,hG,⟨D,Ls,z0,z1,hown,hlast,hdis,hOD⟩,hbel⟩:=hrel;obtain⟨oa,oc,rfl⟩:=hown.form;obtain⟨la,lc,rfl⟩:=hlast.form;cases gO with
  |zero=>
   have hlt:¬(i:Int)+1<((m+1:Nat):Int):=by omega
   have hwo:=hbel.size;have hGl:=RL hG.good;obtain⟨nD,hnD⟩:∃k,(rc D).length=k:=⟨_,rfl⟩;obtain⟨nL,hnL⟩:∃k,(Ah z0 z1 Ls).length=k:=⟨_,rfl⟩;rw[Gz hOD,aY,hnD,hnL]at hGl;have h9:=DL hlast.rects fun h=>.inl (hlast.2 h);rw[hnL]at h9;have h8:=hown.1;rw[hnD]at h8;have HX:=Aa (aK hG (aK hown (aK hlast (aK hdis (aK hOD hbel)))));have HNx:=Aa (aK h8 h9);have HND:=Aa (aK hnD hnL);rw[hnD,hnL];clear hG hown hlast hdis hOD hbel hnD hnL h8 h9
   go_wp2_with(first
    |(at_builtin;refine Am (P:=prog) rfl (.tmp 83) (.tmp 84) 33 rfl w.heap.size 53 i0 _ 4 32 underlying33 hi0 hz0 hz1 hz2 rfl (by decide) (.slice oa nD oc) nD (Ae (rc D)) rfl ?_ (.slice la nL lc) nL (Ae (Ah z0 z1 Ls)) rfl ?_ ?_ (BK _) (by unfold maxLen;omega) (by omega) hwo ?_;exact HNx.out.1;(rw[AT,HND.out.2]);exact HNx.out.2;intro v9 w9 ho9 hg9 hn9 ha9;have HO9:=Aa ho9;have HG9:=Aa hg9;have HN9:=Aa (aK hn9 ha9);clear ho9 hg9 hn9 ha9))
   go_ret;refine⟨_,O,rfl,⟨?_,fun h=>?_⟩,?_,?_⟩
   ·rw[Gz HX.out.2.2.2.2.1,aY,HND.out.1,HND.out.2,AD];exact HO9.out
   ·rw[Gz HX.out.2.2.2.2.1]at h;have h2:=List.append_eq_nil_iff.1 h;have h3:=HX.out.2.1.2 h2.1;rw[HND.out.1]at h3;exact HN9.out.1.2 ⟨h3,by rw[<-HND.out.2,h2.2];rfl⟩
   ·have:F.length-1=i:=by rw[HNM.out.2];omega
    rw[this];exact HX.out.1
   ·exact HX.out.2.2.2.2.2.grown HG9.out hwo fun k hk=>(HNx.out.1.lt k hk).1
  |succ g=>
   have hlt:(i:Int)+1<((m+1:Nat):Int):=by omega
   have him:i<m:=by omega
   have hFb:=HF.out.below hbel;have e1:=hFb i (by rw[HNM.out.2];omega);have e2:=hFb (i+1) (by rw[HNM.out.2];omega);obtain⟨Y0,hY0⟩:∃x,nth F i=x:=⟨_,rfl⟩;obtain⟨Y1,hY1⟩:∃x,nth F (i+1)=x:=⟨_,rfl⟩;rw[hY0]at e1;rw[hY1]at e2;have HY:=Aa (aK hY0 hY1);obtain⟨p,hp⟩:∃p:Nat,i*n=p:=⟨_,rfl⟩;have hpq:(i+1)*n=p+n:=by rw[Nat.add_mul,Nat.one_mul,hp]
   have hp1:(i:Int)*(n:Int)=(p:Int):=by rw[<-hp];simp
   have hq1:((i:Int)+1)*(n:Int)=(p:Int)+(n:Int):=by
    have:(((i+1)*n:Nat):Int)=((p+n:Nat):Int):=by rw[hpq]
    simpa using this
   have hpb:p<=10000:=by
    rw[<-hp];have:=cI (show i<=100 by omega) (show n<=100 by omega);omega
   have hzy:=Ak e1;have hwo:=hbel.size;have HX:=Aa (aK hG (aK hown (aK hlast (aK hdis (aK hOD hbel)))));have HP:=Aa (aK hp hpq);clear hG hown hlast hdis hOD hbel hFb hY0 hY1 hp hpq;obtain⟨nD,hnD⟩:∃k,(rc D).length=k:=⟨_,rfl⟩;obtain⟨nL,hnL⟩:∃k,(Ah z0 z1 Ls).length=k:=⟨_,rfl⟩;rw[hnD,hnL];have HND:=Aa (aK hnD hnL);clear hnD hnL;have hn0:(0:Int)<=(n:Int):=by omega
   have hi0c:(0:Int)<=(i:Int):=by omega
   have hi1c:(0:Int)<=(i:Int)+1:=by omega
   have hi2c:(i:Int)+1<((m:Int)+1):=by omega
   have hi3c:(i:Int)<((m:Int)+1):=by omega
   have hi4c:i<m+1:=by omega
   have hi5c:i+1<m+1:=by omega
   have w1c:IntKind.i64.wrap ((i:Int)+1)=(i:Int)+1:=by rw[bB];omega
   have w2c:IntKind.i64.wrap (p:Int)=(p:Int):=by rw[bB];omega
   have w3c:IntKind.i64.wrap ((p:Int)+(n:Int))=(p:Int)+(n:Int):=by rw[bB];omega
   go_upto_region 7 with fail
   go_cut [11] (fun s11 wx=>∃L,AF wx wo.heap.size s11 (Ah Y0 Y1 L)/\Kk E (EZ I n i) (EZ I n i).length L/\uj wo wx)
   case first=>
    have hrl:(EZ I n i).length=n:=Qc (m:=m) (by have:=HL.out;rw[HNM.out.1,HNM.out.2]at this;simpa using this) him;by_cases hI0:I=[]
    ·have hv0:=HI.out.2 hI0;have ht0:tot=0:=by rw[<-HT.out,hI0];rfl
     injection hv0 with hv1 hv9 hv2;clear hv9;have hnm:m*n=0:=by have:=HL.out;rw[HNM.out.1,HNM.out.2,hI0]at this;simpa using this.symm
     have hnz:n=0:=by
      rcases Nat.mul_eq_zero.mp hnm with h|h
      ·omega
      ·exact h
     have hpz:p=0:=by rw[<-HP.out.1,hnz,Nat.mul_zero]
     clear hnm;subst hv1 hv2 ht0 hnz hpz;clear hp1 hq1 w2c w3c hn0 hpb;have q1:IntKind.i64.wrap 0=0:=by decide
     have hRow:∀W,uj wo W->Calls prog 175 #[sj gx (0+1) cx,jj,vj Y0,vj Y1] W (Oh E (EZ I 0 i) Y0 Y1 W):=by
      intro W hW;have hbw:=HX.out.2.2.2.2.2.trans (hW.mono HX.out.2.2.2.2.2.size);have:=SL E (EZ I 0 i) gx cx (jj) Y0 Y1 W (HE.out.below hbw) ?_ HS.out.1 (by rw[hrl,HNM.out.1]) (by rw[HNM.out.1];omega)
      ·rw[HNM.out.1]at this;exact this
      ·exact⟨_,0,by rw[hrl],fun hpos=>by omega⟩
     go_region_held3 (fun w'=>w'.cell? (jA gy i)=some (vj Y0)/\w'.cell? (jA gy (i+1))=some (vj Y1))
       (first
        |go_keep
        |(go_split_ands
          refine⟨?_,?_⟩
          ·((refine(HB1.out.cell (p:=(jA gy i)) (by simp;omega)).trans ?_);assumption)
          ·((refine(HB1.out.cell (p:=(jA gy (i+1))) (by simp;omega)).trans ?_);assumption)))
       (first
        |(go_at_call 175;refine(hRow _ ?_).mono ?_;exact(aN _ _).drew;rintro e w1 ⟨u1,L,rfl,hu,hR,hb1⟩;have HU:=Aa (aK hu hR);have HB1:=Aa hb1;clear hu hR hb1)
        |fail)
     go_wp2_with fail
     go_meet
     exact⟨L,HU.out.1,HU.out.2,(aN _ _).drew.trans HB1.out⟩
    ·obtain⟨ib,icap,hvI,hic,hics⟩:=HI.out.at hI0;injection hvI with hv1 hv9 hv2;clear hv9;subst hv1 hv2;have hIl:I.length=m*n:=by have:=HL.out;rw[HNM.out.1,HNM.out.2]at this;simpa using this
     have hpn:p+n<=I.length:=by
      rw[hIl,<-HP.out.2];exact bU n him
     rw[HT.out]at hpn hic;have hq0:(p:Int)<=(p:Int)+(n:Int):=by omega
     have hq2:(p:Int)+(n:Int)<=(vc:Int):=by omega
     have hp0:(0:Int)<=(p:Int):=by omega
     have hRow:∀W (ad:Option Addr) (cc:Nat),uj wo W->(0<n->ad=some (jA ib p))->Calls prog 175 #[sj gx (n+1) cx,.slice ad (((p:Int)+(n:Int)).toNat-p) cc,vj Y0,vj Y1] W (Oh E (EZ I n i) Y0 Y1 W):=by
      intro W ad cc hW had;have hlen9:((p:Int)+(n:Int)).toNat-p=n:=by omega
      rw[hlen9];have hbw:=HX.out.2.2.2.2.2.trans (hW.mono HX.out.2.2.2.2.2.size);have:=SL E (EZ I n i) gx cx (.slice ad n cc) Y0 Y1 W (HE.out.below hbw) ?_ HS.out.1 (by rw[hrl,HNM.out.1]) (by rw[HNM.out.1];omega)
      ·rw[HNM.out.1]at this;exact this
      ·refine⟨_,cc,by rw[hrl],fun hpos=>⟨ib,p,?_,fun j hj=>?_⟩⟩
       ·rw[hrl]at hpos;exact had hpos
       rw[hrl]at hj;have hc:=hics (p+j) (by rw[HT.out];omega);refine(hbw.cell (p:=(jA ib (p+j))) (Ak hc)).trans ?_;rw[hc];unfold EZ;rw[HP.out.1,bu,List.getElem?_take_of_lt hj,List.getElem?_drop,aU (by rw[HT.out];omega)];rfl
     have hnp:0<n:=by
      rcases Nat.eq_zero_or_pos n with h|h
      ·exfalso;have h9:=hIl;rw[h,Nat.mul_zero]at h9;exact hI0 (List.length_eq_zero_iff.mp h9)
      ·exact h
     have hcp:¬vc=p:=by omega
     clear hics hIl
     go_region_held3 (fun w'=>w'.cell? (jA gy i)=some (vj Y0)/\w'.cell? (jA gy (i+1))=some (vj Y1))
       (first
        |go_keep
        |(go_split_ands
          refine⟨?_,?_⟩
          ·((refine(HB1.out.cell (p:=(jA gy i)) (by simp;omega)).trans ?_);assumption)
          ·((refine(HB1.out.cell (p:=(jA gy (i+1))) (by simp;omega)).trans ?_);assumption)))
       (first
        |(go_at_call 175;refine(hRow _ _ _ ?_ ?_).mono ?_;exact(aN _ _).drew;(exact fun _=>rfl);rintro e w1 ⟨u1,L,rfl,hu,hR,hb1⟩;have HU:=Aa (aK hu hR);have HB1:=Aa hb1;clear hu hR hb1)
        |fail)
     go_wp2_with fail
     go_meet
     exact⟨L,HU.out.1,HU.out.2,(aN _ _).drew.trans HB1.out⟩
   case rest=>
    obtain⟨L,hrow,hR,hbx⟩:=hcut;rename World=>wx;obtain⟨ra,rcp,rfl⟩:=hrow.form;obtain⟨nR,hnR⟩:∃k,(Ah Y0 Y1 L).length=k:=⟨_,rfl⟩;rw[hnR];have hG:=HX.out.1;have hrl:(EZ I n i).length=n:=Qc (m:=m) (by have:=HL.out;rw[HNM.out.1,HNM.out.2]at this;simpa using this) him;obtain⟨hS,_⟩:=MV HS.out.1 (by rw[hrl,HNM.out.1]) HS.out.2.2.1 hR;have hSl:=hS.len;have hGl:=RL hG.good;rw[Gz HX.out.2.2.2.2.1,aY,HND.out.1,HND.out.2]at hGl;have hFm:nth F i<nth F (i+1):=Fj HS.out.2.1 (by omega) (by rw[HNM.out.2];omega);have hGn:=RK (I:=I) (L:=L) HS.out.1 HS.out.2.1 HS.out.2.2.1 HS.out.2.2.2 (by rw[HNM.out.1];simp only[Nat.add_sub_cancel];rw[hrl]) (by rw[HNM.out.2];omega) hG (by rw[HNM.out.1];exact hR);have hlx:=HX.out.2.2.1.stay hbx;have hrr:=hrow.rects;have hlr:=hlx.rects;rw[hnR]at hrr;rw[HND.out.2]at hlr;have e1x:=(hbx.cell (p:=(jA gy i)) hzy).trans e1;have e2x:=(hbx.cell (p:=(jA gy (i+1))) (Ak e2)).trans e2;have hzx:=hbx.size;have HR2:=Aa (aK hrow (aK hbx (aK hnR (aK hGn hFm))));have HA:Hid (Calls prog 176 #[.slice ra nR rcp,.slice la nL lc] wx fun e w'=>e=.returned (.bool (decide (L=Ls)))/\∃nq,w'=wx.drewN nq):=RJ Y0 Y1 z0 z1 L Ls _ _ wx hrr hlr (by omega);obtain⟨sm,hsm⟩:∃b,decide (L=Ls)=b:=⟨_,rfl⟩;rw[hsm]at HA;have HSm:=Aa hsm;have HLx:=Aa hlx;clear hrow hR hbx hnR hS hG hGn hFm hrr hlr hsm e1 e2 hlx;have HOx:Hid ((wx).ownsRow w.heap.size 53 4 (.slice oa nD oc) nD (Ae (rc D))/\nD<=10000000):=by
     have:=(HX.out.2.1.stay HR2.out.2.1).1;rw[HND.out.1]at this;exact⟨this,by omega⟩
    have HNx:Hid ((Ae (Ah z0 z1 Ls)).length=nL*4/\((.slice la nL lc=jj/\nL=0)\/∃ad c,Value.slice la nL lc=.slice (some ad) nL c/\∀j u,(Ae (Ah z0 z1 Ls))[j]?=some u->wx.cell? (ad.add j)=some u)):=by
     refine⟨by rw[AT,HND.out.2],?_⟩;have h9:=DL HLx.out.rects fun h=>.inl (HLx.out.2 h);rw[HND.out.2]at h9;exact h9
    rcases Nat.eq_zero_or_pos nL with hL0|hL0
    ·
     have hls:Ls=[]:=by
      have:=HND.out.2;rw[Be,hL0]at this;exact List.length_eq_zero_iff.mp this
     have hv0:=HX.out.2.2.1.2 (by rw[hls];rfl);rw[HND.out.2]at hv0;injection hv0 with hv1 hv9 hv2;clear hv9;subst hv1 hv2 hL0;have HNM9:Hid (¬(Ls≠[]/\L=Ls/\z1=nth F i)):=fun h=>h.1 hls;clear hls
     go_wp2_with(first
      |(go_at_call 176;refine HA.out.mono ?_;rintro e w1 ⟨rfl,nq,rfl⟩))
     go_quiet (fail)
     go_wp2_with(first
      |(at_builtin;refine Am (P:=prog) rfl (.tmp 79) (.tmp 80) 33 rfl w.heap.size 53 i0 _ 4 32 underlying33 hi0 hz0 hz1 hz2 rfl (by decide) (.slice oa nD oc) nD (Ae (rc D)) rfl ?_ (jj) 0 (Ae (Ah z0 z1 Ls)) rfl ?_ ?_ (BK _) (by unfold maxLen;omega) (by omega) (by simp;omega) ?_;exact HOx.out.1;exact HNx.out.1;exact .inl ⟨rfl,rfl⟩;intro v9 w9 ho9 hg9 hn9 ha9;have HO9:=Aa ho9;have HG9:=Aa hg9;have HN9:=Aa (aK hn9 ha9);obtain⟨ga,gc,hvf⟩:=Al ho9;subst hvf;clear ho9 hg9 hn9 ha9))
     go_roundg g
     case measure=>omega
     case rel=>
      refine⟨i+1,CY O (nth F i,nth F (i+1),L),by go_num,by omega,HR2.out.2.2.2.1,?_⟩;have hx9:=HR2.out.1;rw[HR2.out.2.2.1,<-HY.out.1,<-HY.out.2]at hx9;have ho9:=HX.out.2.1;rw[HND.out.1]at ho9;exact Ik HX.out.2.2.2.2.2 HR2.out.2.1 ho9 hx9 HND.out.1 HND.out.2 HR2.out.2.2.2.2 HX.out.1.upto HX.out.2.2.2.2.1 HNM9.out HO9.out HG9.out (by have:=HN9.out.1;simpa using this) HN9.out.2
    ·
     have ho1:=HLx.out.1;rw[HND.out.2]at ho1;obtain⟨gl,lc',hvl,hglb,hgll⟩:=ho1.form hL0;injection hvl with hv1 hv9 hv2;clear hv9;subst hv1 hv2;have hlsl:Ls.length=nL:=by have:=HND.out.2;rw[Be]at this;exact this
     have cz:wx.cell? (jA gl 3)=some (vj z1):=by
      obtain⟨_,_,_,q4⟩:=Cs (Ah z0 z1 Ls) 0 (by rw[HND.out.2];exact hL0);have:=ho1.cells (g:=gl) rfl _ _ q4;rw[Bn]at this;simpa[Ah]using this
     have HLn:=Aa hlsl;clear ho1 hlsl;have hL0i:(0:Int)<(nL:Int):=by omega
     have hls:Hid (Ls≠[]):=by intro h;have:=HLn.out;rw[h]at this;simp at this;omega
     cases sm with
     |false=>
      have HNM9:Hid (¬(Ls≠[]/\L=Ls/\z1=nth F i)):=fun h=>by have:=HSm.out;rw[decide_eq_false_iff_not]at this;exact this h.2.1
      go_wp2_with(first
       |(go_at_call 176;refine HA.out.mono ?_;rintro e w1 ⟨rfl,nq,rfl⟩))
      go_quiet (fail)
      go_wp2_with(first
       |(at_builtin;refine Am (P:=prog) rfl (.tmp 79) (.tmp 80) 33 rfl w.heap.size 53 i0 _ 4 32 underlying33 hi0 hz0 hz1 hz2 rfl (by decide) (.slice oa nD oc) nD (Ae (rc D)) rfl ?_ (sj gl nL lc) nL (Ae (Ah z0 z1 Ls)) rfl ?_ ?_ (BK _) (by unfold maxLen;omega) (by omega) (by simp;omega) ?_;exact HOx.out.1;exact HNx.out.1;exact HNx.out.2;intro v9 w9 ho9 hg9 hn9 ha9;have HO9:=Aa ho9;have HG9:=Aa hg9;have HN9:=Aa (aK hn9 ha9);obtain⟨ga,gc,hvf⟩:=Al ho9;subst hvf;clear ho9 hg9 hn9 ha9))
      go_roundg g
      case measure=>omega
      case rel=>
       refine⟨i+1,CY O (nth F i,nth F (i+1),L),by go_num,by omega,HR2.out.2.2.2.1,?_⟩;have hx9:=HR2.out.1;rw[HR2.out.2.2.1,<-HY.out.1,<-HY.out.2]at hx9;have ho9:=HX.out.2.1;rw[HND.out.1]at ho9;exact Ik HX.out.2.2.2.2.2 HR2.out.2.1 ho9 hx9 HND.out.1 HND.out.2 HR2.out.2.2.2.2 HX.out.1.upto HX.out.2.2.2.2.1 HNM9.out HO9.out HG9.out (by have:=HN9.out.1;simpa using this) HN9.out.2
     |true=>
      by_cases hzz:z1=Y0
      ·have hLL:Hid (L=Ls):=Aa (by have:=HSm.out;simpa using this);have hzb:(z1==Y0)=true:=by simpa using hzz
       have HZ:Hid (z1=nth F i):=by rw[HY.out.1];exact hzz
       clear hzz
       go_wp2_with(first
        |(go_at_call 176;refine HA.out.mono ?_;rintro e w1 ⟨rfl,nq,rfl⟩))
       go_quiet (fail)
       go_wp2
       go_loopg [13] nL (fun gg s13 wr=>∃k:Nat,s13=vj k/\gg+k=nL/\AF wr w.heap.size (sj gl nL lc) (Ah z0 Y1 (Ls.take k)++Ah z0 z1 (Ls.drop k))/\(∀g,(sj gl nL lc).ownBlock≠some g->wr.heap[g]?=wx.heap[g]?)/\uj w wr)
       case atStart=>
        refine⟨0,rfl,by omega,?_,fun _ _=>rfl,cS (cS (HX.out.2.2.2.2.2.trans (HR2.out.2.1.mono hwo)) _) _⟩;have h9:=HLx.out;rw[HND.out.2]at h9;exact h9
       case round=>
        obtain⟨k,rfl,hgk,hok,hkk,hbk⟩:=hrel;cases gk with
        |zero=>
         have hlt:¬(k:Int)<(nL:Int):=by omega
         have HK:=Aa (aK hok (aK hkk hbk));clear hok hkk hbk;go_wp2
         go_roundg g
         case measure=>omega
         case rel=>
          refine⟨i+1,CY O (nth F i,nth F (i+1),L),by go_num,by omega,HR2.out.2.2.2.1,?_,HK.out.2.2⟩;have hk9:=HK.out.1;have hln:=HLn.out;rw[bw (by omega),List.drop_eq_nil_of_le (by omega),<-HY.out.2]at hk9;have hk8:AF wr w.heap.size (sj gl nL lc) (Ah z0 (nth F (i+1)) Ls):=by
           have e9:Ah z0 (nth F (i+1)) Ls++Ah z0 z1 []=Ah z0 (nth F (i+1)) Ls:=by simp[Ah]
           rw[e9]at hk9;exact hk9
          have ho9:=HX.out.2.1;rw[HND.out.1]at ho9;have hd9:=HX.out.2.2.2.1;rw[HND.out.1,HND.out.2]at hd9;exact RN HR2.out.2.1 ho9 hd9 HX.out.2.2.2.2.1 hls.out hLL.out HZ.out hk8 HK.out.2.1
        |succ g2=>
         have hlt:(k:Int)<(nL:Int):=by omega
         have hkn:k<nL:=by omega
         have hkl:k<Ls.length:=by rw[HLn.out];exact hkn
         have e2k:=HF.out.below hbk (i+1) (by rw[HNM.out.2];omega);rw[HY.out.2]at e2k;obtain⟨zv,hzv⟩:∃v,wr.cell? (jA gl (k*4+3))=some v:=by
          have hlen9:k<(Ah z0 Y1 (Ls.take k)++Ah z0 z1 (Ls.drop k)).length:=by
           rw[aY,Be,Be,bR,cC];omega
          obtain⟨_,_,_,q4⟩:=Cs _ k hlen9;have:=hok.1.cells (g:=gl) rfl _ _ q4;rw[Bn]at this;exact⟨_,this⟩
         have hfz:wr.frozen? (jA gl (k*4+3))=false:=by
          have h8:=hok.1;obtain⟨_,_,e9⟩:=hok.form;injection e9 with _ e9 _;rw[<-e9]at h8;exact CM h8 _
         have HK:=Aa (aK hok (aK hkk hbk));clear hok hkk hbk;go_wp2
         go_roundg g2
         case measure=>omega
         case rel=>
          refine⟨k+1,by go_num,by omega,RM hkl HK.out.1,fun q hq=>?_,HK.out.2.2.setCell hglb _⟩;rw[<-HK.out.2.1 q hq];exact aL wr _ q _ (fun e=>hq (by simp[Value.ownBlock,e]))
      ·have HNM9:Hid (¬(Ls≠[]/\L=Ls/\z1=nth F i)):=fun h=>by have h9:=h.2.2;rw[HY.out.1]at h9;exact hzz h9
       have hzb:(z1==Y0)=false:=by simpa using hzz
       go_wp2_with(first
        |(go_at_call 176;refine HA.out.mono ?_;rintro e w1 ⟨rfl,nq,rfl⟩))
       go_quiet (fail)
       go_wp2_with(first
        |(at_builtin;refine Am (P:=prog) rfl (.tmp 79) (.tmp 80) 33 rfl w.heap.size 53 i0 _ 4 32 underlying33 hi0 hz0 hz1 hz2 rfl (by decide) (.slice oa nD oc) nD (Ae (rc D)) rfl ?_ (sj gl nL lc) nL (Ae (Ah z0 z1 Ls)) rfl ?_ ?_ (BK _) (by unfold maxLen;omega) (by omega) (by simp;omega) ?_;exact HOx.out.1;exact HNx.out.1;exact HNx.out.2;intro v9 w9 ho9 hg9 hn9 ha9;have HO9:=Aa ho9;have HG9:=Aa hg9;have HN9:=Aa (aK hn9 ha9);obtain⟨ga,gc,hvf⟩:=Al ho9;subst hvf;clear ho9 hg9 hn9 ha9))
       go_roundg g
       case measure=>omega
       case rel=>
        refine⟨i+1,CY O (nth F i,nth F (i+1),L),by go_num,by omega,HR2.out.2.2.2.1,?_⟩;have hx9:=HR2.out.1;rw[HR2.out.2.2.1,<-HY.out.1,<-HY.out.2]at hx9;have ho9:=HX.out.2.1;rw[HND.out.1]at ho9;exact Ik HX.out.2.2.2.2.2 HR2.out.2.1 ho9 hx9 HND.out.1 HND.out.2 HR2.out.2.2.2.2 HX.out.1.upto HX.out.2.2.2.2.1 HNM9.out HO9.out HG9.out (by have:=HN9.out.1;simpa using this) HN9.out.2
variable{E2:List Int}
theorem ET.keep(h:ET w base v E)(hk:∀g,v.ownBlock=some g->w'.heap[g]?=w.heap[g]?):ET w' base v E:=by
 obtain⟨⟨h1,h2⟩,h3⟩:=h;refine⟨⟨h1,?_⟩,h3⟩;rcases h2 with h2|⟨g,cap,cur,e1,e2,e3,e4⟩
 ·exact .inl h2
 ·exact .inr ⟨g,cap,cur,e1,e2,by rw[hk g (by rw[e1];rfl)];exact e3,e4⟩
theorem ET.stay(h:ET w base v E)(hb:uj w w'):ET w' base v E:=
 h.keep fun g hg=>hb.block g (h.1.lt g hg).2
theorem ET.form(h:ET w base v E):∃a c,v=.slice a E.length c:=by
 rcases h.1.2 with⟨h,h0⟩|⟨g,cap,cur,h,_⟩
 ·exact⟨none,0,by rw[h,h0]⟩
 ·exact⟨_,_,h⟩
def XQ(E E2:List Int)(x z:Int):Prop:=E2.Pairwise (· < ·)/\(∀y,y∈E2↔y∈E\/y=x\/y=z)/\E2.length<=E.length+2/\E2≠[]
theorem ZQ{E1:List Int}{x z:Int}(h1:DA E E1 x)(h2:DA E1 E2 z):XQ E E2 x z:=
 ⟨h2.1,fun y=>by rw[h2.2.1,h1.2.1,or_assoc],by have:=h1.2.2.1;have:=h2.2.2.1;omega,h2.2.2.2⟩
structure S0(l:List (Int×Int×Int×Int))(i:Nat)(E F:List Int):Prop where
 e:E.Pairwise (· < ·)
 f:F.Pairwise (· < ·)
 at':I8 E F (l.take i)
 be:∀x∈E, -2000<=x/\x<=2000
 bf:∀x∈F, -2000<=x/\x<=2000
 le:E.length<=2*i
 lf:F.length<=2*i
 ne:0<i->E≠[]/\F≠[]
theorem QJ(l:List (Int×Int×Int×Int)):S0 l 0 [] []:=
 ⟨List.Pairwise.nil,List.Pairwise.nil,fun r hr=>by simp at hr,fun x hx=>by simp at hx,fun x hx=>by simp at hx,by simp,by simp,fun h=>by omega⟩
theorem Si{l:List (Int×Int×Int×Int)}{i:Nat}{F2:List Int}{a b c d:Int}(h:S0 l i E F)(hi:i<l.length)(hr:l.getD i (0,0,0,0)=(a,b,c,d))(hf:l.all AU=true)(h1:XQ E E2 a c)(h2:XQ F F2 b d):S0 l (i+1) E2 F2:=by
 have hli:l[i]=(a,b,c,d):=by rw[<-hr,bu,aU hi];rfl
 have hfi:=cG.1 hf _ (aZ hi);rw[hli]at hfi;unfold AU at hfi;rw[bT]at hfi;simp only at hfi;refine⟨h1.1,h2.1,fun r hr=>?_,fun x hx=>?_,fun x hx=>?_,by have:=h1.2.2.1;have:=h.le;omega,by have:=h2.2.2.1;have:=h.lf;omega,fun _=>⟨h1.2.2.2,h2.2.2.2⟩⟩
 ·rw[bn hi,bV,List.mem_singleton,hli]at hr;rw[h1.2.1,h1.2.1,h2.2.1,h2.2.1];rcases hr with hr|hr
  ·obtain⟨q1,q2,q3,q4⟩:=h.at' r hr;exact⟨.inl q1,.inl q2,.inl q3,.inl q4⟩
  ·subst hr;exact⟨.inr (.inl rfl),.inr (.inr rfl),.inr (.inl rfl),.inr (.inr rfl)⟩
 ·rw[h1.2.1]at hx;rcases hx with hx|hx|hx
  ·exact h.be x hx
  ·omega
  ·omega
 ·rw[h2.2.1]at hx;rcases hx with hx|hx|hx
  ·exact h.bf x hx
  ·omega
  ·omega
theorem Ke{la lb:List (Int×Int×Int×Int)}(h:I8 E F (la++lb)):I8 E F la/\I8 E F lb:=
 ⟨fun r hr=>h r (List.mem_append_left _ hr),fun r hr=>h r (List.mem_append_right _ hr)⟩
def S1(v:Value)(l:List (Int×Int×Int×Int)):Prop:=l=[]->v=jj\/∃ad c,v=.slice (some ad) 0 c
theorem JJ(kind:Int)(la lb:List (Int×Int×Int×Int))(va vb:Value)(w:World)(ha:As w va la)(hb:As w vb lb)(hk:¬(0<=kind/\kind<=3)):
  Calls prog 84 #[vj kind,va,vb] w (D3 kind la lb w):=by
 have HA:Hid (D3 kind la lb w (.returned (.tuple #[jj,vj 1])) w):=⟨aN _ _,_,_,rfl,.inl ⟨hk,rfl,rfl⟩⟩;obtain⟨aa,ca,rfl⟩:=ha.form;obtain⟨ab,cb,rfl⟩:=hb.form;clear ha hb;by_cases h0:kind<0
 ·clear hk;go_enter func84,ntmps84
  go_wp2
  go_ret2
  exact HA.out
 ·have h3:3<kind:=by omega
  clear hk;go_enter func84,ntmps84
  go_wp2
  go_ret2
  exact HA.out
theorem Kl(kind:Int)(la lb:List (Int×Int×Int×Int))(va vb:Value)(w:World)(ha:As w va la)(hb:As w vb lb)(hla:la.length<=maxLen)(hlb:lb.length<=maxLen)(hk:0<=kind/\kind<=3)(hm:20<la.length\/20<lb.length):
  Calls prog 84 #[vj kind,va,vb] w (D3 kind la lb w):=by
 have he:Hy la lb=2:=by unfold Hy;rw[if_pos hm]
 have HA:Hid (D3 kind la lb w (.returned (.tuple #[jj,vj 2])) w):=⟨aN _ _,_,_,rfl,.inr (.inl ⟨hk,by rw[he];decide,rfl,he.symm⟩)⟩;obtain⟨aa,ca,rfl⟩:=ha.form;obtain⟨ab,cb,rfl⟩:=hb.form;obtain⟨na,hna⟩:∃n,la.length=n:=⟨_,rfl⟩;obtain⟨nb,hnb⟩:∃n,lb.length=n:=⟨_,rfl⟩;rw[hna]at hm hla;rw[hnb]at hm hlb;rw[hna,hnb];unfold maxLen at hla hlb;clear ha hb he hna hnb;have k0:¬kind<0:=by omega
 have k3:¬3<kind:=by omega
 clear hk;by_cases h1:(20:Int)<(na:Int)
 ·go_enter func84,ntmps84
  go_wp2
  go_ret2
  exact HA.out
 ·have h2:(20:Int)<(nb:Int):=by omega
  go_enter func84,ntmps84
  go_wp2
  go_ret2
  exact HA.out
theorem Km(kind:Int)(la lb:List (Int×Int×Int×Int))(va vb:Value)(w:World)(ha:As w va la)(hb:As w vb lb)(hla:la.length<=20)(hlb:lb.length<=20)(hk:0<=kind/\kind<=3)(hm:¬(la.all AU=true/\lb.all AU=true)):
  Calls prog 84 #[vj kind,va,vb] w (D3 kind la lb w):=by
 have he:Hy la lb=3:=by unfold Hy;rw[if_neg (by omega),if_neg hm]
 have HA:Hid (∀w',uj w w'->D3 kind la lb w (.returned (.tuple #[jj,vj 3])) w'):=fun w' h=>⟨h,_,_,rfl,.inr (.inl ⟨hk,by rw[he];decide,rfl,he.symm⟩)⟩;have hca:Calls prog 120 #[va] w fun e w'=>e=.returned (vj (if la.all AU=true then 0 else 3))/\uj w w':=Er la va w ha (by unfold maxLen;omega);have hcb:∀W,uj w W->Calls prog 120 #[vb] W fun e w'=>e=.returned (vj (if lb.all AU=true then 0 else 3))/\uj W w':=fun W hW=>Er lb vb W (hb.below hW) (by unfold maxLen;omega);obtain⟨ea,hea⟩:∃x:Int,(if la.all AU=true then 0 else 3)=x:=⟨_,rfl⟩;obtain⟨eb,heb⟩:∃x:Int,(if lb.all AU=true then 0 else 3)=x:=⟨_,rfl⟩;rw[hea]at hca;rw[heb]at hcb;have hor:(ea != 0)=true\/((ea != 0)=false/\(eb != 0)=true):=by
  rw[<-hea,<-heb];by_cases h1:la.all AU=true
  ·by_cases h2:lb.all AU=true
   ·exact absurd ⟨h1,h2⟩ hm
   ·right;simp[h1,h2]
  ·left;simp[h1]
 obtain⟨aa,ca,rfl⟩:=ha.form;obtain⟨ab,cb,rfl⟩:=hb.form;obtain⟨na,hna⟩:∃n,la.length=n:=⟨_,rfl⟩;obtain⟨nb,hnb⟩:∃n,lb.length=n:=⟨_,rfl⟩;rw[hna]at hla hca;rw[hnb]at hlb hcb;rw[hna,hnb];clear ha hb he hna hnb hea heb hm;have k0:¬kind<0:=by omega
 have k3:¬3<kind:=by omega
 have n1:¬(20:Int)<(na:Int):=by omega
 have n2:¬(20:Int)<(nb:Int):=by omega
 clear hk;rcases hor with h1|⟨h1,h2⟩
 ·go_enter func84,ntmps84
  go_wp2_with(first
   |(go_at_call_of 120 (Value.slice aa na ca);refine hca.mono ?_;rintro e w1 ⟨rfl,hb1⟩;have HB1:=Aa hb1;clear hb1)
   |(go_at_call_of 120 (Value.slice ab nb cb);refine(hcb _ HB1.out).mono ?_;rintro e w2 ⟨rfl,hb2⟩;have HB2:=Aa hb2;clear hb2))
  go_ret2
  exact HA.out _ (HB1.out.trans (HB2.out.mono HB1.out.size))
 ·go_enter func84,ntmps84
  go_wp2_with(first
   |(go_at_call_of 120 (Value.slice aa na ca);refine hca.mono ?_;rintro e w1 ⟨rfl,hb1⟩;have HB1:=Aa hb1;clear hb1)
   |(go_at_call_of 120 (Value.slice ab nb cb);refine(hcb _ HB1.out).mono ?_;rintro e w2 ⟨rfl,hb2⟩;have HB2:=Aa hb2;clear hb2))
  go_ret2
  exact HA.out _ (HB1.out.trans (HB2.out.mono HB1.out.size))
theorem Gt:(prog.info? 4).map (fun i=>(i.zero,i.size,i.bytes))=some (some (.bool false),1,1):=by kernel_rfl
theorem Mh.low{w:World}{base base':Nat}{v:Value}{I:List Bool}(h:Mh w base v I)(hb:base'<=base):Mh w base' v I:=⟨⟨h.1.1,h.1.2.imp id fun⟨g,c,cur,e1,e2,e3⟩=>⟨g,c,cur,e1,bh hb e2,e3⟩⟩,h.2⟩
theorem Wk{w4:World}{base na nb:Nat}{v3 v4:Value}{la lb:List (Int×Int×Int×Int)}(hna:la.length=na)(hnb:lb.length=nb)(ho:w4.ownsRow base 53 4 v4 (0+na+nb) ([]++Ae la++Ae lb))(h3:v3=jj↔na=0)(h4:v4=jj↔v3=jj/\nb=0):AF w4 base v4 (la++lb):=by
 refine⟨?_,fun h=>?_⟩
 ·rw[aY,hna,hnb,AD];rw[Nat.zero_add,List.nil_append]at ho;exact ho
 ·have h2:=List.append_eq_nil_iff.1 h;rw[h4,h3];exact⟨by rw[<-hna,h2.1];rfl,by rw[<-hnb,h2.2];rfl⟩
theorem Kn(kind:Int)(la lb:List (Int×Int×Int×Int))(va vb:Value)(w:World)(ha:As w va la)(hb:As w vb lb)(na':S1 va la)(nb':S1 vb lb)(hla:la.length<=20)(hlb:lb.length<=20)(hk:0<=kind/\kind<=3)(hfa:la.all AU=true)(hfb:lb.all AU=true):
  Calls prog 84 #[vj kind,va,vb] w (D3 kind la lb w):=by
 have he:Hy la lb=0:=by unfold Hy;rw[if_neg (by omega),if_pos ⟨hfa,hfb⟩]
 have HAns:Hid (∀v w' O,uj w w'->AF w' w.heap.size v (rc O)->AL O->(∀x y,Ay O x y=keepB kind (AE la x y) (AE lb x y))->D3 kind la lb w (.returned (.tuple #[v,vj 0])) w'):=fun v w' O h1 h2 h3 h4=>⟨h1,_,_,rfl,.inr (.inr ⟨hk,he,rfl,O,h2,h3,h4⟩)⟩;have hca:Calls prog 120 #[va] w fun e w'=>e=.returned (vj (if la.all AU=true then 0 else 3))/\uj w w':=Er la va w ha (by unfold maxLen;omega);have hcb:∀W,uj w W->Calls prog 120 #[vb] W fun e w'=>e=.returned (vj (if lb.all AU=true then 0 else 3))/\uj W w':=fun W hW=>Er lb vb W (hb.below hW) (by unfold maxLen;omega);rw[if_pos hfa]at hca;rw[if_pos hfb]at hcb;obtain⟨i0,hi0,hz0,hz1,hz2⟩:=cW C8;have HNA:Hid (∀W,uj w W->(va=jj/\la.length=0)\/∃ad c,va=.slice (some ad) la.length c/\∀j u,(Ae la)[j]?=some u->W.cell? (ad.add j)=some u):=fun W hW=>DL (ha.below hW) na';have HNB:Hid (∀W,uj w W->(vb=jj/\lb.length=0)\/∃ad c,vb=.slice (some ad) lb.length c/\∀j u,(Ae lb)[j]?=some u->W.cell? (ad.add j)=some u):=fun W hW=>DL (hb.below hW) nb';have HF:=Aa (aK hfa hfb);have HAB:=Aa (aK ha hb);obtain⟨aa,ca,rfl⟩:=ha.form;obtain⟨ab,cb,rfl⟩:=hb.form;obtain⟨na,hna⟩:∃n,la.length=n:=⟨_,rfl⟩;obtain⟨nb,hnb⟩:∃n,lb.length=n:=⟨_,rfl⟩;rw[hna]at hla hca HNA;rw[hnb]at hlb hcb HNB;rw[hna,hnb]at HAB;rw[hna,hnb];have HN:=Aa (aK hna hnb);clear ha hb na' nb' he hna hnb hfa hfb;have k0:¬kind<0:=by omega
 have k3:¬3<kind:=by omega
 have n1:¬(20:Int)<(na:Int):=by omega
 have n2:¬(20:Int)<(nb:Int):=by omega
 clear hk;go_enter func84,ntmps84
 go_wp2_with(first
  |(go_at_call_of 120 (Value.slice aa na ca);refine hca.mono ?_;rintro e w1 ⟨rfl,hb1⟩;have HB1:=Aa hb1;have hs1:=hb1.size;clear hb1)
  |(go_at_call_of 120 (Value.slice ab nb cb);refine(hcb _ HB1.out).mono ?_;rintro e w2 ⟨rfl,hb2⟩;have HB2:=Aa (HB1.out.trans (hb2.mono HB1.out.size));have hs2:w.heap.size<=w2.heap.size:=(HB1.out.trans (hb2.mono HB1.out.size)).size;clear hb2)
  |(at_builtin;refine Am (P:=prog) rfl (.tmp 45) (.tmp 46) 33 rfl w.heap.size 53 i0 _ 4 32 underlying33 hi0 hz0 hz1 hz2 rfl (by decide) (jj) 0 [] rfl ?_ (.slice aa na ca) na (Ae la) rfl ?_ ?_ (BK _) (by unfold maxLen;omega) (by omega) hs2 ?_;exact bA _ _ _ _;(rw[AT,HN.out.1]);exact HNA.out _ HB2.out;intro v3 w3 ho3 hg3 hn3 ha3;have HB3:=Aa (HB2.out.grown hg3 hs2 (fun k hk=>by simp[Value.ownBlock]at hk));have hs3:w.heap.size<=w3.heap.size:=HB3.out.size;have HO3:=Aa (aK ho3 hn3);clear ho3 hg3 hn3 ha3)
  |(at_builtin;refine Am (P:=prog) rfl (.tmp 48) (.tmp 49) 33 rfl w.heap.size 53 i0 _ 4 32 underlying33 hi0 hz0 hz1 hz2 rfl (by decide) v3 (0+na) ([]++Ae la) rfl ?_ (.slice ab nb cb) nb (Ae lb) rfl ?_ ?_ (BK _) (by unfold maxLen;omega) (by omega) hs3 ?_;exact HO3.out.1;(rw[AT,HN.out.2]);exact HNB.out _ HB3.out;intro v4 w4 ho4 hg4 hn4 ha4;have HB4:=Aa (HB3.out.grown hg4 hs3 (fun k hk=>(HO3.out.1.lt k hk).1));have hs4:w.heap.size<=w4.heap.size:=HB4.out.size;have ho4r:=Wk HN.out.1 HN.out.2 ho4 (by have:=HO3.out.2;simpa using this) hn4;obtain⟨N,hN⟩:∃n,0+na+nb=n:=⟨_,rfl⟩;rw[hN]at ho4;have hN2:na+nb=N:=(by omega);obtain⟨ga,gc,hvf⟩:=Al ho4;subst hvf;have HO4:=Aa ho4r;clear ho4 hg4 hn4 ha4 ho4r hN))
 go_loopg [11,12,13] N (fun g s11 s12 s13 wr=>∃(i:Nat) (E F:List Int),s13=vj i/\g+i=N/\ET wr w4.heap.size s11 E/\ET wr w4.heap.size s12 F/\S0 (la++lb) i E F/\uj w4 wr)
 case atStart=>exact⟨0,[],[],rfl,by omega,⟨bA _ _ _ _,fun _=>rfl⟩,⟨bA _ _ _ _,fun _=>rfl⟩,QJ _,aN _ _⟩
 case round=>
  rename World=>wo;rename Nat=>gO;obtain⟨i,E,F,rfl,hgi,hE,hF,hEd,hbel⟩:=hrel;obtain⟨ea,ec,hfe⟩:=hE.form;obtain⟨fa,fc,hff⟩:=hF.form;obtain⟨nE,hnE⟩:∃n,E.length=n:=⟨_,rfl⟩;obtain⟨nF,hnF⟩:∃n,F.length=n:=⟨_,rfl⟩;rw[hnE]at hfe;rw[hnF]at hff;subst hfe hff;have HNE:=Aa (aK hnE hnF);have hle:=hEd.le;have hlf:=hEd.lf;rw[hnE]at hle;rw[hnF]at hlf;have hlen:(la++lb).length=N:=by rw[aY,HN.out.1,HN.out.2];exact hN2
  have HLen:=Aa hlen;clear hnE hnF hlen;cases gO with
  |zero=>
   have hlt:¬(i:Int)<(N:Int):=by omega
   have hiN:i=N:=by omega
   by_cases hN0:N=0
   ·
    have hnE0:nE=0:=by omega
    have hz:la=[]/\lb=[]:=⟨List.length_eq_zero_iff.mp (by rw[HN.out.1];omega),List.length_eq_zero_iff.mp (by rw[HN.out.2];omega)⟩;have HK:=Aa (aK hz hbel);clear hz hE hF hEd hbel hiN;subst hnE0;go_wp2
    go_ret2
    refine HAns.out _ _ [] (HB4.out.trans (HK.out.2.mono hs4)) ⟨bA _ _ _ _,fun _=>rfl⟩ C7 fun x y=>?_;rw[HK.out.1.1,HK.out.1.2];exact(Cf kind).symm
   ·
    obtain⟨neE,neF⟩:=hEd.ne (by omega);obtain⟨gx,cx,hvx,hIx⟩:=hE.ints neE;obtain⟨gy,cy,hvy,hIy⟩:=hF.ints neF;injection hvx with hx1 hx2 hx3;injection hvy with hy1 hy2 hy3;clear hx2 hy2;subst hx1 hx3 hy1 hy3;have hpE:0<nE:=by
     rw[<-HNE.out.1];exact List.length_pos_iff.2 neE
    have hpF:0<nF:=by
     rw[<-HNE.out.2];exact List.length_pos_iff.2 neF
    obtain⟨n,hn⟩:∃n,nE=n+1:=⟨nE-1,by omega⟩;obtain⟨m,hm⟩:∃m,nF=m+1:=⟨nF-1,by omega⟩;subst hn hm;have hedg:I8 E F (la++lb):=by
     have:=hEd.at';rw[bw (by rw[HLen.out];omega)]at this;exact this
    have hin:uj w wo:=HB4.out.trans (hbel.mono hs4);have hHa:∀W x y,uj wo W->Calls prog 122 #[.slice aa na ca,vj x,vj y] W fun e w'=>e=.returned (.bool (AE la x y))/\w'=W:=fun W x y hW=>DK la _ x y W ((HAB.out.1.below hin).below hW) (by rw[HN.out.1];unfold maxLen;omega);have hHb:∀W x y,uj wo W->Calls prog 122 #[.slice ab nb cb,vj x,vj y] W fun e w'=>e=.returned (.bool (AE lb x y))/\w'=W:=fun W x y hW=>DK lb _ x y W ((HAB.out.2.below hin).below hW) (by rw[HN.out.2];unfold maxLen;omega);have hP:∀W v,uj wo W->Mh W wo.heap.size v (Dg kind la lb E F m)->Calls prog 124 #[sj gx (n+1) ec,sj gy (m+1) fc,v] W (MW E F (Dg kind la lb E F m) W):=by
     intro W v hW hv;have:=Lu E F (Dg kind la lb E F m) gx ec gy fc v W (hIx.below hW) (hIy.below hW) (hv.low (cB _)) hEd.e hEd.f hEd.be hEd.bf (by rw[HNE.out.1];omega) (by rw[HNE.out.2];omega) (by rw[HNE.out.1];omega) (by rw[HNE.out.2];omega) (by rw[Hc,HNE.out.2];rfl);rw[HNE.out.1,HNE.out.2]at this;exact this
    have HM:Hid (∀O,EE E F (Dg kind la lb E F m) m O->∀x y,Ay O x y=keepB kind (AE la x y) (AE lb x y)):=by
     intro O hO x y;have hml:F.length-1=m:=by rw[HNE.out.2];rfl
     have h1:=Lr (O:=O) (I:=Dg kind la lb E F m) hEd.f (by rw[hml];exact hO) x y;have h2:=XP kind hEd.e hEd.f (Ke hedg).1 (Ke hedg).2 (by rw[HNE.out.1];omega) (by rw[HNE.out.2];omega) x y;rw[hml]at h2;rw[h1,h2]
    obtain⟨j0,hj0,hy0,hy1,hy2⟩:=cW Gt;have HI:=Aa (aK hIx (aK hIy hin));have hsw:=hbel.size;clear hE hF hEd hbel hiN neE neF hedg hin hIx hIy hpE hpF;go_wp2
    go_loopg [14,15] m (fun g s14 s15 w2=>∃i2:Nat,s15=vj i2/\g+i2=m/\Mh w2 wo.heap.size s14 (Dg kind la lb E F i2)/\uj wo w2)
    case atStart=>exact⟨0,rfl,by omega,⟨bA _ _ _ _,fun _=>rfl⟩,aN _ _⟩
    case round=>
     rename World=>wq;rename Nat=>gQ;obtain⟨i2,rfl,hgi2,hI2,hb2⟩:=hrel;cases gQ with
     |zero=>
      have hlt2:¬(i2:Int)+1<((m+1:Nat):Int):=by omega
      have hi2:i2=m:=by omega
      subst hi2;have HQ:=Aa (aK hI2 hb2);have hsq:=hb2.size;clear hI2 hb2
      go_wp2_with(first
       |(go_at_call 124;refine(hP _ _ HQ.out.2 HQ.out.1).mono ?_;rintro e w7 ⟨u7,O7,rfl,hu7,hG7,hb7⟩;have H7:=Aa (aK hu7 (aK hG7 hb7));clear hu7 hG7 hb7))
      go_ret2
      have hml:F.length-1=i2:=by rw[HNE.out.2];rfl
      have hG:=H7.out.2.1;rw[hml]at hG;have hbq:uj w wq:=HI.out.2.2.trans (HQ.out.2.mono HI.out.2.2.size);exact HAns.out _ _ O7 (hbq.trans (H7.out.2.2.mono hbq.size)) (H7.out.1.low hbq.size) hG.good (HM.out O7 hG)
     |succ g=>
      have hlt2:(i2:Int)+1<((m+1:Nat):Int):=by omega
      have hi2m:i2<m:=by omega
      have HQ:=Aa (aK hI2 hb2);clear hI2 hb2;go_wp2
      go_loopg [14,16] n (fun gg s14 s16 w3=>∃k:Nat,s16=vj k/\gg+k=n/\Mh w3 wo.heap.size s14 (Dg kind la lb E F i2++FV kind la lb E (nth F i2) k)/\uj wo w3)
      case atStart=>
       refine⟨0,rfl,by omega,?_,HQ.out.2⟩;have e9:Dg kind la lb E F i2++FV kind la lb E (nth F i2) 0=Dg kind la lb E F i2:=by simp[FV]
       rw[e9];exact HQ.out.1
      case round=>
       obtain⟨k,rfl,hgk,hI3,hb3⟩:=hrel;cases gk with
       |zero=>
        have hlt3:¬(k:Int)+1<((n+1:Nat):Int):=by omega
        have hkn:k=n:=by omega
        have HK:=Aa (aK hI3 (aK hb3 hkn));clear hI3 hb3 hkn;go_wp2
        go_roundg g
        case measure=>omega
        case rel=>
         refine⟨i2+1,by go_num,by omega,?_,HK.out.2.1⟩;rw[Io,HNE.out.1];have h9:=HK.out.1;rw[HK.out.2.2]at h9;exact h9
       |succ g3=>
        have hlt3:(k:Int)+1<((n+1:Nat):Int):=by omega
        have hkn:k<n:=by omega
        have e1:=HI.out.1.below hb3 k (by rw[HNE.out.1];omega);have e2:=HI.out.2.1.below hb3 i2 (by rw[HNE.out.2];omega);obtain⟨X,hX⟩:∃x,nth E k=x:=⟨_,rfl⟩;obtain⟨Y,hY⟩:∃x,nth F i2=x:=⟨_,rfl⟩;rw[hX]at e1;rw[hY]at e2;obtain⟨la3,lc3,hf3⟩:=Al hI3.1;obtain⟨nI,hnI⟩:∃q,(Dg kind la lb E F i2++FV kind la lb E (nth F i2) k).length=q:=⟨_,rfl⟩;have hnIb:nI<=10000:=by
         rw[<-hnI,aY,Hc,EF,HNE.out.1];have:=cI (show i2<=90 by omega) (show n+1-1<=90 by omega);omega
        rw[hnI]at hf3;subst hf3;have ho3:=hI3.1;rw[hnI]at ho3;have hs3:=hb3.size;have HK:=Aa (aK ho3 (aK hb3 (aK hnI (aK hX hY))));clear hI3 hb3 hnI hX hY ho3;have hk0c:(0:Int)<=(k:Int):=by omega
        have hi0c:(0:Int)<=(i2:Int):=by omega
        have hk1c:(k:Int)<((n:Int)+1):=by omega
        have hi1c:(i2:Int)<((m:Int)+1):=by omega
        have hk2c:k<n+1:=by omega
        have hi2c:i2<m+1:=by omega
        go_wp2;go_quiet ((go_at_call 122;exact Calls.quiet_of_same (hHa _ X Y (cS HK.out.2.1 _))))
        go_wp2;have ho4:(wr.drewN nq).ownsRow wo.heap.size 4 1 (.slice la3 nI lc3) nI ((Dg kind la lb E F i2++FV kind la lb E (nth F i2) k).map Value.bool):=HK.out.1;have HK2:=Aa (aK ho4 (cS HK.out.2.1 nq));have e1z:(wr.drewN nq).cell? (jA gx k)=some (vj X):=e1;have e2z:(wr.drewN nq).cell? (jA gy i2)=some (vj Y):=e2;have hs4z:wo.heap.size<=(wr.drewN nq).heap.size:=hs3;clear ho4 e1 e2;generalize wr.drewN nq=wz at HK2 e1z e2z hs4z ⊢;go_quiet ((go_at_call 122;exact Calls.quiet_of_same (hHb _ X Y (cS HK2.out.2 _))))
        go_wp2_with(first
         |(go_at_call 123;refine(UV kind _ _ _).mono ?_;rintro e w8 ⟨rfl,hw8⟩;replace hw8:=hw8.symm;subst hw8)
         |(at_builtin;refine wpList_append_lies _ rfl (.tmp 124) (.tmp 126) 154 rfl wo.heap.size 4 j0 (.bool false) 1 1 underlying154 hj0 hy0 hy1 hy2 rfl (by decide) (.slice la3 nI lc3) nI ((Dg kind la lb E F i2++FV kind la lb E (nth F i2) k).map Value.bool) rfl (World.ownsRow.alloc (w:=wz.drewN nq) HK2.out.1 _) (jA wz.heap.size 0) 1 1 [.bool (keepB kind (AE la X Y) (AE lb X Y))] rfl rfl (bI (cs:=#[.bool (keepB kind (AE la X Y) (AE lb X Y))]) (t:=4) (fr:=(0,0)) (aR (wz.drewN nq) _)) (by simp[Value.oneCell']) (by omega) (by unfold maxLen;omega) (by omega) (by simp;omega) _ rfl ?_;intro g9 c9 w9 ho9 hg9 ha9 hl9;have HO9:=Aa ho9;have HG9:=Aa hg9;clear ho9 hg9 ha9 hl9))
        go_roundg g3
        case measure=>omega
        case rel=>
         refine⟨k+1,by go_num,by omega,⟨?_,fun h=>?_⟩,?_⟩
         ·rw[Ng,<-List.append_assoc,aY,HK.out.2.2.1,cL,HK.out.2.2.2.1,HK.out.2.2.2.2];have h9:=HO9.out;rw[HK.out.2.2.2.2]at h9;exact h9
         ·rw[Ng]at h;simp at h
         ·exact((cS HK2.out.2 nq).alloc hs4z _).grown HG9.out (by simp;omega) fun q hq=>(HK2.out.1.lt q hq).1
  |succ g=>
   have hlt:(i:Int)<(N:Int):=by omega
   have hiN:i<N:=by omega
   have hi0c:(0:Int)<=(i:Int):=by omega
   have hil:i<(la++lb).length:=by rw[HLen.out];exact hiN
   have hrr:=HO4.out.rects.below hbel;obtain⟨ab2,ao,ac2,e9,c1,c2,c3,c4⟩:=hrr.at i hil;injection e9 with e91 e92 e93;clear e92;subst e91 e93;obtain⟨⟨a0,b0,c0,d0⟩,hr⟩:∃r,(la++lb).getD i (0,0,0,0)=r:=⟨_,rfl⟩;rw[hr]at c1 c2 c3 c4;simp only at c1 c2 c3 c4;have HCL:Hid (∀W,uj wo W->(W.cell? (jA ab2 (ao+i*4))=some (vj a0)/\W.cell? (jA ab2 (ao+i*4+2))=some (vj c0))/\W.cell? (jA ab2 (ao+i*4+1))=some (vj b0)/\W.cell? (jA ab2 (ao+i*4+3))=some (vj d0)):=fun W hW=>
    ⟨⟨(hW.cell (p:=(jA ab2 (ao+i*4))) (Ak c1)).trans c1,(hW.cell (p:=(jA ab2 (ao+i*4+2))) (Ak c3)).trans c3⟩,(hW.cell (p:=(jA ab2 (ao+i*4+1))) (Ak c2)).trans c2,(hW.cell (p:=(jA ab2 (ao+i*4+3))) (Ak c4)).trans c4⟩
   have hwo:=hbel.size;have hC1:∀W,uj wo W->Calls prog 121 #[.slice ea nE ec,vj a0] W (EC w4.heap.size E a0 W):=fun W hW=>IT E _ a0 _ W (hE.stay hW) hEd.e (by rw[HNE.out.1];omega) (by have:=hW.size;omega);have hC2:∀W u E1,ET W w4.heap.size u E1->DA E E1 a0->w4.heap.size<=W.heap.size->Calls prog 121 #[u,vj c0] W (EC w4.heap.size E1 c0 W):=fun W u E1 h1 h2 h3=>IT E1 u c0 _ W h1 h2.1 (by have:=h2.2.2.1;rw[HNE.out.1]at this;omega) h3;have hD1:∀W,uj wo W->Calls prog 121 #[.slice fa nF fc,vj b0] W (EC w4.heap.size F b0 W):=fun W hW=>IT F _ b0 _ W (hF.stay hW) hEd.f (by rw[HNE.out.2];omega) (by have:=hW.size;omega);have hD2:∀W u F1,ET W w4.heap.size u F1->DA F F1 b0->w4.heap.size<=W.heap.size->Calls prog 121 #[u,vj d0] W (EC w4.heap.size F1 d0 W):=fun W u F1 h1 h2 h3=>IT F1 u d0 _ W h1 h2.1 (by have:=h2.2.2.1;rw[HNE.out.2]at this;omega) h3;have HX:=Aa (aK hE (aK hF (aK hEd (aK hbel hr))));clear hE hF hEd hbel hr hrr c2 c4
   go_upto_region 17 with fail
   go_cut [11] (fun s11 wx=>∃E2,ET wx w4.heap.size s11 E2/\XQ E E2 a0 c0/\uj wo wx)
   case first=>
    go_region_held3 (fun w'=>w'.cell? (jA ab2 (ao+i*4))=some (vj a0)/\w'.cell? (jA ab2 (ao+i*4+2))=some (vj c0))
     (first
      |go_keep
      |(go_split_ands
        refine⟨?_,?_⟩<;>assumption))
     (first
      |(go_at_call_of 121 (Value.slice ea nE ec);refine(hC1 _ ?_).mono ?_;exact(aN _ _).drew;rintro e w5 ⟨u5,E5,rfl,hu5,hw5,hb5⟩;obtain⟨p1,p2⟩:=(HCL.out w5 (((aN _ wo).drew).trans hb5)).1;have H5:=Aa (aK hu5 (aK hw5 (((aN _ wo).drew).trans hb5)));have hs5:wo.heap.size<=w5.heap.size:=hb5.size;clear hu5 hw5 hb5)
      |(go_at_call 121;refine(hC2 _ _ _ H5.out.1 H5.out.2.1 ?_).mono ?_;omega;rintro e w6 ⟨u6,E6,rfl,hu6,hw6,hb6⟩;obtain⟨p3,p4⟩:=(HCL.out w6 (H5.out.2.2.trans (hb6.mono hs5))).1;have H6:=Aa (aK hu6 (aK (ZQ H5.out.2.1 hw6) (H5.out.2.2.trans (hb6.mono hs5))));clear hu6 hw6 hb6)
      |fail)
    all_goals go_wp2_with fail
    all_goals go_meet
    all_goals exact⟨_,H6.out.1,H6.out.2.1,H6.out.2.2⟩
   case rest=>
    obtain⟨E2,hE2,hW2,hbx⟩:=hcut;rename World=>wx;obtain⟨ea2,ec2,hfe⟩:=hE2.form;obtain⟨nE2,hnE2⟩:∃n,E2.length=n:=⟨_,rfl⟩;rw[hnE2]at hfe;subst hfe;have hsx:=hbx.size;have HY:=Aa (aK hE2 (aK hW2 (aK hbx hnE2)));obtain⟨⟨_,_⟩,c2,c4⟩:=HCL.out wx hbx;clear hE2 hW2 hbx hnE2 c1 c3 hC1 hC2
    go_upto_region 18 with fail
    go_region_held3 (fun w'=>w'.cell? (jA ab2 (ao+i*4+1))=some (vj b0)/\w'.cell? (jA ab2 (ao+i*4+3))=some (vj d0))
     (first
      |go_keep
      |(go_split_ands
        refine⟨?_,?_⟩<;>assumption))
     (first
      |(go_at_call_of 121 (Value.slice fa nF fc);refine(hD1 _ ?_).mono ?_;exact HY.out.2.2.1.drew;rintro e w5 ⟨u5,F5,rfl,hu5,hw5,hb5⟩;obtain⟨p1,p2⟩:=(HCL.out w5 (HY.out.2.2.1.drew.trans (hb5.mono hsx))).2;have H5:=Aa (aK hu5 (aK hw5 (((aN _ wx).drew).trans hb5)));have hs5:wx.heap.size<=w5.heap.size:=hb5.size;clear hu5 hw5 hb5)
      |(go_at_call 121;refine(hD2 _ _ _ H5.out.1 H5.out.2.1 ?_).mono ?_;omega;rintro e w6 ⟨u6,F6,rfl,hu6,hw6,hb6⟩;obtain⟨p3,p4⟩:=(HCL.out w6 (HY.out.2.2.1.trans ((H5.out.2.2.trans (hb6.mono hs5)).mono hsx))).2;have H6:=Aa (aK hu6 (aK (ZQ H5.out.2.1 hw6) (H5.out.2.2.trans (hb6.mono hs5))));clear hu6 hw6 hb6)
      |fail)
    all_goals
     go_wp2
     go_roundg g
     case measure=>omega
     case rel=>
      have hfab:(la++lb).all AU=true:=by rw[List.all_append,HF.out.1,HF.out.2];rfl
      refine⟨i+1,E2,_,by go_num,by omega,?_,H6.out.1,Si HX.out.2.2.1 hil HX.out.2.2.2.2 hfab HY.out.2.1 H6.out.2.1,?_⟩
      ·exact HY.out.1.stay H6.out.2.2
      ·exact HX.out.2.2.2.1.trans ((HY.out.2.2.1.trans (H6.out.2.2.mono hsx)).mono hwo)
theorem Wl(kind:Int)(la lb:List (Int×Int×Int×Int))(va vb:Value)(w:World)(ha:As w va la)(hb:As w vb lb)(na:S1 va la)(nb:S1 vb lb)(hla:la.length<=maxLen)(hlb:lb.length<=maxLen):
  Calls prog 84 #[vj kind,va,vb] w (D3 kind la lb w):=by
 by_cases hk:0<=kind/\kind<=3
 ·by_cases hm:20<la.length\/20<lb.length
  ·exact Kl kind la lb va vb w ha hb hla hlb hk hm
  ·by_cases hf:la.all AU=true/\lb.all AU=true
   ·exact Kn kind la lb va vb w ha hb na nb (by omega) (by omega) hk hf.1 hf.2
   ·exact Km kind la lb va vb w ha hb (by omega) (by omega) hk hf
 ·exact JJ kind la lb va vb w ha hb hk
def Dn:Int×Int×Int×Int:=(-7070,0,0,0)
def JK(w':World)(base:Nat)(v:Value)(l:List (Int×Int×Int×Int))(u:Value):Prop:=
 (v=jj/\u=jj/\l=[])\/((∃ad c,v=.slice (some ad) l.length c)/\∃g cap,u=sj g l.length cap/\w'.ownsRow base 53 4 (sj g (l.length+2) cap) (l.length+2) (Ae (l++[Dn,Dn])))
theorem LN(w:World):(binOp .eql 33 (jj) (jj)).run prog w=.ok (.bool true) w:=rfl
theorem Kf(ad:Addr)(n c:Nat)(w:World):(binOp .eql 33 (.slice (some ad) n c) (jj)).run prog w=.ok (.bool false) w:=rfl
theorem Wo(l:List (Int×Int×Int×Int))(v:Value)(w:World)(h:As w v l)(hv:(v=jj/\l=[])\/∃ad c,v=.slice (some ad) l.length c)(hr:l.length*32<=140737488351232):
  Calls prog 82 #[v] w fun e w'=>∃u,e=.returned u/\JK w' w.heap.size v l u/\uj w w':=by
 obtain⟨i0,hi0,hz0,hz1,hz2⟩:=cW C8;rcases hv with⟨rfl,rfl⟩|⟨ad,c,rfl⟩
 ·clear h hr;have hq:=LN;go_enter func82,ntmps82
  go_wp2;go_ret;exact⟨_,rfl,.inl ⟨rfl,rfl,rfl⟩,aN _ _⟩
 ·have hnews:=DL h fun e=>.inr ⟨ad,c,by rw[e];rfl⟩;have HL:=Aa (rfl:l.length=l.length);obtain⟨n,hn⟩:∃n,l.length=n:=⟨_,rfl⟩;rw[hn]at hr hnews;rw[hn];have HN:=Aa hn;have HNw:=Aa hnews;clear hnews HL h hn;have hq:=Kf;go_enter func82,ntmps82
  go_wp2_with(first
   |(at_builtin;refine Am (P:=prog) rfl (.tmp 6) (.tmp 7) 33 rfl w.heap.size 53 i0 _ 4 32 underlying33 hi0 hz0 hz1 hz2 rfl (by decide) (jj) 0 [] rfl ?_ (.slice (some ad) n c) n (Ae l) rfl ?_ ?_ (BK _) (by unfold maxLen;omega) (by omega) (aO _) ?_;exact bA _ _ _ _;(rw[AT,HN.out]);exact HNw.out;intro v3 w3 ho3 hg3 hn3 ha3;have HB3:=Aa ((aN w.heap.size w).grown hg3 (aO _) (fun k hk=>by simp[Value.ownBlock]at hk));have hs3:w.heap.size<=w3.heap.size:=HB3.out.size;have HO3:=Aa ho3;clear ho3 hg3 hn3 ha3)
   |(at_builtin;refine wpList_append_lies _ rfl (.tmp 9) (.tmp 12) 33 rfl w.heap.size 53 i0 _ 4 32 underlying33 hi0 hz0 hz1 hz2 rfl (by decide) v3 (0+n) ([]++Ae l) rfl (HO3.out.alloc _) (jA w3.heap.size 0) 2 2 (Ae [Dn,Dn]) rfl rfl (bI (cs:=#[vj (-7070),vj 0,vj 0,vj 0,vj (-7070),vj 0,vj 0,vj 0]) (t:=53) (fr:=(0,0)) (aR w3 _)) (BK _) (by omega) (by unfold maxLen;omega) (by omega) (by simp;omega) _ rfl ?_;intro g4 c4 w4 ho4 hg4 ha4 hl4;have HO4:=Aa ho4;have hc4:n<=c4:=(by have:=A7 ho4;omega);have HB4:=Aa ((HB3.out.alloc hs3 _).grown hg4 (by simp;omega) (fun k hk=>(HO3.out.lt k hk).1));clear ho4 hg4 ha4 hl4))
  go_ret;refine⟨_,rfl,.inr ⟨⟨ad,c,by rw[HN.out]⟩,g4,c4,by rw[HN.out];rfl,?_⟩,HB4.out⟩;have h9:=HO4.out;rw[Nat.zero_add,List.nil_append]at h9;rw[HN.out,AD];exact h9
theorem Wp(a b c d e f g h:Int)(w:World):(Op.equalIn 10000 53 (.agg #[vj a,vj b,vj c,vj d]) (.agg #[vj e,vj f,vj g,vj h])).run prog w=.ok (a==e&&(b==f&&(c==g&&d==h))) w:=by
 have u3:=underlying3;rw[show(10000:Nat)=9999+1 from rfl,run_equalIn_struct w 9999 53 _ _ (by kernel_rfl) (by kernel_rfl)]
 go_simp
 by_cases h1:a=e<;>by_cases h2:b=f<;>by_cases h3:c=g<;>by_cases h4:d=h<;>simp[h1,h2,h3,h4]
theorem Wq(l:List (Int×Int×Int×Int))(u v:Value)(w:World)(hu:As w u l)(hv:As w v l)(hl:l.length<=9000000):
  Calls prog 86 #[u,v] w fun e w'=>e=.returned (.bool true)/\∃nq,w'=w.drewN nq:=by
 have HU:=Aa (aK hu hv);obtain⟨ua,uc,rfl⟩:=hu.form;obtain⟨va,vc,rfl⟩:=hv.form;obtain⟨n,hn⟩:∃n,l.length=n:=⟨_,rfl⟩;rw[hn]at hl HU;rw[hn];have HN:=Aa hn;clear hu hv hn;have hq:=Wp;go_enter func86,ntmps86
 go_wp2
 go_loopg [5] n (fun g s5 wr=>∃i:Nat,s5=vj i/\g+i=n/\∃nq,wr=w.drewN nq)
 case atStart=>exact⟨0,rfl,by omega,0,rfl⟩
 case round=>
  obtain⟨i,rfl,hgi,n0,rfl⟩:=hrel;cases gk with
  |zero=>
   have hlt:¬(i:Int)<(n:Int):=by omega
   go_wp2;go_ret;exact⟨rfl,n0,rfl⟩
  |succ g=>
   have hlt:(i:Int)<(n:Int):=by omega
   have hin:i<n:=by omega
   have hil:i<l.length:=by rw[HN.out];exact hin
   obtain⟨b1,o1,k1,e1,q1,q2,q3,q4⟩:=HU.out.1.at i hil;obtain⟨b2,o2,k2,e2,r1,r2,r3,r4⟩:=HU.out.2.at i hil;injection e1 with e11 e12 e13;injection e2 with e21 e22 e23;clear e12 e22;subst e11 e13 e21 e23;obtain⟨⟨a,b,c,d⟩,hr⟩:∃r,l.getD i (0,0,0,0)=r:=⟨_,rfl⟩;rw[hr]at q1 q2 q3 q4 r1 r2 r3 r4;simp only at q1 q2 q3 q4 r1 r2 r3 r4;clear hr;go_wp2;go_quiet (fail)
   go_wp2
   go_roundg g
   case measure=>omega
   case rel=>exact⟨i+1,by go_num,by omega,_,rfl⟩
def mkR:Int×Int×Int×Int:=(1,1,3,2)
def He(l:List (Int×Int×Int×Int))(i:Nat):List (Int×Int×Int×Int):=List.replicate i mkR++(l++[Dn,Dn]).drop i
theorem Wr(l:List (Int×Int×Int×Int))(i:Nat)(h:i<=l.length+2):(He l i).length=l.length+2:=by
 unfold He;simp only[aY,List.length_replicate,cC,List.length_cons,List.length_nil];omega
theorem Ip(l:List (Int×Int×Int×Int))(i:Nat)(h:i<l.length+2):He l i=List.replicate i mkR++((l++[Dn,Dn])[i]'(by simp;omega))::(l++[Dn,Dn]).drop (i+1):=by
 unfold He;rw[List.drop_eq_getElem_cons (by simp;omega)]
theorem Uy(l:List (Int×Int×Int×Int))(i:Nat):He l (i+1)=List.replicate i mkR++mkR::(l++[Dn,Dn]).drop (i+1):=by
 unfold He;rw[List.replicate_succ',List.append_assoc];rfl
theorem LO(A B:List (Int×Int×Int×Int))(q r:Int×Int×Int×Int):((((Ae (A++q::B)).set (A.length*4) (vj r.1)).set (A.length*4+1) (vj r.2.1)).set (A.length*4+2) (vj r.2.2.1)).set (A.length*4+3) (vj r.2.2.2)=Ae (A++r::B):=by
 have e:∀q,Ae (A++q::B)=Ae A++([vj q.1,vj q.2.1,vj q.2.2.1,vj q.2.2.2]++Ae B):=fun q=>by rw[AD];rfl
 have k:∀(x:List Value) (j:Nat) (u:Value),(Ae A++x).set (A.length*4+j) u=Ae A++x.set j u:=fun x j u=>by
  rw[List.set_append,if_neg (by rw[AT];omega),AT,show A.length*4+j-A.length*4=j by omega]
 have k0:∀(x:List Value) (u:Value),(Ae A++x).set (A.length*4) u=Ae A++x.set 0 u:=fun x u=>k x 0 u;rw[e,e,k0,k,k,k];rfl
theorem QK{w wr:World}{base g n cap i nq:Nat}{l:List (Int×Int×Int×Int)}{o:Obj}(hn:l.length=n)(hi:i<n+2)(h:wr.ownsRow base 53 4 (sj g (n+2) cap) (n+2) (Ae (He l i)))(hg:w.grownBy wr (some g)):
  ((((((wr.alloc o).drewN nq).setCell (jA g (i*4)) (vj 1)).setCell (jA g (i*4+1)) (vj 1)).setCell (jA g (i*4+2)) (vj 3)).setCell (jA g (i*4+3)) (vj 2)).ownsRow base 53 4 (sj g (n+2) cap) (n+2) (Ae (He l (i+1)))/\
  w.grownBy ((((((wr.alloc o).drewN nq).setCell (jA g (i*4)) (vj 1)).setCell (jA g (i*4+1)) (vj 1)).setCell (jA g (i*4+2)) (vj 3)).setCell (jA g (i*4+3)) (vj 2)) (some g):=by
 have h0:((wr.alloc o).drewN nq).ownsRow base 53 4 (sj g (n+2) cap) (n+2) (Ae (He l i)):=h.alloc o;have h1:=Dr (j:=i*4) h0 (vj 1);have h2:=Dr (j:=i*4+1) h1 (vj 1);have h3:=Dr (j:=i*4+2) h2 (vj 3);have h4:=Dr (j:=i*4+3) h3 (vj 2);refine⟨?_,hg.os,hg.tape,hg.output,?_,fun k hk hne=>?_⟩
 ·have e:=LO (List.replicate i mkR) ((l++[Dn,Dn]).drop (i+1)) ((l++[Dn,Dn])[i]'(by simp;omega)) mkR;rw[<-Ip l i (by omega),<-Uy,List.length_replicate]at e;have e2:mkR=(1,1,3,2):=rfl;rw[e2]at e;simp only at e;rw[e]at h4;exact h4
 ·have:=hg.size;simp;omega
 ·have hkg:k≠g:=fun e=>hne (by rw[e]);rw[aL _ (jA g (i*4+3)) k _ hkg,aL _ (jA g (i*4+2)) k _ hkg,aL _ (jA g (i*4+1)) k _ hkg,aL _ (jA g (i*4)) k _ hkg];exact(Ad wr o k (by have:=hg.size;omega)).trans (hg.block k hk hne)
theorem OK(l:List (Int×Int×Int×Int))(u v:Value)(base:Nat)(w:World)(hv:As w v l)(hlow:∀b off c,v=.slice (some (jA b off)) l.length c->0<l.length->b<base)(hu:JK w base v l u)(hr:l.length*32<=140737488351232):
  Calls prog 85 #[u,v] w fun e w'=>e=.returned (.bool true)/\w.grownBy w' u.ownBlock:=by
 rcases hu with⟨rfl,rfl,rfl⟩|⟨⟨ad,c,rfl⟩,g,cap,rfl,hown⟩
 ·clear hv hlow hr;have hq:=LN;go_enter func85,ntmps85
  go_wp2;go_ret;exact⟨rfl,rfl,rfl,rfl,aO _,fun _ _ _=>rfl⟩
 ·have hq:=Kf;have hq2:=Wp;have hcap:=A7 hown;have hgb:=(hown.lt g rfl).1;have hgl:=(hown.lt g rfl).2;obtain⟨n,hn⟩:∃n,l.length=n:=⟨_,rfl⟩;rw[hn]at hr hcap;have HV:=Aa hv;have HW:=Aa hlow;have HO:=Aa hown;have HN:=Aa hn;rw[hn]at HW HO;rw[hn];clear hv hlow hown hn;have hc2:(n:Int)+2<=(cap:Int):=by omega
  go_enter func85,ntmps85
  go_wp2
  go_loopg [6,7] (n+2) (fun gg s6 s7 wr=>s6=.bool true/\∃i:Nat,s7=vj i/\gg+i=n+2/\wr.ownsRow base 53 4 (sj g (n+2) cap) (n+2) (Ae (He l i))/\w.grownBy wr (some g))
  case atStart=>
   refine⟨rfl,0,rfl,by omega,?_,rfl,rfl,rfl,aO _,fun _ _ _=>rfl⟩;have:=HO.out;unfold He;simpa using this
  case round=>
   obtain⟨rfl,i,rfl,hgi,hown,hgr⟩:=hrel;cases gk with
   |zero=>
    have hlt:¬(i:Int)<(n:Int)+2:=by omega
    have HG:=Aa hgr;clear hgr hown;go_wp2;go_ret;exact⟨rfl,HG.out⟩
   |succ g2=>
    have hlt:(i:Int)<(n:Int)+2:=by omega
    have hin2:i<n+2:=by omega
    have hic:i<cap:=by omega
    have hgw:=(hown.lt g rfl).2;have hil:i<(He l i).length:=by rw[Wr l i (by rw[HN.out];omega),HN.out];omega
    obtain⟨y0,y1,y2,y3⟩:=Cs (He l i) i hil;have cs:=hown.cells (g:=g) rfl;replace y0:=cs _ _ y0;replace y1:=cs _ _ y1;replace y2:=cs _ _ y2;replace y3:=cs _ _ y3;rw[Bn]at y0 y1 y2 y3;obtain⟨⟨a0,b0,c0,d0⟩,hr0⟩:∃r,(He l i)[i]=r:=⟨_,rfl⟩;rw[hr0]at y0 y1 y2 y3;simp only at y0 y1 y2 y3;have z0:=CM hown (i*4);have z1:=CM hown (i*4+1);have z2:=CM hown (i*4+2);have z3:=CM hown (i*4+3);have HR:=Aa hr0;by_cases hi:i<n
    ·have hlti:(i:Int)<(n:Int):=by omega
     have hiL:i<l.length:=by rw[HN.out];exact hi
     obtain⟨b,off,c9,e9,q0,q1,q2,q3⟩:=HV.out.at i hiL;rw[HN.out]at e9;injection e9 with e91 e92 e93;injection e91 with e91;clear e92;subst e91 e93;have hbb:=HW.out b off c rfl (by omega);have hbw:=Ak q0;have hbne:some b≠some g:=by simp;omega
     replace q0:=(hgr.cell_far (jA b (off+i*4)) hbw hbne).trans q0;replace q1:=(hgr.cell_far (jA b (off+i*4+1)) hbw hbne).trans q1;replace q2:=(hgr.cell_far (jA b (off+i*4+2)) hbw hbne).trans q2;replace q3:=(hgr.cell_far (jA b (off+i*4+3)) hbw hbne).trans q3;have hbw2:=Ak q0;have hri:l.getD i (0,0,0,0)=(a0,b0,c0,d0):=by
      rw[<-HR.out,bu,aU hiL];have h9:=Ip l i (by omega);have h8:(He l i)[i]?=some l[i]:=by
       rw[h9,bO (by simp),List.length_replicate,Nat.sub_self,bj,List.getElem_append_left hiL]
      rw[aU hil]at h8;exact(Option.some.inj h8).symm
     rw[hri]at q0 q1 q2 q3;simp only at q0 q1 q2 q3;have hgne:¬b=g:=by omega
     have HK:=Aa (aK hown hgr);clear hown hgr hr0 hri cs hbne;go_wp2;go_quiet (fail)
     go_wp2
     go_roundg g2
     case measure=>omega
     case rel=>
      have h9:=QK (nq:=nq) (o:=.cells #[vj a0,vj b0,vj c0,vj d0] 53) HN.out hin2 HK.out.1 HK.out.2;exact⟨rfl,i+1,by go_num,by omega,h9.1,h9.2⟩
    ·have hlti:¬(i:Int)<(n:Int):=by omega
     have hri:(a0,b0,c0,d0)=Dn:=by
      rw[<-HR.out];have h9:=Ip l i (by rw[HN.out];exact hin2);have h7:∀(h:i<(l++[Dn,Dn]).length),(l++[Dn,Dn])[i]=Dn:=by
       intro h;rw[List.getElem_append_right (by rw[HN.out];omega)];have:i-l.length=0\/i-l.length=1:=by rw[HN.out];omega
       rcases this with h6|h6
       ·simp[h6]
       ·simp[h6]
      have h8:(He l i)[i]?=some Dn:=by
       rw[h9,bO (by simp),List.length_replicate,Nat.sub_self,bj,h7]
      rw[aU hil]at h8;exact Option.some.inj h8
     unfold Dn at hri;simp only[Prod.mk.injEq]at hri;obtain⟨rfl,rfl,rfl,rfl⟩:=hri;have HK:=Aa (aK hown hgr);clear hown hgr hr0 cs;go_wp2;go_quiet (fail)
     go_wp2
     go_roundg g2
     case measure=>omega
     case rel=>
      have h9:=QK (nq:=nq) (o:=.cells #[vj (-7070),vj 0,vj 0,vj 0] 53) HN.out hin2 HK.out.1 HK.out.2;exact⟨rfl,i+1,by go_num,by omega,h9.1,h9.2⟩
end Go.Proofs.YtofinpocigbbeaaGreat
