import Derived.Test.YtofinpocigbbeaaGreatKab
set_option linter.unusedSimpArgs false
namespace Go.Proofs.YtofinpocigbbeaaGreat
variable{A:List (Int×Int×List (Int×Int))}{S:List (Int×Int)}{b:Int×Int×List (Int×Int)}
theorem Tk(E F:List Int)(hE:E.Pairwise (· < ·))(hF:F.Pairwise (· < ·))(h:∀x,cnt E x%2=cnt F x%2):E=F:=by
 induction E generalizing F with
 |nil=>
  cases F with
  |nil=>rfl
  |cons f F=>
   obtain⟨h1,_⟩:=bX.1 hF;have:=h f;rw[Su,Cl,if_pos (Int.le_refl f),BS F f h1]at this;omega
 |cons e E ih=>
  obtain⟨h1,h2⟩:=bX.1 hE;cases F with
  |nil=>
   have:=h e;rw[Su,Cl,if_pos (Int.le_refl e),BS E e h1]at this;omega
  |cons f F=>
   obtain⟨h3,h4⟩:=bX.1 hF;have hef:e=f:=by
    by_cases a:e<f
    ·have:=h e;rw[Cl,Cl,if_pos (Int.le_refl e),BS E e h1,if_neg (by omega),BS F e fun x hx=>by have:=h3 x hx;omega]at this;omega
    ·by_cases b:f<e
     ·have:=h f;rw[Cl,Cl,if_pos (Int.le_refl f),BS F f h3,if_neg (by omega),BS E f fun x hx=>by have:=h1 x hx;omega]at this;omega
     ·omega
   subst hef;congr 1
   refine ih F h2 h4 fun x=>?_;have:=h x;rw[Cl,Cl]at this;omega
theorem Tl(S T:List (Int×Int))(h:An S=An T):S=T:=by
 induction S generalizing T with
 |nil=>
  cases T with
  |nil=>rfl
  |cons t T=>rw[A5,Dl]at h;simp at h
 |cons s S ih=>
  cases T with
  |nil=>rw[A5,Dl]at h;simp at h
  |cons t T=>
   rw[A5,A5]at h;simp at h;rw[ih T h.2.2,Prod.ext h.1 h.2.1]
theorem MC{T:List (Int×Int)}(hS:BO S)(hT:BO T)(h:∀x,Bi S x=Bi T x):S=T:=by
 refine Tl S T (Tk _ _ hS.rising hT.rising fun x=>?_);have:=h x;rw[Dp S hS.rising,Dp T hT.rising,decide_eq_decide]at this;omega
theorem DI(h:AL (b::A)):AL A/\(∀e∈Ag A,b.2.1<=e)/\b.1<b.2.1/\BO b.2.2/\b.2.2≠[]/\∀c A',A=c::A'->b.2.1=c.1->b.2.2≠c.2.2:=by
 have hl:=h.lv;rw[AB]at hl;obtain⟨h1,h2⟩:=bX.1 hl;obtain⟨h3,h4⟩:=bX.1 h2;have hs:=h.sp b (by simp);refine⟨⟨h4,fun c hc=>h.tb c (by simp[hc]),fun e he=>h.bd e (by rw[AB];simp[he]),fun c hc=>h.sp c (by simp[hc]),fun k hk e=>?_⟩,h3,h.tb b (by simp),hs.1,hs.2,fun c A' hA e=>?_⟩
 ·have:=h.df (k+1) (by simp;omega);simp only[List.getElem_cons_succ]at this;exact this e
 ·subst hA;have:=h.df 0 (by simp);simp only[List.getElem_cons_zero,List.getElem_cons_succ]at this;exact this e
theorem DJ(hS:BO S)(hne:S≠[]):∃x,Bi S x=true:=by
 cases S with
 |nil=>exact absurd rfl hne
 |cons s S=>
  have hr:=hS.rising;rw[A5]at hr;have hlt:s.1<s.2:=(bX.1 hr).1 s.2 (by simp);exact⟨s.1,by unfold Bi;simp;left;exact hlt⟩
theorem Ec(h:AL (b::A))(x y:Int)(h1:b.1<=y)(h2:y<b.2.1):Ay (b::A) x y=Bi b.2.2 x:=by
 obtain⟨_,ht,_⟩:=DI h;rw[E9,Dq A x y fun e he=>by have:=ht e he;omega];have:b.1<=y/\y<b.2.1:=⟨h1,h2⟩;simp[this]
theorem KG(h:AL (b::A))(hh:∀x,Ay (b::A) x b.2.1=Bi b.2.2 x):False:=by
 obtain⟨hA,ht,htb,hs,hne,hdf⟩:=DI h;have hz:∀x,Ay (b::A) x b.2.1=Ay A x b.2.1:=fun x=>by
  rw[E9];have:¬(b.1<=b.2.1/\b.2.1<b.2.1):=by omega
  simp
 cases A with
 |nil=>
  obtain⟨x,hx⟩:=DJ hs hne;have:=hh x;rw[hz x,hx]at this;simp[Ay]at this
 |cons c A=>
  have hc:=ht c.1 (by rw[AB];simp);obtain⟨_,htc,htbc,hsc,hnec,_⟩:=DI hA;by_cases e:b.2.1=c.1
  ·refine hdf c A rfl e (MC hs hsc fun x=>?_);rw[<-hh x,hz x,Ec hA x b.2.1 (by omega) (by omega)]
  ·obtain⟨x,hx⟩:=DJ hs hne;have:=hh x;rw[hz x,hx,Dq (c::A) x b.2.1 fun q hq=>?_]at this
   ·simp at this
   ·rw[AB]at hq;simp at hq;rcases hq with hq|hq|hq
    ·omega
    ·omega
    ·have:=htc q hq;omega
theorem MD{B:List (Int×Int×List (Int×Int))}(hA:AL A)(hB:AL B)(h:∀x y,Ay A x y=Ay B x y):A=B:=by
 induction A generalizing B with
 |nil=>
  cases B with
  |nil=>rfl
  |cons b B=>
   obtain⟨_,_,htb,hs,hne,_⟩:=DI hB;obtain⟨x,hx⟩:=DJ hs hne;have:=h x b.1;rw[Ec hB x b.1 (Int.le_refl _) htb,hx]at this;simp[Ay]at this
 |cons a A ih=>
  obtain⟨hA',hta,htba,hsa,hnea,_⟩:=DI hA;cases B with
  |nil=>
   obtain⟨x,hx⟩:=DJ hsa hnea;have:=h x a.1;rw[Ec hA x a.1 (Int.le_refl _) htba,hx]at this;simp[Ay]at this
  |cons b B=>
   obtain⟨hB',htb,htbb,hsb,hneb,_⟩:=DI hB;have hfar:∀ {c:Int×Int×List (Int×Int)} {C:List (Int×Int×List (Int×Int))},AL (c::C)->∀x y,y<c.1->Ay (c::C) x y=false:=by
    intro c C hC x y hy;obtain⟨_,htc,htbc,_⟩:=DI hC;refine Dq _ x y fun q hq=>?_;rw[AB]at hq;simp at hq;rcases hq with hq|hq|hq
    ·omega
    ·omega
    ·have:=htc q hq;omega
   have htop:a.1=b.1:=by
    by_cases l1:a.1<b.1
    ·obtain⟨x,hx⟩:=DJ hsa hnea;have:=h x a.1;rw[Ec hA x a.1 (Int.le_refl _) htba,hx,hfar hB x a.1 l1]at this;simp at this
    ·by_cases l2:b.1<a.1
     ·obtain⟨x,hx⟩:=DJ hsb hneb;have:=h x b.1;rw[Ec hB x b.1 (Int.le_refl _) htbb,hx,hfar hA x b.1 l2]at this;simp at this
     ·omega
   have hsp:a.2.2=b.2.2:=by
    refine MC hsa hsb fun x=>?_;rw[<-Ec hA x a.1 (Int.le_refl _) htba,h x a.1,Ec hB x a.1 (by omega) (by omega)]
   have hbot:a.2.1=b.2.1:=by
    by_cases l1:a.2.1<b.2.1
    ·exact(KG hA fun x=>by rw[h x,Ec hB x a.2.1 (by omega) l1,hsp]).elim
    ·by_cases l2:b.2.1<a.2.1
     ·exact(KG hB fun x=>by rw[<-h x,Ec hA x b.2.1 (by omega) l2,hsp]).elim
     ·omega
   have hab:a=b:=Prod.ext htop (Prod.ext hbot hsp);subst hab;congr 1
   refine ih hA' hB' fun x y=>?_;have hxy:=h x y;rw[E9,E9]at hxy;by_cases hy:y<a.2.1
   ·rw[Dq A x y fun e he=>by have:=hta e he;omega,Dq B x y fun e he=>by have:=htb e he;omega]
   ·have:¬(a.1<=y/\y<a.2.1):=by omega
    simpa[this]using hxy
variable{E:List Int}{I:List Bool}{L:List (Int×Int)}{i j:Nat}{x:Int}
def ED(E:List Int)(I:List Bool)(x:Int):Bool:=(List.range I.length).any fun k=>I.getD k false&&decide (nth E k<=x/\x<nth E (k+1))
theorem Fj(hs:E.Pairwise (· < ·))(h:i<j)(hj:j<E.length):nth E i<nth E j:=by
 rw[BZ E i (by omega),BZ E j hj];exact cN.1 hs i j _ hj h
theorem B8(hs:E.Pairwise (· < ·))(h:i<=j)(hj:j<E.length):nth E i<=nth E j:=by
 by_cases e:i=j
 ·subst e;exact Int.le_refl _
 ·exact Int.le_of_lt (Fj hs (by omega) hj)
theorem Fk(hs:E.Pairwise (· < ·))(hl:I.length+1=E.length){k:Nat}(hk:k<I.length)(h1:nth E k<=x)(h2:x<nth E (k+1)):ED E I x=I.getD k false:=by
 unfold ED;cases hI:I.getD k false with
 |true=>
  rw[cF];refine⟨k,cf.2 hk,?_⟩;rw[hI];simp;exact⟨h1,h2⟩
 |false=>
  rw[cJ];intro j hj;have hj:=cf.1 hj;by_cases e:j=k
  ·subst e;rw[hI];simp
  ·have:¬(nth E j<=x/\x<nth E (j+1)):=by
    rintro⟨a,b⟩;by_cases l:j<k
    ·have:=B8 hs (show j+1<=k by omega) (by omega);omega
    ·have:=B8 hs (show k+1<=j by omega) (by omega);omega
   simp[this]
theorem Ii(hs:E.Pairwise (· < ·))(hl:I.length+1=E.length)(h:x<nth E 0):ED E I x=false:=by
 unfold ED;rw[cJ];intro j hj;have hj:=cf.1 hj;have:=B8 hs (show 0<=j by omega) (by omega);have:¬(nth E j<=x/\x<nth E (j+1)):=by omega
 simp[this]
theorem Gw(hs:E.Pairwise (· < ·))(hl:I.length+1=E.length)(h:nth E I.length<=x):ED E I x=false:=by
 unfold ED;rw[cJ];intro j hj;have hj:=cf.1 hj;have:=B8 hs (show j+1<=I.length by omega) (by omega);have:¬(nth E j<=x/\x<nth E (j+1)):=by omega
 simp[this]
structure Kk(E:List Int)(I:List Bool)(i:Nat)(L:List (Int×Int)):Prop where
 rising:(An L).Pairwise (· < ·)
 mem:∀e∈An L,e∈E
 upto:∀e∈An L,e<=nth E i
 grows:0<i->I.getD (i-1) false=true->∃D f,L=D++[(f,nth E i)]
 shut:(i=0\/I.getD (i-1) false=false)->∀e∈An L,e<nth E i
 is:∀x,x<nth E i->Bi L x=ED E I x
theorem RI(hs:E.Pairwise (· < ·))(hl:I.length+1=E.length):Kk E I 0 []:=
 ⟨List.Pairwise.nil,fun e he=>by simp[An]at he,fun e he=>by simp[An]at he,fun h=>by omega,fun _ e he=>by simp[An]at he,fun x hx=>by rw[Ii hs hl hx];rfl⟩
theorem TZ(hs:E.Pairwise (· < ·))(hl:I.length+1=E.length)(h:Kk E I i L)(hi:i<I.length)(hI:I.getD i false=false):Kk E I (i+1) L:=by
 have hm:=Fj hs (show i<i+1 by omega) (by omega);refine⟨h.rising,h.mem,fun e he=>by have:=h.upto e he;omega,fun _ hh=>?_,fun _ e he=>by have:=h.upto e he;omega,fun x hx=>?_⟩
 ·simp only[Nat.add_sub_cancel]at hh;rw[hI]at hh;simp at hh
 ·by_cases hx':x<nth E i
  ·exact h.is x hx'
  ·rw[Fk hs hl hi (by omega) hx,hI,Ej L h.rising x fun e he=>by have:=h.upto e he;omega]
theorem Lp(h:i<E.length):nth E i∈E:=by rw[BZ E i h];exact aZ h
theorem VH(hs:E.Pairwise (· < ·))(hl:I.length+1=E.length)(h:Kk E I i L)(hi:i<I.length)(hI:I.getD i false=true)(hp:i=0\/I.getD (i-1) false=false):Kk E I (i+1) (L++[(nth E i,nth E (i+1))]):=by
 have hm:=Fj hs (show i<i+1 by omega) (by omega);have hsh:=h.shut hp;have hed:An (L++[(nth E i,nth E (i+1))])=An L++[nth E i,nth E (i+1)]:=by rw[CX];rfl
 refine⟨?_,?_,?_,fun _ _=>⟨L,_,rfl⟩,fun hh=>?_,fun x hx=>?_⟩
 ·rw[hed,List.pairwise_append];refine⟨h.rising,by simp;exact hm,fun a ha b hb=>?_⟩;have:=hsh a ha;simp at hb;omega
 ·intro e he;rw[hed]at he;simp at he;rcases he with he|he|he
  ·exact h.mem e he
  ·subst he;exact Lp (by omega)
  ·subst he;exact Lp (by omega)
 ·intro e he;rw[hed]at he;simp at he;rcases he with he|he|he
  ·have:=h.upto e he;omega
  ·omega
  ·omega
 ·simp only[Nat.add_sub_cancel]at hh;rw[hI]at hh;simp at hh
 ·have e1:Bi (L++[(nth E i,nth E (i+1))]) x=(Bi L x||decide (nth E i<=x/\x<nth E (i+1))):=by unfold Bi;simp
  rw[e1];by_cases hx':x<nth E i
  ·rw[h.is x hx'];have:¬(nth E i<=x/\x<nth E (i+1)):=by omega
   simp[this]
  ·rw[Fk hs hl hi (by omega) hx,hI];have:nth E i<=x/\x<nth E (i+1):=by omega
   simp[this]
theorem T5{D:List (Int×Int)}{f:Int}(hs:E.Pairwise (· < ·))(hl:I.length+1=E.length)(h:Kk E I i (D++[(f,nth E i)]))(hi:i<I.length)(hI:I.getD i false=true):Kk E I (i+1) (D++[(f,nth E (i+1))]):=by
 have hm:=Fj hs (show i<i+1 by omega) (by omega);have hr:=h.rising;have hed:∀z,An (D++[(f,z)])=An D++[f,z]:=fun z=>by rw[CX];rfl
 rw[hed,List.pairwise_append]at hr;obtain⟨r1,r2,r3⟩:=hr;simp at r2;refine⟨?_,?_,?_,fun _ _=>⟨D,f,rfl⟩,fun hh=>?_,fun x hx=>?_⟩
 ·rw[hed,List.pairwise_append];refine⟨r1,by simp;omega,fun a ha b hb=>?_⟩;have:=r3 a ha f (by simp);simp at hb;omega
 ·intro e he;rw[hed]at he;simp at he;rcases he with he|he|he
  ·exact h.mem e (by rw[hed];simp[he])
  ·subst he;exact h.mem _ (by rw[hed];simp)
  ·subst he;exact Lp (by omega)
 ·intro e he;rw[hed]at he;simp at he;rcases he with he|he|he
  ·have:=r3 e he f (by simp);omega
  ·omega
  ·omega
 ·simp only[Nat.add_sub_cancel]at hh;rw[hI]at hh;simp at hh
 ·have e1:∀z,Bi (D++[(f,z)]) x=(Bi D x||decide (f<=x/\x<z)):=fun z=>by unfold Bi;simp
  rw[e1];by_cases hx':x<nth E i
  ·rw[<-h.is x hx',e1];congr 1
   rw[decide_eq_decide];omega
  ·rw[Fk hs hl hi (by omega) hx,hI];have:f<=x/\x<nth E (i+1):=by omega
   simp[this]
theorem MV(hs:E.Pairwise (· < ·))(hl:I.length+1=E.length)(hb:∀e∈E, -2000<=e/\e<=2000)(h:Kk E I I.length L):BO L/\∀x,Bi L x=ED E I x:=by
 refine⟨⟨h.rising,fun e he=>hb e (h.mem e he)⟩,fun x=>?_⟩;by_cases hx:x<nth E I.length
 ·exact h.is x hx
 ·rw[Gw hs hl (by omega),Ej L h.rising x fun e he=>by have:=h.upto e he;omega]
variable{F:List Int}{O:List (Int×Int×List (Int×Int))}{y:Int}
def EZ(I:List Bool)(n i:Nat):List Bool:=(I.drop (i*n)).take n
theorem Qc{n m:Nat}(hI:I.length=m*n)(hi:i<m):(EZ I n i).length=n:=by
 unfold EZ;rw[bR,cC,hI];have:(i+1)*n<=m*n:=bU n hi;rw[Nat.add_mul,Nat.one_mul]at this;omega
def E0(E F:List Int)(I:List Bool)(x y:Int):Bool:=(List.range (F.length-1)).any fun i=>decide (nth F i<=y/\y<nth F (i+1))&&ED E (EZ I (E.length-1) i) x
theorem Jx(hF:F.Pairwise (· < ·))(hi:i+1<F.length)(h1:nth F i<=y)(h2:y<nth F (i+1)):E0 E F I x y=ED E (EZ I (E.length-1) i) x:=by
 unfold E0;have key:∀j,j<F.length-1->j≠i->¬(nth F j<=y/\y<nth F (j+1)):=by
  rintro j hj e ⟨a,b⟩;by_cases l:j<i
  ·have:=B8 hF (show j+1<=i by omega) (by omega);omega
  ·have:=B8 hF (show i+1<=j by omega) (by omega);omega
 cases hc:ED E (EZ I (E.length-1) i) x with
 |true=>
  rw[cF];refine⟨i,cf.2 (by omega),?_⟩;rw[hc];simp;exact⟨h1,h2⟩
 |false=>
  rw[cJ];intro j hj;have hj:=cf.1 hj;by_cases e:j=i
  ·subst e;rw[hc];simp
  ·simp[key j hj e]
theorem Ij(hF:F.Pairwise (· < ·))(h:y<nth F 0):E0 E F I x y=false:=by
 unfold E0;rw[cJ];intro j hj;have hj:=cf.1 hj;have:=B8 hF (show 0<=j by omega) (by omega);have:¬(nth F j<=y/\y<nth F (j+1)):=by omega
 simp[this]
theorem Gy(hF:F.Pairwise (· < ·))(h:nth F (F.length-1)<=y):E0 E F I x y=false:=by
 unfold E0;rw[cJ];intro j hj;have hj:=cf.1 hj;have:=B8 hF (show j+1<=F.length-1 by omega) (by omega);have:¬(nth F j<=y/\y<nth F (j+1)):=by omega
 simp[this]
structure EE(E F:List Int)(I:List Bool)(i:Nat)(O:List (Int×Int×List (Int×Int))):Prop where
 good:AL O
 upto:∀e∈Ag O,e<=nth F i
 is:∀x y,y<nth F i->Ay O x y=E0 E F I x y
theorem Qd(hF:F.Pairwise (· < ·)):EE E F I 0 []:=
 ⟨C7,fun e he=>by simp[Ag]at he,fun x y hy=>by rw[Ij hF hy];rfl⟩
theorem RK{L:List (Int×Int)}(hE:E.Pairwise (· < ·))(hF:F.Pairwise (· < ·))(bE:∀e∈E, -2000<=e/\e<=2000)(bF:∀e∈F, -2000<=e/\e<=2000)
  (hl:(EZ I (E.length-1) i).length+1=E.length) (hi:i+1<F.length) (h:EE E F I i O) (hL:Kk E (EZ I (E.length-1) i) (EZ I (E.length-1) i).length L):EE E F I (i+1) (CY O (nth F i,nth F (i+1),L)):=by
 have hm:=Fj hF (show i<i+1 by omega) hi;obtain⟨hS,hmem⟩:=MV hE hl bE hL;have b1:=bF _ (Lp (show i<F.length by omega));have b2:=bF _ (Lp hi);refine⟨OW h.good h.upto hm b1.1 (fun _=>b2.2) hS,KB O _ _ (fun e he=>by have:=h.upto e he;omega) (by show nth F i<=_;omega) (Int.le_refl _),fun x y hy=>?_⟩;rw[OX O _ x y hm h.good.tb];show(Ay O x y||(decide (nth F i<=y/\y<nth F (i+1))&&Bi L x))=_;by_cases hy':y<nth F i
 ·rw[h.is x y hy'];have:¬(nth F i<=y/\y<nth F (i+1)):=by omega
  simp[this]
 ·rw[Ek O x y fun e he=>by have:=h.upto e he;omega,Jx hF hi (by omega) hy,hmem];have:nth F i<=y/\y<nth F (i+1):=by omega
  simp[this]
theorem Lr(hF:F.Pairwise (· < ·))(h:EE E F I (F.length-1) O):∀x y,Ay O x y=E0 E F I x y:=by
 intro x y;by_cases hy:y<nth F (F.length-1)
 ·exact h.is x y hy
 ·rw[Gy hF (by omega),Ek O x y fun e he=>by have:=h.upto e he;omega]
theorem Qe(hE:E.Pairwise (· < ·))(hF:F.Pairwise (· < ·)){a b c d:Int}(e1:a∈E)(e2:c∈E)(f1:b∈F)(f2:d∈F){k:Nat}(hk:k+1<E.length)(hi:i+1<F.length)
  (x1:nth E k<=x) (x2:x<nth E (k+1)) (y1:nth F i<=y) (y2:y<nth F (i+1)):(a<=x/\x<c/\b<=y/\y<d)↔(a<=nth E k/\nth E k<c/\b<=nth F i/\nth F i<d):=by
 have key:∀ {E:List Int},E.Pairwise (· < ·)->∀ {k:Nat},k+1<E.length->∀ {z q:Int},z∈E->nth E k<=q->q<nth E (k+1)->(z<=q↔z<=nth E k):=by
  intro E hE k hk z q hz h1 h2;constructor
  ·intro h;obtain⟨j,hj,rfl⟩:=List.getElem_of_mem hz;rw[<-BZ E j hj]at h ⊢;by_cases l:j<=k
   ·exact B8 hE l (by omega)
   ·have:=B8 hE (show k+1<=j by omega) hj;omega
  ·intro h;omega
 have k1:=key hE hk e1 x1 x2;have k2:=key hE hk e2 x1 x2;have k3:=key hF hi f1 y1 y2;have k4:=key hF hi f2 y1 y2;constructor
 ·rintro⟨p1,p2,p3,p4⟩;exact⟨k1.1 p1,by omega,k3.1 p3,by omega⟩
 ·rintro⟨p1,p2,p3,p4⟩;exact⟨k1.2 p1,by omega,k3.2 p3,by omega⟩
variable{m:Nat}{l:List (Int×Int×Int×Int)}
def I8(E F:List Int)(l:List (Int×Int×Int×Int)):Prop:=∀r∈l,r.1∈E/\r.2.2.1∈E/\r.2.1∈F/\r.2.2.2∈F
def Ya(kind:Int)(la lb:List (Int×Int×Int×Int))(x y:Int):Bool:=keepB kind (AE la x y) (AE lb x y)
def FV(kind:Int)(la lb:List (Int×Int×Int×Int))(E:List Int)(y:Int)(k:Nat):List Bool:=(List.range k).map fun j=>Ya kind la lb (nth E j) y
def Dg(kind:Int)(la lb:List (Int×Int×Int×Int))(E F:List Int)(i:Nat):List Bool:=(List.range i).flatMap fun q=>FV kind la lb E (nth F q) (E.length-1)
theorem Ng(kind:Int)(la lb:List (Int×Int×Int×Int))(E:List Int)(y:Int)(k:Nat):FV kind la lb E y (k+1)=FV kind la lb E y k++[Ya kind la lb (nth E k) y]:=by
 unfold FV;rw[List.range_succ,cL];rfl
theorem EF(kind:Int)(la lb:List (Int×Int×Int×Int))(E:List Int)(y:Int)(k:Nat):(FV kind la lb E y k).length=k:=by simp[FV]
theorem Io(kind:Int)(la lb:List (Int×Int×Int×Int))(E F:List Int)(i:Nat):Dg kind la lb E F (i+1)=Dg kind la lb E F i++FV kind la lb E (nth F i) (E.length-1):=by
 unfold Dg;rw[List.range_succ,cM];simp
theorem Hc(kind:Int)(la lb:List (Int×Int×Int×Int))(E F:List Int)(i:Nat):(Dg kind la lb E F i).length=i*(E.length-1):=by
 induction i with
 |zero=>simp[Dg]
 |succ i ih=>rw[Io,aY,ih,EF,Nat.add_mul,Nat.one_mul]
theorem QI(kind:Int)(la lb:List (Int×Int×Int×Int))(E F:List Int)(h:i<m):∃R,Dg kind la lb E F m=Dg kind la lb E F i++(FV kind la lb E (nth F i) (E.length-1)++R):=by
 induction m with
 |zero=>omega
 |succ m ih=>
  rw[Io];by_cases e:i=m
  ·subst e;exact⟨[],by simp⟩
  ·obtain⟨R,hR⟩:=ih (by omega);exact⟨R++FV kind la lb E (nth F m) (E.length-1),by rw[hR];simp[List.append_assoc]⟩
theorem Ux(kind:Int)(la lb:List (Int×Int×Int×Int))(E F:List Int)(h:i<m):EZ (Dg kind la lb E F m) (E.length-1) i=FV kind la lb E (nth F i) (E.length-1):=by
 obtain⟨R,hR⟩:=QI kind la lb E F h;unfold EZ;rw[hR,List.drop_append_of_le_length (by rw[Hc];exact aO _),List.drop_of_length_le (by rw[Hc];exact aO _),List.nil_append,List.take_append_of_le_length (by rw[EF];exact aO _),bw (by rw[EF];exact aO _)]
theorem SZ(h1:nth E 0<=x)(h2:x<nth E (E.length-1))(hl:0<E.length):∃k,k+1<E.length/\nth E k<=x/\x<nth E (k+1):=by
 have key:∀q,q<E.length->x<nth E q->∃k,k+1<E.length/\nth E k<=x/\x<nth E (k+1):=by
  intro q;induction q with
  |zero=>intro _ h;omega
  |succ q ih=>
   intro hq h;by_cases hx:nth E q<=x
   ·exact⟨q,hq,hx,h⟩
   ·exact ih (by omega) (by omega)
 exact key (E.length-1) (by omega) h2
theorem Nh(hE:E.Pairwise (· < ·))(hF:F.Pairwise (· < ·))(h:I8 E F l){k:Nat}(hk:k+1<E.length)(hi:i+1<F.length)
  (x1:nth E k<=x) (x2:x<nth E (k+1)) (y1:nth F i<=y) (y2:y<nth F (i+1)):AE l x y=AE l (nth E k) (nth F i):=by
 unfold AE;rw[Bool.eq_iff_iff,cF,cF];constructor
 ·rintro⟨r,hr,h2⟩;refine⟨r,hr,?_⟩;obtain⟨e1,e2,e3,e4⟩:=h r hr;unfold inR at h2 ⊢;rw[bT]at h2 ⊢;exact(Qe hE hF e1 e2 e3 e4 hk hi x1 x2 y1 y2).1 h2
 ·rintro⟨r,hr,h2⟩;refine⟨r,hr,?_⟩;obtain⟨e1,e2,e3,e4⟩:=h r hr;unfold inR at h2 ⊢;rw[bT]at h2 ⊢;exact(Qe hE hF e1 e2 e3 e4 hk hi x1 x2 y1 y2).2 h2
theorem OJ(hE:E.Pairwise (· < ·)){a:Int}(h:a∈E):nth E 0<=a/\a<=nth E (E.length-1):=by
 obtain⟨j,hj,rfl⟩:=List.getElem_of_mem h;rw[<-BZ E j hj];exact⟨B8 hE (cB _) hj,B8 hE (by omega) (by omega)⟩
theorem I9(hE:E.Pairwise (· < ·))(hF:F.Pairwise (· < ·))(h:I8 E F l)(ho:x<nth E 0\/nth E (E.length-1)<=x\/y<nth F 0\/nth F (F.length-1)<=y):AE l x y=false:=by
 unfold AE;rw[cJ];intro r hr;obtain⟨e1,e2,e3,e4⟩:=h r hr;have a1:=OJ hE e1;have a2:=OJ hE e2;have a3:=OJ hF e3;have a4:=OJ hF e4;unfold inR;rw[bT];omega
theorem XP{la lb:List (Int×Int×Int×Int)}(kind:Int)(hE:E.Pairwise (· < ·))(hF:F.Pairwise (· < ·))(ha:I8 E F la)(hb:I8 E F lb)(nE:0<E.length)(nF:0<F.length)(x y:Int):
  E0 E F (Dg kind la lb E F (F.length-1)) x y=keepB kind (AE la x y) (AE lb x y):=by
 by_cases hy:nth F 0<=y/\y<nth F (F.length-1)
 ·obtain⟨i,hi,y1,y2⟩:=SZ hy.1 hy.2 nF;rw[Jx hF hi y1 y2,Ux kind la lb E F (show i<F.length-1 by omega)];have hl:(FV kind la lb E (nth F i) (E.length-1)).length+1=E.length:=by rw[EF];omega
  by_cases hx:nth E 0<=x/\x<nth E (E.length-1)
  ·obtain⟨k,hk,x1,x2⟩:=SZ hx.1 hx.2 nE;rw[Fk hE hl (by rw[EF];omega) x1 x2,Nh hE hF ha hk hi x1 x2 y1 y2,Nh hE hF hb hk hi x1 x2 y1 y2];unfold FV;rw[bu,bZ,List.getElem?_range (by omega)];rfl
  ·rw[I9 hE hF ha (by omega),I9 hE hF hb (by omega),Cf];by_cases hx0:nth E 0<=x
   ·exact Gw hE hl (by rw[EF];omega)
   ·exact Ii hE hl (by omega)
 ·rw[I9 hE hF ha (by omega),I9 hE hF hb (by omega),Cf];by_cases hy0:nth F 0<=y
  ·exact Gy hF (by omega)
  ·exact Ij hF (by omega)
end Go.Proofs.YtofinpocigbbeaaGreat
