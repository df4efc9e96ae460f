import Derived.WalkKit
import Derived.WalkSpells
import Derived.WalkLawsBesides
import Derived.RegionTactic
import Derived.BigRegion
import Derived.KernelRfl
import Derived.Tactics
import Derived.Orders
import Derived.Deep.AppendLies
import Derived.Test.YtofinpocigbbeaaGreatRows
import Derived.BigQuiet
import Derived.Deep.QuietTactic
import Derived.OneCell
import Derived.Deep.RegionLaw
import Derived.Deep.RegionHeld3
set_option maxHeartbeats 2000000
set_option maxRecDepth 100000
set_option linter.unusedSimpArgs false
namespace Go.Proofs.YtofinpocigbbeaaGreat
open Go.RowKit Go.Proofs.Tryz
abbrev aK:=@And.intro
abbrev aL:=@heap_setCell_other
abbrev aM:=@Array.getElem?_eq_some_iff
abbrev aN:=@Below.refl
abbrev aO:=@Nat.le_refl
abbrev aP:=@cell_of_row
abbrev aQ:=@Nat.lt_of_lt_of_le
abbrev aR:=@heap_alloc_new
abbrev aU:=@List.getElem?_eq_getElem
abbrev aV:=@World.cell?_of_block
abbrev aW:=@Array.mem_toList_iff
abbrev aX:=@Int.toNat_natCast
abbrev aY:=@List.length_append
abbrev aZ:=@List.getElem_mem
abbrev bh:=@Nat.le_trans
abbrev bj:=@List.getElem?_cons_zero
abbrev bn:=@List.take_succ_eq_append_getElem
abbrev br:=@List.getElem?_toArray
abbrev bt:=@List.getElem?_cons_succ
abbrev bu:=@List.getD_eq_getElem?_getD
abbrev bw:=@List.take_of_length_le
abbrev bA:=@World.ownsRow_nil
abbrev bB:=@IntKind.wrap_i64
abbrev bC:=@Array.getElem?_setIfInBounds_ne
abbrev bD:=@Below.drew
abbrev bG:=@List.length_set
abbrev bH:=@heap_setCell_same
abbrev bI:=@World.news_of_block
abbrev bL:=@List.getElem?_eq_some_iff
abbrev bM:=@List.mem_iff_getElem?
abbrev bN:=@Array.getElem?_setIfInBounds
abbrev bO:=@List.getElem?_append_right
abbrev bQ:=@decide_eq_true
abbrev bR:=@List.length_take
abbrev bS:=@Below.alloc
abbrev bT:=@decide_eq_true_eq
abbrev bU:=@Nat.mul_le_mul_right
abbrev bV:=@List.mem_append
abbrev bW:=@List.getElem?_set
abbrev bX:=@List.pairwise_cons
abbrev bY:=@List.mem_filter
abbrev bZ:=@List.getElem?_map
abbrev ce:=@List.flatMap_cons
abbrev cf:=@List.mem_range
abbrev ch:=@List.filter_cons
abbrev ci:=@List.length_filter_le
abbrev cj:=@World.ownsRow.cells
abbrev ck:=@of_decide_eq_true
abbrev cw:=@List.mem_cons
abbrev cA:=@List.getElem?_append_left
abbrev cB:=@Nat.zero_le
abbrev cC:=@List.length_drop
abbrev cD:=@List.getElem?_eq_none
abbrev cE:=@decide_eq_false
abbrev cF:=@List.any_eq_true
abbrev cG:=@List.all_eq_true
abbrev cH:=@List.mem_of_getElem?
abbrev cI:=@Nat.mul_le_mul
abbrev cJ:=@List.any_eq_false
abbrev cK:=@List.map_toArray
abbrev cL:=@List.map_append
abbrev cM:=@List.flatMap_append
abbrev cN:=@List.pairwise_iff_getElem
abbrev cO:=@Below.setCell
abbrev cP:=@Nat.lt_of_le_of_lt
abbrev cQ:=@Array.getElem?_toList
abbrev cR:=@Array.length_toList
abbrev cS:=@below_drewN
abbrev cT:=@Nat.le_succ
abbrev cU:=@bodyPost_ret
abbrev cV:=@bodyPost_end
abbrev cW:=@info_parts
abbrev vj(x:Int):Value:=.int .i64 x
abbrev pj(b:Nat):Value:=.pointer (some ⟨b,0,none⟩)
abbrev sj(b n c:Nat):Value:=.slice (some ⟨b,0,none⟩) n c
abbrev jj:Value:=.slice none 0 0
abbrev uj(a b:World):Prop:=Below a.heap.size a b
abbrev jA(b o:Nat):Addr:=⟨b,o,none⟩
variable{L S T:List (Int×Int)}{c frm kind:Int}{inside:Bool}{m n:Nat}
def big:Int:=9223372036854775807
def cnt(E:List Int)(x:Int):Nat:=(E.filter fun e=>decide (e<=x)).length
theorem Su(x:Int):cnt [] x=0:=rfl
theorem Cl(e:Int)(E:List Int)(x:Int):cnt (e::E) x=(if e<=x then 1 else 0)+cnt E x:=by
 unfold cnt;by_cases h:e<=x<;>simp[h]<;>omega
theorem CL(E:List Int)(x:Int):cnt E x<=E.length:=ci _ _
theorem BS(E:List Int)(x:Int)(h:∀e∈E,x<e):cnt E x=0:=by
 unfold cnt;rw[List.length_eq_zero_iff,List.filter_eq_nil_iff];intro e he;have:=h e he;simp;omega
theorem WE(E:List Int)(x:Int)(h:∀e∈E,e<=x):cnt E x=E.length:=by
 unfold cnt;rw[List.filter_eq_self.2];intro e he;simpa using h e he
theorem UL{E:List Int}(hs:E.Pairwise (· < ·)):E.Pairwise (· <= ·):=
 cN.2 fun i j hi hj h=>Int.le_of_lt (cN.1 hs i j hi hj h)
theorem Do(E:List Int)(hs:E.Pairwise (· <= ·))(x:Int):(∀k (h:k<E.length),k<cnt E x->E[k]<=x)/\(∀k (h:k<E.length),cnt E x<=k->x<E[k]):=by
 induction E with
 |nil=>exact⟨fun k h=>by simp at h,fun k h=>by simp at h⟩
 |cons e E ih=>
  obtain⟨h1,h2⟩:=bX.1 hs;obtain⟨i1,i2⟩:=ih h2;rw[Cl];by_cases he:e<=x
  ·rw[if_pos he];refine⟨fun k h hk=>?_,fun k h hk=>?_⟩
   ·cases k with
    |zero=>simpa using he
    |succ k=>simp at h ⊢;exact i1 k h (by omega)
   ·cases k with
    |zero=>omega
    |succ k=>simp at h ⊢;exact i2 k h (by omega)
  ·rw[if_neg he];have hz:cnt E x=0:=BS E x fun e' he'=>by have:=h1 e' he';omega
   refine⟨fun k h hk=>by omega,fun k h hk=>?_⟩;cases k with
   |zero=>simp;omega
   |succ k=>simp at h ⊢;exact i2 k h (by omega)
theorem Ns(E:List Int)(hs:E.Pairwise (· <= ·))(x:Int)(m:Nat)(hm:m<=E.length)(h1:∀k (h:k<E.length),k<m->E[k]<=x)(h2:∀k (h:k<E.length),m<=k->x<E[k]):cnt E x=m:=by
 obtain⟨a,b⟩:=Do E hs x;have hc:=CL E x;by_cases h:cnt E x<m
 ·have p:=b (cnt E x) (by omega) (aO _);have q:=h1 (cnt E x) (by omega) h;omega
 ·by_cases h':m<cnt E x
  ·have p:=a m (by omega) h';have q:=h2 m (by omega) (aO _);omega
  ·omega
def nth(E:List Int)(k:Nat):Int:=E.getD k big
theorem BZ(E:List Int)(k:Nat)(h:k<E.length):nth E k=E[k]:=by
 unfold nth;rw[bu,aU h];rfl
theorem Hu(E:List Int)(k:Nat)(h:E.length<=k):nth E k=big:=by
 unfold nth;rw[bu,cD h];rfl
theorem E8(E:List Int)(hs:E.Pairwise (· <= ·))(c x:Int)(hc:c<=x)(hx:x<nth E (cnt E c)):cnt E x=cnt E c:=by
 obtain⟨a,b⟩:=Do E hs c;refine Ns E hs x _ (CL E c) (fun k h hk=>by have:=a k h hk;omega) (fun k h hk=>?_);have hl:cnt E c<E.length:=by omega
 rw[BZ E _ hl]at hx;have:E[cnt E c]<=E[k]:=by
  by_cases e:cnt E c=k
  ·subst e;exact Int.le_refl _
  ·exact cN.1 hs _ _ hl h (by omega)
 omega
theorem ER(E:List Int)(hs:E.Pairwise (· <= ·))(c x:Int)(hc:c<=x)(hx:E.length<=cnt E c):cnt E x=cnt E c:=by
 obtain⟨a,b⟩:=Do E hs c;exact Ns E hs x _ (CL E c) (fun k h hk=>by have:=a k h hk;omega) (fun k h hk=>by omega)
theorem OR(E:List Int)(hs:E.Pairwise (· < ·))(c x:Int)(hc:c<x)(hx:x<=nth E (cnt E c))(hxb:x<big):
  cnt E x=if nth E (cnt E c)=x then cnt E c+1 else cnt E c:=by
 have hs':E.Pairwise (· <= ·):=UL hs;obtain⟨a,b⟩:=Do E hs' c;by_cases he:nth E (cnt E c)=x
 ·rw[if_pos he];have hl:cnt E c<E.length:=by
   by_cases h:cnt E c<E.length
   ·exact h
   ·rw[Hu E _ (by omega)]at he;omega
  rw[BZ E _ hl]at he;refine Ns E hs' x _ hl (fun k h hk=>?_) (fun k h hk=>?_)
  ·by_cases e:k=cnt E c
   ·subst e;omega
   ·have:=a k h (by omega);omega
  ·have:E[cnt E c]<E[k]:=cN.1 hs _ _ hl h (by omega);omega
 ·rw[if_neg he];by_cases hl:cnt E c<E.length
  ·exact E8 E hs' c x (by omega) (by omega)
  ·exact ER E hs' c x (by omega) (by omega)
theorem Kz(E:List Int)(lo hi:Int)(hs:E.Pairwise (· < ·))(hb:∀e∈E,lo<=e/\e<=hi):(E.length:Int)<=max 0 (hi-lo+1):=by
 induction E generalizing lo with
 |nil=>simp;omega
 |cons e E ih=>
  obtain⟨h1,h2⟩:=bX.1 hs;have he:=hb e (by simp);have:=ih (e+1) h2 fun x hx=>⟨by have:=h1 x hx;omega,(hb x (by simp[hx])).2⟩;simp;omega
def An(L:List (Int×Int)):List Int:=L.flatMap fun s=>[s.1,s.2]
theorem Dl:An []=[]:=rfl
theorem A5(s:Int×Int)(L:List (Int×Int)):An (s::L)=s.1::s.2::An L:=rfl
theorem CX(L M:List (Int×Int)):An (L++M)=An L++An M:=by simp[An]
theorem BR(L:List (Int×Int)):(An L).length=2*L.length:=by
 induction L with
 |nil=>rfl
 |cons s L ih=>rw[A5];simp[ih];omega
theorem QV(L:List (Int×Int))(k:Nat)(h:k<L.length):nth (An L) (2*k)=L[k].1:=by
 induction L generalizing k with
 |nil=>simp at h
 |cons s L ih=>
  cases k with
  |zero=>rfl
  |succ k=>simp at h ⊢;rw[<-ih k h];rfl
theorem S6(L:List (Int×Int))(k:Nat)(h:k<L.length):nth (An L) (2*k+1)=L[k].2:=by
 induction L generalizing k with
 |nil=>simp at h
 |cons s L ih=>
  cases k with
  |zero=>rfl
  |succ k=>simp at h ⊢;rw[<-ih k h];rfl
def Bi(L:List (Int×Int))(x:Int):Bool:=L.any fun s=>decide (s.1<=x/\x<s.2)
theorem Is(L:List (Int×Int))(x:Int)(h:∀e∈An L,x<e):Bi L x=false:=by
 unfold Bi;rw[cJ];intro s hs;have:=h s.1 (by unfold An;simp;exact⟨s.1,s.2,hs,Or.inl rfl⟩);simp;omega
theorem Dp(L:List (Int×Int))(hs:(An L).Pairwise (· < ·))(x:Int):Bi L x=decide (cnt (An L) x%2=1):=by
 induction L with
 |nil=>rfl
 |cons s L ih=>
  rw[A5]at hs;obtain⟨h1,h2⟩:=bX.1 hs;obtain⟨h3,h4⟩:=bX.1 h2;rw[A5,Cl,Cl];have ih:=ih h4;have hss:s.1<s.2:=h1 s.2 (by simp);have hm:Bi (s::L) x=(decide (s.1<=x/\x<s.2)||Bi L x):=rfl;rw[hm];by_cases a:s.1<=x
  ·by_cases b:s.2<=x
   ·rw[if_pos a,if_pos b,ih];have:¬x<s.2:=by omega
    simp[this];omega
   ·rw[if_pos a,if_neg b,Is L x fun e he=>by have:=h3 e he;omega];have hz:cnt (An L) x=0:=BS _ _ fun e he=>by have:=h3 e he;omega
    rw[hz];simp;omega
  ·rw[if_neg a,if_neg (by omega),Is L x fun e he=>by have:=h3 e he;omega];have hz:cnt (An L) x=0:=BS _ _ fun e he=>by have:=h3 e he;omega
   rw[hz];simp;omega
def keepB(kind:Int)(p q:Bool):Bool:=if kind=0 then p||q else if kind=1 then p&&q else if kind=2 then p&& !q else p != q
theorem Cf(kind:Int):keepB kind false false=false:=by
 unfold keepB;by_cases h0:kind=0<;>by_cases h1:kind=1<;>by_cases h2:kind=2<;>simp[h0,h1,h2]
def Ep(m:Nat):Bool:=decide (m%2=1)
structure Row(kind:Int)(S T:List (Int×Int))(c:Int)(m n:Nat)(frm:Int)(inside:Bool)(L:List (Int×Int)):Prop where
 hm:m=cnt (An S) c
 hn:n=cnt (An T) c
 hin:inside=keepB kind (Ep m) (Ep n)
 rising:(An L).Pairwise (· < ·)
 upto:∀e∈An L,e<=c
 fresh:inside=true->(∀e∈An L,e<frm)/\frm<=c/\-2000<=frm/\frm<=2000
 bd:∀e∈An L, -2000<=e/\e<=2000
 is:∀x,x<=c->keepB kind (Bi S x) (Bi T x)=(Bi L x||(inside&&decide (frm<=x)))
structure BO(S:List (Int×Int)):Prop where
 rising:(An S).Pairwise (· < ·)
 bd:∀e∈An S, -2000<=e/\e<=2000
theorem BO.weak(h:BO S):(An S).Pairwise (· <= ·):=UL h.rising
theorem BO.far(h:BO S):∀e∈An S,e<big:=fun e he=>by have:=h.bd e he;unfold big;omega
theorem BO.len(h:BO S):S.length<=2001:=by
 have:=Kz (An S) (-2000) 2000 h.rising h.bd;rw[BR]at this;omega
theorem Mw:BO []:=⟨List.Pairwise.nil,fun e he=>by simp[An]at he⟩
def BF(E F:List Int)(m n:Nat):Int:=min (nth E m) (nth F n)
theorem Kq(E:List Int)(k:Nat)(h:nth E k≠big):nth E k∈E:=by
 by_cases hk:k<E.length
 ·rw[BZ E k hk];exact aZ hk
 ·exact absurd (Hu E k (by omega)) h
theorem Nt(E:List Int)(hs:E.Pairwise (· <= ·))(c:Int)(hc:c<big):c<nth E (cnt E c):=by
 by_cases hk:cnt E c<E.length
 ·rw[BZ E _ hk];exact(Do E hs c).2 _ hk (aO _)
 ·rw[Hu E _ (by omega)];exact hc
theorem S7(hS:BO S)(hT:BO T):Row kind S T (-3000) 0 0 0 false []:=by
 have zS:cnt (An S) (-3000)=0:=BS _ _ fun e he=>by have:=hS.bd e he;omega
 have zT:cnt (An T) (-3000)=0:=BS _ _ fun e he=>by have:=hT.bd e he;omega
 refine⟨zS.symm,zT.symm,?_,List.Pairwise.nil,fun e he=>by simp[An]at he,fun h=>by simp at h,fun e he=>by simp[An]at he,fun x hx=>?_⟩
 ·rw[show Ep 0=false from rfl,Cf]
 ·rw[Is S x fun e he=>by have:=hS.bd e he;omega,Is T x fun e he=>by have:=hT.bd e he;omega,Cf];rfl
def Bd(E:List Int)(m:Nat)(x:Int):Nat:=if nth E m=x then m+1 else m
theorem Ej(L:List (Int×Int))(hs:(An L).Pairwise (· < ·))(x:Int)(h:∀e∈An L,e<=x):Bi L x=false:=by
 rw[Dp L hs,WE _ _ h,BR];simp
theorem It(hS:BO S)(hT:BO T)(h:Row kind S T c m n frm inside L)
  (x:Int) (hx:x=BF (An S) (An T) m n) (hb:x≠big) (hcb:c<big):
  c<x/\(-2000<=x/\x<=2000)/\Bd (An S) m x=cnt (An S) x/\Bd (An T) n x=cnt (An T) x/\
  (∀y,y<x->keepB kind (Bi S y) (Bi T y)=(Bi L y||(inside&&decide (frm<=y))))/\
  keepB kind (Bi S x) (Bi T x)=keepB kind (Ep (Bd (An S) m x)) (Ep (Bd (An T) n x)):=by
 have gS:=Nt (An S) hS.weak c hcb;have gT:=Nt (An T) hT.weak c hcb;rw[<-h.hm]at gS;rw[<-h.hn]at gT;unfold BF at hx;have hcx:c<x:=by omega
 have hxS:x<=nth (An S) m:=by omega
 have hxT:x<=nth (An T) n:=by omega
 have hxb: -2000<=x/\x<=2000:=by
  by_cases e:x=nth (An S) m
  ·rw[e]at hb ⊢;exact hS.bd _ (Kq _ _ hb)
  ·have e':x=nth (An T) n:=by omega
   rw[e']at hb ⊢;exact hT.bd _ (Kq _ _ hb)
 have hbig:x<big:=by unfold big;omega
 have p1:Bd (An S) m x=cnt (An S) x:=by
  rw[OR (An S) hS.rising c x hcx (by rw[<-h.hm];exact hxS) hbig,<-h.hm];rfl
 have p2:Bd (An T) n x=cnt (An T) x:=by
  rw[OR (An T) hT.rising c x hcx (by rw[<-h.hn];exact hxT) hbig,<-h.hn];rfl
 refine⟨hcx,hxb,p1,p2,fun y hy=>?_,?_⟩
 ·by_cases hyc:y<=c
  ·exact h.is y hyc
  ·rw[Dp S hS.rising,Dp T hT.rising,E8 _ hS.weak c y (by omega) (by rw[<-h.hm];omega),E8 _ hT.weak c y (by omega) (by rw[<-h.hn];omega),<-h.hm,<-h.hn];rw[Ej L h.rising y fun e he=>by have:=h.upto e he;omega];have hin:=h.hin;unfold Ep at hin;rw[<-hin];cases inside with
   |false=>rfl
   |true=>
    have:=(h.fresh rfl).2.1;simp;omega
 ·rw[Dp S hS.rising,Dp T hT.rising,p1,p2];rfl
theorem UM(hS:BO S)(hT:BO T)(h:Row kind S T c m n frm inside L)
  (x:Int) (hx:x=BF (An S) (An T) m n) (hb:x≠big) (hcb:c<big)
  (hnow:keepB kind (Ep (Bd (An S) m x)) (Ep (Bd (An T) n x))=inside):Row kind S T x (Bd (An S) m x) (Bd (An T) n x) frm inside L:=by
 obtain⟨hcx,hxb,p1,p2,hlt,hat⟩:=It hS hT h x hx hb hcb;refine⟨p1,p2,hnow.symm,h.rising,fun e he=>by have:=h.upto e he;omega,fun hi=>?_,h.bd,fun y hy=>?_⟩
 ·obtain⟨a,b,d⟩:=h.fresh hi;exact⟨a,by omega,d⟩
 ·by_cases e:y=x
  ·subst e;rw[hat,hnow,Ej L h.rising y fun e he=>by have:=h.upto e he;omega];cases inside with
   |false=>rfl
   |true=>have:=(h.fresh rfl).2.1;simp;omega
  ·exact hlt y (by omega)
theorem QW(hS:BO S)(hT:BO T)(h:Row kind S T c m n frm false L)
  (x:Int) (hx:x=BF (An S) (An T) m n) (hb:x≠big) (hcb:c<big)
  (hnow:keepB kind (Ep (Bd (An S) m x)) (Ep (Bd (An T) n x))=true):Row kind S T x (Bd (An S) m x) (Bd (An T) n x) x true L:=by
 obtain⟨hcx,hxb,p1,p2,hlt,hat⟩:=It hS hT h x hx hb hcb;refine⟨p1,p2,hnow.symm,h.rising,fun e he=>by have:=h.upto e he;omega,fun _=>⟨fun e he=>by have:=h.upto e he;omega,Int.le_refl _,hxb⟩,h.bd,fun y hy=>?_⟩;by_cases e:y=x
 ·subst e;rw[hat,hnow];simp
 ·rw[hlt y (by omega)];have:¬x<=y:=by omega
  simp[this]
theorem UN(hS:BO S)(hT:BO T)(h:Row kind S T c m n frm true L)
  (x:Int) (hx:x=BF (An S) (An T) m n) (hb:x≠big) (hcb:c<big)
  (hnow:keepB kind (Ep (Bd (An S) m x)) (Ep (Bd (An T) n x))=false):Row kind S T x (Bd (An S) m x) (Bd (An T) n x) x false (L++[(frm,x)]):=by
 obtain⟨hcx,hxb,p1,p2,hlt,hat⟩:=It hS hT h x hx hb hcb;obtain⟨f1,f2,f3⟩:=h.fresh rfl;have hr:(An (L++[(frm,x)])).Pairwise (· < ·):=by
  rw[CX,List.pairwise_append];refine⟨h.rising,?_,fun a ha b hb=>?_⟩
  ·rw[A5,Dl];simp;omega
  ·have:=f1 a ha;rw[A5,Dl]at hb;simp at hb;omega
 refine⟨p1,p2,hnow.symm,hr,fun e he=>?_,fun h=>by simp at h,fun e he=>?_,fun y hy=>?_⟩
 ·rw[CX,A5,Dl]at he;simp at he;rcases he with he|he|he
  ·have:=h.upto e he;omega
  ·omega
  ·omega
 ·rw[CX,A5,Dl]at he;simp at he;rcases he with he|he|he
  ·exact h.bd e he
  ·subst he;exact f3
  ·subst he;exact hxb
 ·have hm:Bi (L++[(frm,x)]) y=(Bi L y||decide (frm<=y/\y<x)):=by unfold Bi;simp
  rw[hm];by_cases e:y=x
  ·subst e;rw[hat,hnow,Ej L h.rising y fun e he=>by have:=h.upto e he;omega];simp
  ·rw[hlt y (by omega)];have:y<x:=by omega
   simp[this]
theorem UO(hS:BO S)(hT:BO T)(h:Row kind S T c m n frm inside L)
  (hx:BF (An S) (An T) m n=big):BO L/\∀x,Bi L x=keepB kind (Bi S x) (Bi T x):=by
 have aS:(An S).length<=m:=by
  by_cases e:m<(An S).length
  ·have:=hS.far _ (aZ e);rw[<-BZ _ _ e]at this;unfold BF at hx;omega
  ·omega
 have aT:(An T).length<=n:=by
  by_cases e:n<(An T).length
  ·have:=hT.far _ (aZ e);rw[<-BZ _ _ e]at this;unfold BF at hx;omega
  ·omega
 have eS:m=(An S).length:=Nat.le_antisymm (h.hm▸CL _ _) aS;have eT:n=(An T).length:=Nat.le_antisymm (h.hn▸CL _ _) aT;have oS:Ep m=false:=by rw[eS,BR];unfold Ep;simp
 have oT:Ep n=false:=by rw[eT,BR];unfold Ep;simp
 have hi:inside=false:=by rw[h.hin,oS,oT,Cf]
 subst hi;refine⟨⟨h.rising,h.bd⟩,fun x=>?_⟩;by_cases hc:x<=c
 ·rw[h.is x hc];simp
 ·rw[Ej L h.rising x fun e he=>by have:=h.upto e he;omega];rw[Dp S hS.rising,Dp T hT.rising,ER _ hS.weak c x (by omega) (by rw[<-h.hm];exact aS),ER _ hT.weak c x (by omega) (by rw[<-h.hn];exact aT),<-h.hm,<-h.hn];unfold Ep at oS oT;rw[oS,oT,Cf]
variable{A B O:List (Int×Int×List (Int×Int))}{b:Int×Int×List (Int×Int)}{i j:Nat}
def Ag(A:List (Int×Int×List (Int×Int))):List Int:=A.flatMap fun b=>[b.1,b.2.1]
theorem Bw:Ag []=[]:=rfl
theorem AB(b:Int×Int×List (Int×Int))(A:List (Int×Int×List (Int×Int))):Ag (b::A)=b.1::b.2.1::Ag A:=rfl
theorem By(A B:List (Int×Int×List (Int×Int))):Ag (A++B)=Ag A++Ag B:=by simp[Ag]
theorem BT(A:List (Int×Int×List (Int×Int))):(Ag A).length=2*A.length:=by
 induction A with
 |nil=>rfl
 |cons b A ih=>rw[AB];simp[ih];omega
theorem OS(A:List (Int×Int×List (Int×Int)))(k:Nat)(h:k<A.length):nth (Ag A) (2*k)=A[k].1:=by
 induction A generalizing k with
 |nil=>simp at h
 |cons s L ih=>
  cases k with
  |zero=>rfl
  |succ k=>simp at h ⊢;rw[<-ih k h];rfl
theorem QZ(A:List (Int×Int×List (Int×Int)))(k:Nat)(h:k<A.length):nth (Ag A) (2*k+1)=A[k].2.1:=by
 induction A generalizing k with
 |nil=>simp at h
 |cons s L ih=>
  cases k with
  |zero=>rfl
  |succ k=>simp at h ⊢;rw[<-ih k h];rfl
theorem Nu(h:b∈A):b.1∈Ag A:=by
 unfold Ag;rw[List.mem_flatMap];exact⟨b,h,by simp⟩
theorem Nv(h:b∈A):b.2.1∈Ag A:=by
 unfold Ag;rw[List.mem_flatMap];exact⟨b,h,by simp⟩
structure AL(A:List (Int×Int×List (Int×Int))):Prop where
 lv:(Ag A).Pairwise (· <= ·)
 tb:∀b∈A,b.1<b.2.1
 bd:∀e∈Ag A, -2000<=e/\e<=2000
 sp:∀b∈A,BO b.2.2/\b.2.2≠[]
 df:∀k (h:k+1<A.length),A[k].2.1=A[k+1].1->A[k].2.2≠A[k+1].2.2
theorem C7:AL []:=⟨List.Pairwise.nil,fun b hb=>by simp at hb,fun e he=>by simp[Ag]at he,fun b hb=>by simp at hb,fun k h=>by simp at h⟩
def Ay(A:List (Int×Int×List (Int×Int)))(x y:Int):Bool:=A.any fun b=>decide (b.1<=y/\y<b.2.1)&&Bi b.2.2 x
def rowAt(A:List (Int×Int×List (Int×Int)))(k:Nat):List (Int×Int):=if k%2=0 then []else((A[k/2]?).map fun b=>b.2.2).getD []
theorem KA(A:List (Int×Int×List (Int×Int)))(k:Nat):rowAt A (2*k)=[]:=by unfold rowAt;simp
theorem Mx(A:List (Int×Int×List (Int×Int)))(k:Nat)(h:k<A.length):rowAt A (2*k+1)=A[k].2.2:=by
 unfold rowAt;rw[if_neg (by omega),show(2*k+1)/2=k from by omega,aU h];rfl
theorem JP(h:AL A)(k:Nat):BO (rowAt A k):=by
 unfold rowAt;split
 ·exact Mw
 ·cases e:A[k/2]?with
  |none=>exact Mw
  |some b=>exact(h.sp b (cH e)).1
theorem Dq(A:List (Int×Int×List (Int×Int)))(x y:Int)(h:∀e∈Ag A,y<e):Ay A x y=false:=by
 unfold Ay;rw[cJ];intro b hb;have:=h b.1 (Nu hb);have:¬(b.1<=y/\y<b.2.1):=by omega
 simp[this]
theorem Ek(A:List (Int×Int×List (Int×Int)))(x y:Int)(h:∀e∈Ag A,e<=y):Ay A x y=false:=by
 unfold Ay;rw[cJ];intro b hb;have:=h b.2.1 (Nv hb);have:¬(b.1<=y/\y<b.2.1):=by omega
 simp[this]
theorem E9(b:Int×Int×List (Int×Int))(A:List (Int×Int×List (Int×Int)))(x y:Int):Ay (b::A) x y=((decide (b.1<=y/\y<b.2.1)&&Bi b.2.2 x)||Ay A x y):=rfl
theorem FW(A B:List (Int×Int×List (Int×Int)))(x y:Int):Ay (A++B) x y=(Ay A x y||Ay B x y):=by unfold Ay;rw[List.any_append]
theorem OT(b:Int×Int×List (Int×Int))(A:List (Int×Int×List (Int×Int)))(k:Nat):rowAt (b::A) (2+k)=rowAt A k:=by
 unfold rowAt;rw[show(2+k)%2=k%2 from by omega,show(2+k)/2=k/2+1 from by omega];rfl
theorem OU(A:List (Int×Int×List (Int×Int)))(hl:(Ag A).Pairwise (· <= ·))(ht:∀b∈A,b.1<b.2.1)(x y:Int):Ay A x y=Bi (rowAt A (cnt (Ag A) y)) x:=by
 induction A with
 |nil=>rfl
 |cons b A ih=>
  rw[AB]at hl;obtain⟨h1,h2⟩:=bX.1 hl;obtain⟨h3,h4⟩:=bX.1 h2;have ih:=ih h4 fun b hb=>ht b (by simp[hb]);have htb:=ht b (by simp);rw[AB,Cl,Cl,E9];by_cases a:b.1<=y
  ·by_cases c:b.2.1<=y
   ·rw[if_pos a,if_pos c,ih,show 1+(1+cnt (Ag A) y)=2+cnt (Ag A) y from by omega,OT];have:¬(b.1<=y/\y<b.2.1):=by omega
    simp[this]
   ·have hz:cnt (Ag A) y=0:=BS _ _ fun e he=>by have:=h3 e he;omega
    rw[if_pos a,if_neg c,hz,Dq A x y fun e he=>by have:=h3 e he;omega];have:b.1<=y/\y<b.2.1:=by omega
    simp[this,rowAt]
  ·have hz:cnt (Ag A) y=0:=BS _ _ fun e he=>by have:=h3 e he;omega
   rw[if_neg a,if_neg (by omega),hz,Dq A x y fun e he=>by have:=h3 e he;omega];have:¬(b.1<=y/\y<b.2.1):=by omega
   simp[this,rowAt,Bi]
def CY(O:List (Int×Int×List (Int×Int)))(b:Int×Int×List (Int×Int)):List (Int×Int×List (Int×Int)):=
 if b.2.2=[]then O else
  match O.getLast? with
  |some l=>if l.2.1=b.1/\l.2.2=b.2.2 then O.dropLast++[(l.1,b.2.1,l.2.2)]else O++[b]
  |none=>[b]
structure OV(kind:Int)(A B:List (Int×Int×List (Int×Int)))(c:Int)(i j:Nat)(O:List (Int×Int×List (Int×Int))):Prop where
 hi:i=cnt (Ag A) c
 hj:j=cnt (Ag B) c
 good:AL O
 upto:∀e∈Ag O,e<=BF (Ag A) (Ag B) i j
 is:∀x y,y<BF (Ag A) (Ag B) i j->Ay O x y=keepB kind (Ay A x y) (Ay B x y)
theorem AL.far(h:AL A):∀e∈Ag A,e<big:=fun e he=>by have:=h.bd e he;unfold big;omega
theorem Q0(hA:AL A)(hB:AL B):OV kind A B (-3000) 0 0 []:=by
 have zA:cnt (Ag A) (-3000)=0:=BS _ _ fun e he=>by have:=hA.bd e he;omega
 have zB:cnt (Ag B) (-3000)=0:=BS _ _ fun e he=>by have:=hB.bd e he;omega
 refine⟨zA.symm,zB.symm,C7,fun e he=>by simp[Ag]at he,fun x y hy=>?_⟩;have kA:Ay A x y=false:=by
  refine Dq A x y fun e he=>?_;obtain⟨k,hk,rfl⟩:=List.getElem_of_mem he;have h0:0<(Ag A).length:=by omega
  have:nth (Ag A) 0<=(Ag A)[k]:=by
   rw[BZ _ _ h0];by_cases e:k=0
   ·subst e;exact Int.le_refl _
   ·exact cN.1 hA.lv _ _ h0 hk (by omega)
  unfold BF at hy;omega
 have kB:Ay B x y=false:=by
  refine Dq B x y fun e he=>?_;obtain⟨k,hk,rfl⟩:=List.getElem_of_mem he;have h0:0<(Ag B).length:=by omega
  have:nth (Ag B) 0<=(Ag B)[k]:=by
   rw[BZ _ _ h0];by_cases e:k=0
   ·subst e;exact Int.le_refl _
   ·exact cN.1 hB.lv _ _ h0 hk (by omega)
  unfold BF at hy;omega
 rw[kA,kB,Cf];rfl
theorem DU{α:Type}(O:List α)(l:α)(h:O.getLast? =some l):O=O.dropLast++[l]:=by
 cases O with
 |nil=>simp at h
 |cons a O=>
  rw[List.getLast?_eq_some_getLast (by simp)]at h;simp only[Option.some.injEq]at h;rw[<-h];exact(List.dropLast_concat_getLast (by simp)).symm
theorem OW(h:AL O)(hup:∀e∈Ag O,e<=b.1)(htb:b.1<b.2.1)(h0: -2000<=b.1)(h1:b.2.2≠[]->b.2.1<=2000)(hs:BO b.2.2):AL (CY O b):=by
 unfold CY;split
 ·exact h
 ·rename_i hne
  have h1:=h1 hne;split
  ·rename_i l hl
   have hO:=DU O l hl;generalize hD:O.dropLast=D at hO;subst hO;have hlm:l∈D++[l]:=by simp
   have hlv:=h.lv;rw[By,AB,Bw,List.pairwise_append]at hlv;obtain⟨v1,v2,v3⟩:=hlv;have ltb:=h.tb l hlm;have lub:=hup l.2.1 (Nv hlm);split
   ·rename_i hc
    obtain⟨c1,c2⟩:=hc;refine⟨?_,?_,?_,?_,?_⟩
    ·rw[By,AB,Bw,List.pairwise_append];refine⟨v1,?_,fun a ha e he=>?_⟩
     ·simp;omega
     ·have q:=v3 a ha l.1 (by simp);simp at he;rcases he with he|he
      ·omega
      ·omega
    ·intro b' hb';simp at hb';rcases hb' with hb'|hb'
     ·exact h.tb b' (by simp[hb'])
     ·subst hb';show l.1<b.2.1;omega
    ·intro e he;rw[By,AB,Bw]at he;simp at he;rcases he with he|he|he
     ·exact h.bd e (by rw[By];simp[he])
     ·subst he;exact h.bd _ (Nu hlm)
     ·subst he;omega
    ·intro b' hb';simp at hb';rcases hb' with hb'|hb'
     ·exact h.sp b' (by simp[hb'])
     ·subst hb';exact h.sp l hlm
    ·intro k hk e;simp at hk;by_cases hkD:k+1<D.length
     ·have:=h.df k (by simp;omega);simp only[List.getElem_append_left (show k<D.length by omega),List.getElem_append_left hkD]at e this ⊢;exact this e
     ·have ek:k+1=D.length:=by omega
      have:=h.df k (by simp;omega);have a1:(D++[l])[k+1]'(by simp;omega)=l:=by simp[ek]
      have a2:(D++[(l.1,b.2.1,l.2.2)])[k+1]'(by simp;omega)=(l.1,b.2.1,l.2.2):=by simp[ek]
      rw[a1]at this;rw[a2]at e ⊢;simp only[List.getElem_append_left (show k<D.length by omega)]at e this ⊢;exact this e
   ·rename_i hc
    refine⟨?_,?_,?_,?_,?_⟩
    ·rw[By,List.pairwise_append];refine⟨h.lv,?_,fun a ha e he=>?_⟩
     ·rw[AB,Bw];simp;omega
     ·have:=hup a ha;rw[AB,Bw]at he;simp at he;omega
    ·intro b' hb';rw[bV]at hb';rcases hb' with hb'|hb'
     ·exact h.tb b' hb'
     ·simp at hb';subst hb';exact htb
    ·intro e he;rw[By,bV]at he;rcases he with he|he
     ·exact h.bd e he
     ·rw[AB,Bw]at he;simp at he;rcases he with he|he<;>subst he<;>omega
    ·intro b' hb';rw[bV]at hb';rcases hb' with hb'|hb'
     ·exact h.sp b' hb'
     ·simp at hb';subst hb';exact⟨hs,hne⟩
    ·intro k hk e;by_cases hkO:k+1<(D++[l]).length
     ·have:=h.df k hkO;simp only[List.getElem_append_left (show k<(D++[l]).length by omega),List.getElem_append_left hkO]at e ⊢;exact this e
     ·have ek:k=D.length:=by simp at hk hkO;omega
      subst ek;have a1:(D++[l]++[b])[D.length]'(by simp)=l:=by simp
      have a2:(D++[l]++[b])[D.length+1]'(by simp)=b:=by simp
      rw[a1,a2]at e ⊢;exact fun q=>hc ⟨e,q⟩
  ·rename_i hl
   have hO:O=[]:=by
    cases O with
    |nil=>rfl
    |cons a O=>rw[List.getLast?_eq_some_getLast (by simp)]at hl;simp at hl
   subst hO;refine⟨?_,?_,?_,?_,?_⟩
   ·rw[AB,Bw];simp;omega
   ·intro b' hb';simp at hb';subst hb';exact htb
   ·intro e he;rw[AB,Bw]at he;simp at he;rcases he with he|he<;>subst he<;>omega
   ·intro b' hb';simp at hb';subst hb';exact⟨hs,hne⟩
   ·intro k hk;simp at hk
theorem OX(O:List (Int×Int×List (Int×Int)))(b:Int×Int×List (Int×Int))(x y:Int)(htb:b.1<b.2.1)(hO:∀b∈O,b.1<b.2.1):Ay (CY O b) x y=(Ay O x y||(decide (b.1<=y/\y<b.2.1)&&Bi b.2.2 x)):=by
 unfold CY;split
 ·rename_i h
  rw[h];simp[Bi]
 ·split
  ·rename_i l hl
   have hOe:=DU O l hl;generalize O.dropLast=D at hOe;subst hOe;have hl:=hO l (by simp);split
   ·rename_i hc
    obtain⟨c1,c2⟩:=hc;have:∀(p:Int×Int×List (Int×Int)),Ay [p] x y=(decide (p.1<=y/\y<p.2.1)&&Bi p.2.2 x):=fun p=>by unfold Ay;simp
    rw[FW,FW,this,this,<-c2,Bool.or_assoc,<-Bool.and_or_distrib_right];congr 2
    rw[Bool.eq_iff_iff];simp;omega
   ·have:∀(p:Int×Int×List (Int×Int)),Ay [p] x y=(decide (p.1<=y/\y<p.2.1)&&Bi p.2.2 x):=fun p=>by unfold Ay;simp
    rw[FW,this]
  ·rename_i hl
   have hO:O=[]:=by
    cases O with
    |nil=>rfl
    |cons a O=>rw[List.getLast?_eq_some_getLast (by simp)]at hl;simp at hl
   subst hO;unfold Ay;simp
theorem KB(O:List (Int×Int×List (Int×Int)))(b:Int×Int×List (Int×Int))(M:Int)(h:∀e∈Ag O,e<=M)(h1:b.1<=M)(h2:b.2.1<=M):∀e∈Ag (CY O b),e<=M:=by
 unfold CY;split
 ·exact h
 ·split
  ·rename_i l hl
   have hOe:=DU O l hl;generalize O.dropLast=D at hOe;subst hOe;split
   ·intro e he;rw[By,AB,Bw]at he;simp at he;rcases he with he|he|he
    ·exact h e (by rw[By];simp[he])
    ·subst he;exact h _ (Nu (by simp))
    ·subst he;exact h2
   ·intro e he;rw[By,bV]at he;rcases he with he|he
    ·exact h e he
    ·rw[AB,Bw]at he;simp at he;rcases he with he|he<;>subst he<;>assumption
  ·intro e he;rw[AB,Bw]at he;simp at he;rcases he with he|he<;>subst he<;>assumption
theorem OY(hA:AL A)(hB:AL B)(c:Int)(hc:c<big):c<BF (Ag A) (Ag B) (cnt (Ag A) c) (cnt (Ag B) c):=by
 have a:=Nt (Ag A) hA.lv c hc;have b:=Nt (Ag B) hB.lv c hc;unfold BF;omega
theorem Jd(hA:AL A)(hB:AL B)(h:OV kind A B c i j O)(hcb:c<big)
  (top:Int) (ht:top=BF (Ag A) (Ag B) i j) (hb:top≠big):c<top/\(-2000<=top/\top<=2000):=by
 have hc:=OY hA hB c hcb;rw[<-h.hi,<-h.hj,<-ht]at hc;refine⟨hc,?_⟩;unfold BF at ht;by_cases e:top=nth (Ag A) i
 ·rw[e]at hb ⊢;exact hA.bd _ (Kq _ _ hb)
 ·have e':top=nth (Ag B) j:=by omega
  rw[e']at hb ⊢;exact hB.bd _ (Kq _ _ hb)
theorem Sv(hA:AL A)(k:Nat)(hk:k<=(Ag A).length)(ho:k%2=1):nth (Ag A) k<=2000:=by
 have hl:k<(Ag A).length:=by rw[BT]at hk ⊢;omega
 rw[BZ _ _ hl];exact(hA.bd _ (aZ hl)).2
theorem S8(hA:AL A)(hB:AL B)(h:OV kind A B c i j O)(hcb:c<big)
  (top:Int) (ht:top=BF (Ag A) (Ag B) i j) (hb:top≠big) (i' j':Nat) (hi':i'=cnt (Ag A) top) (hj':j'=cnt (Ag B) top)
  (bottom:Int) (hbot:bottom=BF (Ag A) (Ag B) i' j') (L:List (Int×Int)) (hL:BO L)
  (hmem:∀x,Bi L x=keepB kind (Bi (rowAt A i') x) (Bi (rowAt B j') x)):OV kind A B top i' j' (CY O (top,bottom,L)):=by
 obtain⟨hct,ht1⟩:=Jd hA hB h hcb top ht hb;have htb:top<big:=by unfold big;omega
 have hgt:=OY hA hB top htb;rw[<-hi',<-hj',<-hbot]at hgt;have hfin:L≠[]->bottom<=2000:=by
  intro hne;by_cases ho:i'%2=1
  ·have:=Sv hA i' (by rw[hi'];exact CL _ _) ho;rw[hbot];unfold BF;omega
  ·by_cases ho':j'%2=1
   ·have:=Sv hB j' (by rw[hj'];exact CL _ _) ho';rw[hbot];unfold BF;omega
   ·cases L with
    |nil=>exact absurd rfl hne
    |cons s L=>
     have hr:=hL.rising;rw[A5]at hr;have hlt:s.1<s.2:=(bX.1 hr).1 s.2 (by simp);have hm:=hmem s.1;have e1:rowAt A i'=[]:=by unfold rowAt;rw[if_pos (by omega)]
     have e2:rowAt B j'=[]:=by unfold rowAt;rw[if_pos (by omega)]
     rw[e1,e2]at hm;have:Bi (s::L) s.1=true:=by unfold Bi;simp;left;exact hlt
     rw[this]at hm;have:Bi [] s.1=false:=rfl;rw[this,Cf]at hm;simp at hm
 have hup:∀e∈Ag O,e<=top:=by rw[ht];exact h.upto
 refine⟨hi',hj',OW h.good hup hgt ht1.1 hfin hL,?_,fun x y hy=>?_⟩
 ·rw[<-hbot];exact KB O _ bottom (fun e he=>by have:=hup e he;omega) (by show top<=bottom;omega) (Int.le_refl _)
 ·rw[<-hbot]at hy;rw[OX O _ x y hgt h.good.tb];show(Ay O x y||(decide (top<=y/\y<bottom)&&Bi L x))=_;by_cases hyt:y<top
  ·have:¬(top<=y/\y<bottom):=by omega
   simp only[this,decide_false,Bool.false_and,Bool.or_false];exact h.is x y (by rw[<-ht];exact hyt)
  ·rw[Ek O x y fun e he=>by have:=hup e he;omega];have e1:Ay A x y=Bi (rowAt A i') x:=by
    rw[OU A hA.lv hA.tb,E8 _ hA.lv top y (by omega) (by rw[<-hi'];unfold BF at hbot;omega),<-hi']
   have e2:Ay B x y=Bi (rowAt B j') x:=by
    rw[OU B hB.lv hB.tb,E8 _ hB.lv top y (by omega) (by rw[<-hj'];unfold BF at hbot;omega),<-hj']
   rw[e1,e2,<-hmem x];have:top<=y/\y<bottom:=by omega
   simp[this]
theorem S9(hA:AL A)(hB:AL B)(h:OV kind A B c i j O)
  (hx:BF (Ag A) (Ag B) i j=big):∀x y,Ay O x y=keepB kind (Ay A x y) (Ay B x y):=by
 intro x y;by_cases hy:y<big
 ·exact h.is x y (by rw[hx];exact hy)
 ·rw[Ek A x y fun e he=>by have:=hA.far e he;omega,Ek B x y fun e he=>by have:=hB.far e he;omega,Ek O x y fun e he=>by have:=h.good.far e he;omega,Cf]
theorem AL.len(h:AL A):A.length<=4001:=by
 have key:∀(A:List (Int×Int×List (Int×Int))) (lo:Int),(Ag A).Pairwise (· <= ·)->(∀b∈A,b.1<b.2.1)->(∀e∈Ag A,lo<=e/\e<=2000)->(A.length:Int)<=max 0 (2000-lo+1):=by
  intro A;induction A with
  |nil=>intro lo _ _ _;simp;omega
  |cons b A ih=>
   intro lo h1 h2 h3;rw[AB]at h1 h3;obtain⟨a1,a2⟩:=bX.1 h1;obtain⟨a3,a4⟩:=bX.1 a2;have hb:=h2 b (by simp);have g1:=h3 b.1 (by simp);have g2:=h3 b.2.1 (by simp);have:=ih b.2.1 a4 (fun b hb=>h2 b (by simp[hb])) fun e he=>⟨a3 e he,(h3 e (by simp[he])).2⟩;simp;omega
 have:=key A (-2000) h.lv h.tb h.bd;omega
theorem WF(E:List Int)(hs:E.Pairwise (· <= ·))(c x:Int)(hc:c<x)(k:Nat)(hk:cnt E c<=k)(hkl:k<=E.length)(hrun:∀j,cnt E c<=j->j<k->nth E j=x)(hx:k<E.length->x<nth E k):cnt E x=k:=by
 obtain⟨a,b⟩:=Do E hs c;refine Ns E hs x k hkl (fun j hj h=>?_) (fun j hj h=>?_)
 ·by_cases e:j<cnt E c
  ·have:=a j hj e;omega
  ·have:=hrun j (by omega) h;rw[BZ E j hj]at this;omega
 ·have h1:=hx (by omega);rw[BZ E k (by omega)]at h1;by_cases e:j=k
  ·subst e;exact h1
  ·have:=cN.1 hs k j (by omega) hj (by omega);omega
variable{b:Nat}{v:Value}{w w':World}
theorem Ab{o:Obj}(h:w.heap[b]?=some o):b<w.heap.size:=by
 rcases Nat.lt_or_ge b w.heap.size with hlt|hge
 ·exact hlt
 ·rw[Array.getElem?_eq_none hge]at h;cases h
theorem Ak{off:Nat}(h:w.cell? (jA b off)=some v):b<w.heap.size:=by
 rcases Nat.lt_or_ge b w.heap.size with hlt|hge
 ·exact hlt
 ·rw[World.cell?,Array.getElem?_eq_none hge]at h;simp at h
theorem BI(w:World)(o:Obj)(b off:Nat)(h:b<w.heap.size):(w.alloc o).cell? (jA b off)=w.cell? (jA b off):=
 aV (a:=(jA b off)) (Below.heap_alloc w o b h)
theorem Ad(w:World)(o:Obj)(b:Nat)(h:b<w.heap.size):(w.alloc o).heap[b]?=w.heap[b]? :=Below.heap_alloc w o b h
def AS(w:World)(v:Value)(L:List (Int×Int)):Prop:=
 (v=jj/\L=[])\/
 ∃b c cur,v=sj b L.length c/\L≠[]/\w.heap[b]?=some (.cells cur 194 (0,0))/\∀j,j<2*L.length->cur[j]?=some (vj (nth (An L) j))
theorem AS.kept(h:AS w v L)(hk:∀(b:Nat) (cur:Array Value),w.heap[b]?=some (Obj.cells cur 194 (0,0))->w'.heap[b]?=w.heap[b]?):AS w' v L:=by
 rcases h with h|⟨b,c,cur,hv,hne,hb,hc⟩
 ·exact .inl h
 ·exact .inr ⟨b,c,cur,hv,hne,(hk b cur hb).trans hb,hc⟩
theorem AS.below(h:AS w v L)(hb:uj w w'):AS w' v L:=
 h.kept fun _ _ e=>hb.block _ (Ab e)
def AJ(w:World)(v:Value)(A:List (Int×Int×List (Int×Int))):Prop:=
 (v=jj/\A=[])\/
 ∃b c,v=sj b A.length c/\A≠[]/\∀k (h:k<A.length),w.cell? (jA b (k*3))=some (vj A[k].1)/\w.cell? (jA b (k*3+1))=some (vj A[k].2.1)/\
  ∃u,w.cell? (jA b (k*3+2))=some u/\AS w u A[k].2.2
theorem AJ.below{A:List (Int×Int×List (Int×Int))}(h:AJ w v A)(hb:uj w w'):AJ w' v A:=by
 rcases h with h|⟨b,c,hv,hne,hc⟩
 ·exact .inl h
 ·refine .inr ⟨b,c,hv,hne,fun k hk=>?_⟩;obtain⟨h1,h2,u,h3,h4⟩:=hc k hk;have hl:=Ak h1;exact⟨(hb.cell hl).trans h1,(hb.cell hl).trans h2,u,(hb.cell hl).trans h3,h4.below hb⟩
theorem Hv:big=9223372036854775807:=rfl
theorem CI{k:IntKind}{a b:Int}(h:a=b):Ending.returned (.int k a)=.returned (.int k b):=by rw[h]
theorem Cm{a b:Bool}(h:a=b):Ending.returned (.bool a)=.returned (.bool b):=by rw[h]
theorem KC(L:List (Int×Int))(v:Value)(k:Nat)(w:World)(h:AS w v L)(hl:L.length<=10000)(hk:k<=2*L.length):
  Calls prog 153 #[v,vj k] w fun e w'=>e=.returned (vj (nth (An L) k))/\w'=w:=by
 rcases h with⟨rfl,rfl⟩|⟨b,c,cur,rfl,hne,hb,hc⟩
 ·have hk0:k=0:=by simpa using hk
  subst hk0;go_enter func153,ntmps153
  go_wp2;go_ret;exact⟨rfl,rfl⟩
 ·generalize hn:L.length=n at*;by_cases e:k=2*n
  ·have e1:nth (An L) k=big:=Hu _ _ (by rw[BR];omega);have E:Hid (nth (An L) k=big):=e1;subst e;clear e1 hc hb hk hn;go_enter func153,ntmps153
   go_wp2;go_ret;exact⟨CI E.out.symm,rfl⟩
  ·have hcell:w.cell? (jA b k)=some (vj (nth (An L) k)):=by
    rw[aP w b k cur _ _ hb];exact hc k (by omega)
   generalize nth (An L) k=p at*;clear hc hb hn hne;obtain⟨q,r,hq,hr⟩:∃q r:Nat,k=q*2+r/\(r=0\/r=1):=⟨k/2,k%2,by omega,by omega⟩;have hd:(k:Int)/2=q:=by omega
   have hqn:q<n:=by omega
   have hlt:(k:Int)<2*(n:Int):=by omega
   have hlt2:k<2*n:=by omega
   rw[hq]at hcell;rcases hr with rfl|rfl
   ·have hm:(k:Int)%2=0:=by omega
    simp only[Nat.add_zero]at hcell;clear hq e hk;go_enter func153,ntmps153
    go_wp2;go_ret;exact⟨rfl,rfl⟩
   ·have hm:(k:Int)%2=1:=by omega
    clear hq e hk;go_enter func153,ntmps153
    go_wp2;go_ret;exact⟨rfl,rfl⟩
theorem Iu(L:List (Int×Int))(v:Value)(k:Nat)(x:Int)(w:World)(h:AS w v L)(hl:L.length<=10000)(hk:k<=2*L.length):
  Calls prog 155 #[v,vj k,vj x] w fun e w'=>e=.returned (vj (Bd (An L) k x:Nat))/\w'=w:=by
 have hE:=KC L v k w h hl hk;have hP:Bd (An L) k x=if nth (An L) k=x then k+1 else k:=rfl
 generalize Bd (An L) k x=r at*;generalize nth (An L) k=p at*;have HP:Hid (r=if p=x then k+1 else k):=hP;clear hP h;by_cases e:(p==x)=true
 ·go_enter func155,ntmps155
  go_wp2_with(go_at_call 153;refine hE.mono ?_;rintro x w' ⟨rfl,rfl⟩)
  go_ret;refine⟨CI ?_,rfl⟩;rw[HP.out,if_pos (by simpa using e)];rfl
 ·have e:(p==x)=false:=by simpa using e
  go_enter func155,ntmps155
  go_wp2_with(go_at_call 153;refine hE.mono ?_;rintro x w' ⟨rfl,rfl⟩)
  go_ret;refine⟨CI ?_,rfl⟩;rw[HP.out,if_neg (by simpa using e)]
theorem Ta(kind:Int)(p q:Bool)(w:World):
  Calls prog 156 #[vj kind,.bool p,.bool q] w fun e w'=>e=.returned (.bool (keepB kind p q))/\w'=w:=by
 have HK:Hid (keepB kind p q=if kind=0 then p||q else if kind=1 then p&&q else if kind=2 then p&& !q else p != q):=rfl;generalize keepB kind p q=r at*;have c0:(kind==0)=true\/(kind==0)=false:=by cases (kind==0)<;>simp
 have c1:(kind==1)=true\/(kind==1)=false:=by cases (kind==1)<;>simp
 have c2:(kind==2)=true\/(kind==2)=false:=by cases (kind==2)<;>simp
 rcases c0 with c0|c0
 ·cases p<;>cases q<;>
  ·go_enter func156,ntmps156
   go_wp2;go_ret;refine⟨Cm ?_,rfl⟩;rw[HK.out];simp at c0;simp[c0]
 ·rcases c1 with c1|c1
  ·cases p<;>cases q<;>
   ·go_enter func156,ntmps156
    go_wp2;go_ret;refine⟨Cm ?_,rfl⟩;rw[HK.out];simp at c1;simp[c1]
  ·rcases c2 with c2|c2
   ·cases p<;>cases q<;>
    ·go_enter func156,ntmps156
     go_wp2;go_ret;refine⟨Cm ?_,rfl⟩;rw[HK.out];simp at c2;simp[c2]
   ·cases p<;>cases q<;>
    ·go_enter func156,ntmps156
     go_wp2;go_ret;refine⟨Cm ?_,rfl⟩;rw[HK.out];simp at c0 c1 c2;simp[c0,c1,c2]
theorem Q3(k:Nat):∃q r:Nat,k=q*2+r/\(r=0\/r=1):=⟨k/2,k%2,by omega,by omega⟩
theorem Fa(A:List (Int×Int×List (Int×Int)))(v:Value)(k:Nat)(w:World)(h:AJ w v A)(hl:A.length<=10000)(hk:k<=2*A.length):
  Calls prog 150 #[.agg #[v],vj k] w fun e w'=>e=.returned (vj (nth (Ag A) k))/\w'=w.alloc (.cells #[v] 136):=by
 rcases h with⟨rfl,rfl⟩|⟨b,c,rfl,hne,hc⟩
 ·have hk0:k=0:=by simpa using hk
  subst hk0;go_enter func150,ntmps150
  go_wp2;go_ret;exact⟨rfl,rfl⟩
 ·have hzero:0<A.length:=by cases A with
   |nil=>exact absurd rfl hne
   |cons a A=>simp
  have hb:b<w.heap.size:=Ak (hc 0 hzero).1;have hEv:=OS A;have hOd:=QZ A;have hEnd:=Hu (Ag A) k;rw[BT]at hEnd;by_cases e:k=2*A.length
  ·have E:Hid (nth (Ag A) k=big):=hEnd (by omega);clear hEnd hEv hOd hc;generalize A.length=n at*;subst e;clear hk;go_enter func150,ntmps150
   go_wp2;go_ret;exact⟨CI E.out.symm,rfl⟩
  ·clear hEnd;obtain⟨q,r,hq,hr⟩:=Q3 k;have hd:(k:Int)/2=q:=by omega
   have hqn:q<A.length:=by omega
   have hlt:(k:Int)<2*(A.length:Int):=by omega
   have hlt2:k<2*A.length:=by omega
   obtain⟨c1,c2,c9⟩:=hc q (by omega);clear c9;rcases hr with rfl|rfl
   ·have hm:(k:Int)%2=0:=by omega
    have hv:=hEv q (by omega);rw[<-hv,show 2*q=k by omega]at c1;clear hq e hk hv hEv hOd hc c2;generalize nth (Ag A) k=p at*;generalize A.length=n at*;go_enter func150,ntmps150
    go_wp2;go_ret;exact⟨rfl,rfl⟩
   ·have hm:(k:Int)%2=1:=by omega
    have hv:=hOd q (by omega);rw[<-hv,show 2*q+1=k by omega]at c2;clear hq e hk hv hEv hOd hc c1;generalize nth (Ag A) k=p at*;generalize A.length=n at*;go_enter func150,ntmps150
    go_wp2;go_ret;exact⟨rfl,rfl⟩
theorem FX(A:List (Int×Int×List (Int×Int)))(v:Value)(k:Nat)(c y:Int)(w:World)(h:AJ w v A)(hl:A.length<=10000)(hs:(Ag A).Pairwise (· <= ·))(hc:c<y)(hk:k=cnt (Ag A) c)(hy:y<=nth (Ag A) k):
  Calls prog 151 #[.agg #[v],vj k,vj y] w fun e w'=>e=.returned (vj (cnt (Ag A) y:Nat))/\uj w w':=by
 obtain⟨a,n,cp,hv,hn⟩:∃a n cp,v=.slice a n cp/\n=A.length:=by
  rcases h with⟨rfl,rfl⟩|⟨b,c,rfl,hne,_⟩
  ·exact⟨_,_,_,rfl,rfl⟩
  ·exact⟨_,_,_,rfl,rfl⟩
 have HV:Hid (v=.slice a n cp):=hv;have HN:Hid (n=A.length):=hn;have hn':n<=10000:=by omega
 have hkl:k<=2*n:=by rw[hk,hn,<-BT];exact CL _ _
 have HB:Hid (AJ w v A):=h;have HY:Hid (∀q,(Ag A).length=2*n->k<=q->q<=2*n->(∀j,k<=j->j<q->nth (Ag A) j=y)->(q<2*n->nth (Ag A) q≠y)->cnt (Ag A) y=q):=by
  intro q hlen h1 h2 h3 h4;refine WF (Ag A) hs c y hc q (by omega) (by omega) (fun j hj1 hj2=>h3 j (by omega) hj2) (fun hq=>?_);have h5:=h4 (by omega);have hkq:nth (Ag A) k<=nth (Ag A) q:=by
   rw[BZ _ _ (show k<(Ag A).length by omega),BZ _ _ hq];by_cases e:k=q
   ·subst e;exact Int.le_refl _
   ·exact cN.1 hs _ _ _ _ (by omega)
  omega
 clear h hl hs hc hk hy hn;rw[hv];clear hv;go_enter func151,ntmps151
 go_wp2;go_loopw [1] (fun i wr=>∃q:Nat,k<=q/\q<=2*n/\i=vj q/\(∀j,k<=j->j<q->nth (Ag A) j=y)/\w.heap.size<wr.heap.size/\wr.cell? (jA w.heap.size 0)=some (.slice a n cp)/\uj w wr) (fun i _=>2*n-(intOf i).toNat)
 case atStart=>exact⟨k,aO _,hkl,rfl,fun j h1 h2=>absurd h1 (by omega),by simp,by simp,(aN _ _).alloc (aO _) _⟩
 case round=>
  obtain⟨q,hq1,hq2,rfl,hrun,hsz,hcell,hbel⟩:=hrel;have HRun:Hid (∀j,k<=j->j<q->nth (Ag A) j=y):=hrun;have HBel:Hid (uj w wr):=hbel;have hL:=Fa A (.slice a n cp) q wr (by have:=HB.out;rw[HV.out]at this;exact this.below hbel) (by rw[<-HN.out];omega) (by rw[<-HN.out];omega);have HL:Hid (nth (Ag A) q=nth (Ag A) q):=rfl;generalize hp:nth (Ag A) q=p at hL;have HP:Hid (nth (Ag A) q=p):=hp;clear hrun hbel hp HL;by_cases hlt:q<2*n
  ·have hlt':(q:Int)<2*(n:Int):=by omega
   have cp':(p==y)=true\/(p==y)=false:=by cases (p==y)<;>simp
   rcases cp' with e|e
   ·go_wp2_with(go_at_call 150;refine hL.mono ?_;rintro x w' ⟨rfl,rfl⟩)
    go_roundw
    case rel=>
     refine⟨q+1,by omega,by omega,by go_num,fun j h1 h2=>?_,by simp;omega,(BI _ _ _ _ hsz).trans hcell,HBel.out.alloc (by omega) _⟩;by_cases ej:j=q
     ·subst ej;rw[HP.out];simpa using e
     ·exact HRun.out j h1 (by omega)
    case measure=>simp[intOf];omega
   ·go_wp2_with(go_at_call 150;refine hL.mono ?_;rintro x w' ⟨rfl,rfl⟩)
    go_ret;refine⟨CI ?_,HBel.out.alloc (by omega) _⟩;rw[HY.out q (by rw[BT,HN.out]) hq1 hq2 HRun.out (fun _=>by rw[HP.out];simpa using e)]
  ·have hlt':¬(q:Int)<2*(n:Int):=by omega
   go_wp2;go_ret;refine⟨CI ?_,HBel.out⟩;rw[HY.out q (by rw[BT,HN.out]) hq1 hq2 HRun.out (fun h=>absurd h hlt)]
theorem UP(a b c d:Int)(w:World):(Op.equalIn 10000 194 (.agg #[vj a,vj b]) (.agg #[vj c,vj d])).run prog w=.ok (a==c&&b==d) w:=by
 have u3:=underlying3;have a3:=Tryz.isAgg3;have z3:=Tryz.sizeOf3;have hS:prog.underlying 194=some (.struct (prog.fieldsOf 194)):=by kernel_rfl
 have hp:prog.stoodInHeld 194=false:=by kernel_rfl
 rw[show(10000:Nat)=9999+1 from rfl,run_equalIn_agg w 9999 194 _ _ hS hp];simp only[Program.fieldsOf,underlying194]
 go_simp
 by_cases h1:a=c<;>by_cases h2:b=d<;>simp[h1,h2]
theorem AS.len{w:World}{v:Value}{L:List (Int×Int)}(h:AS w v L):∃a c,v=.slice a L.length c/\(0<L.length->∃b,a=some (jA b 0)/\∀j,j<L.length->w.cell? (jA b (j*2))=some (vj (L.getD j (0,0)).1)/\w.cell? (jA b (j*2+1))=some (vj (L.getD j (0,0)).2)):=by
 rcases h with⟨rfl,rfl⟩|⟨b,c,cur,rfl,hne,hb,hc⟩
 ·exact⟨none,0,rfl,fun h=>by simp at h⟩
 ·refine⟨_,c,rfl,fun _=>⟨b,rfl,fun j hj=>?_⟩⟩;have e:L.getD j (0,0)=L[j]:=by rw[bu,aU hj];rfl
  rw[e,aP w b _ cur _ _ hb,aP w b _ cur _ _ hb,hc _ (by omega),hc _ (by omega),<-QV L j hj,<-S6 L j hj,Nat.mul_comm j 2];exact⟨rfl,rfl⟩
theorem My(L M:List (Int×Int))(u v:Value)(w:World)(hu:AS w u L)(hv:AS w v M)(hl:L.length<=10000):
  Calls prog 185 #[u,v] w fun e w'=>e=.returned (.bool (decide (L=M)))/\∃nq,w'=w.drewN nq:=by
 obtain⟨a,ca,rfl,ha⟩:=hu.len;obtain⟨b,cb,rfl,hb⟩:=hv.len;clear hu hv;by_cases hne:L.length=M.length
 ·have HE:Hid (L.length=M.length):=hne;have hb':0<L.length->∃b',b=some (jA b' 0)/\∀j,j<L.length->w.cell? (jA b' (j*2))=some (vj (M.getD j (0,0)).1)/\w.cell? (jA b' (j*2+1))=some (vj (M.getD j (0,0)).2):=by rw[hne];exact hb
  rw[<-hne];clear hb hne;have hq:=UP;have HQ:Hid (∀(j:Nat) (a b:Int×Int),j<L.length->L.getD j (0,0)=a->M.getD j (0,0)=b->(!(a.1==b.1&&a.2==b.2))=true->decide (L=M)=false):=by
   intro j a b hj h1 h2 h3;rw[decide_eq_false_iff_not];intro h;subst h;rw[h1]at h2;subst h2;simp at h3
  have HF:Hid ((∀j,j<L.length->L.getD j (0,0)=M.getD j (0,0))->decide (L=M)=true):=by
   intro h;rw[bT];refine List.ext_getElem HE.out fun i h1 h2=>?_;have:=h i h1;rw[bu,aU h1,bu,aU h2]at this;simpa using this
  generalize decide (L=M)=r at*;generalize hn:L.length=n at*;go_enter func185,ntmps185
  go_wp2;go_loopw [13] (fun i wr=>∃q:Nat,q<=n/\i=vj q/\(∀j,j<q->L.getD j (0,0)=M.getD j (0,0))/\∃nq,wr=w.drewN nq) (fun i _=>n-(intOf i).toNat)
  case atStart=>exact⟨0,cB _,rfl,fun j h=>absurd h (by omega),0,rfl⟩
  case round=>
   obtain⟨q,hq1,rfl,hrun,n0,rfl⟩:=hrel;have HR:Hid (∀j,j<q->L.getD j (0,0)=M.getD j (0,0)):=hrun;clear hrun;by_cases hlt:q<n
   ·obtain⟨a',rfl,ha'⟩:=ha (by omega);obtain⟨b',rfl,hb''⟩:=hb' (by omega);obtain⟨k1,k2⟩:=ha' q hlt;obtain⟨k3,k4⟩:=hb'' q hlt;generalize hp1:L.getD q (0,0)=s1 at*;generalize hp2:M.getD q (0,0)=s2 at*;have HP1:Hid (L.getD q (0,0)=s1):=hp1;have HP2:Hid (M.getD q (0,0)=s2):=hp2;obtain⟨f1,t1⟩:=s1;obtain⟨f2,t2⟩:=s2;clear ha hb' ha' hb'' hp1 hp2;have hqq:=UP f1 t1 f2 t2;go_wp2;go_quiet (fail)
    go_wp2
    ·go_ret;refine⟨Cm ?_,n0+nq,by simp⟩;have hh:(!f1==f2)=true\/(!t1==t2)=true:=by assumption
     refine(HQ.out q _ _ hlt HP1.out HP2.out ?_).symm;rcases hh with hh|hh<;>simp at hh<;>simp[hh]
    ·have hh:(!f1==f2)=false/\(!t1==t2)=false:=by assumption
     go_roundw
     case rel=>
      refine⟨q+1,by omega,by go_num,fun j hj=>?_,n0+nq,rfl⟩;by_cases e:j=q
      ·subst e;rw[HP1.out,HP2.out];simp at hh;rw[hh.1,hh.2]
      ·exact HR.out j (by omega)
     case measure=>simp[intOf];omega
   ·clear ha hb';go_wp2;go_ret;refine⟨Cm (HF.out fun j hj=>HR.out j (by omega)).symm,n0,rfl⟩
 ·have HE:Hid (decide (L=M)=false):=by
   rw[Hid,decide_eq_false_iff_not];intro h;exact hne (by rw[h])
  generalize decide (L=M)=r at*;generalize L.length=n at*;generalize M.length=m at*;have hnm:((n:Int) != (m:Int))=true:=by simp;omega
  clear ha hb;go_enter func185,ntmps185
  go_wp2;go_ret;exact⟨Cm HE.out.symm,0,rfl⟩
variable{base:Nat}
theorem Aa{p:Prop}(h:p):Hid p:=h
def AQ(P:List ((Int×Int×List (Int×Int))×Value)):List Value:=P.flatMap fun p=>[vj p.1.1,vj p.1.2.1,p.2]
theorem ES(P:List ((Int×Int×List (Int×Int))×Value)):(AQ P).length=P.length*3:=by
 induction P with
 |nil=>rfl
 |cons p P ih=>
  have:AQ (p::P)=vj p.1.1::vj p.1.2.1::p.2::AQ P:=rfl;rw[this];simp[ih];omega
theorem DH(P Q:List ((Int×Int×List (Int×Int))×Value)):AQ (P++Q)=AQ P++AQ Q:=by simp[AQ]
theorem Iv(P:List ((Int×Int×List (Int×Int))×Value))(k:Nat)(h:k<P.length):
  (AQ P)[k*3]?=some (vj P[k].1.1)/\(AQ P)[k*3+1]?=some (vj P[k].1.2.1)/\(AQ P)[k*3+2]?=some P[k].2:=by
 induction P generalizing k with
 |nil=>simp at h
 |cons p P ih=>
  have e:AQ (p::P)=vj p.1.1::vj p.1.2.1::p.2::AQ P:=rfl;cases k with
  |zero=>rw[e];simp
  |succ k=>
   have:=ih k (by simpa using h);rw[e,show(k+1)*3=k*3+3 by omega];simpa using this
def SpB(base:Nat)(u:Value):Prop:=∀g,u.ownBlock=some g->base<=g
def Bz(w:World)(base:Nat)(v:Value)(O:List (Int×Int×List (Int×Int))):Prop:=
 ∃P,P.map Prod.fst=O/\w.ownsRow base 192 3 v P.length (AQ P)/\(∀p∈P,AS w p.2 p.1.2.2/\SpB base p.2)/\(P=[]->v=jj)
theorem Sw(w:World)(base:Nat):Bz w base (jj) []:=
 ⟨[],rfl,bA _ _ _ _,fun p hp=>by simp at hp,fun _=>rfl⟩
theorem Bn(g k:Nat):((jA g 0):Addr).add k=(jA g k):=by unfold Addr.add;split<;>simp_all
theorem Bz.bands(h:Bz w base v O):AJ w v O:=by
 obtain⟨P,rfl,hown,hsp,hnil⟩:=h;by_cases hP:P=[]
 ·subst hP;exact .inl ⟨hnil rfl,rfl⟩
 ·have hpos:0<P.length:=by cases P with
   |nil=>exact absurd rfl hP
   |cons a P=>simp
  obtain⟨g,cap,rfl,_,_⟩:=hown.form hpos;refine .inr ⟨g,cap,by simp,by simpa using hP,fun k hk=>?_⟩;have hk':k<P.length:=by simpa using hk
  obtain⟨c1,c2,c3⟩:=Iv P k hk';have cs:=hown.cells (g:=g) rfl;refine⟨?_,?_,P[k].2,?_,?_⟩
  ·rw[<-Bn];simpa using cs _ _ c1
  ·rw[<-Bn];simpa using cs _ _ c2
  ·rw[<-Bn];simpa using cs _ _ c3
  ·simpa using(hsp P[k] (aZ hk')).1
theorem Bz.kept{w':World}(h:Bz w base v O)(hk:∀b,b<w.heap.size->base<=b\/True->w'.heap[b]?=w.heap[b]?):Bz w' base v O:=by
 obtain⟨P,hP,hown,hsp,hnil⟩:=h;refine⟨P,hP,?_,fun p hp=>⟨(hsp p hp).1.kept fun b cur e=>hk b (Ab e) (.inr trivial),(hsp p hp).2⟩,hnil⟩;obtain⟨h1,h2⟩:=hown;refine⟨h1,?_⟩;rcases h2 with h2|⟨g,cap,cur,a1,a2,a3,a4⟩
 ·exact .inl h2
 ·exact .inr ⟨g,cap,cur,a1,a2,(hk g (Ab a3) (.inr trivial)).trans a3,a4⟩
variable{W w1:World}
theorem UQ(o:Nat)(top bottom:Int)(w:World):
  Calls prog 154 #[pj o,.agg #[vj top,vj bottom,jj]] w fun e w'=>e=.returned (.tuple #[])/\w'=w.alloc (.cells #[vj top,vj bottom,jj] 192):=by
 go_enter func154,ntmps154
 go_wp2;exact cU (v:=.tuple #[]) (by simp[results,results154]) rfl ⟨rfl,rfl⟩
theorem OZ(o g m cap c ub:Nat)(ul:Value)(top bottom:Int)(ln:Nat)(w:World)(hm:m<=10000)(hln:0<ln)
  (ho:w.cell? (jA o 0)=some (sj g (m+1) cap))
  (h1:w.cell? (jA g (m*3+1))=some (vj top)) (h2:w.cell? (jA g (m*3+2))=some ul) (hf:w.frozen? (jA g (m*3+1))=false)
  (hE:∀w1,uj w w1->Calls prog 185 #[ul,sj ub ln c] w1 fun e w'=>e=.returned (.bool true)/\∃nq,w'=w1.drewN nq):
  Calls prog 154 #[pj o,.agg #[vj top,vj bottom,sj ub ln c]] w fun e w'=>e=.returned (.tuple #[])/\
   ∃nq,w'=((w.alloc (.cells #[vj top,vj bottom,sj ub ln c] 192)).setCell (jA g (m*3+1)) (vj bottom)).drewN nq:=by
 have ol:=Ak ho;have gl:=Ak h1;have hln':((ln:Int)==0)=false:=by simp;omega
 go_enter func154,ntmps154
 go_wp2_with fail
 go_quiet ((go_at_call 185;exact Calls.quiet_of (hE _ (cS ((aN _ _).alloc (aO _) _) _))))
 go_wp2
 go_region
 go_wp2;exact cU (v:=.tuple #[]) (by simp[results,results154]) rfl ⟨rfl,nq+1,rfl⟩
theorem KD:(prog.info? 192).map (fun i=>(i.zero,i.size,i.bytes))=some (some (.agg #[vj 0,vj 0,jj]),3,40):=by kernel_rfl
def Iw(w w':World)(base o:Nat)(v:Value)(n:Nat)(xs:List Value)(news:List Value):Prop:=
 ∃g cap w1,w1.ownsRow base 192 3 (sj g (n+1) cap) (n+1) (xs++news)/\Below base w w1/\w.grownBy w1 v.ownBlock/\g<w1.heap.size/\(v.ownBlock=some g\/w.heap.size<=g)/\∃nq,w'=(w1.setCell (jA o 0) (sj g (n+1) cap)).drewN nq
theorem Fu{v:Value}{o:Nat}(hW:∀b,b<w.heap.size->W.heap[b]?=w.heap[b]?)(hs:w.heap.size<=W.heap.size)(hg:W.grownBy w1 v.ownBlock)(ol:o<w.heap.size)(hne:some o≠v.ownBlock):
  w1.cell? (jA o 0)=w.cell? (jA o 0)/\w1.frozen? (jA o 0)=w.frozen? (jA o 0):=
 ⟨(hg.cell_far (jA o 0) (by show o<_;omega) hne).trans (aV (a:=(jA o 0)) (hW o ol)),(hg.frozen_far (jA o 0) (by show o<_;omega) hne).trans (World.frozen?_of_block (a:=(jA o 0)) (hW o ol))⟩
theorem Q4{a:Option Nat}{g x y:Nat}(h:a=some g\/g=x)(hx:y<=x):a=some g\/y<=g:=by
 rcases h with h|h
 ·exact .inl h
 ·exact .inr (by omega)
theorem El(w:World)(o1 o2:Obj)(n:Nat):∀b,b<w.heap.size->(((w.alloc o1).drewN n).alloc o2).heap[b]?=w.heap[b]? :=fun b hb=>
 (Ad ((w.alloc o1).drewN n) o2 b (by simp;omega)).trans (Ad w o1 b hb)
theorem Em(w:World)(o1 o2:Obj)(n:Nat):(((w.alloc o1).drewN n).alloc o2).heap[w.heap.size+1]?=some o2:=by
 have h:=aR ((w.alloc o1).drewN n) o2;rw[show((w.alloc o1).drewN n).heap.size=w.heap.size+1 from by simp]at h;exact h
theorem Ba(w:World)(o1 o2:Obj)(n:Nat):(((w.alloc o1).drewN n).alloc o2).heap.size=w.heap.size+2:=by simp
theorem FZ(w:World)(o1 o2:Obj)(n base:Nat)(hb:base<=w.heap.size):Below base w (((w.alloc o1).drewN n).alloc o2):=
 (cS ((aN base w).alloc hb _) n).alloc (by simp;omega) _
theorem Hw{row:Option Nat}(hW:∀b,b<w.heap.size->W.heap[b]?=w.heap[b]?)(hs:w.heap.size<=W.heap.size)(h1:W.os=w.os)(h2:W.tape=w.tape)(h3:W.output=w.output)(hg:W.grownBy w1 row):w.grownBy w1 row:=
 ⟨hg.os.trans h1,hg.tape.trans h2,hg.output.trans h3,bh hs hg.size,fun k hk hne=>(hg.block k (by omega) hne).trans (hW k hk)⟩
theorem Tb(base o c ub:Nat)(top bottom:Int)(ln:Nat)(xs:List Value)(w:World)(hln:0<ln)(ho:w.cell? (jA o 0)=some (jj))(hfo:w.frozen? (jA o 0)=false)(hown:w.ownsRow base 192 3 (jj) 0 xs)
  (hbase:base<=w.heap.size):
  Calls prog 154 #[pj o,.agg #[vj top,vj bottom,sj ub ln c]] w fun e w'=>e=.returned (.tuple #[])/\
   Iw w w' base o (jj) (0) xs [vj top,vj bottom,sj ub ln c]:=by
 obtain⟨i0,hi0,hz0,hz1,hz2⟩:=cW KD;have ol:=Ak ho;have hln':((ln:Int)==0)=false:=by simp;omega
 have HO:Hid (∀n,(((w.alloc (.cells #[vj top,vj bottom,sj ub ln c] 192)).drewN n).alloc (.cells #[vj top,vj bottom,sj ub ln c] 192)).ownsRow base 192 3 (jj) (0) xs):=fun n=>World.ownsRow.alloc (show((w.alloc (.cells #[vj top,vj bottom,sj ub ln c] 192)).drewN n).ownsRow base 192 3 (jj) (0) xs from hown.alloc _) _;have HN:Hid (∀n,∀j u,[vj top,vj bottom,sj ub ln c][j]?=some u->(((w.alloc (.cells #[vj top,vj bottom,sj ub ln c] 192)).drewN n).alloc (.cells #[vj top,vj bottom,sj ub ln c] 192)).cell? (((jA (w.heap.size+1) 0):Addr).add j)=some u):=fun n=>bI (cs:=#[vj top,vj bottom,sj ub ln c]) (t:=192) (fr:=(0,0)) (Em w _ _ n);have HNE:Hid (some o≠(jj:Value).ownBlock):=by simp[Hid,Value.ownBlock]
 have HRow:Hid (∀k,(jj:Value).ownBlock=some k->base<=k):=fun k h=>by simp[Value.ownBlock]at h
 clear hown;go_enter func154,ntmps154
 go_wp2_with fail
 go_quiet (fail)
 go_wp2
 go_region_law (refine step_append_lies _ (by rfl) (.tmp 56) (.tmp 58) 134 (by rfl) base 192 i0 _ 3 40 underlying134 hi0 hz0 hz1 hz2 rfl (by omega) (jj) (0) xs (by rfl) (by exact HO.out _) (jA (w.heap.size+1) 0) 1 1 [vj top,vj bottom,sj ub ln c] (by rfl) (by rfl) (by exact HN.out _) (by simp[Value.oneCell']) (by omega) (by unfold maxLen;omega) (by omega) (by rw[Ba];omega) _ rfl ?_;intro gg cp w1 hown1 hgrow hat hlt;obtain⟨ko,kf⟩:=Fu (El w _ _ _) (by rw[Ba];omega) hgrow ol HNE.out;rw[ho]at ko;rw[hfo]at kf;have HOwn:=Aa hown1;have HGrow:=Aa hgrow;have HAt:=Aa hat;clear hown1 hgrow hat)
 all_goals
  go_wp2;exact cV (v:=.tuple #[]) (by simp[results,results154]) rfl ⟨rfl,gg,cp,w1,HOwn.out,(FZ w _ _ _ base hbase).grown HGrow.out (by rw[Ba];omega) HRow.out,Hw (El w _ _ _) (by rw[Ba];omega) rfl rfl rfl HGrow.out,hlt,Q4 HAt.out (by rw[Ba];omega),0,rfl⟩
theorem Tc(base o c ub:Nat)(top bottom:Int)(ln:Nat)(xs:List Value)(w:World)(hln:0<ln)(g m cap:Nat)(hm:m<=10000)(ho:w.cell? (jA o 0)=some (sj g (m+1) cap))(hfo:w.frozen? (jA o 0)=false)(hown:w.ownsRow base 192 3 (sj g (m+1) cap) (m+1) xs)(hog:o≠g)(hgb:base<=g)(bot:Int)(h1:w.cell? (jA g (m*3+1))=some (vj bot))(hbt:(bot==top)=false)
  (hbase:base<=w.heap.size):
  Calls prog 154 #[pj o,.agg #[vj top,vj bottom,sj ub ln c]] w fun e w'=>e=.returned (.tuple #[])/\
   Iw w w' base o (sj g (m+1) cap) (m+1) xs [vj top,vj bottom,sj ub ln c]:=by
 obtain⟨i0,hi0,hz0,hz1,hz2⟩:=cW KD;have ol:=Ak ho;have hln':((ln:Int)==0)=false:=by simp;omega
 have gl:=Ak h1;have HO:Hid (∀n,(((w.alloc (.cells #[vj top,vj bottom,sj ub ln c] 192)).drewN n).alloc (.cells #[vj top,vj bottom,sj ub ln c] 192)).ownsRow base 192 3 (sj g (m+1) cap) (m+1) xs):=fun n=>World.ownsRow.alloc (show((w.alloc (.cells #[vj top,vj bottom,sj ub ln c] 192)).drewN n).ownsRow base 192 3 (sj g (m+1) cap) (m+1) xs from hown.alloc _) _;have HN:Hid (∀n,∀j u,[vj top,vj bottom,sj ub ln c][j]?=some u->(((w.alloc (.cells #[vj top,vj bottom,sj ub ln c] 192)).drewN n).alloc (.cells #[vj top,vj bottom,sj ub ln c] 192)).cell? (((jA (w.heap.size+1) 0):Addr).add j)=some u):=fun n=>bI (cs:=#[vj top,vj bottom,sj ub ln c]) (t:=192) (fr:=(0,0)) (Em w _ _ n);have HNE:Hid (some o≠(sj g (m+1) cap:Value).ownBlock):=fun h=>hog (by simpa[Value.ownBlock]using h);have HRow:Hid (∀k,(sj g (m+1) cap:Value).ownBlock=some k->base<=k):=fun k h=>by simp[Value.ownBlock]at h;omega
 clear hown;go_enter func154,ntmps154
 go_wp2_with fail
 go_quiet (fail)
 go_wp2
 go_region_law (refine step_append_lies _ (by rfl) (.tmp 56) (.tmp 58) 134 (by rfl) base 192 i0 _ 3 40 underlying134 hi0 hz0 hz1 hz2 rfl (by omega) (sj g (m+1) cap) (m+1) xs (by rfl) (by exact HO.out _) (jA (w.heap.size+1) 0) 1 1 [vj top,vj bottom,sj ub ln c] (by rfl) (by rfl) (by exact HN.out _) (by simp[Value.oneCell']) (by omega) (by unfold maxLen;omega) (by omega) (by rw[Ba];omega) _ rfl ?_;intro gg cp w1 hown1 hgrow hat hlt;obtain⟨ko,kf⟩:=Fu (El w _ _ _) (by rw[Ba];omega) hgrow ol HNE.out;rw[ho]at ko;rw[hfo]at kf;have HOwn:=Aa hown1;have HGrow:=Aa hgrow;have HAt:=Aa hat;clear hown1 hgrow hat)
 all_goals
  go_wp2;exact cV (v:=.tuple #[]) (by simp[results,results154]) rfl ⟨rfl,gg,cp,w1,HOwn.out,(FZ w _ _ _ base hbase).grown HGrow.out (by rw[Ba];omega) HRow.out,Hw (El w _ _ _) (by rw[Ba];omega) rfl rfl rfl HGrow.out,hlt,Q4 HAt.out (by rw[Ba];omega),0,rfl⟩
theorem Td(base o c ub:Nat)(top bottom:Int)(ln:Nat)(xs:List Value)(w:World)(hln:0<ln)(g m cap:Nat)(hm:m<=10000)(ho:w.cell? (jA o 0)=some (sj g (m+1) cap))(hfo:w.frozen? (jA o 0)=false)(hown:w.ownsRow base 192 3 (sj g (m+1) cap) (m+1) xs)(hog:o≠g)(hgb:base<=g)(h1:w.cell? (jA g (m*3+1))=some (vj top))(ul:Value)(h2:w.cell? (jA g (m*3+2))=some ul)(hE:∀w1,uj w w1->Calls prog 185 #[ul,sj ub ln c] w1 fun e w'=>e=.returned (.bool false)/\∃nq,w'=w1.drewN nq)
  (hbase:base<=w.heap.size):
  Calls prog 154 #[pj o,.agg #[vj top,vj bottom,sj ub ln c]] w fun e w'=>e=.returned (.tuple #[])/\
   Iw w w' base o (sj g (m+1) cap) (m+1) xs [vj top,vj bottom,sj ub ln c]:=by
 obtain⟨i0,hi0,hz0,hz1,hz2⟩:=cW KD;have ol:=Ak ho;have hln':((ln:Int)==0)=false:=by simp;omega
 have gl:=Ak h1;have HO:Hid (∀n,(((w.alloc (.cells #[vj top,vj bottom,sj ub ln c] 192)).drewN n).alloc (.cells #[vj top,vj bottom,sj ub ln c] 192)).ownsRow base 192 3 (sj g (m+1) cap) (m+1) xs):=fun n=>World.ownsRow.alloc (show((w.alloc (.cells #[vj top,vj bottom,sj ub ln c] 192)).drewN n).ownsRow base 192 3 (sj g (m+1) cap) (m+1) xs from hown.alloc _) _;have HN:Hid (∀n,∀j u,[vj top,vj bottom,sj ub ln c][j]?=some u->(((w.alloc (.cells #[vj top,vj bottom,sj ub ln c] 192)).drewN n).alloc (.cells #[vj top,vj bottom,sj ub ln c] 192)).cell? (((jA (w.heap.size+1) 0):Addr).add j)=some u):=fun n=>bI (cs:=#[vj top,vj bottom,sj ub ln c]) (t:=192) (fr:=(0,0)) (Em w _ _ n);have HNE:Hid (some o≠(sj g (m+1) cap:Value).ownBlock):=fun h=>hog (by simpa[Value.ownBlock]using h);have HRow:Hid (∀k,(sj g (m+1) cap:Value).ownBlock=some k->base<=k):=fun k h=>by simp[Value.ownBlock]at h;omega
 clear hown;go_enter func154,ntmps154
 go_wp2_with fail
 go_quiet ((go_at_call 185;exact Calls.quiet_of (hE _ (cS ((aN _ _).alloc (aO _) _) _))))
 go_wp2
 go_region_law (refine step_append_lies _ (by rfl) (.tmp 56) (.tmp 58) 134 (by rfl) base 192 i0 _ 3 40 underlying134 hi0 hz0 hz1 hz2 rfl (by omega) (sj g (m+1) cap) (m+1) xs (by rfl) (by exact HO.out _) (jA (w.heap.size+1) 0) 1 1 [vj top,vj bottom,sj ub ln c] (by rfl) (by rfl) (by exact HN.out _) (by simp[Value.oneCell']) (by omega) (by unfold maxLen;omega) (by omega) (by rw[Ba];omega) _ rfl ?_;intro gg cp w1 hown1 hgrow hat hlt;obtain⟨ko,kf⟩:=Fu (El w _ _ _) (by rw[Ba];omega) hgrow ol HNE.out;rw[ho]at ko;rw[hfo]at kf;have HOwn:=Aa hown1;have HGrow:=Aa hgrow;have HAt:=Aa hat;clear hown1 hgrow hat)
 all_goals
  go_wp2;exact cV (v:=.tuple #[]) (by simp[results,results154]) rfl ⟨rfl,gg,cp,w1,HOwn.out,(FZ w _ _ _ base hbase).grown HGrow.out (by rw[Ba];omega) HRow.out,Hw (El w _ _ _) (by rw[Ba];omega) rfl rfl rfl HGrow.out,hlt,Q4 HAt.out (by rw[Ba];omega),0,rfl⟩
variable{o size:Nat}{e:TypeId}{xs:List Value}
def GO(w w':World)(base o:Nat)(O:List (Int×Int×List (Int×Int))):Prop:=
 ∃v',w'.heap[o]?=some (.cells #[v'] 136 (0,0))/\Bz w' base v' O/\Below base w w'/\
  ∀(b:Nat) (cs:Array Value) (t:TypeId),b≠o->t≠192->w.heap[b]?=some (.cells cs t (0,0))->w'.heap[b]?=some (.cells cs t (0,0))
theorem Ap(h:w.ownsRow base e size v n xs){k:Nat}(hk:v.ownBlock=some k):∃cur,w.heap[k]?=some (.cells cur e (0,0)):=by
 rcases h.2 with⟨rfl,_⟩|⟨g,cap,cur,rfl,_,hg,_⟩
 ·simp[Value.ownBlock]at hk
 ·simp[Value.ownBlock]at hk;subst hk;exact⟨cur,hg⟩
theorem GP(h:w.ownsRow base e size v n xs){b:Nat}{cs:Array Value}{t:TypeId}(hb:w.heap[b]?=some (.cells cs t (0,0)))(ht:t≠e):some b≠v.ownBlock:=by
 intro hk;obtain⟨cur,hc⟩:=Ap h hk.symm;rw[hb]at hc;simp at hc;exact ht hc.2
theorem Q5{O:List (Int×Int×List (Int×Int))}(hbox:w.heap[o]?=some (.cells #[v] 136 (0,0)))(hout:Bz w base v O)(hbase:base<=w.heap.size)(x:Obj):GO w (w.alloc x) base o O:=
 ⟨v,(Ad w x o (Ab hbox)).trans hbox,hout.kept fun b hb _=>Ad w x b hb,(aN _ _).alloc hbase _,fun b _ _ _ _ h=>(Ad w x b (Ab h)).trans h⟩
theorem Fv{w':World}{P:List ((Int×Int×List (Int×Int))×Value)}{q:(Int×Int×List (Int×Int))×Value}
  (hbox:w.heap[o]?=some (.cells #[v] 136 (0,0))) (hbo:base<=o) (hown:w.ownsRow base 192 3 v P.length (AQ P)) (hsp:∀p∈P,AS w p.2 p.1.2.2/\SpB base p.2) (hq:AS w q.2 q.1.2.2/\SpB base q.2)
  (h:Iw w w' base o v P.length (AQ P) (AQ [q])):GO w w' base o ((P++[q]).map Prod.fst):=by
 obtain⟨g,cap,w1,hown1,hbel,hgr,hlt,hat,nq,rfl⟩:=h;have ol:=Ab hbox;have hno:some o≠v.ownBlock:=GP hown hbox (by decide);have hgo:g≠o:=by
  rcases hat with h|h
  ·intro e;subst e;exact hno h.symm
  ·omega
 have hkeep:∀(b:Nat) (cs:Array Value) (t:TypeId),b≠o->t≠192->w.heap[b]?=some (.cells cs t (0,0))->((w1.setCell (jA o 0) (sj g (P.length+1) cap)).drewN nq).heap[b]?=some (.cells cs t (0,0)):=by
  intro b cs t hbo ht hb;show(w1.setCell (jA o 0) (sj g (P.length+1) cap)).heap[b]?=_;rw[Below.heap_setCell _ _ _ _ hbo,hgr.block b (Ab hb) (GP hown hb ht)];exact hb
 refine⟨sj g (P.length+1) cap,?_,⟨P++[q],rfl,?_,fun p hp=>?_,fun h=>by simp at h⟩,?_,hkeep⟩
 ·have h1:w1.heap[o]?=some (.cells #[v] 136 (0,0)):=(hgr.block o ol hno).trans hbox;exact one_setCell h1
 ·rw[DH,aY];exact ownsRow_setCell_other hown1 (by simp[Value.ownBlock];exact hgo) _
 ·have hpq:AS w p.2 p.1.2.2/\SpB base p.2:=by
   simp at hp;rcases hp with hp|hp
   ·exact hsp p hp
   ·subst hp;exact hq
  refine⟨hpq.1.kept fun b cur e=>?_,hpq.2⟩;have hne:b≠o:=by
   intro h;subst h;rw[hbox]at e;simp at e
  rw[hkeep b cur _ hne (by decide) e,e]
 ·exact cS (hbel.setCell hbo _) nq
theorem LU(D:List ((Int×Int×List (Int×Int))×Value))(l:Int×Int×List (Int×Int))(ul:Value)(x:Int):(AQ (D++[(l,ul)])).set (D.length*3+1) (vj x)=AQ (D++[((l.1,x,l.2.2),ul)]):=by
 rw[DH,DH,List.set_append,if_neg (by rw[ES];omega),ES,show D.length*3+1-D.length*3=1 by omega];rfl
theorem O0{g cap:Nat}{D:List ((Int×Int×List (Int×Int))×Value)}{l:Int×Int×List (Int×Int)}{ul:Value}(bottom:Int)(x:Obj)(nq:Nat)
  (hbox:w.heap[o]?=some (.cells #[sj g (D.length+1) cap] 136 (0,0))) (hbase:base<=w.heap.size) (hgb:base<=g)
  (hown:w.ownsRow base 192 3 (sj g (D.length+1) cap) (D.length+1) (AQ (D++[(l,ul)]))) (hsp:∀p∈D++[(l,ul)],AS w p.2 p.1.2.2/\SpB base p.2):
  GO w (((w.alloc x).setCell (jA g (D.length*3+1)) (vj bottom)).drewN nq) base o ((D++[((l.1,bottom,l.2.2),ul)]).map Prod.fst):=by
 have ol:=Ab hbox;have hno:some o≠(sj g (D.length+1) cap).ownBlock:=GP hown hbox (by decide);have hog:o≠g:=fun e=>hno (by simp[Value.ownBlock,e]);have hkeep:∀(b:Nat) (cs:Array Value) (t:TypeId),t≠192->w.heap[b]?=some (.cells cs t (0,0))->(((w.alloc x).setCell (jA g (D.length*3+1)) (vj bottom)).drewN nq).heap[b]?=some (.cells cs t (0,0)):=by
  intro b cs t ht hb;have hne:b≠g:=fun e=>GP hown hb ht (by simp[Value.ownBlock,e]);show((w.alloc x).setCell (jA g (D.length*3+1)) (vj bottom)).heap[b]?=_;rw[Below.heap_setCell _ _ _ _ hne,Ad w x b (Ab hb)];exact hb
 refine⟨sj g (D.length+1) cap,hkeep o _ _ (by decide) hbox,⟨D++[((l.1,bottom,l.2.2),ul)],rfl,?_,fun p hp=>?_,fun h=>by simp at h⟩,?_,fun b cs t _ ht hb=>hkeep b cs t ht hb⟩
 ·obtain⟨e1,e2⟩:=hown;rcases e2 with⟨e2,_⟩|⟨g',cap',cur,e3,e4,e5,e6,e7,e8,e9⟩
  ·simp at e2
  ·simp at e3;obtain⟨rfl,rfl⟩:=e3;refine⟨by rw[ES],.inr ⟨g,cap,cur.setIfInBounds (D.length*3+1) (vj bottom),by simp,e4,?_,by simpa using e6,e7,by simpa using e8,?_⟩⟩
   ·show((w.alloc x).setCell (jA g (D.length*3+1)) (vj bottom)).heap[g]?=_;exact bH (w.alloc x) g (D.length*3+1) cur 192 (vj bottom) ((Ad w x g (Ab e5)).trans e5)
   ·rw[<-LU,<-e9,Array.toList_setIfInBounds,List.take_set];simp
 ·have hpq:∃p0∈D++[(l,ul)],p0.2=p.2/\p0.1.2.2=p.1.2.2:=by
   simp at hp;rcases hp with hp|hp
   ·exact⟨p,by simp[hp],rfl,rfl⟩
   ·subst hp;exact⟨(l,ul),by simp,rfl,rfl⟩
  obtain⟨p0,hp0,q1,q2⟩:=hpq;have:=hsp p0 hp0;rw[q1,q2]at this;exact⟨this.1.kept fun b cur e=>by rw[hkeep b cur _ (by decide) e,e],this.2⟩
 ·exact cS ((((aN _ _).alloc hbase _)).setCell hgb _) nq
theorem WG(base o:Nat)(v u:Value)(O:List (Int×Int×List (Int×Int)))(top bottom:Int)(L:List (Int×Int))(w:World)(hbox:w.heap[o]?=some (.cells #[v] 136 (0,0)))(hout:Bz w base v O)(hu:AS w u L)(hub:SpB base u)
  (hbase:base<=w.heap.size) (hbo:base<=o) (hO:O.length<=9000) (hL:L.length<=10000) (hO2:∀b∈O,b.2.2.length<=10000):
  Calls prog 154 #[pj o,.agg #[vj top,vj bottom,u]] w fun e w'=>e=.returned (.tuple #[])/\GO w w' base o (CY O (top,bottom,L)):=by
 have ho:=cell_of_one hbox;have hfo:=free_of_one hbox;rcases hu with⟨rfl,rfl⟩|⟨ub,c,cur,rfl,hne,hb,hc⟩
 ·refine(UQ o top bottom w).mono fun e w' ⟨he,hw⟩=>⟨he,?_⟩;subst hw;have:CY O (top,bottom,[])=O:=by unfold CY;simp
  rw[this];exact Q5 hbox hout hbase _
 ·have hu:AS w (sj ub L.length c) L:=.inr ⟨ub,c,cur,rfl,hne,hb,hc⟩;have hpos:0<L.length:=by cases L with
   |nil=>exact absurd rfl hne
   |cons a L=>simp
  obtain⟨P,rfl,hown,hsp,hnil⟩:=hout;by_cases hP:P=[]
  ·subst hP;obtain rfl:=hnil rfl;refine(Tb base o c ub top bottom L.length [] w hpos ho hfo hown hbase).mono fun e w' ⟨he,hw⟩=>⟨he,?_⟩;have:CY (List.map Prod.fst ([]:List ((Int×Int×List (Int×Int))×Value))) (top,bottom,L)=(([]++[((top,bottom,L),sj ub L.length c)]).map Prod.fst):=by unfold CY;simp[hne]
   rw[this];exact Fv (q:=((top,bottom,L),sj ub L.length c)) hbox hbo hown hsp ⟨hu,hub⟩ hw
  ·obtain⟨D,l,ul,rfl⟩:∃D l ul,P=D++[(l,ul)]:=⟨P.dropLast,(P.getLast hP).1,(P.getLast hP).2,(List.dropLast_concat_getLast hP).symm⟩;rw[aY]at hown;obtain⟨g,cap,rfl,hgb,hgl⟩:=hown.form (by simp);simp only[List.length_cons,List.length_nil,Nat.zero_add]at hown ho hbox;have hm:D.length<=10000:=by simp at hO;omega
   obtain⟨_,c2,c3⟩:=Iv (D++[(l,ul)]) D.length (by simp);have cs:=hown.cells (g:=g) rfl;have k2:w.cell? (jA g (D.length*3+1))=some (vj l.2.1):=by rw[<-Bn];simpa using cs _ _ c2
   have k3:w.cell? (jA g (D.length*3+2))=some ul:=by rw[<-Bn];simpa using cs _ _ c3
   have hog:o≠g:=fun e=>GP hown hbox (by decide) (by simp[Value.ownBlock,e]);have hul:AS w ul l.2.2:=by simpa using(hsp (l,ul) (by simp)).1
   have hll:l.2.2.length<=10000:=hO2 l (by simp);have hfz:w.frozen? (jA g (D.length*3+1))=false:=by
    obtain⟨cur',hcur'⟩:=Ap hown (k:=g) rfl;simp[World.frozen?,hcur']
   have hlast:((D++[(l,ul)]).map Prod.fst).getLast? =some l:=by simp
   have hdrop:((D++[(l,ul)]).map Prod.fst).dropLast=D.map Prod.fst:=by simp
   have hq:AS w ((top,bottom,L),sj ub L.length c).2 ((top,bottom,L),sj ub L.length c).1.2.2/\SpB base ((top,bottom,L),sj ub L.length c).2:=⟨hu,hub⟩;have hown':w.ownsRow base 192 3 (sj g (D.length+1) cap) (D++[(l,ul)]).length (AQ (D++[(l,ul)])):=by simpa using hown
   by_cases et:l.2.1=top
   ·subst et;by_cases es:l.2.2=L
    ·refine(OZ o g D.length cap c ub ul l.2.1 bottom L.length w hm hpos ho k2 k3 hfz fun w1 hw1=>?_).mono fun e w' ⟨he,nq,hw⟩=>⟨he,?_⟩
     ·refine(My l.2.2 L ul _ w1 (hul.below hw1) (hu.below hw1) hll).mono fun e w' ⟨he,hw⟩=>⟨?_,hw⟩;rw[he,es];simp
     ·subst hw;have:CY ((D++[(l,ul)]).map Prod.fst) (l.2.1,bottom,L)=(D++[((l.1,bottom,l.2.2),ul)]).map Prod.fst:=by
       unfold CY;rw[if_neg hne,hlast,hdrop];simp[es]
      rw[this];exact O0 bottom _ nq hbox hbase hgb hown hsp
    ·refine(Td base o c ub l.2.1 bottom L.length (AQ (D++[(l,ul)])) w hpos g D.length cap hm ho hfo hown hog hgb k2 ul k3 (fun w1 hw1=>?_) hbase).mono fun e w' ⟨he,hw⟩=>⟨he,?_⟩
     ·refine(My l.2.2 L ul _ w1 (hul.below hw1) (hu.below hw1) hll).mono fun e w' ⟨he,hw⟩=>⟨?_,hw⟩;rw[he];simp[es]
     ·have:CY ((D++[(l,ul)]).map Prod.fst) (l.2.1,bottom,L)=(D++[(l,ul)]++[((l.2.1,bottom,L),sj ub L.length c)]).map Prod.fst:=by
       unfold CY;rw[if_neg hne,hlast];simp[es]
      rw[this];refine Fv hbox hbo hown' hsp hq ?_;rw[aY];exact hw
   ·refine(Tc base o c ub top bottom L.length (AQ (D++[(l,ul)])) w hpos g D.length cap hm ho hfo hown hog hgb l.2.1 k2 (by simpa using et) hbase).mono fun e w' ⟨he,hw⟩=>⟨he,?_⟩;have:CY ((D++[(l,ul)]).map Prod.fst) (top,bottom,L)=(D++[(l,ul)]++[((top,bottom,L),sj ub L.length c)]).map Prod.fst:=by
     unfold CY;rw[if_neg hne,hlast];simp[et]
    rw[this];refine Fv hbox hbo hown' hsp hq ?_;rw[aY];exact hw
end Go.Proofs.YtofinpocigbbeaaGreat
