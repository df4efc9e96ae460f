import Derived.Test.YtofinpocigbbeaaGreatKak
set_option linter.unusedSimpArgs false
namespace Go.Proofs.YtofinpocigbbeaaGreat
open Go.RowKit
variable{H W:Nat}{O:Rgn}{f g:Nat->Int}{r:R4}
theorem FI(f:Nat->Int)(m:Nat):Az f (m+1)=Az f m+f m:=rfl
theorem Bm:∀m,(∀i,i<m->f i=g i)->Az f m=Az g m
 |0,_=>rfl
 |m+1,h=>by
  unfold Az;rw[Bm m fun i hi=>h i (by omega),h m (by omega)]
theorem MR(f g:Nat->Int):∀m,Az (fun i=>f i+g i) m=Az f m+Az g m
 |0=>rfl
 |m+1=>by
  unfold Az;rw[MR f g m];omega
theorem EB:∀m,Az (fun _=>0) m=0
 |0=>rfl
 |m+1=>by
  unfold Az;rw[EB m];rfl
theorem EN(f:Nat->Int)(a:Nat):∀b,Az f (a+b)=Az f a+Az (fun i=>f (a+i)) b
 |0=>by simp[Az]
 |b+1=>by
  rw[show a+(b+1)=(a+b)+1 from rfl,FI,FI,EN f a b];omega
theorem MS(h:Nat->Int)(a b n:Nat)(hab:a<=b)(hb:b<=n):Az (fun i=>if a<=i/\i<b then h i else 0) n=Az (fun i=>h (a+i)) (b-a):=by
 obtain⟨c,rfl⟩:∃c,b=a+c:=⟨b-a,by omega⟩;obtain⟨e,rfl⟩:∃e,n=a+(c+e):=⟨n-(a+c),by omega⟩;rw[EN,EN,show a+c-a=c by omega];have z1:Az (fun i=>if a<=i/\i<a+c then h i else 0) a=0:=by
  rw[Bm (g:=fun _=>0) a fun i hi=>if_neg (by omega)];exact EB a
 have z2:Az (fun i=>if a<=a+(c+i)/\a+(c+i)<a+c then h (a+(c+i))else 0) e=0:=by
  rw[Bm (g:=fun _=>0) e fun i hi=>if_neg (by omega)];exact EB e
 have z3:Az (fun i=>if a<=a+i/\a+i<a+c then h (a+i)else 0) c=Az (fun i=>h (a+i)) c:=Bm c fun i hi=>if_pos (by omega);rw[z1,z2,z3];omega
theorem Ll(g:Nat->Nat->Int)(W:Nat)(hW:0<W):∀H,Az (fun k=>g (k%W) (k/W)) (W*H)=Az (fun y=>Az (fun x=>g x y) W) H
 |0=>rfl
 |H+1=>by
  rw[Nat.mul_succ,EN,Ll g W hW H];rw[FI];congr 1
  refine Bm W fun i hi=>?_;rw[Nat.mul_add_mod,Nat.mod_eq_of_lt hi,Nat.mul_add_div hW,Nat.div_eq_of_lt hi,Nat.add_zero]
theorem TW(laid:Nat->Nat->Int)(hW:0<W)(h:Fc W H r):JW laid r=Az (fun k=>if inR r ((k%W:Nat):Int) ((k/W:Nat):Int)=true then laid (k%W) (k/W)else 0) (W*H):=by
 obtain⟨x0,y0,x1,y1,rfl,h1,h2,h3,h4⟩:=h.nats;rw[Ll (fun x y=>if inR ((x0:Int),(y0:Int),(x1:Int),(y1:Int)) (x:Int) (y:Int)=true then laid x y else 0) W hW H];unfold JW EV;simp only[aX];rw[<-MS (fun y=>Az (fun i=>laid (x0+i) y) (x1-x0)) y0 y1 H h3 h4];refine Bm H fun y hy=>?_;split
 ·rw[<-MS (fun x=>laid x y) x0 x1 W h1 h2];refine Bm W fun x hx=>?_;unfold inR;by_cases e:x0<=x/\x<x1
  ·rw[if_pos e,if_pos (bQ (by simp only;omega))]
  ·rw[if_neg e,if_neg (by simp only[bT];omega)]
 ·rename_i hn
  rw[Bm (g:=fun _=>0) W fun x hx=>?_,EB];unfold inR;rw[if_neg (by simp only[bT];omega)]
def VE(l:List R4)(x y:Int):Int:=((l.filter fun r=>inR r x y).length:Int)
theorem MT(laid:Nat->Nat->Int)(hW:0<W)(l:List R4)(hon:∀r∈l,Fc W H r):∀m,m<=l.length->DX laid l m=Az (fun k=>VE (l.take m) ((k%W:Nat):Int) ((k/W:Nat):Int)*laid (k%W) (k/W)) (W*H)
 |0,_=>by
  unfold DX VE;simp[Az];exact(EB _).symm
 |m+1,hm=>by
  have ih:=MT laid hW l hon m (by omega);have hml:m<l.length:=by omega
  unfold DX at ih ⊢;rw[FI,ih,bu,aU hml];simp only[Option.getD_some];have e1:=TW laid hW (hon _ (aZ hml));rw[e1,<-MR];refine Bm (W*H) fun k _=>?_;unfold VE;rw[bn hml,List.filter_append,aY,ch];split
  ·simp[Int.add_mul]
  ·simp
theorem VF{l:List R4}{x y:Int}(h:(l.filter fun r=>inR r x y).length<=1):VE l x y=if AE l x y=true then 1 else 0:=by
 unfold VE AE;cases ha:l.any fun r=>inR r x y with
 |true=>
  rw[if_pos rfl];obtain⟨r,hr,hi⟩:=cF.1 ha;have:r∈l.filter fun r=>inR r x y:=bY.2 ⟨hr,hi⟩;have:=List.length_pos_of_mem this;omega
 |false=>
  rw[if_neg (by simp)];rw[cJ]at ha;have:l.filter (fun r=>inR r x y)=[]:=List.filter_eq_nil_iff.2 fun r hr=>ha r hr;rw[this];rfl
theorem J9:∀ {S:List (Int×Int)},(An S).Pairwise (· < ·)->S.Pairwise fun s t=>s.2<t.1
 | [],_=>List.Pairwise.nil
 |s::S,h=>by
  rw[A5,bX,bX]at h;refine bX.2 ⟨fun t ht=>h.2.1 t.1 ?_,J9 h.2.2⟩;unfold An;exact List.mem_flatMap.2 ⟨t,ht,by simp⟩
theorem IR:∀ {A:Rgn},(Ag A).Pairwise (· <= ·)->A.Pairwise fun a b=>a.2.1<=b.1
 | [],_=>List.Pairwise.nil
 |a::A,h=>by
  rw[AB,bX,bX]at h;refine bX.2 ⟨fun t ht=>h.2.1 t.1 ?_,IR h.2.2⟩;unfold Ag;exact List.mem_flatMap.2 ⟨t,ht,by simp⟩
theorem VG(hO:AL O)(x y:Int):(rc O).Pairwise fun a b=>¬(inR a x y=true/\inR b x y=true):=by
 unfold rc;rw[List.pairwise_flatMap];constructor
 ·intro b hb;rw[List.pairwise_map];refine(J9 (hO.sp b hb).1.rising).imp ?_;intro s t hst;unfold inR;simp only[bT];omega
 ·refine(IR hO.lv).imp ?_;intro a b hab p hp q hq;obtain⟨s,_,rfl⟩:=List.mem_map.1 hp;obtain⟨t,_,rfl⟩:=List.mem_map.1 hq;unfold inR;simp only[bT];omega
theorem YC(hO:AL O)(x y:Int):((rc O).filter fun r=>inR r x y).length<=1:=by
 have h:=(VG hO x y).filter fun r=>inR r x y;have hall:∀r∈(rc O).filter fun r=>inR r x y,inR r x y=true:=fun r hr=>(bY.1 hr).2;generalize (rc O).filter (fun r=>inR r x y)=l at h hall
 match l,h,hall with
 | [],_,_=>simp
 | [a],_,_=>simp
 |a::b::l,h,hall=>
  rw[bX]at h;exact absurd ⟨hall a (by simp),hall b (by simp)⟩ (h.1 b (by simp))
theorem TX(laid:Nat->Nat->Int)(hW:0<W)(hO:AL O)(hon:∀r∈rc O,Fc W H r):DX laid (rc O) (rc O).length=Az (fun k=>if AE (rc O) ((k%W:Nat):Int) ((k/W:Nat):Int)=true then laid (k%W) (k/W)else 0) (W*H):=by
 rw[MT laid hW (rc O) hon _ (aO _),List.take_length];refine Bm _ fun k _=>?_;rw[VF (YC hO _ _)];split
 ·simp
 ·simp
end Go.Proofs.YtofinpocigbbeaaGreat
