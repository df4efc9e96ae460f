import Derived.Test.YtofinpocigbbeaaGreatKba
import Derived.Test.YtofinpocigbbeaaGreatKbl
import Derived.Test.YtofinpocigbbeaaGreatKbn
set_option maxHeartbeats 1000000
set_option maxRecDepth 100000
set_option linter.unusedSimpArgs false
namespace Go.Proofs.YtofinpocigbbeaaGreat
open Go.RowKit Go.Proofs.Tryz
variable{H W:Nat}{O:Rgn}{f g:Nat->Int}{r:R4}
theorem FI(f:Nat->Int)(m:Nat):Az f (m+1)=Az f m+f m:=rfl
theorem Bm:∀m,(∀i,i<m->f i=g i)->Az f m=Az g m
 |0,_=>rfl
 |m+1,h=>by
  unfold Az;rw[Bm m fun i hi=>h i (by omega),h m (by omega)]
theorem MR(f g:Nat->Int):∀m,Az (fun i=>f i+g i) m=Az f m+Az g m
 |0=>rfl
 |m+1=>by
  unfold Az;rw[MR f g m];omega
theorem EB:∀m,Az (fun _=>0) m=0
 |0=>rfl
 |m+1=>by
  unfold Az;rw[EB m];rfl
theorem EN(f:Nat->Int)(a:Nat):∀b,Az f (a+b)=Az f a+Az (fun i=>f (a+i)) b
 |0=>by simp[Az]
 |b+1=>by
  rw[show a+(b+1)=(a+b)+1 from rfl,FI,FI,EN f a b];omega
theorem MS(h:Nat->Int)(a b n:Nat)(hab:a<=b)(hb:b<=n):Az (fun i=>if a<=i/\i<b then h i else 0) n=Az (fun i=>h (a+i)) (b-a):=by
 obtain⟨c,rfl⟩:∃c,b=a+c:=⟨b-a,by omega⟩;obtain⟨e,rfl⟩:∃e,n=a+(c+e):=⟨n-(a+c),by omega⟩;rw[EN,EN,show a+c-a=c by omega];have z1:Az (fun i=>if a<=i/\i<a+c then h i else 0) a=0:=by
  rw[Bm (g:=fun _=>0) a fun i hi=>if_neg (by omega)];exact EB a
 have z2:Az (fun i=>if a<=a+(c+i)/\a+(c+i)<a+c then h (a+(c+i))else 0) e=0:=by
  rw[Bm (g:=fun _=>0) e fun i hi=>if_neg (by omega)];exact EB e
 have z3:Az (fun i=>if a<=a+i/\a+i<a+c then h (a+i)else 0) c=Az (fun i=>h (a+i)) c:=Bm c fun i hi=>if_pos (by omega);rw[z1,z2,z3];omega
theorem Ll(g:Nat->Nat->Int)(W:Nat)(hW:0<W):∀H,Az (fun k=>g (k%W) (k/W)) (W*H)=Az (fun y=>Az (fun x=>g x y) W) H
 |0=>rfl
 |H+1=>by
  rw[Nat.mul_succ,EN,Ll g W hW H];rw[FI];congr 1
  refine Bm W fun i hi=>?_;rw[Nat.mul_add_mod,Nat.mod_eq_of_lt hi,Nat.mul_add_div hW,Nat.div_eq_of_lt hi,Nat.add_zero]
theorem TW(laid:Nat->Nat->Int)(hW:0<W)(h:Fc W H r):JW laid r=Az (fun k=>if inR r ((k%W:Nat):Int) ((k/W:Nat):Int)=true then laid (k%W) (k/W)else 0) (W*H):=by
 obtain⟨x0,y0,x1,y1,rfl,h1,h2,h3,h4⟩:=h.nats;rw[Ll (fun x y=>if inR ((x0:Int),(y0:Int),(x1:Int),(y1:Int)) (x:Int) (y:Int)=true then laid x y else 0) W hW H];unfold JW EV;simp only[aX];rw[<-MS (fun y=>Az (fun i=>laid (x0+i) y) (x1-x0)) y0 y1 H h3 h4];refine Bm H fun y hy=>?_;split
 ·rw[<-MS (fun x=>laid x y) x0 x1 W h1 h2];refine Bm W fun x hx=>?_;unfold inR;by_cases e:x0<=x/\x<x1
  ·rw[if_pos e,if_pos (bQ (by simp only;omega))]
  ·rw[if_neg e,if_neg (by simp only[bT];omega)]
 ·rename_i hn
  rw[Bm (g:=fun _=>0) W fun x hx=>?_,EB];unfold inR;rw[if_neg (by simp only[bT];omega)]
def VE(l:List R4)(x y:Int):Int:=((l.filter fun r=>inR r x y).length:Int)
theorem MT(laid:Nat->Nat->Int)(hW:0<W)(l:List R4)(hon:∀r∈l,Fc W H r):∀m,m<=l.length->DX laid l m=Az (fun k=>VE (l.take m) ((k%W:Nat):Int) ((k/W:Nat):Int)*laid (k%W) (k/W)) (W*H)
 |0,_=>by
  unfold DX VE;simp[Az];exact(EB _).symm
 |m+1,hm=>by
  have ih:=MT laid hW l hon m (by omega);have hml:m<l.length:=by omega
  unfold DX at ih ⊢;rw[FI,ih,bu,aU hml];simp only[Option.getD_some];have e1:=TW laid hW (hon _ (aZ hml));rw[e1,<-MR];refine Bm (W*H) fun k _=>?_;unfold VE;rw[bn hml,List.filter_append,aY,ch];split
  ·simp[Int.add_mul]
  ·simp
theorem VF{l:List R4}{x y:Int}(h:(l.filter fun r=>inR r x y).length<=1):VE l x y=if AE l x y=true then 1 else 0:=by
 unfold VE AE;cases ha:l.any fun r=>inR r x y with
 |true=>
  rw[if_pos rfl];obtain⟨r,hr,hi⟩:=cF.1 ha;have:r∈l.filter fun r=>inR r x y:=bY.2 ⟨hr,hi⟩;have:=List.length_pos_of_mem this;omega
 |false=>
  rw[if_neg (by simp)];rw[cJ]at ha;have:l.filter (fun r=>inR r x y)=[]:=List.filter_eq_nil_iff.2 fun r hr=>ha r hr;rw[this];rfl
theorem J9:∀ {S:List (Int×Int)},(An S).Pairwise (· < ·)->S.Pairwise fun s t=>s.2<t.1
 | [],_=>List.Pairwise.nil
 |s::S,h=>by
  rw[A5,bX,bX]at h;refine bX.2 ⟨fun t ht=>h.2.1 t.1 ?_,J9 h.2.2⟩;unfold An;exact List.mem_flatMap.2 ⟨t,ht,by simp⟩
theorem IR:∀ {A:Rgn},(Ag A).Pairwise (· <= ·)->A.Pairwise fun a b=>a.2.1<=b.1
 | [],_=>List.Pairwise.nil
 |a::A,h=>by
  rw[AB,bX,bX]at h;refine bX.2 ⟨fun t ht=>h.2.1 t.1 ?_,IR h.2.2⟩;unfold Ag;exact List.mem_flatMap.2 ⟨t,ht,by simp⟩
theorem VG(hO:AL O)(x y:Int):(rc O).Pairwise fun a b=>¬(inR a x y=true/\inR b x y=true):=by
 unfold rc;rw[List.pairwise_flatMap];constructor
 ·intro b hb;rw[List.pairwise_map];refine(J9 (hO.sp b hb).1.rising).imp ?_;intro s t hst;unfold inR;simp only[bT];omega
 ·refine(IR hO.lv).imp ?_;intro a b hab p hp q hq;obtain⟨s,_,rfl⟩:=List.mem_map.1 hp;obtain⟨t,_,rfl⟩:=List.mem_map.1 hq;unfold inR;simp only[bT];omega
theorem YC(hO:AL O)(x y:Int):((rc O).filter fun r=>inR r x y).length<=1:=by
 have h:=(VG hO x y).filter fun r=>inR r x y;have hall:∀r∈(rc O).filter fun r=>inR r x y,inR r x y=true:=fun r hr=>(bY.1 hr).2;generalize (rc O).filter (fun r=>inR r x y)=l at h hall
 match l,h,hall with
 | [],_,_=>simp
 | [a],_,_=>simp
 |a::b::l,h,hall=>
  rw[bX]at h;exact absurd ⟨hall a (by simp),hall b (by simp)⟩ (h.1 b (by simp))
theorem TX(laid:Nat->Nat->Int)(hW:0<W)(hO:AL O)(hon:∀r∈rc O,Fc W H r):DX laid (rc O) (rc O).length=Az (fun k=>if AE (rc O) ((k%W:Nat):Int) ((k/W:Nat):Int)=true then laid (k%W) (k/W)else 0) (W*H):=by
 rw[MT laid hW (rc O) hon _ (aO _),List.take_length];refine Bm _ fun k _=>?_;rw[VF (YC hO _ _)];split
 ·simp
 ·simp
variable{H W x y:Int}{L:List RB}{age k n:Nat}{d:Cv}{f:Nat->R4}{q:Nat->Bool}
theorem Qf(h:0<=x/\x<W/\0<=y/\y<H):inR (0,0,W,H) x y=true:=by
 unfold inR;exact bQ (by simp only;omega)
theorem Ha(h:¬(0<=x/\x<W/\0<=y/\y<H)):inR (0,0,W,H) x y=false:=by
 unfold inR;exact cE (by simp only;omega)
theorem Xe(h:inR (0,0,W,H) x y=true):0<=x/\x<W/\0<=y/\y<H:=by
 unfold inR at h;rw[bT]at h;simp only at h;omega
structure C4(d:Cv)(L:List RB):Prop where
 len:L.length=d.bufs.length
 pix:∀i (hi:i<L.length) (hi':i<d.bufs.length),∀k,k<d.W*d.H->L[i].f k=d.bufs[i].f k
 age:∀i (hi:i<L.length) (hi':i<d.bufs.length),L[i].age=d.bufs[i].age
 dirty:∀i (hi:i<L.length) (hi':i<d.bufs.length),1<=d.bufs[i].age->d.bufs[i].age<=4->∀k,k<d.W*d.H->L[i].dirty k=d.stale d.bufs[i].age ((k%d.W:Nat):Int) ((k/d.W:Nat):Int)
theorem Fl(d:Cv)(h1:1<=age)(h4:age<=4)(x y:Int):d.stale age x y=(List.range age).any fun k=>Ay (d.back k) x y:=by
 unfold Cv.stale;rw[if_neg (by omega)]
theorem RO(d:Cv)(h:age=0\/4<age)(hW:0<d.W)(hk:k<d.W*d.H):d.stale age ((k%d.W:Nat):Int) ((k/d.W:Nat):Int)=true:=by
 unfold Cv.stale;rw[if_pos h];have h1:=Nat.mod_lt k hW;have h2:k/d.W<d.H:=Nat.div_lt_of_lt_mul hk;generalize k%d.W=a at*;generalize k/d.W=b at*;exact Qf (by omega)
theorem C4.new(W H:Nat)(gs:List Nat):C4 (Cv.new W H gs) (List.replicate gs.length J8):=by
 have hb:∀i (h:i<(Cv.new W H gs).bufs.length),(Cv.new W H gs).bufs[i].age=0/\(Cv.new W H gs).bufs[i].f=fun _=>(0,0,0,0):=fun i h=>by
  simp[Cv.new,Gj]
 refine⟨by simp[Cv.new],fun i hi hi' k _=>?_,fun i hi hi'=>?_,fun i hi hi' h1=>?_⟩
 ·rw[(hb i hi').2,List.getElem_replicate];rfl
 ·rw[(hb i hi').1,List.getElem_replicate];rfl
 ·rw[(hb i hi').1]at h1;omega
theorem VJ(h:Co d)(R:Rgn)(hk:k<4):({d with dam:=d.dam.set d.nw R}:Cv).back k=if k=0 then R else d.back k:=by
 have h1:=h.nw;have h2:=h.ln;unfold Cv.back;simp only;rw[bW];by_cases e:k=0
 ·subst e;have e1:(d.nw+4-0)%4=d.nw:=by omega
  rw[e1,if_pos rfl,if_pos rfl,if_pos (by omega)];rfl
 ·rw[if_neg (by omega),if_neg e]
theorem C4.hurt{d':Cv}{l l':List R4}{L':List RB}(h:C4 d L)(hd:Co d)(hD:PR d d' l)(hH:Db L L' (d.W*d.H) (Cq l' d.W))(he:∀x y,AE l' x y=AE l x y):C4 d' L':=by
 obtain⟨R,rfl,hR,hm⟩:=hD;have h1:=hd.nw;have hb:∀ {k:Nat},k<4->∀x y,Ay (({d with dam:=d.dam.set d.nw R}:Cv).back k) x y=(Ay (d.back k) x y||(decide (k=0)&&AE l x y)):=fun{k} hk x y=>by
  rw[VJ hd R hk];by_cases e:k=0
  ·subst e;rw[if_pos rfl,hm];have e1:d.back 0=(d.dam[d.nw]?).getD []:=by
    unfold Cv.back;rw[show(d.nw+4-0)%4=d.nw by omega]
   rw[e1];simp
  ·rw[if_neg e];simp[e]
 have hs:∀age,1<=age->age<=4->∀x y,({d with dam:=d.dam.set d.nw R}:Cv).stale age x y=(d.stale age x y||AE l x y):=fun age a1 a4 x y=>by
  rw[Fl _ a1 a4,Fl _ a1 a4,Bool.eq_iff_iff,Bool.or_eq_true,cF,cF];constructor
  ·rintro⟨k,hk,hv⟩;have hk':=cf.1 hk;rw[hb (by omega)]at hv;rw[Bool.or_eq_true,Bool.and_eq_true]at hv;rcases hv with hv|hv
   ·exact .inl ⟨k,hk,hv⟩
   ·exact .inr hv.2
  ·rintro(⟨k,hk,hv⟩|hv)
   ·have hk':=cf.1 hk;exact⟨k,hk,by rw[hb (by omega),hv];rfl⟩
   ·exact⟨0,cf.2 (by omega),by rw[hb (by omega),hv];simp⟩
 refine⟨hH.1.trans h.len,fun i hi hi' k hk=>?_,fun i hi hi'=>?_,fun i hi hi' a1 a4 k hk=>?_⟩
 ·have hi0:i<L.length:=by rw[<-hH.1];exact hi
  rw[(hH.2 i hi0 hi).1];exact h.pix i hi0 hi' k hk
 ·have hi0:i<L.length:=by rw[<-hH.1];exact hi
  rw[(hH.2 i hi0 hi).2.1];exact h.age i hi0 hi'
 ·have hi0:i<L.length:=by rw[<-hH.1];exact hi
  rw[(hH.2 i hi0 hi).2.2 k hk,h.dirty i hi0 hi' a1 a4 k hk];show _=({d with dam:=d.dam.set d.nw R}:Cv).stale _ _ _;rw[hs _ a1 a4];unfold Cq;rw[he]
def Cy(L:List RB)(i:Nat)(f:Nat->R4):List RB:=L.mapIdx fun j b=>if j=i then⟨f,1,fun _=>false⟩else{b with age:=if 0<b.age then b.age+1 else 0}
theorem Lv(h:Co d)(hk:k+1<4):d.grown.back (k+1)=d.back k:=by
 have h1:=h.nw;have h2:=h.ln;unfold Cv.back Cv.grown;simp only;rw[bW,if_neg (by omega),show((d.nw+1)%4+4-(k+1))%4=(d.nw+4-k)%4 by omega]
theorem Lw(h:Co d):d.grown.back 0=[]:=by
 have h1:=h.nw;have h2:=h.ln;unfold Cv.back Cv.grown;simp only;rw[bW,if_pos (by omega),if_pos (by rw[h2];omega)];rfl
theorem Qg(h:Co d)(h1:1<=age)(h4:age+1<=4)(x y:Int):d.grown.stale (age+1) x y=d.stale age x y:=by
 rw[Fl _ (by omega) h4,Fl _ h1 (by omega),Bool.eq_iff_iff,cF,cF];constructor
 ·rintro⟨k,hk,hv⟩;have hk':=cf.1 hk;cases k with
  |zero=>rw[Lw h]at hv;simp[Ay]at hv
  |succ k=>exact⟨k,cf.2 (by omega),by rw[Lv h (by omega)]at hv;exact hv⟩
 ·rintro⟨k,hk,hv⟩;have hk':=cf.1 hk;exact⟨k+1,cf.2 (by omega),by rw[Lv h (by omega)];exact hv⟩
theorem C4.paint(h:C4 d L)(hd:Co d)(i:Nat){f':Nat->R4}(hf:∀k,k<d.W*d.H->f' k=f k):C4 (d.painted i f) (Cy L i f'):=by
 have hl:(d.painted i f).bufs.length=d.bufs.length:=by unfold Cv.painted;simp
 have hb:∀j (hj:j<(d.painted i f).bufs.length) (hj':j<d.bufs.length),(d.painted i f).bufs[j]=if j=i then⟨d.bufs[j].g,1,f⟩else d.bufs[j].older:=fun j hj hj'=>List.getElem_mapIdx
 have hr:∀j (hj:j<(Cy L i f').length) (hj':j<L.length),(Cy L i f')[j]=if j=i then⟨f',1,fun _=>false⟩else{L[j]with age:=if 0<L[j].age then L[j].age+1 else 0} :=fun j hj hj'=>List.getElem_mapIdx
 have hst:∀age x y,(d.painted i f).stale age x y=d.grown.stale age x y:=fun age x y=>rfl;have ho:∀b:Buf,b.older.age=if 0<b.age then b.age+1 else 0:=fun b=>by
  unfold Buf.older;split
  ·rfl
  ·omega
 refine⟨by rw[hl];unfold Cy;rw[List.length_mapIdx];exact h.len,fun j hj hj' k hk=>?_,fun j hj hj'=>?_,fun j hj hj' a1 a4 k hk=>?_⟩;all_goals
  have hj1:j<L.length:=by unfold Cy at hj;simpa using hj
  have hj2:j<d.bufs.length:=by rw[hl]at hj';exact hj'
 ·rw[hb j hj' hj2,hr j hj hj1];by_cases e:j=i
  ·rw[if_pos e,if_pos e];exact hf k hk
  ·rw[if_neg e,if_neg e,Buf.older_f];exact h.pix j hj1 hj2 k hk
 ·rw[hb j hj' hj2,hr j hj hj1];by_cases e:j=i
  ·rw[if_pos e,if_pos e]
  ·rw[if_neg e,if_neg e,ho,<-h.age j hj1 hj2]
 ·rw[hst];rw[hb j hj' hj2]at a1 a4 ⊢;rw[hr j hj hj1];by_cases e:j=i
  ·rw[if_pos e,if_pos e];show false=d.grown.stale 1 _ _;rw[Fl _ (by omega) (by omega)];show false=([0].any fun k=>Ay (d.grown.back k) _ _);simp[Lw hd,Ay]
  ·rw[if_neg e]at a1 a4;rw[if_neg e,if_neg e];rw[ho]at a1 a4 ⊢;by_cases hp:0<d.bufs[j].age
   ·rw[if_pos hp]at a4 ⊢;rw[Qg hd (by omega) a4];exact h.dirty j hj1 hj2 (by omega) (by omega) k hk
   ·rw[if_neg hp]at a1;omega
theorem C4.fill(h:C4 d L)(i g:Nat)(q:Nat->Bool):C4 (d.filled i g f) (L.set i ⟨f,0,q⟩):=by
 have hl:(d.filled i g f).bufs.length=d.bufs.length:=by unfold Cv.filled;simp
 have hb:∀j (hj:j<(d.filled i g f).bufs.length) (hj':j<d.bufs.length),(d.filled i g f).bufs[j]=if i=j then⟨g,0,f⟩else d.bufs[j]:=fun j hj hj'=>List.getElem_set hj
 have hr:∀j (hj:j<(L.set i (⟨f,0,q⟩:RB)).length) (hj':j<L.length),(L.set i (⟨f,0,q⟩:RB))[j]=if i=j then⟨f,0,q⟩else L[j]:=fun j hj hj'=>by rw[List.getElem_set]
 refine⟨by rw[hl,bG];exact h.len,fun j hj hj' k hk=>?_,fun j hj hj'=>?_,fun j hj hj' a1 a4 k hk=>?_⟩;all_goals
  have hj1:j<L.length:=by simpa using hj
  have hj2:j<d.bufs.length:=by rw[hl]at hj';exact hj'
 ·rw[hb j hj' hj2,hr j hj hj1];split
  ·rfl
  ·exact h.pix j hj1 hj2 k hk
 ·rw[hb j hj' hj2,hr j hj hj1];split
  ·rfl
  ·exact h.age j hj1 hj2
 ·rw[hb j hj' hj2]at a1 a4 ⊢;rw[hr j hj hj1];by_cases e:i=j
  ·rw[if_pos e]at a1;simp at a1
  ·rw[if_neg e]at a1 a4;rw[if_neg e,if_neg e];exact h.dirty j hj1 hj2 a1 a4 k hk
def AP(n:Nat):List Int:=(List.range (n+1)).map fun(k:Nat)=>(k:Int)
theorem Bh(n:Nat):(AP n).length=n+1:=by simp[AP]
theorem Cz(h:k<=n):nth (AP n) k=k:=by
 rw[BZ _ _ (by rw[Bh];omega)];simp[AP]
theorem Dc(n:Nat):(AP n).Pairwise (· < ·):=by
 rw[cN];intro i j hi hj hij;simp only[AP,List.getElem_map,List.getElem_range];omega
theorem IV(h:n<=24):∀e∈AP n, -2000<=e/\e<=2000:=by
 intro e he;obtain⟨k,hk,rfl⟩:=List.mem_map.1 he;have:=cf.1 hk;omega
def CG(q:Nat->Bool)(n:Nat):List Bool:=(List.range n).map q
theorem T9{W H i:Nat}(hi:i<H):EZ (CG q (W*H)) W i=(List.range W).map fun x=>q (i*W+x):=by
 have hle:(i+1)*W<=W*H:=by rw[Nat.mul_comm W H];exact bU W hi
 rw[Nat.add_mul,Nat.one_mul]at hle;unfold EZ CG;refine List.ext_getElem ?_ fun x h1 h2=>?_
 ·simp;omega
 ·simp
theorem RP{W H:Nat}(x y:Int):E0 (AP W) (AP H) (CG q (W*H)) x y=(inR (0,0,(W:Int),(H:Int)) x y&&q (y.toNat*W+x.toNat)):=by
 have sF:=Dc H;have sE:=Dc W;by_cases hy0:y<0
 ·rw[Ij sF (by rw[Cz (cB _)];omega)];have:inR (0,0,(W:Int),(H:Int)) x y=false:=Ha (by omega);rw[this];rfl
 ·by_cases hy1:(H:Int)<=y
  ·rw[Gy sF (by rw[Bh,Nat.add_sub_cancel,Cz (aO _)];exact hy1)];have:inR (0,0,(W:Int),(H:Int)) x y=false:=Ha (by omega);rw[this];rfl
  ·obtain⟨Y,hY⟩:∃Y:Nat,y=(Y:Int):=⟨y.toNat,by omega⟩;subst hY;rw[Jx sF (i:=Y) (by rw[Bh];omega) (by rw[Cz (by omega)];omega) (by rw[Cz (by omega)];omega),Bh,Nat.add_sub_cancel,T9 (by omega)];have hl:((List.range W).map fun x=>q (Y*W+x)).length+1=(AP W).length:=by rw[Bh];simp
   by_cases hx0:x<0
   ·rw[Ii sE hl (by rw[Cz (cB _)];omega)];have:inR (0,0,(W:Int),(H:Int)) x (Y:Int)=false:=Ha (by omega);rw[this];rfl
   ·by_cases hx1:(W:Int)<=x
    ·rw[Gw sE hl (by rw[List.length_map,List.length_range,Cz (aO _)];exact hx1)];have:inR (0,0,(W:Int),(H:Int)) x (Y:Int)=false:=Ha (by omega);rw[this];rfl
    ·obtain⟨X,hX⟩:∃X:Nat,x=(X:Int):=⟨x.toNat,by omega⟩;subst hX;rw[Fk sE hl (k:=X) (by simp;omega) (by rw[Cz (by omega)];omega) (by rw[Cz (by omega)];omega)];have:inR (0,0,(W:Int),(H:Int)) (X:Int) (Y:Int)=true:=Qf (by omega);rw[this,aX,aX,bu,bZ,List.getElem?_range (by omega)];rfl
theorem Qh(hd:Co d)(hq:∀k,k<d.W*d.H->q k=d.stale age ((k%d.W:Nat):Int) ((k/d.W:Nat):Int)){O O':Rgn}(hO:AL O)(hm:∀x y,Ay O x y=d.stale age x y)(hG:EE (AP d.W) (AP d.H) (CG q (d.W*d.H)) ((AP d.H).length-1) O'):O'=O:=by
 refine MD hG.good hO fun x y=>?_;rw[Lr (Dc _) hG,RP,hm];cases hin:inR (0,0,(d.W:Int),(d.H:Int)) x y with
 |false=>
  rw[Bool.false_and];symm;unfold Cv.stale;split
  ·exact hin
  ·rw[cJ];intro k _ hk;unfold Cv.back at hk;rcases e:d.dam[(d.nw+4-k)%4]?with _|R
   ·rw[e]at hk;simp[Ay]at hk
   ·rw[e]at hk;have:=hd.inside R (cH e) x y hk;rw[hin]at this;cases this
 |true=>
  rw[Bool.true_and];have h:=Xe hin;obtain⟨X,hX⟩:∃X:Nat,x=(X:Int):=⟨x.toNat,by omega⟩;obtain⟨Y,hY⟩:∃Y:Nat,y=(Y:Int):=⟨y.toNat,by omega⟩;subst hX hY;have hXW:X<d.W:=by omega
  have hk:Y*d.W+X<d.W*d.H:=by
   have hle:(Y+1)*d.W<=d.W*d.H:=by rw[Nat.mul_comm d.W d.H];exact bU _ (by omega)
   rw[Nat.add_mul,Nat.one_mul]at hle;omega
  rw[aX,aX,hq _ hk,(RF hXW).1,(RF hXW).2]
attribute [local go_sem ↓] Go.wp_at_zero Go.wp_at_succ
theorem Ua(k:Nat):(List.range (k+1)).map (fun(i:Nat)=>vj (i:Int))=(List.range k).map (fun(i:Nat)=>vj (i:Int))++[vj (k:Int)]:=by
 rw[List.range_succ,cL];rfl
theorem IW(n:Nat)(hn:n<=24)(w:World):
  Calls prog 184 #[vj n] w fun e w'=>∃g cap,e=.returned (sj g (n+1) cap)/\DP w' g (AP n)/\w.heap.size<=g/\g<w'.heap.size/\uj w w':=by
 obtain⟨i0,hi0,hz0,hz1,hz2⟩:=cW EJ;have HFin:Hid (∀(v:Value) (w':World),w'.ownsRow w.heap.size 3 1 v (n+1) ((List.range (n+1)).map fun(i:Nat)=>vj (i:Int))->∃g cap,v=sj g (n+1) cap/\DP w' g (AP n)/\w.heap.size<=g/\g<w'.heap.size):=fun v w' ho=>by
  obtain⟨g,cap,e1,e2,e3⟩:=World.ownsRow.form ho (by omega);refine⟨g,cap,e1,fun j hj=>?_,e2,e3⟩;rw[Bh]at hj;have:=cj ho (g:=g) (by rw[e1];rfl) j (vj (j:Int)) (by rw[bZ,List.getElem?_range hj];rfl);rw[Bn]at this;rw[Cz (by omega)];exact this
 go_enter func184,ntmps184
 go_wp2
 go_loopg [3,4] (n+1) (fun gg s3 s4 wr=>∃k:Nat,s4=vj k/\gg+k=n+1/\wr.ownsRow w.heap.size 3 1 s3 k ((List.range k).map fun(i:Nat)=>vj (i:Int))/\uj w wr)
 case atStart=>exact⟨0,rfl,by omega,bA _ _ _ _,aN _ _⟩
 case round=>
  rename World=>wr;obtain⟨k,rfl,hgk,hown,hbel⟩:=hrel;obtain⟨va,vc,hvf⟩:=Al hown;subst hvf;have hsz:=hbel.size;have HO:=Aa (aK hown hbel);cases gk with
  |zero=>
   have hlt:¬(k:Int)<=(n:Int):=by omega
   have hk:k=n+1:=by omega
   subst hk;obtain⟨g,cap,hv,h1,h2,h3⟩:=HFin.out _ _ hown;have HF:=Aa (aK h1 (aK h2 h3));injection hv with hv1 _ hv3;subst hv1 hv3;clear hown hbel h1 h2 h3;go_wp2;go_ret;exact⟨g,⟨vc,rfl⟩,HF.out.1,HF.out.2.1,HF.out.2.2,HO.out.2⟩
  |succ gk=>
   have hlt:(k:Int)<=(n:Int):=by omega
   clear hown hbel
   go_wp2_with(at_builtin;refine Am (P:=prog) rfl (.tmp 10) (.tmp 12) 24 rfl w.heap.size 3 i0 _ 1 8 underlying24 hi0 hz0 hz1 hz2 rfl (by decide) (.slice va k vc) k ((List.range k).map fun(i:Nat)=>vj (i:Int)) rfl (HO.out.1.alloc _) (sj wr.heap.size 1 1) 1 [vj k] rfl rfl (.inr ⟨_,_,rfl,bI (cs:=#[vj k]) (t:=3) (fr:=(0,0)) (aR wr _)⟩) (by simp[Value.oneCell']) (by unfold maxLen;omega) (by omega) (by simp;omega) ?_;intro v3 w3 ho3 hg3 hn3 ha3;have HB3:=Aa ((HO.out.2.alloc hsz _).grown hg3 (by simp;omega) (fun k hk=>(HO.out.1.lt k hk).1));have HO3:=Aa ho3;clear ho3 hg3 hn3 ha3)
   go_roundg gk
   case measure=>omega
   case rel=>
    refine⟨k+1,by go_num,by omega,?_,HB3.out⟩;rw[Ua];exact HO3.out
end Go.Proofs.YtofinpocigbbeaaGreat
