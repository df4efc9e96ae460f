import Derived.Test.YtofinpocigbbeaaGreatKao
import Derived.Test.YtofinpocigbbeaaGreatKar
set_option maxHeartbeats 1000000
set_option maxRecDepth 100000
set_option linter.unusedSimpArgs false
namespace Go.Proofs.YtofinpocigbbeaaGreat
open Go.Proofs.Tryz Go.RowKit
attribute [local go_sem ↓] Go.wp_at_zero Go.wp_at_succ
theorem FE(W H n g x y K:Nat)(hW:W<=24)(hy:y<24)(hK:y*W+x=K)(hKn:K<n)(hn:n<=576)(f:Nat->R4)(w:World)(h:Bj w g n f):
  Calls prog 162 #[.agg #[vj W,vj H,sj g n n],vj x,vj y] w fun e w'=>e=.returned (.agg (Ch (f K)))/\uj w w':=by
 have hl:=h.has.lt;obtain⟨cur,h1,h2,h3⟩:=h;obtain⟨q0,q1,q2,q3⟩:=h3 K hKn;have c0:w.cell? (jA g (K*4))=some (.int .u8 (f K).1):=(aP w g (K*4) cur _ _ h1).trans q0;have c1:w.cell? (jA g (K*4+1))=some (.int .u8 (f K).2.1):=(aP w g (K*4+1) cur _ _ h1).trans q1;have c2:w.cell? (jA g (K*4+2))=some (.int .u8 (f K).2.2.1):=(aP w g (K*4+2) cur _ _ h1).trans q2;have c3:w.cell? (jA g (K*4+3))=some (.int .u8 (f K).2.2.2):=(aP w g (K*4+3) cur _ _ h1).trans q3;have e1:(y:Int)*(W:Int)=((y*W:Nat):Int):=by simp
 obtain⟨M,hM⟩:∃M,y*W=M:=⟨_,rfl⟩;have hMb:M<=576:=by rw[<-hM];exact bh (cI (show y<=24 by omega) hW) (by omega)
 rw[hM]at e1 hK;have e2:(M:Int)+(x:Int)=(K:Int):=by omega
 have hKn':(K:Int)<(n:Int):=by omega
 have hK0:(0:Int)<=(K:Int):=by omega
 unfold Ch;generalize f K=P at c0 c1 c2 c3;clear h1 h2 h3 q0 q1 q2 q3 hM hK;go_enter func162,ntmps162
 go_wp2_with fail
 exact cU (v:=.agg #[.int .u8 P.1,.int .u8 P.2.1,.int .u8 P.2.2.1,.int .u8 P.2.2.2]) (by simp[results,results162,go_sem]) rfl ⟨rfl,Joins.below_alloc2 w _ _⟩
theorem Vl(r:R4)(x y:Int)(w:World):
  Calls prog 189 #[.agg #[vj r.1,vj r.2.1,vj r.2.2.1,vj r.2.2.2],vj x,vj y] w fun e w'=>e=.returned (.bool (inR r x y))/\uj w w':=by
 obtain⟨a,b,c,d⟩:=r;have hcases:¬a<=x\/(a<=x/\¬x<c)\/(a<=x/\x<c/\¬b<=y)\/(a<=x/\x<c/\b<=y/\¬y<d)\/(a<=x/\x<c/\b<=y/\y<d):=by omega
 have hv:∀z:Bool,(z=true↔(a<=x/\x<c/\b<=y/\y<d))->inR (a,b,c,d) x y=z:=fun z hz=>by
  unfold inR;rw[Bool.eq_iff_iff,hz];simp
 rcases hcases with h1|⟨h1,h2⟩|⟨h1,h2,h3⟩|⟨h1,h2,h3,h4⟩|⟨h1,h2,h3,h4⟩
 ·rw[hv false (by simp;omega)];clear hv;go_enter func189,ntmps189
  go_wp2_with fail
  go_ret;exact⟨rfl,Joins.below_alloc1 w _⟩
 ·rw[hv false (by simp;omega)];clear hv;go_enter func189,ntmps189
  go_wp2_with fail
  go_ret;exact⟨rfl,Joins.below_alloc1 w _⟩
 ·rw[hv false (by simp;omega)];clear hv;go_enter func189,ntmps189
  go_wp2_with fail
  go_ret;exact⟨rfl,Joins.below_alloc1 w _⟩
 ·rw[hv false (by simp;omega)];clear hv;go_enter func189,ntmps189
  go_wp2_with fail
  go_ret;exact⟨rfl,Joins.below_alloc1 w _⟩
 ·rw[hv true (by simp;omega)];clear hv;go_enter func189,ntmps189
  go_wp2_with fail
  go_ret;exact⟨rfl,Joins.below_alloc1 w _⟩
theorem TH(w:World):
  Calls prog 168 #[] w fun e w'=>e=.returned (.agg (Ch (0,0,0,255)))/\uj w w':=by
 unfold Ch;go_enter func168,ntmps168
 go_wp2_with fail
 exact cU (v:=.agg #[.int .u8 0,.int .u8 0,.int .u8 0,.int .u8 255]) (by simp[results,results168,go_sem]) rfl ⟨rfl,Joins.below_alloc1 w _⟩
def pts(r:R4):Bool:=decide (r.1<r.2.2.1/\r.2.1<r.2.2.2)
def Fi(p q:R4):R4:=if pts p then(if pts q then(min p.1 q.1,min p.2.1 q.2.1,max p.2.2.1 q.2.2.1,max p.2.2.2 q.2.2.2)else p)else q
theorem PM(W H n g x y K:Nat)(hW:W<=24)(hy:y<24)(hK:y*W+x=K)(hKn:K<n)(hn:n<=576)(f:Nat->Bool)(w:World)(h:A2 w g n f):
  Calls prog 192 #[.agg #[vj W,vj H,sj g n n],vj x,vj y] w fun e w'=>e=.returned (.bool (f K))/\uj w w':=by
 obtain⟨cur,h1,h2,h3⟩:=h;have hl:=Ab h1;have q0:=h3 K hKn;have c0:w.cell? (jA g K)=some (.bool (f K)):=(aP w g K cur _ _ h1).trans q0;have e1:(y:Int)*(W:Int)=((y*W:Nat):Int):=by simp
 obtain⟨M,hM⟩:∃M,y*W=M:=⟨_,rfl⟩;have hMb:M<=576:=by rw[<-hM];exact bh (cI (show y<=24 by omega) hW) (by omega)
 rw[hM]at e1 hK;have e2:(M:Int)+(x:Int)=(K:Int):=by omega
 have hKn':(K:Int)<(n:Int):=by omega
 have hK0:(0:Int)<=(K:Int):=by omega
 generalize f K=P at c0;clear h1 h2 h3 q0 hM hK;go_enter func192,ntmps192
 go_wp2_with fail
 go_ret;exact⟨rfl,Joins.below_alloc1 w _⟩
def Js(z0 z1 z2 z3 z4:Int)(R:R4)(z5 z6:Int)(pa:Option Addr)(pm pk:Nat)(z7 z8:Int)(ka:Option Addr)(km kk:Nat):Array Value:=
 #[vj z0,vj z1,vj z2,vj z3,vj z4,vj R.1,vj R.2.1,vj R.2.2.1,vj R.2.2.2,vj z5,vj z6,.slice pa pm pk,vj z7,vj z8,.slice ka km kk]
theorem K6(z0 z1 z2 z3 z4:Int)(R:R4)(z5 z6:Int)(pa:Option Addr)(pm pk:Nat)(z7 z8:Int)(ka:Option Addr)(km kk:Nat)(x y:Int)(w:World):
  Calls prog 170 #[.agg (Js z0 z1 z2 z3 z4 R z5 z6 pa pm pk z7 z8 ka km kk),vj x,vj y] w fun e w'=>e=.returned (.bool (inR R x y))/\uj w w':=by
 have HR:=Aa (Vl R x y);have HA:=Aa (fun o=>al1 (aO w.heap.size) o);unfold Js;go_enter func170,ntmps170
 go_wp2_with(go_at_call 189;refine(HR.out _).mono ?_;rintro e w1 ⟨rfl,hb⟩;have HB:=Aa ((HA.out _).trans (hb.mono (by simp)));clear hb)
 go_ret;exact⟨rfl,HB.out⟩
theorem NR(z0 z1 z2 z3 z4:Int)(R:R4)(z5 z6:Int)(pa:Option Addr)(pm pk:Nat)(W H:Nat)(ka:Option Addr)(n:Nat)(x y:Int)(f:Nat->Bool)(w:World)(hW:W<=24)(hH:H<=24)(hn:W*H=n)
  (hx: -100000<=x/\x<=100000) (hy: -100000<=y/\y<=100000) (h1: -100000<=z1/\z1<=100000) (h2: -100000<=z2/\z2<=100000)
  (hin:inR R x y=true->0<=x-z1/\x-z1<W/\0<=y-z2/\y-z2<H) (hk:0<n->∃g,ka=some (jA g 0)/\A2 w g n f):
  Calls prog 188 #[.agg (Js z0 z1 z2 z3 z4 R z5 z6 pa pm pk W H ka n n),vj x,vj y] w fun e w'=>e=.returned (.bool (inR R x y&&f ((y-z2).toNat*W+(x-z1).toNat)))/\uj w w':=by
 have HR:=Aa (K6 z0 z1 z2 z3 z4 R z5 z6 pa pm pk W H ka n n x y);have HA:=Aa (fun o=>al1 (aO w.heap.size) o);unfold Js at HR ⊢;obtain⟨t,ht⟩:∃t,inR R x y=t:=⟨_,rfl⟩;rw[ht]at HR hin ⊢;cases t with
 |false=>
  go_enter func188,ntmps188
  go_wp2_with(go_at_call 170;refine(HR.out _).mono ?_;rintro e w1 ⟨rfl,hb⟩;have HB:=Aa ((HA.out _).trans (hb.mono (by simp)));clear hb)
  go_ret;exact⟨rfl,HB.out⟩
 |true=>
  obtain⟨a1,a2,a3,a4⟩:=hin rfl;obtain⟨X,hX⟩:∃X:Nat,x-z1=(X:Int):=⟨(x-z1).toNat,by omega⟩;obtain⟨Y,hY⟩:∃Y:Nat,y-z2=(Y:Int):=⟨(y-z2).toNat,by omega⟩;rw[hX,hY,aX,aX,Bool.true_and];rw[hX]at a1 a2;rw[hY]at a3 a4;have hKn:Y*W+X<n:=by
   have e1:(Y+1)*W<=H*W:=bU W (by omega);have e2:(Y+1)*W=Y*W+W:=Nat.succ_mul Y W;have e3:H*W=n:=by rw[Nat.mul_comm];exact hn
   omega
  have hn2:n<=576:=by rw[<-hn];exact bh (cI hW hH) (by omega)
  obtain⟨g,rfl,hg⟩:=hk (by omega);have HG:Hid (∀V:World,uj w V->Calls prog 192 #[.agg #[vj W,vj H,sj g n n],vj (x-z1),vj (y-z2)] V fun e w'=>e=.returned (.bool (f (Y*W+X)))/\uj V w'):=fun V hV=>by
   obtain⟨cur,q1,q2⟩:=hg;rw[hX,hY];exact PM W H n g X Y _ hW (by omega) rfl hKn hn2 f V ⟨cur,(hV.block g (Ab q1)).trans q1,q2⟩
  generalize f (Y*W+X)=P at*;have HC:Hid (∀V:World,Below (w.alloc (.cells #[vj z0,vj z1,vj z2,vj z3,vj z4,vj R.1,vj R.2.1,vj R.2.2.1,vj R.2.2.2,vj z5,vj z6,.slice pa pm pk,vj W,vj H,sj g n n] 158)).heap.size (w.alloc (.cells #[vj z0,vj z1,vj z2,vj z3,vj z4,vj R.1,vj R.2.1,vj R.2.2.1,vj R.2.2.2,vj z5,vj z6,.slice pa pm pk,vj W,vj H,sj g n n] 158)) V->V.cell? (jA w.heap.size 1)=some (vj z1)/\V.cell? (jA w.heap.size 2)=some (vj z2)/\V.cell? (jA w.heap.size 12)=some (vj W)/\V.cell? (jA w.heap.size 13)=some (vj H)/\V.cell? (jA w.heap.size 14)=some (sj g n n)/\w.heap.size<V.heap.size):=fun V hV=>by
   have q:=(hV.block w.heap.size (by simp)).trans (aR w _);exact⟨aP _ _ 1 _ _ _ q,aP _ _ 2 _ _ _ q,aP _ _ 12 _ _ _ q,aP _ _ 13 _ _ _ q,aP _ _ 14 _ _ _ q,Ab q⟩
  clear hg hk hin a1 a2 a3 a4 hKn ht hX hY;go_enter func188,ntmps188
  go_wp2_with(first
   |(go_at_call 170;refine(HR.out _).mono ?_;rintro e w1 ⟨rfl,hb⟩;obtain⟨d1,d2,d12,d13,d14,hwl⟩:=HC.out w1 hb;have HB:=Aa ((HA.out _).trans (hb.mono (by simp)));clear hb)
   |(go_at_call 192;refine(HG.out _ HB.out).mono ?_;rintro e w2 ⟨rfl,hb2⟩;have HB2:=Aa (HB.out.trans (hb2.mono HB.out.size));clear hb2))
  go_ret;exact⟨rfl,HB2.out⟩
variable{f:Nat->Bool}{g n:Nat}{w:World}
theorem TJ:(prog.info? 4).map (fun i=>(i.zero,i.size,i.bytes))=some (some (.bool false),1,1):=by kernel_rfl
theorem A2.keep{w':World}(h:A2 w g n f)(hk:w'.heap[g]?=w.heap[g]?):A2 w' g n f:=by
 obtain⟨cur,h1,h2⟩:=h;exact⟨cur,hk.trans h1,h2⟩
theorem A2.congr{f':Nat->Bool}(h:A2 w g n f)(he:∀k,k<n->f k=f' k):A2 w g n f':=by
 obtain⟨cur,h1,h2,h3⟩:=h;exact⟨cur,h1,h2,fun k hk=>by rw[<-he k hk];exact h3 k hk⟩
theorem A2.has(h:A2 w g n f):Ax w g 4 n:=let ⟨cur,h1,h2,_⟩:=h;⟨cur,h1,h2⟩
theorem A2.set(h:A2 w g n f)(k:Nat)(hk:k<n)(b:Bool):A2 (w.setCell (jA g k) (.bool b)) g n (fun j=>if j=k then b else f j):=by
 obtain⟨cur,h1,h2,h3⟩:=h;have b1:Blk w g 4 cur:=h1;refine⟨_,b1.set k (.bool b),by simpa using h2,fun j hj=>?_⟩;rw[bN];by_cases e:j=k
 ·subst e;rw[if_pos rfl,if_pos (by omega)];simp
 ·rw[if_neg (fun h=>e h.symm),h3 j hj];simp[e]
theorem Jt(w:World)(K:Nat):A2 (w.alloc (.cells (madeCells #[.bool false] K) 4)) w.heap.size K (fun _=>false):=by
 refine⟨_,aR w _,by rw[size_madeCells],fun k hk=>?_⟩;unfold madeCells;simp[hk,Nat.mod_one]
theorem NT(a b:Int)(K:Nat)(hK:a*b=(K:Int))(hK2:K<=576)(w:World):
  Calls prog 159 #[vj a,vj b] w fun e w'=>∃g,e=.returned (.agg #[vj a,vj b,sj g K K])/\A2 w' g K (fun _=>false)/\w.heap.size<=g/\uj w w':=by
 obtain⟨j0,hj0,hy0,hy1,hy2⟩:=cW TJ;have hmk2:∀w:World,(Instr.makeSlice 154 (vj (K:Int)) (vj (K:Int))).run prog w=.ok (sj w.heap.size K K) (w.alloc (.cells (madeCells #[.bool false] K) 4)):=fun w=>by
  have h9:=run_make (P:=prog) w 154 4 j0 _ underlying154 hj0 hy0 .i64 .i64 K K (by omega) (Int.le_refl _) (by rw[hy2];omega) (by omega);rw[hy1,Nat.mul_one]at h9;exact h9
 have HM:=Aa (fun(W:World)=>Jt W K);have HA:=Aa (fun o1 o2=>al2 (aO w.heap.size) o1 o2);go_enter func159,ntmps159
 go_wp2_with fail
 refine cU (v:=.agg #[vj a,vj b,sj (w.heap.size+1) K K]) (by simp[results,results159,go_sem]) rfl ⟨w.heap.size+1,rfl,?_,by omega,HA.out _ _⟩;have h:=HM.out (w.alloc (.cells #[vj a,vj b,sj (w.heap.size+1) K K] 156));simpa using h
theorem NU(W H n g x y K:Nat)(hW:W<=24)(hy:y<24)(hK:y*W+x=K)(hKn:K<n)(hn:n<=576)(p:Bool)(f:Nat->Bool)(w:World)(h:A2 w g n f):
  Calls prog 160 #[.agg #[vj W,vj H,sj g n n],vj x,vj y,.bool p] w fun e w'=>e=.returned (.tuple #[])/\A2 w' g n (fun j=>if j=K then p else f j)/\Ac (fun b=>b=g) w w':=by
 have hl:=h.has.lt;obtain⟨u0,c0⟩:=h.has.cell K (by omega);have f0:=h.has.free K;have HE:Hid (∀o1:Obj,A2 ((w.setCell (jA g K) (.bool p)).alloc o1) g n (fun j=>if j=K then p else f j)/\Ac (fun b=>b=g) w ((w.setCell (jA g K) (.bool p)).alloc o1)):=fun o1=>⟨(h.set K hKn p).keep (Ad _ _ _ (by simpa using hl)),((Ac.refl (fun b=>b=g) w).set (.inl rfl) _).alloc _⟩;have e1:(y:Int)*(W:Int)=((y*W:Nat):Int):=by simp
 obtain⟨M,hM⟩:∃M,y*W=M:=⟨_,rfl⟩;have hMb:M<=576:=by rw[<-hM];exact bh (cI (show y<=24 by omega) hW) (by omega)
 rw[hM]at e1 hK;have e2:(M:Int)+(x:Int)=(K:Int):=by omega
 have hKn':(K:Int)<(n:Int):=by omega
 have hK0:(0:Int)<=(K:Int):=by omega
 clear h hM hK;go_enter func160,ntmps160
 go_wp2_with fail
 refine cV (v:=.tuple #[]) (by simp[results,results160]) rfl ⟨rfl,?_⟩;exact HE.out _
theorem TK(p:R4)(w:World):Calls prog 161 #[.agg (Ch p)] w fun e w'=>e=.returned (.bool (decide (p.2.2.2=255)))/\uj w w':=by
 have HA:=Aa (fun o=>al1 (aO w.heap.size) o);unfold Ch;by_cases h:p.2.2.2=255
 ·have hd:(p.2.2.2==255)=true:=by simpa using h
  rw[bQ h];go_enter func161,ntmps161
  go_wp2_with fail
  go_ret;exact⟨rfl,HA.out _⟩
 ·have hd:(p.2.2.2==255)=false:=by simpa using h
  rw[cE h];go_enter func161,ntmps161
  go_wp2_with fail
  go_ret;exact⟨rfl,HA.out _⟩
end Go.Proofs.YtofinpocigbbeaaGreat
