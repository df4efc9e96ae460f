import Derived.Test.YtofinpocigbbeaaGreatKam
import Derived.Laws.Tables
set_option maxHeartbeats 4000000
set_option maxRecDepth 100000
set_option linter.unusedSimpArgs false
namespace Go.Proofs.YtofinpocigbbeaaGreat
open Go.Proofs.Tryz Go.RowKit
attribute [local go_sem ↓] Go.wp_at_zero Go.wp_at_succ
theorem MK(p q:R4)(w:World):Calls prog 173 #[.agg (r4C p),.agg (r4C q)] w fun e w'=>e=.returned (.agg (r4C (BX p q)))/\∃o1 o2 o3,w'=((w.alloc o1).alloc o2).alloc o3:=by
 unfold r4C BX;go_enter func173,ntmps173
 go_wp2;all_goals exact cU (v:=.agg #[vj (max p.1 q.1),vj (max p.2.1 q.2.1),vj (min p.2.2.1 q.2.2.1),vj (min p.2.2.2 q.2.2.2)]) (by simp[results,results173,go_sem];omega) rfl ⟨rfl,_,_,_,rfl⟩
theorem Tw(r:R4)(x y:Int)(w:World)(h0: -100000<=r.1/\r.1<=100000)(h1: -100000<=r.2.1/\r.2.1<=100000)(h2: -100000<=r.2.2.1/\r.2.2.1<=100000)(h3: -100000<=r.2.2.2/\r.2.2.2<=100000)(hx: -100000<=x/\x<=100000)(hy: -100000<=y/\y<=100000):
  Calls prog 190 #[.agg (r4C r),vj x,vj y] w fun e w'=>e=.returned (.agg (r4C (mv r x y)))/\∃o1 o2,w'=(w.alloc o1).alloc o2:=by
 unfold r4C mv;go_enter func190,ntmps190
 go_wp2;all_goals exact cU (v:=.agg #[vj (r.1+x),vj (r.2.1+y),vj (r.2.2.1+x),vj (r.2.2.2+y)]) (by simp[results,results190,go_sem]) rfl ⟨rfl,_,_,rfl⟩
theorem EW(r:R4)(w:World):Calls prog 119 #[.agg (r4C r)] w fun e w'=>e=.returned (.bool (Di r))/\∃o1,w'=w.alloc o1:=by
 unfold r4C Di;go_enter func119,ntmps119
 go_wp2;all_goals
  go_ret;refine⟨Cm ?_,_,rfl⟩
  first
   |(simp_all;done)
   |(simp_all;omega)
theorem Jq(a b:Int)(v:Value)(w:World):Calls prog 157 #[.agg #[vj a,vj b,v]] w fun e w'=>e=.returned (vj a)/\w'=w.alloc (.cells #[vj a,vj b,v] 122):=by
 go_enter func157,ntmps157
 go_wp2;go_ret;exact⟨rfl,rfl⟩
theorem Ib(a b:Int)(v:Value)(w:World):Calls prog 158 #[.agg #[vj a,vj b,v]] w fun e w'=>e=.returned (vj b)/\w'=w.alloc (.cells #[vj a,vj b,v] 122):=by
 go_enter func158,ntmps158
 go_wp2;go_ret;exact⟨rfl,rfl⟩
variable{G:Int->Nat->Value}{S:Nat->Prop}{W w wx:World}{b mp sb sc:Nat}{blk:Int->Nat}{bv:Value}{r:R4}{st:St}{x y:Int}
def J1(st:St)(p:Int):Array Value:=#[vj (st.px p),vj (st.py p),vj (st.openL (st.chain p)).1,vj (st.openL (st.chain p)).2.1,vj (st.openL (st.chain p)).2.2.1,vj (st.openL (st.chain p)).2.2.2]
theorem PA{x:Nat}(h:AR w S x st bv sc mp blk G)(W:World)(hW:uj w W):
  Calls prog 172 #[pj (blk (-1))] W fun e w'=>e=.returned (.agg (J1 st (-1)))/\uj W w':=by
 have hp:=CC st;obtain⟨kc,kf,kl⟩:=h.at hp;have q:=h.cells (-1) hp;have c1:=(hW.cell (p:=(jA (blk (-1)) 1)) kl).trans (kc 1 (by omega));have c8:=(hW.cell (p:=(jA (blk (-1)) 8)) kl).trans (kc 8 (by omega));have c9:=(hW.cell (p:=(jA (blk (-1)) 9)) kl).trans (kc 9 (by omega));have c10:=(hW.cell (p:=(jA (blk (-1)) 10)) kl).trans (kc 10 (by omega));have c11:=(hW.cell (p:=(jA (blk (-1)) 11)) kl).trans (kc 11 (by omega));rw[q.par,if_pos rfl]at c1;rw[show G (-1) 8=_ from q.now.c0]at c8;rw[show G (-1) 9=_ from q.now.c1]at c9;rw[show G (-1) 10=_ from q.now.c2]at c10;rw[show G (-1) 11=_ from q.now.c3]at c11;have hv:J1 st (-1)=#[vj 0,vj 0,vj 0,vj 0,vj st.w,vj st.h]:=by
  unfold J1;rw[KH st (by omega),KI st (by omega),A6 st (by omega)];rfl
 rw[hv];have HA:=Aa (fun o=>al1 (aO W.heap.size) o);have hgl:blk (-1)<W.heap.size:=aQ kl hW.size;obtain⟨gb,hgb⟩:∃gb,blk (-1)=gb:=⟨_,rfl⟩;rw[hgb]at c1 c8 c9 c10 c11 hgl ⊢;have l1:A9 st (-1)=⟨0,0,0,0,true,(0,0,st.w,st.h),fun _=>(0,0,0,0),fun _ _=>false⟩:=rfl;rw[l1]at c8 c9 c10 c11;simp only at c8 c9 c10 c11;clear h kc kf kl q hv hgb l1;have hne:gb≠W.heap.size:=by omega
 go_enter func172,ntmps172
 go_wp2_with fail
 exact cU (v:=.agg #[vj 0,vj 0,vj 0,vj 0,vj st.w,vj st.h]) (by simp[results,results172,go_sem]) rfl ⟨rfl,HA.out _⟩
theorem Ax.six{T:TypeId}(h:Ax w b T 6)(u0 u1 u2 u3 u4 u5:Value):Blk ((((((w.setCell (jA b 0) u0).setCell (jA b 1) u1).setCell (jA b 2) u2).setCell (jA b 3) u3).setCell (jA b 4) u4).setCell (jA b 5) u5) b T #[u0,u1,u2,u3,u4,u5]:=by
 obtain⟨cur,h1,h2⟩:=h;have h3:Blk w b T cur:=h1;have h4:=(((((h3.set 0 u0).set 1 u1).set 2 u2).set 3 u3).set 4 u4).set 5 u5;have e:(((((cur.setIfInBounds 0 u0).setIfInBounds 1 u1).setIfInBounds 2 u2).setIfInBounds 3 u3).setIfInBounds 4 u4).setIfInBounds 5 u5=#[u0,u1,u2,u3,u4,u5]:=by
  apply Array.ext_getElem?;intro j
  match j with
  |0=>simp[h2]
  |1=>simp[h2]
  |2=>simp[h2]
  |3=>simp[h2]
  |4=>simp[h2]
  |5=>simp[h2]
  |j+6=>
   rw[Array.getElem?_eq_none (by simp;omega),Array.getElem?_eq_none (by simp)]
 rw[e]at h4;exact h4
theorem ML{B:Nat}{wr:World}(h:Below B w wr)(hb:B<=b)(u0 u1 u2 u3 u4 u5:Value):Below B w ((((((wr.setCell (jA b 0) u0).setCell (jA b 1) u1).setCell (jA b 2) u2).setCell (jA b 3) u3).setCell (jA b 4) u4).setCell (jA b 5) u5):=(((((h.setCell hb _).setCell hb _).setCell hb _).setCell hb _).setCell hb _).setCell hb _
structure DE(W wx:World)(sb:Nat)(x y:Int)(r:R4):Prop where
 bel:uj W wx
 s:Blk wx sb 241 #[vj x,vj y,vj r.1,vj r.2.1,vj r.2.2.1,vj r.2.2.2]
 res:Ax wx W.heap.size 241 6
 lo:W.heap.size<sb
theorem DE.lt(h:DE W wx sb x y r):sb<wx.heap.size:=(aM.1 h.s).1
theorem DE.cells(h:DE W wx sb x y r):wx.cell? (jA sb 0)=some (vj x)/\wx.cell? (jA sb 1)=some (vj y)/\wx.cell? (jA sb 2)=some (vj r.1)/\wx.cell? (jA sb 3)=some (vj r.2.1)/\wx.cell? (jA sb 4)=some (vj r.2.2.1)/\wx.cell? (jA sb 5)=some (vj r.2.2.2):=
 ⟨by rw[h.s.cell];rfl,by rw[h.s.cell];rfl,by rw[h.s.cell];rfl,by rw[h.s.cell];rfl,by rw[h.s.cell];rfl,by rw[h.s.cell];rfl⟩
theorem DE.drew(h:DE W wx sb x y r):DE W wx.drew sb x y r:=⟨h.bel.drew,h.s,h.res,h.lo⟩
theorem DE.set(h:DE W wx sb x y r)(j:Nat)(u:Value){x' y':Int}{r':R4}(hs:(#[vj x,vj y,vj r.1,vj r.2.1,vj r.2.2.1,vj r.2.2.2]:Array Value).setIfInBounds j u=#[vj x',vj y',vj r'.1,vj r'.2.1,vj r'.2.2.1,vj r'.2.2.2]):DE W (wx.setCell (jA sb j) u) sb x' y' r':=by
 have h1:=h.s.set j u;rw[hs]at h1;exact⟨h.bel.setCell (Nat.le_of_lt h.lo) _,h1,h.res.set sb j u,h.lo⟩
theorem DE.below{wy:World}(h:DE W wx sb x y r)(hb:uj wx wy):DE W wy sb x y r:=
 ⟨h.bel.trans (hb.mono h.bel.size),(hb.block sb h.lt).trans h.s,h.res.keep (hb.block _ (aQ h.lo (Nat.le_of_lt h.lt))),h.lo⟩
theorem Ve{x:Nat}(hw:Wf st)(h:AR w S x st bv sc mp blk G):∀(n:Nat) (p:Int),BN st p->(p+1).toNat<=n->∀W:World,uj w W->
  Calls prog 172 #[pj (blk p)] W fun e w'=>e=.returned (.agg (J1 st p))/\uj W w':=by
 intro n;induction n with
 |zero=>
  intro p hp hn W hW;have hp1:p= -1:=by
   rcases hp with rfl|⟨i,rfl,hi⟩
   ·rfl
   ·omega
  subst hp1;exact PA h W hW
 |succ n ih=>
  intro p hp hn W hW;rcases hp with rfl|⟨i,rfl,hi⟩
  ·exact PA h W hW
  ·have hil:=hw.lt hi;have hpr:=hw.par i;have HP:=Aa (fun(W':World) (hW':uj w W')=>ih (st.sf i).parent (CR hw hi) (by omega) W' hW');obtain⟨kc,kf,kl⟩:=h.at (Af hi);have q:=(h.cells i (Af hi)).nat;have HC:Hid (∀(W':World),uj w W'->W'.cell? (jA (blk i) 6)=some (vj (st.sf i).now.x)/\W'.cell? (jA (blk i) 7)=some (vj (st.sf i).now.y)/\W'.cell? (jA (blk i) 8)=some (vj (st.sf i).now.clip.1)/\W'.cell? (jA (blk i) 9)=some (vj (st.sf i).now.clip.2.1)/\W'.cell? (jA (blk i) 10)=some (vj (st.sf i).now.clip.2.2.1)/\W'.cell? (jA (blk i) 11)=some (vj (st.sf i).now.clip.2.2.2)/\W'.cell? (jA (blk i) 12)=some (.bool (st.sf i).now.cut)):=fun W' hW'=>
    ⟨(hW'.cell (p:=(jA (blk i) 6)) kl).trans ((kc 6 (by omega)).trans (by rw[show G i 6=_ from q.now.x])),(hW'.cell (p:=(jA (blk i) 7)) kl).trans ((kc 7 (by omega)).trans (by rw[show G i 7=_ from q.now.y])),(hW'.cell (p:=(jA (blk i) 8)) kl).trans ((kc 8 (by omega)).trans (by rw[show G i 8=_ from q.now.c0])),(hW'.cell (p:=(jA (blk i) 9)) kl).trans ((kc 9 (by omega)).trans (by rw[show G i 9=_ from q.now.c1])),(hW'.cell (p:=(jA (blk i) 10)) kl).trans ((kc 10 (by omega)).trans (by rw[show G i 10=_ from q.now.c2])),(hW'.cell (p:=(jA (blk i) 11)) kl).trans ((kc 11 (by omega)).trans (by rw[show G i 11=_ from q.now.c3])),(hW'.cell (p:=(jA (blk i) 12)) kl).trans ((kc 12 (by omega)).trans (by rw[show G i 12=_ from q.now.cut]))⟩
   have c1:=(hW.cell (p:=(jA (blk i) 1)) kl).trans (kc 1 (by omega));rw[q.par]at c1;unfold BE at c1;have hgl:blk i<W.heap.size:=aQ kl hW.size;have hne:blk i≠W.heap.size:=by omega
   have ppl:=EU hw (st.sf i).parent (by omega);have lk:=(hw.lk i).1;have HV:Hid (J1 st i=#[vj (st.px (st.sf i).parent+(st.sf i).now.x),vj (st.py (st.sf i).parent+(st.sf i).now.y),vj (st.cutBy (st.openL (st.chain (st.sf i).parent)) i).1,vj (st.cutBy (st.openL (st.chain (st.sf i).parent)) i).2.1,vj (st.cutBy (st.openL (st.chain (st.sf i).parent)) i).2.2.1,vj (st.cutBy (st.openL (st.chain (st.sf i).parent)) i).2.2.2]):=by
    unfold Hid J1;rw[Kr hw.par,Ks hw.par,Av hw.par,Int.add_comm,Int.add_comm (st.sf i).now.y];rfl
   have HCut:Hid (st.cutBy (st.openL (st.chain (st.sf i).parent)) i=if(st.sf i).now.cut=true then BX (st.openL (st.chain (st.sf i).parent)) (mv (st.sf i).now.clip (st.px (st.sf i).parent+(st.sf i).now.x) (st.py (st.sf i).parent+(st.sf i).now.y))else st.openL (st.chain (st.sf i).parent)):=by
    unfold Hid St.cutBy;rw[Kr hw.par,Ks hw.par,Int.add_comm,Int.add_comm (st.sf i).now.y]
   have HA:=Aa (fun o=>hW.trans ((al1 (aO W.heap.size) o).mono hW.size));unfold J1 at HP;obtain⟨X,hX⟩:∃X,st.px (st.sf i).parent=X:=⟨_,rfl⟩;obtain⟨Y,hY⟩:∃Y,st.py (st.sf i).parent=Y:=⟨_,rfl⟩;obtain⟨O,hO⟩:∃O,st.openL (st.chain (st.sf i).parent)=O:=⟨_,rfl⟩;rw[hX,hY,hO]at HP HV;rw[hX,hY,hO]at HCut;rw[hX,hY]at ppl;obtain⟨pb,hpb⟩:∃pb,blk (st.sf i).parent=pb:=⟨_,rfl⟩;rw[hpb]at HP c1;obtain⟨ib,hib⟩:∃ib,blk (i:Int)=ib:=⟨_,rfl⟩;rw[hib]at HC c1 hgl hne ⊢;obtain⟨N,hN⟩:∃N,(st.sf i).now=N:=⟨_,rfl⟩;rw[hN]at HC HV HCut lk;have lx:=lk.x;have ly:=lk.y;have l0:=lk.c0;have l1:=lk.c1;have l2:=lk.c2;have l3:=lk.c3;rw[HV.out];obtain⟨R,hR⟩:∃R,st.cutBy O i=R:=⟨_,rfl⟩;rw[hR]at HCut ⊢;clear ih h kc kf kl q hX hY hO hpb hib hN lk hw HV hR;go_enter func172,ntmps172
   go_upto_region 4 with(go_at_call 172;refine(HP.out _ (HA.out _)).mono ?_;rintro e W1 ⟨rfl,hb1⟩;have HB1:=Aa hb1;clear hb1)
   have hb1:=HB1.out;have hs1:=hb1.size;simp only[World.size_alloc]at hs1;have HCx:Hid (∀wx:World,uj W wx->ib<wx.heap.size/\ib≠W.heap.size/\wx.cell? (jA ib 6)=some (vj N.x)/\wx.cell? (jA ib 7)=some (vj N.y)/\wx.cell? (jA ib 8)=some (vj N.clip.1)/\wx.cell? (jA ib 9)=some (vj N.clip.2.1)/\wx.cell? (jA ib 10)=some (vj N.clip.2.2.1)/\wx.cell? (jA ib 11)=some (vj N.clip.2.2.2)/\wx.cell? (jA ib 12)=some (.bool N.cut)):=fun wx hx=>⟨aQ hgl hx.size,by omega,HC.out wx (hW.trans (hx.mono hW.size))⟩;have HM0:Hid (DE W (W1.alloc (.cells #[vj X,vj Y,vj O.1,vj O.2.1,vj O.2.2.1,vj O.2.2.2] 241)) W1.heap.size X Y O):=by
    have hBW:uj W W1:=(al1 (aO W.heap.size) _).trans (hb1.mono (by simp));refine⟨hBW.alloc (by omega) _,aR W1 _,Ax.alloc (Ax.keep (Ax.new W _ _) (hb1.block _ (by simp))) _,by omega⟩
   clear hb1 c1 hne;generalize W1.alloc (.cells #[vj X,vj Y,vj O.1,vj O.2.1,vj O.2.2.1,vj O.2.2.2] 241)=V0 at*;generalize W1.heap.size=sb at*;obtain⟨m0,m1,m2,m3,m4,m5⟩:=HM0.out.cells;obtain⟨n0,n1,d6,d7,d8,d9,d10,d11,d12⟩:=HCx.out V0 HM0.out.bel;have hf0:=HM0.out.s.has.free;have f0:=hf0 0;have hsi:¬ib=sb:=by have:=HM0.out.lo;omega
   clear hf0 HB1 hs1
   go_cut [] (fun wx=>Hid (DE W wx sb (X+N.x) Y O))
   case first=>
    go_region
    go_wp2_with fail
    go_meet
    exact HM0.out.drew.set 0 _ rfl
   case rest=>
    have HM1:=hcut;clear hcut HM0 m0 m1 m2 m3 m4 m5 d6 d7 d8 d9 d10 d11 d12 f0 n0 n1;obtain⟨m0,m1,m2,m3,m4,m5⟩:=HM1.out.cells;obtain⟨n0,n1,d6,d7,d8,d9,d10,d11,d12⟩:=HCx.out _ HM1.out.bel;have hf0:=HM1.out.s.has.free;have f1:=hf0 1;clear hf0
    go_wp2_with fail
    go_cut [] (fun wx=>Hid (DE W wx sb (X+N.x) (Y+N.y) O))
    case first=>
     go_region
     go_wp2_with fail
     go_meet
     exact HM1.out.drew.set 1 _ rfl
    case rest=>
     have HM2:=hcut;clear hcut HM1 m0 m1 m2 m3 m4 m5 d6 d7 d8 d9 d10 d11 d12 f1 n0 n1;obtain⟨m0,m1,m2,m3,m4,m5⟩:=HM2.out.cells;obtain⟨n0,n1,d6,d7,d8,d9,d10,d11,d12⟩:=HCx.out _ HM2.out.bel;obtain⟨ct,hct⟩:∃ct,N.cut=ct:=⟨_,rfl⟩;rw[hct]at d12 HCut HCx;have HEnd:Hid (∀(wx:World) (r:R4),DE W wx sb (X+N.x) (Y+N.y) r->(∃q0,wx.cell? (jA W.heap.size 0)=some q0)/\(∃q1,wx.cell? (jA W.heap.size 1)=some q1)/\(∃q2,wx.cell? (jA W.heap.size 2)=some q2)/\(∃q3,wx.cell? (jA W.heap.size 3)=some q3)/\(∃q4,wx.cell? (jA W.heap.size 4)=some q4)/\(∃q5,wx.cell? (jA W.heap.size 5)=some q5)/\∀j,wx.frozen? (jA W.heap.size j)=false):=fun wx r hM=>⟨hM.res.cell 0 (by omega),hM.res.cell 1 (by omega),hM.res.cell 2 (by omega),hM.res.cell 3 (by omega),hM.res.cell 4 (by omega),hM.res.cell 5 (by omega),fun j=>hM.res.free j⟩;cases ct with
     |false=>
      rw[if_neg (by simp)]at HCut;have hRO:=HCut.out;subst hRO;obtain⟨⟨q0,p0⟩,⟨q1,p1⟩,⟨q2,p2⟩,⟨q3,p3⟩,⟨q4,p4⟩,⟨q5,p5⟩,zf⟩:=HEnd.out _ _ HM2.out;have z0:=zf 0;have z1:=zf 1;have z2:=zf 2;have z3:=zf 3;have z4:=zf 4;have z5:=zf 5;clear zf HEnd HCut d6 d7 d8 d9 d10 d11
      go_wp2_with fail
      have b4:=HM2.out.res.six (vj (X+N.x)) (vj (Y+N.y)) (vj R.1) (vj R.2.1) (vj R.2.2.1) (vj R.2.2.2);have b5:=ML HM2.out.bel (aO _) (vj (X+N.x)) (vj (Y+N.y)) (vj R.1) (vj R.2.1) (vj R.2.2.1) (vj R.2.2.2);generalize (((((World.setCell _ (jA W.heap.size 0) (vj (X+N.x))).setCell (jA W.heap.size 1) (vj (Y+N.y))).setCell (jA W.heap.size 2) (vj R.1)).setCell (jA W.heap.size 3) (vj R.2.1)).setCell (jA W.heap.size 4) (vj R.2.2.1)).setCell (jA W.heap.size 5) (vj R.2.2.2)=wz at*;have g0:=b4.cell 0;have g1:=b4.cell 1;have g2:=b4.cell 2;have g3:=b4.cell 3;have g4:=b4.cell 4;have g5:=b4.cell 5;simp only[br,bj,bt]at g0 g1 g2 g3 g4 g5;have HB5:=Aa b5;clear b4 b5;exact cU (v:=.agg #[vj (X+N.x),vj (Y+N.y),vj R.1,vj R.2.1,vj R.2.2.1,vj R.2.2.2]) (by simp[results,results172,go_sem,g0,g1,g2,g3,g4,g5]) rfl ⟨rfl,HB5.out⟩
     |true=>
      rw[if_pos rfl]at HCut;have hMv:∃M:R4,mv N.clip (X+N.x) (Y+N.y)=M/\∀W',Calls prog 190 #[.agg #[vj N.clip.1,vj N.clip.2.1,vj N.clip.2.2.1,vj N.clip.2.2.2],vj (X+N.x),vj (Y+N.y)] W' fun e w'=>e=.returned (.agg #[vj M.1,vj M.2.1,vj M.2.2.1,vj M.2.2.2])/\uj W' w':=
       ⟨_,rfl,fun W'=>(Tw N.clip (X+N.x) (Y+N.y) W' (by omega) (by omega) (by omega) (by omega) (by omega) (by omega)).mono fun e w' ⟨h1,o1,o2,h2⟩=>⟨h1,by rw[h2];exact al2 (aO _) o1 o2⟩⟩
      obtain⟨M,hM,hMv⟩:=hMv;rw[hM]at HCut;have hMt:∀W',Calls prog 173 #[.agg #[vj O.1,vj O.2.1,vj O.2.2.1,vj O.2.2.2],.agg #[vj M.1,vj M.2.1,vj M.2.2.1,vj M.2.2.2]] W' fun e w'=>e=.returned (.agg #[vj R.1,vj R.2.1,vj R.2.2.1,vj R.2.2.2])/\uj W' w':=fun W'=>by
       rw[HCut.out];exact(MK O M W').mono fun e w' ⟨h1,o1,o2,o3,h2⟩=>⟨h1,by rw[h2];exact al3 (aO _) o1 o2 o3⟩
      clear HCut hM;have FC:Hid (∀wx:World,uj wc wx->wx.cell? (jA sb 0)=some (vj (X+N.x))/\wx.cell? (jA sb 1)=some (vj (Y+N.y))/\wx.cell? (jA sb 2)=some (vj O.1)/\wx.cell? (jA sb 3)=some (vj O.2.1)/\wx.cell? (jA sb 4)=some (vj O.2.2.1)/\wx.cell? (jA sb 5)=some (vj O.2.2.2)/\wx.cell? (jA ib 8)=some (vj N.clip.1)/\wx.cell? (jA ib 9)=some (vj N.clip.2.1)/\wx.cell? (jA ib 10)=some (vj N.clip.2.2.1)/\wx.cell? (jA ib 11)=some (vj N.clip.2.2.2)/\wx.frozen? (jA sb 2)=false/\wx.frozen? (jA sb 3)=false/\wx.frozen? (jA sb 4)=false/\wx.frozen? (jA sb 5)=false):=fun wx hx=>by
       have hm:=HM2.out.below hx;obtain⟨a0,a1,a2,a3,a4,a5⟩:=hm.cells;obtain⟨_,_,_,_,e8,e9,e10,e11,_⟩:=HCx.out wx hm.bel;exact⟨a0,a1,a2,a3,a4,a5,e8,e9,e10,e11,hm.s.has.free 2,hm.s.has.free 3,hm.s.has.free 4,hm.s.has.free 5⟩
      have hlo:=HM2.out.lo;have hlt:=HM2.out.lt;have y2:=HM2.out.s.has.free 2;have y3:=HM2.out.s.has.free 3;have y4:=HM2.out.s.has.free 4;have y5:=HM2.out.s.has.free 5;have ysb:sb≠wc.heap.size:=by omega
      have ysb1:sb≠wc.heap.size+1:=by omega
      have ysb2:sb≠wc.heap.size+1+1:=by omega
      have ysb3:sb≠wc.heap.size+1+1+1:=by omega
      have ysb4:sb≠wc.heap.size+1+1+1+1:=by omega
      go_wp2_with fail
      go_cut [] (fun wx=>Hid (DE W wx sb (X+N.x) (Y+N.y) R))
      case first=>
       go_region_with (first
        |(go_at_call 190;refine(hMv _).mono ?_;rintro e w1 ⟨rfl,hb1⟩;have B1:=((aN wc.heap.size wc).drew).trans hb1;obtain⟨a0,a1,a2,a3,a4,a5,a8,a9,a10,a11,x2,x3,x4,x5⟩:=FC.out w1 B1;have HB1:=Aa B1;clear B1 hb1)
        |(go_at_call 173;refine(hMt _).mono ?_;rintro e w2 ⟨rfl,hb2⟩;have B2:=HB1.out.trans (hb2.mono HB1.out.size);obtain⟨b0,b1,b2,b3,b4,b5,b8,b9,b10,b11,v2,v3,v4,v5⟩:=FC.out w2 B2;have HB2:=Aa B2;clear B2 hb2))
       all_goals go_wp2_with fail
       all_goals go_meet
       all_goals exact((((HM2.out.below HB2.out).set 2 _ (x':=X+N.x) (y':=Y+N.y) (r':=(R.1,O.2)) rfl).set 3 _ (x':=X+N.x) (y':=Y+N.y) (r':=(R.1,R.2.1,O.2.2)) rfl).set 4 _ (x':=X+N.x) (y':=Y+N.y) (r':=(R.1,R.2.1,R.2.2.1,O.2.2.2)) rfl).set 5 _ (x':=X+N.x) (y':=Y+N.y) (r':=R) rfl
      case rest=>
       have HM3:=hcut;clear hcut HM2 m0 m1 m2 m3 m4 m5 d6 d7 d8 d9 d10 d11 d12 n0 n1 y2 y3 y4 y5 ysb ysb1 ysb2 ysb3 ysb4 hMv hMt FC hlt;obtain⟨m0,m1,m2,m3,m4,m5⟩:=HM3.out.cells;obtain⟨⟨q0,p0⟩,⟨q1,p1⟩,⟨q2,p2⟩,⟨q3,p3⟩,⟨q4,p4⟩,⟨q5,p5⟩,zf⟩:=HEnd.out _ _ HM3.out;have z0:=zf 0;have z1:=zf 1;have z2:=zf 2;have z3:=zf 3;have z4:=zf 4;have z5:=zf 5;clear zf HEnd
       go_wp2_with fail
       have b4:=HM3.out.res.six (vj (X+N.x)) (vj (Y+N.y)) (vj R.1) (vj R.2.1) (vj R.2.2.1) (vj R.2.2.2);have b5:=ML HM3.out.bel (aO _) (vj (X+N.x)) (vj (Y+N.y)) (vj R.1) (vj R.2.1) (vj R.2.2.1) (vj R.2.2.2);generalize (((((World.setCell _ (jA W.heap.size 0) (vj (X+N.x))).setCell (jA W.heap.size 1) (vj (Y+N.y))).setCell (jA W.heap.size 2) (vj R.1)).setCell (jA W.heap.size 3) (vj R.2.1)).setCell (jA W.heap.size 4) (vj R.2.2.1)).setCell (jA W.heap.size 5) (vj R.2.2.2)=wz at*;have g0:=b4.cell 0;have g1:=b4.cell 1;have g2:=b4.cell 2;have g3:=b4.cell 3;have g4:=b4.cell 4;have g5:=b4.cell 5;simp only[br,bj,bt]at g0 g1 g2 g3 g4 g5;have HB5:=Aa b5;clear b4 b5;exact cU (v:=.agg #[vj (X+N.x),vj (Y+N.y),vj R.1,vj R.2.1,vj R.2.2.1,vj R.2.2.2]) (by simp[results,results172,go_sem,g0,g1,g2,g3,g4,g5]) rfl ⟨rfl,HB5.out⟩
section
variable{B b g k n sb:Nat}{T:TypeId}{W u w wx:World}{r:R4}{x y:Int}
def St.seenP(st:St)(p:Int):R4:=BX (st.openL (st.chain p)) (st.px p,st.py p,st.px p+(A9 st p).w,st.py p+(A9 st p).h)
def KX(st:St)(p:Int):Array Value:=#[vj p,vj (st.px p),vj (st.py p),vj (A9 st p).w,vj (A9 st p).h,vj (st.seenP p).1,vj (st.seenP p).2.1,vj (st.seenP p).2.2.1,vj (st.seenP p).2.2.2]
structure C1(W wx:World)(sb:Nat)(x y:Int)(r:R4):Prop where
 bel:uj W wx
 s:Blk wx sb 241 #[vj x,vj y,vj r.1,vj r.2.1,vj r.2.2.1,vj r.2.2.2]
 res:Ax wx W.heap.size 59 9
 lo:W.heap.size<sb
theorem C1.lt(h:C1 W wx sb x y r):sb<wx.heap.size:=(aM.1 h.s).1
theorem C1.cells(h:C1 W wx sb x y r):wx.cell? (jA sb 0)=some (vj x)/\wx.cell? (jA sb 1)=some (vj y)/\wx.cell? (jA sb 2)=some (vj r.1)/\wx.cell? (jA sb 3)=some (vj r.2.1)/\wx.cell? (jA sb 4)=some (vj r.2.2.1)/\wx.cell? (jA sb 5)=some (vj r.2.2.2):=
 ⟨by rw[h.s.cell];rfl,by rw[h.s.cell];rfl,by rw[h.s.cell];rfl,by rw[h.s.cell];rfl,by rw[h.s.cell];rfl,by rw[h.s.cell];rfl⟩
theorem C1.below{wy:World}(h:C1 W wx sb x y r)(hb:uj wx wy):C1 W wy sb x y r:=
 ⟨h.bel.trans (hb.mono h.bel.size),(hb.block sb h.lt).trans h.s,h.res.keep (hb.block _ (aQ h.lo (Nat.le_of_lt h.lt))),h.lo⟩
theorem C1.alloc(h:C1 W wx sb x y r)(o:Obj):C1 W (wx.alloc o) sb x y r:=h.below (al1 (aO _) o)
theorem C1.drew(h:C1 W wx sb x y r):C1 W wx.drew sb x y r:=h.below (aN _ _).drew
theorem C1.store(hb:uj W u)(hz:Ax u W.heap.size 59 9)(hs:Ax u sb 241 6)(hlo:W.heap.size<sb):
  C1 W (u.setRow sb #[vj x,vj y,vj r.1,vj r.2.1,vj r.2.2.1,vj r.2.2.2]) sb x y r:=by
 obtain⟨old,hs,_⟩:=hs;refine⟨⟨hb.os,hb.tape,hb.output,by rw[setRow_size];exact hb.size,fun g hg=>(setRow_other u sb g _ (by omega)).trans (hb.block g hg)⟩,setRow_heap u sb _ _ _ _ hs,hz.keep (setRow_other u sb _ _ (by omega)),hlo⟩
theorem WN(hn:u.heap.size=n):Ax (u.alloc (.cells #[vj 0,vj 0,vj 0,vj 0,vj 0,vj 0] 241)) n 241 6:=by
 subst hn;exact Ax.new u _ _
theorem C1.finish(h:C1 W wx sb x y r)(cs:Array Value):Blk (wx.setRow W.heap.size cs) W.heap.size 59 cs/\uj W (wx.setRow W.heap.size cs):=by
 obtain⟨cur,h1,h2⟩:=h.res;exact⟨setRow_heap wx _ _ _ _ _ h1,⟨h.bel.os,h.bel.tape,h.bel.output,by rw[setRow_size];exact h.bel.size,fun g hg=>(setRow_other wx _ g _ (by omega)).trans (h.bel.block g hg)⟩⟩
theorem Ax.row(h:Ax w g T k)(vs:List Value)(hs:vs.length=k)(h1:∀v∈vs,v.oneCell'=true):
  (storeCells (jA g 0) vs 0).run prog w=.ok () (w.setRow g vs.toArray):=by
 obtain⟨cur,h2,h3⟩:=h;have:=run_storeCells_from (P:=prog) g T vs 0 cur w h2 (by omega) h1;simpa using this
def St9(ad:Addr)(vs:List Value):Sem Unit:=storeCells ad vs 0
theorem WO(ad:Addr)(a0 a1 a2 a3 a4 a5 a6 a7 a8:Int):storeCells ad [vj a0,vj a1,vj a2,vj a3,vj a4,vj a5,vj a6,vj a7,vj a8] 0=St9 ad [vj a0,vj a1,vj a2,vj a3,vj a4,vj a5,vj a6,vj a7,vj a8]:=rfl
theorem Ym(ad:Addr)(a0 a1 a2 a3 a4 a5:Int):storeCells ad [vj a0,vj a1,vj a2,vj a3,vj a4,vj a5] 0=St9 ad [vj a0,vj a1,vj a2,vj a3,vj a4,vj a5]:=rfl
theorem Vf(h:Ax w g 59 9)(a0 a1 a2 a3 a4 a5 a6 a7 a8:Int):
  (St9 (jA g 0) [vj a0,vj a1,vj a2,vj a3,vj a4,vj a5,vj a6,vj a7,vj a8]).run prog w=.ok () (w.setRow g #[vj a0,vj a1,vj a2,vj a3,vj a4,vj a5,vj a6,vj a7,vj a8]):=
 h.row _ rfl (by simp[Value.oneCell'])
theorem WP(h:Ax w g 241 6)(a0 a1 a2 a3 a4 a5:Int):
  (St9 (jA g 0) [vj a0,vj a1,vj a2,vj a3,vj a4,vj a5]).run prog w=.ok () (w.setRow g #[vj a0,vj a1,vj a2,vj a3,vj a4,vj a5]):=
 h.row _ rfl (by simp[Value.oneCell'])
def X3(o:Obj):Prop:=∃cs:Array Value,o=.cells cs 241 (0,0)/\cs.size=6
theorem GX:X3 (.cells #[vj 0,vj 0,vj 0,vj 0,vj 0,vj 0] 241):=⟨_,rfl,rfl⟩
theorem FB{o:Obj}:Ax (u.alloc o) n 241 6↔(n=u.heap.size/\X3 o)\/Ax u n 241 6:=by
 constructor
 ·intro h;by_cases e:n=u.heap.size
  ·subst e;obtain⟨cs,h1,h2⟩:=h;rw[aR]at h1;injection h1 with h1;exact .inl ⟨rfl,cs,h1,h2⟩
  ·have hl:=h.lt;simp at hl;exact .inr (h.keep (Ad u o n (by omega)).symm)
 ·rintro(⟨rfl,cs,rfl,h2⟩|h)
  ·exact⟨cs,aR u _,h2⟩
  ·exact h.alloc o
theorem A3:Ax u.drew n T k↔Ax u n T k:=Iff.rfl
theorem Ax.under{V:World}(hb:uj V u)(h:Ax V n T k):Ax u n T k:=h.keep (hb.block n h.lt)
theorem Below.setRow(h:Below B w u)(hg:B<=g)(cs:Array Value):Below B w (u.setRow g cs):=
 ⟨h.os,h.tape,h.output,by rw[setRow_size];exact h.size,fun b hb=>(setRow_other u g b _ (by omega)).trans (h.block b hb)⟩
attribute [local go_sem high] WO Ym Vf WP
attribute [local go_sem] GX FB A3
set_option linter.unusedSimpArgs false in
theorem PB{S:Nat->Prop}{x:Nat}{st:St}(hw:Wf st){bv:Value}{sc mp:Nat}{blk:Int->Nat}{G:Int->Nat->Value}(h:AR w S x st bv sc mp blk G)(p:Int)(hp:BN st p)(W:World)(hW:uj w W):
  Calls prog 118 #[pj (blk p)] W fun e w'=>e=.returned (.agg (KX st p))/\uj W w':=by
 obtain⟨kc,kf,kl⟩:=h.at hp;have q:=h.cells p hp;have hgl:blk p<W.heap.size:=aQ kl hW.size;obtain⟨pa,pm,pk,hpix⟩:=q.now.pix;have hpix2:G p 5=.slice pa pm pk:=hpix;have HSp:=Aa (fun(W':World) (hW':uj W W')=>Ve hw h (p+1).toNat p hp (aO _) W' (hW.trans (hW'.mono hW.size)));have HC:Hid (∀(W':World),uj W W'->blk p<W'.heap.size/\W'.cell? (jA (blk p) 0)=some (vj p)/\W'.cell? (jA (blk p) 3)=some (vj (A9 st p).w)/\W'.cell? (jA (blk p) 4)=some (vj (A9 st p).h)/\W'.cell? (jA (blk p) 5)=some (.slice pa pm pk)):=fun W' hW'=>by
  have hb:=hW.trans (hW'.mono hW.size);exact⟨aQ hgl hW'.size,(hb.cell (p:=(jA (blk p) 0)) kl).trans ((kc 0 (by omega)).trans (by rw[q.num])),(hb.cell (p:=(jA (blk p) 3)) kl).trans ((kc 3 (by omega)).trans (by rw[show G p 3=_ from q.now.w])),(hb.cell (p:=(jA (blk p) 4)) kl).trans ((kc 4 (by omega)).trans (by rw[show G p 4=_ from q.now.h])),(hb.cell (p:=(jA (blk p) 5)) kl).trans ((kc 5 (by omega)).trans (by rw[hpix2]))⟩
 have hlook:F8 (A9 st p):=by
  unfold A9;split
  ·refine⟨⟨by simp,by simp⟩,⟨by simp,by simp⟩,⟨by simp,by simp⟩,⟨by simp,by simp⟩,⟨by simp,by simp⟩,⟨by simp,by simp⟩,?_,?_,fun k hk=>by simp at hk;omega⟩
   ·have:=hw.ww;exact⟨by simp;omega,by simp;omega⟩
   ·have:=hw.hh;exact⟨by simp;omega,by simp;omega⟩
  ·exact(hw.lk _).1
 have hpl:p<st.sfs.length:=by
  rcases hp with rfl|⟨i,rfl,hi⟩
  ·omega
  ·have:=hw.lt hi;omega
 have ppl:=EU hw p hpl;have lw:=hlook.w;have lh:=hlook.h;have HMt:Hid (∀W',Calls prog 173 #[.agg (r4C (st.openL (st.chain p))),.agg (r4C (st.px p,st.py p,st.px p+(A9 st p).w,st.py p+(A9 st p).h))] W' fun e w'=>e=.returned (.agg (r4C (st.seenP p)))/\uj W' w'):=fun W'=>(MK _ _ W').mono fun e w' ⟨h1,o1,o2,o3,h2⟩=>⟨h1,by rw[h2];exact al3 (aO _) o1 o2 o3⟩;have HWd:Hid (∀W',Calls prog 157 #[.agg #[vj (A9 st p).w,vj (A9 st p).h,.slice pa pm pk]] W' fun e w'=>e=.returned (vj (A9 st p).w)/\w'=W'.alloc (.cells #[vj (A9 st p).w,vj (A9 st p).h,.slice pa pm pk] 122)):=fun W'=>Jq _ _ _ W';have HHt:Hid (∀W',Calls prog 158 #[.agg #[vj (A9 st p).w,vj (A9 st p).h,.slice pa pm pk]] W' fun e w'=>e=.returned (vj (A9 st p).h)/\w'=W'.alloc (.cells #[vj (A9 st p).w,vj (A9 st p).h,.slice pa pm pk] 122)):=fun W'=>Ib _ _ _ W';unfold KX;unfold J1 at HSp;unfold r4C at HMt;obtain⟨X,hX⟩:∃X,st.px p=X:=⟨_,rfl⟩;obtain⟨Y,hY⟩:∃Y,st.py p=Y:=⟨_,rfl⟩;obtain⟨O,hO⟩:∃O,st.openL (st.chain p)=O:=⟨_,rfl⟩;obtain⟨R,hR⟩:∃R,st.seenP p=R:=⟨_,rfl⟩;obtain⟨a,ha⟩:∃a,(A9 st p).w=a:=⟨_,rfl⟩;obtain⟨b,hb⟩:∃b,(A9 st p).h=b:=⟨_,rfl⟩;obtain⟨gb,hgb⟩:∃gb,blk p=gb:=⟨_,rfl⟩;rw[hX,hY,hO,hgb]at HSp;rw[hX,hY]at ppl;rw[hX,hY,hO,hR,ha,hb]at HMt;rw[ha,hb]at HWd HHt;rw[ha,hb,hgb]at HC;rw[ha]at lw;rw[hb]at lh;rw[hgb]at hgl;rw[hX,hY,hR,ha,hb,hgb];simp only at HMt;clear h kc kf kl q hpix hpix2 hlook hpl hX hY hO hR ha hb hgb hw;go_enter func118,ntmps118
 go_upto_region 1 with fail
 have HZ:Hid (uj W (W.alloc (.cells #[vj 0,vj 0,vj 0,vj 0,vj 0,vj 0,vj 0,vj 0,vj 0] 59))/\Ax (W.alloc (.cells #[vj 0,vj 0,vj 0,vj 0,vj 0,vj 0,vj 0,vj 0,vj 0] 59)) W.heap.size 59 9):=⟨al1 (aO _) _,Ax.new W _ _⟩;generalize W.alloc (.cells #[vj 0,vj 0,vj 0,vj 0,vj 0,vj 0,vj 0,vj 0,vj 0] 59)=V0 at*;obtain⟨n0,d0,d3,d4,d5⟩:=HC.out V0 HZ.out.1;have hWV:W.heap.size<V0.heap.size:=HZ.out.2.lt;have HS2:Hid (∀V':World,uj V0 V'->Calls prog 172 #[pj gb] V' fun e w'=>e=.returned (.agg #[vj X,vj Y,vj O.1,vj O.2.1,vj O.2.2.1,vj O.2.2.2])/\uj V' w'/\uj V0 w'):=fun V' hV'=>(HSp.out V' (HZ.out.1.trans (hV'.mono HZ.out.1.size))).mono fun e w' ⟨h1,h2⟩=>⟨h1,h2,hV'.trans (h2.mono hV'.size)⟩;have hgn:gb≠V0.heap.size:=by omega
 have FG:Hid (∀(W':World),uj W W'->W'.cell? (jA gb 3)=some (vj a)/\W'.cell? (jA gb 4)=some (vj b)/\W'.cell? (jA gb 5)=some (.slice pa pm pk)):=fun W' hW'=>(HC.out W' hW').2.2
 go_cut [3,4,5] (fun s3 s4 s5 wx=>∃sb,s3=pj sb/\s4=vj a/\s5=vj b/\Hid (C1 W wx sb X Y O))
 case first=>
  go_region_held3 (fun w'=>w'.cell? (jA gb 3)=some (vj a)/\w'.cell? (jA gb 4)=some (vj b)/\w'.cell? (jA gb 5)=some (.slice pa pm pk))
   (first
    |(refine FG.out _ ?_;(repeat(first|with_reducible exact aN _ _|with_reducible exact HB1.out.2.1|with_reducible exact HZ.out.1|with_reducible refine bD ?_ |with_reducible refine Below.setRow ?_ (by first|omega|(simp<;>omega)) _|with_reducible refine bS ?_ (by first|omega|(simp<;>omega)) _));done)
    |fail)
   (first
    |(go_at_call 172;refine(HS2.out _ ?_).mono ?_;(repeat(first|exact aN _ _|refine bD ?_ |refine bS ?_ (by first|omega|(simp<;>omega)) _));rintro e w1 ⟨rfl,hb1,B⟩;have n1:V0.heap.size<=w1.heap.size:=B.size;have HB1:=Aa (aK hb1 (aK (HZ.out.1.trans (B.mono HZ.out.1.size)) (HZ.out.2.keep (B.block _ hWV))));(try(have q0:=Ax.under (n:=V0.heap.size) (T:=241) (k:=6) hb1;simp[GX,FB,A3]at q0));(try(have q1:=Ax.under (n:=V0.heap.size+1) (T:=241) (k:=6) hb1;simp[GX,FB,A3]at q1));(try(have q2:=Ax.under (n:=V0.heap.size+1+1) (T:=241) (k:=6) hb1;simp[GX,FB,A3]at q2));clear B hb1)
    |(go_at_call 157;refine(HWd.out _).mono ?_;rintro e w2 ⟨rfl,rfl⟩)
    |(go_at_call 158;refine(HHt.out _).mono ?_;rintro e w3 ⟨rfl,rfl⟩)
    |fail)
  all_goals go_wp2_with fail
  all_goals go_meet
  all_goals refine⟨_,rfl,rfl,rfl,?_⟩
  all_goals unfold Hid
  all_goals(repeat(first
   |(with_reducible refine C1.store ?_ ?_ ?_ ?_)
   |(with_reducible refine C1.drew ?_)
   |(with_reducible refine C1.alloc ?_ _)))
  all_goals first
   |omega
   |((repeat(first|with_reducible exact aN _ _|with_reducible exact HB1.out.2.1|with_reducible exact HZ.out.1|with_reducible refine bD ?_ |with_reducible refine Below.setRow ?_ (by first|omega|(simp<;>omega)) _|with_reducible refine bS ?_ (by first|omega|(simp<;>omega)) _));done)
   |((repeat(first|with_reducible exact HB1.out.2.2|with_reducible assumption|with_reducible exact WN (by simp)|with_reducible refine Ax.drew ?_ |with_reducible refine Ax.alloc ?_ _));done)
 case rest=>
  obtain⟨sb,rfl,rfl,rfl,HV1⟩:=hcut;clear d0 d3 d4 d5 n0 hgn HS2 HZ;obtain⟨m0,m1,m2,m3,m4,m5⟩:=HV1.out.cells;have hsl:=HV1.out.lt;have hsn:¬sb=wc.heap.size:=by omega
  go_upto_region 3 with fail
  have HV2:Hid (C1 W (wc.alloc (.cells #[vj X,vj Y,vj (X+a),vj (Y+b)] 53)) sb X Y O/\Blk (wc.alloc (.cells #[vj X,vj Y,vj (X+a),vj (Y+b)] 53)) wc.heap.size 53 #[vj X,vj Y,vj (X+a),vj (Y+b)]):=⟨HV1.out.alloc _,aR wc _⟩;generalize X+a=XA at*;generalize Y+b=YB at*;have HRb:Hid (W.heap.size<wc.heap.size):=Nat.lt_trans HV1.out.lo HV1.out.lt;clear m0 m1 m2 m3 m4 m5 hsl hsn HV1;generalize wc.alloc (.cells #[vj X,vj Y,vj XA,vj YB] 53)=V1 at*;generalize wc.heap.size=rb at*;have FC:Hid (∀wx:World,uj V1 wx->wx.cell? (jA gb 0)=some (vj p)/\wx.cell? (jA sb 0)=some (vj X)/\wx.cell? (jA sb 1)=some (vj Y)/\wx.cell? (jA sb 2)=some (vj O.1)/\wx.cell? (jA sb 3)=some (vj O.2.1)/\wx.cell? (jA sb 4)=some (vj O.2.2.1)/\wx.cell? (jA sb 5)=some (vj O.2.2.2)/\wx.cell? (jA rb 0)=some (vj X)/\wx.cell? (jA rb 1)=some (vj Y)/\wx.cell? (jA rb 2)=some (vj XA)/\wx.cell? (jA rb 3)=some (vj YB)/\(∃q,wx.cell? (jA W.heap.size 0)=some q)/\(∃q,wx.cell? (jA W.heap.size 1)=some q)/\(∃q,wx.cell? (jA W.heap.size 2)=some q)/\(∃q,wx.cell? (jA W.heap.size 3)=some q)/\(∃q,wx.cell? (jA W.heap.size 4)=some q)/\(∃q,wx.cell? (jA W.heap.size 5)=some q)/\(∃q,wx.cell? (jA W.heap.size 6)=some q)/\(∃q,wx.cell? (jA W.heap.size 7)=some q)/\(∃q,wx.cell? (jA W.heap.size 8)=some q)/\∀j,wx.frozen? (jA W.heap.size j)=false):=fun wx hx=>by
   have hm:=HV2.out.1.below hx;obtain⟨a0,a1,a2,a3,a4,a5⟩:=hm.cells;have hr:Blk wx rb 53 #[vj X,vj Y,vj XA,vj YB]:=(hx.block rb (aM.1 HV2.out.2).1).trans HV2.out.2;exact⟨(HC.out wx hm.bel).2.1,a0,a1,a2,a3,a4,a5,by rw[hr.cell];rfl,by rw[hr.cell];rfl,by rw[hr.cell];rfl,by rw[hr.cell];rfl,hm.res.cell 0 (by omega),hm.res.cell 1 (by omega),hm.res.cell 2 (by omega),hm.res.cell 3 (by omega),hm.res.cell 4 (by omega),hm.res.cell 5 (by omega),hm.res.cell 6 (by omega),hm.res.cell 7 (by omega),hm.res.cell 8 (by omega),fun j=>hm.res.free j⟩
  obtain⟨d0,m0,m1,m2,m3,m4,m5,t0,t1,t2,t3,_⟩:=FC.out V1 (aN _ _);have FcS:Hid (∀wx:World,uj V1 wx->wx.cell? (jA gb 0)=some (vj p)/\wx.cell? (jA sb 0)=some (vj X)/\wx.cell? (jA sb 1)=some (vj Y)/\wx.cell? (jA sb 2)=some (vj O.1)/\wx.cell? (jA sb 3)=some (vj O.2.1)/\wx.cell? (jA sb 4)=some (vj O.2.2.1)/\wx.cell? (jA sb 5)=some (vj O.2.2.2)/\wx.cell? (jA rb 0)=some (vj X)/\wx.cell? (jA rb 1)=some (vj Y)/\wx.cell? (jA rb 2)=some (vj XA)/\wx.cell? (jA rb 3)=some (vj YB)):=fun wx hx=>by
   obtain⟨q0,q1,q2,q3,q4,q5,q6,q7,q8,q9,q10,_⟩:=FC.out wx hx;exact⟨q0,q1,q2,q3,q4,q5,q6,q7,q8,q9,q10⟩
  have FS2:Hid (∀wx:World,uj V1 wx->∀cs,(wx.setRow W.heap.size cs).cell? (jA gb 0)=some (vj p)/\(wx.setRow W.heap.size cs).cell? (jA sb 0)=some (vj X)/\(wx.setRow W.heap.size cs).cell? (jA sb 1)=some (vj Y)/\(wx.setRow W.heap.size cs).cell? (jA sb 2)=some (vj O.1)/\(wx.setRow W.heap.size cs).cell? (jA sb 3)=some (vj O.2.1)/\(wx.setRow W.heap.size cs).cell? (jA sb 4)=some (vj O.2.2.1)/\(wx.setRow W.heap.size cs).cell? (jA sb 5)=some (vj O.2.2.2)/\(wx.setRow W.heap.size cs).cell? (jA rb 0)=some (vj X)/\(wx.setRow W.heap.size cs).cell? (jA rb 1)=some (vj Y)/\(wx.setRow W.heap.size cs).cell? (jA rb 2)=some (vj XA)/\(wx.setRow W.heap.size cs).cell? (jA rb 3)=some (vj YB)):=fun wx hx cs=>by
   obtain⟨q0,q1,q2,q3,q4,q5,q6,q7,q8,q9,q10⟩:=FcS.out wx hx;have hs0:=HV2.out.1.lo;have e1:∀j,(wx.setRow W.heap.size cs).cell? (jA sb j)=wx.cell? (jA sb j):=fun j=>cell_setRow_other _ _ _ _ (by show sb≠W.heap.size;omega);have e2:∀j,(wx.setRow W.heap.size cs).cell? (jA rb j)=wx.cell? (jA rb j):=fun j=>cell_setRow_other _ _ _ _ (by show rb≠W.heap.size;have:=HRb.out;omega);have e0:(wx.setRow W.heap.size cs).cell? (jA gb 0)=wx.cell? (jA gb 0):=cell_setRow_other _ _ _ _ (by show gb≠W.heap.size;omega);exact⟨e0.trans q0,(e1 0).trans q1,(e1 1).trans q2,(e1 2).trans q3,(e1 3).trans q4,(e1 4).trans q5,(e1 5).trans q6,(e2 0).trans q7,(e2 1).trans q8,(e2 2).trans q9,(e2 3).trans q10⟩
  go_cut [] (fun wx=>Hid (Blk wx W.heap.size 59 #[vj p,vj X,vj Y,vj a,vj b,vj R.1,vj R.2.1,vj R.2.2.1,vj R.2.2.2]/\uj W wx))
  case first=>
   go_region_held3 (fun w'=>w'.cell? (jA gb 0)=some (vj p)/\w'.cell? (jA sb 0)=some (vj X)/\w'.cell? (jA sb 1)=some (vj Y)/\w'.cell? (jA sb 2)=some (vj O.1)/\w'.cell? (jA sb 3)=some (vj O.2.1)/\w'.cell? (jA sb 4)=some (vj O.2.2.1)/\w'.cell? (jA sb 5)=some (vj O.2.2.2)/\w'.cell? (jA rb 0)=some (vj X)/\w'.cell? (jA rb 1)=some (vj Y)/\w'.cell? (jA rb 2)=some (vj XA)/\w'.cell? (jA rb 3)=some (vj YB))
    (first
     |with_reducible exact FS2.out _ HB2.out _
     |with_reducible exact FcS.out _ HB2.out
     |with_reducible exact FcS.out _ (aN _ _)
     |with_reducible exact FcS.out _ (aN _ _).drew
     |fail)
    (first
     |(go_at_call 173;refine(HMt.out _).mono ?_;rintro e w2 ⟨rfl,hb2⟩;have B2:=((aN V1.heap.size V1).drew).trans hb2;have q9:=(HV2.out.1.below B2).res;have HB2:=Aa B2;clear B2 hb2)
     |fail)
   all_goals go_wp2_with fail
   all_goals go_meet
   all_goals exact(HV2.out.1.below HB2.out).finish _
  case rest=>
   have HF:=hcut;clear hcut d0 m0 m1 m2 m3 m4 m5 t0 t1 t2 t3 FC HV2 FcS FS2 HRb;have g0:=HF.out.1.cell 0;have g1:=HF.out.1.cell 1;have g2:=HF.out.1.cell 2;have g3:=HF.out.1.cell 3;have g4:=HF.out.1.cell 4;have g5:=HF.out.1.cell 5;have g6:=HF.out.1.cell 6;have g7:=HF.out.1.cell 7;have g8:=HF.out.1.cell 8;simp only[br,bj,bt]at g0 g1 g2 g3 g4 g5 g6 g7 g8
   go_wp2_with fail
   exact cU (v:=.agg #[vj p,vj X,vj Y,vj a,vj b,vj R.1,vj R.2.1,vj R.2.2.1,vj R.2.2.2]) (by simp[results,results118,go_sem,g0,g1,g2,g3,g4,g5,g6,g7,g8]) rfl ⟨rfl,HF.out.2⟩
end
end Go.Proofs.YtofinpocigbbeaaGreat
