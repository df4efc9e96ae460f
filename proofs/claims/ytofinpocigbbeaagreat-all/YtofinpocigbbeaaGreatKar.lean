import Derived.Test.YtofinpocigbbeaaGreatKap
import Derived.Test.YtofinpocigbbeaaGreatKaq
set_option maxHeartbeats 2000000
set_option maxRecDepth 100000
set_option linter.unusedSimpArgs false
namespace Go.Proofs.YtofinpocigbbeaaGreat
open Go.Proofs.Tryz Go.RowKit
attribute [local go_sem ↓] Go.wp_at_zero Go.wp_at_succ
variable{p:Int}{st:St}
theorem GZ(st:St)(i:Nat):st.seenP (i:Int)=st.seen i:=by
 unfold St.seenP St.seen St.buf mv;rw[C0];simp only[Int.zero_add];rw[Int.add_comm (st.px i),Int.add_comm (st.py i)]
theorem Tz(st:St)(i:Nat):KX st (i:Int)=(C3 st i).toArray:=by
 unfold KX C3;rw[GZ,C0]
theorem TA(hw:Wf st):Di (st.seenP (-1))=false:=by
 unfold St.seenP;rw[A6 st (by omega),KH st (by omega),KI st (by omega)];have h1:=hw.ww;have h2:=hw.hh;unfold BX Di A9 St.openL;simp;omega
def St.visP(st:St)(p:Int):List Nat:=if p= -1 then []else st.vis [p.toNat]
def St.visAll(st:St)(p:Int):List Nat:=st.visP p++st.vis (st.dfs p)
def St.kidsTo(st:St)(p:Int)(k:Nat):List Nat:=((st.kids p).take k).flatMap fun(j:Nat)=>st.visAll j
theorem Rt(st:St)(a b:List Nat):st.vis (a++b)=st.vis a++st.vis b:=by unfold St.vis;rw[List.filter_append]
theorem Ic(st:St)(i:Nat):st.visAll i=st.vis (i::st.dfs i):=by
 unfold St.visAll St.visP;rw[if_neg (CS i),aX,<-Rt];rfl
theorem K0(hw:Wf st)(hp: -1<=p)(k:Nat)(hk:(st.kids p).length<=k):st.visP p++st.kidsTo p k=st.visAll p:=by
 unfold St.kidsTo St.visAll;rw[bw hk,CN hw p hp];congr 1
 unfold St.vis;rw[List.filter_flatMap];congr 1
 funext j
 exact Ic st j
theorem J3(st:St)(p:Int)(k:Nat)(h:k<(st.kids p).length):st.kidsTo p (k+1)=st.kidsTo p k++st.visAll ((st.kids p)[k]:Nat):=by
 unfold St.kidsTo;rw[bn h,cM];simp
theorem TB(hw:Wf st)(hp: -1<=p)(k:Nat):(st.visP p).length+(st.kidsTo p k).length<=(st.visAll p).length:=by
 rw[<-K0 hw hp _ (aO _),aY];unfold St.kidsTo;have e:(st.kids p).take (st.kids p).length=(st.kids p).take k++(st.kids p).drop k:=by rw[List.take_length,List.take_append_drop]
 rw[e,cM,aY];omega
theorem NQ(h:BN st p): -1<=p:=by
 rcases h with rfl|⟨i,rfl,_⟩<;>omega
theorem PG(st:St)(i:Nat):st.visP (i:Int)=if Di (st.seen i)=true then [i]else []:=by
 unfold St.visP;rw[if_neg (CS i),aX];unfold St.vis;rw[ch];rfl
theorem Ku(L:List Nat):(st.vis L).length<=L.length:=ci _ _
def Id(st:St)(G:Int->Nat->Value)(i:Nat):List Value:=[vj (i:Int),vj (st.px i),vj (st.py i),vj (st.sf i).now.w,vj (st.sf i).now.h,vj (st.seen i).1,vj (st.seen i).2.1,vj (st.seen i).2.2.1,vj (st.seen i).2.2.2,vj (st.sf i).now.w,vj (st.sf i).now.h,G i 5,vj (st.sf i).now.w,vj (st.sf i).now.h,G i 30]
def EH(w:World)(base:Nat)(v:Value)(st:St)(G:Int->Nat->Value)(L:List Nat):Prop:=w.ownsRow base 158 15 v L.length (L.flatMap (Id st G))
theorem TC:(prog.info? 158).map (fun i=>(i.zero,i.size,i.bytes))=some (some (.agg #[vj 0,vj 0,vj 0,vj 0,vj 0,vj 0,vj 0,vj 0,vj 0,vj 0,vj 0,jj,vj 0,vj 0,jj]),15,152):=by kernel_rfl
theorem TD{w:World}{S:Nat->Prop}{x:Nat}(hw:Wf st){bv:Value}{sc mp:Nat}{blk:Int->Nat}{G:Int->Nat->Value}(h:AR w S x st bv sc mp blk G)
  (hview:∀p,BN st p->∀W:World,uj w W->Calls prog 118 #[pj (blk p)] W fun e w'=>e=.returned (.agg (KX st p))/\uj W w'):
  ∀(n:Nat) (p:Int),BN st p->st.need p<=n->∀(E:List Nat) (v:Value) (W:World),E.length+(st.visAll p).length<=1000->uj w W->EH W w.heap.size v st G E->
  Calls prog 80 #[pj (blk p),v] W fun e w'=>∃v',e=.returned v'/\EH w' w.heap.size v' st G (E++st.visAll p)/\uj w w':=by
 intro n;induction n with
 |zero=>intro p _ hn;unfold St.need at hn;omega
 |succ n ih=>
  intro p hp hn E v W hE hW hv;obtain⟨i0,hi0,hz0,hz1,hz2⟩:=cW TC;have hp1:=NQ hp;have HV:=Aa (hview p hp W hW);have HHas:=Aa (EW (st.seenP p));obtain⟨kc,kf,kl⟩:=h.at hp;obtain⟨⟨oa,oc,ho,hocs⟩,_⟩:=h.ptrs hp;have hko:w.cell? (jA (blk p) 2)=some (.slice oa (st.kids p).length oc):=by rw[kc 2 (by omega),ho]
  obtain⟨va,vc,hvf⟩:=Al hv;subst hvf;have hk12:=Ex hw p;have HApp:Hid (∀(w1:World),uj W w1->Di (st.seenP p)=true->∃(i:Nat) (pa:Option Addr) (pm pk:Nat) (ka:Option Addr) (km kk:Nat),st.visP p=[i]/\Id st G i=[vj p,vj (st.px p),vj (st.py p),vj (A9 st p).w,vj (A9 st p).h,vj (st.seenP p).1,vj (st.seenP p).2.1,vj (st.seenP p).2.2.1,vj (st.seenP p).2.2.2,vj (A9 st p).w,vj (A9 st p).h,.slice pa pm pk,vj (A9 st p).w,vj (A9 st p).h,.slice ka km kk]/\
    (w1.cell? (jA (blk p) 3)=some (vj (A9 st p).w)/\w1.cell? (jA (blk p) 4)=some (vj (A9 st p).h)/\w1.cell? (jA (blk p) 5)=some (.slice pa pm pk)/\w1.cell? (jA (blk p) 28)=some (vj (A9 st p).w)/\w1.cell? (jA (blk p) 29)=some (vj (A9 st p).h)/\w1.cell? (jA (blk p) 30)=some (.slice ka km kk)/\blk p<w1.heap.size)/\
    (∀wx:World,uj w1 wx->wx.ownsRow w.heap.size 158 15 (.slice va E.length vc) E.length (E.flatMap (Id st G))/\w.heap.size<=wx.heap.size)):=fun w1 hb1 hseen=>by
   rcases hp with rfl|⟨i,rfl,hi⟩
   ·rw[TA hw]at hseen;cases hseen
   ·have q:=(h.cells i (Af hi)).nat;have d:=h.data i hi;obtain⟨pa,pm,pk,hpix⟩:=q.now.pix;obtain⟨kw,kh,ka,km,kk,_,_,hkep⟩:=q.kep;have hc:∀o,o<31->w1.cell? (jA (blk i) o)=some (G i o):=fun o ho=>(hb1.cell (p:=(jA (blk i) o)) (aQ kl hW.size)).trans ((hW.cell (p:=(jA (blk i) o)) kl).trans (kc o ho));have hpix2:G i 5=.slice pa pm pk:=hpix;refine⟨i,pa,pm,pk,ka,km,kk,?_,?_,⟨?_,?_,?_,?_,?_,?_,aQ kl (bh hW.size hb1.size)⟩,fun wx hx=>⟨Ai hv fun g hg=>(hx.block g (aQ (hv.lt g hg).2 hb1.size)).trans (hb1.block g (hv.lt g hg).2),bh hW.size (bh hb1.size hx.size)⟩⟩
    ·rw[PG,<-GZ,if_pos hseen]
    ·unfold Id;rw[hpix2,hkep,C0,GZ]
    ·rw[hc 3 (by omega),show G i 3=_ from q.now.w,C0]
    ·rw[hc 4 (by omega),show G i 4=_ from q.now.h,C0]
    ·rw[hc 5 (by omega),hpix2]
    ·rw[hc 28 (by omega),d.kw,C0]
    ·rw[hc 29 (by omega),d.kh,C0]
    ·rw[hc 30 (by omega),hkep]
  have HNo:Hid (Di (st.seenP p)=false->st.visP p=[]):=fun hseen=>by
   rcases hp with rfl|⟨i,rfl,hi⟩
   ·rfl
   ·rw[PG,<-GZ,if_neg (by rw[hseen];simp)]
  have HVr:=Aa hv;have HVP:Hid ((st.visP p).length<=1):=by
   unfold Hid St.visP;split
   ·simp
   ·exact Ku _
  have HKid:Hid (∀(k:Nat) (wx:World) (v':Value),k<(st.kids p).length->uj w wx->EH wx w.heap.size v' st G (E++st.visP p++st.kidsTo p k)->∃(g j:Nat),oa=some (jA g 0)/\wx.cell? (jA g k)=some (pj (blk j))/\Calls prog 80 #[pj (blk j),v'] wx fun e w'=>∃v'',e=.returned v''/\EH w' w.heap.size v'' st G (E++st.visP p++st.kidsTo p (k+1))/\uj w w'):=fun k wx v' hk hwx hv'=>by
   obtain⟨g,g1,g2,g3⟩:=hocs k hk;obtain⟨q1,q2⟩:=AN.1 (aZ hk);refine⟨g,(st.kids p)[k],g1,(hwx.cell (p:=(jA g k)) g2).trans g3,?_⟩;have hlen:(E++st.visP p++st.kidsTo p k).length+(st.visAll ((st.kids p)[k]:Nat)).length<=1000:=by
    have h1:=TB hw hp1 (k+1);rw[J3 st p k hk,aY]at h1;rw[aY,aY];omega
   refine(ih ((st.kids p)[k]:Nat) (Gd (aZ hk)) (by have:=KU hw hp1 q1 q2;omega) _ v' wx hlen hwx hv').mono ?_;rintro e w' ⟨v'',rfl,r1,r2⟩;refine⟨v'',rfl,?_,r2⟩;rw[J3 st p k hk,<-List.append_assoc];exact r1
  have HEnd:Hid (∀(wx:World) (v':Value),EH wx w.heap.size v' st G (E++st.visP p++st.kidsTo p (st.kids p).length)->EH wx w.heap.size v' st G (E++st.visAll p)):=fun wx v' hv'=>by
   rw[List.append_assoc,K0 hw hp1 _ (aO _)]at hv';exact hv'
  have HOn:Hid (∀wx:World,uj w wx->wx.cell? (jA (blk p) 2)=some (.slice oa (st.kids p).length oc)):=fun wx hx=>(hx.cell (p:=(jA (blk p) 2)) kl).trans hko;obtain⟨m,hm⟩:∃m,(st.kids p).length=m:=⟨_,rfl⟩;rw[hm]at HKid HEnd HOn hk12;obtain⟨pb,hpb⟩:∃pb,blk p=pb:=⟨_,rfl⟩;rw[hpb]at HV HOn HApp ⊢;have HWw:=Aa hW;unfold KX at HV;unfold r4C at HHas;obtain⟨R,hR⟩:∃R,st.seenP p=R:=⟨_,rfl⟩;obtain⟨a1,ha1⟩:∃a,st.px p=a:=⟨_,rfl⟩;obtain⟨a2,ha2⟩:∃a,st.py p=a:=⟨_,rfl⟩;obtain⟨a3,ha3⟩:∃a,(A9 st p).w=a:=⟨_,rfl⟩;obtain⟨a4,ha4⟩:∃a,(A9 st p).h=a:=⟨_,rfl⟩;rw[hR,ha1,ha2,ha3,ha4]at HV HApp;rw[hR]at HHas HNo;obtain⟨en,hen⟩:∃en,E.length=en:=⟨_,rfl⟩;have hE2:en<=1000:=by omega
  rw[hen]at HApp;have hvl:(Value.slice va E.length vc)=.slice va en vc:=by rw[hen]
  rw[hvl];clear ih h hview kc kf ho hocs hko hv hm hpb hW hR ha1 ha2 ha3 ha4 hw hp hn hp1 hE hvl;go_enter func80,ntmps80
  obtain⟨t,ht⟩:∃t,Di R=t:=⟨_,rfl⟩;rw[ht]at HHas HNo HApp
  go_upto_if 12 with(first
   |(go_at_call 118;refine HV.out.mono ?_;rintro e w1 ⟨rfl,hb1⟩;have HB1:=Aa hb1;clear hb1)
   |(go_at_call 119;refine(HHas.out _).mono ?_;rintro e w2 ⟨rfl,o1,rfl⟩))
  have hbb:uj W ((w1.alloc (.cells #[vj p,vj a1,vj a2,vj a3,vj a4,vj R.1,vj R.2.1,vj R.2.2.1,vj R.2.2.2] 59)).alloc o1):=(HB1.out.alloc HB1.out.size _).alloc (by have:=HB1.out.size;simp;omega) _;have HBB:=Aa hbb;clear hbb
  go_cut [1] (fun s1 wx=>∃v',s1=v'/\Hid (EH wx w.heap.size v' st G (E++st.visP p)/\uj w wx))
  case first=>
   cases t with
   |true=>
    obtain⟨i,pa,pm,pk,ka,km,kk,hvi,hci,⟨e3,e4,e5,e28,e29,e30,hpl⟩,hrow⟩:=HApp.out _ HBB.out rfl;have HA2:=Aa (aK hvi hci);have HRow:=Aa hrow;have hvb:((w1.alloc (.cells #[vj p,vj a1,vj a2,vj a3,vj a4,vj R.1,vj R.2.1,vj R.2.2.1,vj R.2.2.2] 59)).alloc o1).heap[w1.heap.size]?=some (.cells #[vj p,vj a1,vj a2,vj a3,vj a4,vj R.1,vj R.2.1,vj R.2.2.1,vj R.2.2.2] 59 (0,0)):=(Ad _ _ _ (by simp)).trans (aR w1 _);clear hvi hci hrow HApp HNo;generalize hVV:(w1.alloc (.cells #[vj p,vj a1,vj a2,vj a3,vj a4,vj R.1,vj R.2.1,vj R.2.2.1,vj R.2.2.2] 59)).alloc o1=V at*;clear hVV;have v0:=aP _ _ 0 _ _ _ hvb;have v1:=aP _ _ 1 _ _ _ hvb;have v2:=aP _ _ 2 _ _ _ hvb;have v3:=aP _ _ 3 _ _ _ hvb;have v4:=aP _ _ 4 _ _ _ hvb;have v5:=aP _ _ 5 _ _ _ hvb;have v6:=aP _ _ 6 _ _ _ hvb;have v7:=aP _ _ 7 _ _ _ hvb;have v8:=aP _ _ 8 _ _ _ hvb;simp only[br,bj,bt]at v0 v1 v2 v3 v4 v5 v6 v7 v8;have hvl:=Ab hvb;clear hvb;have HFin:Hid (∀(ga cp:Nat) (w6:World),w6.ownsRow w.heap.size 158 15 (sj ga (en+1) cp) (en+1) (E.flatMap (Id st G)++[vj p,vj a1,vj a2,vj a3,vj a4,vj R.1,vj R.2.1,vj R.2.2.1,vj R.2.2.2,vj a3,vj a4,.slice pa pm pk,vj a3,vj a4,.slice ka km kk])->(V.drew.alloc (.cells #[vj p,vj a1,vj a2,vj a3,vj a4,vj R.1,vj R.2.1,vj R.2.2.1,vj R.2.2.2,vj a3,vj a4,.slice pa pm pk,vj a3,vj a4,.slice ka km kk] 158)).grownBy w6 (Value.slice va en vc).ownBlock->EH w6 w.heap.size (sj ga (en+1) cp) st G (E++st.visP p)/\uj w w6):=fun ga cp w6 h1 h2=>by
     refine⟨?_,?_⟩
     ·rw[HA2.out.1];unfold EH;rw[aY,hen,cM,List.flatMap_singleton,HA2.out.2];exact h1
     ·exact(((HWw.out.trans (HBB.out.mono HWw.out.size)).drew.alloc (HRow.out _ (aN _ _)).2 _)).grown h2 (HRow.out _ (((aN V.heap.size V).drew).alloc (aO _) _)).2 fun b hb=>((HRow.out _ (aN _ _)).1.lt b hb).1
    go_wp2_with fail
    go_region_law (refine step_append_lies _ (by rfl) (.tmp 13) (.tmp 25) 93 (by rfl) w.heap.size 158 i0 _ 15 152 underlying93 hi0 hz0 hz1 hz2 rfl (by omega) (.slice va en vc) en (E.flatMap (Id st G)) (by rfl) (HRow.out _ (((aN V.heap.size V).drew).alloc (aO _) _)).1 (jA V.heap.size 0) 1 1 [vj p,vj a1,vj a2,vj a3,vj a4,vj R.1,vj R.2.1,vj R.2.2.1,vj R.2.2.2,vj a3,vj a4,.slice pa pm pk,vj a3,vj a4,.slice ka km kk] (by rfl) (by rfl) (bI (cs:=#[vj p,vj a1,vj a2,vj a3,vj a4,vj R.1,vj R.2.1,vj R.2.2.1,vj R.2.2.2,vj a3,vj a4,.slice pa pm pk,vj a3,vj a4,.slice ka km kk]) (t:=158) (fr:=(0,0)) (aR V.drew _)) (by simp[Value.oneCell']) (by omega) (by unfold maxLen;omega) (by omega) (HRow.out _ (((aN V.heap.size V).drew).alloc (aO _) _)).2 _ rfl ?_;intro ga cp w6 hown6 hgrow _ _;have H6:=Aa (aK hown6 hgrow);clear hown6 hgrow)
    all_goals try go_wp2_with fail
    all_goals go_meet
    all_goals exact⟨_,rfl,HFin.out _ _ _ H6.out.1 H6.out.2⟩
   |false=>
    go_wp2_with fail
    go_meet
    refine⟨_,rfl,?_,HWw.out.trans (HBB.out.mono HWw.out.size)⟩;rw[HNo.out trivial,List.append_nil];subst hen;exact Ai HVr.out fun g hg=>HBB.out.block g (HVr.out.lt g hg).2
  case rest=>
   obtain⟨v',rfl,HO⟩:=hcut;obtain⟨va',vc',hvf'⟩:=Al HO.out.1;subst hvf';have c2:=HOn.out _ HO.out.2;obtain⟨n1,hn1⟩:∃n1,(E++st.visP p).length=n1:=⟨_,rfl⟩;rw[hn1]
   go_wp2_with fail
   go_loopg [1,32] m (fun gg s1 s32 wr=>∃k:Nat,s32=vj k/\gg+k=m/\EH wr w.heap.size s1 st G (E++st.visP p++st.kidsTo p k)/\uj w wr)
   case atStart=>
    refine⟨0,rfl,by omega,?_,HO.out.2⟩;have e0:st.kidsTo p 0=[]:=by unfold St.kidsTo;simp
    rw[e0,List.append_nil,<-hn1];exact HO.out.1
   case round=>
    rename World=>wr;obtain⟨k,rfl,hgk,hown,hbel⟩:=hrel;obtain⟨va2,vc2,hvf2⟩:=Al hown;obtain⟨nL,hnL⟩:∃nL,(E++st.visP p++st.kidsTo p k).length=nL:=⟨_,rfl⟩;rw[hnL]at hvf2;subst hvf2;have HO2:=Aa (aK hown hbel);cases gk with
    |zero=>
     have hlt:¬(k:Int)<(m:Int):=by omega
     have hkm:k=m:=by omega
     clear hown hbel;go_wp2;go_ret;subst hkm;exact⟨_,rfl,HEnd.out _ _ HO2.out.1,HO2.out.2⟩
    |succ gk=>
     have hlt:(k:Int)<(m:Int):=by omega
     have hk0:(0:Int)<=(k:Int):=by omega
     obtain⟨g,j,hoa,hcl,hcall⟩:=HKid.out k wr _ (by omega) hbel hown;subst hoa;have HCa:=Aa hcall;clear hown hbel hcall
     go_wp2_with(go_at_call 80;refine HCa.out.mono ?_;rintro e w5 ⟨v5,rfl,r1,r2⟩;have H5:=Aa (aK r1 r2);clear r1 r2)
     go_roundg gk
     case measure=>omega
     case rel=>exact⟨k+1,by go_num,by omega,H5.out.1,H5.out.2⟩
variable{G:Int->Nat->Value}{L:List Nat}{S:Nat->Prop}{base mp sc x:Nat}{blk:Int->Nat}{bv v:Value}{w:World}
theorem SG{α:Type}(f:α->List Value)(m:Nat)(hf:∀a,(f a).length=m):∀(L:List α) (k j:Nat),j<m->(h:k<L.length)->(L.flatMap f)[k*m+j]?=(f L[k])[j]?
 | [],k,j,_,h=>by simp at h
 |a::L,0,j,hj,_=>by
  rw[ce,Nat.zero_mul,Nat.zero_add,cA (by rw[hf];exact hj)];rfl
 |a::L,k+1,j,hj,h=>by
  rw[ce,bO (by rw[hf,Nat.succ_mul];omega),hf,show(k+1)*m+j-m=k*m+j by rw[Nat.succ_mul];omega,SG f m hf L k j hj (by simpa using h)];rfl
theorem PH(st:St)(G:Int->Nat->Value)(i:Nat):(Id st G i).length=15:=rfl
def Ey(w:World)(v:Value)(st:St)(G:Int->Nat->Value)(L:List Nat):Prop:=
 ∃a c,v=.slice a L.length c/\(0<L.length->L.length<=c/\∃b off,a=some (jA b off)/\∀k (_:k<L.length) j u,(Id st G L[k])[j]?=some u->w.cell? (jA b (off+k*15+j))=some u)
theorem Ey.below{w':World}(h:Ey w v st G L)(hb:uj w w'):Ey w' v st G L:=by
 obtain⟨a,c,hv,hc⟩:=h;refine⟨a,c,hv,fun hl=>?_⟩;obtain⟨h1,b,off,ha,hcs⟩:=hc hl;refine⟨h1,b,off,ha,fun k hk j u hu=>?_⟩;have h2:=hcs k hk j u hu;exact(hb.cell (p:=(jA b (off+k*15+j))) (Ak h2)).trans h2
theorem EH.at(h:EH w base v st G L):Ey w v st G L:=by
 obtain⟨a,c,hv⟩:=Al h;refine⟨a,c,hv,fun hl=>?_⟩;obtain⟨g,cap,e1,e2,e3⟩:=World.ownsRow.form h hl;have hcap:=A7 (by have h9:=h;unfold EH at h9;rw[e1]at h9;exact h9);rw[hv]at e1;injection e1 with e1 _ e4;subst e1 e4;refine⟨hcap,g,0,rfl,fun k hk j u hu=>?_⟩;have hj:j<15:=by
  have:=(bL.1 hu).1
  rwa [PH]at this
 have hc:=cj h (g:=g) (by rw[hv];rfl) (k*15+j) u (by rw[SG _ 15 (PH st G) L k j hj hk];exact hu);rw[Bn]at hc;rw[Nat.zero_add];exact hc
def Gi(w:World)(st:St)(G:Int->Nat->Value)(blk:Int->Nat)(p:Int):Prop:=
 Calls prog 80 #[pj (blk p),jj] w fun e w'=>∃v',e=.returned v'/\EH w' w.heap.size v' st G (st.visAll p)/\uj w w'
theorem Cg(hw:Wf st)(hp:BN st p):(st.visAll p).length<=13:=by
 have h1:=Ku (st:=st) (st.dfs p);have h2:=Fz hw (NQ hp);have h3:(st.visP p).length<=1:=by
  unfold St.visP;split
  ·simp
  ·exact Ku _
 unfold St.visAll;rw[aY];omega
theorem AR.lays(hw:Wf st)(h:AR w S x st bv sc mp blk G)(hp:BN st p):Gi w st G blk p:=by
 have:=TD hw h (fun p hp W hW=>PB hw h p hp W hW) (st.need p) p hp (aO _) [] (jj) w (by have:=Cg hw hp;simp;omega) (aN _ _) (bA _ _ _ _);unfold Gi;simpa using this
theorem K1(hw:Wf st)(hp:BN st p){i:Nat}(h:i∈st.visAll p):i∈st.order:=by
 unfold St.visAll at h;rcases bV.1 h with h|h
 ·unfold St.visP at h;rcases hp with rfl|⟨k,rfl,hk⟩
  ·simp at h
  ·rw[if_neg (CS k),aX]at h;unfold St.vis at h;rw[bY,List.mem_singleton]at h;rw[h.1];exact hk
 ·unfold St.vis at h;rw[bY]at h;exact Ee hw (NQ hp) h.1
theorem AR.sl(hw:Wf st)(h:AR w S x st bv sc mp blk G)(hp:BN st p):∀i:Nat,i∈st.visAll p->(∃a m c,G i 5=.slice a m c)/\∃a m c,G i 30=.slice a m c:=fun i hi=>by
 have q:=(h.cells i (Af (K1 hw hp hi))).nat;obtain⟨_,_,a,m,c,_,_,e⟩:=q.kep;exact⟨q.now.pix,a,m,c,e⟩
theorem EX(hw:Wf st)(hp:BN st p)(h:Gi w st G blk p)(hs:∀i:Nat,i∈st.visAll p->(∃a m c,G i 5=.slice a m c)/\∃a m c,G i 30=.slice a m c):
  Calls prog 106 #[pj (blk p)] w fun e w'=>∃v,e=.returned v/\AF w' w.heap.size v ((st.visAll p).map st.seen)/\uj w w':=by
 have hl:=Cg hw hp;obtain⟨L,hL⟩:∃L,st.visAll p=L:=⟨_,rfl⟩;unfold Gi at h;rw[hL]at h hl hs ⊢;have HLy:=Aa h;obtain⟨i0,hi0,hz0,hz1,hz2⟩:=cW C8;obtain⟨n,hn⟩:∃n,L.length=n:=⟨_,rfl⟩;rw[hn]at hl;have HN:=Aa hn;have HS:=Aa hs;obtain⟨pb,hpb⟩:∃pb,blk p=pb:=⟨_,rfl⟩;rw[hpb]at HLy ⊢;clear h hn hL hpb hs;go_enter func106,ntmps106
 go_wp2_with(go_at_call 80;refine HLy.out.mono ?_;rintro e w1 ⟨v1,rfl,hv1,hb1⟩;have HV1:=Aa hv1.at;obtain⟨la,lc,hvf,_⟩:=hv1.at;rw[HN.out]at hvf;subst hvf;have HB1:=Aa hb1;clear hv1 hb1)
 go_loopg [3,9] n (fun gg s3 s9 wr=>∃k:Nat,s9=vj k/\gg+k=n/\AF wr w1.heap.size s3 ((L.take k).map st.seen)/\uj w1 wr)
 case atStart=>exact⟨0,rfl,by omega,⟨bA _ _ _ _,fun _=>rfl⟩,aN _ _⟩
 case round=>
  rename World=>wr;obtain⟨k,rfl,hgk,hown,hbel⟩:=hrel;obtain⟨ra,rcp,rfl⟩:=hown.form;have hmm:((L.take k).map st.seen).length=k:=by rw[List.length_map,bR];have:=HN.out;omega
  rw[hmm];have HMM:=Aa hmm;have HX:=Aa (aK hown hbel);clear hmm;cases gk with
  |zero=>
   have hlt:¬(k:Int)<(n:Int):=by omega
   clear hown hbel;go_wp2;go_ret;have ho:=HX.out.1;have hfull:L.take k=L:=bw (by have:=HN.out;omega);refine⟨_,rfl,?_,HB1.out.trans (HX.out.2.mono HB1.out.size)⟩;rw[HMM.out,hfull]at ho;exact ho.lower HB1.out.size
  |succ gk=>
   have hlt:(k:Int)<(n:Int):=by omega
   have hkL:k<L.length:=by have:=HN.out;omega
   obtain⟨a',c',hv',hcs⟩:=HV1.out.below hbel;injection hv' with e1 e2 e3;subst e1 e3;clear e2;obtain⟨hlc,b,off,ha,hcell⟩:=hcs (by omega);subst ha;have hc:=hcell k hkL;obtain⟨i,hi⟩:∃i,L[k]=i:=⟨_,rfl⟩;rw[hi]at hc;obtain⟨⟨pa,pm,pk,hp5⟩,⟨ka,km,kk,hk5⟩⟩:=HS.out i (by rw[<-hi];exact aZ hkL);unfold Id at hc;rw[hp5,hk5]at hc;have c0:=hc 0 _ rfl;have c1:=hc 1 _ rfl;have c2:=hc 2 _ rfl;have c3:=hc 3 _ rfl;have c4:=hc 4 _ rfl;have c5:=hc 5 _ rfl;have c6:=hc 6 _ rfl;have c7:=hc 7 _ rfl;have c8:=hc 8 _ rfl;have c9:=hc 9 _ rfl;have c10:=hc 10 _ rfl;have c11:=hc 11 _ rfl;have c12:=hc 12 _ rfl;have c13:=hc 13 _ rfl;have c14:=hc 14 _ rfl;rw[Nat.add_zero]at c0;have hbl:=Ak c0;have hkc:k<lc:=by have:=HN.out;omega
   have HI:=Aa hi;have hsz:=HX.out.2.size;generalize st.px i=z1 at*;generalize st.py i=z2 at*;generalize (st.sf i).now.w=z3 at*;generalize (st.sf i).now.h=z4 at*;obtain⟨R,hR⟩:∃R,st.seen i=R:=⟨_,rfl⟩;rw[hR]at c5 c6 c7 c8;have HR:=Aa hR;clear hown hbel hcs hcell hc hR hi hp5 hk5
   go_wp2_with(at_builtin;refine wpList_append_lies _ rfl _ _ 33 rfl w1.heap.size 53 i0 _ 4 32 underlying33 hi0 hz0 hz1 hz2 rfl (by omega) (.slice ra k rcp) k (Ae ((L.take k).map st.seen)) rfl (by have:=HX.out.1;have h2:=HMM.out;have h3:=this.1;rw[h2]at h3;exact(h3.alloc _).alloc _) (jA (wr.heap.size+1) 0) 1 1 [vj R.1,vj R.2.1,vj R.2.2.1,vj R.2.2.2] rfl rfl (bI (cs:=#[vj R.1,vj R.2.1,vj R.2.2.1,vj R.2.2.2]) (t:=53) (fr:=(0,0)) (Em wr _ _ 0)) (by simp[Value.oneCell']) (by omega) (by unfold maxLen;omega) (by omega) (by simp;omega) _ rfl ?_;intro gg cp w2 hown2 hgrow hat hlt2;have HO2:=Aa (aK hown2 hgrow);clear hown2 hgrow hat)
   go_roundg gk
   case measure=>omega
   case rel=>
    have hl2:(L.take (k+1)).map st.seen=(L.take k).map st.seen++[R]:=by
     rw[bn hkL,cL,HI.out];simp[HR.out]
    have ho:=HX.out.1.1;have h2:=HMM.out;rw[h2]at ho;refine⟨k+1,by go_num,by omega,?_,?_⟩
    ·rw[hl2];refine⟨?_,fun h=>by simp at h⟩;rw[aY,HMM.out,AD];exact HO2.out.1
    ·exact((HX.out.2.alloc hsz _).alloc (by simp;omega) _).grown HO2.out.2 (by simp;omega) fun b hb=>(ho.lt b hb).1
theorem DO.lower{base':Nat}(h:DO w base v st L)(hb:base'<=base):DO w base' v st L:=
 ⟨h.1,h.2.imp (fun h=>h) fun⟨g,c,cur,e1,e2,e3⟩=>⟨g,c,cur,e1,bh hb e2,e3⟩⟩
theorem PI(hw:Wf st)(hsc:w.cell? (jA sc 0)=some (pj (blk (-1))))(h:Gi w st G blk (-1))(hs:∀i:Nat,i∈st.visAll (-1)->(∃a m c,G i 5=.slice a m c)/\∃a m c,G i 30=.slice a m c):
  Calls prog 45 #[pj sc] w (CZ st w):=by
 have hl:=Cg hw (CC st);have hall:st.visAll (-1)=st.vis (st.dfs (-1)):=by
  unfold St.visAll St.visP;simp
 unfold CZ;rw[<-hall];obtain⟨L,hL⟩:∃L,st.visAll (-1)=L:=⟨_,rfl⟩;unfold Gi at h;rw[hL]at h hl hs ⊢;have HLy:=Aa h;obtain⟨i0,hi0,hz0,hz1,hz2⟩:=cW KV;obtain⟨n,hn⟩:∃n,L.length=n:=⟨_,rfl⟩;rw[hn]at hl;have HN:=Aa hn;have HS:=Aa hs;obtain⟨pb,hpb⟩:∃pb,blk (-1)=pb:=⟨_,rfl⟩;rw[hpb]at HLy hsc;clear h hn hL hpb hs hall;go_enter func45,ntmps45
 go_wp2_with(go_at_call 80;refine HLy.out.mono ?_;rintro e w1 ⟨v1,rfl,hv1,hb1⟩;have HV1:=Aa hv1.at;obtain⟨la,lc,hvf,_⟩:=hv1.at;rw[HN.out]at hvf;subst hvf;have HB1:=Aa hb1;clear hv1 hb1)
 go_loopg [3,12] n (fun gg s3 s12 wr=>∃k:Nat,s12=vj k/\gg+k=n/\DO wr w1.heap.size s3 st (L.take k)/\uj w1 wr)
 case atStart=>exact⟨0,rfl,by omega,bA _ _ _ _,aN _ _⟩
 case round=>
  rename World=>wr;obtain⟨k,rfl,hgk,hown,hbel⟩:=hrel;obtain⟨ra,rcp,hrf⟩:=Al hown;have hmm:(L.take k).length=k:=by rw[bR];have:=HN.out;omega
  rw[hmm]at hrf;subst hrf;have HMM:=Aa hmm;have HX:=Aa (aK hown hbel);clear hmm;cases gk with
  |zero=>
   have hlt:¬(k:Int)<(n:Int):=by omega
   clear hown hbel;go_wp2;go_ret;have ho:=HX.out.1;have hfull:L.take k=L:=bw (by have:=HN.out;omega);refine⟨_,rfl,?_,HB1.out.trans (HX.out.2.mono HB1.out.size)⟩;rw[hfull]at ho;exact ho.lower HB1.out.size
  |succ gk=>
   have hlt:(k:Int)<(n:Int):=by omega
   have hkL:k<L.length:=by have:=HN.out;omega
   obtain⟨a',c',hv',hcs⟩:=HV1.out.below hbel;injection hv' with e1 e2 e3;subst e1 e3;clear e2;obtain⟨hlc,b,off,ha,hcell⟩:=hcs (by omega);subst ha;have hc:=hcell k hkL;obtain⟨i,hi⟩:∃i,L[k]=i:=⟨_,rfl⟩;rw[hi]at hc;obtain⟨⟨pa,pm,pk,hp5⟩,⟨ka,km,kk,hk5⟩⟩:=HS.out i (by rw[<-hi];exact aZ hkL);unfold Id at hc;rw[hp5,hk5]at hc;have c0:=hc 0 _ rfl;have c1:=hc 1 _ rfl;have c2:=hc 2 _ rfl;have c3:=hc 3 _ rfl;have c4:=hc 4 _ rfl;have c5:=hc 5 _ rfl;have c6:=hc 6 _ rfl;have c7:=hc 7 _ rfl;have c8:=hc 8 _ rfl;have c9:=hc 9 _ rfl;have c10:=hc 10 _ rfl;have c11:=hc 11 _ rfl;have c12:=hc 12 _ rfl;have c13:=hc 13 _ rfl;have c14:=hc 14 _ rfl;rw[Nat.add_zero]at c0;have hbl:=Ak c0;have hkc:k<lc:=by have:=HN.out;omega
   have HI:=Aa hi;have hsz:=HX.out.2.size;obtain⟨C,hC⟩:∃C,C3 st i=C:=⟨_,rfl⟩;have HC:=Aa hC;unfold C3 at HC;generalize st.px i=z1 at*;generalize st.py i=z2 at*;generalize (st.sf i).now.w=z3 at*;generalize (st.sf i).now.h=z4 at*;obtain⟨R,hR⟩:∃R,st.seen i=R:=⟨_,rfl⟩;rw[hR]at c5 c6 c7 c8 HC;have HR:=Aa (aK hR hC);clear hown hbel hcs hcell hc hR hi hp5 hk5 hC
   go_wp2_with(at_builtin;refine wpList_append_lies _ rfl _ _ 56 rfl w1.heap.size 59 i0 _ 9 72 underlying56 hi0 hz0 hz1 hz2 rfl (by omega) (.slice ra k rcp) k ((L.take k).flatMap (C3 st)) rfl (by have:=HX.out.1;have h2:=HMM.out;unfold DO at this;rw[h2]at this;exact(this.alloc _).alloc _) (jA (wr.heap.size+1) 0) 1 1 [vj (i:Int),vj z1,vj z2,vj z3,vj z4,vj R.1,vj R.2.1,vj R.2.2.1,vj R.2.2.2] rfl rfl (bI (cs:=#[vj (i:Int),vj z1,vj z2,vj z3,vj z4,vj R.1,vj R.2.1,vj R.2.2.1,vj R.2.2.2]) (t:=59) (fr:=(0,0)) (Em wr _ _ 0)) (by simp[Value.oneCell']) (by omega) (by unfold maxLen;omega) (by omega) (by simp;omega) _ rfl ?_;intro gg cp w2 hown2 hgrow hat hlt2;have HO2:=Aa (aK hown2 hgrow);clear hown2 hgrow hat)
   go_roundg gk
   case measure=>omega
   case rel=>
    have ho:=HX.out.1;unfold DO at ho;have h2:=HMM.out;rw[h2]at ho;refine⟨k+1,by go_num,by omega,?_,?_⟩
    ·unfold DO;rw[bn hkL,aY,HMM.out,cM,HI.out,List.flatMap_singleton,HR.out.2,<-HC.out];exact HO2.out.1
    ·exact((HX.out.2.alloc hsz _).alloc (by simp;omega) _).grown HO2.out.2 (by simp;omega) fun b hb=>(ho.lt b hb).1
end Go.Proofs.YtofinpocigbbeaaGreat
