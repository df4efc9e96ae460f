import Derived.Test.YtofinpocigbbeaaGreatKas
set_option maxHeartbeats 2000000
set_option maxRecDepth 100000
set_option linter.unusedSimpArgs false
namespace Go.Proofs.YtofinpocigbbeaaGreat
open Go.Proofs.Tryz Go.RowKit
attribute [local go_sem ↓] Go.wp_at_zero Go.wp_at_succ
variable{G:Int->Nat->Value}{L:List Nat}{i:Nat}{st:St}{w:World}
def St.ixAt(st:St)(i:Nat)(x y:Int):Nat:=(y-st.py i).toNat*(st.sf i).now.w.toNat+(x-st.px i).toNat
def St.hidesAt(st:St)(x y:Int)(i:Nat):Bool:=inR (st.seen i) x y&&(st.sf i).kept (st.ixAt i x y)
def DF(p:Nat->Bool)(L:List Nat):Nat->Nat
 |0=>0
 |k+1=>if p (L.getD (k+1) 0)=true then k+1 else DF p L k
theorem PN(p:Nat->Bool)(L:List Nat):∀k,DF p L k<=k
 |0=>aO _
 |k+1=>by
  unfold DF;split
  ·exact aO _
  ·exact Nat.le_succ_of_le (PN p L k)
def St.unh(st:St)(L:List Nat)(x y:Int):List Nat:=L.drop (DF (st.hidesAt x y) L (L.length-1))
theorem Ey.drop{b off n c:Nat}(h:Ey w (.slice (some (jA b off)) n c) st G L)(k:Nat)(hk:k<n):Ey w (.slice (some (jA b (off+k*15))) (n-k) (c-k)) st G (L.drop k):=by
 obtain⟨a',c',hv,hc⟩:=h;injection hv with e1 e2 e3;subst e1 e3;obtain⟨h1,b',off',ha,hcs⟩:=hc (by omega);injection ha with ha;injection ha with ha1 ha2;subst ha1 ha2;refine⟨_,_,by rw[cC,e2],fun _=>⟨by rw[cC];omega,b,off+k*15,rfl,fun m hm j u hu=>?_⟩⟩;rw[cC]at hm;rw[List.getElem_drop]at hu;have:=hcs (k+m) (by omega) j u hu;rw[show off+k*15+m*15+j=off+(k+m)*15+j by rw[Nat.add_mul];omega];exact this
structure Vn(w:World)(st:St)(G:Int->Nat->Value)(i:Nat):Prop where
 pix:Jo w (fun _=>True) (G i 5) (st.sf i).now.n (st.sf i).now.pix
 kept:Gc w (fun _=>True) (G i 30) (st.sf i).now.n (st.sf i).kept
theorem Vn.below{w':World}(h:Vn w st G i)(hb:uj w w'):Vn w' st G i:=
 ⟨h.pix.keepS (fun _ h=>h) fun g _ _ e=>hb.block g (Ab e),h.kept.keepS (fun _ h=>h) fun g _ _ e=>hb.block g (Ab e)⟩
theorem G1{x y:Int}(h:inR (st.seen i) x y=true):0<=x-st.px i/\x-st.px i<(st.sf i).now.w/\0<=y-st.py i/\y-st.py i<(st.sf i).now.h:=by
 unfold inR St.seen St.buf mv BX at h;simp only[bT]at h;omega
theorem NS(hw:Wf st){v:Value}(h:Ey w v st G L)(hd:∀i∈L,i<st.sfs.length/\Vn w st G i)(hn:L.length<=1000)(x y:Int)(hx:0<=x/\x<=100)(hy:0<=y/\y<=100):
  Calls prog 169 #[.agg #[v],vj x,vj y] w fun e w'=>∃v',e=.returned v'/\Ey w' v' st G (st.unh L x y)/\uj w w':=by
 have HL:=Aa h;obtain⟨la,lc,rfl,_⟩:=h;obtain⟨n,hln⟩:∃n,L.length=n:=⟨_,rfl⟩;have HN:=Aa hln;have HH:Hid (∀(k:Nat) (hk:k<L.length) (V:World),uj w V->∃(z0 z1 z2 z3 z4:Int) (R:R4) (z5 z6:Int) (pa:Option Addr) (pm pk:Nat) (z7 z8:Int) (ka:Option Addr) (km kk:Nat),(Id st G L[k]).toArray=Js z0 z1 z2 z3 z4 R z5 z6 pa pm pk z7 z8 ka km kk/\Calls prog 188 #[.agg (Js z0 z1 z2 z3 z4 R z5 z6 pa pm pk z7 z8 ka km kk),vj x,vj y] V fun e w'=>e=.returned (.bool (st.hidesAt x y L[k]))/\uj V w'):=fun k hk V hV=>by
  obtain⟨hil,hld⟩:=hd L[k] (aZ hk);obtain⟨i,hi⟩:∃i,L[k]=i:=⟨_,rfl⟩;rw[hi]at hil hld ⊢;replace hld:=hld.below hV;obtain⟨pa,e5,_⟩:=hld.pix;obtain⟨ka,e30,hkb⟩:=hld.kept;have lk:=(hw.lk i).1;obtain⟨W,hW⟩:∃W:Nat,(st.sf i).now.w=(W:Int):=⟨(st.sf i).now.w.toNat,by have:=lk.w;omega⟩;obtain⟨H,hH⟩:∃H:Nat,(st.sf i).now.h=(H:Int):=⟨(st.sf i).now.h.toNat,by have:=lk.h;omega⟩;have hnn:(st.sf i).now.n=W*H:=by unfold Dm.n;rw[hW,hH,<-Int.natCast_mul,aX]
  have pl:=EU hw (i:Int) (by omega);refine⟨i,st.px i,st.py i,W,H,st.seen i,W,H,pa,(st.sf i).now.n,(st.sf i).now.n,W,H,ka,(st.sf i).now.n,(st.sf i).now.n,?_,?_⟩
  ·unfold Id Js;rw[e5,e30,hW,hH]
  ·have:=NR i (st.px i) (st.py i) W H (st.seen i) W H pa (st.sf i).now.n (st.sf i).now.n W H ka (st.sf i).now.n x y (st.sf i).kept V (by have:=lk.w;omega) (by have:=lk.h;omega) hnn.symm (by omega) (by omega) (by omega) (by omega) (fun hin=>by have:=G1 hin;omega) (fun hp=>let ⟨g,g1,_,g3⟩:=hkb hp;⟨g,g1,g3⟩);refine this.mono fun e w' ⟨q1,q2⟩=>⟨?_,q2⟩;rw[q1];unfold St.hidesAt St.ixAt;rw[hW,aX]
 have HA:=Aa (fun o=>al1 (aO w.heap.size) o);rw[hln]at hn ⊢;clear hd hln;go_enter func169,ntmps169
 go_wp2_with fail
 have HB0:Hid (uj w (w.alloc (.cells #[.slice la n lc] 95))/\Blk (w.alloc (.cells #[.slice la n lc] 95)) w.heap.size 95 #[.slice la n lc]):=⟨HA.out _,aR w _⟩
 go_loopg [7] n (fun gg s7 wr=>∃k:Int,s7=vj k/\-1<=k/\k<n/\k<=gg/\DF (st.hidesAt x y) L (n-1)=DF (st.hidesAt x y) L k.toNat/\uj w wr/\Blk wr w.heap.size 95 #[.slice la n lc])
 case atStart=>exact⟨(n:Int)-1,by go_num,by omega,by omega,by omega,by rw[show((n:Int)-1).toNat=n-1 by omega],HB0.out⟩
 case round=>
  rename World=>wr;obtain⟨k,rfl,hk1,hk2,hkg,hcut,hbel,hblk⟩:=hrel;have p0:wr.cell? (jA w.heap.size 0)=some (.slice la n lc):=hblk.cell 0;have hpl:=Ak p0;have HB:=Aa (aK hbel (aK hblk hcut));clear hbel hblk hcut;by_cases hk0:0<k
  ·obtain⟨m,rfl⟩:∃m:Nat,k=((m+1:Nat):Int):=⟨(k-1).toNat,by omega⟩;have hmn:m+1<L.length:=by have:=HN.out;omega
   obtain⟨a',c',hv',hcs⟩:=HL.out.below HB.out.1;injection hv' with e1 e2 e3;subst e1 e3;clear e2;obtain⟨hlc,b,off,ha,hcell⟩:=hcs (by omega);subst ha;have hc:=hcell (m+1) hmn;obtain⟨z0,z1,z2,z3,z4,R,z5,z6,pa,pm,pk,z7,z8,ka,km,kk,hlv,hcall⟩:=HH.out (m+1) hmn wr HB.out.1;have hc2:∀j u,(Js z0 z1 z2 z3 z4 R z5 z6 pa pm pk z7 z8 ka km kk)[j]?=some u->wr.cell? (jA b (off+(m+1)*15+j))=some u:=fun j u hu=>hc j u (by rw[<-hlv]at hu;simpa using hu);unfold Js at hc2 hcall;have c0:=hc2 0 _ rfl;have c1:=hc2 1 _ rfl;have c2:=hc2 2 _ rfl;have c3:=hc2 3 _ rfl;have c4:=hc2 4 _ rfl;have c5:=hc2 5 _ rfl;have c6:=hc2 6 _ rfl;have c7:=hc2 7 _ rfl;have c8:=hc2 8 _ rfl;have c9:=hc2 9 _ rfl;have c10:=hc2 10 _ rfl;have c11:=hc2 11 _ rfl;have c12:=hc2 12 _ rfl;have c13:=hc2 13 _ rfl;have c14:=hc2 14 _ rfl;rw[Nat.add_zero]at c0;have hbl:=Ak c0;have hkc:m+1<lc:=by have:=HN.out;omega
   have hgd:L.getD (m+1) 0=L[m+1]:=by rw[bu,aU hmn];rfl
   have hct:DF (st.hidesAt x y) L (n-1)=if st.hidesAt x y L[m+1]=true then m+1 else DF (st.hidesAt x y) L m:=by
    rw[HB.out.2.2,aX]
    conv=>lhs;unfold DF
    rw[hgd]
   obtain⟨t,ht⟩:∃t,st.hidesAt x y L[m+1]=t:=⟨_,rfl⟩;rw[ht]at hcall hct;have HC:=Aa hcall;have HCt:=Aa hct;obtain⟨M,hM⟩:∃M,m+1=M:=⟨_,rfl⟩;rw[hM]at c0 c1 c2 c3 c4 c5 c6 c7 c8 c9 c10 c11 c12 c13 c14 hkc hk0 hk2 hk1 hkg HCt ⊢;have hMn:M<n:=by omega
   have hM0:0<=(M:Int):=by omega
   clear hcs hcell hc hc2 hlv hcall hct hgd HH ht;cases t with
   |true=>
    rw[if_pos rfl]at HCt
    go_wp2_with(go_at_call 188;refine HC.out.mono ?_;rintro e w2 ⟨rfl,hb2⟩;have p2:w2.cell? (jA w.heap.size 0)=some (.slice (some (jA b off)) n lc):=(hb2.cell (p:=(jA w.heap.size 0)) hpl).trans p0;have hpl2:=Ak p2;have HB2:=Aa hb2;clear hb2)
    go_ret;refine⟨_,rfl,?_,HB.out.1.trans (HB2.out.mono HB.out.1.size)⟩;unfold St.unh;rw[HN.out,HCt.out];have hdr:=(HL.out.below HB.out.1).below HB2.out;rw[HN.out]at hdr;exact hdr.drop M hMn
   |false=>
    rw[if_neg (by simp)]at HCt;cases gk with
    |zero=>omega
    |succ gk=>
     go_wp2_with(go_at_call 188;refine HC.out.mono ?_;rintro e w2 ⟨rfl,hb2⟩;have HB2:=Aa hb2;clear hb2)
     go_roundg gk
     case measure=>omega
     case rel=>
      refine⟨(M:Int)-1,by go_num,by omega,by omega,by omega,?_,HB.out.1.trans (HB2.out.mono HB.out.1.size),HB.out.2.1.keep (HB2.out.block _ (Ab HB.out.2.1))⟩;rw[HCt.out,show((M:Int)-1).toNat=m by omega]
  ·have hk0':¬0<k:=hk0
   go_wp2_with fail
   go_ret;refine⟨_,rfl,?_,HB.out.1⟩;unfold St.unh;rw[HN.out,HB.out.2.2,show k.toNat=0 by omega];show Ey _ _ st G (L.drop 0);rw[List.drop_zero,<-HN.out];exact HL.out.below HB.out.1
theorem G5{st:St}(hw:Wf st){i:Nat}{x y:Int}(h:inR (st.seen i) x y=true):st.ixAt i x y<(st.sf i).now.n:=by
 have h1:=G1 h;have lk:=(hw.lk i).1;obtain⟨W,hW⟩:∃W:Nat,(st.sf i).now.w=(W:Int):=⟨(st.sf i).now.w.toNat,by have:=lk.w;omega⟩;obtain⟨H,hH⟩:∃H:Nat,(st.sf i).now.h=(H:Int):=⟨(st.sf i).now.h.toNat,by have:=lk.h;omega⟩;unfold St.ixAt Dm.n;rw[hW,hH,<-Int.natCast_mul,aX,aX];rw[hW,hH]at h1;obtain⟨X,hX⟩:∃X:Nat,x-st.px i=(X:Int):=⟨(x-st.px i).toNat,by omega⟩;obtain⟨Y,hY⟩:∃Y:Nat,y-st.py i=(Y:Int):=⟨(y-st.py i).toNat,by omega⟩;rw[hX,hY,aX,aX];have e1:(Y+1)*W<=H*W:=bU W (by omega);have e2:(Y+1)*W=Y*W+W:=Nat.succ_mul Y W;have e3:H*W=W*H:=Nat.mul_comm _ _;omega
end Go.Proofs.YtofinpocigbbeaaGreat
