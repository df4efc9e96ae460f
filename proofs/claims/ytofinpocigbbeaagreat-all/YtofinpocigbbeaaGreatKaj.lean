import Derived.Test.YtofinpocigbbeaaGreatKag
import Derived.Test.YtofinpocigbbeaaGreatKai
set_option linter.unusedSimpArgs false
namespace Go.Proofs.YtofinpocigbbeaaGreat
open Go.Proofs.Tryz Go.RowKit
variable{i k:Nat}{p:Int}{st:St}
theorem Ee(hw:Wf st)(hp: -1<=p)(h:i∈st.dfs p):i∈st.order:=by
 rw[CN hw p hp,List.mem_flatMap]at h;obtain⟨k,hk,hi⟩:=h;rcases cw.1 hi with rfl|hi
 ·exact(AN.1 hk).1
 ·exact((CJ hw st.sfs.length k (by omega) i).1 hi).1
theorem LX(hw:Wf st)(hp: -1<=p):(st.dfs p).Nodup:=by
 rw[CN hw p hp];unfold List.Nodup;rw[List.pairwise_flatMap];constructor
 ·intro i _;exact List.nodup_cons.2 ⟨fun h=>((CJ hw st.sfs.length i (by omega) i).1 h).2.1 rfl,Jf hw st.sfs.length i (by omega)⟩
 ·have hk:(st.kids p).Nodup:=hw.nd.filter _;refine(List.Pairwise.and_mem.1 hk).imp ?_;rintro a b ⟨ha,hb,hab⟩ x hx y hy rfl;have ca:a∈st.chain x:=by
   rcases cw.1 hx with rfl|hx
   ·rw[Av hw.par];simp
   ·exact((CJ hw st.sfs.length a (by omega) x).1 hx).2.2
  have cb:b∈st.chain x:=by
   rcases cw.1 hy with rfl|hy
   ·rw[Av hw.par];simp
   ·exact((CJ hw st.sfs.length b (by omega) x).1 hy).2.2
  exact hab (MF hw (AN.1 ha).2 (AN.1 hb).2 (x+1) x (by omega) ca cb)
theorem LY{l m:List Nat}(hl:l.Nodup)(hm:m.Nodup)(h:∀i∈l,i∈m):l.length<=m.length:=by
 have hp:l.Perm (m.filter fun i=>l.contains i):=by
  rw[List.perm_ext_iff_of_nodup hl (hm.filter _)];intro a;rw[bY];simp;exact h a
 rw[hp.length_eq];exact ci _ _
theorem Fz(hw:Wf st)(hp: -1<=p):(st.dfs p).length<=12:=
 bh (LY (LX hw hp) hw.nd fun _ h=>Ee hw hp h) hw.len
def St.upto(st:St)(p:Int)(k:Nat):List Nat:=((st.order.take k).filter fun i=>decide ((st.sf i).parent=p)).flatMap fun i=>i::st.dfs i
theorem Ps(hw:Wf st)(hp: -1<=p)(hk:st.order.length<=k):st.upto p k=st.dfs p:=by
 unfold St.upto;rw[bw hk,CN hw p hp];rfl
theorem MJ(hk:k<st.order.length):st.upto p (k+1)=st.upto p k++if(st.sf st.order[k]).parent=p then st.order[k]::st.dfs st.order[k]else []:=by
 unfold St.upto;rw[bn hk,List.filter_append,cM,ch];congr 1
 by_cases e:(st.sf st.order[k]).parent=p
 ·rw[if_pos (by simpa using e),if_pos e];simp
 ·rw[if_neg (by simpa using e),if_neg e];rfl
theorem Tt(k d:Nat):(st.upto p k).length<=(st.upto p (k+d)).length:=by
 induction d with
 |zero=>exact aO _
 |succ d ih=>
  refine bh ih ?_;by_cases h:k+d<st.order.length
  ·rw[show k+(d+1)=k+d+1 by omega,MJ h,aY];omega
  ·unfold St.upto;rw[bw (by omega),bw (by omega)];exact aO _
theorem U5(hw:Wf st)(hp: -1<=p)(k:Nat):(st.upto p k).length<=12:=by
 have h:=Tt (st:=st) (p:=p) k st.order.length;rw[Ps hw hp (show st.order.length<=k+st.order.length by omega)]at h;exact bh h (Fz hw hp)
theorem KU(hw:Wf st)(_hp: -1<=p)(hi:i∈st.order)(h:(st.sf i).parent=p):st.need i<st.need p:=by
 have h1:=hw.lt hi;have h2:=hw.par i;unfold St.need;omega
def Bo(st:St)(p:Int):Int×Int×St:=
 if p= -1\/st.isB p=true then(if st.order.length<12/\st.sfs.length<60 then(st.sfs.length,0,mk st p)else(0,9,st))else(0,6,st)
def AM(st:St)(id:Int):Int×St:=if st.isB id=true then(0,rm st id.toNat)else(6,st)
def Hi(x y:Int)(s:Sf):Sf:={s with next:={s.next with x:=x,y:=y} }
def Bp(st:St)(id x y:Int):Int×St:=
 if st.isB id=true then(if-1000<=x/\x<=1000/\-1000<=y/\y<=1000 then(0,upd st id.toNat (Hi x y))else(7,st))else(6,st)
def Jm(r:R4)(s:Sf):Sf:={s with next:={s.next with cut:=true,clip:=r} }
def Dj(st:St)(id:Int)(r:R4)(ok:Bool):Int×St:=
 if st.isB id=true then(if ok=true then(0,upd st id.toNat (Jm r))else(3,st))else(6,st)
def Fh(s:Sf):Sf:={s with next:={s.next with cut:=false,clip:=(0,0,0,0) } }
def BU(st:St)(id:Int):Int×St:=if st.isB id=true then(0,upd st id.toNat Fh)else(6,st)
def IF(w h:Int)(f:Nat->R4)(s:Sf):Sf:={s with next:={s.next with w:=w,h:=h,pix:=f} }
def BJ(st:St)(id w h:Int)(n:Nat)(ok:Bool)(f:Nat->R4):Int×St:=
 if st.isB id=true then(if 0<=w/\w<=24/\0<=h/\h<=24 then(if(n:Int)=w*h/\ok=true then(0,upd st id.toNat (IF w h f))else(4,st))else(5,st))else(6,st)
def Jn(f:Int->Int->Bool)(s:Sf):Sf:={s with next:={s.next with hint:=f} }
def BV(st:St)(id:Int)(n:Nat)(ok:Bool)(f:Int->Int->Bool):Int×St:=
 if st.isB id=true then(if 20<n then(2,st)else if ok=true then(0,upd st id.toNat (Jn f))else(3,st))else(6,st)
def GU(s:Int)(b:Bool)(f:Sf):Sf:={f with ask:=true,sib:=s,above:=b}
def Cw(st:St)(id s:Int)(b:Bool):Int×St:=
 if st.isB id=true/\st.isB s=true then(if id≠s/\(st.sf id.toNat).parent=(st.sf s.toNat).parent then(0,upd st id.toNat (GU s b))else(8,st))else(6,st)
def AZ(st:St)(id:Int):Int×St:=if st.isB id=true then(0,cm st id.toNat)else(6,st)
structure AW(st:St):Prop where
 wf:Wf st
 sib:Hg st
theorem AW.upd(h:AW st)(hi:i<st.sfs.length){g:Sf->Sf}(hp:∀s,(g s).parent=s.parent)(ha:∀s,(g s).alive=s.alive)(hl:F8 (g (st.sf i)).now/\F8 (g (st.sf i)).next)(hs:∀s,(g s).ask=s.ask/\(g s).sib=s.sib):AW (upd st i g):=by
 have hA:=B7 (g:=g) hi hp;refine⟨Hz h.wf hi hp ha hl,fun j hj hk=>?_⟩;have hj2:j∈st.order:=hj;have e:((Go.Proofs.YtofinpocigbbeaaGreat.upd st i g).sf j).ask=(st.sf j).ask/\((Go.Proofs.YtofinpocigbbeaaGreat.upd st i g).sf j).sib=(st.sf j).sib:=by
  rw[Bf st i g j hi];split
  ·rename_i e;subst e;exact hs _
  ·exact⟨rfl,rfl⟩
 rw[e.1]at hk;obtain⟨s,h1,h2,h3,h4⟩:=h.sib j hj2 hk;exact⟨s,by rw[e.2];exact h1,h2,by rw[hA.len];exact h3,by rw[hA.par,hA.par];exact h4⟩
theorem AW.make(h:AW st){p:Int}(hp:p= -1\/∃i:Nat,p=i/\i∈st.order)(h1:st.order.length<12)(h2:st.sfs.length<60):AW (Go.Proofs.YtofinpocigbbeaaGreat.mk st p):=by
 refine⟨ZB h.wf hp h1 h2,fun j hj hk=>?_⟩;have hj2:j∈st.order++[st.sfs.length]:=hj;rw[Dt]at hk;rw[bV,List.mem_singleton]at hj2;rcases hj2 with hj2|rfl
 ·have hjl:=h.wf.lt hj2;rw[if_neg (by omega)]at hk;obtain⟨s,a1,a2,a3,a4⟩:=h.sib j hj2 hk;exact⟨s,by rw[Dt,if_neg (by omega)];exact a1,a2,by rw[Ga];omega,by rw[Dt,if_neg (by omega),Dt,if_neg (by omega)];exact a4⟩
 ·rw[if_pos rfl]at hk;cases hk
theorem AW.rm(h:AW st)(id:Nat):AW (Go.Proofs.YtofinpocigbbeaaGreat.rm st id):=by
 refine⟨XY h.wf id,fun j hj hk=>?_⟩;have hj2:j∈st.order.filter fun(o:Nat)=> !(st.chain o).contains id:=hj;rw[bY]at hj2;have e:((Go.Proofs.YtofinpocigbbeaaGreat.rm st id).sf j).ask=(st.sf j).ask/\((Go.Proofs.YtofinpocigbbeaaGreat.rm st id).sf j).sib=(st.sf j).sib:=by
  rw[Hf st h.wf];split<;>exact⟨rfl,rfl⟩
 rw[e.1]at hk;obtain⟨s,h1,h2,h3,h4⟩:=h.sib j hj2.1 hk;exact⟨s,by rw[e.2];exact h1,h2,by rw[H8];exact h3,by rw[Jh st h.wf,Jh st h.wf];exact h4⟩
theorem AW.cm(h:AW st){id:Nat}(hid:id∈st.order):AW (Go.Proofs.YtofinpocigbbeaaGreat.cm st id):=by
 have hi:=h.wf.lt hid;refine⟨MH h.wf h.sib hid,fun j hj hk=>?_⟩;rw[(EK h.wf h.sib hid).mem_iff]at hj;rw[MG st id j hi]at hk;by_cases e:j=id
 ·rw[if_pos e]at hk;cases hk
 ·rw[if_neg e]at hk;obtain⟨s,h1,h2,h3,h4⟩:=h.sib j hj hk;exact⟨s,by rw[MG st id j hi,if_neg e];exact h1,h2,by rw[U2];exact h3,by rw[KM st id s hi,KM st id j hi];exact h4⟩
theorem AW.stack(h:AW st){s:Nat}(hi:i<st.sfs.length)(hs:s∈st.order)(hne:i≠s)(hp:(st.sf i).parent=(st.sf s).parent)(b:Bool):AW (Go.Proofs.YtofinpocigbbeaaGreat.upd st i (GU s b)):=by
 have hA:=B7 (g:=GU s b) hi (fun _=>rfl);refine⟨Hz h.wf hi (fun _=>rfl) (fun _=>rfl) ⟨(h.wf.lk i).1,(h.wf.lk i).2⟩,fun j hj hk=>?_⟩;have hj2:j∈st.order:=hj;by_cases e:j=i
 ·subst e;exact⟨s,by rw[Bf st j _ j hi,if_pos rfl];rfl,fun e=>hne e.symm,by rw[hA.len];exact h.wf.lt hs,by rw[hA.par,hA.par];exact hp.symm⟩
 ·rw[Bf st i _ j hi,if_neg e]at hk;obtain⟨t,h1,h2,h3,h4⟩:=h.sib j hj2 hk;exact⟨t,by rw[Bf st i _ j hi,if_neg e];exact h1,h2,by rw[hA.len];exact h3,by rw[hA.par,hA.par];exact h4⟩
def Ef(r:R4):Bool:=FU r.1 r.2.1 r.2.2.1 r.2.2.2
def C3(st:St)(i:Nat):List Value:=[vj (i:Int),vj (st.px i),vj (st.py i),vj (st.sf i).now.w,vj (st.sf i).now.h,vj (st.seen i).1,vj (st.seen i).2.1,vj (st.seen i).2.2.1,vj (st.seen i).2.2.2]
def DO(w:World)(base:Nat)(v:Value)(st:St)(L:List Nat):Prop:=w.ownsRow base 59 9 v L.length (L.flatMap (C3 st))
def St.vis(st:St)(L:List Nat):List Nat:=L.filter fun i=>Di (st.seen i)
theorem U7{st:St}{L:List Nat}{k:Nat}(hk:k<L.length):st.vis (L.take (k+1))=st.vis (L.take k)++if Di (st.seen L[k])=true then [L[k]]else []:=by
 unfold St.vis;rw[bn hk,List.filter_append,ch];rfl
theorem KV:(prog.info? 59).map (fun i=>(i.zero,i.size,i.bytes))=some (some (.agg #[vj 0,vj 0,vj 0,vj 0,vj 0,vj 0,vj 0,vj 0,vj 0]),9,72):=by kernel_rfl
def CZ(st:St)(w:World)(e:Ending)(w':World):Prop:=∃v,e=.returned v/\DO w' w.heap.size v st (st.vis (st.dfs (-1)))/\uj w w'
end Go.Proofs.YtofinpocigbbeaaGreat
