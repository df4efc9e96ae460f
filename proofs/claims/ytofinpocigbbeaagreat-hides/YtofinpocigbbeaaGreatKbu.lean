import Derived.Test.YtofinpocigbbeaaGreatKbt
import Derived.Test.YtofinpocigbbeaaGreatKbq
set_option linter.unusedSimpArgs false
namespace Go.Proofs.YtofinpocigbbeaaGreat
open Go.RowKit Go.Proofs.Tryz
attribute [local go_sem ↓] Go.wp_at_zero Go.wp_at_succ
variable{dcap dg k:Nat}{wr:World}
def fTo(q:Nat->Bool)(pic f0:Nat->R4)(k j:Nat):R4:=if j<k/\q j=true then pic j else f0 j
def dTo(q d0:Nat->Bool)(k j:Nat):Bool:=if j<k then q j else d0 j
theorem VK{q:Nat->Bool}(pic f0:Nat->R4)(h:q k=true->False)(j:Nat):fTo q pic f0 (k+1) j=fTo q pic f0 k j:=by
 unfold fTo;by_cases e:j=k
 ·subst e;rw[if_neg (fun hh=>h hh.2),if_neg (fun hh=>h hh.2)]
 ·by_cases e2:j<k/\q j=true
  ·rw[if_pos e2,if_pos ⟨by omega,e2.2⟩]
  ·rw[if_neg e2,if_neg (fun hh=>e2 ⟨by omega,hh.2⟩)]
theorem Xf{q:Nat->Bool}(pic f0:Nat->R4)(h:q k=true)(j:Nat):fTo q pic f0 (k+1) j=if j=k then pic k else fTo q pic f0 k j:=by
 unfold fTo;by_cases e:j=k
 ·subst e;rw[if_pos ⟨by omega,h⟩,if_pos rfl]
 ·rw[if_neg e];by_cases e2:j<k/\q j=true
  ·rw[if_pos e2,if_pos ⟨by omega,e2.2⟩]
  ·rw[if_neg e2,if_neg (fun hh=>e2 ⟨by omega,hh.2⟩)]
theorem SM(q d0:Nat->Bool)(k j:Nat):dTo q d0 (k+1) j=if j=k then q k else dTo q d0 k j:=by
 unfold dTo;by_cases e:j=k
 ·subst e;rw[if_pos (by omega),if_pos rfl]
 ·rw[if_neg e];by_cases e2:j<k
  ·rw[if_pos e2,if_pos (by omega)]
  ·rw[if_neg e2,if_neg (by omega)]
structure RpM(w wr:World)(A B:Nat->Prop)(c:Nat)(st:St)(bv:Value)(N:Nat)(L:List RB)(P D:Nat->Value)(i:Nat)(b0:RB)(q:Nat->Bool)(pic:Nat->R4)(bl:Nat->Int)(k:Nat):Prop where
 ref:Aw wr A c st bv
 buf:AG wr B bv N (L.set i ⟨fTo q pic b0.f k,b0.age,dTo q b0.dirty k⟩) P D
 only:Ac B w wr
 res:Blk wr w.heap.size 35 #[.slice none 0 0,.int .i64 0]
 pp:Blk wr (w.heap.size+1) 35 #[.slice none 0 0,.int .i64 (Az (fun j=>if q j=true then bl j else 0) k)]
def Lx(A B:Nat->Prop)(c:Nat)(st:St)(bv:Value)(W H:Nat)(L:List RB)(i:Nat)(q:Nat->Bool)(f:Nat->R4)(z:Int)(w:World)(e:Ending)(w':World):Prop:=
 ∃(rv:Value) (O:Rgn) (P D:Nat->Value),e=.returned (.tuple #[.agg #[rv,.int .i64 z],.int .i64 0])/\AF w' w.heap.size rv (rc O)/\EE (AP W) (AP H) (CG q (W*H)) ((AP H).length-1) O/\Aw w' A c st bv/\AG w' (AA B w w') bv (W*H) (Cy L i f) P D/\Ac B w w'
theorem Blk.below{w w':World}{b:Nat}{T:TypeId}{cs:Array Value}(h:Blk w b T cs)(hb:Below w.heap.size w w'):Blk w' b T cs:=h.keep (hb.block b (Ab h))
section
variable{w:World}{A B:Nat->Prop}{c:Nat}{st:St}{bv:Value}{N:Nat}{L:List RB}{P D:Nat->Value}{i:Nat}{b0:RB}{q:Nat->Bool}{pic:Nat->R4}{bl:Nat->Int}
theorem RpM.below{wr':World}(h:RpM w wr A B c st bv N L P D i b0 q pic bl k)(hb:Below wr.heap.size wr wr'):RpM w wr' A B c st bv N L P D i b0 q pic bl k:=
 ⟨h.ref.keep fun g _ hg=>hb.block g hg,h.buf.keep fun g _ hg=>hb.block g hg,h.only.trans (Ac.below hb),h.res.below hb,h.pp.below hb⟩
theorem Eg(b:RB)(h:i<(L.set i b).length):(L.set i b)[i]=b:=by rw[List.getElem_set];exact if_pos rfl
theorem RpM.marked(h:RpM w wr A B c st bv N L P D i b0 q pic bl k)(hk:k<N)(hi:i<L.length)(hD:D i=.slice (some ⟨dg,0,none⟩) N dcap):wr.cell? ⟨dg,k,none⟩=some (.bool (b0.dirty k))/\(wr.setCell ⟨dg,k,none⟩ (.bool (q k))).cell? ⟨dg,k,none⟩=some (.bool (q k))/\B dg:=by
 have hi':i<(L.set i (⟨fTo q pic b0.f k,b0.age,dTo q b0.dirty k⟩:RB)).length:=by simpa using hi
 have hd:=h.buf.dir i hi';rw[Eg,hD]at hd;obtain⟨g9,c9,m9,e9,_,_,hB,_,hu,_⟩:=hd.at (q:=k) (by omega);injection e9 with e1 _ e3;injection e1 with e1;injection e1 with e1;subst e1;obtain⟨g8,c8,m8,e8,_,_,_,_,hv,_⟩:=(hd.put k (q k)).at (q:=k) (by omega);injection e8 with e1 _ e3;injection e1 with e1;injection e1 with e1;subst e1;rw[if_pos rfl]at hv;refine⟨?_,hv,hB⟩;rw[hu];show some (Value.bool (dTo q b0.dirty k k))=_;unfold dTo;rw[if_neg (by omega)]
theorem RpM.mark(h:RpM w wr A B c st bv N L P D i b0 q pic bl k)(hap:∀g,A g->¬B g)(hlt:∀g,B g->g<w.heap.size)(hN:0<N)(hi:i<L.length)(hD:D i=.slice (some ⟨dg,0,none⟩) N dcap)(hq:q k=true->False):RpM w (wr.setCell ⟨dg,k,none⟩ (.bool (q k))) A B c st bv N L P D i b0 q pic bl (k+1):=by
 have hi':i<(L.set i (⟨fTo q pic b0.f k,b0.age,dTo q b0.dirty k⟩:RB)).length:=by simpa using hi
 obtain⟨pg,pcap,hP,_,hBp,_⟩:=h.buf.pixForm hN hi';obtain⟨dg',dcap',hD',_,hBd,hdl,⟨dcur,hdt⟩,_⟩:=h.buf.dirForm hN hi';rw[hD]at hD';injection hD' with e1 _ e3;injection e1 with e1;injection e1 with e1;subst e1 e3;have hoth:∀b,b≠dg->(wr.setCell ⟨dg,k,none⟩ (.bool (q k))).heap[b]?=wr.heap[b]? :=fun b hb=>aL wr ⟨dg,k,none⟩ b _ hb;have hdw:=hlt dg hBd;have hp:=h.buf.pix i hi';have hd:=h.buf.dir i hi';rw[Eg]at hp hd;rw[hD]at hd;have hp2:AC (wr.setCell ⟨dg,k,none⟩ (.bool (q k))) B (P i) N (fTo q pic b0.f (k+1)):=(hp.other fun b cur hb=>hoth b (Aj hb hdt (by decide))).congr fun j _=>VK pic b0.f hq j;have hd2:AH (wr.setCell ⟨dg,k,none⟩ (.bool (q k))) B (.slice (some ⟨dg,0,none⟩) N dcap) N (dTo q b0.dirty (k+1)):=(hd.put k (q k)).congr fun j _=>SM q b0.dirty k j;have hb:=h.buf.put (w':=wr.setCell ⟨dg,k,none⟩ (.bool (q k))) hi' (gp:=pg) (gd:=dg) (by rw[hP];rfl) (by rw[hD];rfl) (fun g _ _ hg _=>hoth g hg) hp2 (by rw[hD];exact hd2);rw[Eg,List.set_set]at hb;refine⟨h.ref.keep fun g hg _=>hoth g fun e=>hap g hg (e▸hBd),hb,h.only.set (.inl hBd) _,h.res.keep (hoth _ (by omega)),?_⟩;have e:Az (fun j=>if q j=true then bl j else 0) (k+1)=Az (fun j=>if q j=true then bl j else 0) k:=by
  show _+(if q k=true then bl k else 0)=_;rw[if_neg (fun hh=>hq hh)];omega
 rw[e];exact h.pp.keep (hoth _ (by omega))
theorem RpM.paint{w5 w6:World}(h:RpM w wr A B c st bv N L P D i b0 q pic bl k)(hap:∀g,A g->¬B g)(hlt:∀g,B g->g<w.heap.size)(hA:∀g,A g->g<w.heap.size)(hN:0<N)(hi:i<L.length){pg pcap:Nat}(hD:D i=.slice (some ⟨dg,0,none⟩) N dcap)(hP:P i=.slice (some ⟨pg,0,none⟩) N pcap)(hq:q k=true)
  (h5:Below (wr.setCell ⟨dg,k,none⟩ (.bool (q k))).heap.size (wr.setCell ⟨dg,k,none⟩ (.bool (q k))) w5)
  (h6:Below w5.heap.size ((((w5.setCell ⟨pg,k*4,none⟩ (.int .u8 (pic k).1)).setCell ⟨pg,k*4+1,none⟩ (.int .u8 (pic k).2.1)).setCell ⟨pg,k*4+2,none⟩ (.int .u8 (pic k).2.2.1)).setCell ⟨pg,k*4+3,none⟩ (.int .u8 (pic k).2.2.2)) w6) (z:Int) (hz:z=Az (fun j=>if q j=true then bl j else 0) k+bl k):RpM w (w6.setCell ⟨w.heap.size+1,1,none⟩ (.int .i64 z)) A B c st bv N L P D i b0 q pic bl (k+1):=by
 have hi':i<(L.set i (⟨fTo q pic b0.f k,b0.age,dTo q b0.dirty k⟩:RB)).length:=by simpa using hi
 obtain⟨pg',pcap',hP',_,hBp,hpl,⟨pcur,hpt⟩,_⟩:=h.buf.pixForm hN hi';obtain⟨dg',dcap',hD',_,hBd,hdl,⟨dcur,hdt⟩,_⟩:=h.buf.dirForm hN hi';rw[hD]at hD';injection hD' with e1 _ e3;injection e1 with e1;injection e1 with e1;subst e1 e3;rw[hP]at hP';injection hP' with e1 _ e3;injection e1 with e1;injection e1 with e1;subst e1 e3;have hne:pg≠dg:=Aj hpt hdt (by decide);have hdw:=hlt dg hBd;have hpw:=hlt pg hBp;have hppl:=Ab h.pp;have oth1:∀b,b≠dg->(wr.setCell ⟨dg,k,none⟩ (.bool (q k))).heap[b]?=wr.heap[b]? :=fun b hb=>aL wr ⟨dg,k,none⟩ b _ hb;have k5:∀b,b<wr.heap.size->w5.heap[b]?=(wr.setCell ⟨dg,k,none⟩ (.bool (q k))).heap[b]? :=fun b hb=>h5.block b (by simpa using hb);have oth2:∀b,b≠pg->((((w5.setCell ⟨pg,k*4,none⟩ (.int .u8 (pic k).1)).setCell ⟨pg,k*4+1,none⟩ (.int .u8 (pic k).2.1)).setCell ⟨pg,k*4+2,none⟩ (.int .u8 (pic k).2.2.1)).setCell ⟨pg,k*4+3,none⟩ (.int .u8 (pic k).2.2.2)).heap[b]?=w5.heap[b]? :=fun b hb=>by
  rw[aL _ ⟨pg,k*4+3,none⟩ b _ hb,aL _ ⟨pg,k*4+2,none⟩ b _ hb,aL _ ⟨pg,k*4+1,none⟩ b _ hb,aL _ ⟨pg,k*4,none⟩ b _ hb]
 have oth3:∀b,b≠w.heap.size+1->(w6.setCell ⟨w.heap.size+1,1,none⟩ (.int .i64 z)).heap[b]?=w6.heap[b]? :=fun b hb=>aL w6 ⟨w.heap.size+1,1,none⟩ b _ hb;have hs5:wr.heap.size<=w5.heap.size:=by
  have:=h5.size;simpa using this
 have all:∀b,b<wr.heap.size->b≠dg->b≠pg->b≠w.heap.size+1->(w6.setCell ⟨w.heap.size+1,1,none⟩ (.int .i64 z)).heap[b]?=wr.heap[b]? :=fun b h1 h2 h3 h4=>by rw[oth3 b h4,h6.block b (by omega),oth2 b h3,k5 b h1,oth1 b h2]
 have hp:=h.buf.pix i hi';have hd:=h.buf.dir i hi';rw[Eg]at hp hd;rw[hD]at hd;rw[hP]at hp;have hp5:AC w5 B (.slice (some ⟨pg,0,none⟩) N pcap) N (fTo q pic b0.f k):=hp.keepB fun g hg=>by
  have:g=pg:=by simp[Value.ownBlock]at hg;exact hg.symm
  subst this;rw[k5 g hpl,oth1 g hne]
 have hp7:AC (w6.setCell ⟨w.heap.size+1,1,none⟩ (.int .i64 z)) B (.slice (some ⟨pg,0,none⟩) N pcap) N (fTo q pic b0.f (k+1)):=by
  refine((hp5.put k (pic k)).keepB fun g hg=>?_).congr fun j hj=>?_
  ·have:g=pg:=by simp[Value.ownBlock]at hg;exact hg.symm
   subst this;rw[oth3 g (by omega),h6.block g (by omega)]
  ·exact Xf pic b0.f hq j
 have hd7:AH (w6.setCell ⟨w.heap.size+1,1,none⟩ (.int .i64 z)) B (.slice (some ⟨dg,0,none⟩) N dcap) N (dTo q b0.dirty (k+1)):=by
  refine((hd.put k (q k)).keepB fun g hg=>?_).congr fun j hj=>?_
  ·have:g=dg:=by simp[Value.ownBlock]at hg;exact hg.symm
   subst this;rw[oth3 g (by omega),h6.block g (by omega),oth2 g (fun e=>hne e.symm),k5 g hdl]
  ·exact SM q b0.dirty k j
 have hb:=h.buf.put hi' (gp:=pg) (gd:=dg) (by rw[hP];rfl) (by rw[hD];rfl) (fun g hBg h1 h2 h3=>all g h3 h2 h1 (by have:=hlt g hBg;omega)) (by rw[hP];exact hp7) (by rw[hD];exact hd7);rw[Eg,List.set_set]at hb;have hoA:∀g,A g->g<wr.heap.size->(w6.setCell ⟨w.heap.size+1,1,none⟩ (.int .i64 z)).heap[g]?=wr.heap[g]?\/g=w.heap.size+1:=fun g hg hl=>by
  by_cases e:g=w.heap.size+1
  ·exact .inr e
  ·exact .inl (all g hl (fun e2=>hap g hg (e2▸hBd)) (fun e2=>hap g hg (e2▸hBp)) e)
 have hpp6:Blk w6 (w.heap.size+1) 35 #[.slice none 0 0,.int .i64 (Az (fun j=>if q j=true then bl j else 0) k)]:=h.pp.keep (by rw[h6.block _ (by omega),oth2 _ (by omega),k5 _ hppl,oth1 _ (by omega)]);refine⟨h.ref.keep fun g hg hl=>(hoA g hg hl).elim id fun e=>?_,hb,?_,h.res.keep (all _ (Ab h.res) (by omega) (by omega) (by omega)),?_⟩
 ·have:=hA g hg;omega
 ·have o5:=(h.only.set (p:=⟨dg,k,none⟩) (.inl hBd) (.bool (q k))).after h5;have o6:=(((o5.set (p:=⟨pg,k*4,none⟩) (.inl hBp) (.int .u8 (pic k).1)).set (p:=⟨pg,k*4+1,none⟩) (.inl hBp) (.int .u8 (pic k).2.1)).set (p:=⟨pg,k*4+2,none⟩) (.inl hBp) (.int .u8 (pic k).2.2.1)).set (p:=⟨pg,k*4+3,none⟩) (.inl hBp) (.int .u8 (pic k).2.2.2);have h6':Below ((((w5.setCell ⟨pg,k*4,none⟩ (.int .u8 (pic k).1)).setCell ⟨pg,k*4+1,none⟩ (.int .u8 (pic k).2.1)).setCell ⟨pg,k*4+2,none⟩ (.int .u8 (pic k).2.2.1)).setCell ⟨pg,k*4+3,none⟩ (.int .u8 (pic k).2.2.2)).heap.size ((((w5.setCell ⟨pg,k*4,none⟩ (.int .u8 (pic k).1)).setCell ⟨pg,k*4+1,none⟩ (.int .u8 (pic k).2.1)).setCell ⟨pg,k*4+2,none⟩ (.int .u8 (pic k).2.2.1)).setCell ⟨pg,k*4+3,none⟩ (.int .u8 (pic k).2.2.2)) w6:=by simpa using h6
  exact(o6.after h6').set (.inr (cT _)) _
 ·have h9:=hpp6.set 1 (.int .i64 z);have e:Az (fun j=>if q j=true then bl j else 0) (k+1)=z:=by
   rw[hz];show _+(if q k=true then bl k else 0)=_;rw[if_pos hq]
  rw[e];exact h9
end
variable{u:Value}
theorem VL(k:Nat)(hk:k<=576)(w:World):(Instr.makeSlice 154 (.int .i64 (k:Int)) (.int .i64 (k:Int))).run prog w=.ok (.slice (some ⟨w.heap.size,0,none⟩) k k) (w.alloc (.cells (madeCells #[.bool false] k) 4)):=run_make_row' 154 4 (.bool false) 1 underlying154 du rfl .i64 .i64 k (by omega) (by omega) w
theorem C6{w:World}{a b o o':Nat}(h:a≠b):(w.setCell ⟨b,o',none⟩ u).cell? ⟨a,o,none⟩=w.cell? ⟨a,o,none⟩:=aV (a:=⟨a,o,none⟩) (aL w ⟨b,o',none⟩ a u h)
theorem Ue(w:World)(o1 o2:Obj):((w.alloc o1).alloc o2).heap[w.heap.size]?=some o1/\((w.alloc o1).alloc o2).heap[w.heap.size+1]?=some o2:=by
 have e2:((w.alloc o1).alloc o2).heap[w.heap.size+1]?=some o2:=by
  have:=aR (w.alloc o1) o2;simpa using this
 refine⟨?_,e2⟩;rw[Ad (w.alloc o1) o2 w.heap.size (by simp)];exact aR w o1
structure RpN(w wr:World)(A B:Nat->Prop)(c:Nat)(st:St)(bv:Value)(N:Nat)(L':List RB)(P D:Nat->Value)(rv:Value)(z:Int)(O:Rgn):Prop where
 ref:Aw wr A c st bv
 buf:AG wr (AA B w wr) bv N L' P D
 only:Ac B w wr
 res:Blk wr w.heap.size 35 #[.slice none 0 0,.int .i64 0]
 pp:Blk wr (w.heap.size+1) 35 #[rv,.int .i64 z]
 own:AF wr w.heap.size rv (rc O)
section
variable{w:World}{A B:Nat->Prop}{c:Nat}{st:St}{N:Nat}{L:List RB}{P D:Nat->Value}{i:Nat}{b0:RB}{q:Nat->Bool}{pic:Nat->R4}{bl:Nat->Int}{bg nb bcap:Nat}{O:Rgn}{rv:Value}{z:Int}
theorem RpN.below{wr':World}{bv:Value}(h:RpN w wr A B c st bv N L P D rv z O)(hb:Below wr.heap.size wr wr'):RpN w wr' A B c st bv N L P D rv z O:=
 ⟨h.ref.keep fun g _ hg=>hb.block g hg,(h.buf.keep fun g _ hg=>hb.block g hg).mono fun _ hg=>hg.imp id fun hh=>⟨hh.1,aQ hh.2 hb.size⟩,h.only.trans (Ac.below hb),h.res.below hb,h.pp.below hb,⟨Ai h.own.1 fun g hg=>hb.block g (h.own.1.lt g hg).2,h.own.2⟩⟩
theorem RpM.toN{w7:World}(h:RpM w wr A B c st (.slice (some ⟨bg,0,none⟩) nb bcap) N L P D i b0 q pic bl N)(hap:∀g,A g->¬B g)(hA:∀g,A g->g<w.heap.size)(hlt:∀g,B g->g<w.heap.size)(hN:N<=576)(hi:i<L.length)(hBb:B bg)(h7:Below wr.heap.size wr w7)(hu:AF w7 wr.heap.size u (rc O)):
  RpN w (((w7.setCell ⟨w.heap.size+1,0,none⟩ u).setCell ⟨bg,i*3+2,none⟩ (.slice (some ⟨w7.heap.size,0,none⟩) N N)).alloc (.cells (madeCells #[.bool false] N) 4)) A B c st (.slice (some ⟨bg,0,none⟩) nb bcap) N (L.set i ⟨fTo q pic b0.f N,b0.age,fun _=>false⟩) P (fun j=>if j=i then .slice (some ⟨w7.heap.size,0,none⟩) N N else D j) u (Az (fun j=>if q j=true then bl j else 0) N) O:=by
 have hbw:=hlt bg hBb;have hwr:=h.only.size;have hs7:=h7.size;have hppl:=Ab h.pp;have hV1:(w7.setCell ⟨w.heap.size+1,0,none⟩ u).heap.size=w7.heap.size:=by simp
 have k1:∀b,b<wr.heap.size->b≠w.heap.size+1->(w7.setCell ⟨w.heap.size+1,0,none⟩ u).heap[b]?=wr.heap[b]? :=fun b hb hne=>by rw[aL w7 ⟨w.heap.size+1,0,none⟩ b u hne];exact h7.block b hb
 have hi':i<(L.set i (⟨fTo q pic b0.f N,b0.age,dTo q b0.dirty N⟩:RB)).length:=by rw[bG];exact hi
 obtain⟨W,hW⟩:∃W,((w7.setCell ⟨w.heap.size+1,0,none⟩ u).setCell ⟨bg,i*3+2,none⟩ (.slice (some ⟨w7.heap.size,0,none⟩) N N)).alloc (.cells (madeCells #[.bool false] N) 4)=W:=⟨_,rfl⟩;rw[hW];have hW2:((w7.setCell ⟨w.heap.size+1,0,none⟩ u).alloc (.cells (madeCells #[.bool false] N) 4)).setCell ⟨bg,i*3+2,none⟩ (.slice (some ⟨w7.heap.size,0,none⟩) N N)=W:=by rw[<-hW];exact World.setCell_alloc_past _ _ _ _ (by rw[hV1];omega)
 have hWs:W.heap.size=w7.heap.size+1:=by rw[<-hW];simp
 have h0:AG (w7.setCell ⟨w.heap.size+1,0,none⟩ u) B (.slice (some ⟨bg,0,none⟩) nb bcap) N (L.set i ⟨fTo q pic b0.f N,b0.age,dTo q b0.dirty N⟩) P D:=h.buf.keep fun g hg hl=>k1 g hl (by have:=hlt g hg;omega);have h1:AG ((w7.setCell ⟨w.heap.size+1,0,none⟩ u).alloc (.cells (madeCells #[.bool false] N) 4)) (AA B w W) (.slice (some ⟨bg,0,none⟩) nb bcap) N (L.set i ⟨fTo q pic b0.f N,b0.age,dTo q b0.dirty N⟩) P D:=(h0.keep fun g _ hl=>Ad _ _ g hl).mono fun g hg=>.inl hg;have hK:AH ((w7.setCell ⟨w.heap.size+1,0,none⟩ u).alloc (.cells (madeCells #[.bool false] N) 4)) (AA B w W) (.slice (some ⟨w7.heap.size,0,none⟩) N N) N (fun _=>false):=by
  refine Ih (Ly ?_) (.inr ⟨by omega,by omega⟩) (by omega);have h9:=aR (w7.setCell ⟨w.heap.size+1,0,none⟩ u) (.cells (madeCells #[.bool false] N) 4);rw[hV1]at h9;exact h9
 have h2:=h1.setDir hi' hK fun j hj hne b hb he=>by
  have e1:b=w7.heap.size:=by simp[Value.ownBlock]at hb;exact hb.symm
  obtain⟨m,_,hr⟩:=h.buf.dir j hj;have:=hlt b (hr.2 b he);omega
 rw[hW2,Eg,List.set_set]at h2;have kW:∀b,b<wr.heap.size->b≠w.heap.size+1->b≠bg->W.heap[b]?=wr.heap[b]? :=fun b hb hne hnb=>by
  rw[<-hW,Ad _ _ b (by simp;omega),aL _ ⟨bg,i*3+2,none⟩ b _ hnb];exact k1 b hb hne
 refine⟨h.ref.keep fun g hg hl=>kW g hl (by have:=hA g hg;omega) (fun e=>hap g hg (e▸hBb)),h2,?_,h.res.keep (kW _ (Ab h.res) (by omega) (by omega)),?_,?_,hu.2⟩
 ·have o7:=h.only.after h7;have:=((o7.set (p:=⟨w.heap.size+1,0,none⟩) (.inr (cT _)) u).set (p:=⟨bg,i*3+2,none⟩) (.inl hBb) (.slice (some ⟨w7.heap.size,0,none⟩) N N)).alloc (.cells (madeCells #[.bool false] N) 4);rw[hW]at this;exact this
 ·have h9:Blk w7 (w.heap.size+1) 35 _:=h.pp.keep (h7.block _ hppl);have h8:=h9.set 0 u;refine Blk.keep h8 ?_;rw[<-hW,Ad _ _ _ (by simp;omega),aL _ ⟨bg,i*3+2,none⟩ _ _ (show w.heap.size+1≠bg by omega)]
 ·have h9:=hu.lower hwr;refine Ai h9.1 fun g hg=>?_;have hgl:=hu.1.lt g hg;rw[<-hW,Ad _ _ _ (by simp;omega),aL _ ⟨bg,i*3+2,none⟩ _ _ (show g≠bg by omega),aL _ ⟨w.heap.size+1,0,none⟩ _ _ (show g≠w.heap.size+1 by omega)]
theorem RpN.setAge(h:RpN w wr A B c st (.slice (some ⟨bg,0,none⟩) nb bcap) N L P D rv z O)(hap:∀g,A g->¬B g)(hlt:∀g,B g->g<w.heap.size)(hBb:B bg){j:Nat}(hj:j<L.length)(a:Nat):RpN w (wr.setCell ⟨bg,j*3+1,none⟩ (.int .i64 a)) A B c st (.slice (some ⟨bg,0,none⟩) nb bcap) N (L.set j {L[j]with age:=a}) P D rv z O:=by
 have hbw:=hlt bg hBb;have k1:∀b,b≠bg->(wr.setCell ⟨bg,j*3+1,none⟩ (.int .i64 a)).heap[b]?=wr.heap[b]? :=fun b hb=>aL wr ⟨bg,j*3+1,none⟩ b _ hb;have hsz:(wr.setCell ⟨bg,j*3+1,none⟩ (.int .i64 a)).heap.size=wr.heap.size:=by simp
 refine⟨h.ref.keep fun g hg _=>k1 g fun e=>hap g hg (e▸hBb),(h.buf.setAge hj a).mono fun g hg=>hg.imp id fun hh=>⟨hh.1,by rw[hsz];exact hh.2⟩,h.only.set (.inl hBb) _,h.res.keep (k1 _ (by omega)),h.pp.keep (k1 _ (by omega)),⟨Ai h.own.1 fun g hg=>k1 g (by have:=(h.own.1.lt g hg).1;omega),h.own.2⟩⟩
theorem RpN.done{W H:Nat}{f:Nat->R4}(hWH:W*H=N)(h:RpN w wr A B c st (.slice (some ⟨bg,0,none⟩) nb bcap) N (Cy L i f) P D rv z O)(hG:EE (AP W) (AP H) (CG q N) ((AP H).length-1) O)(hA:∀g,A g->g<w.heap.size):Lx A B c st (.slice (some ⟨bg,0,none⟩) nb bcap) W H L i q f z w (.returned (.tuple #[.agg #[rv,.int .i64 z],.int .i64 0])) ((wr.setCell ⟨w.heap.size,0,none⟩ rv).setCell ⟨w.heap.size,1,none⟩ (.int .i64 z)):=by
 have k1:∀b,b≠w.heap.size->((wr.setCell ⟨w.heap.size,0,none⟩ rv).setCell ⟨w.heap.size,1,none⟩ (.int .i64 z)).heap[b]?=wr.heap[b]? :=fun b hb=>by rw[aL _ ⟨w.heap.size,1,none⟩ b _ hb,aL _ ⟨w.heap.size,0,none⟩ b _ hb]
 have hsz:((wr.setCell ⟨w.heap.size,0,none⟩ rv).setCell ⟨w.heap.size,1,none⟩ (.int .i64 z)).heap.size=wr.heap.size:=by simp
 subst hWH;refine⟨rv,O,P,D,rfl,⟨Ai h.own.1 fun g hg=>k1 g fun e=>?_,h.own.2⟩,hG,h.ref.keep fun g hg _=>k1 g (by have:=hA g hg;omega),?_,(h.only.set (.inr (aO _)) _).set (.inr (aO _)) _⟩
 ·obtain⟨cur,hc⟩:=Ap h.own.1 hg;exact Aj hc h.res (by decide) e
 ·have hb:=h.buf;have hrow:∀(g:Nat) (cur:Array Value) (T:TypeId),T≠35->wr.heap[g]?=some (.cells cur T (0,0))->((wr.setCell ⟨w.heap.size,0,none⟩ rv).setCell ⟨w.heap.size,1,none⟩ (.int .i64 z)).heap[g]?=wr.heap[g]? :=fun g cur T hT hg=>k1 g (Aj hg h.res hT);have hm:AG ((wr.setCell ⟨w.heap.size,0,none⟩ rv).setCell ⟨w.heap.size,1,none⟩ (.int .i64 z)) (AA B w wr) (.slice (some ⟨bg,0,none⟩) nb bcap) (W*H) (Cy L i f) P D:=
   ⟨(let ⟨xs,r1,r2⟩:=hb.row;⟨xs,r1.other fun g cur hg=>hrow g cur _ (by decide) hg,r2⟩),hb.few,fun j hj=>(hb.pix j hj).other fun g cur hg=>hrow g cur _ (by decide) hg,fun j hj=>(hb.dir j hj).other fun g cur hg=>hrow g cur _ (by decide) hg,hb.apP,hb.apD⟩
  exact hm.mono fun g hg=>hg.imp id fun hh=>⟨hh.1,by rw[hsz];exact hh.2⟩
end
end Go.Proofs.YtofinpocigbbeaaGreat
