import Derived.Test.YtofinpocigbbeaaGreatKak
import Derived.Test.YtofinpocigbbeaaGreatKan
set_option maxHeartbeats 1000000
set_option maxRecDepth 100000
set_option linter.unusedSimpArgs false
namespace Go.Proofs.YtofinpocigbbeaaGreat
open Go.Proofs.Tryz Go.RowKit
attribute [local go_sem ↓] Go.wp_at_zero Go.wp_at_succ
theorem PK(w:World)(K:Nat):Bj (w.alloc (.cells (madeCells #[.int .u8 0,.int .u8 0,.int .u8 0,.int .u8 0] (K*4)) 51)) w.heap.size K (fun _=>(0,0,0,0)):=by
 refine⟨_,aR w _,size_madeCells _ _,fun k hk=>?_⟩;have key:∀o,o<4->(madeCells #[.int .u8 0,.int .u8 0,.int .u8 0,.int .u8 0] (K*4))[k*4+o]?=some (Value.int .u8 0):=fun o ho=>by
  unfold madeCells;rw[Array.getElem?_map,Array.getElem?_eq_getElem (by simp;omega)];simp only[Array.getElem_range,Option.map_some];have e:(k*4+o)%(#[Value.int .u8 0,.int .u8 0,.int .u8 0,.int .u8 0]:Array Value).size=o:=by simp;omega
  rw[e]
  match o,ho with
  |0,_|1,_|2,_|3,_=>rfl
 exact⟨key 0 (by omega),key 1 (by omega),key 2 (by omega),key 3 (by omega)⟩
theorem J4(a b:Int)(K:Nat)(hK:a*b=(K:Int))(hK2:K<=576)(w:World):
  Calls prog 98 #[vj a,vj b] w fun e w'=>∃g,e=.returned (.agg #[vj a,vj b,sj g K K])/\Bj w' g K (fun _=>(0,0,0,0))/\w.heap.size<=g/\uj w w':=by
 obtain⟨j0,hj0,hy0,hy1,hy2⟩:=cW Ed;have hmk2:∀w:World,(Instr.makeSlice 44 (vj (K:Int)) (vj (K:Int))).run prog w=.ok (sj w.heap.size K K) (w.alloc (.cells (madeCells #[.int .u8 0,.int .u8 0,.int .u8 0,.int .u8 0] (K*4)) 51)):=fun w=>by
  have h9:=run_make (P:=prog) w 44 51 j0 _ underlying44 hj0 hy0 .i64 .i64 K K (by omega) (Int.le_refl _) (by rw[hy2];omega) (by omega);rw[hy1]at h9;exact h9
 have HN:=Aa (fun(W:World)=>PK W K);have HA:=Aa (fun o1 o2=>al2 (aO w.heap.size) o1 o2);go_enter func98,ntmps98
 go_wp2_with fail
 refine cU (v:=.agg #[vj a,vj b,sj (w.heap.size+1) K K]) (by simp[results,results98,go_sem]) rfl ⟨w.heap.size+1,rfl,?_,by omega,HA.out _ _⟩;have h:=HN.out (w.alloc (.cells #[vj a,vj b,sj (w.heap.size+1) K K] 122));simpa using h
theorem L5(w:World)(ty:TypeId)(g K:Nat)(v:Value)(l:List R4)(hg:Ax w g 51 (K*4))(hv:Bb w v l)(hl:l.length=K):
  ∃w',(Builtin.copy_ #[44,44] ty #[sj g K K,v]).run prog w=.ok (goInt K) w'/\w.grownBy w' (some g)/\w'.heap.size=w.heap.size/\Bj w' g K (fun k=>l.getD k (0,0,0,0)):=by
 obtain⟨j0,hj0,hy0,hy1,hy2⟩:=cW Ed;obtain⟨cur,hc1,hc2⟩:=hg;obtain⟨a,c,rfl,hcs⟩:=hv;rw[hl];by_cases h0:K=0
 ·subst h0;refine⟨w,?_,⟨rfl,rfl,rfl,aO _,fun _ _ _=>rfl⟩,rfl,⟨cur,hc1,hc2,fun k hk=>by omega⟩⟩;cases a with
  |none=>simp[Builtin.copy_,run_underlying (P:=prog) underlying44,Builtin.lenOf,Builtin.firstCells,sizeOf,typeInfo,hj0,storeCells]
  |some ad=>simp[Builtin.copy_,run_underlying (P:=prog) underlying44,Builtin.lenOf,Builtin.firstCells,sizeOf,typeInfo,hj0,storeCells,loadCells,loadCellsFrom]
 ·obtain⟨_,b,off,rfl,hcells⟩:=hcs (by omega);have hpl:(Aq l).length=K*4:=by rw[BM,hl]
  have hsrc:∀j u,(Aq l)[j]?=some u->w.cell? (((jA b off):Addr).add j)=some u:=fun j u hu=>by
   rw[Es];have hj:j<l.length*4:=by
    have:=(bL.1 hu).1;rw[BM]at this;exact this
   obtain⟨q,r,hq,hr⟩:∃q r,j=q*4+r/\r<4:=⟨j/4,j%4,by omega,by omega⟩;subst hq;have hql:q<l.length:=by omega
   obtain⟨p0,p1,p2,p3⟩:=Bk l q hql;obtain⟨k0,k1,k2,k3⟩:=hcells q hql
   match r,hr with
   |0,_=>
    rw[Nat.add_zero]at hu ⊢;rw[p0]at hu;rw[k0,hu]
   |1,_=>
    rw[p1]at hu;rw[<-Nat.add_assoc,k1,hu]
   |2,_=>
    rw[p2]at hu;rw[<-Nat.add_assoc,k2,hu]
   |3,_=>
    rw[p3]at hu;rw[<-Nat.add_assoc,k3,hu]
  have hf:=run_firstCells_some (P:=prog) w 4 K (jA b off) K c (Aq l) hpl hsrc;have hst:=run_storeCells_at prog g 0 51 (Aq l) 0 cur w hc1 (by rw[hpl];omega) (fun u hu=>by obtain⟨x,rfl⟩:=JZ l u hu;rfl);rw[Nat.add_zero]at hst;obtain⟨W',hW'⟩:∃W',W'=w.setRow g (cur.toList.take 0++Aq l++cur.toList.drop (0+(Aq l).length)).toArray:=⟨_,rfl⟩;rw[<-hW']at hst;refine⟨W',?_,?_,?_,?_⟩
  ·simp[Builtin.copy_,run_underlying (P:=prog) underlying44,Builtin.lenOf,sizeOf,typeInfo,hj0,hy1,hf,hst]
  ·rw[hW'];exact⟨rfl,rfl,rfl,by simp,fun k _ hk=>setRow_other w g k _ (fun e=>hk (by rw[e]))⟩
  ·rw[hW'];simp
  ·rw[hW'];refine⟨_,setRow_heap w g _ _ _ _ hc1,?_,fun k hk=>?_⟩
   ·simp[hpl,hc2]
   ·have hkl:k<l.length:=by omega
    obtain⟨p0,p1,p2,p3⟩:=Bk l k hkl;have e:l.getD k (0,0,0,0)=l[k]:=by rw[bu,aU hkl];rfl
    have hd:cur.toList.drop (0+(Aq l).length)=[]:=List.drop_eq_nil_of_le (by simp[hpl,hc2]);dsimp only;rw[e,hd,List.append_nil,List.take_zero,List.nil_append];simp only[br];exact⟨p0,p1,p2,p3⟩
theorem K4(a b:Int)(K:Nat)(hK:a*b=(K:Int))(hK2:K<=576)(v:Value)(l:List R4)(hl:l.length=K)(w:World)(hv:Bb w v l):
  Calls prog 61 #[vj a,vj b,v] w fun e w'=>∃g,e=.returned (.agg #[vj a,vj b,sj g K K])/\Bj w' g K (fun k=>l.getD k (0,0,0,0))/\w.heap.size<=g/\uj w w':=by
 have HN:=Aa (J4 a b K hK hK2);have hb0:=fun o=>al1 (aO w.heap.size) o;have HV:=Aa hv;have HB0:=Aa hb0;obtain⟨va,vc,hvf,_⟩:=hv;rw[hl]at hvf;have HCp:Hid (∀(w1:World) (g:Nat),Ax w1 g 51 (K*4)->w.heap.size+1<=g->Below (w.heap.size+1) (w.alloc (.cells #[vj 0,vj 0,jj] 122)) w1->w.heap.size+1<=w1.heap.size/\
   ∃w2,(Builtin.copy_ #[44,44] 3 #[sj g K K,.slice va K vc]).run prog (w1.alloc (.cells #[vj a,vj b,sj g K K] 122))=.ok (goInt K) w2/\Ax w2 w.heap.size 122 3/\Blk w2 w1.heap.size 122 #[vj a,vj b,sj g K K]/\uj w w2/\Bj w2 g K (fun k=>l.getD k (0,0,0,0))):=fun w1 g hg hge hb=>by
  have hs1:=hb.size;simp only[World.size_alloc]at hs1;have hbw:uj w w1:=(hb0 _).trans (hb.mono (by omega));have hba:=hbw.alloc (by omega) (.cells #[vj a,vj b,sj g K K] 122);have hgl:=hg.lt;obtain⟨w2,h1,h2,h3,h4⟩:=L5 (w1.alloc (.cells #[vj a,vj b,sj g K K] 122)) 3 g K v l (hg.alloc _) (HV.out.below hba) hl;rw[hvf]at h1;refine⟨by omega,w2,h1,?_,?_,⟨h2.os.trans hba.os,h2.tape.trans hba.tape,h2.output.trans hba.output,bh hba.size h2.size,fun k hk=>by rw[h2.block k (by simp;omega) (fun e=>by injection e with e;omega),hba.block k hk]⟩,h4⟩
  ·refine Ax.keep (Ax.alloc (Ax.keep (Ax.new w #[vj 0,vj 0,jj] 122) (hb.block _ (by omega))) _) (h2.block _ (by simp;omega) (fun e=>by injection e with e;omega))
  ·show w2.heap[w1.heap.size]?=_;rw[h2.block w1.heap.size (by simp) (fun e=>by injection e with e;omega)];exact aR w1 _
 subst hvf;clear hb0 HV hl;go_enter func61,ntmps61
 go_upto_region 2 with(go_at_call 98;refine(HN.out _).mono ?_;rintro e w1 ⟨g,rfl,hg,hge,hb⟩;simp only[World.size_alloc]at hge;replace hb:=hb.mono (Nat.le_of_eq (World.size_alloc w _).symm);obtain⟨hs1,w2,hrun,k1,k2,k3,k4⟩:=HCp.out w1 g hg.has hge hb;have HK:=Aa (aK k1 (aK k2 k3));have HK4:=Aa k4;have hgw:w.heap.size<g:=(by omega);clear k1 k2 k3 k4 hg hb hge)
 have x0:w2.cell? (jA w1.heap.size 0)=some (vj a):=by rw[HK.out.2.1.cell];rfl
 have x1:w2.cell? (jA w1.heap.size 1)=some (vj b):=by rw[HK.out.2.1.cell];rfl
 have x2:w2.cell? (jA w1.heap.size 2)=some (sj g K K):=by rw[HK.out.2.1.cell];rfl
 obtain⟨q0,p0⟩:=HK.out.1.cell 0 (by omega);obtain⟨q1,p1⟩:=HK.out.1.cell 1 (by omega);obtain⟨q2,p2⟩:=HK.out.1.cell 2 (by omega);have z0:=HK.out.1.free 0;have z1:=HK.out.1.free 1;have z2:=HK.out.1.free 2;have HK6:Hid (Bj (((w2.setCell (jA w.heap.size 0) (vj a)).setCell (jA w.heap.size 1) (vj b)).setCell (jA w.heap.size 2) (sj g K K)) g K (fun k=>l.getD k (0,0,0,0))):=((HK4.out.keep (aL _ _ _ _ (show g≠w.heap.size by omega))).keep (aL _ _ _ _ (show g≠w.heap.size by omega))).keep (aL _ _ _ _ (show g≠w.heap.size by omega));have HB5:Hid (uj w (((w2.setCell (jA w.heap.size 0) (vj a)).setCell (jA w.heap.size 1) (vj b)).setCell (jA w.heap.size 2) (sj g K K))):=((HK.out.2.2.setCell (aO _) _).setCell (aO _) _).setCell (aO _) _
 go_wp2_with fail
 exact cU (v:=.agg #[vj a,vj b,sj g K K]) (by simp[results,results61,go_sem,p0,p1,p2]) rfl ⟨g,rfl,HK6.out,Nat.le_of_lt hgw,HB5.out⟩
variable{S:Nat->Prop}{bg c cap rg:Nat}{d:Cv}{dv:Array Value}{w:World}
theorem AK.cells(h:AK w S c d (sj bg d.bufs.length cap) rg dv)(i:Nat)(hi:i<d.bufs.length):
  w.cell? (jA c 4)=some (sj bg d.bufs.length cap)/\w.cell? (jA bg (i*4))=some (vj d.W)/\w.cell? (jA bg (i*4+1))=some (vj d.H)/\w.cell? (jA bg (i*4+2))=some (sj (d.bufs[i].g) (d.W*d.H) (d.W*d.H))/\w.cell? (jA bg (i*4+3))=some (vj d.bufs[i].age)/\bg<w.heap.size/\c<w.heap.size:=by
 obtain⟨g',cap',q1,q2,q3,q4,q5,q6⟩:=h.row.open (cP (cB _) hi);simp only[Value.slice.injEq,Option.some.injEq,Addr.mk.injEq]at q1;obtain⟨⟨rfl,_⟩,_,rfl⟩:=q1;have hat:=fun o (ho:o<4)=>Fb (DN d.W d.H) (Ev _ _) d.bufs i o ho hi;exact⟨h.blk.cell 4,q5 _ _ (hat 0 (by omega)),q5 _ _ (hat 1 (by omega)),q5 _ _ (hat 2 (by omega)),q5 _ _ (hat 3 (by omega)),q4,Ab h.blk⟩
theorem Vj(h:AK w S c d (sj bg d.bufs.length cap) rg dv)(hd:Co d)(i:Nat)(hi:i<d.bufs.length):
  Calls prog 65 #[pj c,vj i] w fun e w'=>∃v,e=.returned (.tuple #[v,vj d.bufs[i].age])/\w'.ownsRow w.heap.size 51 4 v (d.W*d.H) (Aq (pxL d.bufs[i].f (d.W*d.H)))/\v≠jj/\uj w w':=by
 have hW:=hd.w1;have hH:=hd.h1;have hcap:d.bufs.length<=cap:=A7 h.row.1;have hN:d.W*d.H<=576:=bh (cI hW.2 hH.2) (by omega);obtain⟨b,hb⟩:∃b,d.bufs[i]=b:=⟨_,rfl⟩;have hp:=(h.pix d.bufs[i] (aZ hi)).2;have HS:Hid (∀W:World,uj w W->W.cell? (jA c 4)=some (sj bg d.bufs.length cap)/\W.cell? (jA bg (i*4))=some (vj d.W)/\W.cell? (jA bg (i*4+1))=some (vj d.H)/\W.cell? (jA bg (i*4+2))=some (sj b.g (d.W*d.H) (d.W*d.H))/\W.cell? (jA bg (i*4+3))=some (vj b.age)/\bg<W.heap.size/\c<W.heap.size):=fun W hW=>by
  have q:=(h.below hW).cells i hi;rw[hb]at q;exact q
 rw[hb]at hp;rw[hb];obtain⟨N,hNe⟩:∃N,d.W*d.H=N:=⟨_,rfl⟩;rw[hNe]at HS hp hN;rw[hNe];have HC:Hid (∀W:World,uj w W->Calls prog 110 #[.agg #[vj d.W,vj d.H,sj b.g N N]] W fun e w'=>∃a n cc,e=.returned (.slice a n cc)/\Hid (w'.ownsRow w.heap.size 51 4 (.slice a n cc) N (Aq (pxL b.f N))/\(.slice a n cc)≠jj/\uj w w')):=fun W hW=>(Ts d.W d.H b.g N hN b.f W (hp.keep (hW.block _ hp.has.lt))).mono fun e w' ⟨v,q1,q2,q3,q4⟩=>by
  obtain⟨a,cc,rfl⟩:=Al q2;exact⟨a,_,cc,q1,⟨q2.1,q2.2.imp id fun⟨g,cap,cur,a1,a2,a3⟩=>⟨g,cap,cur,a1,bh hW.size a2,a3⟩⟩,q3,hW.trans (q4.mono hW.size)⟩
 obtain⟨n,hn⟩:∃n,d.bufs.length=n:=⟨_,rfl⟩;rw[hn]at HS hcap;have hin:(i:Int)<(n:Int):=by omega
 have hi0:(0:Int)<=(i:Int):=by omega
 have hic:i<cap:=by omega
 clear h hd hp hb;go_enter func65,ntmps65
 go_wp2_with fail
 go_region_held3 (fun W=>W.cell? (jA c 4)=some (sj bg n cap)/\W.cell? (jA bg (i*4))=some (vj d.W)/\W.cell? (jA bg (i*4+1))=some (vj d.H)/\W.cell? (jA bg (i*4+2))=some (sj b.g N N)/\W.cell? (jA bg (i*4+3))=some (vj b.age)/\bg<W.heap.size/\c<W.heap.size)
  (first
   |with_reducible exact HS.out _ (aN _ _).drew
   |with_reducible exact HS.out _ (aN _ _)
   |with_reducible exact HS.out _ H1.out.2.2
   |fail)
  (first
   |(go_at_call 110;refine(HC.out _ (aN _ _).drew).mono ?_;rintro e w1 ⟨va,vn,vc,rfl,H1⟩)
   |fail)
 all_goals go_wp2_with fail
 all_goals exact cU (v:=.tuple #[.slice va vn vc,vj b.age]) (by simp[results,results65,go_sem]) rfl ⟨_,rfl,H1.out⟩
theorem K5{bv:Value}(h:AK w S c d bv rg dv)(hd:Co d):
  Calls prog 42 #[pj c] w fun e w'=>e=.returned (vj ((d.W*d.H:Nat):Int))/\uj w w':=by
 have hW:=hd.w1;have hH:=hd.h1;have k2:w.cell? (jA c 2)=some (vj d.W):=h.blk.cell 2;have k3:w.cell? (jA c 3)=some (vj d.H):=h.blk.cell 3;have hcl:=Ak k2;have hN:d.W*d.H<=576:=bh (cI hW.2 hH.2) (by omega);obtain⟨N,hNe⟩:∃N,d.W*d.H=N:=⟨_,rfl⟩;have e1:(d.W:Int)*(d.H:Int)=(N:Int):=by rw[<-hNe];simp
 rw[hNe]at hN;rw[hNe];clear h hd hNe;go_enter func42,ntmps42
 go_wp2_with fail
 go_quiet (fail)
 go_wp2_with fail
 go_ret;exact⟨rfl,Joins.below_draws _ _ _⟩
theorem AK.setBuf4{n:Nat}(h:AK w S c d (sj bg n cap) rg dv)(hn:n=d.bufs.length)(i:Nat)(hi:i<d.bufs.length)(b:Buf)(hp:S b.g/\Bj w b.g (d.W*d.H) b.f)(hbg:b.g≠bg):
  AK ((((w.setCell (jA bg (i*4)) (vj d.W)).setCell (jA bg (i*4+1)) (vj d.H)).setCell (jA bg (i*4+2)) (sj b.g (d.W*d.H) (d.W*d.H))).setCell (jA bg (i*4+3)) (vj b.age)) S c {d with bufs:=d.bufs.set i b} (sj bg n cap) rg dv:=by
 have hs:d.bufs.set i d.bufs[i]=d.bufs:=KR (aU hi);have kp:∀(V:World) (j:Nat) (u:Value) f,Bj V b.g (d.W*d.H) f->Bj (V.setCell (jA bg j) u) b.g (d.W*d.H) f:=fun V j u f q=>q.keep (aL V (jA bg j) b.g u hbg);have h1:=h.setBuf hn i 0 (by omega) hi d.bufs[i] (vj d.W) rfl (h.pix _ (aZ hi));simp only[hs,Nat.add_zero]at h1;have h2:=h1.setBuf hn i 1 (by omega) hi d.bufs[i] (vj d.H) rfl (h1.pix _ (aZ hi));simp only[hs]at h2;have h3:=h2.setBuf hn i 2 (by omega) hi ⟨b.g,d.bufs[i].age,b.f⟩ (sj b.g (d.W*d.H) (d.W*d.H)) rfl ⟨hp.1,kp _ _ _ _ (kp _ _ _ _ hp.2)⟩;have h4:=h3.setBuf (by simpa using hn) i 3 (by omega) (by simpa using hi) b (vj b.age) (by simp[DN]) ⟨hp.1,kp _ _ _ _ (kp _ _ _ _ (kp _ _ _ _ hp.2))⟩;simpa using h4
def Cv.filled(d:Cv)(i g:Nat)(f:Nat->R4):Cv:={d with bufs:=d.bufs.set i ⟨g,0,f⟩ }
theorem Vk(h:AK w S c d (sj bg d.bufs.length cap) rg dv)(hd:Co d)(i:Nat)(hi:i<d.bufs.length)(l:List R4)(v:Value)(hv:Bb w v l)(hl:l.length=d.W*d.H):
  Calls prog 43 #[pj c,vj i,v] w fun e w'=>e=.returned (.tuple #[])/\∃g,w.heap.size<=g/\g<w'.heap.size/\AK w' (AA S w w') c (d.filled i g (fun k=>l.getD k (0,0,0,0))) (sj bg d.bufs.length cap) rg dv/\Ac (fun b=>b=bg) w w':=by
 have hW:=hd.w1;have hH:=hd.h1;have hcap:d.bufs.length<=cap:=A7 h.row.1;obtain⟨N,hNe⟩:∃N,d.W*d.H=N:=⟨_,rfl⟩;have hN:N<=576:=by rw[<-hNe];exact bh (cI hW.2 hH.2) (by omega)
 have e1:(d.W:Int)*(d.H:Int)=(N:Int):=by rw[<-hNe];simp
 have k2:w.cell? (jA c 2)=some (vj d.W):=h.blk.cell 2;have k3:w.cell? (jA c 3)=some (vj d.H):=h.blk.cell 3;obtain⟨c4,_,_,_,_,hbl,hcl⟩:=h.cells i hi;have hrl:=Ab h.ring;obtain⟨n,hn⟩:∃n,d.bufs.length=n:=⟨_,rfl⟩;have HS:Hid (∀W:World,uj w W->W.cell? (jA c 2)=some (vj d.W)/\W.cell? (jA c 3)=some (vj d.H)/\W.cell? (jA c 4)=some (sj bg n cap)/\bg<W.heap.size/\c<W.heap.size):=fun W hW=>⟨(hW.cell (p:=(jA c 2)) hcl).trans k2,(hW.cell (p:=(jA c 3)) hcl).trans k3,by rw[<-hn];exact(hW.cell (p:=(jA c 4)) hcl).trans c4,aQ hbl hW.size,aQ hcl hW.size⟩;have HG:Hid (∀W:World,uj w W->Calls prog 61 #[vj d.W,vj d.H,v] W fun e w'=>∃g,e=.returned (.agg #[vj d.W,vj d.H,sj g N N])/\(∃u0,w'.cell? (jA bg (i*4))=some u0)/\(∃u1,w'.cell? (jA bg (i*4+1))=some u1)/\(∃u2,w'.cell? (jA bg (i*4+2))=some u2)/\(∃u3,w'.cell? (jA bg (i*4+3))=some u3)/\w'.frozen? (jA bg (i*4))=false/\w'.frozen? (jA bg (i*4+1))=false/\w'.frozen? (jA bg (i*4+2))=false/\w'.frozen? (jA bg (i*4+3))=false/\Hid (uj w w'/\∃g',w.heap.size<=g'/\g'<w'.heap.size/\AK ((((w'.setCell (jA bg (i*4)) (vj d.W)).setCell (jA bg (i*4+1)) (vj d.H)).setCell (jA bg (i*4+2)) (sj g N N)).setCell (jA bg (i*4+3)) (vj 0)) (AA S w w') c (d.filled i g' (fun k=>l.getD k (0,0,0,0))) (sj bg d.bufs.length cap) rg dv)):=fun W hW=>(K4 d.W d.H N e1 hN v l (by rw[hl,hNe]) W (hv.below hW)).mono fun e w' ⟨g,q1,q2,q3,q4⟩=>by
  have hb:uj w w':=hW.trans (q4.mono hW.size);have hm:=(h.below hb).mono (S':=AA S w w') fun g hg=>.inl hg;have hbt:Ax w' bg 148 (cap*4):=by
   obtain⟨k1,k2⟩:=hm.row.1;rcases k2 with⟨k2,_⟩|⟨g9,cap9,cur,a1,a2,a3,a4,a5,a6,a7⟩
   ·cases k2
   ·simp only[Value.slice.injEq,Option.some.injEq,Addr.mk.injEq]at a1;obtain⟨⟨rfl,_⟩,_,rfl⟩:=a1;exact⟨cur,a3,a6⟩
  have hgl:=q2.has.lt;have hgw:w.heap.size<=g:=bh hW.size q3;refine⟨g,q1,hbt.cell _ (by omega),hbt.cell _ (by omega),hbt.cell _ (by omega),hbt.cell _ (by omega),hbt.free _,hbt.free _,hbt.free _,hbt.free _,hb,g,hgw,hgl,?_⟩;have q:=hm.setBuf4 rfl i hi ⟨g,0,fun k=>l.getD k (0,0,0,0)⟩ ⟨.inr ⟨hgw,hgl⟩,by rw[hNe];exact q2⟩ (show g≠bg by omega);rw[hNe]at q;exact q
 have hcb:c≠bg:=fun e=>by
  obtain⟨cur,hcur⟩:=h.row.type (g:=bg) rfl;have hk:=h.blk;rw[e]at hk;have:=hk.symm.trans hcur;simp at this
 have HS2:Hid (∀W:World,uj w W->∀u0 u1 u2 u3,((((W.setCell (jA bg (i*4)) u0).setCell (jA bg (i*4+1)) u1).setCell (jA bg (i*4+2)) u2).setCell (jA bg (i*4+3)) u3).cell? (jA c 2)=some (vj d.W)/\((((W.setCell (jA bg (i*4)) u0).setCell (jA bg (i*4+1)) u1).setCell (jA bg (i*4+2)) u2).setCell (jA bg (i*4+3)) u3).cell? (jA c 3)=some (vj d.H)/\((((W.setCell (jA bg (i*4)) u0).setCell (jA bg (i*4+1)) u1).setCell (jA bg (i*4+2)) u2).setCell (jA bg (i*4+3)) u3).cell? (jA c 4)=some (sj bg n cap)/\bg<((((W.setCell (jA bg (i*4)) u0).setCell (jA bg (i*4+1)) u1).setCell (jA bg (i*4+2)) u2).setCell (jA bg (i*4+3)) u3).heap.size/\c<((((W.setCell (jA bg (i*4)) u0).setCell (jA bg (i*4+1)) u1).setCell (jA bg (i*4+2)) u2).setCell (jA bg (i*4+3)) u3).heap.size):=fun W hW u0 u1 u2 u3=>by
  obtain⟨q1,q2,q3,q4,q5⟩:=HS.out W hW;have e:((((W.setCell (jA bg (i*4)) u0).setCell (jA bg (i*4+1)) u1).setCell (jA bg (i*4+2)) u2).setCell (jA bg (i*4+3)) u3).heap[c]?=W.heap[c]? :=by
   rw[aL _ _ c _ hcb,aL _ _ c _ hcb,aL _ _ c _ hcb,aL _ _ c _ hcb]
  exact⟨(aV (a:=(jA c 2)) e).trans q1,(aV (a:=(jA c 3)) e).trans q2,(aV (a:=(jA c 4)) e).trans q3,by simpa using q4,by simpa using q5⟩
 have HO4:Hid (∀W:World,uj w W->∀u0 u1 u2 u3,Ac (fun b=>b=bg) w ((((W.setCell (jA bg (i*4)) u0).setCell (jA bg (i*4+1)) u1).setCell (jA bg (i*4+2)) u2).setCell (jA bg (i*4+3)) u3)):=fun W hW u0 u1 u2 u3=>
  ((((Ac.below (S:=fun b=>b=bg) hW).set (p:=(jA bg (i*4))) (.inl rfl) u0).set (p:=(jA bg (i*4+1))) (.inl rfl) u1).set (p:=(jA bg (i*4+2))) (.inl rfl) u2).set (p:=(jA bg (i*4+3))) (.inl rfl) u3
 have hvf:∃a n c',v=.slice a n c':=let ⟨a,c',e,_⟩:=hv;⟨a,_,c',e⟩
 obtain⟨va,vn,vc,rfl⟩:=hvf;rw[hn]at hcap;have hin:(i:Int)<(n:Int):=by omega
 have hi0:(0:Int)<=(i:Int):=by omega
 have hic:i<cap:=by omega
 clear h hd hv hl e1 k2 k3 c4 hrl;go_enter func43,ntmps43
 go_wp2_with fail
 go_region_held3 (fun W=>W.cell? (jA c 2)=some (vj d.W)/\W.cell? (jA c 3)=some (vj d.H)/\W.cell? (jA c 4)=some (sj bg n cap)/\bg<W.heap.size/\c<W.heap.size)
  (first
   |with_reducible exact HS.out _ (aN _ _).drew
   |with_reducible exact HS.out _ (aN _ _)
   |with_reducible exact HS.out _ H1.out.1
   |with_reducible exact HS2.out _ H1.out.1 _ _ _ _
   |fail)
  (first
   |(go_at_call 61;refine(HG.out _ (aN _ _).drew).mono ?_;rintro e w1 ⟨g,rfl,⟨u0,x0⟩,⟨u1,x1⟩,⟨u2,x2⟩,⟨u3,x3⟩,f0,f1,f2,f3,H1⟩)
   |fail)
 all_goals go_wp2_with fail
 obtain⟨hb,g',a1,a2,cm⟩:=H1.out;refine cV (v:=.tuple #[]) (by simp[results,results43]) rfl ⟨rfl,g',a1,by simpa using a2,cm.mono fun b hb'=>?_,?_⟩
 ·exact hb'.imp id fun q=>by simpa using q
 ·exact HO4.out _ hb _ _ _ _
variable{H W k:Nat}{L:List Nat}{bv:Value}{wr:World}
theorem Rx:(prog.info? 136).map (fun i=>(i.zero,i.size,i.bytes))=some (some (.agg #[jj]),1,24):=by kernel_rfl
theorem Ry:(prog.info? 148).map (fun i=>(i.zero,i.size,i.bytes))=some (some (.agg #[vj 0,vj 0,jj,vj 0]),4,48):=by kernel_rfl
theorem PL(w:World):
  Calls prog 97 #[vj 4] w fun e w'=>∃rg,e=.returned (.agg #[sj rg 4 4,vj 0])/\w.heap.size<=rg/\Blk w' rg 136 #[jj,jj,jj,jj]/\uj w w':=by
 obtain⟨j0,hj0,hy0,hy1,hy2⟩:=cW Rx;have hmk2:∀w:World,(Instr.makeSlice 141 (vj 4) (vj 4)).run prog w=.ok (sj w.heap.size 4 4) (w.alloc (.cells #[jj,jj,jj,jj] 136)):=fun w=>by
  have h9:=run_make (P:=prog) w 141 136 j0 _ underlying141 hj0 hy0 .i64 .i64 4 4 (by omega) (Int.le_refl _) (by rw[hy2];omega) (by omega);rw[hy1]at h9;have e:madeCells (Value.agg #[jj]).cells (Int.toNat 4*1)=#[jj,jj,jj,jj]:=by first|kernel_rfl|(apply Array.ext';simp[madeCells,Value.cells,List.range_succ])
  rw[e]at h9;exact h9
 go_enter func97,ntmps97
 go_wp2_with fail
 refine cU (v:=.agg #[sj (w.heap.size+1) 4 4,vj 0]) (by simp[results,results97,go_sem]) rfl ⟨w.heap.size+1,rfl,by omega,?_,Joins.below_alloc2 w _ _⟩;have q:=aR (w.alloc (.cells #[sj (w.heap.size+1) 4 4,vj 0] 143)) (.cells #[jj,jj,jj,jj] 136);rw[show(w.alloc (.cells #[sj (w.heap.size+1) 4 4,vj 0] 143)).heap.size=w.heap.size+1 by simp]at q;exact q
def Gj(g:Nat):Buf:=⟨g,0,fun _=>(0,0,0,0)⟩
structure Ki(w wr:World)(c rg W H k:Nat)(bv:Value)(L:List Nat):Prop where
 bel:uj w wr
 cb:w.heap.size<=c
 rb:w.heap.size<=rg
 blk:Blk wr c 145 #[vj 0,vj 0,vj W,vj H,bv,sj rg 4 4,vj 0]
 row:wr.ownsRow (c+1) 148 4 bv k (L.flatMap fun g=>DN W H (Gj g))
 ring:Blk wr rg 136 #[jj,jj,jj,jj]
 len:L.length=k
 pix:∀g∈L,c<g/\Bj wr g (W*H) (fun _=>(0,0,0,0))
 apart:∀(i j a:Nat),L[i]?=some a->L[j]?=some a->i=j
theorem Ki.step{w5 w6:World}{gg cp g:Nat}(h:Ki w wr c rg W H k bv L)(h5:uj wr w5)(hg:w5.grownBy w6 bv.ownBlock)(hp:Bj w5 g (W*H) (fun _=>(0,0,0,0)))(hgn:wr.heap.size<=g)
  (ho:w6.ownsRow (c+1) 148 4 (sj gg (k+1) cp) (k+1) ((L.flatMap fun g=>DN W H (Gj g))++DN W H (Gj g))):
  Ki w (w6.setCell (jA c 4) (sj gg (k+1) cp)) c rg W H (k+1) (sj gg (k+1) cp) (L++[g]):=by
 have hcl:=Ab h.blk;have hrl:=Ab h.ring;have hs5:=h5.size;have hown:∀b,bv.ownBlock=some b->c+1<=b/\∃cur,wr.heap[b]?=some (.cells cur 148 (0,0)):=fun b hb=>⟨(h.row.lt b hb).1,Ap h.row hb⟩;have hst:∀b,b<w5.heap.size->bv.ownBlock≠some b->b≠c->(w6.setCell (jA c 4) (sj gg (k+1) cp)).heap[b]?=w5.heap[b]? :=fun b hb hn hc=>by
  rw[aL _ _ b _ hc,hg.block b hb fun e=>hn e.symm]
 have hc6:w6.heap[c]?=wr.heap[c]? :=by
  rw[hg.block c (by omega) fun e=>by have:=(hown c e.symm).1;omega,h5.block c hcl]
 have hgb:∀b,b∈L++[g]->c<b/\Bj w5 b (W*H) (fun _=>(0,0,0,0)):=fun b hb=>by
  rcases bV.1 hb with hb|hb
  ·exact⟨(h.pix b hb).1,(h.pix b hb).2.keep (h5.block b (h.pix b hb).2.has.lt)⟩
  ·simp at hb;subst hb;exact⟨by omega,hp⟩
 refine⟨?_,h.cb,h.rb,?_,?_,?_,by simp[h.len],fun b hb=>⟨(hgb b hb).1,(hgb b hb).2.keep (hst b (hgb b hb).2.has.lt (fun e=>?_) (by have:=(hgb b hb).1;omega))⟩,fun i j a hi hj=>?_⟩
 ·refine cO ?_ h.cb _;exact(h.bel.trans (h5.mono h.bel.size)).grown hg (bh h.bel.size hs5) fun b hb=>by have:=(hown b hb).1;have:=h.cb;omega
 ·have q:Blk w6 c 145 _:=hc6.trans h.blk;exact q.set 4 _
 ·refine Ai ?_ fun b hb=>aL _ _ b _ ?_
  ·rw[cM];simpa using ho
  ·have:=(ho.lt b hb).1;show b≠c;omega
 ·refine h.ring.keep ?_;rw[hst rg (by omega) (fun e=>?_) (fun e=>?_),h5.block rg hrl]
  ·obtain⟨cur,q⟩:=(hown rg e).2;have:=h.ring.symm.trans q;simp at this
  ·have q:=h.ring;rw[e]at q;have:=q.symm.trans h.blk;simp at this
 ·obtain⟨cur,q⟩:=(hown b e).2;obtain⟨cur2,q2,_⟩:=(hgb b hb).2;rw[h5.block b (Ab q)]at q2;have:=q.symm.trans q2;simp at this
 ·have key:∀(i:Nat),(L++[g])[i]?=some a->(i<L.length/\L[i]?=some a/\a<wr.heap.size)\/(i=L.length/\a=g):=fun i hi=>by
   by_cases e:i<L.length
   ·rw[cA e]at hi;exact .inl ⟨e,hi,(h.pix a (cH hi)).2.has.lt⟩
   ·rw[bO (by omega)]at hi;right;have:i-L.length=0:=by
     by_cases e2:i-L.length=0
     ·exact e2
     ·rw[cD (by simp;omega)]at hi;cases hi
    rw[this]at hi;simp at hi;exact⟨by omega,hi.symm⟩
  rcases key i hi with⟨a1,a2,a3⟩|⟨a1,a2⟩
  ·rcases key j hj with⟨b1,b2,b3⟩|⟨b1,b2⟩
   ·exact h.apart i j a a2 b2
   ·omega
  ·rcases key j hj with⟨b1,b2,b3⟩|⟨b1,b2⟩
   ·omega
   ·omega
def Cv.new(W H:Nat)(L:List Nat):Cv:=⟨W,H,L.map Gj,[[],[],[],[]],0,0⟩
theorem Cv.new_ok(h:Ki w wr c rg W H k bv L)(hW:1<=W/\W<=24)(hH:1<=H/\H<=24)(hk:1<=k/\k<=3):Co (Cv.new W H L):=by
 refine⟨hW,hH,by simp[Cv.new,h.len];exact hk,by simp[Cv.new],rfl,fun R hR=>?_,fun b hb=>?_,fun R hR x y hm=>?_,fun i j a b hi hj hg=>?_⟩
 ·simp[Cv.new]at hR;subst hR;exact C7
 ·simp[Cv.new]at hb;obtain⟨g,_,rfl⟩:=hb;exact aO _
 ·simp[Cv.new]at hR;subst hR;simp[Ay]at hm
 ·simp only[Cv.new,bZ,Option.map_eq_some_iff]at hi hj;obtain⟨g1,hi,rfl⟩:=hi;obtain⟨g2,hj,rfl⟩:=hj;have:g1=g2:=hg;subst this;exact h.apart i j g1 hi hj
theorem Ki.mem(h:Ki w wr c rg W H k bv L):AK wr (fun g=>w.heap.size<=g/\g<wr.heap.size) c (Cv.new W H L) bv rg #[jj,jj,jj,jj]:=by
 refine⟨h.blk,⟨h.cb,Ab h.blk⟩,⟨?_,fun g hg=>⟨by have:=(h.row.lt g hg).1;have:=h.cb;omega,(h.row.lt g hg).2⟩⟩,h.ring,⟨h.rb,Ab h.ring⟩,rfl,fun i R hi=>?_,fun b hb=>?_⟩
 ·have q:=h.row;have e:(Cv.new W H L).bufs.flatMap (DN W H)=L.flatMap fun g=>DN W H (Gj g):=by simp[Cv.new,List.flatMap_map]
  have e2:(Cv.new W H L).bufs.length=k:=by simp[Cv.new,h.len]
  show World.ownsRow wr 0 _ 4 bv (Cv.new W H L).bufs.length ((Cv.new W H L).bufs.flatMap (DN W H));rw[e,e2];exact⟨q.1,q.2.imp id fun⟨g,cap,cur,a1,a2,a3⟩=>⟨g,cap,cur,a1,cB _,a3⟩⟩
 ·have hi4:i<4:=(bL.1 hi).1;have hR:R=[]:=by
   have:=cH hi;simpa[Cv.new]using this
  subst hR;exact⟨jj,by match i,hi4 with|0,_|1,_|2,_|3,_=>rfl,D4.nil _ _⟩
 ·simp[Cv.new]at hb;obtain⟨g,hg,rfl⟩:=hb;exact⟨⟨by have:=(h.pix g hg).1;have:=h.cb;show w.heap.size<=g;omega,(h.pix g hg).2.has.lt⟩,(h.pix g hg).2⟩
theorem TG(W H N:Nat)(w:World)(hW:1<=W/\W<=24)(hH:1<=H/\H<=24)(hN:1<=N/\N<=3):
  Calls prog 54 #[vj W,vj H,vj N] w fun e w'=>∃c rg bv L,e=.returned (pj c)/\Ki w w' c rg W H N bv L:=by
 obtain⟨i0,hi0,hz0,hz1,hz2⟩:=cW Ry;obtain⟨hW0,hW1⟩:=hW;obtain⟨hH0,hH1⟩:=hH;obtain⟨hn0,hn1⟩:=hN;obtain⟨K,hK⟩:∃K:Nat,W*H=K:=⟨_,rfl⟩;have hK2:K<=576:=by rw[<-hK];exact bh (cI hW1 hH1) (by omega)
 have hKi:(W:Int)*(H:Int)=(K:Int):=by rw[<-hK];simp
 have HG:=Aa (J4 W H K hKi hK2);have HR:=Aa (PL w);have HKe:=Aa hK;clear hKi hK;go_enter func54,ntmps54
 go_wp2_with(go_at_call 97;refine HR.out.mono ?_;rintro e w1 ⟨rg,rfl,r1,r2,r3⟩;have H1:=Aa (aK r1 (aK r2 r3));clear r1 r2 r3)
 have H0:Hid (Ki w (w1.alloc (.cells #[vj 0,vj 0,vj W,vj H,jj,sj rg 4 4,vj 0] 145)) w1.heap.size rg W H 0 (jj) []):=by
  obtain⟨r1,r2,r3⟩:=H1.out;exact⟨r3.alloc r3.size _,r3.size,r1,aR w1 _,bA _ _ _ _,r2.alloc _,rfl,fun g hg=>(by cases hg),fun i j a hi=>(by simp at hi)⟩
 clear H1 HR
 go_loopg [15] N (fun gg s15 wr=>∃(k:Nat) (bv:Value) (L:List Nat),s15=vj (k:Int)/\gg+k=N/\Hid (Ki w wr w1.heap.size rg W H k bv L))
 case atStart=>exact⟨0,jj,[],rfl,by omega,H0.out⟩
 case round=>
  rename World=>wr;obtain⟨k,bv,L,rfl,hgk,HM⟩:=hrel;cases gk with
  |zero=>
   have hlt:¬(k:Int)<(N:Int):=by omega
   have hkN:k=N:=by omega
   subst hkN
   go_wp2_with fail
   go_ret;exact⟨_,rfl,rg,bv,L,HM.out⟩
  |succ gk=>
   have hlt:(k:Int)<(N:Int):=by omega
   obtain⟨ba,bc,hbf⟩:=Al HM.out.row;subst hbf;have c1:wr.cell? (jA w1.heap.size 4)=some (.slice ba k bc):=HM.out.blk.cell 4;have hxl:w1.heap.size<wr.heap.size:=HM.out.blk.has.lt;have HX:Hid (∀wx:World,uj wr wx->wx.cell? (jA w1.heap.size 4)=some (.slice ba k bc)/\wx.ownsRow (w1.heap.size+1) 148 4 (.slice ba k bc) k (L.flatMap fun g=>DN W H (Gj g))/\w1.heap.size+1<=wx.heap.size):=fun wx hx=>⟨(hx.cell (p:=(jA w1.heap.size 4)) hxl).trans c1,Ai HM.out.row fun b hb=>hx.block b (HM.out.row.lt b hb).2,by have:=hx.size;omega⟩;have HY:Hid (∀(w5 w6:World) (gg cp g:Nat),uj wr w5->w5.grownBy w6 (Value.slice ba k bc).ownBlock->Bj w5 g K (fun _=>(0,0,0,0))->wr.heap.size<=g->w6.ownsRow (w1.heap.size+1) 148 4 (sj gg (k+1) cp) (k+1) ((L.flatMap fun g=>DN W H (Gj g))++[vj W,vj H,sj g K K,vj 0])->w6.cell? (jA w1.heap.size 4)=some (.slice ba k bc)/\w6.frozen? (jA w1.heap.size 4)=false/\Hid (Ki w (w6.setCell (jA w1.heap.size 4) (sj gg (k+1) cp)) w1.heap.size rg W H (k+1) (sj gg (k+1) cp) (L++[g]))):=fun w5 w6 gg cp g h5 hg hp hgn ho=>by
    have hb:w6.heap[w1.heap.size]?=wr.heap[w1.heap.size]? :=by
     rw[hg.block _ (aQ hxl h5.size) (fun e=>by have:=(HM.out.row.lt _ e.symm).1;omega),h5.block _ hxl]
    refine⟨?_,?_,HM.out.step h5 hg (by rw[HKe.out];exact hp) hgn ?_⟩
    ·rw[aV (w:=wr) (a:=(jA w1.heap.size 4)) hb];exact c1
    ·rw[World.frozen?_of_block (w:=wr) (a:=(jA w1.heap.size 4)) hb];exact HM.out.blk.has.free 4
    ·have e:DN W H (Gj g)=[vj W,vj H,sj g K K,vj 0]:=by
      unfold DN Gj;rw[HKe.out];rfl
     rw[e];exact ho
   have hk2:k<=3:=by omega
   go_upto_region 4 with fail
   go_region_law (first
     |(refine step_append_lies _ (by rfl) (.tmp 21) (.tmp 26) 140 (by rfl) (w1.heap.size+1) 148 i0 _ 4 48 underlying140 hi0 hz0 hz1 hz2 rfl (by omega) (.slice ba k bc) k (L.flatMap fun g=>DN W H (Gj g)) (by rfl) (HX.out _ (HB1.out.alloc HB1.out.size _)).2.1 (jA w2.heap.size 0) 1 1 [vj W,vj H,sj g K K,vj 0] (by rfl) (by rfl) (bI (cs:=#[vj W,vj H,sj g K K,vj 0]) (t:=148) (fr:=(0,0)) (aR w2 _)) (by simp[Value.oneCell']) (by omega) (by unfold maxLen;omega) (by omega) (HX.out _ (HB1.out.alloc HB1.out.size _)).2.2 _ rfl ?_;intro ga cp w6 hown6 hgrow _ _;obtain⟨c6,f6,HN6⟩:=HY.out _ w6 ga cp g (HB1.out.alloc HB1.out.size _) hgrow (HP1.out.1.keep (Ad w2 _ g HP1.out.1.has.lt)) HP1.out.2 hown6;clear hown6 hgrow)
     |(go_simp;go_wp2_with(go_at_call 98;refine(HG.out _).mono ?_;rintro e w2 ⟨g,rfl,hg,hge,hb⟩;have HB1:=Aa (((aN wr.heap.size wr).drew).trans hb);have HP1:=Aa (aK hg hge);have cx:=(HX.out w2 HB1.out).1;have hxl1:=aQ hxl HB1.out.size;have hxn1:=Nat.ne_of_lt hxl1;clear hg hge hb)))
   all_goals
    go_wp2_with fail
    go_roundg gk
    case measure=>omega
    case rel=>exact⟨k+1,_,_,by go_num,by omega,HN6⟩
theorem N5(g:Nat)(a b:Int)(pa:Option Addr)(pm pk:Nat)(F:Nat->Value)(w:World)(h:B4 w g F):
  Calls prog 60 #[pj g,.agg #[vj a,vj b,.slice pa pm pk]] w fun e w'=>e=.returned (.tuple #[])/\
   w'=(((w.setCell (jA g 14) (vj a)).setCell (jA g 15) (vj b)).setCell (jA g 16) (.slice pa pm pk)).alloc (.cells #[vj a,vj b,.slice pa pm pk] 122):=by
 obtain⟨cur,h1,h2,h3⟩:=h;have hlt:g<w.heap.size:=(aM.1 h1).1;have hc:∀j,j<31->w.cell? (jA g j)=some (F j):=fun j hj=>by
  rw[aP _ _ _ _ _ _ h1];exact h3 j hj
 have hf:∀j,w.frozen? (jA g j)=false:=fun j=>by simp[World.frozen?,h1]
 have c13:=hc 14 (by omega);have c14:=hc 15 (by omega);have c15:=hc 16 (by omega);have f13:=hf 14;have f14:=hf 15;have f15:=hf 16;have hgn:¬g=w.heap.size:=by omega
 clear hc hf h1 h2 h3;go_enter func60,ntmps60
 go_wp2_with fail
 exact cV (v:=.tuple #[]) (by simp[results,results60]) rfl ⟨rfl,rfl⟩
theorem N6{S:Nat->Prop}{x:Nat}{st:St}(hw:Wf st)(id a b:Int)(l:List R4)(v:Value)(w:World){bv:Value}(h:AX w S x st bv)(hv:Bb w v l)(hlen:l.length<=maxLen):
  Calls prog 28 #[pj x,vj id,vj a,vj b,v] w (Bl S x bv (BJ st id a b l.length (l.all Ef) fun k=>l.getD k (0,0,0,0)) w):=by
 have hB:=AV hw id;have HE:=Aa (fun(er:Int) (W:World) (hW:uj w W)=>Bl.same (er:=er) h hW);have HAM:=Aa (N0 l v w hv hlen);have HV:=Aa hv;obtain⟨va,vc,hvf,_⟩:=hv;obtain⟨sc,mp,blk,G,h⟩:=h;obtain⟨x0,x1,xl⟩:=h.scrCells;unfold BJ;obtain⟨t,ht⟩:∃t,st.isB id=t:=⟨_,rfl⟩;rw[ht]at hB ⊢;have hlen2:=hlen;unfold maxLen at hlen2;cases t with
 |false=>
  rw[if_neg (by simp)];have HS:=Aa (Cc h id (Gg hw ht));clear hB h hvf;go_enter func28,ntmps28
  go_wp2_with(go_at_call 58;refine HS.out.mono ?_;rintro e w' ⟨rfl,hw'⟩;replace hw':=hw'.symm;subst hw')
  go_ret;exact HE.out 6 _ (aN _ _)
 |true=>
  rw[if_pos rfl];obtain⟨i,rfl,hio⟩:=hB.1 rfl;have hil:=hw.lt hio;rw[aX];have HS:=Aa (Cd h i hio);have kl:=(h.at (Af hio)).2.2;by_cases hab:0<=a/\a<=24/\0<=b/\b<=24
  ·rw[if_pos hab];obtain⟨n,hn⟩:∃n,l.length=n:=⟨_,rfl⟩;have hb0:0<=a*b:=Int.mul_nonneg hab.1 hab.2.2.1;have hb1:a*b<=576:=by
    have h1:a*b<=24*b:=Int.mul_le_mul_of_nonneg_right hab.2.1 hab.2.2.1;omega
   obtain⟨ok,hok⟩:∃ok,l.all Ef=ok:=⟨_,rfl⟩;obtain⟨f,hf⟩:∃f:Nat->R4,(fun k=>l.getD k (0,0,0,0))=f:=⟨_,rfl⟩;have HOk:Hid (∀W:World,uj w W->∀g:Nat,w.heap.size<=g->Bj W g n f->(n:Int)=a*b->Bl S x bv (0,upd st i (IF a b f)) w (.returned (vj 0)) ((((W.setCell (jA (blk i) 14) (vj a)).setCell (jA (blk i) 15) (vj b)).setCell (jA (blk i) 16) (sj g n n)).alloc (.cells #[vj a,vj b,sj g n n] 122))):=fun W hW g hgw hpf hnab=>by
    have h:=(h.below hW).mono (S':=AA S w W) fun _ hg=>.inl hg;have hs:B4 W (blk i) (G i):=h.srf i (Af hio);have q:=(h.cells i (Af hio)).nat;have q2:=q.next;have d:=h.data i hio;have ho:S (blk i):=by
     rcases h.own.2.2.2 i (Af hio)with ho|ho
     ·exact ho
     ·have:=kl;omega
    have hnn:n=((IF a b f) (st.sf i)).next.n:=by
     show n=(a*b).toNat;omega
    have hgl:g<W.heap.size:=hpf.has.lt;have hr:=h.upd (w':=((W.setCell (jA (blk i) 14) (vj a)).setCell (jA (blk i) 15) (vj b)).setCell (jA (blk i) 16) (sj g n n)) (gf:=IF a b f) hio hil (fun _=>rfl) (fun g hg hne=>by rw[setOther 16 _ g (by simpa using hg) hne,setOther 15 _ g (by simpa using hg) hne,setOther 14 _ g hg hne]) (((hs.set 14 _).set 15 _).set 16 _) rfl (Dk.upd hil ⟨q.num,q.par,⟨q.now.w,q.now.h,q.now.pix,q.now.x,q.now.y,q.now.c0,q.now.c1,q.now.c2,q.now.c3,q.now.cut,q.now.hint⟩,⟨rfl,rfl,⟨_,_,_,rfl⟩,q2.x,q2.y,q2.c0,q2.c1,q2.c2,q2.c3,q2.cut,q2.hint⟩,q.stk,q.kep⟩) ⟨d.pix,d.hint,⟨some (jA g 0),by rw[<-hnn];rfl,fun _=>⟨g,rfl,.inr ⟨hgw,hgl⟩,by rw[<-hnn];exact hpf⟩⟩,d.nhint,d.kw,d.kh,d.kept⟩;refine⟨rfl,⟨sc,mp,blk,_,(hr.below (al1 (aO _) _)).mono fun g hg=>?_⟩,((((Ac.below hW).set (.inl ho) _).set (.inl ho) _).set (.inl ho) _).alloc _⟩;rcases hg with hg|⟨hg1,hg2⟩
    ·exact .inl hg
    ·exact .inr ⟨hg1,by simp;omega⟩
   have HAt:Hid (∀W:World,uj w W->∀g:Nat,w.heap.size<=g->Bj W g n f->(n:Int)=a*b->Calls prog 60 #[pj (blk i),.agg #[vj a,vj b,sj g n n]] W fun e w'=>e=.returned (.tuple #[])/\Bl S x bv (0,upd st i (IF a b f)) w (.returned (vj 0)) w'):=fun W hW g hgw hpf hnab=>(N5 (blk i) a b (some (jA g 0)) n n (G i) W ((h.below hW).srf i (Af hio))).mono fun e w' ⟨h1,h2⟩=>⟨h1,by rw[h2];exact HOk.out W hW g hgw hpf hnab⟩;have HOf:Hid ((n:Int)=a*b->∀W:World,uj w W->Calls prog 61 #[vj a,vj b,v] W fun e w'=>∃g:Nat,e=.returned (.agg #[vj a,vj b,sj g n n])/\uj w w'/\w.heap.size<=g/\Bj w' g n f/\(n:Int)=a*b):=fun he W hW=>(K4 a b n he.symm (by omega) v l hn W (HV.out.below hW)).mono fun e w' ⟨g,h1,h2,h3,h4⟩=>⟨g,h1,hW.trans (h4.mono hW.size),bh hW.size h3,by rw[<-hf];exact h2,he⟩;rw[hok]at HAM ⊢;rw[hf];rw[hn]at hvf hlen2 ⊢;obtain⟨g,hg⟩:∃g,blk i=g:=⟨_,rfl⟩;rw[hg]at HS HAt;clear HOk h hB hg HV hok hn hf kl;obtain⟨ha1,ha2,hb1',hb2'⟩:=hab;obtain⟨P,hP⟩:∃P,a*b=P:=⟨_,rfl⟩;rw[hP]at hb0 hb1 HOf HAt ⊢;by_cases hnp:(n:Int)=P
   ·have HOf2:=Aa (HOf.out hnp);have hnp2:((n:Int)==P)=true:=by simpa using hnp
    have hnp3:((n:Int) != P)=false:=by simpa using hnp
    clear HOf;subst hvf;cases ok with
    |true=>
     rw[if_pos ⟨hnp,rfl⟩];go_enter func28,ntmps28
     go_wp2_with(first
      |(go_at_call 58;refine HS.out.mono ?_;rintro e w' ⟨rfl,hw'⟩;replace hw':=hw'.symm;subst hw')
      |(go_at_call 59;refine HAM.out.mono ?_;rintro e w1 ⟨rfl,hb⟩;have HB:=Aa hb;clear hb)
      |(go_at_call 61;refine(HOf2.out _ HB.out).mono ?_;rintro e w2 ⟨gg,rfl,hb⟩;have HB2:=Aa hb;clear hb)
      |(go_at_call 60;refine(HAt.out _ HB2.out.1 _ HB2.out.2.1 HB2.out.2.2.1 HB2.out.2.2.2).mono ?_;rintro e w3 ⟨rfl,hb⟩;have HB3:=Aa hb;clear hb)
      |go_in)
     go_ret;exact HB3.out
    |false=>
     rw[if_neg (fun h=>by cases h.2)];go_enter func28,ntmps28
     go_wp2_with(first
      |(go_at_call 58;refine HS.out.mono ?_;rintro e w' ⟨rfl,hw'⟩;replace hw':=hw'.symm;subst hw')
      |(go_at_call 59;refine HAM.out.mono ?_;rintro e w1 ⟨rfl,hb⟩;have HB:=Aa hb;clear hb)
      |go_in)
     go_ret;exact HE.out 4 _ HB.out
   ·rw[if_neg (fun h=>hnp h.1)];have hnp3:((n:Int) != P)=true:=by simpa using hnp
    clear HOf HAt HAM;subst hvf;go_enter func28,ntmps28
    go_wp2_with(first
     |(go_at_call 58;refine HS.out.mono ?_;rintro e w' ⟨rfl,hw'⟩;replace hw':=hw'.symm;subst hw')
     |go_in)
    go_ret;exact HE.out 4 _ (aN _ _)
  ·rw[if_neg hab];have hcases:a<0\/(0<=a/\24<a)\/(0<=a/\a<=24/\b<0)\/(0<=a/\a<=24/\0<=b/\24<b):=by omega
   clear hab h hB hvf HAM HV kl;rcases hcases with h1|⟨h1,h2⟩|⟨h1,h2,h3⟩|⟨h1,h2,h3,h4⟩;all_goals
    try have hd:decide (b<=24)=false:=cE (by omega)
    go_enter func28,ntmps28
    go_wp2_with(first
     |(go_at_call 58;refine HS.out.mono ?_;rintro e w' ⟨rfl,hw'⟩;replace hw':=hw'.symm;subst hw')
     |go_in)
    try go_ret
    exact HE.out 5 _ (aN _ _)
end Go.Proofs.YtofinpocigbbeaaGreat
