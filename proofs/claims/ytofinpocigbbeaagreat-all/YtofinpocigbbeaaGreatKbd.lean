import Derived.Test.YtofinpocigbbeaaGreatKap
import Derived.Test.YtofinpocigbbeaaGreatKaq
import Derived.Laws.StructEq
set_option maxHeartbeats 4000000
set_option maxRecDepth 100000
set_option linter.unusedSimpArgs false
namespace Go.Proofs.YtofinpocigbbeaaGreat
open Go.Proofs.Tryz Go.RowKit
section
attribute [local go_sem ↓] Go.wp_at_zero Go.wp_at_succ
def St.pos(st:St)(i:Nat):Nat:=(st.kids (st.sf i).parent).idxOf i
theorem Vh{L:List Nat}(hn:L.Nodup){k i:Nat}(h:L[k]?=some i):L.idxOf i=k:=by
 induction L generalizing k with
 |nil=>simp at h
 |cons a L ih=>
  rw[List.nodup_cons]at hn;cases k with
  |zero=>
   simp at h;subst h;simp
  |succ k=>
   have h2:L[k]?=some i:=by simpa using h
   have hne:a≠i:=fun e=>hn.1 (e▸cH h2);rw[List.idxOf_cons,show(a==i)=false by simpa using hne,ih hn.2 h2];rfl
def olC(l:Dm)(k:Int):Array Value:=#[vj l.w,vj l.h,vj l.x,vj l.y,vj l.clip.1,vj l.clip.2.1,vj l.clip.2.2.1,vj l.clip.2.2.2,.bool l.cut,vj k]
theorem Rs(ad:Addr)(a0 a1 a2 a3 a4 a5 a6 a7:Int)(b:Bool)(a9:Int):storeCells ad [vj a0,vj a1,vj a2,vj a3,vj a4,vj a5,vj a6,vj a7,.bool b,vj a9] 0=St9 ad [vj a0,vj a1,vj a2,vj a3,vj a4,vj a5,vj a6,vj a7,.bool b,vj a9]:=rfl
theorem NO{w:World}{g:Nat}(h:Ax w g 181 10)(a0 a1 a2 a3 a4 a5 a6 a7:Int)(b:Bool)(a9:Int):
  (St9 (jA g 0) [vj a0,vj a1,vj a2,vj a3,vj a4,vj a5,vj a6,vj a7,.bool b,vj a9]).run prog w=.ok () (w.setRow g #[vj a0,vj a1,vj a2,vj a3,vj a4,vj a5,vj a6,vj a7,.bool b,vj a9]):=
 h.row _ rfl (by simp[Value.oneCell'])
attribute [local go_sem high] Rs NO
theorem Gh{W w1:World}(hb:uj W w1)(hr:Ax w1 W.heap.size 181 10)(cs:Array Value):Blk (w1.setRow W.heap.size cs) W.heap.size 181 cs/\uj W (w1.setRow W.heap.size cs):=by
 obtain⟨cur,h1,h2⟩:=hr;exact⟨setRow_heap w1 _ _ _ _ _ h1,Below.setRow hb (aO _) _⟩
set_option linter.unusedSimpArgs false in
theorem J2{w:World}{S:Nat->Prop}{x:Nat}{st:St}(hw:Wf st){bv:Value}{sc mp:Nat}{blk:Int->Nat}{G:Int->Nat->Value}(h:AR w S x st bv sc mp blk G)(i:Nat)(hi:i∈st.order)(W:World)(hW:uj w W):
  Calls prog 105 #[pj (blk i)] W fun e w'=>e=.returned (.agg (olC (st.sf i).now (st.pos i)))/\uj W w':=by
 obtain⟨p,hpe⟩:∃p,(st.sf i).parent=p:=⟨_,rfl⟩;have hp:BN st p:=by rw[<-hpe];exact CR hw hi
 have hik:i∈st.kids p:=AN.2 ⟨hi,hpe⟩;obtain⟨kc,kf,kl⟩:=h.at (Af hi);obtain⟨pc,pf,pl⟩:=h.at hp;have q:=(h.cells i (Af hi)).nat;obtain⟨pa,pm,pk,hpix⟩:=q.now.pix;obtain⟨ha,hm,hk,hhint⟩:=q.now.hint;have hpix2:G i 5=.slice pa pm pk:=hpix;have hhint2:G i 13=.slice ha hm hk:=hhint;obtain⟨N,hN⟩:∃N,(st.sf i).now=N:=⟨_,rfl⟩;have qn:=q.now;rw[hN]at qn ⊢;have hgl:blk i<W.heap.size:=aQ kl hW.size;have HC:Hid (∀(V:World),uj W V->blk i<V.heap.size/\V.cell? (jA (blk i) 0)=some (vj (i:Int))/\V.cell? (jA (blk i) 1)=some (pj (blk p))/\V.cell? (jA (blk i) 3)=some (vj N.w)/\V.cell? (jA (blk i) 4)=some (vj N.h)/\V.cell? (jA (blk i) 5)=some (.slice pa pm pk)/\V.cell? (jA (blk i) 6)=some (vj N.x)/\V.cell? (jA (blk i) 7)=some (vj N.y)/\V.cell? (jA (blk i) 8)=some (vj N.clip.1)/\V.cell? (jA (blk i) 9)=some (vj N.clip.2.1)/\V.cell? (jA (blk i) 10)=some (vj N.clip.2.2.1)/\V.cell? (jA (blk i) 11)=some (vj N.clip.2.2.2)/\V.cell? (jA (blk i) 12)=some (.bool N.cut)/\V.cell? (jA (blk i) 13)=some (.slice ha hm hk)):=fun V hV=>by
  have hb:=hW.trans (hV.mono hW.size);have hc:∀o,o<31->V.cell? (jA (blk i) o)=some (G i o):=fun o ho=>(hb.cell (p:=(jA (blk i) o)) kl).trans (kc o ho);refine⟨aQ hgl hV.size,by rw[hc 0 (by omega),q.num],?_,by rw[hc 3 (by omega),show G i 3=_ from qn.w],by rw[hc 4 (by omega),show G i 4=_ from qn.h],by rw[hc 5 (by omega),hpix2],by rw[hc 6 (by omega),show G i 6=_ from qn.x],by rw[hc 7 (by omega),show G i 7=_ from qn.y],by rw[hc 8 (by omega),show G i 8=_ from qn.c0],by rw[hc 9 (by omega),show G i 9=_ from qn.c1],by rw[hc 10 (by omega),show G i 10=_ from qn.c2],by rw[hc 11 (by omega),show G i 11=_ from qn.c3],by rw[hc 12 (by omega),show G i 12=_ from qn.cut],by rw[hc 13 (by omega),hhint2]⟩;rw[hc 1 (by omega),q.par,hpe];rfl
 have HFd:Hid (∀V:World,uj W V->Calls prog 111 #[pj (blk p),vj (i:Int)] V fun e w'=>e=.returned (vj (st.pos i:Int))/\uj V w'):=fun V hV=>by
  have hb:=hW.trans (hV.mono hW.size);refine(Ge (st.kids p) (fun(j:Nat)=>blk j) (i:Int) (G p 2) (blk p) V ?_ (aQ pl hb.size) ((h.ptrs hp).below hb) (by have:=Ex hw p;omega)).mono ?_
  ·rw[hb.cell (p:=(jA (blk p) 2)) pl,pc 2 (by omega)]
  ·rintro e w' ⟨r,rfl,hr,hb2⟩;obtain⟨k,rfl,hk⟩:=NN hik hr;refine⟨?_,hb2⟩;unfold St.pos;rw[hpe,Vh (L:=st.kids p) (hw.nd.filter _) hk]
 unfold olC;obtain⟨K,hK⟩:∃K,st.pos i=K:=⟨_,rfl⟩;obtain⟨gb,hgb⟩:∃gb,blk i=gb:=⟨_,rfl⟩;obtain⟨pb,hpb⟩:∃pb,blk p=pb:=⟨_,rfl⟩;rw[hK]at HFd ⊢;rw[hgb,hpb]at HC;rw[hpb]at HFd;rw[hgb]at hgl ⊢;clear h kc kf kl pc pf pl q qn hpix hpix2 hhint hhint2 hN hK hgb hpb hw hik hp;go_enter func105,ntmps105
 have hZ:uj W (W.alloc (.cells #[vj 0,vj 0,vj 0,vj 0,vj 0,vj 0,vj 0,vj 0,.bool false,vj 0] 181)):=al1 (aO _) _;obtain⟨x0,x1,x2,x3,x4,x5,x6,x7,x8,x9,x10,x11,x12,x13⟩:=HC.out _ hZ;have hgn:¬gb=W.heap.size:=by omega
 have hgn2:¬gb=W.heap.size+1:=by omega
 go_upto_region 2 with fail
 have HZ:Hid (uj W ((W.alloc (.cells #[vj 0,vj 0,vj 0,vj 0,vj 0,vj 0,vj 0,vj 0,.bool false,vj 0] 181)).alloc (.cells #[vj N.w,vj N.h,.slice pa pm pk,vj N.x,vj N.y,vj N.clip.1,vj N.clip.2.1,vj N.clip.2.2.1,vj N.clip.2.2.2,.bool N.cut,.slice ha hm hk] 169))/\Ax ((W.alloc (.cells #[vj 0,vj 0,vj 0,vj 0,vj 0,vj 0,vj 0,vj 0,.bool false,vj 0] 181)).alloc (.cells #[vj N.w,vj N.h,.slice pa pm pk,vj N.x,vj N.y,vj N.clip.1,vj N.clip.2.1,vj N.clip.2.2.1,vj N.clip.2.2.2,.bool N.cut,.slice ha hm hk] 169)) W.heap.size 181 10/\Blk ((W.alloc (.cells #[vj 0,vj 0,vj 0,vj 0,vj 0,vj 0,vj 0,vj 0,.bool false,vj 0] 181)).alloc (.cells #[vj N.w,vj N.h,.slice pa pm pk,vj N.x,vj N.y,vj N.clip.1,vj N.clip.2.1,vj N.clip.2.2.1,vj N.clip.2.2.2,.bool N.cut,.slice ha hm hk] 169)) (W.heap.size+1) 169 #[vj N.w,vj N.h,.slice pa pm pk,vj N.x,vj N.y,vj N.clip.1,vj N.clip.2.1,vj N.clip.2.2.1,vj N.clip.2.2.2,.bool N.cut,.slice ha hm hk]):=by
  refine⟨al2 (aO _) _ _,(Ax.new W _ _).alloc _,?_⟩;have:=aR (W.alloc (.cells #[vj 0,vj 0,vj 0,vj 0,vj 0,vj 0,vj 0,vj 0,.bool false,vj 0] 181)) (.cells #[vj N.w,vj N.h,.slice pa pm pk,vj N.x,vj N.y,vj N.clip.1,vj N.clip.2.1,vj N.clip.2.2.1,vj N.clip.2.2.2,.bool N.cut,.slice ha hm hk] 169);simpa[Blk]using this
 clear x0 x1 x2 x3 x4 x5 x6 x7 x8 x9 x10 x11 x12 x13 hZ;generalize (W.alloc (.cells #[vj 0,vj 0,vj 0,vj 0,vj 0,vj 0,vj 0,vj 0,.bool false,vj 0] 181)).alloc (.cells #[vj N.w,vj N.h,.slice pa pm pk,vj N.x,vj N.y,vj N.clip.1,vj N.clip.2.1,vj N.clip.2.2.1,vj N.clip.2.2.2,.bool N.cut,.slice ha hm hk] 169)=V0 at*;have hlb:W.heap.size+1<V0.heap.size:=Ab HZ.out.2.2;have HFW:Hid (∀V:World,uj V0 V->uj W V/\Ax V W.heap.size 181 10):=fun V hV=>⟨HZ.out.1.trans (hV.mono HZ.out.1.size),HZ.out.2.1.keep (hV.block _ HZ.out.2.1.lt)⟩;have FG:Hid (∀V:World,uj V0 V->V.cell? (jA gb 0)=some (vj (i:Int))/\V.cell? (jA gb 1)=some (pj pb)/\V.cell? (jA (W.heap.size+1) 0)=some (vj N.w)/\V.cell? (jA (W.heap.size+1) 1)=some (vj N.h)/\V.cell? (jA (W.heap.size+1) 2)=some (.slice pa pm pk)/\V.cell? (jA (W.heap.size+1) 3)=some (vj N.x)/\V.cell? (jA (W.heap.size+1) 4)=some (vj N.y)/\V.cell? (jA (W.heap.size+1) 5)=some (vj N.clip.1)/\V.cell? (jA (W.heap.size+1) 6)=some (vj N.clip.2.1)/\V.cell? (jA (W.heap.size+1) 7)=some (vj N.clip.2.2.1)/\V.cell? (jA (W.heap.size+1) 8)=some (vj N.clip.2.2.2)/\V.cell? (jA (W.heap.size+1) 9)=some (.bool N.cut)):=fun V hV=>by
  have q:Blk V (W.heap.size+1) 169 _:=HZ.out.2.2.keep (hV.block _ hlb);obtain⟨_,y0,y1,_⟩:=HC.out V (HFW.out V hV).1;exact⟨y0,y1,q.cell 0,q.cell 1,q.cell 2,q.cell 3,q.cell 4,q.cell 5,q.cell 6,q.cell 7,q.cell 8,q.cell 9⟩
 have FG2:Hid (∀V:World,uj V0 V->∀cs:Array Value,(V.setRow W.heap.size cs).cell? (jA gb 0)=some (vj (i:Int))/\(V.setRow W.heap.size cs).cell? (jA gb 1)=some (pj pb)/\(V.setRow W.heap.size cs).cell? (jA (W.heap.size+1) 0)=some (vj N.w)/\(V.setRow W.heap.size cs).cell? (jA (W.heap.size+1) 1)=some (vj N.h)/\(V.setRow W.heap.size cs).cell? (jA (W.heap.size+1) 2)=some (.slice pa pm pk)/\(V.setRow W.heap.size cs).cell? (jA (W.heap.size+1) 3)=some (vj N.x)/\(V.setRow W.heap.size cs).cell? (jA (W.heap.size+1) 4)=some (vj N.y)/\(V.setRow W.heap.size cs).cell? (jA (W.heap.size+1) 5)=some (vj N.clip.1)/\(V.setRow W.heap.size cs).cell? (jA (W.heap.size+1) 6)=some (vj N.clip.2.1)/\(V.setRow W.heap.size cs).cell? (jA (W.heap.size+1) 7)=some (vj N.clip.2.2.1)/\(V.setRow W.heap.size cs).cell? (jA (W.heap.size+1) 8)=some (vj N.clip.2.2.2)/\(V.setRow W.heap.size cs).cell? (jA (W.heap.size+1) 9)=some (.bool N.cut)):=fun V hV cs=>by
  obtain⟨y0,y1,l0,l1,l2,l3,l4,l5,l6,l7,l8,l9⟩:=FG.out V hV;have e1:∀j,(V.setRow W.heap.size cs).cell? (jA gb j)=V.cell? (jA gb j):=fun j=>cell_setRow_other _ _ _ _ (by show gb≠W.heap.size;omega);have e2:∀j,(V.setRow W.heap.size cs).cell? (jA (W.heap.size+1) j)=V.cell? (jA (W.heap.size+1) j):=fun j=>cell_setRow_other _ _ _ _ (by show W.heap.size+1≠W.heap.size;omega);exact⟨(e1 0).trans y0,(e1 1).trans y1,(e2 0).trans l0,(e2 1).trans l1,(e2 2).trans l2,(e2 3).trans l3,(e2 4).trans l4,(e2 5).trans l5,(e2 6).trans l6,(e2 7).trans l7,(e2 8).trans l8,(e2 9).trans l9⟩
 have HW2:Hid (∀V:World,uj V0 V->Calls prog 157 #[.agg #[vj N.w,vj N.h,.slice pa pm pk]] V fun e w'=>e=.returned (vj N.w)/\uj V0 w'):=fun V hV=>(Jq _ _ _ V).mono fun e w' ⟨h1,h2⟩=>⟨h1,by rw[h2];exact hV.alloc hV.size _⟩;have HH2:Hid (∀V:World,uj V0 V->Calls prog 158 #[.agg #[vj N.w,vj N.h,.slice pa pm pk]] V fun e w'=>e=.returned (vj N.h)/\uj V0 w'):=fun V hV=>(Ib _ _ _ V).mono fun e w' ⟨h1,h2⟩=>⟨h1,by rw[h2];exact hV.alloc hV.size _⟩;have HF2:Hid (∀V:World,uj V0 V->Calls prog 111 #[pj pb,vj (i:Int)] V fun e w'=>e=.returned (vj (K:Int))/\uj V0 w'):=fun V hV=>(HFd.out V (HFW.out V hV).1).mono fun e w' ⟨h1,h2⟩=>⟨h1,hV.trans (h2.mono hV.size)⟩;obtain⟨y0,y1,l0,l1,l2,l3,l4,l5,l6,l7,l8,l9⟩:=FG.out V0 (aN _ _);have hgl0:gb<V0.heap.size:=(HC.out V0 HZ.out.1).1;clear HC HFd hgn hgn2
 go_cut [] (fun wx=>Hid (Blk wx W.heap.size 181 #[vj N.w,vj N.h,vj N.x,vj N.y,vj N.clip.1,vj N.clip.2.1,vj N.clip.2.2.1,vj N.clip.2.2.2,.bool N.cut,vj (K:Int)]/\uj W wx))
 case first=>
  go_region_held3 (fun w'=>w'.cell? (jA gb 0)=some (vj (i:Int))/\w'.cell? (jA gb 1)=some (pj pb)/\w'.cell? (jA (W.heap.size+1) 0)=some (vj N.w)/\w'.cell? (jA (W.heap.size+1) 1)=some (vj N.h)/\w'.cell? (jA (W.heap.size+1) 2)=some (.slice pa pm pk)/\w'.cell? (jA (W.heap.size+1) 3)=some (vj N.x)/\w'.cell? (jA (W.heap.size+1) 4)=some (vj N.y)/\w'.cell? (jA (W.heap.size+1) 5)=some (vj N.clip.1)/\w'.cell? (jA (W.heap.size+1) 6)=some (vj N.clip.2.1)/\w'.cell? (jA (W.heap.size+1) 7)=some (vj N.clip.2.2.1)/\w'.cell? (jA (W.heap.size+1) 8)=some (vj N.clip.2.2.2)/\w'.cell? (jA (W.heap.size+1) 9)=some (.bool N.cut))
   (first
    |with_reducible exact FG2.out _ HB1.out _
    |with_reducible exact FG2.out _ HB2.out _
    |with_reducible exact FG2.out _ HB3.out _
    |(refine FG.out _ ?_;(repeat(first|with_reducible exact aN _ _|with_reducible exact HB1.out|with_reducible exact HB2.out|with_reducible exact HB3.out|with_reducible refine bD ?_));done)
    |fail)
   (first
    |(go_at_call 111;refine(HF2.out _ ?_).mono ?_;(repeat(first|with_reducible exact aN _ _|with_reducible exact HB2.out|with_reducible exact HB3.out|with_reducible refine bD ?_));rintro e w1 ⟨rfl,hb⟩;have q1:=(HFW.out w1 hb).2;have HB1:=Aa hb;clear hb)
    |(go_at_call 157;refine(HW2.out _ ?_).mono ?_;(repeat(first|with_reducible exact aN _ _|with_reducible exact HB1.out|with_reducible exact HB3.out|with_reducible refine bD ?_));rintro e w2 ⟨rfl,hb⟩;have q2:=(HFW.out w2 hb).2;have HB2:=Aa hb;clear hb)
    |(go_at_call 158;refine(HH2.out _ ?_).mono ?_;(repeat(first|with_reducible exact aN _ _|with_reducible exact HB1.out|with_reducible exact HB2.out|with_reducible refine bD ?_));rintro e w3 ⟨rfl,hb⟩;have q3:=(HFW.out w3 hb).2;have HB3:=Aa hb;clear hb)
    |fail)
  all_goals go_wp2_with fail
  all_goals go_meet
  all_goals first
   |exact Gh (HFW.out _ HB1.out).1 q1 _
   |exact Gh (HFW.out _ HB2.out).1 q2 _
   |exact Gh (HFW.out _ HB3.out).1 q3 _
 case rest=>
  have HF:=hcut;clear hcut y0 y1 l0 l1 l2 l3 l4 l5 l6 l7 l8 l9 FG FG2 HFW HF2 HW2 HH2 HZ;have g0:=HF.out.1.cell 0;have g1:=HF.out.1.cell 1;have g2:=HF.out.1.cell 2;have g3:=HF.out.1.cell 3;have g4:=HF.out.1.cell 4;have g5:=HF.out.1.cell 5;have g6:=HF.out.1.cell 6;have g7:=HF.out.1.cell 7;have g8:=HF.out.1.cell 8;have g9:=HF.out.1.cell 9;simp only[br,bj,bt]at g0 g1 g2 g3 g4 g5 g6 g7 g8 g9
  go_wp2_with fail
  exact cU (v:=.agg #[vj N.w,vj N.h,vj N.x,vj N.y,vj N.clip.1,vj N.clip.2.1,vj N.clip.2.2.1,vj N.clip.2.2.2,.bool N.cut,vj (K:Int)]) (by simp[results,results105,go_sem,g0,g1,g2,g3,g4,g5,g6,g7,g8,g9]) rfl ⟨rfl,HF.out.2⟩
end
attribute [local go_sem ↓] Go.wp_at_zero Go.wp_at_succ
def NP(l:Dm)(k:Int)(l':Dm)(k':Int):Bool:=l.w==l'.w&&(l.h==l'.h&&(l.x==l'.x&&(l.y==l'.y&&((l.clip.1==l'.clip.1&&(l.clip.2.1==l'.clip.2.1&&(l.clip.2.2.1==l'.clip.2.2.1&&l.clip.2.2.2==l'.clip.2.2.2)))&&(l.cut==l'.cut&&k==k')))))
theorem WU(a0 a1 a2 a3 b0 b1 b2 b3:Int)(d:Nat)(w:World):(Op.equalIn (d+1+1) 53 (.agg #[vj a0,vj a1,vj a2,vj a3]) (.agg #[vj b0,vj b1,vj b2,vj b3])).run prog w=.ok (a0==b0&&(a1==b1&&(a2==b2&&a3==b3))) w:=by
 have u3:=underlying3;rw[run_equalIn_struct w (d+1) 53 _ _ (by kernel_rfl) (by kernel_rfl)]
 go_simp
 by_cases h1:a0=b0<;>by_cases h2:a1=b1<;>by_cases h3:a2=b2<;>by_cases h4:a3=b3<;>simp[h1,h2,h3,h4]
theorem Z7(l:Dm)(k:Int)(l':Dm)(k':Int)(w:World):(Op.equalIn 10000 181 (.agg (olC l k)) (.agg (olC l' k'))).run prog w=.ok (NP l k l' k') w:=by
 have u3:=underlying3;have u4:=underlying4;have hr:=WU l.clip.1 l.clip.2.1 l.clip.2.2.1 l.clip.2.2.2 l'.clip.1 l'.clip.2.1 l'.clip.2.2.1 l'.clip.2.2.2 9997;unfold olC NP;rw[show(10000:Nat)=9999+1 from rfl,run_equalIn_struct w 9999 181 _ _ (by kernel_rfl) (by kernel_rfl)]
 go_simp
 by_cases h1:l.w=l'.w
 rotate_left
 ·rw[if_neg h1];simp[h1]
 rw[if_pos h1];by_cases h2:l.h=l'.h
 rotate_left
 ·rw[if_neg h2];simp[h2]
 rw[if_pos h2];by_cases h3:l.x=l'.x
 rotate_left
 ·rw[if_neg h3];simp[h3]
 rw[if_pos h3];by_cases h4:l.y=l'.y
 rotate_left
 ·rw[if_neg h4];simp[h4]
 rw[if_pos h4];by_cases c1:l.clip.1=l'.clip.1
 rotate_left
 ·rw[if_pos (fun e=>absurd e c1)];simp[c1]
 by_cases c2:l.clip.2.1=l'.clip.2.1
 rotate_left
 ·rw[if_pos (fun _ e=>absurd e c2)];simp[c2]
 by_cases c3:l.clip.2.2.1=l'.clip.2.2.1
 rotate_left
 ·rw[if_pos (fun _ _ e=>absurd e c3)];simp[c3]
 by_cases c4:l.clip.2.2.2=l'.clip.2.2.2
 rotate_left
 ·rw[if_pos (fun _ _ _=>c4)];simp[c4]
 rw[if_neg (fun h=>h c1 c2 c3 c4)];by_cases h5:l.cut=l'.cut
 rotate_left
 ·rw[if_neg h5];simp[h5]
 rw[if_pos h5];by_cases h6:k=k'
 rotate_left
 ·rw[if_neg h6];simp[h6]
 rw[if_pos h6];simp[h1,h2,h3,h4,c1,c2,c3,c4,h5,h6]
end Go.Proofs.YtofinpocigbbeaaGreat
