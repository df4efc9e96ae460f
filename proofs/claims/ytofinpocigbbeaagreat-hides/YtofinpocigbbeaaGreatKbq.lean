import Derived.Test.YtofinpocigbbeaaGreatKbn
set_option maxHeartbeats 1000000
set_option maxRecDepth 100000
set_option linter.unusedSimpArgs false
namespace Go.Proofs.YtofinpocigbbeaaGreat
open Go.Proofs.Tryz Go.RowKit
attribute [local go_sem ↓] Go.wp_at_zero Go.wp_at_succ
variable{D P:Nat->Nat}{H W:Int}{K k p:Nat}{bv:Value}{w w5 w6 wr:World}{xs:List Value}
theorem Xg:(prog.info? 204).map (fun i=>(i.zero,i.size,i.bytes))=some (some (.agg #[.slice none 0 0,.int .i64 0,.slice none 0 0]),3,56):=by kernel_rfl
theorem Ka(w:World)(a b x:Obj):(((w.alloc a).alloc b).alloc x).heap[w.heap.size+1+1]?=some x:=by
 have h9:=aR ((w.alloc a).alloc b) x;simpa using h9
theorem Eh(w:World)(a b x:Obj):(((w.alloc a).alloc b).alloc x).heap[w.heap.size+1]?=some b:=by
 have h9:=aR (w.alloc a) b;rw[Ad _ x _ (by simp)];simpa using h9
theorem EO(w:World)(a b x:Obj):(((w.alloc a).alloc b).alloc x).heap[w.heap.size]?=some a:=by
 rw[Ad _ x _ (by simp;omega),Ad _ b _ (by simp)];exact aR w a
theorem Ub(h:w.heap[p]?=some (.cells (madeCells #[.int .u8 0,.int .u8 0,.int .u8 0,.int .u8 0] (K*4)) 51)):Bj w p K (fun _=>(0,0,0,0)):=by
 obtain⟨cur,h1,h2,h3⟩:=PK w K;have h9:=aR w (.cells (madeCells #[.int .u8 0,.int .u8 0,.int .u8 0,.int .u8 0] (K*4)) 51);rw[h9]at h1;exact⟨cur,h.trans h1,h2,h3⟩
theorem Ly(h:w.heap[p]?=some (.cells (madeCells #[.bool false] K) 4)):A2 w p K (fun _=>false):=by
 obtain⟨cur,h1,h2,h3⟩:=Jt w K;have h9:=aR w (.cells (madeCells #[.bool false] K) 4);rw[h9]at h1;exact⟨cur,h.trans h1,h2,h3⟩
theorem Of.cell(h:Of w wr W H K k bv xs P D)(h5:∀b,b<wr.heap.size->w5.heap[b]?=wr.heap[b]?)(hg:w5.grownBy w6 bv.ownBlock):
  Blk w6 w.heap.size 202 #[.int .i64 W,.int .i64 H,bv,.slice none 0 0,.slice none 0 0]:=by
 have hc:=h.scr.has.lt;have e5:=h5 _ hc;have hne:some w.heap.size≠bv.ownBlock:=fun e=>by have:=(h.row.lt _ e.symm).1;omega
 have e6:=hg.block w.heap.size (Ab (e5.trans h.scr)) hne;exact e6.trans (e5.trans h.scr)
theorem Of.step(h:Of w wr W H K k bv xs P D){d g cap:Nat}
  (hb5:Below w.heap.size w w5) (h5:∀b,b<wr.heap.size->w5.heap[b]?=wr.heap[b]?) (_hs5:wr.heap.size<=w5.heap.size) (hgrow:w5.grownBy w6 bv.ownBlock)
  (hp0:wr.heap.size<=p) (hp:Bj w5 p K (fun _=>(0,0,0,0))) (hd0:wr.heap.size<=d) (hd:A2 w5 d K (fun _=>false))
  (hown:w6.ownsRow (w.heap.size+1) 204 3 (.slice (some ⟨g,0,none⟩) (k+1) cap) (k+1) (xs++[.slice (some ⟨p,0,none⟩) K K,.int .i64 0,.slice (some ⟨d,0,none⟩) K K])):
  Of w (w6.setCell ⟨w.heap.size,2,none⟩ (.slice (some ⟨g,0,none⟩) (k+1) cap)) W H K (k+1) (.slice (some ⟨g,0,none⟩) (k+1) cap) (xs++[.slice (some ⟨p,0,none⟩) K K,.int .i64 0,.slice (some ⟨d,0,none⟩) K K]) (fun j=>if j=k then p else P j) (fun j=>if j=k then d else D j):=by
 have hB:=h.cell h5 hgrow;have hsz:=h.bel.size;have hlen:=h.row.1;have hcl:=h.scr.has.lt;have hown5:w5.ownsRow (w.heap.size+1) 204 3 bv k xs:=Ai h.row fun g hg=>h5 g (h.row.lt g hg).2;have hk:=BC (T:=204) hgrow fun g hg=>Ap hown5 hg;have hs6:w5.heap.size<=w6.heap.size:=hgrow.size;have hstay:∀(t:TypeId),t≠204->t≠202->∀(b:Nat) (cur:Array Value),w5.heap[b]?=some (.cells cur t (0,0))->(w6.setCell ⟨w.heap.size,2,none⟩ (.slice (some ⟨g,0,none⟩) (k+1) cap)).heap[b]?=w5.heap[b]? :=fun t ht1 ht2 b cur hb=>by
  have e6:=hk t ht1 b cur hb;rw[aL w6 ⟨w.heap.size,2,none⟩ b _ (Aj (e6.trans hb) hB ht2),e6]
 have hpx:∀q,Bj w5 q K (fun _=>(0,0,0,0))->Bj (w6.setCell ⟨w.heap.size,2,none⟩ (.slice (some ⟨g,0,none⟩) (k+1) cap)) q K (fun _=>(0,0,0,0)):=fun q hq=>hq.keep (by obtain⟨cur,h1,_⟩:=hq;exact hstay _ (by decide) (by decide) q cur h1);have hbo:∀q,A2 w5 q K (fun _=>false)->A2 (w6.setCell ⟨w.heap.size,2,none⟩ (.slice (some ⟨g,0,none⟩) (k+1) cap)) q K (fun _=>false):=fun q hq=>hq.keep (by obtain⟨cur,h1,_⟩:=hq;exact hstay _ (by decide) (by decide) q cur h1);have hpl:p<w5.heap.size:=by obtain⟨cur,h1,_⟩:=hp;exact Ab h1
 have hdl:d<w5.heap.size:=by obtain⟨cur,h1,_⟩:=hd;exact Ab h1
 have hz:(w6.setCell ⟨w.heap.size,2,none⟩ (.slice (some ⟨g,0,none⟩) (k+1) cap)).heap.size=w6.heap.size:=by simp
 refine⟨((hb5.grown hgrow (by omega) fun k hk=>by have:=(h.row.lt k hk).1;omega).setCell (aO _) _),hB.set 2 _,Ai hown fun b hb=>?_,fun j hj=>?_,fun j hj=>?_,fun j hj=>?_,fun i j hi hj hne=>?_⟩
 ·have h1:=(hown.lt b hb).1;exact aL w6 ⟨w.heap.size,2,none⟩ b _ (show b≠w.heap.size by omega)
 ·by_cases e:j=k
  ·subst e;rw[if_pos rfl,if_pos rfl];refine⟨?_,?_,?_⟩
   ·rw[bO (by omega),hlen,show j*3-j*3=0 by omega];rfl
   ·rw[bO (by omega),hlen,show j*3+1-j*3=1 by omega];rfl
   ·rw[bO (by omega),hlen,show j*3+2-j*3=2 by omega];rfl
  ·rw[if_neg e,if_neg e];obtain⟨a1,a2,a3⟩:=h.cel j (by omega);refine⟨?_,?_,?_⟩
   ·rw[cA (by omega)];exact a1
   ·rw[cA (by omega)];exact a2
   ·rw[cA (by omega)];exact a3
 ·by_cases e:j=k
  ·rw[if_pos e];exact⟨hpx p hp,by omega,by omega⟩
  ·rw[if_neg e];obtain⟨a1,a2,a3⟩:=h.pix j (by omega);exact⟨hpx _ (a1.keep (h5 _ a3)),a2,by omega⟩
 ·by_cases e:j=k
  ·rw[if_pos e];exact⟨hbo d hd,by omega,by omega⟩
  ·rw[if_neg e];obtain⟨a1,a2,a3⟩:=h.dir j (by omega);exact⟨hbo _ (a1.keep (h5 _ a3)),a2,by omega⟩
 ·by_cases e1:i=k
  ·by_cases e2:j=k
   ·omega
   ·rw[if_pos e1,if_neg e2,if_pos e1,if_neg e2];have h1:=(h.pix j (by omega)).2.2;have h2:=(h.dir j (by omega)).2.2;omega
  ·by_cases e2:j=k
   ·rw[if_neg e1,if_pos e2,if_neg e1,if_pos e2];have h1:=(h.pix i (by omega)).2.2;have h2:=(h.dir i (by omega)).2.2;omega
   ·rw[if_neg e1,if_neg e2,if_neg e1,if_neg e2];exact h.ap i j (by omega) (by omega) hne
theorem Uc(W H n:Int)(w:World)(hW:1<=W/\W<=24)(hH:1<=H/\H<=24)(hn:1<=n/\n<=3):
  Calls prog 81 #[.int .i64 W,.int .i64 H,.int .i64 n] w (X6 W H n.toNat w):=by
 obtain⟨i0,hi0,hz0,hz1,hz2⟩:=cW Xg;obtain⟨j0,hj0,hy0,hy1,hy2⟩:=cW Ed;obtain⟨N,hN⟩:∃N:Nat,n=N:=⟨n.toNat,by omega⟩;subst hN;obtain⟨hW0,hW1⟩:=hW;obtain⟨hH0,hH1⟩:=hH;obtain⟨hn0,hn1⟩:=hn;have hWH:0<=W*H/\W*H<=24*24:=⟨Int.mul_nonneg (by omega) (by omega),Int.mul_le_mul hW1 hH1 (by omega) (by omega)⟩;obtain⟨K,hK⟩:∃K:Nat,(K:Int)=W*H:=⟨(W*H).toNat,by omega⟩;have m1:IntKind.i64.wrap (W*H)=(K:Int):=by rw[bB];omega
 have m2:wrap64 (W*H)=(K:Int):=by unfold wrap64;omega
 have hmk1:∀w:World,(Instr.makeSlice 154 (.int .i64 (K:Int)) (.int .i64 (K:Int))).run prog w=.ok (.slice (some ⟨w.heap.size,0,none⟩) K K) (w.alloc (.cells (madeCells #[.bool false] K) 4)):=fun w=>run_make_row' 154 4 (.bool false) 1 underlying154 du rfl .i64 .i64 K (by omega) (by omega) w;have hmk2:∀w:World,(Instr.makeSlice 44 (.int .i64 (K:Int)) (.int .i64 (K:Int))).run prog w=.ok (.slice (some ⟨w.heap.size,0,none⟩) K K) (w.alloc (.cells (madeCells #[.int .u8 0,.int .u8 0,.int .u8 0,.int .u8 0] (K*4)) 51)):=fun w=>by
  have h9:=run_make (P:=prog) w 44 51 j0 _ underlying44 hj0 hy0 .i64 .i64 K K (by omega) (Int.le_refl _) (by rw[hy2];omega) (by omega);simp only[aX,hy1]at h9;exact h9
 have hK1:K<=1000:=by omega
 have HK:=Aa hK;have HWH:Hid (K=W.toNat*H.toNat):=by
  have e1:((W.toNat*H.toNat:Nat):Int)=W*H:=by rw[Int.natCast_mul,Int.toNat_of_nonneg (by omega),Int.toNat_of_nonneg (by omega)]
  unfold Hid;omega
 rw[aX];clear hWH hK;go_enter func81,ntmps81
 go_wp2
 go_loopg [9] N (fun gg s9 wr=>∃(k:Nat) (bv:Value) (xs:List Value) (P D:Nat->Nat),s9=.int .i64 k/\gg+k=N/\Of w wr W H K k bv xs P D)
 case atStart=>exact⟨0,.slice none 0 0,[],fun _=>0,fun _=>0,rfl,by omega,⟨(aN _ _).alloc (aO _) _,aR w _,bA _ _ _ _,fun j hj=>by omega,fun j hj=>by omega,fun j hj=>by omega,fun i j hi hj=>by omega⟩⟩
 case round=>
  rename World=>wr;obtain⟨k,bv,xs,P,D,rfl,hgk,hM⟩:=hrel;cases gk with
  |zero=>
   have hlt:¬(k:Int)<(N:Int):=by omega
   have HM:=Aa hM;clear hM;go_wp2
   go_ret2
   have hkN:k=N:=by omega
   subst hkN;exact HM.out.done (by omega) hK1 HWH.out
  |succ gk=>
   have hlt:(k:Int)<(N:Int):=by omega
   obtain⟨ba,bc,hbf⟩:=Al hM.row;subst hbf;have c2:wr.cell? ⟨w.heap.size,2,none⟩=some (.slice ba k bc):=hM.scr.cell 2;have f2:=hM.scr.has.free 2;have hcl:=hM.scr.has.lt;have HM:=Aa hM;clear hM;have HB0:Hid (∀(w6:World) (o1 o2 o3:Obj),(((wr.alloc o1).alloc o2).alloc o3).drew.grownBy w6 (Value.slice ba k bc).ownBlock->Blk w6 w.heap.size 202 #[.int .i64 W,.int .i64 H,.slice ba k bc,.slice none 0 0,.slice none 0 0]):=fun w6 o1 o2 o3 hg=>HM.out.cell (fun b hb=>(((al1 (aO wr.heap.size) o1).alloc (by simp) o2).alloc (by simp;omega) o3).drew.block b hb) hg;have HS:Hid (∀(w6:World) (o1 o2 o3:Obj) (g cap:Nat) (p d:Nat),wr.heap.size<=p->(((wr.alloc o1).alloc o2).alloc o3).heap[p]?=some (.cells (madeCells #[.int .u8 0,.int .u8 0,.int .u8 0,.int .u8 0] (K*4)) 51)->wr.heap.size<=d->(((wr.alloc o1).alloc o2).alloc o3).heap[d]?=some (.cells (madeCells #[.bool false] K) 4)->(((wr.alloc o1).alloc o2).alloc o3).drew.grownBy w6 (Value.slice ba k bc).ownBlock->w6.ownsRow (w.heap.size+1) 204 3 (.slice (some ⟨g,0,none⟩) (k+1) cap) (k+1) (xs++[.slice (some ⟨p,0,none⟩) K K,.int .i64 0,.slice (some ⟨d,0,none⟩) K K])->∃bv' xs' P' D',bv'=.slice (some ⟨g,0,none⟩) (k+1) cap/\Of w (w6.setCell ⟨w.heap.size,2,none⟩ (.slice (some ⟨g,0,none⟩) (k+1) cap)) W H K (k+1) bv' xs' P' D'):=fun w6 o1 o2 o3 g cap p d h1 h2 h1' h2' h3 h4=>by
    have hz:=HM.out.bel.size;exact⟨_,_,_,_,rfl,HM.out.step ((((HM.out.bel.alloc hz o1).alloc (by simp;omega) o2).alloc (by simp;omega) o3).drew) (fun b hb=>(((al1 (aO wr.heap.size) o1).alloc (by simp) o2).alloc (by simp;omega) o3).drew.block b hb) (by show wr.heap.size<=(((wr.alloc o1).alloc o2).alloc o3).heap.size;simp;omega) h3 h1 (Ub h2) h1' (Ly h2') h4⟩
   have g1:∀o1,(wr.alloc o1).cell? ⟨w.heap.size,2,none⟩=some (.slice ba k bc):=fun o1=>by rw[BI _ _ _ _ hcl];exact c2
   have g2:∀o1 o2,((wr.alloc o1).alloc o2).cell? ⟨w.heap.size,2,none⟩=some (.slice ba k bc):=fun o1 o2=>by rw[BI _ _ _ _ (by simp;omega)];exact g1 o1
   have g3:∀o1 o2 o3,(((wr.alloc o1).alloc o2).alloc o3).cell? ⟨w.heap.size,2,none⟩=some (.slice ba k bc):=fun o1 o2 o3=>by rw[BI _ _ _ _ (by simp;omega)];exact g2 o1 o2
   go_upto_region 9 with fail
   go_region_law (first|(refine step_append_lies _ (by rfl) (.tmp 43) (.tmp 53) _ (by rfl) (w.heap.size+1) 204 i0 _ 3 56 underlying199 hi0 hz0 hz1 hz2 rfl (by omega) (.slice ba k bc) k xs (by rfl) ((((HM.out.row.alloc _).alloc _).alloc _).drew) ⟨wr.heap.size+1+1,0,none⟩ 1 1 [.slice (some ⟨wr.heap.size,0,none⟩) K K,.int .i64 0,.slice (some ⟨wr.heap.size+1,0,none⟩) K K] (by rfl) (by rfl) (bI (cs:=#[.slice (some ⟨wr.heap.size,0,none⟩) K K,.int .i64 0,.slice (some ⟨wr.heap.size+1,0,none⟩) K K]) (t:=204) (fr:=(0,0)) (Ka wr _ _ _)) (by simp[Value.oneCell']) (by omega) (by unfold maxLen;omega) (by omega) (by simp;omega) (wr.heap.size+1+1+1) (by simp) ?_;intro gg cp w6 hown6 hgrow hat hlt10;have HB:=HB0.out w6 _ _ _ hgrow;have c26:=HB.cell 2;have f26:=HB.has.free 2;have H6:=Aa (HS.out w6 _ _ _ gg cp (wr.heap.size) (wr.heap.size+1) (by omega) (by first|exact EO wr _ _ _|exact Eh wr _ _ _) (by omega) (by first|exact EO wr _ _ _|exact Eh wr _ _ _) hgrow hown6);clear hown6 hgrow hat HB)|(refine step_append_lies _ (by rfl) (.tmp 43) (.tmp 53) _ (by rfl) (w.heap.size+1) 204 i0 _ 3 56 underlying199 hi0 hz0 hz1 hz2 rfl (by omega) (.slice ba k bc) k xs (by rfl) ((((HM.out.row.alloc _).alloc _).alloc _).drew) ⟨wr.heap.size+1+1,0,none⟩ 1 1 [.slice (some ⟨wr.heap.size+1,0,none⟩) K K,.int .i64 0,.slice (some ⟨wr.heap.size,0,none⟩) K K] (by rfl) (by rfl) (bI (cs:=#[.slice (some ⟨wr.heap.size+1,0,none⟩) K K,.int .i64 0,.slice (some ⟨wr.heap.size,0,none⟩) K K]) (t:=204) (fr:=(0,0)) (Ka wr _ _ _)) (by simp[Value.oneCell']) (by omega) (by unfold maxLen;omega) (by omega) (by simp;omega) (wr.heap.size+1+1+1) (by simp) ?_;intro gg cp w6 hown6 hgrow hat hlt10;have HB:=HB0.out w6 _ _ _ hgrow;have c26:=HB.cell 2;have f26:=HB.has.free 2;have H6:=Aa (HS.out w6 _ _ _ gg cp (wr.heap.size+1) (wr.heap.size) (by omega) (by first|exact EO wr _ _ _|exact Eh wr _ _ _) (by omega) (by first|exact EO wr _ _ _|exact Eh wr _ _ _) hgrow hown6);clear hown6 hgrow hat HB))
   all_goals
    go_wp2
    go_roundg gk
    case measure=>omega
    case rel=>
     obtain⟨bv',xs',P',D',_,hN⟩:=H6.out;exact⟨k+1,bv',xs',P',D',by go_num,by omega,hN⟩
def Ud(n:Int)(w:World)(e:Ending)(w':World):Prop:=e=.returned (.tuple #[.pointer none,.int .i64 n])/\Below w.heap.size w w'
theorem Qk(W H n:Int)(w:World)(h:W<1\/24<W\/H<1\/24<H):
  Calls prog 81 #[.int .i64 W,.int .i64 H,.int .i64 n] w (Ud 5 w):=by
 by_cases h1:W<1
 ·go_enter func81,ntmps81
  go_wp2
  go_ret2
  exact⟨rfl,aN _ _⟩
 by_cases h2:24<W
 ·go_enter func81,ntmps81
  go_wp2
  go_ret2
  exact⟨rfl,aN _ _⟩
 by_cases h3:H<1
 ·go_enter func81,ntmps81
  go_wp2
  go_ret2
  exact⟨rfl,aN _ _⟩
 have h4:24<H:=by omega
 go_enter func81,ntmps81
 go_wp2
 go_ret2
 exact⟨rfl,aN _ _⟩
theorem RT(W H n:Int)(w:World)(hW:1<=W/\W<=24)(hH:1<=H/\H<=24)(h:n<1\/3<n):
  Calls prog 81 #[.int .i64 W,.int .i64 H,.int .i64 n] w (Ud 10 w):=by
 obtain⟨hW0,hW1⟩:=hW;obtain⟨hH0,hH1⟩:=hH;have n1:¬W<1:=by omega
 have n2:¬24<W:=by omega
 have n3:¬H<1:=by omega
 have n4:¬24<H:=by omega
 by_cases h1:n<1
 ·go_enter func81,ntmps81
  go_wp2
  go_ret2
  exact⟨rfl,aN _ _⟩
 have h4:3<n:=by omega
 go_enter func81,ntmps81
 go_wp2
 go_ret2
 exact⟨rfl,aN _ _⟩
def Ja(W H:Int):Array Value:=#[.int .i64 (-1),.pointer none,.slice none 0 0,.int .i64 0,.int .i64 0,.slice none 0 0,.int .i64 0,.int .i64 0,.int .i64 0,.int .i64 0,.int .i64 W,.int .i64 H,.bool true,.slice none 0 0,.int .i64 0,.int .i64 0,.slice none 0 0,.int .i64 0,.int .i64 0,.int .i64 0,.int .i64 0,.int .i64 0,.int .i64 0,.bool false,.slice none 0 0,.bool false,.int .i64 0,.bool false,.int .i64 0,.int .i64 0,.slice none 0 0]
theorem UE(W H:Int)(w:World):Calls prog 53 #[.int .i64 W,.int .i64 H] w fun e w'=>e=.returned (.pointer (some ⟨w.heap.size+2,0,none⟩))/\
   w'=((w.alloc (.cells (Ja W H) 174)).alloc (.map #[] 0)).alloc (.cells #[.pointer (some ⟨w.heap.size,0,none⟩),.map (some (w.heap.size+1)),.int .i64 0] 152):=by
 have hmm:∀W:World,(Instr.makeMap 150 none).run prog W=.ok (.map (some W.heap.size)) (W.alloc (.map #[] 0)):=fun W=>run_makeMap _ W;go_enter func53,ntmps53
 go_wp2_with fail
 go_ret;exact⟨rfl,rfl⟩
theorem JL(u:World)(o:Obj)(n:Nat)(h:u.heap.size=n):(u.alloc o).heap[n]?=some o:=by subst h;exact aR u o
structure QM(w wr:World)(W H:Int):Prop where
 bel:Below w.heap.size w wr
 gnd:Blk wr w.heap.size 174 (Ja W H)
 map:wr.heap[w.heap.size+1]?=some (.map #[] 0)
 sce:Blk wr (w.heap.size+2) 152 #[.pointer (some ⟨w.heap.size,0,none⟩),.map (some (w.heap.size+1)),.int .i64 0]
theorem QM.below{wx:World}(h:QM w wr W H)(hb:Below wr.heap.size wr wx):QM w wx W H:=by
 have h2:=h.sce.has.lt;exact⟨h.bel.trans (hb.mono h.bel.size),h.gnd.keep (hb.block _ (by omega)),(hb.block _ (by omega)).trans h.map,h.sce.keep (hb.block _ h2)⟩
theorem QM.done(h:QM w wr W H){x:Nat}(hx:Blk wr x 90 #[.pointer (some ⟨w.heap.size+2,0,none⟩),bv]):AX wr (fun g=>g=x\/(w.heap.size<=g/\g<w.heap.size+3)) x ⟨W,H,[],[]⟩ bv:=by
 have hs:=h.sce.has.lt;have hlive:∀p,BN ⟨W,H,[],[]⟩ p->p= -1:=fun p hp=>by
  rcases hp with hp|⟨i,_,hi⟩
  ·exact hp
  ·cases hi
 refine⟨w.heap.size+2,w.heap.size+1,fun _=>w.heap.size,fun _ o=>(Ja W H).getD o undef,hx,h.sce,⟨#[],0,h.map,MapKept.stamped_empty 0,by simp⟩,fun p hp=>⟨_,h.gnd,rfl,fun o ho=>?_⟩,⟨.inl rfl,.inr ⟨by omega,by omega⟩,.inr ⟨by omega,by omega⟩,fun p hp=>.inr ⟨by omega,by omega⟩⟩,fun p p' hp hp' _=>by rw[hlive p hp,hlive p' hp'],fun p hp=>?_,fun p p' hp hp' hne=>absurd (by rw[hlive p hp,hlive p' hp']) hne,fun p hp=>?_,fun i hi=>by cases hi⟩
 ·show _=some ((Ja W H).getD o undef);rw[Array.getD_eq_getD_getElem?,Array.getElem?_eq_getElem (show o<(Ja W H).size from ho)];rfl
 ·exact A4.nil _ _ _ _
 ·have:=hlive p hp;subst this;exact⟨rfl,rfl,⟨rfl,rfl,⟨_,_,_,rfl⟩,rfl,rfl,rfl,rfl,rfl,rfl,rfl,⟨_,_,_,rfl⟩⟩,⟨Pc,⟨rfl,rfl,⟨_,_,_,rfl⟩,rfl,rfl,rfl,rfl,rfl,rfl,rfl,⟨_,_,_,rfl⟩⟩,fun e=>absurd rfl e⟩,⟨_,_,_,rfl,rfl,rfl,fun e=>absurd rfl e⟩,⟨_,_,_,_,_,rfl,rfl,rfl⟩⟩
def Sl(W H:Int)(n:Nat)(w:World)(e:Ending)(w':World):Prop:=∃x L,e=.returned (.tuple #[.pointer (some ⟨x,0,none⟩),.int .i64 0])/\AO w' (fun g=>w.heap.size<=g/\g<w'.heap.size) x ⟨W,H,[],[]⟩ (Cv.new W.toNat H.toNat L)/\L.length=n/\Below w.heap.size w w'
theorem Wu{w1 w2:World}{W H:Nat}(hW:1<=W/\W<=24)(hH:1<=H/\H<=24){N c rg:Nat}{L:List Nat}(hN:1<=N/\N<=3)(h1:QM w w1 W H)(h2:Ki w1 w2 c rg W H N bv L)(o:Obj)(ho:o=.cells #[.pointer (some ⟨w.heap.size+2,0,none⟩),.pointer (some ⟨c,0,none⟩)] 90):
  Sl W H N w (.returned (.tuple #[.pointer (some ⟨w2.heap.size,0,none⟩),.int .i64 0])) (w2.alloc o):=by
 subst ho;have s1:=h1.bel.size;have s2:=h2.bel.size;have hs:=h1.sce.has.lt;have hb3:Below w2.heap.size w2 (w2.alloc (.cells #[.pointer (some ⟨w.heap.size+2,0,none⟩),.pointer (some ⟨c,0,none⟩)] 90)):=(aN _ _).alloc (aO _) _;refine⟨_,L,rfl,⟨_,_,c,⟨((h1.below h2.bel).below hb3).done (x:=w2.heap.size) (aR w2 _),⟨bv,rg,_,h2.mem.below hb3⟩,Cv.new_ok h2 hW hH hN,rfl,rfl,fun g hg=>?_,fun g hg=>?_,fun g hg hb=>?_⟩,fun g hg=>?_,fun g hg=>?_⟩,h2.len,(h1.bel.trans (h2.bel.mono s1)).trans (hb3.mono (by omega))⟩
 ·simp;omega
 ·simp;omega
 ·omega
 ·simp;omega
 ·simp;omega
theorem Wv(W H n:Int)(w:World)(hW:1<=W/\W<=24)(hH:1<=H/\H<=24)(hn:1<=n/\n<=3):
  Calls prog 26 #[.int .i64 W,.int .i64 H,.int .i64 n] w (Sl W H n.toNat w):=by
 obtain⟨N,hN⟩:∃N:Nat,n=N:=⟨n.toNat,by omega⟩;obtain⟨W',hW'⟩:∃W':Nat,W=W':=⟨W.toNat,by omega⟩;obtain⟨H',hH'⟩:∃H':Nat,H=H':=⟨H.toNat,by omega⟩;subst hN hW' hH';rw[aX];obtain⟨hW0,hW1⟩:=hW;obtain⟨hH0,hH1⟩:=hH;obtain⟨hn0,hn1⟩:=hn;have HSc:Hid (Calls prog 53 #[.int .i64 (W':Int),.int .i64 (H':Int)] w fun e w1=>e=.returned (.pointer (some ⟨w.heap.size+2,0,none⟩))/\QM w w1 W' H'):=by
  refine(UE W' H' w).mono ?_;rintro e w1 ⟨rfl,rfl⟩;refine⟨rfl,(((al1 (aO _) _).alloc (by simp) _).alloc (by simp;omega) _),?_,?_,?_⟩
  ·unfold Blk;rw[Ad _ _ _ (by simp<;>omega),Ad _ _ _ (by simp<;>omega)];exact JL _ _ _ rfl
  ·rw[Ad _ _ _ (by simp<;>omega)];exact JL _ _ _ (by simp)
  ·exact JL _ _ _ (by simp)
 have HCv:=Aa (fun V:World=>TG W' H' N V ⟨by omega,by omega⟩ ⟨by omega,by omega⟩ ⟨by omega,by omega⟩);have HEn:Hid (∀(w1 w2:World) (c rg:Nat) (bv:Value) (L:List Nat),QM w w1 W' H'->Ki w1 w2 c rg W' H' N bv L->Sl W' H' N w (.returned (.tuple #[.pointer (some ⟨w2.heap.size,0,none⟩),.int .i64 0])) (w2.alloc (.cells #[.pointer (some ⟨w.heap.size+2,0,none⟩),.pointer (some ⟨c,0,none⟩)] 90))):=fun w1 w2 c rg bv L h1 h2=>Wu ⟨by omega,by omega⟩ ⟨by omega,by omega⟩ ⟨by omega,by omega⟩ h1 h2 _ rfl;go_enter func26,ntmps26
 go_wp2_with(first
  |(go_at_call 53;refine HSc.out.mono ?_;rintro e w1 ⟨rfl,h1⟩;have H1:=Aa h1;clear h1)
  |(go_at_call 54;refine(HCv.out _).mono ?_;rintro e w2 ⟨c,rg,bv,L,rfl,h2⟩;have H2:=Aa (HEn.out _ _ _ _ _ _ H1.out h2);clear h2)
  |go_in)
 go_ret2
 exact H2.out
theorem Sm(W H n:Int)(w:World)(h:W<1\/24<W\/H<1\/24<H):
  Calls prog 26 #[.int .i64 W,.int .i64 H,.int .i64 n] w (Ud 5 w):=by
 have hcases:W<1\/(1<=W/\24<W)\/(1<=W/\W<=24/\H<1)\/(1<=W/\W<=24/\1<=H/\24<H):=by omega
 clear h;rcases hcases with h1|⟨h1,h2⟩|⟨h1,h2,h3⟩|⟨h1,h2,h3,h4⟩;all_goals
  try have hd:decide (H<=24)=false:=cE (by omega)
  go_enter func26,ntmps26
  go_wp2_with go_in
  go_ret2
  exact⟨rfl,aN _ _⟩
theorem UF(W H n:Int)(w:World)(hW:1<=W/\W<=24)(hH:1<=H/\H<=24)(h:n<1\/3<n):
  Calls prog 26 #[.int .i64 W,.int .i64 H,.int .i64 n] w (Ud 10 w):=by
 obtain⟨hW0,hW1⟩:=hW;obtain⟨hH0,hH1⟩:=hH;have hcases:n<1\/(1<=n/\3<n):=by omega
 clear h;rcases hcases with h1|⟨h1,h2⟩;all_goals
  try have hd:decide (n<=3)=false:=cE (by omega)
  go_enter func26,ntmps26
  go_wp2_with go_in
  go_ret2
  exact⟨rfl,aN _ _⟩
end Go.Proofs.YtofinpocigbbeaaGreat
