import Derived.Test.YtofinpocigbbeaaGreatKbl
import Derived.Test.YtofinpocigbbeaaGreatKba
set_option maxHeartbeats 1000000
set_option maxRecDepth 100000
set_option linter.unusedSimpArgs false
namespace Go.Proofs.YtofinpocigbbeaaGreat
open Go.Proofs.Tryz Go.RowKit
attribute [local go_sem ↓] Go.wp_at_zero Go.wp_at_succ
variable{H W:Int}{bv:Value}{w wr:World}
def Ja(W H:Int):Array Value:=#[vj (-1),.pointer none,jj,vj 0,vj 0,jj,vj 0,vj 0,vj 0,vj 0,vj W,vj H,.bool true,jj,vj 0,vj 0,jj,vj 0,vj 0,vj 0,vj 0,vj 0,vj 0,.bool false,jj,.bool false,vj 0,.bool false,vj 0,vj 0,jj]
theorem UE(W H:Int)(w:World):Calls prog 53 #[vj W,vj H] w fun e w'=>e=.returned (pj (w.heap.size+2))/\
   w'=((w.alloc (.cells (Ja W H) 174)).alloc (.map #[] 0)).alloc (.cells #[pj w.heap.size,.map (some (w.heap.size+1)),vj 0] 152):=by
 have hmm:∀W:World,(Instr.makeMap 150 none).run prog W=.ok (.map (some W.heap.size)) (W.alloc (.map #[] 0)):=fun W=>run_makeMap _ W;go_enter func53,ntmps53
 go_wp2_with fail
 go_ret;exact⟨rfl,rfl⟩
theorem JL(u:World)(o:Obj)(n:Nat)(h:u.heap.size=n):(u.alloc o).heap[n]?=some o:=by subst h;exact aR u o
structure QM(w wr:World)(W H:Int):Prop where
 bel:uj w wr
 gnd:Blk wr w.heap.size 174 (Ja W H)
 map:wr.heap[w.heap.size+1]?=some (.map #[] 0)
 sce:Blk wr (w.heap.size+2) 152 #[pj w.heap.size,.map (some (w.heap.size+1)),vj 0]
theorem QM.below{wx:World}(h:QM w wr W H)(hb:uj wr wx):QM w wx W H:=by
 have h2:=h.sce.has.lt;exact⟨h.bel.trans (hb.mono h.bel.size),h.gnd.keep (hb.block _ (by omega)),(hb.block _ (by omega)).trans h.map,h.sce.keep (hb.block _ h2)⟩
theorem QM.done(h:QM w wr W H){x:Nat}(hx:Blk wr x 90 #[pj (w.heap.size+2),bv]):AX wr (fun g=>g=x\/(w.heap.size<=g/\g<w.heap.size+3)) x ⟨W,H,[],[]⟩ bv:=by
 have hs:=h.sce.has.lt;have hlive:∀p,BN ⟨W,H,[],[]⟩ p->p= -1:=fun p hp=>by
  rcases hp with hp|⟨i,_,hi⟩
  ·exact hp
  ·cases hi
 refine⟨w.heap.size+2,w.heap.size+1,fun _=>w.heap.size,fun _ o=>(Ja W H).getD o undef,hx,h.sce,⟨#[],0,h.map,MapKept.stamped_empty 0,by simp⟩,fun p hp=>⟨_,h.gnd,rfl,fun o ho=>?_⟩,⟨.inl rfl,.inr ⟨by omega,by omega⟩,.inr ⟨by omega,by omega⟩,fun p hp=>.inr ⟨by omega,by omega⟩⟩,fun p p' hp hp' _=>by rw[hlive p hp,hlive p' hp'],fun p hp=>?_,fun p p' hp hp' hne=>absurd (by rw[hlive p hp,hlive p' hp']) hne,fun p hp=>?_,fun i hi=>by cases hi⟩
 ·show _=some ((Ja W H).getD o undef);rw[Array.getD_eq_getD_getElem?,Array.getElem?_eq_getElem (show o<(Ja W H).size from ho)];rfl
 ·exact A4.nil _ _ _ _
 ·have:=hlive p hp;subst this;exact⟨rfl,rfl,⟨rfl,rfl,⟨_,_,_,rfl⟩,rfl,rfl,rfl,rfl,rfl,rfl,rfl,⟨_,_,_,rfl⟩⟩,⟨Pc,⟨rfl,rfl,⟨_,_,_,rfl⟩,rfl,rfl,rfl,rfl,rfl,rfl,rfl,⟨_,_,_,rfl⟩⟩,fun e=>absurd rfl e⟩,⟨_,_,_,rfl,rfl,rfl,fun e=>absurd rfl e⟩,⟨_,_,_,_,_,rfl,rfl,rfl⟩⟩
def Sl(W H:Int)(n:Nat)(w:World)(e:Ending)(w':World):Prop:=∃x L,e=.returned (.tuple #[pj x,vj 0])/\AO w' (fun g=>w.heap.size<=g/\g<w'.heap.size) x ⟨W,H,[],[]⟩ (Cv.new W.toNat H.toNat L)/\L.length=n/\uj w w'
theorem Wu{w1 w2:World}{W H:Nat}(hW:1<=W/\W<=24)(hH:1<=H/\H<=24){N c rg:Nat}{L:List Nat}(hN:1<=N/\N<=3)(h1:QM w w1 W H)(h2:Ki w1 w2 c rg W H N bv L)(o:Obj)(ho:o=.cells #[pj (w.heap.size+2),pj c] 90):
  Sl W H N w (.returned (.tuple #[pj w2.heap.size,vj 0])) (w2.alloc o):=by
 subst ho;have s1:=h1.bel.size;have s2:=h2.bel.size;have hs:=h1.sce.has.lt;have hb3:uj w2 (w2.alloc (.cells #[pj (w.heap.size+2),pj c] 90)):=(aN _ _).alloc (aO _) _;refine⟨_,L,rfl,⟨_,_,c,⟨((h1.below h2.bel).below hb3).done (x:=w2.heap.size) (aR w2 _),⟨bv,rg,_,h2.mem.below hb3⟩,Cv.new_ok h2 hW hH hN,rfl,rfl,fun g hg=>?_,fun g hg=>?_,fun g hg hb=>?_⟩,fun g hg=>?_,fun g hg=>?_⟩,h2.len,(h1.bel.trans (h2.bel.mono s1)).trans (hb3.mono (by omega))⟩
 ·simp;omega
 ·simp;omega
 ·omega
 ·simp;omega
 ·simp;omega
theorem Wv(W H n:Int)(w:World)(hW:1<=W/\W<=24)(hH:1<=H/\H<=24)(hn:1<=n/\n<=3):
  Calls prog 26 #[vj W,vj H,vj n] w (Sl W H n.toNat w):=by
 obtain⟨N,hN⟩:∃N:Nat,n=N:=⟨n.toNat,by omega⟩;obtain⟨W',hW'⟩:∃W':Nat,W=W':=⟨W.toNat,by omega⟩;obtain⟨H',hH'⟩:∃H':Nat,H=H':=⟨H.toNat,by omega⟩;subst hN hW' hH';rw[aX];obtain⟨hW0,hW1⟩:=hW;obtain⟨hH0,hH1⟩:=hH;obtain⟨hn0,hn1⟩:=hn;have HSc:Hid (Calls prog 53 #[vj (W':Int),vj (H':Int)] w fun e w1=>e=.returned (pj (w.heap.size+2))/\QM w w1 W' H'):=by
  refine(UE W' H' w).mono ?_;rintro e w1 ⟨rfl,rfl⟩;refine⟨rfl,(((al1 (aO _) _).alloc (by simp) _).alloc (by simp;omega) _),?_,?_,?_⟩
  ·unfold Blk;rw[Ad _ _ _ (by simp<;>omega),Ad _ _ _ (by simp<;>omega)];exact JL _ _ _ rfl
  ·rw[Ad _ _ _ (by simp<;>omega)];exact JL _ _ _ (by simp)
  ·exact JL _ _ _ (by simp)
 have HCv:=Aa (fun V:World=>TG W' H' N V ⟨by omega,by omega⟩ ⟨by omega,by omega⟩ ⟨by omega,by omega⟩);have HEn:Hid (∀(w1 w2:World) (c rg:Nat) (bv:Value) (L:List Nat),QM w w1 W' H'->Ki w1 w2 c rg W' H' N bv L->Sl W' H' N w (.returned (.tuple #[pj w2.heap.size,vj 0])) (w2.alloc (.cells #[pj (w.heap.size+2),pj c] 90))):=fun w1 w2 c rg bv L h1 h2=>Wu ⟨by omega,by omega⟩ ⟨by omega,by omega⟩ ⟨by omega,by omega⟩ h1 h2 _ rfl;go_enter func26,ntmps26
 go_wp2_with(first
  |(go_at_call 53;refine HSc.out.mono ?_;rintro e w1 ⟨rfl,h1⟩;have H1:=Aa h1;clear h1)
  |(go_at_call 54;refine(HCv.out _).mono ?_;rintro e w2 ⟨c,rg,bv,L,rfl,h2⟩;have H2:=Aa (HEn.out _ _ _ _ _ _ H1.out h2);clear h2)
  |go_in)
 go_ret2
 exact H2.out
theorem Sm(W H n:Int)(w:World)(h:W<1\/24<W\/H<1\/24<H):
  Calls prog 26 #[vj W,vj H,vj n] w (Ud 5 w):=by
 have hcases:W<1\/(1<=W/\24<W)\/(1<=W/\W<=24/\H<1)\/(1<=W/\W<=24/\1<=H/\24<H):=by omega
 clear h;rcases hcases with h1|⟨h1,h2⟩|⟨h1,h2,h3⟩|⟨h1,h2,h3,h4⟩;all_goals
  try have hd:decide (H<=24)=false:=cE (by omega)
  go_enter func26,ntmps26
  go_wp2_with go_in
  go_ret2
  exact⟨rfl,aN _ _⟩
theorem UF(W H n:Int)(w:World)(hW:1<=W/\W<=24)(hH:1<=H/\H<=24)(h:n<1\/3<n):
  Calls prog 26 #[vj W,vj H,vj n] w (Ud 10 w):=by
 obtain⟨hW0,hW1⟩:=hW;obtain⟨hH0,hH1⟩:=hH;have hcases:n<1\/(1<=n/\3<n):=by omega
 clear h;rcases hcases with h1|⟨h1,h2⟩;all_goals
  try have hd:decide (n<=3)=false:=cE (by omega)
  go_enter func26,ntmps26
  go_wp2_with go_in
  go_ret2
  exact⟨rfl,aN _ _⟩
end Go.Proofs.YtofinpocigbbeaaGreat
