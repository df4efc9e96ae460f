import Derived.Test.YtofinpocigbbeaaGreatKbx
set_option maxHeartbeats 1000000
set_option maxRecDepth 100000
set_option linter.unusedSimpArgs false
namespace Go.Proofs.YtofinpocigbbeaaGreat
open Go.Proofs.Tryz Go.RowKit
attribute [local go_sem ↓] Go.wp_at_zero Go.wp_at_succ
variable{K:Nat->Prop}{L:List Scr}{n:Cnt}{n0 pb:Nat}{ps:Value}{w:World}
theorem As.kept{w':World}{v:Value}{l:List R4}(h:As w v l)(hk:∀b,b<w.heap.size->w'.heap[b]?=w.heap[b]?):As w' v l:=by
 obtain⟨a,c,hv,hc⟩:=h;refine⟨a,c,hv,fun hl=>?_⟩;obtain⟨b,off,ha,hcs⟩:=hc hl;refine⟨b,off,ha,fun k hk2=>?_⟩;obtain⟨h1,h2,h3,h4⟩:=hcs k hk2;have hbl:=hk b (Ak h1);exact⟨(aV hbl).trans h1,(aV hbl).trans h2,(aV hbl).trans h3,(aV hbl).trans h4⟩
def dH(kind:Int)(la lb:List R4)(base:Nat)(w':World)(v:Value)(er:Int):Prop:=
 (¬(0<=kind/\kind<=3)/\v=jj/\er=1)\/((0<=kind/\kind<=3)/\Hy la lb≠0/\v=jj/\er=Hy la lb)\/
   ((0<=kind/\kind<=3)/\Hy la lb=0/\er=0/\∃O,AF w' base v (rc O)/\AL O/\∀x y,Ay O x y=keepB kind (AE la x y) (AE lb x y))
theorem dM{kind:Int}{la lb:List R4}{b1 b2:Nat}{w1 w2:World}{v1 v2:Value}{e1 e2:Int}(h1:dH kind la lb b1 w1 v1 e1)(h2:dH kind la lb b2 w2 v2 e2):e2=e1/\∃l,AF w1 b1 v1 l/\AF w2 b2 v2 l/\l.length<=9000000:=by
 rcases h1 with⟨a,rfl,rfl⟩|⟨a,b,rfl,rfl⟩|⟨a,b,rfl,O,ho,hg,hm⟩
 ·rcases h2 with⟨c,rfl,rfl⟩|⟨c,_⟩|⟨c,_⟩
  ·exact⟨rfl,[],⟨bA _ _ _ _,fun _=>rfl⟩,⟨bA _ _ _ _,fun _=>rfl⟩,by simp⟩
  ·exact absurd c a
  ·exact absurd c a
 ·rcases h2 with⟨c,_⟩|⟨c,d,rfl,rfl⟩|⟨c,d,_⟩
  ·exact absurd a c
  ·exact⟨rfl,[],⟨bA _ _ _ _,fun _=>rfl⟩,⟨bA _ _ _ _,fun _=>rfl⟩,by simp⟩
  ·exact absurd d b
 ·rcases h2 with⟨c,_⟩|⟨c,d,_⟩|⟨c,d,rfl,O2,ho2,hg2,hm2⟩
  ·exact absurd a c
  ·exact absurd b d
  ·obtain rfl:O=O2:=MD hg hg2 fun x y=>by rw[hm,hm2]
   exact⟨rfl,rc O,ho,ho2,bh (RL hg) (by decide)⟩
theorem dr(h:Inv n0 w pb n K ps L)(hN:n.a<=1000000000000)(kind:Int)(va vb:Value)(la lb:List R4)(ha:Nk n0 w va la)(hb:Nk n0 w vb lb):
  Calls prog 47 #[pj pb,vj kind,va,vb] w (At n0 pb n ps L w):=by
 have hn:=h.size;have hpl:pb<w.heap.size:=by
  obtain⟨pc,av,bv,cv,xa,xb,xc,hbk⟩:=h.play;exact Ab hbk.blk
 have nilOk:∀(v:Value) (l:List R4),((v=jj/\l=[])\/∃ad c,v=.slice (some ad) l.length c)->S1 v l:=fun v l h e=>by
  rcases h with⟨h,_⟩|⟨ad,c,h⟩
  ·exact .inl h
  ·exact .inr ⟨ad,c,by rw[e]at h;exact h⟩
 have HA:=Aa (aK (ha.at' w (Ac.refl _ _)) (aK ha.form (aK ha.fit (aK (nilOk va la ha.form) (fun b off c e hl=>aQ (ha.low b off c e hl) hn)))));have HB:=Aa (aK (hb.at' w (Ac.refl _ _)) (aK hb.form (aK hb.fit (aK (nilOk vb lb hb.form) (fun b off c e hl=>aQ (hb.low b off c e hl) hn)))));have HBk:Hid (∀(W:World) (v:Value) (l:List R4),uj w W->AF W w.heap.size v l->l.length<=9000000->Calls prog 87 #[.pointer (some (jA pb 1)),v] W fun e w'=>e=.returned (.tuple #[])/\Hid (At n0 pb n ps L w (.returned (.bool true)) w')):=fun W v l hW hv hl=>by
  refine((h.below hW).listA (B0:=w.heap.size) (m:=l.length) hW.size hn (fun g hg=>(h.kk g hg).2) (fun s hs g hg=>.inl ((h.scr s hs).own g hg).2.1) hN hl ⟨_,hv.1⟩).mono ?_;rintro e w' ⟨rfl,⟨K',hK'⟩,h3,h4⟩;exact⟨rfl,At.before hW ⟨rfl,⟨L,⟨n.a+1,n.b,n.v⟩,K',rfl,⟨aO _,cT _,cT _⟩,hK',fun T hT s hs=>Nat.le_succ_of_le (hT s hs)⟩,fun g cur t ht hg=>h3 g cur t (by rcases ht with rfl|rfl<;>decide) (by rcases ht with rfl|rfl<;>decide) (by rcases ht with rfl|rfl<;>decide) hg,h4⟩⟩
 obtain⟨xa,ca,hva⟩:=(ha.at' w (Ac.refl _ _)).form;obtain⟨xb,cb,hvb⟩:=(hb.at' w (Ac.refl _ _)).form;clear h hN ha hb nilOk hva hvb xa ca xb cb hn;obtain⟨post,hpost⟩:∃P,P=At n0 pb n ps L w:=⟨_,rfl⟩;rw[<-hpost];have HPo:=Aa hpost;clear hpost;go_enter func47,ntmps47
 go_wp2_with fail
 refine(Wo la va _ HA.out.1 HA.out.2.1 HA.out.2.2.1).mono ?_;rintro e w1 ⟨u1,rfl,hu1,b1⟩;have H1:=Aa (aK hu1 b1);clear hu1 b1
 go_wp2_with fail
 refine(Wo lb vb _ (HB.out.1.below H1.out.2) HB.out.2.1 HB.out.2.2.1).mono ?_;rintro e w2 ⟨u2,rfl,hu2,b2⟩;have H2:=Aa (aK hu2 b2);clear hu2 b2;have HL1:=Aa (H1.out.1.keep (w':=w2) fun g _ hlt=>H2.out.2.block g hlt)
 go_wp2_with fail
 refine(WJ kind la lb u1 u2 _ HL1.out.rects H2.out.1.rects (by have:=HA.out.2.2.1;unfold maxLen;omega) (by have:=HB.out.2.2.1;unfold maxLen;omega)).mono ?_;rintro e w3 ⟨b3,v3,er,rfl,h3⟩;have HBa:=Aa (H1.out.2.trans (H2.out.2.mono H1.out.2.size));have HBb:=Aa (HBa.out.trans (b3.mono HBa.out.size));have H3:=Aa (aK b3 (show dH kind la lb w2.heap.size w3 v3 er from h3));clear b3 h3
 go_wp2_with fail
 refine(Wl kind la lb va vb _ (HA.out.1.below HBb.out) (HB.out.1.below HBb.out) HA.out.2.2.2.1 HB.out.2.2.2.1 (by have:=HA.out.2.2.1;unfold maxLen;omega) (by have:=HB.out.2.2.1;unfold maxLen;omega)).mono ?_;rintro e w4 ⟨b4,v4,er4,rfl,h4⟩;obtain⟨rfl,l,o3,o4,hL⟩:=dM H3.out.2 (show dH kind la lb w3.heap.size w4 v4 er4 from h4);have HBc:=Aa (HBb.out.trans (b4.mono HBb.out.size));have H4:=Aa (aK (o3.stay b4) (aK o4 hL));have HLa:=Aa (HL1.out.keep (w':=w4) fun g _ hlt=>(H3.out.1.trans (b4.mono H3.out.1.size)).block g hlt);have HLb:=Aa (H2.out.1.keep (w':=w4) fun g _ hlt=>(H3.out.1.trans (b4.mono H3.out.1.size)).block g hlt);have z12:=H2.out.2.size;have z01:=H1.out.2.size;have z23:=H3.out.1.size;have z34:=b4.size;clear b4 h4 o3 o4 hL
 go_wp2_with fail
 refine(OK la u1 va w.heap.size _ (HA.out.1.below HBc.out) HA.out.2.2.2.2 HLa.out HA.out.2.2.1).mono ?_;rintro e w5 ⟨rfl,g5⟩;have HQ1:=Aa HLa.out.own;have HQ2:=Aa HLb.out.own;have HQ3:=Aa H1.out.1.own;have HQ4:=Aa H2.out.1.own;have HG5:=Aa g5;have z45:=g5.size;clear g5
 go_wp2_with fail
 refine(OK lb u2 vb w1.heap.size _ (HB.out.1.kept fun b hlt=>?_) (fun b off c hv hl=>by have:=HB.out.2.2.2.2 b off c hv hl;omega) (HLb.out.keep fun g hg hlt=>?_) HB.out.2.2.1).mono ?_
 ·rw[HG5.out.block b (by omega) (fun e=>by have:=(HQ1.out b e.symm).1;omega)];exact HBc.out.block b hlt
 ·exact HG5.out.block g hlt (fun e=>by have h1:=(HQ3.out g e.symm).2;omega)
 rintro e w6 ⟨rfl,g6⟩;have HBd:=Aa ((HBc.out.grown HG5.out (by omega) fun k hk=>(HQ1.out k hk).1).grown g6 (by omega) fun k hk=>by have:=(HQ2.out k hk).1;omega);have z56:=g6.size;have HO3:=Aa (H4.out.1.keep (w':=w6) fun g hg=>by
  have h1:=H4.out.1.1.lt g hg;rw[g6.block g (by omega) (fun e=>by have:=(HQ4.out g e.symm).2;omega),HG5.out.block g (by omega) (fun e=>by have:=(HQ3.out g e.symm).2;omega)])
 have HO4:=Aa (H4.out.2.1.keep (w':=w6) fun g hg=>by
  have h1:=H4.out.2.1.1.lt g hg;rw[g6.block g (by omega) (fun e=>by have:=(HQ4.out g e.symm).2;omega),HG5.out.block g (by omega) (fun e=>by have:=(HQ3.out g e.symm).2;omega)])
 clear g6
 go_wp2_with fail
 refine(Wq l v3 v4 _ HO3.out.rects HO4.out.rects H4.out.2.2).mono ?_;rintro e w7 ⟨rfl,nq,rfl⟩
 go_wp2_with fail
 refine(HBk.out (w6.drewN nq) v3 l (cS HBd.out nq) (show AF w6 w.heap.size v3 l from HO3.out.low (by omega)) H4.out.2.2).mono ?_;rintro e w8 ⟨rfl,HH⟩;go_wp2
 try go_ret
 rw[HPo.out];exact HH.out
theorem dt(h:Inv n0 w pb n K ps L)(hN:n.a<=1000000000000)(k a b c:Int)(y:Bool)(r:R4)(lv mv pv:Value)(la lb:List R4)(ha:Nk n0 w lv la)(hb:Nk n0 w mv lb):
  Calls prog 24 #[pj pb,.agg (Au 15 k a b c y r lv mv pv)] w (A8 n0 pb n L L.length w):=by
 have HC:Hid (∀W,uj w W->Calls prog 47 #[pj pb,vj a,lv,mv] W fun e w'=>e=.returned (.bool true)/\Hid (A8 n0 pb n L L.length w (.returned (.bool true)) w')):=fun W hW=>(dr (h.below hW) hN a lv mv la lb (ha.only (Ac.below hW)) (hb.only (Ac.below hW))).mono fun e w' hh=>by
  have:=hh.1;subst this;exact⟨rfl,A8.before hW hh.any⟩
 clear h hN ha hb;unfold Au at*;go_enter func24,ntmps24
 go_wp2_with(go_at_call 47;refine(HC.out _ (al1 (aO _) _)).mono ?_;rintro e w' ⟨rfl,HH⟩)
 go_ret;exact HH.out
end Go.Proofs.YtofinpocigbbeaaGreat
