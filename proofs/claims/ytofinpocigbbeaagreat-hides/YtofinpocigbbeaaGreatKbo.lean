import Derived.Test.YtofinpocigbbeaaGreatKbn
import Derived.Test.YtofinpocigbbeaaGreatKbi
set_option maxHeartbeats 2000000
set_option maxRecDepth 100000
set_option linter.unusedSimpArgs false
namespace Go.Proofs.YtofinpocigbbeaaGreat
open Go.Proofs.Tryz Go.RowKit
variable{cs:Array Value}{f:Nat->Value}{m:Nat}{u:Option Nat}{w' w1:World}
variable{N:Nat}{cv:Value}
def Mq(u:Option Nat)(w:World)(x:Value)(m:Nat)(cs:Array Value):Prop:=∃g,x=.slice (some ⟨g,0,none⟩) m m/\some g≠u/\w.heap[g]?=some (.cells cs 53 (0,0))
def DB(w:World)(B0 zb:Nat)(x:Value)(m:Nat):Prop:=GF w B0 x m/\x.ownBlock≠some zb
def M7(v:Value)(n B0 zb:Nat)(w:World)(x:Value):Prop:=∃g a b c,x=.slice (some ⟨g,0,none⟩) 4 4/\some g≠v.ownBlock/\w.heap[g]?=some (.cells #[v,a,b,c] 33 (0,0))/\DB w B0 zb a (n+1)/\DB w B0 zb b (n+2)/\DB w B0 zb c (n+3)
theorem DB.step{w:World}{B0 zb:Nat}{x:Value}(h:DB w B0 zb x m)(hs:Ci u w w'):DB w' B0 zb x m:=⟨h.1.step hs,h.2⟩
theorem Mq.step{w:World}{x:Value}(h:Mq u w x m cs)(hs:Ci u w w'):Mq u w' x m cs:=by
 obtain⟨g,h1,h2,h3⟩:=h;exact⟨g,h1,h2,by rw[hs.grown.block g (aM.1 h3).1 h2];exact h3⟩
theorem M7.step{w:World}{v x:Value}{n B0 zb:Nat}(h:M7 v n B0 zb w x)(hs:Ci v.ownBlock w w'):M7 v n B0 zb w' x:=by
 obtain⟨g,a,b,c,h1,h2,h3,h4,h5,h6⟩:=h;exact⟨g,a,b,c,h1,h2,by rw[hs.grown.block g (aM.1 h3).1 h2];exact h3,h4.step hs,h5.step hs,h6.step hs⟩
structure FxA(N:Nat)(v:Value)(n B0 zb s:Nat)(x:Value)(w:World):Prop where
 mv:s=14\/s=15\/s=19\/s=24->x=v
 ld:s=16\/s=20\/s=21\/s=25\/s=26\/s=27->x=.agg (zA N)
 b1:s=17->Mq v.ownBlock w x 1 (zA N)
 b2:s=22->Mq v.ownBlock w x 2 ((zA N)++(zA N))
 b3:s=28->Mq v.ownBlock w x 3 ((zA N)++(zA N)++(zA N))
 r1:s=18->DB w B0 zb x (n+1)
 r2:s=23->DB w B0 zb x (n+2)
 r3:s=29->DB w B0 zb x (n+3)
 rg:s=30\/s=5->M7 v n B0 zb w x
theorem FxA.step{w:World}{v x:Value}{n B0 zb s:Nat}(h:FxA N v n B0 zb s x w)(hs:Ci v.ownBlock w w'):FxA N v n B0 zb s x w':=
 ⟨h.mv,h.ld,fun e=>(h.b1 e).step hs,fun e=>(h.b2 e).step hs,fun e=>(h.b3 e).step hs,fun e=>(h.r1 e).step hs,fun e=>(h.r2 e).step hs,fun e=>(h.r3 e).step hs,fun e=>(h.rg e).step hs⟩
def FK(k:Nat):Nat:=if k=17 then 5 else k+14
def Qx(N:Nat)(v:Value)(n B0 zb:Nat)(w0:World)(listed:Array Bool)(f:Nat->Value)(w:World):Prop:=
 Ci v.ownBlock w0 w/\∀k,k<18->listed[k]?=some true->FxA N v n B0 zb (FK k) (f (FK k)) w
theorem Bs{v x:Value}{n B0 zb:Nat}{w0 w:World}{listed:Array Bool}(k:Nat)(h:Qx N v n B0 zb w0 listed f w)(hk:k<18)(hs:Ci v.ownBlock w w')(hx:FxA N v n B0 zb (FK k) x w'):
  Qx N v n B0 zb w0 (listed.setIfInBounds k true) (fun s=>if s=FK k then x else f s) w':=by
 refine⟨h.1.trans hs,fun j hj hl=>?_⟩;by_cases e:j=k
 ·subst e;simp only[if_true];exact hx
 ·rw[bC (fun q=>e q.symm)]at hl;have hne:¬FK j=FK k:=by
   unfold FK;split<;>split<;>omega
  simp only[hne,if_false];exact(h.2 j hj hl).step hs
theorem JD:∀u∈(zA N).toList,u.oneCell'=true:=by
 intro u hu;simp only[zA,cw,List.not_mem_nil,or_false]at hu;rcases hu with rfl|rfl|rfl|rfl|rfl|rfl|rfl|rfl|rfl<;>rfl
theorem M8:∀u∈((zA N)++(zA N)).toList,u.oneCell'=true:=by
 intro u hu;rw[Array.toList_append,bV]at hu;rcases hu with h|h<;>exact JD u h
theorem Qy:∀u∈((zA N)++(zA N)++(zA N)).toList,u.oneCell'=true:=by
 intro u hu;rw[Array.toList_append,bV]at hu;rcases hu with h|h
 ·exact M8 u h
 ·exact JD u h
theorem V4(N:Nat):(zA N++zA N++zA N).size=3*4:=by rw[Array.size_append,Array.size_append];rfl
theorem V5(N:Nat):(zA N++zA N).size=2*4:=by rw[Array.size_append];rfl
theorem JE{v x:Value}{n B0 zb:Nat}{w:World}(ty:TypeId)(hn:n+m<=9000010)(hB:B0<=w.heap.size)(hv:GF w B0 v n)(hz:w.heap[zb]?=some (.cells (zA N) 53 (0,0)))(hvz:v.ownBlock≠some zb)(hs:Ci v.ownBlock w w1)(hx:Mq v.ownBlock w1 x m cs)(hcs:cs.size=m*4)(h1:∀u∈cs.toList,u.oneCell'=true):
  ∃r w',(Builtin.append_ #[33,33] ty #[v,x]).run prog w1=.ok r w'/\Ci v.ownBlock w1 w'/\DB w' B0 zb r (n+m):=by
 obtain⟨g,rfl,hg,hb⟩:=hx;obtain⟨r,w',hr,h2,h3,h4⟩:=Qw (hv.step hs) ty ⟨g,0,none⟩ m m cs.toList (by rw[cR,hcs]) (bI hb) h1 (by unfold maxLen;omega) (by omega) (by have:=hs.grown.size;omega);refine⟨r,w',hr,h3,h2,?_⟩;rcases h4 with h4|h4
 ·rw[h4];exact hvz
 ·rw[h4];have hzl:=(aM.1 hz).1;have:=hs.grown.size;intro e;injection e with e;omega
variable{Q:Exit->Act->World->Prop}{v x:Value}{n B0 pb zb s:Nat}{w:World}
theorem Xk(hs:s=14\/s=15\/s=19\/s=24)(h:x=v):FxA N v n B0 zb s x w:=by constructor<;>intro e<;>first|exact h|omega
theorem Uo(hs:s=16\/s=20\/s=21\/s=25\/s=26\/s=27)(h:x=.agg (zA N)):FxA N v n B0 zb s x w:=by constructor<;>intro e<;>first|exact h|omega
theorem ah(hs:s=17)(h:Mq v.ownBlock w x 1 (zA N)):FxA N v n B0 zb s x w:=by constructor<;>intro e<;>first|exact h|omega
theorem ai(hs:s=22)(h:Mq v.ownBlock w x 2 ((zA N)++(zA N))):FxA N v n B0 zb s x w:=by constructor<;>intro e<;>first|exact h|omega
theorem aj(hs:s=28)(h:Mq v.ownBlock w x 3 ((zA N)++(zA N)++(zA N))):FxA N v n B0 zb s x w:=by constructor<;>intro e<;>first|exact h|omega
theorem am(hs:s=18)(h:DB w B0 zb x (n+1)):FxA N v n B0 zb s x w:=by constructor<;>intro e<;>first|exact h|omega
theorem aq(hs:s=23)(h:DB w B0 zb x (n+2)):FxA N v n B0 zb s x w:=by constructor<;>intro e<;>first|exact h|omega
theorem au(hs:s=29)(h:DB w B0 zb x (n+3)):FxA N v n B0 zb s x w:=by constructor<;>intro e<;>first|exact h|omega
theorem ZK(hs:s=30\/s=5)(h:M7 v n B0 zb w x):FxA N v n B0 zb s x w:=by constructor<;>intro e<;>first|exact h|omega
structure Up(N:Nat)(v:Value)(n B0 zb:Nat)(w:World):Prop where
 hn:n<=9000000
 hB:B0<=w.heap.size
 hv:GF w B0 v n
 hz:w.heap[zb]?=some (.cells (zA N) 53 (0,0))
 hvz:v.ownBlock≠some zb
theorem Up.new(C:Up N v n B0 zb w)(hs:Ci v.ownBlock w w1):some w1.heap.size≠v.ownBlock:=fun e=>by
 obtain⟨xs,h2⟩:=C.hv.step hs;have:=(h2.lt _ e.symm).2;omega
theorem Up.z1(C:Up N v n B0 zb w)(hs:Ci v.ownBlock w w1):w1.heap[zb]?=some (.cells (zA N) 53 (0,0)):=by
 rw[hs.grown.block zb (aM.1 C.hz).1 (fun e=>C.hvz e.symm)];exact C.hz
def PpA(N:Nat)(cv:Value)(Q:Exit->Act->World->Prop)(v:Value)(n B0 pb zb:Nat)(w:World)(k:Nat):Prop:=∀(w1:World) (listed:Array Bool) (f:Nat->Value) (o:Oper),Up N v n B0 zb w->Qx N v n B0 zb w listed f w1->(GG Tryz.f87)[k]?=some o->(∀e∈o.after,Region.binds .any e=true->listed[e.on]?=some true)->
  wpOp prog (GG Tryz.f87) Q k (fun a' w'=>∃f',a'=frA N cv pb zb v f'/\Qx N v n B0 zb w (listed.setIfInBounds k true) f' w') (frA N cv pb zb v f) w1
theorem YK:PpA N cv Q v n B0 pb zb w 0:=by
 intro w1 listed f o C hI ho hd;have ho9:=ho;cases ho
 exact Ar (x:=v) (w':=w1) ho9 rfl rfl ⟨_,rfl,Bs 0 hI (by decide) (Ci.refl _ _) (Xk (by decide) rfl)⟩
theorem YL:PpA N cv Q v n B0 pb zb w 1:=by
 intro w1 listed f o C hI ho hd;have ho9:=ho;cases ho
 exact Ar (x:=v) (w':=w1) ho9 rfl rfl ⟨_,rfl,Bs 1 hI (by decide) (Ci.refl _ _) (Xk (by decide) rfl)⟩
theorem YM:PpA N cv Q v n B0 pb zb w 2:=by
 intro w1 listed f o C hI ho hd;have ho9:=ho;cases ho
 exact Ar (x:=.agg (zA N)) (w':=w1) ho9 rfl (Fp pb zb v f _ rfl w1 (C.z1 hI.1)) ⟨_,rfl,Bs 2 hI (by decide) (Ci.refl _ _) (Uo (by decide) rfl)⟩
theorem YN:PpA N cv Q v n B0 pb zb w 3:=by
 intro w1 listed f o C hI ho hd;have ho9:=ho;cases ho
 have q2:=hI.2 2 (by decide) (hd ⟨2,_⟩ (aW.1 (bK _)) rfl);have hnew:=C.new hI.1;exact Ar ho9 rfl (YG pb zb v f _ rfl w1 (q2.ld (by decide))) ⟨_,rfl,Bs 3 hI (by decide) (Ci.alloc _ _ _) (ah (by decide) ⟨w1.heap.size,rfl,hnew,aR w1 _⟩)⟩
theorem YO:PpA N cv Q v n B0 pb zb w 4:=by
 intro w1 listed f o C hI ho hd;have ho9:=ho;cases ho
 have q1:=hI.2 1 (by decide) (hd ⟨1,_⟩ (aW.1 (bK _)) rfl);have q3:=hI.2 3 (by decide) (hd ⟨3,_⟩ (aW.1 (bJ _ (bK _))) rfl);obtain⟨r,w2,hr,hs2,hrow⟩:=JE (cs:=(zA N)) 33 (by have:=C.hn;omega) C.hB C.hv C.hz C.hvz hI.1 (q3.b1 rfl) rfl JD;exact Ar ho9 rfl (OA (frA N cv pb zb v f) _ (.tmp 15) (.tmp 17) rfl w1 w2 v (f 17) r (q1.mv (by decide)) rfl hr) ⟨_,rfl,Bs 4 hI (by decide) hs2 (am (by decide) hrow)⟩
theorem YP:PpA N cv Q v n B0 pb zb w 5:=by
 intro w1 listed f o C hI ho hd;have ho9:=ho;cases ho
 exact Ar (x:=v) (w':=w1) ho9 rfl rfl ⟨_,rfl,Bs 5 hI (by decide) (Ci.refl _ _) (Xk (by decide) rfl)⟩
theorem YQ:PpA N cv Q v n B0 pb zb w 6:=by
 intro w1 listed f o C hI ho hd;have ho9:=ho;cases ho
 exact Ar (x:=.agg (zA N)) (w':=w1) ho9 rfl (Fp pb zb v f _ rfl w1 (C.z1 hI.1)) ⟨_,rfl,Bs 6 hI (by decide) (Ci.refl _ _) (Uo (by decide) rfl)⟩
theorem YR:PpA N cv Q v n B0 pb zb w 7:=by
 intro w1 listed f o C hI ho hd;have ho9:=ho;cases ho
 exact Ar (x:=.agg (zA N)) (w':=w1) ho9 rfl (Fp pb zb v f _ rfl w1 (C.z1 hI.1)) ⟨_,rfl,Bs 7 hI (by decide) (Ci.refl _ _) (Uo (by decide) rfl)⟩
theorem YS:PpA N cv Q v n B0 pb zb w 8:=by
 intro w1 listed f o C hI ho hd;have ho9:=ho;cases ho
 have q6:=hI.2 6 (by decide) (hd ⟨6,_⟩ (aW.1 (bK _)) rfl);have q7:=hI.2 7 (by decide) (hd ⟨7,_⟩ (aW.1 (bJ _ (bK _))) rfl);have hnew:=C.new hI.1;exact Ar ho9 rfl (YH pb zb v f _ rfl w1 (q6.ld (by decide)) (q7.ld (by decide))) ⟨_,rfl,Bs 8 hI (by decide) (Ci.alloc _ _ _) (ai (by decide) ⟨w1.heap.size,rfl,hnew,aR w1 _⟩)⟩
theorem YT:PpA N cv Q v n B0 pb zb w 9:=by
 intro w1 listed f o C hI ho hd;have ho9:=ho;cases ho
 have q5:=hI.2 5 (by decide) (hd ⟨5,_⟩ (aW.1 (bK _)) rfl);have q8:=hI.2 8 (by decide) (hd ⟨8,_⟩ (aW.1 (bJ _ (bK _))) rfl);have q4:=hI.2 4 (by decide) (hd ⟨4,_⟩ (aW.1 (bJ _ (bJ _ (bK _)))) rfl);obtain⟨r,w2,hr,hs2,hrow⟩:=JE (cs:=((zA N)++(zA N))) 33 (by have:=C.hn;omega) C.hB C.hv C.hz C.hvz hI.1 (q8.b2 rfl) (V5 N) M8;exact Ar ho9 rfl (OA (frA N cv pb zb v f) _ (.tmp 19) (.tmp 22) rfl w1 w2 v (f 22) r (q5.mv (by decide)) rfl hr) ⟨_,rfl,Bs 9 hI (by decide) hs2 (aq (by decide) hrow)⟩
theorem Xl:PpA N cv Q v n B0 pb zb w 10:=by
 intro w1 listed f o C hI ho hd;have ho9:=ho;cases ho
 exact Ar (x:=v) (w':=w1) ho9 rfl rfl ⟨_,rfl,Bs 10 hI (by decide) (Ci.refl _ _) (Xk (by decide) rfl)⟩
theorem Xm:PpA N cv Q v n B0 pb zb w 11:=by
 intro w1 listed f o C hI ho hd;have ho9:=ho;cases ho
 exact Ar (x:=.agg (zA N)) (w':=w1) ho9 rfl (Fp pb zb v f _ rfl w1 (C.z1 hI.1)) ⟨_,rfl,Bs 11 hI (by decide) (Ci.refl _ _) (Uo (by decide) rfl)⟩
theorem Xn:PpA N cv Q v n B0 pb zb w 12:=by
 intro w1 listed f o C hI ho hd;have ho9:=ho;cases ho
 exact Ar (x:=.agg (zA N)) (w':=w1) ho9 rfl (Fp pb zb v f _ rfl w1 (C.z1 hI.1)) ⟨_,rfl,Bs 12 hI (by decide) (Ci.refl _ _) (Uo (by decide) rfl)⟩
theorem Xo:PpA N cv Q v n B0 pb zb w 13:=by
 intro w1 listed f o C hI ho hd;have ho9:=ho;cases ho
 exact Ar (x:=.agg (zA N)) (w':=w1) ho9 rfl (Fp pb zb v f _ rfl w1 (C.z1 hI.1)) ⟨_,rfl,Bs 13 hI (by decide) (Ci.refl _ _) (Uo (by decide) rfl)⟩
theorem Xp:PpA N cv Q v n B0 pb zb w 14:=by
 intro w1 listed f o C hI ho hd;have ho9:=ho;cases ho
 have q11:=hI.2 11 (by decide) (hd ⟨11,_⟩ (aW.1 (bK _)) rfl);have q12:=hI.2 12 (by decide) (hd ⟨12,_⟩ (aW.1 (bJ _ (bK _))) rfl);have q13:=hI.2 13 (by decide) (hd ⟨13,_⟩ (aW.1 (bJ _ (bJ _ (bK _)))) rfl);have hnew:=C.new hI.1;exact Ar ho9 rfl (YI pb zb v f _ rfl w1 (q11.ld (by decide)) (q12.ld (by decide)) (q13.ld (by decide))) ⟨_,rfl,Bs 14 hI (by decide) (Ci.alloc _ _ _) (aj (by decide) ⟨w1.heap.size,rfl,hnew,aR w1 _⟩)⟩
theorem Xq:PpA N cv Q v n B0 pb zb w 15:=by
 intro w1 listed f o C hI ho hd;have ho9:=ho;cases ho
 have q10:=hI.2 10 (by decide) (hd ⟨10,_⟩ (aW.1 (bK _)) rfl);have q14:=hI.2 14 (by decide) (hd ⟨14,_⟩ (aW.1 (bJ _ (bK _))) rfl);have q9:=hI.2 9 (by decide) (hd ⟨9,_⟩ (aW.1 (bJ _ (bJ _ (bK _)))) rfl);obtain⟨r,w2,hr,hs2,hrow⟩:=JE (cs:=((zA N)++(zA N)++(zA N))) 33 (by have:=C.hn;omega) C.hB C.hv C.hz C.hvz hI.1 (q14.b3 rfl) (V4 N) Qy;exact Ar ho9 rfl (OA (frA N cv pb zb v f) _ (.tmp 24) (.tmp 28) rfl w1 w2 v (f 28) r (q10.mv (by decide)) rfl hr) ⟨_,rfl,Bs 15 hI (by decide) hs2 (au (by decide) hrow)⟩
theorem Xr:PpA N cv Q v n B0 pb zb w 16:=by
 intro w1 listed f o C hI ho hd;have ho9:=ho;cases ho
 have q0:=hI.2 0 (by decide) (hd ⟨0,_⟩ (aW.1 (bK _)) rfl);have q4:=hI.2 4 (by decide) (hd ⟨4,_⟩ (aW.1 (bJ _ (bK _))) rfl);have q9:=hI.2 9 (by decide) (hd ⟨9,_⟩ (aW.1 (bJ _ (bJ _ (bK _)))) rfl);have q15:=hI.2 15 (by decide) (hd ⟨15,_⟩ (aW.1 (bJ _ (bJ _ (bJ _ (bK _))))) rfl);have hnew:=C.new hI.1;have f0:f 14=v:=q0.mv (by decide);have R1:=q4.r1 rfl;have R2:=q9.r2 rfl;have R3:=q15.r3 rfl;obtain⟨⟨x0,hx0⟩,⟨x1,hx1⟩,⟨x2,hx2⟩,⟨x3,hx3⟩⟩:=aK (C.hv.step hI.1) (aK R1.1 (aK R2.1 R3.1));obtain⟨a0,c0,e0⟩:=Al hx0;obtain⟨a1,c1,e1⟩:=Al hx1;obtain⟨a2,c2,e2⟩:=Al hx2;obtain⟨a3,c3,e3⟩:=Al hx3;refine Ar ho9 rfl (YJ pb zb v f _ rfl w1 a0 a1 a2 a3 _ _ _ _ c0 c1 c2 c3 (f0.trans e0) e1 e2 e3) ⟨_,rfl,Bs 16 hI (by decide) (Ci.alloc _ _ _) (ZK (by decide) ?_)⟩;have S:=Ci.alloc v.ownBlock w1 (.cells #[.slice a0 n c0,.slice a1 (n+1) c1,.slice a2 (n+2) c2,.slice a3 (n+3) c3] 33);refine⟨w1.heap.size,f 18,f 23,f 29,rfl,hnew,?_,R1.step S,R2.step S,R3.step S⟩;rw[aR];have g1:f 18=.slice a1 (n+1) c1:=e1;have g2:f 23=.slice a2 (n+2) c2:=e2;have g3:f 29=.slice a3 (n+3) c3:=e3;rw[g1,g2,g3,e0]
theorem Xs:PpA N cv Q v n B0 pb zb w 17:=by
 intro w1 listed f o C hI ho hd;have ho9:=ho;cases ho
 have q16:=hI.2 16 (by decide) (hd ⟨16,_⟩ (aW.1 (bK _)) rfl);exact Ar (x:=f 30) (w':=w1) ho9 rfl rfl ⟨_,rfl,Bs 17 hI (by decide) (Ci.refl _ _) (ZK (by decide) (q16.rg (by decide)))⟩
theorem V6{id:Nat}(hn:n<=9000000)(hB:B0<=w.heap.size)(hv:GF w B0 v n)(hz:w.heap[zb]?=some (.cells (zA N) 53 (0,0)))(hvz:v.ownBlock≠some zb)
  (hQ:∀f' w',Ci v.ownBlock w w'->M7 v n B0 zb w' (f' 5)->Q .normal (frA N cv pb zb v f') w'):(Code.region id (GG Tryz.f87) true).wp prog Q (frA N cv pb zb v f) w:=by
 refine E4 (by kernel_rfl) (I:=fun listed a w1=>∃f',a=frA N cv pb zb v f'/\Qx N v n B0 zb w listed f' w1) Sa ⟨f,rfl,?_⟩ ?_ ?_
 ·refine⟨⟨⟨rfl,rfl,rfl,aO _,fun _ _ _=>rfl⟩,fun g cur h=>⟨cur,h,rfl⟩⟩,fun k hk hl=>?_⟩;rw[Il,Array.getElem?_replicate,if_pos hk]at hl;cases hl
 ·rintro listed a w1 i o ⟨f',rfl,hI⟩ hsz hi ho hd;rw[Il]at hi;have C:Up N v n B0 zb w:=⟨hn,hB,hv,hz,hvz⟩
  match i,hi with
  |0,_=>exact YK _ _ _ _ C hI ho hd
  |1,_=>exact YL _ _ _ _ C hI ho hd
  |2,_=>exact YM _ _ _ _ C hI ho hd
  |3,_=>exact YN _ _ _ _ C hI ho hd
  |4,_=>exact YO _ _ _ _ C hI ho hd
  |5,_=>exact YP _ _ _ _ C hI ho hd
  |6,_=>exact YQ _ _ _ _ C hI ho hd
  |7,_=>exact YR _ _ _ _ C hI ho hd
  |8,_=>exact YS _ _ _ _ C hI ho hd
  |9,_=>exact YT _ _ _ _ C hI ho hd
  |10,_=>exact Xl _ _ _ _ C hI ho hd
  |11,_=>exact Xm _ _ _ _ C hI ho hd
  |12,_=>exact Xn _ _ _ _ C hI ho hd
  |13,_=>exact Xo _ _ _ _ C hI ho hd
  |14,_=>exact Xp _ _ _ _ C hI ho hd
  |15,_=>exact Xq _ _ _ _ C hI ho hd
  |16,_=>exact Xr _ _ _ _ C hI ho hd
  |17,_=>exact Xs _ _ _ _ C hI ho hd
 ·rintro listed a w1 ⟨f',rfl,hI⟩ hl;exact hQ f' w1 hI.1 ((hI.2 17 (by decide) (hl 17 (by rw[Il];decide))).rg (by decide))
attribute [local go_sem ↓] Go.wp_at_zero Go.wp_at_succ
variable{g i:Nat}{a b c:World}{cur:Array Value}{s:Value}
structure De(B0 zb:Nat)(w w':World):Prop where
 os:w'.os=w.os
 tape:w'.tape=w.tape
 output:w'.output=w.output
 size:w.heap.size<=w'.heap.size
 block:∀g,g<w.heap.size->w'.heap[g]?=w.heap[g]?\/(B0<=g/\g≠zb/\∃cur cur':Array Value,w.heap[g]?=some (.cells cur 53 (0,0))/\w'.heap[g]?=some (.cells cur' 53 (0,0))/\cur'.size=cur.size)
theorem De.refl(B0 zb:Nat)(w:World):De B0 zb w w:=⟨rfl,rfl,rfl,aO _,fun _ _=>.inl rfl⟩
theorem De.trans(h:De B0 zb a b)(k:De B0 zb b c):De B0 zb a c:=by
 refine⟨k.os.trans h.os,k.tape.trans h.tape,k.output.trans h.output,bh h.size k.size,fun g hg=>?_⟩;rcases h.block g hg with h1|⟨h1,h2,c1,c2,h3,h4,h5⟩
 ·rcases k.block g (aQ hg h.size)with k1|⟨k1,k2,d1,d2,k3,k4,k5⟩
  ·exact .inl (k1.trans h1)
  ·exact .inr ⟨k1,k2,d1,d2,by rw[<-h1];exact k3,k4,k5⟩
 ·rcases k.block g (aQ hg h.size)with k1|⟨k1,k2,d1,d2,k3,k4,k5⟩
  ·exact .inr ⟨h1,h2,c1,c2,h3,by rw[k1];exact h4,h5⟩
  ·rw[h4]at k3;injection k3 with k3;injection k3 with k3;subst k3;exact .inr ⟨h1,h2,c1,d2,h3,k4,k5.trans h5⟩
theorem De.below(h:De B0 zb w w')(hB:B0<=w.heap.size):Below B0 w w':=
 ⟨h.os,h.tape,h.output,h.size,fun k hk=>by
  rcases h.block k (by omega)with h1|⟨h1,_⟩
  ·exact h1
  ·omega⟩
theorem De.drew(h:De B0 zb w w')(n:Nat):De B0 zb w (w'.drewN n):=⟨h.os,h.tape,h.output,h.size,h.block⟩
theorem De.other{t:TypeId}{q:Nat×Nat}(h:De B0 zb w w')(hg:w.heap[g]?=some (.cells cur t q))(ht:t≠53):w'.heap[g]?=some (.cells cur t q):=by
 rcases h.block g (aM.1 hg).1 with h1|⟨_,_,c1,c2,h3,_,_⟩
 ·rw[h1];exact hg
 ·rw[hg]at h3;injection h3 with h3;injection h3 with _ h3;exact absurd h3 ht
theorem De.keep(h:De B0 zb w w')(hg:zb<w.heap.size):w'.heap[zb]?=w.heap[zb]? :=by
 rcases h.block zb hg with h1|⟨_,h2,_⟩
 ·exact h1
 ·exact absurd rfl h2
theorem De.row(h:De B0 zb w w')(hs:DB w B0 zb s m):DB w' B0 zb s m:=by
 refine⟨?_,hs.2⟩;obtain⟨xs,h1,h2⟩:=hs.1;rcases h2 with h2|⟨g,cap,cur,e1,e2,e3,e4,e5,e6,e7⟩
 ·exact⟨xs,h1,.inl h2⟩
 ·have:∃cur':Array Value,w'.heap[g]?=some (.cells cur' 53 (0,0))/\cur'.size=cur.size:=by
   rcases h.block g (aM.1 e3).1 with k|⟨_,_,c1,c2,k3,k4,k5⟩
   ·exact⟨cur,by rw[k];exact e3,rfl⟩
   ·rw[e3]at k3;injection k3 with k3;injection k3 with k3;subst k3;exact⟨c2,k4,k5⟩
  obtain⟨cur',k1,k2⟩:=this;refine⟨cur'.toList.take (m*4),?_,.inr ⟨g,cap,cur',e1,e2,k1,e4,e5,by rw[k2,e6],rfl⟩⟩;rw[bR,cR,k2,e6];have:=bU 4 e4;omega
theorem De.set(hg:w.heap[g]?=some (.cells cur 53 (0,0)))(h1:B0<=g)(h2:g≠zb)(j:Nat)(u:Value):De B0 zb w (w.setCell ⟨g,j,none⟩ u)/\∃cur':Array Value,(w.setCell ⟨g,j,none⟩ u).heap[g]?=some (.cells cur' 53 (0,0)):=by
 refine⟨⟨rfl,rfl,rfl,by simp,fun k hk=>?_⟩,⟨_,bH w g j cur _ u hg⟩⟩;by_cases e:k=g
 ·subst e;exact .inr ⟨h1,h2,cur,_,hg,bH w k j cur _ u hg,by simp⟩
 ·exact .inl (aL w ⟨g,j,none⟩ k u e)
theorem De.set4(hg:w.heap[g]?=some (.cells cur 53 (0,0)))(h1:B0<=g)(h2:g≠zb)(j0 j1 j2 j3:Nat)(u0 u1 u2 u3:Value):De B0 zb w ((((w.setCell ⟨g,j0,none⟩ u0).setCell ⟨g,j1,none⟩ u1).setCell ⟨g,j2,none⟩ u2).setCell ⟨g,j3,none⟩ u3):=by
 obtain⟨t0,c0,k0⟩:=De.set hg h1 h2 j0 u0;obtain⟨t1,c1,k1⟩:=De.set k0 h1 h2 j1 u1;obtain⟨t2,c2,k2⟩:=De.set k1 h1 h2 j2 u2;obtain⟨t3,c3,k3⟩:=De.set k2 h1 h2 j3 u3;exact((t0.trans t1).trans t2).trans t3
theorem DB.open(h:DB w B0 zb s m)(hi:i<m):∃g cap cur,s=.slice (some ⟨g,0,none⟩) m cap/\B0<=g/\g≠zb/\m<=cap/\g<w.heap.size/\w.heap[g]?=some (.cells cur 53 (0,0))/\(∃q,w.cell? ⟨g,i*4,none⟩=some q)/\(∃q,w.cell? ⟨g,i*4+1,none⟩=some q)/\(∃q,w.cell? ⟨g,i*4+2,none⟩=some q)/\(∃q,w.cell? ⟨g,i*4+3,none⟩=some q)/\(∀j,w.frozen? ⟨g,j,none⟩=false):=by
 obtain⟨xs,h1,h2⟩:=h.1;rcases h2 with⟨_,h2⟩|⟨g,cap,cur,e1,e2,e3,e4,e5,e6,e7⟩
 ·omega
 ·subst e1;have hc:∀j,j<cur.size->∃q,w.cell? ⟨g,j,none⟩=some q:=fun j hj=>⟨cur[j],by rw[aP w g j cur _ _ e3];exact Array.getElem?_eq_getElem hj⟩;have hsz:i*4+3<cur.size:=by
   rw[e6];omega
  exact⟨g,cap,cur,rfl,e2,fun e=>h.2 (by rw[<-e];rfl),e4,(aM.1 e3).1,e3,hc _ (by omega),hc _ (by omega),hc _ (by omega),hc _ (by omega),fun j=>by simp[World.frozen?,e3]⟩
def Hp(N:Nat)(w:World)(g j:Nat):Prop:=∀o,o<4->w.cell? ⟨g,j*4+o,none⟩=(zA N)[o]?
def DR(N:Nat)(w w':World):Prop:=∀g j,Hp N w g j->Hp N w' g j
theorem DR.refl(N:Nat)(w:World):DR N w w:=fun _ _ h=>h
theorem DR.trans(h:DR N a b)(k:DR N b c):DR N a c:=fun g j hd=>k g j (h g j hd)
theorem DR.drew(h:DR N w w'):DR N w w'.drew:=h
theorem Uq{q:Nat}(hq:w.heap[q]?=some (.cells cur 53 (0,0)))(hsz:i*4+3<cur.size):
  DR N w ((((w.setCell ⟨q,i*4,none⟩ (.int .i64 (-7070))).setCell ⟨q,i*4+1,none⟩ (.int .i64 0)).setCell ⟨q,i*4+2,none⟩ (.int .i64 0)).setCell ⟨q,i*4+3,none⟩ (.int .i64 (N:Int)))/\Hp N ((((w.setCell ⟨q,i*4,none⟩ (.int .i64 (-7070))).setCell ⟨q,i*4+1,none⟩ (.int .i64 0)).setCell ⟨q,i*4+2,none⟩ (.int .i64 0)).setCell ⟨q,i*4+3,none⟩ (.int .i64 (N:Int))) q i:=by
 obtain⟨W,hW⟩:∃W,((((w.setCell ⟨q,i*4,none⟩ (.int .i64 (-7070))).setCell ⟨q,i*4+1,none⟩ (.int .i64 0)).setCell ⟨q,i*4+2,none⟩ (.int .i64 0)).setCell ⟨q,i*4+3,none⟩ (.int .i64 (N:Int)))=W:=⟨_,rfl⟩;have hb:W.heap[q]?=some (.cells ((((cur.setIfInBounds (i*4) (.int .i64 (-7070))).setIfInBounds (i*4+1) (.int .i64 0)).setIfInBounds (i*4+2) (.int .i64 0)).setIfInBounds (i*4+3) (.int .i64 (N:Int))) 53 (0,0)):=by
  rw[<-hW];exact(bH _ q (i*4+3) _ _ _ (bH _ q (i*4+2) _ _ _ (bH _ q (i*4+1) _ _ _ (bH _ q (i*4) _ _ _ hq))))
 have ho:∀k,k≠q->W.heap[k]?=w.heap[k]? :=fun k hk=>by
  rw[<-hW];rw[aL _ ⟨q,i*4+3,none⟩ k _ hk,aL _ ⟨q,i*4+2,none⟩ k _ hk,aL _ ⟨q,i*4+1,none⟩ k _ hk,aL _ ⟨q,i*4,none⟩ k _ hk]
 rw[hW];have hd:Hp N W q i:=fun o ho9=>by
  rw[aP W q _ _ _ _ hb]
  match o,ho9 with
  |0,_=>simp[zA,bN];omega
  |1,_=>simp[zA,bN];omega
  |2,_=>simp[zA,bN];omega
  |3,_=>simp[zA,bN];omega
 refine⟨fun g j h=>?_,hd⟩;by_cases e:g=q
 ·subst e;by_cases ej:j=i
  ·subst ej;exact hd
  ·intro o ho9;have h1:=h o ho9;rw[aP w g _ _ _ _ hq]at h1;rw[aP W g _ _ _ _ hb,<-h1];repeat rw[bC (by omega)]
 ·intro o ho9;rw[aV (ho g e)];exact h o ho9
theorem V7:(prog.info? 108).map (fun i=>(i.zero,i.size,i.bytes))=some (some (.slice none 0 0),1,24):=by kernel_rfl
theorem VM(bo tc cq tw th tx ty:Bool):(bo=true/\tc=true)\/(bo=true/\tc=false/\cq=false)\/(bo=true/\tc=false/\cq=true)\/(bo=false/\tc=true)\/(bo=false/\tc=false/\cq=false)\/(bo=false/\tc=false/\cq=true/\tw=true)\/(bo=false/\tc=false/\cq=true/\tw=false/\th=true)\/(bo=false/\tc=false/\cq=true/\tw=false/\th=false/\tx=true)\/(bo=false/\tc=false/\cq=true/\tw=false/\th=false/\tx=false/\ty=true)\/(bo=false/\tc=false/\cq=true/\tw=false/\th=false/\tx=false/\ty=false):=by
 cases bo<;>cases tc<;>cases cq<;>cases tw<;>cases th<;>cases tx<;>cases ty<;>simp
theorem Ml{S B:Nat->Prop}{c:Nat}{st:St}{bv:Value}(hf:AW st)(id:Int)(w:World)(h:Aw w S c st bv)(hSb:∀g,S g->g<w.heap.size)(hap:∀g,S g->¬B g)(hltB:∀g,B g->g<w.heap.size)(Wn Hn:Nat)(hWn:st.w=Wn)(hHn:st.h=Hn){L:List RB}{P D:Nat->Value}(hBf:AG w B bv (Wn*Hn) L P D):
  Calls prog 91 #[.pointer (some ⟨c,0,none⟩),.int .i64 id] w (Gs S B c bv (Wn*Hn) L P D (AZ st id).1 (AZ st id).2 (if st.isB id=true then Cq (st.rcDam id.toNat) Wn else fun _=>false) w):=by
 have hw:=hf.wf;have hIs:=D6 (S:=S) (c:=c) (st:=st) (bv:=bv) id w h hw.made;have hB:=AV hw id;have HE6:=Aa (Gs.same (er:=6) h hBf (aN _ _));unfold AZ;obtain⟨t,ht⟩:∃t,st.isB id=t:=⟨_,rfl⟩;rw[ht]at hIs hB ⊢;clear ht;have HI:=Aa hIs;clear hIs;cases t with
 |false=>
  rw[if_neg (by simp),if_neg (by simp)];clear hB h hBf hap hltB;go_enter func91,ntmps91
  go_wp2_with(go_at_call 127;refine HI.out.mono ?_;rintro e w' ⟨rfl,hw'⟩;replace hw':=hw'.symm;subst hw')
  go_ret;exact HE6.out
 |true=>
  rw[if_pos rfl,if_pos rfl];obtain⟨i,rfl,hio⟩:=hB.1 rfl;have hil:=hw.lt hio;rw[aX];have HPa:=Aa (Jl hw i w h);have HRef:=Aa h;have HBf:=Aa hBf;have HAp:=Aa (aK hap hltB);have HWn:=Aa (aK hWn hHn);have HSb:=Aa hSb;clear hBf hap hltB hWn hHn hSb;obtain⟨sv,ov,F,hr,hs⟩:=h;obtain⟨g,cap,e1,e2,e3,e4,e5,e6⟩:=hr.at (by omega);subst e1;obtain⟨_,cur,hcur⟩:=hr.gType;have hne:¬c=g:=Aj hr.scr hcur (by decide);have hne2:g≠c:=fun e=>hne e.symm;have hcl:=(aM.1 hr.scr).1;obtain⟨nS,hnS⟩:∃x,st.sfs.length=x:=⟨_,rfl⟩;have hmd:=hw.made;obtain⟨pa,pm,pc,hpx,hpm⟩:=(hs.pixN i hil).form;obtain⟨xa,xm,xc,hxx,hxm⟩:=(hs.pixX i hil).form;have q:=hs.rel i hil;obtain⟨ka,km,kc,hkk⟩:=q.kept;obtain⟨na,nm,nc,hnh⟩:=q.nhint;obtain⟨ha,hm,hc,hxh⟩:=q.xhint;obtain⟨lh9,hlh1,hlh2,hlh3⟩:=(hs.dat i hil).hinX;have HC:Hid (∀W',Below w.heap.size w W'->W'.cell? ⟨c,3,none⟩=some (.slice (some ⟨g,0,none⟩) nS cap)/\(∀o,o<28->W'.cell? ⟨g,i*28+o,none⟩=some (F i o))/\∀j,W'.frozen? ⟨g,j,none⟩=false):=fun W' hW=>by
   have r2:=hr.below hW;obtain⟨k0,k1,k2,k3,k4,kf,kl⟩:=r2.cells;obtain⟨g',cap',q1,q2,q3,q4,q5,q6⟩:=r2.at (by omega);injection q1 with q11 q12 q13;injection q11 with q11;injection q11 with q11;subst q11;rw[hnS]at k3;exact⟨k3,fun o ho=>q5 i hil o ho,q6⟩
  rw[hnS]at e3 hmd;have hin:i<nS:=by omega
  have hicap:i<cap:=by omega
  have HQ:=Aa (aK hr (aK hs (aK hil (aK hnS hio))));have HF:=Aa (aK q (aK hpx (aK hxx hxh)));rw[hxh]at hlh1;have lkN:=(hw.lk i).1;have lkX:=(hw.lk i).2;obtain⟨N,hN⟩:∃x,(st.sf i).now=x:=⟨_,rfl⟩;obtain⟨X,hX⟩:∃x,(st.sf i).next=x:=⟨_,rfl⟩;have z2:=q.nw;have z3:=q.nh;have z5:=q.nx;have z6:=q.ny;have z7:=q.ncut;have z8:=q.n0;have z9:=q.n1;have z10:=q.n2;have z11:=q.n3;have z12:=hnh;have y2:=q.xw;have y3:=q.xh;have y5:=q.xx;have y6:=q.xy;have y7:=q.xcut;have y8:=q.x0;have y9:=q.x1;have y10:=q.x2;have y11:=q.x3;have y12:=hxh;rw[hN]at z2 z3 z5 z6 z7 z8 z9 z10 z11 hpm lkN;rw[hX]at y2 y3 y5 y6 y7 y8 y9 y10 y11 hxm lkX hlh3;have HLh:=Aa (aK hlh1 (aK hlh2 hlh3));have HLm:Hid (hm=lh9.length):=by
   obtain⟨a9,c9,e9⟩:=hlh1.form;simp only[Value.slice.injEq]at e9;exact e9.2.1
  have HNX:=Aa (aK hN hX);clear hr hs e5 e6 hcur hB HE6 hil hN hX q hnS hlh1 hlh2 hlh3 hnh hxh;go_enter func91,ntmps91
  go_upto_region 5 with(first
   |(go_at_call 127;refine HI.out.mono ?_;rintro e w' ⟨rfl,hw'⟩;replace hw':=hw'.symm;subst hw')
   |(go_at_call 129;refine HPa.out.mono ?_;rintro e w1 ⟨v1,rfl,hv1,hb1⟩;have H1:=Aa (aK hv1 (aK trivial hb1));have hs1:=hb1.size;clear hv1 hb1))
  obtain⟨k3,kc9,kf⟩:=HC.out w1 H1.out.2.2;have hclw:c<w1.heap.size:=by omega
  have hglw:g<w1.heap.size:=by omega
  have d2:=kc9 2 (by omega);have d3:=kc9 3 (by omega);have d4:=kc9 4 (by omega);have d5:=kc9 5 (by omega);have d6:=kc9 6 (by omega);have d7:=kc9 7 (by omega);have d8:=kc9 8 (by omega);have d9:=kc9 9 (by omega);have d10:=kc9 10 (by omega);have d11:=kc9 11 (by omega);have d12:=kc9 12 (by omega);have d13:=kc9 13 (by omega);have d14:=kc9 14 (by omega);have d15:=kc9 15 (by omega);have d16:=kc9 16 (by omega);have d17:=kc9 17 (by omega);have d18:=kc9 18 (by omega);have d19:=kc9 19 (by omega);have d20:=kc9 20 (by omega);have d21:=kc9 21 (by omega);have d22:=kc9 22 (by omega);have d23:=kc9 23 (by omega);have d27:=kc9 27 (by omega);rw[z2]at d2;rw[z3]at d3;rw[hpx]at d4;rw[z5]at d5;rw[z6]at d6;rw[z7]at d7;rw[z8]at d8;rw[z9]at d9;rw[z10]at d10;rw[z11]at d11;rw[z12]at d12;rw[y2]at d13;rw[y3]at d14;rw[hxx]at d15;rw[y5]at d16;rw[y6]at d17;rw[y7]at d18;rw[y8]at d19;rw[y9]at d20;rw[y10]at d21;rw[y11]at d22;rw[y12]at d23;rw[hkk]at d27;have f2:=kf (i*28+2);have f3:=kf (i*28+3);have f4:=kf (i*28+4);have f5:=kf (i*28+5);have f6:=kf (i*28+6);have f7:=kf (i*28+7);have f8:=kf (i*28+8);have f9:=kf (i*28+9);have f10:=kf (i*28+10);have f11:=kf (i*28+11);have f12:=kf (i*28+12);have f27:=kf (i*28+27);clear kc9 kf z2 z3 z5 z6 z7 z8 z9 z10 z11 z12 y2 y3 y5 y6 y7 y8 y9 y10 y11 y12 hpx hxx hkk
  go_upto_region 9 with fail
  obtain⟨W2,hW2,⟨F1,r2,s2⟩,hO2,hz2,hB8,hB9,hoth⟩:=RH (N:=N) H1.out.2.2 HQ.out.1 HQ.out.2.1 HQ.out.2.2.1 HNX.out.2 pa xa ha na pm pc xm xc hm hc nm nc HF.out.2.2.1 HF.out.2.2.2;rw[hW2];clear hW2;have lw:=lkX.w;have lh:=lkX.h;have hKK:0<=X.w*X.h/\X.w*X.h<=24*24:=⟨Int.mul_nonneg lw.1 lh.1,Int.mul_le_mul lw.2 lh.2 lh.1 (by omega)⟩;obtain⟨K,hK⟩:∃K:Nat,(K:Int)=X.w*X.h:=⟨(X.w*X.h).toNat,by omega⟩;have hK576:K<=576:=by omega
  have m1:IntKind.i64.wrap (X.w*X.h)=(K:Int):=by rw[bB];omega
  have m2:wrap64 (X.w*X.h)=(K:Int):=by unfold wrap64;omega
  have hmk:∀W:World,(Instr.makeSlice 154 (.int .i64 (K:Int)) (.int .i64 (K:Int))).run prog W=.ok (.slice (some ⟨W.heap.size,0,none⟩) K K) (W.alloc (.cells (madeCells #[.bool false] K) 4)):=fun W=>run_make_row' 154 4 (.bool false) 1 underlying154 du rfl .i64 .i64 K (by omega) (by omega) W;obtain⟨g',cap',p1,p2,p3,p4,p5,p6⟩:=r2.at (show 0<st.sfs.length from by have:=HQ.out.2.2.1;omega);injection p1 with p11 p12 p13;injection p11 with p11;injection p11 with p11;subst p11;have u27:=p5 i HQ.out.2.2.1 27 (by omega);have v27:=p6 (i*28+27);have x0:W2.cell? ⟨w1.heap.size+1,0,none⟩=some (.int .i64 X.w):=hB9.cell 0;have x1:W2.cell? ⟨w1.heap.size+1,1,none⟩=some (.int .i64 X.h):=hB9.cell 1;have hgW:g<W2.heap.size:=by omega
  have hgb:¬w1.heap.size+1=g:=by omega
  have HZ2:=Aa hz2;have HM:=Aa (aK r2 (aK s2 (aK hO2 (aK hB8 (aK hB9 hoth)))));clear r2 s2 hO2 hB8 hB9 hoth p5 p6 p12 p13 d2 d3 d4 d5 d6 d7 d8 d9 d10 d11 d12 d13 d14 d15 d16 d17 d18 d19 d20 d21 d22 d23 d27 f2 f3 f4 f5 f6 f7 f8 f9 f10 f11 f12 f27 k3 hKK;have HK:=Aa (aK hK hz2);clear hK hz2
  go_upto_region 10 with fail
  have HW3:∃W3,(W2.setCell ⟨g,i*28+27,none⟩ (.slice (some ⟨W2.heap.size,0,none⟩) K K)).alloc (.cells (madeCells #[.bool false] K) 4)=W3/\(∃F2,B3 W3 S c st.w st.h st.sfs.length st.order bv (.slice (some ⟨g,0,none⟩) st.sfs.length cap) ov F2/\DG W3 S (upd st i BW) F2 i/\F2 i 27=.slice (some ⟨w1.heap.size+2,0,none⟩) K K)/\Ac S w W3/\W3.heap.size=w1.heap.size+3/\A2 W3 (w1.heap.size+2) K (fun _=>false)/\(∀b,b<w1.heap.size+2->b≠g->W3.heap[b]?=W2.heap[b]?)/\W3.cell? ⟨g,i*28+27,none⟩=some (.slice (some ⟨w1.heap.size+2,0,none⟩) K K):=by
   refine⟨_,rfl,?_⟩;have hz2:=HK.out.2;obtain⟨e29,cu9,hcu9⟩:=HM.out.1.gType;have r3:=(HM.out.1.set HQ.out.2.2.1 (show 27<28 by omega) (.slice (some ⟨W2.heap.size,0,none⟩) K K));have hpk:=BB (j:=i*28+27) (u:=.slice (some ⟨W2.heap.size,0,none⟩) K K) hcu9 (w':=W2) fun _ _ _ _ _=>rfl;have s3:DG (W2.setCell ⟨g,i*28+27,none⟩ (.slice (some ⟨W2.heap.size,0,none⟩) K K)) S (upd st i BW) (upF F1 i 27 (.slice (some ⟨W2.heap.size,0,none⟩) K K)) i:=by
    have s9:=HM.out.2.1.other hpk;refine⟨fun j hj=>?_,fun j hj hne=>?_,?_,?_,?_,?_⟩
    ·have q:=s9.rel j hj;by_cases e:j=i
     ·subst e;rw[Bx];exact⟨q.alive,q.parent,q.nw,q.nh,q.nx,q.ny,q.ncut,q.n0,q.n1,q.n2,q.n3,q.nhint,q.xw,q.xh,q.xx,q.xy,q.xcut,q.x0,q.x1,q.x2,q.x3,q.xhint,q.ask,q.sib,q.above,⟨_,_,_,rfl⟩⟩
     ·rw[D7 _ _ _ _ e];exact q
    ·rw[D7 _ _ _ _ hne];exact s9.dat j hj hne
    ·rw[Bx];exact s9.pixN
    ·rw[Bx];exact s9.pixX
    ·rw[Bx];exact s9.hinN
    ·rw[Bx];exact s9.hinX
   have zz:(W2.setCell ⟨g,i*28+27,none⟩ (.slice (some ⟨W2.heap.size,0,none⟩) K K)).heap.size=w1.heap.size+2:=by simp[hz2]
   have bm:=al1 (aO (W2.setCell ⟨g,i*28+27,none⟩ (.slice (some ⟨W2.heap.size,0,none⟩) K K)).heap.size) (.cells (madeCells #[.bool false] K) 4);have hbm:A2 ((W2.setCell ⟨g,i*28+27,none⟩ (.slice (some ⟨W2.heap.size,0,none⟩) K K)).alloc (.cells (madeCells #[.bool false] K) 4)) (w1.heap.size+2) K (fun _=>false):=by
    have h9:=Jt (W2.setCell ⟨g,i*28+27,none⟩ (.slice (some ⟨W2.heap.size,0,none⟩) K K)) K;rw[zz]at h9;exact h9
   obtain⟨g9,cap9,b1,_,_,_,b5,_⟩:=r3.at (show 0<st.sfs.length from by have:=HQ.out.2.2.1;omega);injection b1 with b11 b12 b13;injection b11 with b11;injection b11 with b11;subst b11;have c27:=b5 i HQ.out.2.2.1 27 (by omega);rw[Bx]at c27;refine⟨⟨_,r3.below bm,s3.below bm,by rw[Bx,hz2];rfl⟩,(HM.out.2.2.1.set (.inl e29) _).alloc _,by simp[hz2],hbm,fun b hb hne=>?_,?_⟩
   ·rw[Ad _ _ b (by omega)];exact aL W2 ⟨g,i*28+27,none⟩ b _ hne
   ·rw[BI _ _ g _ (by omega),c27];show some (if(27:Nat)=27 then _ else _)=_;rw[if_pos rfl,hz2]
  obtain⟨W3,hW3,⟨F2,r3,s3,hF27⟩,hO3,hz3,hB3,hoth3,k27⟩:=HW3;rw[hW3];clear hW3 u27 v27 x0 x1 m1 m2 hmk;have HLr:Hid (∀W:World,(∀(b:Nat) (cb:Array Value),w.heap[b]?=some (.cells cb 53 (0,0))->W.heap[b]?=w.heap[b]?)->As W (.slice ha hm hc) lh9):=fun W hW=>by
   have h9:=HLh.out.1.other hW;rw[HLm.out]at h9 ⊢;exact RG h9
  have HF27:=Aa hF27;clear hF27;obtain⟨_,cu3,hcu3⟩:=r3.gType;have hB9':Blk W3 (w1.heap.size+1) 212 #[.int .i64 X.w,.int .i64 X.h,.slice xa xm xc,.int .i64 X.x,.int .i64 X.y,.bool X.cut,.int .i64 X.clip.1,.int .i64 X.clip.2.1,.int .i64 X.clip.2.2.1,.int .i64 X.clip.2.2.2,.slice ha hm hc]:=(hoth3 _ (by omega) (by omega)).trans HM.out.2.2.2.2.1;have hB8':Blk W3 w1.heap.size 212 #[.int .i64 N.w,.int .i64 N.h,.slice pa pm pc,.int .i64 N.x,.int .i64 N.y,.bool N.cut,.int .i64 N.clip.1,.int .i64 N.clip.2.1,.int .i64 N.clip.2.2.1,.int .i64 N.clip.2.2.2,.slice na nm nc]:=(hoth3 _ (by omega) (by omega)).trans HM.out.2.2.2.1;have H3:=Aa (aK r3 (aK s3 (aK hO3 (aK hB3 (aK hoth3 (aK k27 (aK hcu3 (aK hB9' (aK hB8' hz3)))))))));clear r3 s3 hO3 hB3 hoth3 k27 hcu3 hB9' hB8' hz3;go_wp2
  go_loopg [10] K (fun gg s10 wr=>∃j:Nat,s10=.int .i64 j/\gg+j=K/\C2 (fun b=>b=w1.heap.size+2) 4 W3 wr/\A2 wr (w1.heap.size+2) K fun k=>decide (k<j)&&Cn X k)
  case atStart=>exact⟨0,rfl,by omega,C2.refl _ _ _,H3.out.2.2.2.1.congr fun k _=>by simp⟩
  case round=>
   rename World=>wr;obtain⟨j,rfl,hgj,hT,hBo⟩:=hrel;have HBo:=Aa hBo;have HT:=Aa hT;have k27r:wr.cell? ⟨g,i*28+27,none⟩=some (.slice (some ⟨w1.heap.size+2,0,none⟩) K K):=(aV (a:=⟨g,i*28+27,none⟩) (hT.other H3.out.2.2.2.2.2.2.1 (by decide))).trans H3.out.2.2.2.2.2.1;have hB9r:Blk wr (w1.heap.size+1) 212 _:=(hT.other H3.out.2.2.2.2.2.2.2.1 (by decide)).trans H3.out.2.2.2.2.2.2.2.1;have hKb:=hBo.has;cases gk with
   |zero=>
    have hlt:¬(j:Int)<(K:Int):=by omega
    clear hT hB9r hKb hBo;have hil:=HQ.out.2.2.1;have hf1:=hf.now hil;have hsz3:=H3.out.2.2.2.2.2.2.2.2.2;have hszr:=HT.out.size;have hne3:∀b,S b->¬b=w1.heap.size+2:=fun b hb e=>by have h9:=HSb.out b hb;omega
    have hk9:∀b,S b->b<W3.heap.size->wr.heap[b]?=W3.heap[b]? :=fun b hb hl=>HT.out.only.block b hl (hne3 b hb);have hRr:Aw wr (fun b=>S b\/b=w1.heap.size+2) c (upd st i BW) bv:=by
     have hsf:((upd st i BW).sf i)=BW (st.sf i):=by rw[Bf st i BW i hil,if_pos rfl]
     refine⟨_,ov,F2,by have h9:=(H3.out.1.keep hk9).mono (S':=fun b=>S b\/b=w1.heap.size+2) fun b hb=>.inl hb;rw[<-Ct st i BW]at h9;exact h9,(H3.out.2.1.keep hk9).full (fun b hb=>.inl hb) ?_⟩;rw[HF27.out,hsf];show AH wr _ _ ((st.sf i).next.w*(st.sf i).next.h) (Cn (st.sf i).next);rw[HNX.out.2,<-HK.out.1];exact Ih (HBo.out.congr fun k hk=>by have:k<j:=(by omega);simp[this]) (.inr rfl) (by omega)
    have hOr:Ac S w wr:=H3.out.2.2.1.trans ((HT.out.only).mono fun b hb he=>.inr ⟨by omega,by omega⟩);have HSt:=Aa (P9 hf1.wf hf1.sib i HQ.out.2.2.2.2 wr hRr);have H1r:Hid (AF wr w.heap.size v1 (st.partsL i)):=⟨Ai H1.out.1.1 fun b hb=>by
     have h8:=H1.out.1.1.lt b hb;obtain⟨cb,hcb⟩:=Ap H1.out.1.1 hb;have e2:W2.heap[b]?=w1.heap[b]? :=HM.out.2.2.2.2.2 b h8.2 (by omega);have e3:W3.heap[b]?=W2.heap[b]? :=H3.out.2.2.2.2.1 b (by omega) (by omega);have e4:=HT.out.other (e3.trans (e2.trans hcb)) (by decide);rw[e4,e3,e2],H1.out.1.2⟩
    have hB8r:Blk wr w1.heap.size 212 _:=(HT.out.other H3.out.2.2.2.2.2.2.2.2.1 (by decide)).trans H3.out.2.2.2.2.2.2.2.2.1;have hB9r:Blk wr (w1.heap.size+1) 212 _:=(HT.out.other H3.out.2.2.2.2.2.2.2.1 (by decide)).trans H3.out.2.2.2.2.2.2.2.1;have hpix:AC wr S (.slice pa pm pc) (N.w*N.h) N.pix:=by
     have h9:=HQ.out.2.1.pixN i hil;rw[HF.out.2.1,HNX.out.1]at h9;refine h9.other fun b cb hb=>?_;have hbl:=(aM.1 hb).1;have e1:w1.heap[b]?=w.heap[b]? :=H1.out.2.2.block b hbl;obtain⟨_,cug,hcug⟩:=HQ.out.1.gType;have hbg:b≠g:=Aj hb hcug (by decide);have e2:W2.heap[b]?=w1.heap[b]? :=HM.out.2.2.2.2.2 b (by omega) hbg;have e3:W3.heap[b]?=W2.heap[b]? :=H3.out.2.2.2.2.1 b (by omega) hbg;have e4:=HT.out.other (e3.trans (e2.trans (e1.trans hb))) (by decide);rw[e4,e3,e2,e1]
    have HP:=Aa (aK hpix (aK hB8r (aK hB9r hOr)));have HK9:=Aa hne3;clear hpix hB8r hB9r hOr hRr hk9 hne3
    go_upto_region 16 with(go_at_call 131;refine HSt.out.mono ?_;rintro e w5 ⟨bo,rfl,hR5,hO5,hP5,hbo⟩;have H5:=Aa (aK hR5 (aK hO5 hP5));have HBo5:=Aa hbo;have hs5:=hO5.size;clear hR5 hO5 hP5 hbo)
    have hnS':∀b,w.heap.size<=b->b<w1.heap.size+2->¬(S b\/b=w1.heap.size+2):=fun b h1 h2 h3=>by
     rcases h3 with h3|h3
     ·have:=HSb.out b h3;omega
     ·omega
    have hB8:Blk w5 w1.heap.size 212 _:=(H5.out.2.1.block _ (by omega) (hnS' _ (by omega) (by omega))).trans HP.out.2.1;have hB9:Blk w5 (w1.heap.size+1) 212 _:=(H5.out.2.1.block _ (by omega) (hnS' _ (by omega) (by omega))).trans HP.out.2.2.1;have H1x:Hid (AF w5 w.heap.size v1 (st.partsL i)):=⟨Ai H1r.out.1 fun b hb=>H5.out.2.1.block b (H1r.out.1.lt b hb).2 (hnS' b (H1r.out.1.lt b hb).1 (by have h9:=(H1.out.1.1.lt b hb).2;omega)),H1r.out.2⟩;have HPx:Hid (AC w5 S (.slice pa pm pc) (N.w*N.h) N.pix):=HP.out.1.other fun b cb=>H5.out.2.2 b cb _ (.inl rfl);have hcm:stk (upd st i BW) i=cm st i:=Xb st hil;have hwc:Wf (cm st i):=by rw[<-hcm];exact Va hf1.wf hf1.sib HQ.out.2.2.2.2
    have HR5:Hid (Aw w5 (AA (fun b=>S b\/b=w1.heap.size+2) wr w5) c (cm st i) bv):=by unfold Hid;rw[<-hcm];exact H5.out.1
    have hzw:=HP.out.2.2.2.size;have HGA:Hid (∀b,AA (fun b=>S b\/b=w1.heap.size+2) wr w5 b->¬B b):=fun b hb hB9=>by
     have h9:=HAp.out.2 b hB9;rcases hb with(hb|hb)|hb
     ·exact HAp.out.1 b hb hB9
     ·omega
     ·omega
    have HB5:Hid (AG w5 B bv (Wn*Hn) L P D):=(HBf.out.apart HAp.out.1 HP.out.2.2.2).apart (A:=fun b=>S b\/b=w1.heap.size+2) (fun b hb=>HGA.out b (.inl hb)) H5.out.2.1;have HO5:Hid (Ac (fun b=>S b\/B b) w w5):=(HP.out.2.2.2.mono fun b _ hb=>.inl hb).trans (H5.out.2.1.mono fun b hb1 hb=>by
     rcases hb with hb|hb
     ·exact .inl (.inl hb)
     ·exact .inr ⟨by omega,by omega⟩)
    have HFin:Hid (∀(W:World) (L':List RB) (Q:Nat->Bool),Aw W (AA (fun b=>S b\/b=w1.heap.size+2) wr w5) c (cm st i) bv->Ac B w5 W->AG W B bv (Wn*Hn) L' P D->Db L L' (Wn*Hn) Q->(∀k,Cq (st.rcDam i) Wn k=Q k)->Gs S B c bv (Wn*Hn) L P D 0 (cm st i) (Cq (st.rcDam i) Wn) w (.returned (.int .i64 0)) W):=fun W L' Q h1 h2 h3 h4 h5=>by
     have hz9:=h2.size;refine⟨rfl,h1.mono fun b hb=>?_,⟨L',h3,h4.congr fun k _=>h5 k⟩,HO5.out.trans (h2.mono fun b _ hb=>.inl (.inr hb))⟩;rcases hb with(hb|hb)|hb
     ·exact .inl hb
     ·exact .inr ⟨by omega,by omega⟩
     ·exact .inr ⟨by omega,by omega⟩
    have HHu:Hid (∀(W:World) (v:Value) (l:List R4) (base:Nat) (L0:List RB),Aw W (AA (fun b=>S b\/b=w1.heap.size+2) wr w5) c (cm st i) bv->AG W B bv (Wn*Hn) L0 P D->w.heap.size<=base->AF W base v l->l.length<=12->Calls prog 128 #[.pointer (some ⟨c,0,none⟩),v] W fun e w'=>e=.returned (.tuple #[])/\∃L',EA W w' B bv (Wn*Hn) L0 L' P D fun _ k=>Cq l Wn k):=fun W v l base L0 h1 h2 h3 h4 h5=>P4 hwc l v W h1 HGA.out Wn Hn HWn.out.1 HWn.out.2 h2 h4.rects (fun wr9 ho=>(h4.apartB (fun b hb=>aQ (HAp.out.2 b hb) h3) ho).rects) (by omega);have HPa2:Hid (∀W,Aw W (AA (fun b=>S b\/b=w1.heap.size+2) wr w5) c (cm st i) bv->Calls prog 129 #[.pointer (some ⟨c,0,none⟩),.int .i64 i] W (En ((cm st i).partsL i) W)):=fun W h1=>Jl hwc i W h1;have HLen:Hid ((st.partsL i).length<=12/\((cm st i).partsL i).length<=12/\∀r9,(chL r9).length<=12):=⟨Ia hw i,Ia hwc i,fun r9=>by unfold chL;split<;>simp⟩;obtain⟨lch,hlch⟩:∃l,chL (BG ((cm st i).otherAt i N.pix) (nrm ((cm st i).seen i)))=l:=⟨_,rfl⟩;have hcl9:i<(cm st i).sfs.length:=by rw[U2];exact hil
    have hnx:((cm st i).sf i).now=X:=by rw[MG st i i hil,if_pos rfl];exact HNX.out.2
    have HCh:Hid (N.w*N.h=X.w*X.h->Calls prog 132 #[.pointer (some ⟨c,0,none⟩),.int .i64 i,.slice pa pm pc] w5 (En lch w5)):=fun he=>by rw[<-hlch];exact P8 (S':=S) hwc i hcl9 (.slice pa pm pc) w5 HR5.out (by rw[hnx,<-he];exact HPx.out)
    have a0:w5.cell? ⟨w1.heap.size,0,none⟩=some (.int .i64 N.w):=hB8.cell 0;have a1:w5.cell? ⟨w1.heap.size,1,none⟩=some (.int .i64 N.h):=hB8.cell 1;have a2:w5.cell? ⟨w1.heap.size,2,none⟩=some (.slice pa pm pc):=hB8.cell 2;have a3:w5.cell? ⟨w1.heap.size,3,none⟩=some (.int .i64 N.x):=hB8.cell 3;have a4:w5.cell? ⟨w1.heap.size,4,none⟩=some (.int .i64 N.y):=hB8.cell 4;have a5:w5.cell? ⟨w1.heap.size,5,none⟩=some (.bool N.cut):=hB8.cell 5;have a6:w5.cell? ⟨w1.heap.size,6,none⟩=some (.int .i64 N.clip.1):=hB8.cell 6;have a7:w5.cell? ⟨w1.heap.size,7,none⟩=some (.int .i64 N.clip.2.1):=hB8.cell 7;have a8:w5.cell? ⟨w1.heap.size,8,none⟩=some (.int .i64 N.clip.2.2.1):=hB8.cell 8;have a9:w5.cell? ⟨w1.heap.size,9,none⟩=some (.int .i64 N.clip.2.2.2):=hB8.cell 9;have b0:w5.cell? ⟨w1.heap.size+1,0,none⟩=some (.int .i64 X.w):=hB9.cell 0;have b1:w5.cell? ⟨w1.heap.size+1,1,none⟩=some (.int .i64 X.h):=hB9.cell 1;have b3:w5.cell? ⟨w1.heap.size+1,3,none⟩=some (.int .i64 X.x):=hB9.cell 3;have b4:w5.cell? ⟨w1.heap.size+1,4,none⟩=some (.int .i64 X.y):=hB9.cell 4;have b5:w5.cell? ⟨w1.heap.size+1,5,none⟩=some (.bool X.cut):=hB9.cell 5;have b6:w5.cell? ⟨w1.heap.size+1,6,none⟩=some (.int .i64 X.clip.1):=hB9.cell 6;have b7:w5.cell? ⟨w1.heap.size+1,7,none⟩=some (.int .i64 X.clip.2.1):=hB9.cell 7;have b8:w5.cell? ⟨w1.heap.size+1,8,none⟩=some (.int .i64 X.clip.2.2.1):=hB9.cell 8;have b9:w5.cell? ⟨w1.heap.size+1,9,none⟩=some (.int .i64 X.clip.2.2.2):=hB9.cell 9;have hq:=Z9 N.clip.1 N.clip.2.1 N.clip.2.2.1 N.clip.2.2.2 X.clip.1 X.clip.2.1 X.clip.2.2.1 X.clip.2.2.2;obtain⟨cq,hcq⟩:∃t,(N.clip.1==X.clip.1&&(N.clip.2.1==X.clip.2.1&&(N.clip.2.2.1==X.clip.2.2.1&&N.clip.2.2.2==X.clip.2.2.2)))=t:=⟨_,rfl⟩;rw[hcq]at hq;obtain⟨tc,htc⟩:∃t,(N.cut != X.cut)=t:=⟨_,rfl⟩;obtain⟨tx,htx⟩:∃t,(N.x != X.x)=t:=⟨_,rfl⟩;obtain⟨ty,hty⟩:∃t,(N.y != X.y)=t:=⟨_,rfl⟩;obtain⟨tw,htw⟩:∃t,(N.w != X.w)=t:=⟨_,rfl⟩;obtain⟨th,hth⟩:∃t,(N.h != X.h)=t:=⟨_,rfl⟩;have HE:Hid (tw=false->th=false->N.w*N.h=X.w*X.h):=fun e1 e2=>by
     rw[e1]at htw;rw[e2]at hth;have h1:N.w=X.w:=by simpa using htw
     have h2:N.h=X.h:=by simpa using hth
     rw[h1,h2]
    have hmv:st.rmoved i=(bo||((tc|| !cq)||(tw||(th||(tx||ty))))):=by
     have h9:=HBo5.out;have hsf:((upd st i BW).sf i)=BW (st.sf i):=by rw[Bf st i BW i hil,if_pos rfl]
     rw[hcm,hsf,(B7 (g:=BW) hil (fun _=>rfl)).kids]at h9;unfold St.rmoved;rw[HNX.out.1,HNX.out.2,hcq,htc,htx,hty,htw,hth,h9];rfl
    have HDM:Hid ((bo||((tc|| !cq)||(tw||(th||(tx||ty)))))=true->∀k,Cq (st.rcDam i) Wn k=(Cq (st.partsL i) Wn k||Cq ((cm st i).partsL i) Wn k)):=fun he k=>by
     unfold St.rcDam;rw[hmv,if_pos he,TU]
    have HDC:Hid ((bo||((tc|| !cq)||(tw||(th||(tx||ty)))))=false->∀k,Cq (st.rcDam i) Wn k=Cq lch Wn k):=fun he k=>by
     unfold St.rcDam;rw[hmv,he,if_neg (by simp),HNX.out.1,hlch]
    have hlc12:lch.length<=12:=by rw[<-hlch];exact HLen.out.2.2 _
    clear hB8 hB9 hcm hnx hcl9 hcq hf1 hil hsz3 hszr hmv hlch hnS';have hcs:=VM bo tc cq tw th tx ty;rcases hcs with⟨rfl,rfl⟩|⟨rfl,rfl,rfl⟩|⟨rfl,rfl,rfl⟩|⟨rfl,rfl⟩|⟨rfl,rfl,rfl⟩|⟨rfl,rfl,rfl,rfl⟩|⟨rfl,rfl,rfl,rfl,rfl⟩|⟨rfl,rfl,rfl,rfl,rfl,rfl⟩|⟨rfl,rfl,rfl,rfl,rfl,rfl,rfl⟩|⟨rfl,rfl,rfl,rfl,rfl,rfl,rfl⟩;all_goals first
     |(have hcut:¬N.cut=X.cut:=bne_iff_ne.1 htc)
     |(have hcut:N.cut=X.cut:=(by simpa using htc))
    all_goals
     go_wp2_with(first
      |(go_at_call 132;refine(HCh.out (by first|exact HE.out rfl rfl|exact HE.out trivial trivial)).mono ?_;rintro e w6 ⟨v6,rfl,hv6,hb6⟩;have H6:=Aa hv6;have HR6:=Aa (HR5.out.keep (w':=w6) fun b _ hb=>hb6.block b hb);have HU6:=Aa (HB5.out.keep (w':=w6) fun b _ hb=>hb6.block b hb);have HO6:Hid (Ac B w5 w6):=Ac.below hb6;clear hv6 hb6)
      |(go_at_call_of 128 v1;refine(HHu.out _ _ _ _ _ HR5.out HB5.out (aO _) H1x.out HLen.out.1).mono ?_;rintro e w6 ⟨rfl,L6,ht6⟩;have HR6:=Aa (HR5.out.apart HGA.out ht6.only);have HU6:=Aa ht6.bufs;have HO6:=Aa ht6.only;have HL6:=Aa ht6.hurtB;clear ht6)
      |(go_at_call 129;refine(HPa2.out _ HR6.out).mono ?_;rintro e w7 ⟨v6,rfl,hv6,hb6⟩;have H6:=Aa hv6;have HR7:=Aa (HR6.out.keep (w':=w7) fun b _ hb=>hb6.block b hb);have HU7:=Aa (HU6.out.keep (w':=w7) fun b _ hb=>hb6.block b hb);have HO7:=Aa (HO6.out.after hb6);have hz6:=HO6.out.size;clear hv6 hb6)
      |(go_at_call 128;refine(HHu.out _ _ _ _ _ HR7.out HU7.out (by omega) H6.out HLen.out.2.1).mono ?_;rintro e w8 ⟨rfl,L8,ht8⟩;have HR8:=Aa (HR7.out.apart HGA.out ht8.only);have HU8:=Aa ht8.bufs;have HO8:=Aa (HO7.out.trans (ht8.only.mono fun _ _ h=>AI h));have HL8:=Aa (HL6.out.trans ht8.hurtB);clear ht8)
      |(go_at_call 128;refine(HHu.out _ _ _ _ _ HR6.out HU6.out (by omega) H6.out hlc12).mono ?_;rintro e w8 ⟨rfl,L8,ht8⟩;have HR8:=Aa (HR6.out.apart HGA.out ht8.only);have HU8:=Aa ht8.bufs;have HO8:=Aa (HO6.out.trans (ht8.only.mono fun _ _ h=>AI h));have HL8:=Aa ht8.hurtB;clear ht8))
    all_goals
     go_ret
     first
      |exact HFin.out _ _ _ HR8.out HO8.out HU8.out HL8.out (HDM.out (by simp))
      |exact HFin.out _ _ _ HR8.out HO8.out HU8.out HL8.out (HDC.out (by simp))
   |succ gj=>
    have hlt:(j:Int)<(K:Int):=by omega
    have hxw:X.w≠0:=fun e=>by
     have h9:=HK.out.1;rw[e,Int.zero_mul]at h9;omega
    have hxw1:1<=X.w:=by omega
    have y0:wr.cell? ⟨w1.heap.size+1,0,none⟩=some (.int .i64 X.w):=hB9r.cell 0;have y10:wr.cell? ⟨w1.heap.size+1,10,none⟩=some (.slice ha hm hc):=hB9r.cell 10;have y2:wr.cell? ⟨w1.heap.size+1,2,none⟩=some (.slice xa xm xc):=hB9r.cell 2;have hj0:(0:Int)<=(j:Int):=by omega
    have hsame:∀(t9:TypeId),Jj t9->t9≠4->∀(b:Nat) (cb:Array Value),w.heap[b]?=some (.cells cb t9 (0,0))->wr.heap[b]?=w.heap[b]? :=fun t9 ht9 hnb b cb hb=>by
     have hbl:=(aM.1 hb).1;have e1:w1.heap[b]?=w.heap[b]? :=H1.out.2.2.block b hbl;obtain⟨_,cug,hcug⟩:=HQ.out.1.gType;have hbg:b≠g:=Aj hb hcug (Du ht9).1;have e2:W2.heap[b]?=w1.heap[b]? :=HM.out.2.2.2.2.2 b (by omega) hbg;have e3:W3.heap[b]?=W2.heap[b]? :=H3.out.2.2.2.2.1 b (by omega) hbg;have e4:=HT.out.other (e3.trans (e2.trans (e1.trans hb))) hnb;rw[e4,e3,e2,e1]
    have hrects:=HLr.out wr (hsame _ (.inr (.inl rfl)) (by decide));have hpx9:AC wr S (.slice xa xm xc) (X.w*X.h) X.pix:=by
     have h9:=HQ.out.2.1.pixX i HQ.out.2.2.1;rw[HF.out.2.2.1,HNX.out.2]at h9;exact h9.other (hsame _ (.inl rfl) (by decide))
    have hjW:(j:Int)<X.w*X.h:=by rw[<-HK.out.1];exact hlt
    obtain⟨pg,pcap,pm9,ep,hpm9,hpc9,hpgl,m0,m1,m2,m3⟩:=hpx9.at hjW;injection ep with ep1 ep2 ep3;subst ep1 ep3;have hjm:(j:Int)<(xm:Int):=by omega
    have hjc:j<xc:=by omega
    have HHas:Hid (∀(W:World) (x y:Int),W.heap=wr.heap->Calls prog 122 #[.slice ha hm hc,.int .i64 x,.int .i64 y] W fun e w'=>e=.returned (.bool (X.hint x y))/\w'=W):=fun W x y hW=>by
     have h9:=DK lh9 (.slice ha hm hc) x y W (HLr.out W fun b cb hb=>by rw[hW];exact hsame _ (.inr (.inl rfl)) (by decide) b cb hb) (by unfold maxLen;have:=HLh.out.2.1;omega);rw[HLh.out.2.2]at h9;exact h9
    have hmod:Int.tmod (j:Int) X.w=(j:Int)%X.w:=Int.tmod_eq_emod_of_nonneg hj0;have hdiv:Int.tdiv (j:Int) X.w=(j:Int)/X.w:=Int.tdiv_eq_ediv_of_nonneg hj0;obtain⟨th9,hth9⟩:∃t,X.hint ((j:Int)%X.w) ((j:Int)/X.w)=t:=⟨_,rfl⟩;have HKo:Hid (Cn X j=(th9&&decide ((X.pix j).2.2.2=255))):=by unfold Hid Cn;rw[hth9]
    clear hT hB9r hBo hsame hrects hpx9 hpm9 hpc9 ep2;have HKb:=Aa hKb;clear hKb
    go_upto_region 13 with fail
    go_quiet ((go_at_call 122;exact Calls.quiet_of_same (HHas.out _ _ _ rfl)))
    have hw64:wrap64 ((j:Int)/X.w)=(j:Int)/X.w:=by
     have h1:0<=(j:Int)/X.w:=Int.ediv_nonneg hj0 (by omega);have h2:(j:Int)/X.w<=(j:Int):=Int.ediv_le_self _ hj0;unfold wrap64;omega
    rw[hw64,hth9];have hTz:=HT.out.drewN nq;have hKz:A2 (wr.drewN nq) (w1.heap.size+2) K (fun k=>decide (k<j)&&Cn X k):=HBo.out;have k27z:(wr.drewN nq).cell? ⟨g,i*28+27,none⟩=some (.slice (some ⟨w1.heap.size+2,0,none⟩) K K):=k27r;have y2z:(wr.drewN nq).cell? ⟨w1.heap.size+1,2,none⟩=some (.slice (some ⟨pg,0,none⟩) xm xc):=y2;have m3z:(wr.drewN nq).cell? ⟨pg,j*4+3,none⟩=some (.int .u8 (X.pix j).2.2.2):=m3;clear k27r y0 y10 y2 m0 m1 m2 m3 hw64 hth9 hmod hdiv HHas;generalize wr.drewN nq=wz at*;obtain⟨a3,ha3⟩:∃a,(X.pix j).2.2.2=a:=⟨_,rfl⟩;rw[ha3]at m3z HKo;clear ha3;obtain⟨q9,z9⟩:=hKz.has.cell j (by omega);have fz:=hKz.has.free j;obtain⟨cz,hcz,hczs⟩:=hKz.has;have HZ:Hid (∀v:Bool,Cn X j=v->C2 (fun b=>b=w1.heap.size+2) 4 W3 (wz.setCell ⟨w1.heap.size+2,j,none⟩ (.bool v))/\A2 (wz.setCell ⟨w1.heap.size+2,j,none⟩ (.bool v)) (w1.heap.size+2) K fun k=>decide (k<j+1)&&Cn X k):=fun v hv=>by
     refine⟨hTz.trans (C2.set (S:=fun b=>b=w1.heap.size+2) hcz rfl j _),(hKz.set j (by omega) v).congr fun k hk=>?_⟩;by_cases e:k=j
     ·subst e;simp[hv]
     ·have h1:decide (k<j+1)=decide (k<j):=by
       by_cases h:k<j
       ·simp[h,Nat.lt_succ_of_lt h]
       ·have:¬k<j+1:=by omega
        simp[h,this]
      simp[e,h1]
    clear hTz hcz hczs hKz;cases th9 with
    |false=>
     go_upto_region 14 with fail
     go_region
     all_goals
      go_wp2
      go_roundg gj
      case measure=>omega
      case rel=>exact⟨j+1,by go_num,by omega,(HZ.out false (by rw[HKo.out];rfl)).1.drew,(HZ.out false (by rw[HKo.out];rfl)).2.keep rfl⟩
    |true=>
     by_cases h255:a3=255
     ·subst h255
      go_upto_region 14 with fail
      go_region
      all_goals
       go_wp2
       go_roundg gj
       case measure=>omega
       case rel=>exact⟨j+1,by go_num,by omega,(HZ.out true (by rw[HKo.out];rfl)).1.drew,(HZ.out true (by rw[HKo.out];rfl)).2.keep rfl⟩
     ·go_upto_region 14 with fail
      go_region
      all_goals
       go_wp2
       go_roundg gj
       case measure=>omega
       case rel=>exact⟨j+1,by go_num,by omega,(HZ.out (a3==255) (by rw[HKo.out];first|rfl|simp)).1.drew,(HZ.out (a3==255) (by rw[HKo.out];first|rfl|simp)).2.keep rfl⟩
variable{K K':Nat->Prop}
def ZL(w:World)(K:Nat->Prop)(v:Value)(i:Nat):Prop:=
 ∃a m c,v=.slice a m c/\m<=1152921504606846976/\(0<m->∃b cur,a=some ⟨b,0,none⟩/\K b/\w.heap[b]?=some (.cells cur 53 (0,0))/\∀j,j<m->Hp i w b j)
def SV(w:World)(K:Nat->Prop)(v:Value)(i:Nat):Prop:=
 ∃g c cur,v=.slice (some ⟨g,0,none⟩) 4 c/\w.heap[g]?=some (.cells cur 33 (0,0))/\∀k,k<4->∃u,cur[k]?=some u/\ZL w K u i
theorem SV.keep{v:Value}{i:Nat}(h:SV w K v i)(hK:∀b,K b->K' b)(hk:∀(b:Nat) (cur:Array Value) (t:TypeId),(t=53/\K b)\/t=33->w.heap[b]?=some (.cells cur t (0,0))->w'.heap[b]?=w.heap[b]?):SV w' K' v i:=by
 obtain⟨g,c,cur,h1,h2,h3⟩:=h;refine⟨g,c,cur,h1,(hk g cur _ (.inr rfl) h2).trans h2,fun k hk4=>?_⟩;obtain⟨u,h4,a,m,c,h5,h6,h7⟩:=h3 k hk4;refine⟨u,h4,a,m,c,h5,h6,fun hm=>?_⟩;obtain⟨b,cur,h8,hKb,h9,h10⟩:=h7 hm;have e:=hk b cur _ (.inl ⟨rfl,hKb⟩) h9;exact⟨b,cur,h8,hK b hKb,e.trans h9,fun j hj o ho=>(aV e).trans (h10 j hj o ho)⟩
structure LJ(w:World)(K:Nat->Prop)(cv:Value)(N:Nat)(xs:List Value):Prop where
 row:w.ownsRow 0 108 1 cv N xs
 all:∀i,i<N->∃v,xs[i]?=some v/\SV w K v i
theorem LJ.keep{cv:Value}{N:Nat}{xs:List Value}(h:LJ w K cv N xs)(hK:∀b,K b->K' b)(hk:∀(b:Nat) (cur:Array Value) (t:TypeId),(t=53/\K b)\/t=33\/t=108->w.heap[b]?=some (.cells cur t (0,0))->w'.heap[b]?=w.heap[b]?):LJ w' K' cv N xs:=by
 refine⟨Ai h.row fun g hg=>?_,fun i hi=>?_⟩
 ·obtain⟨cur,hc⟩:=Ap h.row hg;exact hk g cur _ (.inr (.inr rfl)) hc
 ·obtain⟨v,h1,h2⟩:=h.all i hi;exact⟨v,h1,h2.keep hK fun b cur t ht hb=>hk b cur t (ht.imp id .inl) hb⟩
theorem LJ.nil(w:World)(K:Nat->Prop):LJ w K (.slice none 0 0) 0 []:=⟨bA _ _ _ _,fun i hi=>by omega⟩
def zV(N:Nat):Array Value:=#[.int .i64 (-7070),.int .i64 0,.int .i64 0,.int .i64 (N:Int),.int .i64 0,.int .i64 0,.int .i64 0,.int .i64 0,.int .i64 0]
def Mt(N:Nat)(w:World)(g j:Nat):Prop:=∀o,o<9->w.cell? ⟨g,j*9+o,none⟩=(zV N)[o]?
def ZP(w:World)(K:Nat->Prop)(v:Value)(i:Nat):Prop:=
 ∃a m c,v=.slice a m c/\m<=1152921504606846976/\(0<m->∃b cur,a=some ⟨b,0,none⟩/\K b/\w.heap[b]?=some (.cells cur 59 (0,0))/\∀j,j<m->Mt i w b j)
def SX(w:World)(K:Nat->Prop)(v:Value)(i:Nat):Prop:=
 ∃g c cur,v=.slice (some ⟨g,0,none⟩) 4 c/\w.heap[g]?=some (.cells cur 56 (0,0))/\∀k,k<4->∃u,cur[k]?=some u/\ZP w K u i
theorem SX.keep{v:Value}{i:Nat}(h:SX w K v i)(hK:∀b,K b->K' b)(hk:∀(b:Nat) (cur:Array Value) (t:TypeId),(t=59/\K b)\/t=56->w.heap[b]?=some (.cells cur t (0,0))->w'.heap[b]?=w.heap[b]?):SX w' K' v i:=by
 obtain⟨g,c,cur,h1,h2,h3⟩:=h;refine⟨g,c,cur,h1,(hk g cur _ (.inr rfl) h2).trans h2,fun k hk4=>?_⟩;obtain⟨u,h4,a,m,c,h5,h6,h7⟩:=h3 k hk4;refine⟨u,h4,a,m,c,h5,h6,fun hm=>?_⟩;obtain⟨b,cur,h8,hKb,h9,h10⟩:=h7 hm;have e:=hk b cur _ (.inl ⟨rfl,hKb⟩) h9;exact⟨b,cur,h8,hK b hKb,e.trans h9,fun j hj o ho=>(aV e).trans (h10 j hj o ho)⟩
structure LK(w:World)(K:Nat->Prop)(cv:Value)(N:Nat)(xs:List Value):Prop where
 row:w.ownsRow 0 113 1 cv N xs
 all:∀i,i<N->∃v,xs[i]?=some v/\SX w K v i
theorem LK.keep{cv:Value}{N:Nat}{xs:List Value}(h:LK w K cv N xs)(hK:∀b,K b->K' b)(hk:∀(b:Nat) (cur:Array Value) (t:TypeId),(t=59/\K b)\/t=56\/t=113->w.heap[b]?=some (.cells cur t (0,0))->w'.heap[b]?=w.heap[b]?):LK w' K' cv N xs:=by
 refine⟨Ai h.row fun g hg=>?_,fun i hi=>?_⟩
 ·obtain⟨cur,hc⟩:=Ap h.row hg;exact hk g cur _ (.inr (.inr rfl)) hc
 ·obtain⟨v,h1,h2⟩:=h.all i hi;exact⟨v,h1,h2.keep hK fun b cur t ht hb=>hk b cur t (ht.imp id .inl) hb⟩
theorem LK.nil(w:World)(K:Nat->Prop):LK w K (.slice none 0 0) 0 []:=⟨bA _ _ _ _,fun i hi=>by omega⟩
theorem Mt.drew9{g j:Nat}(h:Mt N w g j):Mt N w.drew g j:=h
def mkP(k:Int):R4:=(k,0,0,77)
theorem QH(k:Int)(hk:0<=k/\k<=250)(w:World):
  Calls prog 51 #[.int .i64 k] w fun e w'=>e=.returned (.agg #[.int .u8 k,.int .u8 0,.int .u8 0,.int .u8 77])/\Below w.heap.size w w':=by
 have e1:Int.tmod k 251=k:=by rw[Int.tmod_eq_emod_of_nonneg hk.1];omega
 have e2:Int.tdiv k 251=0:=by rw[Int.tdiv_eq_ediv_of_nonneg hk.1];omega
 have e3:Int.tdiv k 63001=0:=by rw[Int.tdiv_eq_ediv_of_nonneg hk.1];omega
 go_enter func51,ntmps51
 go_wp2;refine cU (v:=.agg #[.int .u8 k,.int .u8 0,.int .u8 0,.int .u8 77]) (by simp[results,results51,go_sem]) rfl ⟨rfl,al1 (aO _) _⟩
theorem X8(w:World):Calls prog 51 #[.int .i64 5] w fun e w'=>e=.returned (.agg #[.int .u8 5,.int .u8 0,.int .u8 0,.int .u8 77])/\Below w.heap.size w w':=QH 5 (by decide) w
theorem X9(w:World):Calls prog 51 #[.int .i64 6] w fun e w'=>e=.returned (.agg #[.int .u8 6,.int .u8 0,.int .u8 0,.int .u8 77])/\Below w.heap.size w w':=QH 6 (by decide) w
def D0(w':World)(base:Nat)(v:Value)(l:List R4)(u:Value):Prop:=
 (v=.slice none 0 0/\u=.slice none 0 0/\l=[])\/((∃ad c,v=.slice (some ad) l.length c)/\∃g cap,u=.slice (some ⟨g,0,none⟩) l.length cap/\w'.ownsRow base 51 4 (.slice (some ⟨g,0,none⟩) (l.length+2) cap) (l.length+2) (Aq (l++[mkP 5,mkP 6])))
theorem Nf(l:List R4)(v:Value)(w:World)(h:Bb w v l)(hv:(v=.slice none 0 0/\l=[])\/∃ad c,v=.slice (some ad) l.length c)(hr:l.length*4<=140737488351232):
  Calls prog 136 #[v] w fun e w'=>∃u,e=.returned u/\D0 w' w.heap.size v l u/\Below w.heap.size w w':=by
 obtain⟨i0,hi0,hz0,hz1,hz2⟩:=cW Ed;rcases hv with⟨rfl,rfl⟩|⟨ad,c,rfl⟩
 ·clear h hr;have hq:=J0;go_enter func136,ntmps136
  go_wp2;go_ret;exact⟨_,rfl,.inl ⟨rfl,rfl,rfl⟩,aN _ _⟩
 ·have hnews:=KS h fun e=>.inr ⟨ad,c,by rw[e];rfl⟩;obtain⟨n,hn⟩:∃n,l.length=n:=⟨_,rfl⟩;rw[hn]at hr hnews;rw[hn];have HN:=Aa hn;have HNw:=Aa hnews;clear hnews h hn;have hq:=Fy;go_enter func136,ntmps136
  go_wp2_with(first
   |(at_builtin;refine Am (P:=prog) rfl (.tmp 6) (.tmp 7) 44 rfl w.heap.size 51 i0 _ 4 4 underlying44 hi0 hz0 hz1 hz2 rfl (by decide) (.slice none 0 0) 0 [] rfl ?_ (.slice (some ad) n c) n (Aq l) rfl ?_ ?_ (DY _) (by unfold maxLen;omega) (by omega) (aO _) ?_;exact bA _ _ _ _;(rw[BM,HN.out]);exact HNw.out;intro v3 w3 ho3 hg3 hn3 ha3;have HB3:=Aa ((aN w.heap.size w).grown hg3 (aO _) (fun k hk=>by simp[Value.ownBlock]at hk));have hs3:w.heap.size<=w3.heap.size:=HB3.out.size;have HO3:=Aa ho3;clear ho3 hg3 hn3 ha3)
   |(go_at_call 51;refine(X9 w5).mono ?_;rintro e6 w6 ⟨rfl,hb6⟩;have HB6:=Aa (HB5.out.trans (hb6.mono HB5.out.size));have hs6:w3.heap.size<=w6.heap.size:=HB6.out.size;clear hb6)
   |(go_at_call 51;refine(X8 w3).mono ?_;rintro e5 w5 ⟨rfl,hb5⟩;have HB5:=Aa hb5;clear hb5)
   |(at_builtin;refine wpList_append_lies _ rfl (.tmp 9) (.tmp 12) 44 rfl w.heap.size 51 i0 _ 4 4 underlying44 hi0 hz0 hz1 hz2 rfl (by decide) v3 (0+n) ([]++Aq l) rfl ((Ai HO3.out fun g hg=>HB6.out.block g (HO3.out.lt g hg).2).alloc _) ⟨w6.heap.size,0,none⟩ 2 2 (Aq [mkP 5,mkP 6]) rfl rfl (bI (cs:=#[.int .u8 5,.int .u8 0,.int .u8 0,.int .u8 77,.int .u8 6,.int .u8 0,.int .u8 0,.int .u8 77]) (t:=51) (fr:=(0,0)) (aR w6 _)) (DY _) (by omega) (by unfold maxLen;omega) (by omega) (by simp;omega) _ rfl ?_;intro g4 c4 w4 ho4 hg4 ha4 hl4;have HO4:=Aa ho4;have hc4:n<=c4:=(by have:=A7 ho4;omega);have HB4:=Aa (((HB3.out.trans (HB6.out.mono hs3)).alloc (by omega) _).grown hg4 (by simp;omega) (fun k hk=>(HO3.out.lt k hk).1));clear ho4 hg4 ha4 hl4))
  go_ret;refine⟨_,rfl,.inr ⟨⟨ad,c,by rw[HN.out]⟩,g4,c4,by rw[HN.out];rfl,?_⟩,HB4.out⟩;have h9:=HO4.out;rw[Nat.zero_add,List.nil_append]at h9;rw[HN.out,D5];exact h9
theorem LM{w:World}{base:Nat}{e:TypeId}{size n:Nat}{v:Value}{xs:List Value}(h:w.ownsRow base e size v n xs):A4 w (fun _=>True) e size v n xs:=
 ⟨⟨h.1,h.2.imp (fun h=>h) fun⟨g,c,cur,e1,_,e3⟩=>⟨g,c,cur,e1,cB _,e3⟩⟩,fun _ _=>trivial⟩
theorem Hr(l:List R4)(u v:Value)(base:Nat)(w:World)(hv:Bb w v l)(hu:D0 w base v l u)(hr:l.length*4<=140737488351232):
  Calls prog 138 #[u,v] w fun e w'=>e=.returned (.bool true)/\w.grownBy w' u.ownBlock:=by
 rcases hu with⟨rfl,rfl,rfl⟩|⟨⟨ad,c,rfl⟩,g,cap,rfl,hown⟩
 ·clear hv hr;have hq:=J0;go_enter func138,ntmps138
  go_wp2;go_ret;exact⟨rfl,rfl,rfl,rfl,aO _,fun _ _ _=>rfl⟩
 ·have hq:=Fy;have hq2:=fun(a b c d:Int)=>X4 a b c d a b c d;have hcap:=A7 hown;have hgl:=(hown.lt g rfl).2;obtain⟨n,hn⟩:∃n,l.length=n:=⟨_,rfl⟩;have HKeep:Hid (∀w6,Below w.heap.size w w6->Bb w6 (.slice (some ad) n c) l/\w6.ownsRow base 51 4 (.slice (some ⟨g,0,none⟩) (n+2) cap) (n+2) (Aq (l++[mkP 5,mkP 6]))/\w.grownBy w6 (some g)):=fun w6 hb=>by
   rw[hn]at hv hown;exact⟨hv.below hb,Ai hown fun b hb2=>hb.block b (hown.lt b hb2).2,hb.os,hb.tape,hb.output,hb.size,fun k hk _=>hb.block k hk⟩
  have HCl:Hid (∀w6,Below w.heap.size w w6->w6.cell? ⟨g,n*4,none⟩=some (.int .u8 5)/\w6.cell? ⟨g,n*4+1,none⟩=some (.int .u8 0)/\w6.cell? ⟨g,n*4+2,none⟩=some (.int .u8 0)/\w6.cell? ⟨g,n*4+3,none⟩=some (.int .u8 77)/\w6.cell? ⟨g,(n+1)*4,none⟩=some (.int .u8 6)/\w6.cell? ⟨g,(n+1)*4+1,none⟩=some (.int .u8 0)/\w6.cell? ⟨g,(n+1)*4+2,none⟩=some (.int .u8 0)/\w6.cell? ⟨g,(n+1)*4+3,none⟩=some (.int .u8 77)):=fun w6 hb=>by
   obtain⟨_,h2,_⟩:=HKeep.out w6 hb;obtain⟨g',c',e',_,_,_,q,_⟩:=(LM h2).open (by omega);injection e' with e1 e2 e3;injection e1 with e1;injection e1 with e1;subst e1;have h5:∀h:n<(l++[mkP 5,mkP 6]).length,(l++[mkP 5,mkP 6])[n]=mkP 5:=fun h=>by
    rw[List.getElem_append_right (by omega)];simp[hn]
   have h6:∀h:n+1<(l++[mkP 5,mkP 6]).length,(l++[mkP 5,mkP 6])[n+1]=mkP 6:=fun h=>by
    rw[List.getElem_append_right (by omega)];simp[hn]
   have hl5:n<(l++[mkP 5,mkP 6]).length:=by simp;omega
   have hl6:n+1<(l++[mkP 5,mkP 6]).length:=by simp;omega
   obtain⟨a1,a2,a3,a4⟩:=Bk _ n hl5;obtain⟨b1,b2,b3,b4⟩:=Bk _ (n+1) hl6;rw[h5]at a1 a2 a3 a4;rw[h6]at b1 b2 b3 b4;exact⟨q _ _ a1,q _ _ a2,q _ _ a3,q _ _ a4,q _ _ b1,q _ _ b2,q _ _ b3,q _ _ b4⟩
  rw[hn]at hr hcap;rw[hn];have HN:=Aa hn;clear hv hown hn;have hc2:(n:Int)+2<=(cap:Int):=by omega
  have t0:(0:Int)<=(n:Int):=by omega
  have t1:(n:Int)<(n:Int)+2:=by omega
  have t2:(0:Int)<=(n:Int)+1:=by omega
  have t3:(n:Int)+1<(n:Int)+2:=by omega
  have t4:IntKind.i64.wrap ((n:Int)+1)=(n:Int)+1:=by rw[bB];omega
  have t5:IntKind.i64.wrap ((n:Int)+2)=(n:Int)+2:=by rw[bB];omega
  have t6:((n:Int)+1).toNat=n+1:=by omega
  have t7:((n:Int)+2).toNat=n+2:=by omega
  obtain⟨k0,k1,k2,k3,k4,k5,k6,k7⟩:=HCl.out w (aN _ _);go_enter func138,ntmps138
  go_wp2_with fail
  go_region_held3 (fun w'=>w'.cell? ⟨g,n*4,none⟩=some (.int .u8 5)/\w'.cell? ⟨g,n*4+1,none⟩=some (.int .u8 0)/\w'.cell? ⟨g,n*4+2,none⟩=some (.int .u8 0)/\w'.cell? ⟨g,n*4+3,none⟩=some (.int .u8 77)/\w'.cell? ⟨g,(n+1)*4,none⟩=some (.int .u8 6)/\w'.cell? ⟨g,(n+1)*4+1,none⟩=some (.int .u8 0)/\w'.cell? ⟨g,(n+1)*4+2,none⟩=some (.int .u8 0)/\w'.cell? ⟨g,(n+1)*4+3,none⟩=some (.int .u8 77))
   (first
    |exact HCl.out _ (aN _ _)
    |exact HCl.out _ H6.out
    |exact HCl.out _ H5.out
    |exact HCl.out _ (aN _ _).drew
    |fail)
   (first
    |(go_at_call 51;refine(X9 w5).mono ?_;rintro e6 w6 ⟨rfl,hb6⟩;have H6:=Aa (H5.out.trans (hb6.mono H5.out.size));clear hb6)
    |(go_at_call 51;refine(X8 _).mono ?_;rintro e5 w5 ⟨rfl,hb5⟩;have H5:=Aa ((aN w.heap.size w).drew.trans hb5);clear hb5)
    |fail)
  have hg6:g<w6.heap.size:=aQ hgl H6.out.size;have HP:=Aa (HKeep.out w6 H6.out);clear k0 k1 k2 k3 k4 k5 k6 k7 HCl HKeep H5;go_wp2
  go_loopg [6,7] n (fun gg s6 s7 wr=>s6=.bool true/\∃i:Nat,s7=.int .i64 i/\gg+i=n/\∃nq,wr=w6.drewN nq)
  case atStart=>exact⟨rfl,0,rfl,by omega,0,rfl⟩
  case round=>
   obtain⟨rfl,i,rfl,hgi,n0,rfl⟩:=hrel;cases gk with
   |zero=>
    have hlt:¬(i:Int)<(n:Int):=by omega
    go_wp2
    go_loopg [8] (n+2) (fun gg s8 wr=>∃i:Nat,s8=.int .i64 i/\gg+i=n+2/\∃X,wr.ownsRow base 51 4 (.slice (some ⟨g,0,none⟩) (n+2) cap) (n+2) X/\w.grownBy wr (some g))
    case atStart=>exact⟨0,rfl,by omega,_,HP.out.2.1,HP.out.2.2.os,HP.out.2.2.tape,HP.out.2.2.output,HP.out.2.2.size,HP.out.2.2.block⟩
    case round=>
     rename World=>wr;obtain⟨i,rfl,hgi,X,hown,hgr⟩:=hrel;cases gk with
     |zero=>
      have hlt:¬(i:Int)<(n:Int)+2:=by omega
      have HG:=Aa hgr;clear hgr hown;go_wp2;go_ret;exact⟨rfl,HG.out⟩
     |succ g2=>
      have hlt:(i:Int)<(n:Int)+2:=by omega
      have hgw:=(hown.lt g rfl).2;have hXl:=hown.1;obtain⟨g',c',e',_,_,_,q,_⟩:=(LM hown).open (by omega);injection e' with e1 e2 e3;injection e1 with e1;injection e1 with e1;subst e1;obtain⟨x0,y0⟩:∃x,wr.cell? ⟨g,i*4,none⟩=some x:=⟨_,q _ _ (aU (show i*4<X.length by omega))⟩;obtain⟨x1,y1⟩:∃x,wr.cell? ⟨g,i*4+1,none⟩=some x:=⟨_,q _ _ (aU (show i*4+1<X.length by omega))⟩;obtain⟨x2,y2⟩:∃x,wr.cell? ⟨g,i*4+2,none⟩=some x:=⟨_,q _ _ (aU (show i*4+2<X.length by omega))⟩;obtain⟨x3,y3⟩:∃x,wr.cell? ⟨g,i*4+3,none⟩=some x:=⟨_,q _ _ (aU (show i*4+3<X.length by omega))⟩;have z0:=CM hown (i*4);have z1:=CM hown (i*4+1);have z2:=CM hown (i*4+2);have z3:=CM hown (i*4+3);have HK:=Aa (aK hown hgr);clear hown hgr q hXl e2 e3;go_wp2
      go_roundg g2
      case measure=>omega
      case rel=>
       refine⟨i+1,by go_num,by omega,_,Dr (Dr (Dr (Dr HK.out.1 _) _) _) _,?_⟩;have hg:=HK.out.2;refine⟨hg.os,hg.tape,hg.output,?_,fun k hk hne=>?_⟩
       ·have:=hg.size;simp;omega
       ·have hkg:k≠g:=fun e=>hne (by rw[e]);rw[aL _ ⟨g,i*4+3,none⟩ k _ hkg,aL _ ⟨g,i*4+2,none⟩ k _ hkg,aL _ ⟨g,i*4+1,none⟩ k _ hkg,aL _ ⟨g,i*4,none⟩ k _ hkg];exact hg.block k hk hne
   |succ g2=>
    have hlt:(i:Int)<(n:Int):=by omega
    have hlt2:(i:Int)<(n:Int)+2:=by omega
    have hil:i<l.length:=by rw[HN.out];omega
    have hil2:i<(l++[mkP 5,mkP 6]).length:=by simp;omega
    obtain⟨g',c',e',_,_,_,q,_⟩:=(LM HP.out.2.1).open (by omega);injection e' with e1 e2 e3;injection e1 with e1;injection e1 with e1;subst e1;clear e2 e3;obtain⟨a1,a2,a3,a4⟩:=Bk _ i hil2;rw[List.getElem_append_left hil]at a1 a2 a3 a4;replace a1:=q _ _ a1;replace a2:=q _ _ a2;replace a3:=q _ _ a3;replace a4:=q _ _ a4;obtain⟨va,vc,hvf,hvc⟩:=HP.out.1;obtain⟨_,b,off,hva,hcs⟩:=hvc (by omega);obtain⟨b1,b2,b3,b4⟩:=hcs i hil;subst hva;injection hvf with f1 f2 f3;injection f1 with f1;subst f1;clear f2 f3 hcs hvc q;obtain⟨⟨p0,p1,p2,p3⟩,hp⟩:∃r,l[i]=r:=⟨_,rfl⟩;rw[hp]at a1 a2 a3 a4 b1 b2 b3 b4;simp only at a1 a2 a3 a4 b1 b2 b3 b4;clear hp;go_wp2;go_quiet (fail)
    go_wp2
    go_roundg g2
    case measure=>omega
    case rel=>exact⟨rfl,i+1,by go_num,by omega,_,rfl⟩
end Go.Proofs.YtofinpocigbbeaaGreat
