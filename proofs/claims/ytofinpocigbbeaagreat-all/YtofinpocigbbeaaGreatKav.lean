import Derived.Test.YtofinpocigbbeaaGreatKas
set_option maxHeartbeats 2000000
set_option maxRecDepth 100000
set_option linter.unusedSimpArgs false
namespace Go.Proofs.YtofinpocigbbeaaGreat
open Go.Proofs.Tryz Go.RowKit
attribute [local go_sem ↓] Go.wp_at_zero Go.wp_at_succ
theorem Vm(p q:R4)(w:World):Calls prog 164 #[.agg (r4C p),.agg (r4C q)] w fun e w'=>e=.returned (.agg (r4C (Fi p q)))/\uj w w':=by
 have H1:Hid (∀V:World,Calls prog 119 #[.agg #[vj p.1,vj p.2.1,vj p.2.2.1,vj p.2.2.2]] V fun e w'=>e=.returned (.bool (pts p))/\uj V w'):=fun V=>(EW p V).mono fun e w' ⟨h1,o,h2⟩=>⟨h1,by rw[h2];exact al1 (aO _) _⟩;have H2:Hid (∀V:World,Calls prog 119 #[.agg #[vj q.1,vj q.2.1,vj q.2.2.1,vj q.2.2.2]] V fun e w'=>e=.returned (.bool (pts q))/\uj V w'):=fun V=>(EW q V).mono fun e w' ⟨h1,o,h2⟩=>⟨h1,by rw[h2];exact al1 (aO _) _⟩;obtain⟨t1,ht1⟩:∃t,pts p=t:=⟨_,rfl⟩;obtain⟨t2,ht2⟩:∃t,pts q=t:=⟨_,rfl⟩;unfold Fi r4C;rw[ht1]at H1 ⊢;rw[ht2]at H2 ⊢;clear ht1 ht2;have HA:=Aa (al3 (aO w.heap.size) (.cells #[vj p.1,vj p.2.1,vj p.2.2.1,vj p.2.2.2] 53) (.cells #[vj q.1,vj q.2.1,vj q.2.2.1,vj q.2.2.2] 53) (.cells #[vj 0,vj 0,vj 0,vj 0] 53));have HB0:Hid (((w.alloc (.cells #[vj p.1,vj p.2.1,vj p.2.2.1,vj p.2.2.2] 53)).alloc (.cells #[vj q.1,vj q.2.1,vj q.2.2.1,vj q.2.2.2] 53)).alloc (.cells #[vj 0,vj 0,vj 0,vj 0] 53)=((w.alloc (.cells #[vj p.1,vj p.2.1,vj p.2.2.1,vj p.2.2.2] 53)).alloc (.cells #[vj q.1,vj q.2.1,vj q.2.2.1,vj q.2.2.2] 53)).alloc (.cells #[vj 0,vj 0,vj 0,vj 0] 53)):=rfl;obtain⟨V,hV⟩:∃V,((w.alloc (.cells #[vj p.1,vj p.2.1,vj p.2.2.1,vj p.2.2.2] 53)).alloc (.cells #[vj q.1,vj q.2.1,vj q.2.2.1,vj q.2.2.2] 53)).alloc (.cells #[vj 0,vj 0,vj 0,vj 0] 53)=V:=⟨_,rfl⟩;have b1:Blk V w.heap.size 53 #[vj p.1,vj p.2.1,vj p.2.2.1,vj p.2.2.2]:=by
  rw[<-hV];exact(Ad _ _ _ (by simp;omega)).trans ((Ad _ _ _ (by simp)).trans (aR w _))
 have b2:Blk V (w.heap.size+1) 53 #[vj q.1,vj q.2.1,vj q.2.2.1,vj q.2.2.2]:=by
  rw[<-hV];have:=aR (w.alloc (.cells #[vj p.1,vj p.2.1,vj p.2.2.1,vj p.2.2.2] 53)) (.cells #[vj q.1,vj q.2.1,vj q.2.2.1,vj q.2.2.2] 53);refine(Ad _ _ _ (by simp)).trans ?_;simpa using this
 have b3:Ax V (w.heap.size+1+1) 53 4:=by
  rw[<-hV];have:=Ax.new ((w.alloc (.cells #[vj p.1,vj p.2.1,vj p.2.2.1,vj p.2.2.2] 53)).alloc (.cells #[vj q.1,vj q.2.1,vj q.2.2.1,vj q.2.2.2] 53)) #[vj 0,vj 0,vj 0,vj 0] 53;simpa using this
 rw[hV]at HA;have HC:Hid (∀U:World,uj V U->U.cell? (jA w.heap.size 0)=some (vj p.1)/\U.cell? (jA w.heap.size 1)=some (vj p.2.1)/\U.cell? (jA w.heap.size 2)=some (vj p.2.2.1)/\U.cell? (jA w.heap.size 3)=some (vj p.2.2.2)/\U.cell? (jA (w.heap.size+1) 0)=some (vj q.1)/\U.cell? (jA (w.heap.size+1) 1)=some (vj q.2.1)/\U.cell? (jA (w.heap.size+1) 2)=some (vj q.2.2.1)/\U.cell? (jA (w.heap.size+1) 3)=some (vj q.2.2.2)/\(∃z0,U.cell? (jA (w.heap.size+1+1) 0)=some z0)/\(∃z1,U.cell? (jA (w.heap.size+1+1) 1)=some z1)/\(∃z2,U.cell? (jA (w.heap.size+1+1) 2)=some z2)/\(∃z3,U.cell? (jA (w.heap.size+1+1) 3)=some z3)/\(∀j,U.frozen? (jA (w.heap.size+1+1) j)=false)/\(∀u0 u1 u2 u3,uj w ((((U.setCell (jA (w.heap.size+1+1) 0) u0).setCell (jA (w.heap.size+1+1) 1) u1).setCell (jA (w.heap.size+1+1) 2) u2).setCell (jA (w.heap.size+1+1) 3) u3))/\w.heap.size+1+1<U.heap.size):=fun U hU=>by
  have d1:=b1.keep (hU.block _ (Ab b1));have d2:=b2.keep (hU.block _ (Ab b2));have d3:=b3.keep (hU.block _ b3.lt);have hb:=HA.out.trans (hU.mono HA.out.size);exact⟨d1.cell 0,d1.cell 1,d1.cell 2,d1.cell 3,d2.cell 0,d2.cell 1,d2.cell 2,d2.cell 3,d3.cell 0 (by omega),d3.cell 1 (by omega),d3.cell 2 (by omega),d3.cell 3 (by omega),fun j=>d3.free j,fun u0 u1 u2 u3=>CO hb (by omega) _ _ _ _,d3.lt⟩
 have HV:=Aa hV;clear HB0 b1 b2 b3 hV;cases t1 with
 |false=>
  simp only[Bool.false_eq_true,if_false];go_enter func164,ntmps164
  go_upto_region 1 with fail
  rw[HV.out];obtain⟨a0,a1,a2,a3,e0,e1,e2,e3,_⟩:=HC.out V (aN _ _)
  go_wp2_with(first
   |(go_at_call_of 119 (Value.agg #[vj p.1,vj p.2.1,vj p.2.2.1,vj p.2.2.2]);refine(H1.out _).mono ?_;rintro e w1 ⟨rfl,hb⟩;obtain⟨m0,m1,m2,m3,n0,n1,n2,n3,⟨z0,r0⟩,⟨z1,r1⟩,⟨z2,r2⟩,⟨z3,r3⟩,fz,hbl,hl⟩:=HC.out w1 hb;have f0:=fz 0;have f1:=fz 1;have f2:=fz 2;have f3:=fz 3;have HBl:=Aa hbl;have HB1:=Aa hb;clear hb fz hbl)
   |fail)
  exact cU (v:=.agg #[vj q.1,vj q.2.1,vj q.2.2.1,vj q.2.2.2]) (by simp[results,results164,go_sem,r0,r1,r2,r3]) rfl ⟨rfl,HBl.out _ _ _ _⟩
 |true=>
  cases t2 with
  |false=>
   simp only[Bool.false_eq_true,if_false,if_true];go_enter func164,ntmps164
   go_upto_region 1 with fail
   rw[HV.out];obtain⟨a0,a1,a2,a3,e0,e1,e2,e3,_⟩:=HC.out V (aN _ _)
   go_wp2_with(first
    |(go_at_call_of 119 (Value.agg #[vj p.1,vj p.2.1,vj p.2.2.1,vj p.2.2.2]);refine(H1.out _).mono ?_;rintro e w1 ⟨rfl,hb⟩;obtain⟨m0,m1,m2,m3,n0,n1,n2,n3,⟨z0,r0⟩,⟨z1,r1⟩,⟨z2,r2⟩,⟨z3,r3⟩,fz,hbl,hl⟩:=HC.out w1 hb;have f0:=fz 0;have f1:=fz 1;have f2:=fz 2;have f3:=fz 3;have HBl:=Aa hbl;have HB1:=Aa hb;clear hb fz hbl)
    |(go_at_call_of 119 (Value.agg #[vj q.1,vj q.2.1,vj q.2.2.1,vj q.2.2.2]);refine(H2.out _).mono ?_;rintro e w2 ⟨rfl,hb⟩;obtain⟨m0',m1',m2',m3',n0',n1',n2',n3',⟨z0',r0'⟩,⟨z1',r1'⟩,⟨z2',r2'⟩,⟨z3',r3'⟩,fz,hbl,hl'⟩:=HC.out w2 (HB1.out.trans (hb.mono HB1.out.size));have f0':=fz 0;have f1':=fz 1;have f2':=fz 2;have f3':=fz 3;have HBl2:=Aa hbl;clear hb fz hbl)
    |fail)
   exact cU (v:=.agg #[vj p.1,vj p.2.1,vj p.2.2.1,vj p.2.2.2]) (by simp[results,results164,go_sem,r0',r1',r2',r3']) rfl ⟨rfl,HBl2.out _ _ _ _⟩
  |true=>
   simp only[if_true];go_enter func164,ntmps164
   go_upto_region 1 with fail
   rw[HV.out];obtain⟨a0,a1,a2,a3,e0,e1,e2,e3,_⟩:=HC.out V (aN _ _)
   go_wp2_with(first
    |(go_at_call_of 119 (Value.agg #[vj p.1,vj p.2.1,vj p.2.2.1,vj p.2.2.2]);refine(H1.out _).mono ?_;rintro e w1 ⟨rfl,hb⟩;obtain⟨m0,m1,m2,m3,n0,n1,n2,n3,⟨z0,r0⟩,⟨z1,r1⟩,⟨z2,r2⟩,⟨z3,r3⟩,fz,hbl,hl⟩:=HC.out w1 hb;have f0:=fz 0;have f1:=fz 1;have f2:=fz 2;have f3:=fz 3;have HBl:=Aa hbl;have HB1:=Aa hb;clear hb fz hbl)
    |(go_at_call_of 119 (Value.agg #[vj q.1,vj q.2.1,vj q.2.2.1,vj q.2.2.2]);refine(H2.out _).mono ?_;rintro e w2 ⟨rfl,hb⟩;obtain⟨m0',m1',m2',m3',n0',n1',n2',n3',⟨z0',r0'⟩,⟨z1',r1'⟩,⟨z2',r2'⟩,⟨z3',r3'⟩,fz,hbl,hl'⟩:=HC.out w2 (HB1.out.trans (hb.mono HB1.out.size));have f0':=fz 0;have f1':=fz 1;have f2':=fz 2;have f3':=fz 3;have HBl2:=Aa hbl;clear hb fz hbl)
    |fail)
   all_goals exact cU (v:=.agg #[vj (min p.1 q.1),vj (min p.2.1 q.2.1),vj (max p.2.2.1 q.2.2.1),vj (max p.2.2.2 q.2.2.2)]) (by simp[results,results164,go_sem,r0',r1',r2',r3'];try omega) rfl ⟨rfl,HBl2.out _ _ _ _⟩
end Go.Proofs.YtofinpocigbbeaaGreat
