import Derived.Test.YtofinpocigbbeaaGreatLov
set_option maxHeartbeats 1000000
set_option maxRecDepth 100000
set_option linter.unusedSimpArgs false
namespace Go.Proofs.YtofinpocigbbeaaGreat
open Go.Proofs.Tryz Go.ChangeShapes Go.WideShapes Go.ChangeAt Go.RowKit Go.Deep
variable{v:Value}{w w':World}
theorem Hs.below{l:List R4}(h:Hs w v l)(hb:uj w w'):Hs w' v l:=⟨h.at'.below hb,h.form,h.fit,fun b off c hv hl=>aQ (h.low b off c hv hl) hb.size⟩
theorem GK.below{d:OpD}(h:GK w d)(hb:uj w w'):GK w' d:=⟨h.k64,h.pix.below hb,h.form,h.fit,h.byte,h.rl.below hb,h.rm.below hb⟩
theorem Ht.below{D:List OpD}(h:Ht w v D)(hb:uj w w'):Ht w' v D:=
 ⟨h.form,fun a c e i hi=>by
  obtain⟨h1,b,off,h2,h3,h4⟩:=h.cells a c e i hi;exact⟨h1,b,off,h2,aQ h3 hb.size,fun o u hu=>(hb.cell (p:=(jA b (off+i*13+o))) h3).trans (h4 o u hu)⟩,
 fun d hd=>(h.ok d hd).below hb⟩
def EG:List Int:=[1,2,3,4,5,6,7,8,9,10,11,12,13,14,15,16]
def Ir:Array Value:=#[vj 1,vj 2,vj 3,vj 4,vj 5,vj 6,vj 7,vj 8,vj 9,vj 10,vj 11,vj 12,vj 13,vj 14,vj 15,vj 16]
theorem JO(j:Nat)(hj:j<EG.length):Ir[j]?=some (vj (EG[j]'hj)):=by
 match j,hj with
 |0,_|1,_|2,_|3,_|4,_|5,_|6,_|7,_|8,_|9,_|10,_|11,_|12,_|13,_|14,_|15,_=>rfl
 |q+16,hq=>exact absurd hq (show¬q+16<EG.length from Nat.not_lt.2 (Nat.le_add_left 16 q))
theorem LT{kd:Int}(h:kd∈EG):(kd=1\/(2<=kd/\kd<=14/\CW kd))\/kd=15\/kd=16:=by
 unfold EG at h;simp only[cw,List.not_mem_nil,or_false]at h;rcases h with rfl|rfl|rfl|rfl|rfl|rfl|rfl|rfl|rfl|rfl|rfl|rfl|rfl|rfl|rfl|rfl
 ·exact .inl (.inl rfl)
 ·exact .inl (.inr ⟨by decide,by decide,ZT⟩)
 ·exact .inl (.inr ⟨by decide,by decide,ZU⟩)
 ·exact .inl (.inr ⟨by decide,by decide,ZV⟩)
 ·exact .inl (.inr ⟨by decide,by decide,ZW⟩)
 ·exact .inl (.inr ⟨by decide,by decide,ZX⟩)
 ·exact .inl (.inr ⟨by decide,by decide,ZY⟩)
 ·exact .inl (.inr ⟨by decide,by decide,aI⟩)
 ·exact .inl (.inr ⟨by decide,by decide,ZZ⟩)
 ·exact .inl (.inr ⟨by decide,by decide,Yb⟩)
 ·exact .inl (.inr ⟨by decide,by decide,aJ⟩)
 ·exact .inl (.inr ⟨by decide,by decide,Z0⟩)
 ·exact .inl (.inr ⟨by decide,by decide,Yc⟩)
 ·exact .inl (.inr ⟨by decide,by decide,Yd⟩)
 ·exact .inr (.inl rfl)
 ·exact .inr (.inr rfl)
theorem dO(D:List OpD)(v:Value)(w:World)(h:Ht w v D)(hD:D.length<=926000000000):
  Calls prog 6 #[v] w fun e w'=>e=.returned (.bool true)/\uj w w':=by
 have hb0:=(aN w.heap.size w).alloc (aO _) (.cells Ir 3);have HP:=Aa (Np D v w.heap.size _ (h.below hb0) hD (by simp) EG 16 rfl (by decide) (fun j hj=>(Joins.cell_of_block (aR w _) j).trans (JO j hj)) fun wr i d hp hi hd hk=>dz hp hi d hd (LT hk));have HB:=Aa hb0;clear h hb0;unfold Ir at HP HB;go_enter func6,ntmps6
 go_wp2_with(go_at_call 11;refine HP.out.mono ?_;rintro e w1 ⟨rfl,b1⟩;have H1:=Aa (HB.out.trans (b1.mono (by simp)));clear b1)
 go_ret;exact⟨rfl,H1.out⟩
theorem dE(os:Os)(started:os.Started)(H:Type)(enc:TypeId×Value->H):
  ReturnsInHanded {} Tryz.checked os 6 .any (Rows.allSpec.pre6 enc prog Tryz.f6 Rows.allRow.domain false) (Rows.allSpec.post enc prog Tryz.f6 false true false false):=by
 refine returnsInHanded_of_change_sized (C:=Tryz.checked) S4 started (by kernel_rfl) func6
  (ChangeSpec.witness6 (enc:=enc) (C:=Tryz.checked) false ⟨#[],#[jj],[]⟩ 8 (by kernel_rfl) (by kernel_rfl) (by kernel_rfl) (by kernel_rfl)) ?_
 intro W base args ds gs before hval0 hW hcnd hsz0 _;have hval:∀(j:Nat) t v,Tryz.f6.params[j]?=some t->args[j]?=some v->Value.okWide prog W .any base t v:=hval0;have hsz:(DataW.weightsEach prog (Tryz.f6.params.toList++Rows.allSpec.plain.varTypes prog) (ds++gs)).all (· <=reachBytes)=true:=hsz0;have hW':=hW;obtain⟨p,q,hA0,hV,rfl,hfz,hnd⟩:=hW;have hA:DataW.TrodAll enc prog W 0 (fun _=>true) true Tryz.f6.params.toList args.toList ds p:=hA0;rw[Tryz.params6]at hA hval hsz;obtain⟨v0,d0,rfl,rfl,h0⟩:=trodAll_one hA;obtain⟨rfl,rfl⟩:=trodVars_none hV;have lt0:∀x∈p,x.block<W.heap.size:=by obtain⟨m,hm⟩:=h0;exact DataW.trod_lt m _ _ _ hm
 obtain⟨D,hD,hlen⟩:=QT (hval 0 22 v0 rfl rfl) h0 fun n hn=>by
  have:=cG.1 hsz n (DataW.weights_mem_each (j:=0) rfl rfl n hn);simpa using this
 clear hA0 hval0;refine(dO D v0 W hD hlen).mono fun e W' ⟨he,bel⟩=>?_;subst he;exact⟨_,rfl,_,_,_,[],_,[],hW',trodAll_mk1 (shut_bool underlying4 _),(trodAll_cons_mk (Below.trod Kg (by kernel_rfl) (ck (by kernel_rfl)) h0 bel lt0) trodAll_mk0),rfl,bel.frame _,fun h=>by cases h⟩
theorem all_holds:Rows.AllSaid:=
 OpenClaim.holds_of_wide 6 Tryz.f6 rfl rfl rfl rfl rfl rfl rfl ⟨rfl,rfl,rfl,rfl,rfl⟩ rfl rfl rfl rfl rfl (by kernel_rfl) func6 (by kernel_rfl)
  (ck (by kernel_rfl)) (by unfold Func.isWrapper;first|(rw[if_pos (by decide+kernel)];kernel_rfl)|(rw[if_neg (by decide+kernel)];exact⟨rfl,rfl⟩))
  (fun os started H enc _=>dE os started H enc)
#print axioms all_holds
end Go.Proofs.YtofinpocigbbeaaGreat
