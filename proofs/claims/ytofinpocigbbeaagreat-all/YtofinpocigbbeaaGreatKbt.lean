import Derived.Test.YtofinpocigbbeaaGreatKba
import Derived.Test.YtofinpocigbbeaaGreatKbl
set_option linter.unusedSimpArgs false
namespace Go.Proofs.YtofinpocigbbeaaGreat
open Go.RowKit
theorem SN(r:R4)(x y:Int):inR (nrm r) x y=inR r x y:=by
 unfold nrm;split
 ·rfl
 ·rename_i h
  have h2:inR r x y=false:=by
   cases e:inR r x y with
   |false=>rfl
   |true=>exact absurd (Kv e) h
  rw[h2];unfold inR;exact cE (by simp only;omega)
theorem Jy{st:St}(hw:Wf st){i:Nat}(hi:i∈st.order)(x y:Int):AE (st.partsL i) x y=AE ((st.visAll i).map st.seen) x y:=by
 rw[Bool.eq_iff_iff];unfold AE St.partsL;rw[cF,cF];constructor
 ·rintro⟨r,hr,hin⟩;obtain⟨j,hj,rfl⟩:=List.mem_map.1 hr;obtain⟨hj1,hj2⟩:=bY.1 hj;rw[SN]at hin;exact⟨st.seen j,List.mem_map.2 ⟨j,Le hw hj1 (by simpa using hj2) (Kv hin),rfl⟩,hin⟩
 ·rintro⟨r,hr,hin⟩;obtain⟨j,hj,rfl⟩:=List.mem_map.1 hr;rw[Ic]at hj;unfold St.vis at hj;obtain⟨hj1,_⟩:=bY.1 hj;have hjo:j∈st.order/\i∈st.chain j:=by
   rcases cw.1 hj1 with e|e
   ·subst e;exact⟨hi,by rw[Av hw.par];simp⟩
   ·obtain⟨h1,_,h3⟩:=(CJ hw st.sfs.length i (by omega) j).1 e;exact⟨h1,h3⟩
  exact⟨nrm (st.seen j),List.mem_map.2 ⟨j,bY.2 ⟨hjo.1,by simpa using hjo.2⟩,rfl⟩,by rw[SN];exact hin⟩
theorem Kb{step:Nat->R4->R4}(hs:∀m h,step m h=h):∀(m:Nat) (h:R4),Dy step m h=h
 |0,_=>rfl
 |m+1,h=>by
  unfold Dy;rw[hs,Kb hs m h]
theorem IY(p:Int->Int->Bool){R:R4}(h:¬Di R=true):BG p R=(0,0,0,0):=by
 have h2:R.2.2.1<=R.1\/R.2.2.2<=R.2.1:=by
  by_cases a:R.1<R.2.2.1
  ·by_cases b:R.2.1<R.2.2.2
   ·exact absurd (by unfold Di;exact bQ ⟨a,b⟩) h
   ·exact .inr (by omega)
  ·exact .inl (by omega)
 unfold BG Bc;rcases h2 with h2|h2
 ·have e:(R.2.2.1-R.1).toNat=0:=by omega
  exact Kb (fun m h=>by rw[e];rfl) _ _
 ·have e:(R.2.2.2-R.2.1).toNat=0:=by omega
  rw[e];rfl
theorem Qm(p:Int->Int->Bool)(R:R4):BG p (nrm R)=BG p R:=by
 unfold nrm;split
 ·rfl
 ·rename_i h
  rw[IY p h,IY p (by decide)]
theorem VN(h:R4)(x y:Int):AE (chL h) x y=inR h x y:=by
 unfold chL;split
 ·simp[AE]
 ·rename_i hn
  have h2:inR h x y=false:=by
   cases e:inR h x y with
   |false=>rfl
   |true=>
    refine absurd ?_ hn;unfold inR at e;have:=ck e;unfold pts;exact bQ (by omega)
  rw[h2];rfl
variable{i:Nat}{st:St}
theorem VO(hf:AW st)(hi:i∈st.order):(cm st i).kids (st.sf i).parent=st.kids (st.sf i).parent↔(cm st i).pos i=st.pos i:=by
 have hw:=hf.wf;have hil:=hw.lt hi;have hw':=MH hw hf.sib hi;have hpar:∀k,((cm st i).sf k).parent=(st.sf k).parent:=fun k=>KM st i k hil;have hord:∀j,j∈(cm st i).order↔j∈st.order:=fun j=>(EK hw hf.sib hi).mem_iff;constructor
 ·intro h;unfold St.pos;rw[hpar,h]
 ·intro hpos;by_cases hq:st.puts i=true/\(st.sf i).parent=(st.sf i).parent
  ·have hk:i∈st.kids (st.sf i).parent:=AN.2 ⟨hi,rfl⟩;have hk':i∈(cm st i).kids (st.sf i).parent:=AN.2 ⟨(hord i).2 hi,hpar i⟩;refine PV (hw.nd.filter _) (hw'.nd.filter _) hk hk' ?_ ?_
   ·unfold St.pos at hpos;rw[hpar]at hpos;exact hpos
   ·rw[Iy hw hf.sib hi,if_pos hq];exact Ld _ _ _ _ (by simp) _
  ·rw[Iy hw hf.sib hi,if_neg hq]
theorem Ok(hf:AW st)(hi:i∈st.order):st.rmoved i=st.moved i:=by
 have hil:=hf.wf.lt hi;have hk:=VO hf hi;have hn:((cm st i).sf i).now=(st.sf i).next:=by rw[MG st i i hil,if_pos rfl];rfl
 have hd:decide ((cm st i).kids (st.sf i).parent=st.kids (st.sf i).parent)=((((cm st i).pos i:Nat):Int)==((st.pos i:Nat):Int)):=by
  rw[Bool.eq_iff_iff,decide_eq_true_iff,beq_iff_eq,hk];omega
 unfold St.rmoved St.moved NP;rw[hd,hn];generalize (st.sf i).now=N;generalize (st.sf i).next=X;rw[BEq.comm (a:=X.w),BEq.comm (a:=X.h),BEq.comm (a:=X.x),BEq.comm (a:=X.y),BEq.comm (a:=X.clip.1),BEq.comm (a:=X.clip.2.1),BEq.comm (a:=X.clip.2.2.1),BEq.comm (a:=X.clip.2.2.2),BEq.comm (a:=X.cut)];simp only[bne,Bool.not_and]
 ac_rfl
theorem Uh(hf:AW st)(hi:i∈st.order)(x y:Int):AE (st.rcDam i) x y=AE (st.cmDam i) x y:=by
 have hw':=MH hf.wf hf.sib hi;have hi':i∈(cm st i).order:=(EK hf.wf hf.sib hi).mem_iff.2 hi;unfold St.rcDam St.cmDam;rw[Ok hf hi];split
 ·rw[Lf,Lf,Jy hf.wf hi,Jy hw' hi']
 ·rw[VN,Qm];simp[AE]
end Go.Proofs.YtofinpocigbbeaaGreat
