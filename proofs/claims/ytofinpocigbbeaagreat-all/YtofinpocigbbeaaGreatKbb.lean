import Derived.Test.YtofinpocigbbeaaGreatKat
import Derived.Laws.StructEq
set_option maxHeartbeats 1000000
set_option maxRecDepth 100000
set_option linter.unusedSimpArgs false
namespace Go.Proofs.YtofinpocigbbeaaGreat
open Go.Proofs.Tryz Go.RowKit
attribute [local go_sem ↓] Go.wp_at_zero Go.wp_at_succ
theorem FA{S:Nat->Prop}{c:Nat}{st:St}{bv:Value}(hw:Wf st)(w:World)(h:Aw w S c st bv):
  Calls prog 93 #[pj c] w (CZ st w):=by
 obtain⟨i0,hi0,hz0,hz1,hz2⟩:=cW KV;have HU:=Aa (Tu (S:=S) (c:=c) hw (st.need (-1)) (-1) w (by omega) (aO _) h);have HR:=Aa h;obtain⟨sv,ov,F,hr,hs⟩:=h;obtain⟨k0,k1,k2,k3,k4,kf,kl⟩:=hr.cells;obtain⟨sa,scap,hsv⟩:=hr.svForm;subst hsv;obtain⟨n,hn⟩:∃n,st.sfs.length=n:=⟨_,rfl⟩;have hmd:=hw.made;rw[hn]at k3 hmd;obtain⟨D,hD⟩:∃D,st.dfs (-1)=D:=⟨_,rfl⟩;have hDl:=Fz hw (st:=st) (p:= -1) (by omega);have hDo:∀j∈D,j∈st.order:=fun j hj=>Ee hw (p:= -1) (by omega) (by rw[hD];exact hj);rw[hD]at hDl HU;obtain⟨m,hm⟩:∃m,D.length=m:=⟨_,rfl⟩;rw[hm]at hDl;have HH:=Aa (aK hr (aK hs (aK hn (aK hm (aK hDo (aK hw hD))))));clear hr hs kf hn hm hDo hD k0 k1 k2 k4;go_enter func93,ntmps93
 go_wp2_with(go_at_call 133;refine HU.out.mono ?_;rintro e w1 ⟨v1,rfl,hv1,hb1⟩;obtain⟨la,lc,hlf⟩:=Al hv1;rw[HH.out.2.2.2.1]at hlf;subst hlf;have H1:=Aa (aK hv1 hb1);have hs1:=hb1.size;clear hv1 hb1)
 go_loopg [3,5] m (fun gg s3 s5 wr=>∃k:Nat,s5=vj k/\gg+k=m/\DO wr w1.heap.size s3 st (st.vis (D.take k))/\uj w1 wr)
 case atStart=>exact⟨0,rfl,by omega,bA _ _ _ _,aN _ _⟩
 case round=>
  rename World=>wr;obtain⟨k,rfl,hgk,hown,hbel⟩:=hrel;obtain⟨va,vc,hvf⟩:=Al hown;obtain⟨nL,hnL⟩:∃nL,(st.vis (D.take k)).length=nL:=⟨_,rfl⟩;rw[hnL]at hvf;subst hvf;have hsz:=hbel.size;have HO:=Aa (aK hown (aK hbel hnL));cases gk with
  |zero=>
   have hlt:¬(k:Int)<(m:Int):=by omega
   clear hown hbel;go_wp2;go_ret;have hfull:D.take k=D:=bw (by have:=HH.out.2.2.2.1;omega);have ho:=HO.out.1;rw[hfull,<-HH.out.2.2.2.2.2.2]at ho;refine⟨_,rfl,⟨ho.1,ho.2.imp (fun h=>h) fun⟨g,c,cur,e1,e2,e3⟩=>⟨g,c,cur,e1,by omega,e3⟩⟩,H1.out.2.trans (HO.out.2.1.mono hs1)⟩
  |succ gk=>
   have hlt:(k:Int)<(m:Int):=by omega
   have hkL:k<D.length:=by have:=HH.out.2.2.2.1;omega
   obtain⟨lg,lc',el,_,hlg⟩:=World.ownsRow.form H1.out.1 (by omega);have hlcap:=A7 (by have h9:=H1.out.1;unfold Ca at h9;rw[el]at h9;exact h9);have hcl:=cj H1.out.1 (g:=lg) (by rw[el];rfl) k (vj (D[k]:Int)) (by rw[bZ,aU hkL];rfl);rw[Bn]at hcl;rw[HH.out.2.2.2.1]at el hlcap;injection el with el1 el2 el3;subst el1 el3;have hlty:=Ap H1.out.1 (k:=lg) rfl;obtain⟨j,hj⟩:∃j,D[k]=j:=⟨_,rfl⟩;have hjo:j∈st.order:=by rw[<-hj];exact HH.out.2.2.2.2.1 _ (aZ hkL)
   have hjl:=hw.lt hjo;rw[hj]at hcl;have hclr:=(hbel.cell (p:=(jA lg k)) hlg).trans hcl;have HBw:Hid (uj w wr):=H1.out.2.trans (hbel.mono hs1);obtain⟨r,hr0⟩:∃r,nrm (st.seen j)=r:=⟨_,rfl⟩;have hSeen:=KT (S:=S) (c:=c) j wr (HR.out.keep fun g _ hg=>HBw.out.block g hg) hw hjl;rw[hr0]at hSeen;unfold r4C at hSeen;have HSn:=Aa hSeen;have HPl:=Aa (fun(W:World) (hW:uj w W)=>Jk (S:=S) (c:=c) (st:=st) j W (HR.out.keep fun g _ hg=>hW.block g hg) hw hjl);have hflat:=UX (st.seen j);rw[hr0]at hflat;have HN:=Aa (U7 (st:=st) hkL);rw[hj]at HN;have hkc:k<lc:=by omega
   have hk0:(0:Int)<=(k:Int):=by omega
   have hbr:=HBw.out.size;have hlgr:lg<wr.heap.size:=by omega
   clear hown hbel hSeen hkL hj hcl;cases hb4:Di (st.seen j)with
   |false=>
    have hq:r.1=r.2.2.1:=hflat.2 hb4;rw[hb4]at HN;clear hflat hb4
    go_wp2_with(go_at_call 134;refine HSn.out.mono ?_;rintro e w5 ⟨rfl,hb5⟩;have H5:=Aa hb5;have hs5:=hb5.size;clear hb5)
    go_roundg gk
    case measure=>omega
    case rel=>
     have hbb:=fun o=>H5.out.alloc hs5 o;refine⟨k+1,by go_num,by omega,?_,HO.out.2.1.trans ((hbb _).mono hsz)⟩;have e9:=HN.out;rw[if_neg (by simp),List.append_nil]at e9;rw[e9];exact Ai HO.out.1 fun g hg=>(hbb _).block g (HO.out.1.lt g hg).2
   |true=>
    have hq:¬r.1=r.2.2.1:=fun e=>by rw[hflat.1 e]at hb4;cases hb4
    have hrs:r=st.seen j:=by rw[<-hr0];unfold nrm;rw[if_pos hb4]
    rw[hb4]at HN;have HRs:=Aa hrs;obtain⟨sg,scap',es,_,hscap,hsgl,scs,_⟩:=HH.out.1.at (by omega);rw[HH.out.2.2.1]at es hscap;injection es with es1 es2 es3;subst es1 es3;have hR:=HH.out.2.1.rel j hjl;have d2:=scs j hjl 2 (by omega);have d3:=scs j hjl 3 (by omega);have d4:=scs j hjl 4 (by omega);have d5:=scs j hjl 5 (by omega);have d6:=scs j hjl 6 (by omega);have d7:=scs j hjl 7 (by omega);have d8:=scs j hjl 8 (by omega);have d9:=scs j hjl 9 (by omega);have d10:=scs j hjl 10 (by omega);have d11:=scs j hjl 11 (by omega);have d12:=scs j hjl 12 (by omega);obtain⟨pa,pm,pc,hpx,_⟩:=(HH.out.2.1.pixN j hjl).form;rw[hR.nw]at d2;rw[hR.nh]at d3;rw[hpx]at d4;rw[hR.nx]at d5;rw[hR.ny]at d6;rw[hR.ncut]at d7;rw[hR.n0]at d8;rw[hR.n1]at d9;rw[hR.n2]at d10;rw[hR.n3]at d11;obtain⟨qa,qm,qc,hqx⟩:=hR.nhint;rw[hqx]at d12;have hjn:(j:Int)<(n:Int):=by have:=HH.out.2.2.1;omega
    have hjn2:j<n:=by omega
    have hj0:(0:Int)<=(j:Int):=by omega
    have hjc:j<scap:=by omega
    have hnL12:nL<=12:=by
     have h1:(st.vis (D.take k)).length<=(D.take k).length:=ci _ _;rw[bR,HO.out.2.2]at h1;have h2:=HH.out.2.2.2.1;omega
    have HVc:Hid (C3 st j=[vj (j:Int),vj (st.px j),vj (st.py j),vj (st.sf j).now.w,vj (st.sf j).now.h,vj r.1,vj r.2.1,vj r.2.2.1,vj r.2.2.2]):=by unfold Hid;rw[hrs];rfl
    obtain⟨PX,hPX⟩:∃p,st.px j=p:=⟨_,rfl⟩;obtain⟨PY,hPY⟩:∃p,st.py j=p:=⟨_,rfl⟩;rw[hPX,hPY]at HVc HPl;generalize (st.sf j).now=N at*;clear hflat hb4 hrs scs hR hpx hPX hPY hr0 es2
    go_upto_region 9 with(first
     |(go_at_call 134;refine HSn.out.mono ?_;rintro e w5 ⟨rfl,hb5⟩;have H5:=Aa hb5;have hs5:=hb5.size;have hlg5:lg<w5.heap.size:=(by omega);have y1:=(hb5.cell (p:=(jA lg k)) hlgr).trans hclr;clear hb5)
     |(go_at_call 135;refine(HPl.out _ ((HBw.out.trans (H5.out.mono hbr)).alloc (by omega) _)).mono ?_;rintro e w' ⟨rfl,hw'⟩;replace hw':=hw'.symm;subst hw'))
    have hB9:Blk (w5.alloc (.cells #[vj r.1,vj r.2.1,vj r.2.2.1,vj r.2.2.2] 53)) w5.heap.size 53 #[vj r.1,vj r.2.1,vj r.2.2.1,vj r.2.2.2]:=aR _ _;have hb9:uj wr (w5.alloc (.cells #[vj r.1,vj r.2.1,vj r.2.2.1,vj r.2.2.2] 53)):=H5.out.alloc hs5 _;have hz9:(w5.alloc (.cells #[vj r.1,vj r.2.1,vj r.2.2.1,vj r.2.2.2] 53)).heap.size=w5.heap.size+1:=by simp
    generalize w5.alloc (.cells #[vj r.1,vj r.2.1,vj r.2.2.1,vj r.2.2.2] 53)=W9 at*;have hbw9:uj w W9:=HBw.out.trans (hb9.mono hbr);have F9:Hid (∀w',uj W9 w'->w'.cell? (jA c 3)=some (sj sg n scap)/\w'.cell? (jA lg k)=some (vj j)/\w'.cell? (jA sg (j*28+2))=some (vj N.w)/\w'.cell? (jA sg (j*28+3))=some (vj N.h)/\w'.cell? (jA sg (j*28+4))=some (.slice pa pm pc)/\w'.cell? (jA sg (j*28+5))=some (vj N.x)/\w'.cell? (jA sg (j*28+6))=some (vj N.y)/\w'.cell? (jA sg (j*28+7))=some (.bool N.cut)/\w'.cell? (jA sg (j*28+8))=some (vj N.clip.1)/\w'.cell? (jA sg (j*28+9))=some (vj N.clip.2.1)/\w'.cell? (jA sg (j*28+10))=some (vj N.clip.2.2.1)/\w'.cell? (jA sg (j*28+11))=some (vj N.clip.2.2.2)/\w'.cell? (jA sg (j*28+12))=some (.slice qa qm qc)):=fun W hW=>by
     have hb:=hbw9.trans (hW.mono hbw9.size);have hb2:=hb9.trans (hW.mono hb9.size);exact⟨(hb.cell (p:=(jA c 3)) kl).trans k3,(hb2.cell (p:=(jA lg k)) hlgr).trans hclr,(hb.cell (p:=(jA sg (j*28+2))) hsgl).trans d2,(hb.cell (p:=(jA sg (j*28+3))) hsgl).trans d3,(hb.cell (p:=(jA sg (j*28+4))) hsgl).trans d4,(hb.cell (p:=(jA sg (j*28+5))) hsgl).trans d5,(hb.cell (p:=(jA sg (j*28+6))) hsgl).trans d6,(hb.cell (p:=(jA sg (j*28+7))) hsgl).trans d7,(hb.cell (p:=(jA sg (j*28+8))) hsgl).trans d8,(hb.cell (p:=(jA sg (j*28+9))) hsgl).trans d9,(hb.cell (p:=(jA sg (j*28+10))) hsgl).trans d10,(hb.cell (p:=(jA sg (j*28+11))) hsgl).trans d11,(hb.cell (p:=(jA sg (j*28+12))) hsgl).trans d12⟩
    obtain⟨t0,t1,t2,t3,t4,t5,t6,t7,t8,t9,t10,t11,t12⟩:=F9.out W9 (aN _ _);have HB9:=Aa (aK hB9 (aK hb9 hbw9));have HZ9:=Aa hz9;clear hB9 hb9 hbw9 d2 d3 d4 d5 d6 d7 d8 d9 d10 d11 d12 k3 y1 hclr hz9
    go_region_held3 (fun w'=>w'.cell? (jA c 3)=some (sj sg n scap)/\w'.cell? (jA lg k)=some (vj j)/\w'.cell? (jA sg (j*28+2))=some (vj N.w)/\w'.cell? (jA sg (j*28+3))=some (vj N.h)/\w'.cell? (jA sg (j*28+4))=some (.slice pa pm pc)/\w'.cell? (jA sg (j*28+5))=some (vj N.x)/\w'.cell? (jA sg (j*28+6))=some (vj N.y)/\w'.cell? (jA sg (j*28+7))=some (.bool N.cut)/\w'.cell? (jA sg (j*28+8))=some (vj N.clip.1)/\w'.cell? (jA sg (j*28+9))=some (vj N.clip.2.1)/\w'.cell? (jA sg (j*28+10))=some (vj N.clip.2.2.1)/\w'.cell? (jA sg (j*28+11))=some (vj N.clip.2.2.2)/\w'.cell? (jA sg (j*28+12))=some (.slice qa qm qc))
     (first
      |exact F9.out _ (aN _ _)
      |exact F9.out _ (aN _ _).drew
      |exact F9.out _ ((aN _ _).alloc (aO _) _).drew
      |fail)
     (fail)
    go_upto_region 10 with fail
    have hb10:uj W9 ((W9.alloc (.cells #[vj N.w,vj N.h,.slice pa pm pc,vj N.x,vj N.y,.bool N.cut,vj N.clip.1,vj N.clip.2.1,vj N.clip.2.2.1,vj N.clip.2.2.2,.slice qa qm qc] 212)).drew):=((aN _ _).alloc (aO _) _).drew;have hB10:Blk ((W9.alloc (.cells #[vj N.w,vj N.h,.slice pa pm pc,vj N.x,vj N.y,.bool N.cut,vj N.clip.1,vj N.clip.2.1,vj N.clip.2.2.1,vj N.clip.2.2.2,.slice qa qm qc] 212)).drew) W9.heap.size 212 #[vj N.w,vj N.h,.slice pa pm pc,vj N.x,vj N.y,.bool N.cut,vj N.clip.1,vj N.clip.2.1,vj N.clip.2.2.1,vj N.clip.2.2.2,.slice qa qm qc]:=aR W9 _;have hz10:((W9.alloc (.cells #[vj N.w,vj N.h,.slice pa pm pc,vj N.x,vj N.y,.bool N.cut,vj N.clip.1,vj N.clip.2.1,vj N.clip.2.2.1,vj N.clip.2.2.2,.slice qa qm qc] 212)).drew).heap.size=W9.heap.size+1:=by simp
    generalize (W9.alloc (.cells #[vj N.w,vj N.h,.slice pa pm pc,vj N.x,vj N.y,.bool N.cut,vj N.clip.1,vj N.clip.2.1,vj N.clip.2.2.1,vj N.clip.2.2.2,.slice qa qm qc] 212)).drew=Wx at*;have hbx:uj wr Wx:=HB9.out.2.1.trans (hb10.mono HB9.out.2.1.size);have hBr:Blk Wx w5.heap.size 53 #[vj r.1,vj r.2.1,vj r.2.2.1,vj r.2.2.2]:=(hb10.block _ (by have:=HZ9.out;omega)).trans HB9.out.1;have hox:=Ai HO.out.1 (w':=Wx) fun b hb=>hbx.block b (HO.out.1.lt b hb).2;obtain⟨lcur,hlt9⟩:=hlty;have hlx:Wx.heap[lg]?=some (.cells lcur 3 (0,0)):=by rw[hbx.block lg hlgr,HO.out.2.1.block lg hlg];exact hlt9
    have hclx:=(F9.out Wx hb10).2.1;have F10:Hid (∀w':World,w'.heap[lg]?=Wx.heap[lg]?->w'.heap[W9.heap.size]?=Wx.heap[W9.heap.size]?->w'.heap[w5.heap.size]?=Wx.heap[w5.heap.size]?->w'.cell? (jA lg k)=some (vj j)/\w'.cell? (jA W9.heap.size 0)=some (vj N.w)/\w'.cell? (jA W9.heap.size 1)=some (vj N.h)/\w'.cell? (jA w5.heap.size 0)=some (vj r.1)/\w'.cell? (jA w5.heap.size 1)=some (vj r.2.1)/\w'.cell? (jA w5.heap.size 2)=some (vj r.2.2.1)/\w'.cell? (jA w5.heap.size 3)=some (vj r.2.2.2)):=fun W e1 e2 e3=>by
     have q1:Blk W W9.heap.size _ _:=e2.trans hB10;have q2:Blk W w5.heap.size _ _:=e3.trans hBr;exact⟨(aV (a:=(jA lg k)) e1).trans hclx,q1.cell 0,q1.cell 1,q2.cell 0,q2.cell 1,q2.cell 2,q2.cell 3⟩
    have HG:Hid (∀(o:Obj) (w6:World),(Wx.alloc o).drew.grownBy w6 (Value.slice va nL vc).ownBlock->w6.heap[lg]?=Wx.heap[lg]?/\w6.heap[W9.heap.size]?=Wx.heap[W9.heap.size]?/\w6.heap[w5.heap.size]?=Wx.heap[w5.heap.size]?):=fun o w6 hg=>by
     have key:∀(b:Nat) (cur:Array Value) (T:TypeId),T≠59->Wx.heap[b]?=some (.cells cur T (0,0))->w6.heap[b]?=Wx.heap[b]? :=fun b cur T hT hb=>by
      have hbl:=(aM.1 hb).1;rw[hg.block b (by show b<(Wx.alloc o).heap.size;simp;omega) (fun e=>by
       obtain⟨c9,h9⟩:=Ap hox e.symm;exact Aj hb h9 hT rfl)]
      exact Ad Wx o b hbl
     exact⟨key lg lcur _ (by decide) hlx,key _ _ _ (by decide) hB10,key _ _ _ (by decide) hBr⟩
    obtain⟨a1,a2,a3,a4,a5,a6,a7⟩:=F10.out Wx rfl rfl rfl;have HX:=Aa (aK hox (aK hbx hz10));have hWx:w1.heap.size<=Wx.heap.size:=by have:=hbx.size;omega
    have hlX:lg<Wx.heap.size:=(aM.1 hlx).1;have hL9:W9.heap.size<Wx.heap.size:=by omega
    have hL5:w5.heap.size<Wx.heap.size:=by have:=HZ9.out;omega
    clear hox hbx hz10 hB10 hBr hlx hclx hb10 t0 t1 t2 t3 t4 t5 t6 t7 t8 t9 t10 t11 t12
    go_region_held3 (fun w'=>w'.cell? (jA lg k)=some (vj j)/\w'.cell? (jA W9.heap.size 0)=some (vj N.w)/\w'.cell? (jA W9.heap.size 1)=some (vj N.h)/\w'.cell? (jA w5.heap.size 0)=some (vj r.1)/\w'.cell? (jA w5.heap.size 1)=some (vj r.2.1)/\w'.cell? (jA w5.heap.size 2)=some (vj r.2.2.1)/\w'.cell? (jA w5.heap.size 3)=some (vj r.2.2.2))
     (first
      |exact F10.out _ rfl rfl rfl
      |exact F10.out _ (Ad Wx _ lg hlX) (Ad Wx _ _ hL9) (Ad Wx _ _ hL5)
      |exact F10.out _ H6.out.2.1 H6.out.2.2.1 H6.out.2.2.2
      |fail)
     (first
      |(refine step_append_lies _ (by rfl) (.tmp 49) (.tmp 62) _ (by rfl) w1.heap.size 59 i0 _ 9 72 underlying56 hi0 hz0 hz1 hz2 rfl (by omega) (.slice va nL vc) nL ((st.vis (D.take k)).flatMap (C3 st)) (by rfl) (by have h9:=HX.out.1;rw[HO.out.2.2]at h9;exact(h9.alloc _).drew) (jA Wx.heap.size 0) 1 1 [vj (j:Int),vj PX,vj PY,vj N.w,vj N.h,vj r.1,vj r.2.1,vj r.2.2.1,vj r.2.2.2] (by rfl) (by rfl) (bI (cs:=#[vj (j:Int),vj PX,vj PY,vj N.w,vj N.h,vj r.1,vj r.2.1,vj r.2.2.1,vj r.2.2.2]) (t:=59) (fr:=(0,0)) (aR Wx _)) (by simp[Value.oneCell']) (by omega) (by unfold maxLen;omega) (by omega) (by simp;omega) (Wx.heap.size+1) (by simp) ?_;intro gg cp w6 hown6 hgrow hat hlt10;have H6:=Aa (aK (aK hown6 hgrow) (HG.out _ w6 hgrow));clear hown6 hgrow hat)
      |fail)
    go_wp2
    go_roundg gk
    case measure=>omega
    case rel=>
     refine⟨k+1,by go_num,by omega,?_,?_⟩
     ·have e9:=HN.out;rw[if_pos trivial]at e9;unfold DO;rw[e9,aY,HO.out.2.2,cM,List.flatMap_singleton,HVc.out];exact H6.out.1.1
     ·have hq9:=HO.out.2.1.trans (HX.out.2.1.mono hsz);exact((hq9.alloc hWx _).drew).grown H6.out.1.2 (by show w1.heap.size<=(Wx.alloc _).heap.size;simp;omega) fun b hb=>(HO.out.1.lt b hb).1
theorem Zp(a0 a1 a2 a3 a4 a5 a6 a7 a8:Int)(w:World):(Op.equalIn 10000 59 (.agg #[vj a0,vj a1,vj a2,vj a3,vj a4,vj a5,vj a6,vj a7,vj a8]) (.agg #[vj a0,vj a1,vj a2,vj a3,vj a4,vj a5,vj a6,vj a7,vj a8])).run prog w=.ok true w:=by
 have u3:=underlying3;rw[show(10000:Nat)=9999+1 from rfl,run_equalIn_struct w 9999 59 _ _ (by kernel_rfl) (by kernel_rfl)]
 go_simp
theorem ZR(st:St)(L:List Nat):∀(i j:Nat) (hi:i<L.length),j<9->(L.flatMap (C3 st))[i*9+j]?=(C3 st L[i])[j]? :=by
 induction L with
 |nil=>intro i j hi;simp at hi
 |cons x L ih=>
  intro i j hi hj;rw[ce];have hx:(C3 st x).length=9:=rfl;cases i with
  |zero=>
   rw[cA (by omega),show 0*9+j=j by omega];rfl
  |succ i=>
   rw[bO (by omega),hx,show(i+1)*9+j-9=i*9+j by omega,ih i j (by simpa using hi) hj];rfl
theorem UA(st:St)(L:List Nat)(u v:Value)(b1 b2:Nat)(w:World)(hu:DO w b1 u st L)(hv:DO w b2 v st L)(hl:L.length<=9000000):
  Calls prog 92 #[u,v] w fun e w'=>e=.returned (.bool true)/\∃nq,w'=w.drewN nq:=by
 have HU:=Aa (aK hu hv);obtain⟨ua,uc,rfl⟩:=Al hu;obtain⟨va,vc,rfl⟩:=Al hv;obtain⟨n,hn⟩:∃n,L.length=n:=⟨_,rfl⟩;rw[hn]at hl HU;rw[hn];have HN:=Aa hn;clear hu hv hn;have hq:=Zp;go_enter func92,ntmps92
 go_wp2
 go_loopg [5] n (fun g s5 wr=>∃i:Nat,s5=vj i/\g+i=n/\∃nq,wr=w.drewN nq)
 case atStart=>exact⟨0,rfl,by omega,0,rfl⟩
 case round=>
  obtain⟨i,rfl,hgi,n0,rfl⟩:=hrel;cases gk with
  |zero=>
   have hlt:¬(i:Int)<(n:Int):=by omega
   go_wp2;go_ret;exact⟨rfl,n0,rfl⟩
  |succ g=>
   have hlt:(i:Int)<(n:Int):=by omega
   have hin:i<n:=by omega
   have hil:i<L.length:=by rw[HN.out];exact hin
   obtain⟨h1,h2⟩:=HU.out;unfold DO at h1 h2;rw[HN.out]at h1 h2;obtain⟨g1,c1,e1,_,_,_,q,_⟩:=A4.open (S:=fun _=>True) ⟨(by exact⟨h1.1,h1.2.imp (fun h=>h) fun⟨g,c,cur,e1,_,e3⟩=>⟨g,c,cur,e1,cB _,e3⟩⟩),fun _ _=>trivial⟩ (by omega);obtain⟨g2,c2,e2,_,_,_,r,_⟩:=A4.open (S:=fun _=>True) ⟨(by exact⟨h2.1,h2.2.imp (fun h=>h) fun⟨g,c,cur,e1,_,e3⟩=>⟨g,c,cur,e1,cB _,e3⟩⟩),fun _ _=>trivial⟩ (by omega);injection e1 with e11 e12 e13;injection e2 with e21 e22 e23;clear e12 e22;subst e11 e13 e21 e23;have hf:=fun j hj=>ZR st L i j hil hj;have q0:=q _ _ ((hf 0 (by omega)).trans rfl);have q1:=q _ _ ((hf 1 (by omega)).trans rfl);have q2:=q _ _ ((hf 2 (by omega)).trans rfl);have q3:=q _ _ ((hf 3 (by omega)).trans rfl);have q4:=q _ _ ((hf 4 (by omega)).trans rfl);have q5:=q _ _ ((hf 5 (by omega)).trans rfl);have q6:=q _ _ ((hf 6 (by omega)).trans rfl);have q7:=q _ _ ((hf 7 (by omega)).trans rfl);have q8:=q _ _ ((hf 8 (by omega)).trans rfl);have r0:=r _ _ ((hf 0 (by omega)).trans rfl);have r1:=r _ _ ((hf 1 (by omega)).trans rfl);have r2:=r _ _ ((hf 2 (by omega)).trans rfl);have r3:=r _ _ ((hf 3 (by omega)).trans rfl);have r4:=r _ _ ((hf 4 (by omega)).trans rfl);have r5:=r _ _ ((hf 5 (by omega)).trans rfl);have r6:=r _ _ ((hf 6 (by omega)).trans rfl);have r7:=r _ _ ((hf 7 (by omega)).trans rfl);have r8:=r _ _ ((hf 8 (by omega)).trans rfl);generalize L[i]=x at q0 q1 q2 q3 q4 q5 q6 q7 q8 r0 r1 r2 r3 r4 r5 r6 r7 r8;generalize (st.seen x)=z at q5 q6 q7 q8 r5 r6 r7 r8;generalize (st.px x)=z1 at q1 r1;generalize (st.py x)=z2 at q2 r2;generalize (st.sf x).now.w=z3 at q3 r3;generalize (st.sf x).now.h=z4 at q4 r4;obtain⟨y0,y1,y2,y3⟩:=z;simp only[Nat.add_zero]at q0 q1 q2 q3 q4 q5 q6 q7 q8 r0 r1 r2 r3 r4 r5 r6 r7 r8;clear hf q r h1 h2;go_wp2;go_quiet (fail)
   go_wp2
   go_roundg g
   case measure=>omega
   case rel=>exact⟨i+1,by go_num,by omega,_,rfl⟩
theorem UG(s:Int)(n:Nat)(hn:0<n)(hn2:n<=1152921504606846976)(hs: -9223372036854775808<=s/\s<=9223372036854775807)(w:World):
  Calls prog 50 #[vj s,vj n] w fun e w'=>(∃r:Nat,r<n/\e=.returned (vj r))/\w'=w:=by
 have hn0:¬(n:Int)=0:=by omega
 by_cases h:s<0
 ·obtain⟨S,hS⟩:∃S:Nat, -(s+1)=(S:Int):=⟨(-(s+1)).toNat,by omega⟩;have e1:IntKind.i64.wrap (s+1)=s+1:=by rw[bB];omega
  have e2:IntKind.i64.wrap (-(s+1))=(S:Int):=by rw[bB];omega
  have e4:(S:Int).tmod (n:Int)=(S:Int)%(n:Int):=Int.tmod_eq_emod_of_nonneg (by omega);have e5:IntKind.i64.wrap ((S:Int)%(n:Int))=(S:Int)%(n:Int):=by
   have h1:=Int.emod_nonneg (S:Int) hn0;have h2:=Int.emod_lt_of_pos (S:Int) (show(0:Int)<n by omega);rw[bB];omega
  go_enter func50,ntmps50
  go_wp2;go_ret;exact⟨⟨S%n,Nat.mod_lt _ hn,by simp⟩,rfl⟩
 ·obtain⟨S,hS⟩:∃S:Nat,s=(S:Int):=⟨s.toNat,by omega⟩;subst hS;have e4:(S:Int).tmod (n:Int)=(S:Int)%(n:Int):=Int.tmod_eq_emod_of_nonneg (by omega);go_enter func50,ntmps50
  go_wp2;go_ret;exact⟨⟨S%n,Nat.mod_lt _ hn,by simp⟩,rfl⟩
end Go.Proofs.YtofinpocigbbeaaGreat
