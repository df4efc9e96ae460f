import Derived.Test.YtofinpocigbbeaaGreatKab
set_option maxHeartbeats 2000000
set_option maxRecDepth 100000
set_option linter.unusedSimpArgs false
namespace Go.Proofs.YtofinpocigbbeaaGreat
open Go.Proofs.Tryz Go.RowKit
attribute [local go_sem ↓] Go.wp_at_zero Go.wp_at_succ
variable{A O:List (Int×Int×List (Int×Int))}{base p:Nat}{v x:Value}{w:World}
theorem AJ.form{u:Value}(hu:AJ w u O):∃a n c,u=.slice a n c:=by
 rcases hu with⟨h,_⟩|⟨_,_,h,_⟩
 ·exact⟨_,_,_,h⟩
 ·exact⟨_,_,_,h⟩
theorem MA{wr W w1 w2:World}{t:TypeId}(hW:uj wr W)(h1:uj W w1)(h2:uj w1 w2)(hp:wr.heap[p]?=some (.cells #[v] t (0,0))):w2.cell? (jA p 0)=some v/\w2.frozen? (jA p 0)=false/\uj wr w2:=by
 have hb:=(hW.trans (h1.mono hW.size)).trans (h2.mono (bh hW.size h1.size));have hl:=Ab hp;exact⟨(hb.cell (p:=(jA p 0)) hl).trans (cell_of_one hp),(hb.frozen (p:=(jA p 0)) hl).trans (free_of_one hp),hb⟩
theorem AJ.setBox(h:AJ w v A)(hp:w.heap[p]?=some (.cells #[x] 136 (0,0)))(y:Value):AJ (w.setCell (jA p 0) y) v A:=by
 rcases h with h|⟨b,c,hv,hne,hc⟩
 ·exact .inl h
 ·refine .inr ⟨b,c,hv,hne,fun k hk=>?_⟩;obtain⟨h1,h2,u,h3,h4⟩:=hc k hk;have hbp:b≠p:=by
   intro e;subst e;rw[aP w b (k*3+1) _ _ _ hp]at h2;simp at h2
  have hcell:∀o,(w.setCell (jA p 0) y).cell? (jA b o)=w.cell? (jA b o):=fun o=>aV (a:=(jA b o)) (Below.heap_setCell w (jA p 0) y b hbp);refine⟨(hcell _).trans h1,(hcell _).trans h2,u,(hcell _).trans h3,h4.kept fun b' cur e=>Below.heap_setCell w (jA p 0) y b' ?_⟩;intro e';subst e';have e2:w.heap[b']?=some (.cells #[x] 136 (0,0)):=hp;rw[e2]at e;simp at e
theorem MB(l:List (Int×Int×Int×Int))(k:Nat)(h:k<l.length)(x y:Int):AE (l.take (k+1)) x y=(AE (l.take k) x y||inR l[k] x y):=by
 unfold AE;rw[bn h,List.any_append];simp
theorem Pb(p q:Bool):keepB 0 p q=(p||q):=rfl
theorem Bz.lower{base':Nat}(h:Bz w base v O)(hb:base'<=base):Bz w base' v O:=by
 obtain⟨P,h1,h2,h3,h4⟩:=h;exact⟨P,h1,⟨h2.1,h2.2.imp id fun⟨g,cap,cur,hv,hg,r⟩=>⟨g,cap,cur,hv,bh hb hg,r⟩⟩,fun p hp=>⟨(h3 p hp).1,fun g hg=>bh hb ((h3 p hp).2 g hg)⟩,h4⟩
theorem Bz.setBox(h:Bz w base v A)(hp:w.heap[p]?=some (.cells #[x] 136 (0,0)))(y:Value):Bz (w.setCell (jA p 0) y) base v A:=
 h.rows fun b cur t ht e=>Below.heap_setCell w (jA p 0) y b fun e'=>by
  subst e';have e2:w.heap[b]?=some (.cells #[x] 136 (0,0)):=hp;rw[e2]at e;simp at e;exact ht e.2.symm
theorem of_out(l:List (Int×Int×Int×Int))(v:Value)(w:World)(h:As w v l)(hl:l.length<=1000)(hf:∀r∈l,AU r=true):
  Calls prog 73 #[v] w fun e w'=>∃u O,e=.returned (.agg #[u])/\Bz w' w.heap.size u O/\AL O/\(∀x y,Ay O x y=AE l x y)/\uj w w':=by
 have HF:=Aa hf;obtain⟨a,c,rfl,hc⟩:=h;have HC:=Aa hc;clear hc hf;obtain⟨n,hn⟩:∃n,l.length=n:=⟨_,rfl⟩;rw[hn];rw[hn]at hl;have HN:=Aa hn;clear hn;go_enter func73,ntmps73
 go_wp2
 go_loopg [8] n (fun g s8 wr=>∃(k:Nat) (u:Value) (O:List (Int×Int×List (Int×Int))),s8=vj k/\g+k=n/\Bz wr w.heap.size u O/\AL O/\(∀x y,Ay O x y=AE (l.take k) x y)/\wr.heap[w.heap.size]?=some (.cells #[jj] 136 (0,0))/\wr.heap[w.heap.size+1]?=some (.cells #[u] 136 (0,0))/\uj w wr)
 case atStart=>
  refine⟨0,jj,[],rfl,by omega,Sw _ _,C7,fun x y=>by simp[Ay,AE],?_,?_,?_⟩
  ·exact(Ad _ _ _ (by simp)).trans (aR w _)
  ·have h:=aR (w.alloc (.cells #[jj] 136)) (.cells #[jj] 136);rw[show(w.alloc (.cells #[jj] 136)).heap.size=w.heap.size+1 by simp]at h;exact h
  ·repeat(first|exact aN _ _|refine bS ?_ (by simp<;>omega) _)
 case round=>
  obtain⟨k,u,O,rfl,hgk,hu,hO,hmem,b0,b1,hbel⟩:=hrel;obtain⟨ua,un,uc,rfl⟩:=hu.bands.form;cases gk with
  |zero=>
   have hlt:¬(k:Int)<(n:Int):=by omega
   have k0:=cell_of_one b0;have k1:=cell_of_one b1;have f0:=free_of_one b0;have z0:=Ak k0;have z1:=Ak k1;have HE:=Aa (aK hu (aK hO (aK hmem (aK b0 hbel))));clear hu hO hmem hbel b0 b1;go_wp2;refine cU (v:=.agg #[.slice ua un uc]) (by simp[results,results73,go_sem,k0]) rfl ⟨_,rfl,O,?_,HE.out.2.1,?_,?_⟩
   ·exact HE.out.1.setBox HE.out.2.2.2.1 _
   ·have:=HE.out.2.2.1;rw[bw (by have:=HN.out;omega)]at this;exact this
   ·exact HE.out.2.2.2.2.setCell (by simp) _
  |succ g=>
   have hkl:k<l.length:=by have:=HN.out;omega
   obtain⟨b,off,rfl,hcs⟩:=HC.out (by omega);obtain⟨c1,c2,c3,c4⟩:=hcs k hkl;have hfk:=HF.out l[k] (aZ hkl);have hlb:=Ak c1;obtain⟨r,hr⟩:∃r,l[k]=r:=⟨_,rfl⟩;rw[hr]at c1 c2 c3 c4 hfk;obtain⟨x0,y0,x1,y1⟩:=r;replace c1:=(hbel.cell hlb).trans c1;replace c2:=(hbel.cell hlb).trans c2;replace c3:=(hbel.cell hlb).trans c3;replace c4:=(hbel.cell hlb).trans c4;have k0:=cell_of_one b0;have k1:=cell_of_one b1;have f1:=free_of_one b1;have z0:=Ak k0;have z1:=Ak k1;have zb:=Ak c1;have hlt:(k:Int)<(n:Int):=by omega
   have hltn:k<n:=by omega
   have hBig:n<=1000:=hl;have hCm:∀W v,uj wr W->AJ W v (Kh (x0,y0,x1,y1))->Calls prog 103 #[vj 0,.agg #[.slice ua un uc],.agg #[v]] W fun e w'=>∃v2 O2,e=.returned (.agg #[v2])/\Bz w' w.heap.size v2 O2/\AL O2/\(∀x y,Ay O2 x y=keepB 0 (Ay O x y) (Ay (Kh (x0,y0,x1,y1)) x y))/\uj W w':=fun W v hb hv=>
    (EI 0 O (Kh (x0,y0,x1,y1)) _ _ W hO (Tg _ hfk) (hu.bands.below hb) hv).mono fun _ _ ⟨v2,O2,q1,q2,q3⟩=>⟨v2,O2,q1,q2.lower (bh hbel.size hb.size),q3⟩
   have HE:=Aa (aK hu (aK hO (aK hmem (aK b0 (aK b1 hbel)))));have HH:=Aa (aK hr hfk);clear hu hO hmem hbel b0 b1 hr hfk hcs
   go_wp2_with fail
   go_region_with (first
    |(go_at_call 114;refine(WI x0 y0 x1 y1 _).mono ?_;rintro e w1 ⟨vo,rfl,hvo,hb1⟩;obtain⟨qa,qb,qc⟩:=MA (bD ((aN _ wr).alloc (aO _) _)) hb1 (aN _ _) HE.out.2.2.2.2.1;have HB1:=Aa hb1;clear hb1 qc)
    |(go_at_call 103;refine(hCm _ _ ?_ hvo).mono ?_;exact(Below.trans (bD ((aN _ wr).alloc (aO _) _)) (HB1.out.mono (by simp<;>omega)));rintro e w2 ⟨v2,O2,rfl,hv2,hO2,hm2,hb2⟩;obtain⟨va,vn,vc,rfl⟩:=hv2.bands.form;obtain⟨q1,q2,q3⟩:=MA (bD ((aN _ wr).alloc (aO _) _)) HB1.out hb2 HE.out.2.2.2.2.1;have HQ:=Aa (aK hv2 (aK hO2 (aK hm2 q3)));clear hv2 hO2 hm2 hb2 q3 hvo))
   all_goals
    go_wp2
    go_roundg g
    case measure=>omega
    case rel=>
     obtain⟨hv2,hO2,hm2,hbw⟩:=HQ.out;obtain⟨hu,hO,hmem,b0,b1,hbel⟩:=HE.out;have b0':=(hbw.block _ (Ab b0)).trans b0;have b1':=(hbw.block _ (Ab b1)).trans b1;refine⟨k+1,.slice va vn vc,O2,by go_num,by omega,hv2.setBox b1' _,hO2,fun x y=>?_,?_,one_setCell b1',(hbel.trans (hbw.mono hbel.size)).setCell (by simp) _⟩
     ·rw[hm2,Pb,hmem,UU,MB l k hkl,HH.out.1]
     ·exact(Below.heap_setCell _ _ _ _ (by simp)).trans b0'
theorem KF(l:List (Int×Int×Int×Int))(v:Value)(w:World)(h:As w v l)(hl:l.length<=1000)(hf:∀r∈l,AU r=true):
  Calls prog 73 #[v] w fun e w'=>∃u O,e=.returned (.agg #[u])/\AJ w' u O/\AL O/\(∀x y,Ay O x y=AE l x y)/\uj w w':=
 (of_out l v w h hl hf).mono fun _ _ ⟨u,O,h1,h2,h3⟩=>⟨u,O,h1,h2.bands,h3⟩
variable{l:List (Int×Int×Int×Int)}
def rc(O:List (Int×Int×List (Int×Int))):List (Int×Int×Int×Int):=O.flatMap fun b=>b.2.2.map fun s=>(s.1,b.1,s.2,b.2.1)
def Ae(l:List (Int×Int×Int×Int)):List Value:=l.flatMap fun r=>[vj r.1,vj r.2.1,vj r.2.2.1,vj r.2.2.2]
theorem AD(l m:List (Int×Int×Int×Int)):Ae (l++m)=Ae l++Ae m:=by simp[Ae]
theorem AT(l:List (Int×Int×Int×Int)):(Ae l).length=l.length*4:=by
 induction l with
 |nil=>rfl
 |cons r l ih=>
  have:Ae (r::l)=vj r.1::vj r.2.1::vj r.2.2.1::vj r.2.2.2::Ae l:=rfl;rw[this];simp[ih];omega
theorem Cs(l:List (Int×Int×Int×Int))(k:Nat)(h:k<l.length):
  (Ae l)[k*4]?=some (vj l[k].1)/\(Ae l)[k*4+1]?=some (vj l[k].2.1)/\(Ae l)[k*4+2]?=some (vj l[k].2.2.1)/\(Ae l)[k*4+3]?=some (vj l[k].2.2.2):=by
 induction l generalizing k with
 |nil=>simp at h
 |cons r l ih=>
  have e:Ae (r::l)=vj r.1::vj r.2.1::vj r.2.2.1::vj r.2.2.2::Ae l:=rfl;cases k with
  |zero=>rw[e];simp
  |succ k=>
   have:=ih k (by simpa using h);rw[e,show(k+1)*4=k*4+4 by omega];simpa using this
def AF(w:World)(base:Nat)(v:Value)(l:List (Int×Int×Int×Int)):Prop:=w.ownsRow base 53 4 v l.length (Ae l)/\(l=[]->v=jj)
theorem AF.form(h:AF w base v l):∃a c,v=.slice a l.length c:=by
 rcases h.1.2 with⟨h,h0⟩|⟨g,cap,cur,h,_⟩
 ·exact⟨none,0,by rw[h,h0]⟩
 ·exact⟨_,_,h⟩
theorem AF.alloc(h:AF w base v l)(o:Obj):AF (w.alloc o) base v l:=⟨h.1.alloc o,h.2⟩
theorem AF.rects(h:AF w base v l):As w v l:=by
 obtain⟨hown,hnil⟩:=h;by_cases hl:l=[]
 ·have:=hnil hl;subst hl;exact⟨none,0,this,fun h=>by simp at h⟩
 ·have hpos:0<l.length:=by cases l with
   |nil=>exact absurd rfl hl
   |cons a l=>simp
  obtain⟨g,cap,rfl,_,_⟩:=hown.form hpos;have cs:=hown.cells (g:=g) rfl;refine⟨_,cap,rfl,fun _=>⟨g,0,rfl,fun k hk=>?_⟩⟩;obtain⟨c1,c2,c3,c4⟩:=Cs l k hk;refine⟨?_,?_,?_,?_⟩
  ·have:=cs _ _ c1;rw[Bn]at this;simpa using this
  ·have:=cs _ _ c2;rw[Bn]at this;simpa using this
  ·have:=cs _ _ c3;rw[Bn]at this;simpa using this
  ·have:=cs _ _ c4;rw[Bn]at this;simpa using this
theorem Sz(O:List (Int×Int×List (Int×Int)))(k:Nat)(h:k<O.length):rc (O.take (k+1))=rc (O.take k)++O[k].2.2.map fun s=>(s.1,O[k].1,s.2,O[k].2.1):=by
 unfold rc;rw[bn h,cM];simp
theorem Nz{O:List (Int×Int×List (Int×Int))}(hO:AL O)(k:Nat):(rc (O.take k)).length<=k*2001:=by
 induction k with
 |zero=>simp[rc]
 |succ k ih=>
  by_cases h:k<O.length
  ·rw[Sz O k h,aY,List.length_map];have:=(hO.sp O[k] (aZ h)).1.len;rw[Nat.add_mul,Nat.one_mul];exact Nat.add_le_add ih this
  ·rw[bw (by omega)]at ih ⊢;exact bh ih (bU _ (cT k))
theorem C8:(prog.info? 53).map (fun i=>(i.zero,i.size,i.bytes))=some (some (.agg #[vj 0,vj 0,vj 0,vj 0]),4,32):=by kernel_rfl
theorem Je(O:List (Int×Int×List (Int×Int)))(u:Value)(w:World)(h:AJ w u O)(hO:AL O):
  Calls prog 77 #[.agg #[u]] w fun e w'=>∃v,e=.returned v/\AF w' w.heap.size v (rc O)/\uj w w':=by
 have HO:=Aa hO;have HU:=Aa h;have hlen:=hO.len;obtain⟨ua,un,uc,rfl⟩:=h.form;obtain⟨n,hn⟩:∃n,O.length=n:=⟨_,rfl⟩;have hun:un=n:=by
  rcases h with⟨h,h0⟩|⟨_,_,h,_⟩
  ·simp at h;rw[<-hn,h0,h.2.1];rfl
  ·simp at h;omega
 subst hun;have HN:=Aa hn;rw[hn]at hlen;clear hO h hn;obtain⟨i0,hi0,hz0,hz1,hz2⟩:=cW C8;go_enter func77,ntmps77
 go_wp2
 go_loopg [3,11] un (fun g s3 s11 wr=>∃k:Nat,s11=vj k/\g+k=un/\AF wr w.heap.size s3 (rc (O.take k))/\uj w wr)
 case atStart=>exact⟨0,rfl,by omega,⟨bA _ _ _ _,fun _=>rfl⟩,(aN _ _).alloc (aO _) _⟩
 case round=>
  rename World=>wo;rename Nat=>gO;obtain⟨k,rfl,hgk,hown,hbel⟩:=hrel;obtain⟨ra,rcp,rfl⟩:=hown.form;cases gO with
  |zero=>
   have hlt:¬(k:Int)<(un:Int):=by omega
   have HE:=Aa (aK hown hbel);clear hown hbel;go_wp2;go_ret;refine⟨_,rfl,?_,HE.out.2⟩;have:=HE.out.1;rw[bw (by have:=HN.out;omega)]at this;rw[bw (by have:=HN.out;omega)];exact this
  |succ g=>
   have hkl:k<O.length:=by have:=HN.out;omega
   have hlt:(k:Int)<(un:Int):=by omega
   have hltn:k<un:=by omega
   rcases HU.out with⟨h,h0⟩|⟨b,c,h,hne,hc⟩
   ·simp[h0]at hkl
   ·simp at h;obtain⟨rfl,h2,rfl⟩:=h;obtain⟨c1,c2,us,c3,hsp⟩:=hc k hkl;have hbl:=Ak c1;obtain⟨sa,sc,hus,hsc⟩:=hsp.len;have hspl:=(HO.out.sp O[k] (aZ hkl)).1.len;obtain⟨⟨top,bot,L⟩,hB⟩:∃b,O[k]=b:=⟨_,rfl⟩;rw[hB]at c1 c2 hsp hus hsc hspl;simp only at c1 c2 hsp hus hsc hspl;subst hus;replace c1:=(hbel.cell hbl).trans c1;replace c2:=(hbel.cell hbl).trans c2;replace c3:=(hbel.cell hbl).trans c3;have hzb:=Ak c1;obtain⟨ln,hln⟩:∃n,L.length=n:=⟨_,rfl⟩;rw[hln]at c3 hspl;have HSp:=Aa hsp;have HSc:=Aa hsc;have HL:=Aa hln;have HB:=Aa hB;have HE:=Aa (aK hown hbel);have hLen:=Nz HO.out k;clear hsp hsc hln hB hc h2 hne hown hbel HU;obtain⟨lr,hlr⟩:∃n,(rc (O.take k)).length=n:=⟨_,rfl⟩;rw[hlr]at hLen ⊢;have HLr:=Aa hlr;clear hlr;go_wp2;have hso:=HE.out.2.size
    go_loopg [3,18] ln (fun g s3 s18 wx=>∃j:Nat,s18=vj j/\g+j=ln/\AF wx w.heap.size s3 (rc (O.take k)++(L.take j).map fun s=>(s.1,top,s.2,bot))/\wx.heap[wo.heap.size]?=some (.cells #[vj top,vj bot,.slice sa ln sc] 192 (0,0))/\uj w wx)
    case atStart=>
     refine⟨0,rfl,by omega,?_,aR wo _,HE.out.2.alloc hso _⟩;have:=HE.out.1;rw[HLr.out]at this;simpa using this.alloc _
    case round=>
     obtain⟨j,rfl,hgj,hown,hbox,hbx⟩:=hrel;obtain⟨rb,rcb,rfl⟩:=hown.form;obtain⟨mm,hmm⟩:∃n,(rc (O.take k)++(L.take j).map fun s=>(s.1,top,s.2,bot)).length=n:=⟨_,rfl⟩;have hmm2:mm=lr+j:=by
      rw[<-hmm,aY,HLr.out,List.length_map,bR];have:=HL.out;omega
     rw[hmm];have HMM:=Aa hmm;cases gk with
     |zero=>
      have hjl:¬(j:Int)<(ln:Int):=by omega
      have HX:=Aa (aK hown hbx);have HM2:=Aa hmm2;clear hown hbx hmm hmm2 hbox;go_wp2
      go_roundg g
      case measure=>omega
      case rel=>
       refine⟨k+1,by go_num,by omega,?_,HX.out.2⟩;have htk:L.take j=L:=bw (by have:=HL.out;omega);have:=HX.out.1;rw[HMM.out,htk]at this;rw[Sz O k hkl,HB.out];exact this
     |succ gj=>
      have hjl:(j:Int)<(ln:Int):=by omega
      have hjln:j<ln:=by omega
      obtain⟨sb,rfl,hcs⟩:=HSc.out (by have:=HL.out;omega);obtain⟨d1,d2⟩:=hcs j (by have:=HL.out;omega);have hsb:=Ak d1;obtain⟨⟨f,t⟩,hft⟩:∃s,L.getD j (0,0)=s:=⟨_,rfl⟩;rw[hft]at d1 d2;simp only at d1 d2;replace d1:=(hbx.cell hsb).trans d1;replace d2:=(hbx.cell hsb).trans d2;have hzs:=Ak d1;have e0:wr.cell? (jA wo.heap.size 0)=some (vj top):=aP _ _ 0 _ _ _ hbox;have e1:wr.cell? (jA wo.heap.size 1)=some (vj bot):=aP _ _ 1 _ _ _ hbox;have hzo:=Ak e0;have hwl:=hbx.size;have HX:=Aa (aK hown (aK hbox hbx));have HF:=Aa hft;have hb1:mm<=10000000:=by omega
      have HM2:=Aa hmm2;clear hown hbx hmm hmm2 hbox hcs hft
      go_wp2_with(at_builtin;refine wpList_append_lies _ rfl _ _ 33 rfl w.heap.size 53 i0 _ 4 32 underlying33 hi0 hz0 hz1 hz2 rfl (by omega) (.slice rb mm rcb) mm (Ae (rc (O.take k)++(L.take j).map fun s=>(s.1,top,s.2,bot))) rfl (by have:=HX.out.1;have h2:=HMM.out;rw[h2]at this;have h3:=this.1;rw[h2]at h3;exact(h3.alloc _).alloc _) (jA (wr.heap.size+1) 0) 1 1 [vj f,vj top,vj t,vj bot] rfl rfl (bI (cs:=#[vj f,vj top,vj t,vj bot]) (t:=53) (fr:=(0,0)) (Em wr _ _ 0)) (by simp[Value.oneCell']) (by omega) (by unfold maxLen;omega) (by omega) (by simp;omega) _ rfl ?_;intro gg cp w1 hown1 hgrow hat hlt2;have HO1:=Aa hown1;have HG1:=Aa hgrow;clear hown1 hgrow hat)
      go_roundg gj
      case measure=>omega
      case rel=>
       have hjL:j<L.length:=by have:=HL.out;omega
       have hLj:L[j]=(f,t):=by
        have:=HF.out;rw[bu,aU hjL]at this;simpa using this
       have hl2:(rc (O.take k)++(L.take (j+1)).map fun s=>(s.1,top,s.2,bot))=(rc (O.take k)++(L.take j).map fun s=>(s.1,top,s.2,bot))++[(f,top,t,bot)]:=by
        rw[bn hjL,cL,hLj,List.append_assoc];rfl
       obtain⟨hown,hbox,hbx⟩:=HX.out;rw[HMM.out]at hown;have hown2:=((hown.alloc (.cells #[vj f,vj t] 194)).alloc (.cells #[vj f,vj top,vj t,vj bot] 53)).1;refine⟨j+1,by go_num,by omega,?_,?_,?_⟩
       ·rw[hl2];refine⟨?_,fun h=>by simp at h⟩;rw[aY,HMM.out,AD];exact HO1.out
       ·have hb2:((wr.alloc (.cells #[vj f,vj t] 194)).alloc (.cells #[vj f,vj top,vj t,vj bot] 53)).heap[wo.heap.size]?=some (.cells #[vj top,vj bot,sj sb ln sc] 192 (0,0)):=by
         rw[Ad _ _ _ (by simp;omega),Ad _ _ _ (by omega)];exact hbox
        exact(HG1.out.block _ (Ab hb2) (GP hown2 hb2 (by decide))).trans hb2
       ·exact((hbx.alloc hwl _).alloc (by simp;omega) _).grown HG1.out (by simp;omega) fun k hk=>(hown2.lt k hk).1
def Hy(la lb:List (Int×Int×Int×Int)):Int:=if 20<la.length\/20<lb.length then 2 else if la.all AU=true/\lb.all AU=true then 0 else 3
theorem Q8(B na ca nb cb:Nat)(aa ab:Option Addr)(w:World)(h0:w.cell? (jA B 0)=some (.slice aa na ca))(h1:w.cell? (jA B 1)=some (.slice ab nb cb))(hna:na<=maxLen)(hnb:nb<=maxLen)(h:20<na\/20<nb):
  Calls prog 71 #[sj B 2 2] w fun e w'=>e=.returned (vj 2)/\w'=w:=by
 unfold maxLen at hna hnb;by_cases hh:20<na
 ·have g1:(20:Int)<(na:Int):=by omega
  go_enter func71,ntmps71
  go_wp2;refine wp_loop_rounds 3 ?_;rw[rounds_succ];go_wp2;go_ret;exact⟨rfl,rfl⟩
 ·have g0:¬(20:Int)<(na:Int):=by omega
  have g1:(20:Int)<(nb:Int):=by omega
  clear h hh;go_enter func71,ntmps71
  go_wp2;refine wp_loop_rounds 3 ?_;rw[rounds_succ];go_wp2;rw[rounds_succ];go_wp2;go_ret;exact⟨rfl,rfl⟩
theorem Th(B:Nat)(la lb:List (Int×Int×Int×Int))(va vb:Value)(w:World)(h0:w.cell? (jA B 0)=some va)(h1:w.cell? (jA B 1)=some vb)(ha:As w va la)(hb:As w vb lb)(hla:la.length<=20)(hlb:lb.length<=20):
  Calls prog 71 #[sj B 2 2] w fun e w'=>e=.returned (vj (if la.all AU=true/\lb.all AU=true then 0 else 3))/\uj w w':=by
 have HA:=Aa ha;have HBB:=Aa hb;obtain⟨aa,ca,rfl,_⟩:=ha;obtain⟨ab,cb,rfl,_⟩:=hb;obtain⟨res,hres⟩:∃r:Int,(if la.all AU=true/\lb.all AU=true then 0 else 3)=r:=⟨_,rfl⟩;rw[hres];have HRes:=Aa hres;clear hres;have hB:=Ak h0;have HL:=Aa (aK hla hlb);obtain⟨na,hna⟩:∃n,la.length=n:=⟨_,rfl⟩;obtain⟨nb,hnb⟩:∃n,lb.length=n:=⟨_,rfl⟩;rw[hna]at h0 hla;rw[hnb]at h1 hlb;have HN:=Aa (aK hna hnb);clear hna hnb;have g0:¬(20:Int)<(na:Int):=by omega
 have g1:¬(20:Int)<(nb:Int):=by omega
 go_enter func71,ntmps71
 go_wp2;refine wp_loop_rounds 3 ?_;rw[rounds_succ];go_wp2;rw[rounds_succ];go_wp2;rw[rounds_succ];go_wp2
 go_loopg [21] 2 (fun g s21 wr=>∃k:Nat,s21=vj k/\g+k=2/\(1<=k->la.all AU=true)/\(2<=k->lb.all AU=true)/\uj w wr)
 case atStart=>exact⟨0,rfl,by omega,fun h=>by omega,fun h=>by omega,aN _ _⟩
 case round=>
  rename World=>wo;rename Nat=>gO;obtain⟨k,rfl,hgk,ok1,ok2,hbel⟩:=hrel;cases gO with
  |zero=>
   have hk:k=2:=by omega
   subst hk;have HE:=Aa (aK (ok1 (by omega)) (aK (ok2 (by omega)) hbel));clear ok1 ok2 hbel;go_wp2;go_ret;refine⟨CI ?_,HE.out.2.2⟩;rw[<-HRes.out,if_pos ⟨HE.out.1,HE.out.2.1⟩]
  |succ g=>
   obtain⟨l,n,x,c,hcell,hl,hn,hn20,hsel,hno⟩:∃(l:List (Int×Int×Int×Int)) (n:Nat) (x:Option Addr) (c:Nat),wo.cell? (jA B k)=some (.slice x n c)/\As w (.slice x n c) l/\l.length=n/\n<=20/\(l.all AU=true->(1<=k+1->la.all AU=true)/\(2<=k+1->lb.all AU=true))/\(l.all AU=false->res=3):=by
    have hk:k=0\/k=1:=by omega
    rcases hk with rfl|rfl
    ·refine⟨la,na,aa,ca,(hbel.cell hB).trans h0,by rw[<-HN.out.1];exact HA.out,HN.out.1,hla,fun h=>⟨fun _=>h,fun h2=>by omega⟩,fun h=>?_⟩;rw[<-HRes.out,if_neg];rw[h];simp
    ·refine⟨lb,nb,ab,cb,(hbel.cell hB).trans h1,by rw[<-HN.out.2];exact HBB.out,HN.out.2,hlb,fun h=>⟨fun _=>ok1 (by omega),fun _=>h⟩,fun h=>?_⟩;rw[<-HRes.out,if_neg];rw[h];simp
   have hk2:(k:Int)<2:=by omega
   have hzB:=Ak hcell;have HX:=Aa (aK hl (aK hn (aK hsel (aK hno hbel))));clear hl hn hsel hno hbel ok1 ok2;go_wp2
   go_loopg [27] n (fun gg s27 wr=>∃q:Nat,s27=vj q/\gg+q=n/\(∀r∈l.take q,AU r=true)/\uj w wr)
   case atStart=>exact⟨0,rfl,by omega,fun r hr=>by simp at hr,HX.out.2.2.2.2⟩
   case round=>
    obtain⟨q,rfl,hgq,hfit,hbr⟩:=hrel;cases gk with
    |zero=>
     have hq:¬(q:Int)<(n:Int):=by omega
     have HY:=Aa (aK hfit hbr);clear hfit hbr;go_wp2
     go_roundg g
     case measure=>omega
     case rel=>
      have hall:l.all AU=true:=by
       rw[cG];have:=HY.out.1;rw[bw (by have:=HX.out.2.1;omega)]at this;exact this
      have hs:=HX.out.2.2.1 hall;exact⟨k+1,by go_num,by omega,hs.1,hs.2,HY.out.2⟩
    |succ gq=>
     have hq:(q:Int)<(n:Int):=by omega
     have hqn:q<n:=by omega
     have hql:q<l.length:=by have:=HX.out.2.1;omega
     obtain⟨x',c',hx',hcs⟩:=HX.out.1;have hx2:x=x':=by simp at hx';exact hx'.1
     subst hx2;obtain⟨b,off,rfl,hct⟩:=hcs (by omega);obtain⟨c1,c2,c3,c4⟩:=hct q hql;have hbl:=Ak c1;obtain⟨⟨x0,y0,x1,y1⟩,hr⟩:∃r,l[q]=r:=⟨_,rfl⟩;rw[hr]at c1 c2 c3 c4;simp only at c1 c2 c3 c4;replace c1:=(hbr.cell hbl).trans c1;replace c2:=(hbr.cell hbl).trans c2;replace c3:=(hbr.cell hbl).trans c3;replace c4:=(hbr.cell hbl).trans c4;have hzb:=Ak c1;have hwr:=hbr.size;have hM:=fun W=>Hx x0 y0 x1 y1 W;obtain⟨p,hp⟩:∃p,AU (x0,y0,x1,y1)=p:=⟨_,rfl⟩;rw[hp]at hM;have HY:=Aa (aK hfit (aK hbr (aK hr hp)));clear hfit hbr hr hp hcs hct hx';cases p with
     |true=>
      go_wp2_with(go_at_call 68;refine(hM _).mono ?_;rintro e w' ⟨rfl,rfl⟩)
      go_roundg gq
      case measure=>omega
      case rel=>
       obtain⟨hfit,hbr,hr,hp⟩:=HY.out;refine⟨q+1,by go_num,by omega,fun r hr'=>?_,(hbr.alloc hwr _).alloc (by simp;omega) _⟩;rw[bn hql,hr]at hr';simp at hr';rcases hr' with h|h
       ·exact hfit r h
       ·subst h;exact hp
     |false=>
      go_wp2_with(go_at_call 68;refine(hM _).mono ?_;rintro e w' ⟨rfl,rfl⟩)
      go_ret;obtain⟨hfit,hbr,hr,hp⟩:=HY.out;refine⟨CI ?_,(hbr.alloc hwr _).alloc (by simp;omega) _⟩;refine(HX.out.2.2.2.1 ?_).symm;rw[List.all_eq_false];exact⟨l[q],aZ hql,by rw[hr,hp];simp⟩
theorem As.form(h:As w v l):∃a c,v=.slice a l.length c:=by
 obtain⟨a,c,hv,_⟩:=h;exact⟨a,c,hv⟩
theorem Ti(B:Nat)(la lb:List (Int×Int×Int×Int))(va vb:Value)(w:World)(h0:w.cell? (jA B 0)=some va)(h1:w.cell? (jA B 1)=some vb)(ha:As w va la)(hb:As w vb lb)(hla:la.length<=maxLen)(hlb:lb.length<=maxLen):
  Calls prog 71 #[sj B 2 2] w fun e w'=>e=.returned (vj (Hy la lb))/\uj w w':=by
 unfold Hy;by_cases h:20<la.length\/20<lb.length
 ·rw[if_pos h];obtain⟨aa,ca,rfl⟩:=ha.form;obtain⟨ab,cb,rfl⟩:=hb.form;exact(Q8 B _ ca _ cb aa ab w h0 h1 hla hlb h).mono fun e w' ⟨he,hw⟩=>⟨he,by subst hw;exact aN _ _⟩
 ·rw[if_neg h];exact Th B la lb va vb w h0 h1 ha hb (by omega) (by omega)
def D3(kind:Int)(la lb:List (Int×Int×Int×Int))(w:World)(e:Ending)(w':World):Prop:=
 uj w w'/\∃v er,e=.returned (.tuple #[v,vj er])/\
  ((¬(0<=kind/\kind<=3)/\v=jj/\er=1)\/((0<=kind/\kind<=3)/\Hy la lb≠0/\v=jj/\er=Hy la lb)\/
   ((0<=kind/\kind<=3)/\Hy la lb=0/\er=0/\∃O,AF w' w.heap.size v (rc O)/\AL O/\∀x y,Ay O x y=keepB kind (AE la x y) (AE lb x y)))
theorem AF.lower{base base':Nat}(h:AF w base v l)(hb:base'<=base):AF w base' v l:=by
 obtain⟨⟨h1,h2⟩,h3⟩:=h;refine⟨⟨h1,?_⟩,h3⟩;rcases h2 with h2|⟨g,cap,cur,a1,a2,a3⟩
 ·exact .inl h2
 ·exact .inr ⟨g,cap,cur,a1,by omega,a3⟩
theorem Tj{la lb:List (Int×Int×Int×Int)}(h:Hy la lb=0):la.length<=20/\lb.length<=20/\(∀r∈la,AU r=true)/\∀r∈lb,AU r=true:=by
 unfold Hy at h;split at h
 ·omega
 ·rename_i h1
  split at h
  ·rename_i h2
   exact⟨by omega,by omega,cG.1 h2.1,cG.1 h2.2⟩
  ·omega
theorem WJ(kind:Int)(la lb:List (Int×Int×Int×Int))(va vb:Value)(w:World)(ha:As w va la)(hb:As w vb lb)(hla:la.length<=maxLen)(hlb:lb.length<=maxLen):
  Calls prog 83 #[vj kind,va,vb] w (D3 kind la lb w):=by
 by_cases hk:0<=kind/\kind<=3
 ·obtain⟨aa,ca,rfl⟩:=ha.form;obtain⟨ab,cb,rfl⟩:=hb.form;have hck:∀W,uj w W->W.cell? (jA w.heap.size 0)=some (.slice aa la.length ca)->W.cell? (jA w.heap.size 1)=some (.slice ab lb.length cb)->Calls prog 71 #[sj w.heap.size 2 2] W fun e w'=>e=.returned (vj (Hy la lb))/\uj W w':=fun W hW h0 h1=>
   Ti w.heap.size la lb _ _ W h0 h1 (ha.below hW) (hb.below hW) hla hlb
  have HAns:=Aa (rfl:D3 kind la lb w=D3 kind la lb w);obtain⟨er,her⟩:∃x,Hy la lb=x:=⟨_,rfl⟩;rw[her]at hck;have HE:=Aa her;have HAB:=Aa (aK ha hb);have HK:=Aa hk;obtain⟨hk0,hk3⟩:=hk;obtain⟨na,hna⟩:∃n,la.length=n:=⟨_,rfl⟩;obtain⟨nb,hnb⟩:∃n,lb.length=n:=⟨_,rfl⟩;rw[hna,hnb]at hck;rw[hna,hnb];rw[hna,hnb]at HAB;have HN:=Aa (aK hna hnb);clear hna hnb ha hb hla hlb her;by_cases h0:(er != 0)=true
  ·go_enter func83,ntmps83
   go_wp2_with(go_at_call 71;refine(hck _ ?_ ?_ ?_).mono ?_;exact(aN _ _).alloc (aO _) _;(simp);(simp);rintro e w1 ⟨rfl,hb1⟩;have HB1:=Aa hb1;clear hb1)
   go_ret2
   refine⟨((aN _ _).alloc (aO _) _).trans (HB1.out.mono (by simp)),_,er,rfl,.inr (.inl ⟨HK.out,?_,rfl,HE.out.symm⟩)⟩;rw[HE.out];simpa using h0
  ·have h0:(er != 0)=false:=by simpa using h0
   have he0:er=0:=by simpa using h0
   have hz:=Tj (HE.out.trans he0);have HZ:=Aa (aK he0 hz);clear he0 hz;go_enter func83,ntmps83
   go_wp2_with(first
    |(go_at_call 71;refine(hck _ ?_ ?_ ?_).mono ?_;exact(aN _ _).alloc (aO _) _;(simp);(simp);rintro e w1 ⟨rfl,hb1⟩;have HB1:=Aa (((aN _ w).alloc (aO _) _).trans (hb1.mono (by simp)));clear hb1)
    |(go_at_call_of 73 (Value.slice aa na ca);refine(KF la _ _ (HAB.out.1.below HB1.out) (bh HZ.out.2.1 (by omega)) HZ.out.2.2.2.1).mono ?_;rintro e w2 ⟨u1,O1,rfl,hu1,hO1,hm1,hb2⟩;have H2:=Aa (aK hu1 (aK hO1 (aK hm1 hb2)));clear hu1 hO1 hm1 hb2)
    |(go_at_call_of 73 (Value.slice ab nb cb);refine(KF lb _ _ ((HAB.out.2.below HB1.out).below H2.out.2.2.2) (bh HZ.out.2.2.1 (by omega)) HZ.out.2.2.2.2).mono ?_;rintro e w3 ⟨u2,O2,rfl,hu2,hO2,hm2,hb3⟩;have H3:=Aa (aK hu2 (aK hO2 (aK hm2 hb3)));clear hu2 hO2 hm2 hb3)
    |(go_at_call 103;refine(JQ kind O1 O2 _ _ _ H2.out.2.1 H3.out.2.1 (H2.out.1.below H3.out.2.2.2) H3.out.1).mono ?_;rintro e w4 ⟨v4,O4,rfl,hv4,hO4,hm4,hb4⟩;have H4:=Aa (aK hv4 (aK hO4 (aK hm4 hb4)));clear hv4 hO4 hm4 hb4)
    |(go_at_call 77;refine(Je O4 _ _ H4.out.1 H4.out.2.1).mono ?_;rintro e w5 ⟨v5,rfl,hv5,hb5⟩;have H5:=Aa (aK hv5 hb5);clear hv5 hb5))
   go_ret2
   have hb:=HB1.out;have hb2:=hb.trans (H2.out.2.2.2.mono hb.size);have hb3:=hb2.trans (H3.out.2.2.2.mono hb2.size);have hb4:=hb3.trans (H4.out.2.2.2.mono hb3.size);refine⟨hb4.trans (H5.out.2.mono hb4.size),_,0,rfl,.inr (.inr ⟨HK.out,HE.out.trans HZ.out.1,rfl,O4,H5.out.1.lower hb4.size,H4.out.2.1,fun x y=>?_⟩)⟩;rw[H4.out.2.2.1,H2.out.2.2.1,H3.out.2.2.1]
 ·have HAns:Hid (¬(0<=kind/\kind<=3)):=hk;by_cases h1:kind<0
  ·clear hk;go_enter func83,ntmps83
   go_wp2
   go_ret2
   exact⟨aN _ _,_,_,rfl,.inl ⟨HAns.out,rfl,rfl⟩⟩
  ·have h2:3<kind:=by omega
   clear hk;go_enter func83,ntmps83
   go_wp2
   go_ret2
   exact⟨aN _ _,_,_,rfl,.inl ⟨HAns.out,rfl,rfl⟩⟩
end Go.Proofs.YtofinpocigbbeaaGreat
