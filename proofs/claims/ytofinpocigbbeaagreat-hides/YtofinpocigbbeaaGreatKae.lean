import Derived.Test.YtofinpocigbbeaaGreatKab
import Derived.Test.YtofinpocigbbeaaGreatKac
import Derived.Test.YtofinpocigbbeaaGreatKad
import Derived.Handy
import Derived.Maps.AppendAt
set_option maxHeartbeats 2000000
set_option maxRecDepth 100000
set_option linter.unusedSimpArgs false
namespace Go.Proofs.YtofinpocigbbeaaGreat
open Go.Proofs.Tryz Go.RowKit
attribute [local go_sem ↓] Go.wp_at_zero Go.wp_at_succ
def As(w:World)(v:Value)(l:List (Int×Int×Int×Int)):Prop:=
 ∃a c,v=.slice a l.length c/\(0<l.length->∃b off,a=some ⟨b,off,none⟩/\∀k (h:k<l.length),w.cell? ⟨b,off+k*4,none⟩=some (.int .i64 l[k].1)/\w.cell? ⟨b,off+k*4+1,none⟩=some (.int .i64 l[k].2.1)/\w.cell? ⟨b,off+k*4+2,none⟩=some (.int .i64 l[k].2.2.1)/\w.cell? ⟨b,off+k*4+3,none⟩=some (.int .i64 l[k].2.2.2))
theorem As.below{w w':World}{v:Value}{l:List (Int×Int×Int×Int)}(h:As w v l)(hb:Below w.heap.size w w'):As w' v l:=by
 obtain⟨a,c,hv,hc⟩:=h;refine⟨a,c,hv,fun hl=>?_⟩;obtain⟨b,off,ha,hcs⟩:=hc hl;refine⟨b,off,ha,fun k hk=>?_⟩;obtain⟨h1,h2,h3,h4⟩:=hcs k hk;have hlt:=Ak h1;exact⟨(hb.cell hlt).trans h1,(hb.cell hlt).trans h2,(hb.cell hlt).trans h3,(hb.cell hlt).trans h4⟩
def AU(r:Int×Int×Int×Int):Bool:=decide (-2000<=r.1/\r.1<=r.2.2.1/\r.2.2.1<=2000/\-2000<=r.2.1/\r.2.1<=r.2.2.2/\r.2.2.2<=2000)
def inR(r:Int×Int×Int×Int)(x y:Int):Bool:=decide (r.1<=x/\x<r.2.2.1/\r.2.1<=y/\y<r.2.2.2)
def AE(l:List (Int×Int×Int×Int))(x y:Int):Bool:=l.any fun r=>inR r x y
theorem Hx(a b c d:Int)(w:World):
  Calls prog 68 #[.agg #[.int .i64 a,.int .i64 b,.int .i64 c,.int .i64 d]] w fun e w'=>e=.returned (.bool (AU (a,b,c,d)))/\w'=w.alloc (.cells #[.int .i64 a,.int .i64 b,.int .i64 c,.int .i64 d] 53):=by
 go_enter func68,ntmps68
 go_wp2;all_goals
  go_ret;refine⟨Cm ?_,rfl⟩;unfold AU;rw[Bool.eq_iff_iff]
  try rw[bT]
  try rw[bT]
  simp only[Bool.false_eq_true,false_iff, *]
  try simp
  try omega
def Kh(r:Int×Int×Int×Int):List (Int×Int×List (Int×Int)):=if r.1<r.2.2.1/\r.2.1<r.2.2.2 then [(r.2.1,r.2.2.2,[(r.1,r.2.2.1)])]else []
theorem Tg(r:Int×Int×Int×Int)(h:AU r=true):AL (Kh r):=by
 unfold AU at h;simp only[bT]at h;unfold Kh;split
 ·rename_i hc
  refine⟨?_,?_,?_,?_,?_⟩
  ·rw[AB,Bw];simp;omega
  ·intro b hb;simp at hb;subst hb;exact hc.2
  ·intro e he;rw[AB,Bw]at he;simp at he;rcases he with he|he<;>subst he<;>omega
  ·intro b hb;simp at hb;subst hb;refine⟨⟨?_,?_⟩,by simp⟩
   ·rw[A5,Dl];simp;omega
   ·intro e he;rw[A5,Dl]at he;simp at he;rcases he with he|he<;>subst he<;>omega
  ·intro k hk;simp at hk
 ·exact C7
theorem UU(r:Int×Int×Int×Int)(x y:Int):Ay (Kh r) x y=inR r x y:=by
 unfold Kh inR;split
 ·unfold Ay Bi;simp;rw[Bool.eq_iff_iff];simp;omega
 ·rename_i h
  unfold Ay;symm;simp;omega
theorem Pa(w:World)(o1 o2 o3 o4 o5:Obj):(((((w.alloc o1).alloc o2).alloc o3).alloc o4).alloc o5).heap[w.heap.size+1+1+1]?=some o4/\(((((w.alloc o1).alloc o2).alloc o3).alloc o4).alloc o5).heap[w.heap.size+1+1+1+1]?=some o5:=by
 have n3:=aR (((w.alloc o1).alloc o2).alloc o3) o4;have n4:=aR ((((w.alloc o1).alloc o2).alloc o3).alloc o4) o5;rw[show(((w.alloc o1).alloc o2).alloc o3).heap.size=w.heap.size+1+1+1 by simp]at n3;rw[show((((w.alloc o1).alloc o2).alloc o3).alloc o4).heap.size=w.heap.size+1+1+1+1 by simp]at n4;exact⟨(Ad _ _ _ (by simp)).trans n3,n4⟩
theorem WI(a b c d:Int)(w:World):
  Calls prog 114 #[.agg #[.int .i64 a,.int .i64 b,.int .i64 c,.int .i64 d]] w fun e w'=>∃v,e=.returned (.agg #[v])/\AJ w' v (Kh (a,b,c,d))/\Below w.heap.size w w':=by
 by_cases h:a<c/\b<d
 ·obtain⟨h1,h2⟩:=h;have hO:Hid (Kh (a,b,c,d)=[(b,d,[(a,c)])]):=by rw[Hid];unfold Kh;rw[if_pos ⟨h1,h2⟩]
  go_enter func114,ntmps114
  go_wp2;refine cU (v:=.agg #[.slice (some ⟨w.heap.size+1+1+1+1,0,none⟩) 1 1]) (by simp[results,results114,go_sem]) rfl ⟨_,rfl,?_,?_⟩
  ·rw[hO.out];refine .inr ⟨w.heap.size+1+1+1+1,1,rfl,by simp,fun k hk=>?_⟩;have hk0:k=0:=by simpa using hk
   subst hk0;obtain⟨f3,f4⟩:=Pa w (.cells #[.int .i64 a,.int .i64 b,.int .i64 c,.int .i64 d] 53) (.cells #[.slice (some ⟨w.heap.size+1+1+1+1,0,none⟩) 1 1] 136) (.cells #[.int .i64 a,.int .i64 b,.int .i64 c,.int .i64 d] 53) (.cells #[.int .i64 a,.int .i64 c] 194) (.cells #[.int .i64 b,.int .i64 d,.slice (some ⟨w.heap.size+1+1+1,0,none⟩) 1 1] 192);refine⟨aP _ _ 0 _ _ _ f4,aP _ _ 1 _ _ _ f4,.slice (some ⟨w.heap.size+1+1+1,0,none⟩) 1 1,aP _ _ 2 _ _ _ f4,.inr ⟨w.heap.size+1+1+1,1,#[.int .i64 a,.int .i64 c],rfl,by simp,?_,fun j hj=>?_⟩⟩
   ·exact f3
   ·have hj2:j=0\/j=1:=by simp at hj;omega
    rcases hj2 with rfl|rfl<;>rfl
  ·repeat(first|exact aN _ _|refine cO ?_ (by simp<;>omega) _|refine bS ?_ (by simp<;>omega) _)
 ·have hO:Hid (Kh (a,b,c,d)=[]):=by rw[Hid];unfold Kh;rw[if_neg h]
  by_cases h1:a<c
  ·have h2:¬b<d:=fun h2=>h ⟨h1,h2⟩;clear h;go_enter func114,ntmps114
   go_wp2;refine cU (v:=.agg #[.slice none 0 0]) (by simp[results,results114,go_sem]) rfl ⟨_,rfl,.inl ⟨rfl,hO.out⟩,?_⟩;repeat(first|exact aN _ _|refine cO ?_ (by simp<;>omega) _|refine bS ?_ (by simp<;>omega) _)
  ·clear h;go_enter func114,ntmps114
   go_wp2;refine cU (v:=.agg #[.slice none 0 0]) (by simp[results,results114,go_sem]) rfl ⟨_,rfl,.inl ⟨rfl,hO.out⟩,?_⟩;repeat(first|exact aN _ _|refine cO ?_ (by simp<;>omega) _|refine bS ?_ (by simp<;>omega) _)
variable{A O:List (Int×Int×List (Int×Int))}{base p:Nat}{v x:Value}{w:World}
theorem AJ.form{u:Value}(hu:AJ w u O):∃a n c,u=.slice a n c:=by
 rcases hu with⟨h,_⟩|⟨_,_,h,_⟩
 ·exact⟨_,_,_,h⟩
 ·exact⟨_,_,_,h⟩
theorem MA{wr W w1 w2:World}{t:TypeId}(hW:Below wr.heap.size wr W)(h1:Below W.heap.size W w1)(h2:Below w1.heap.size w1 w2)(hp:wr.heap[p]?=some (.cells #[v] t (0,0))):w2.cell? ⟨p,0,none⟩=some v/\w2.frozen? ⟨p,0,none⟩=false/\Below wr.heap.size wr w2:=by
 have hb:=(hW.trans (h1.mono hW.size)).trans (h2.mono (bh hW.size h1.size));have hl:=Ab hp;exact⟨(hb.cell (p:=⟨p,0,none⟩) hl).trans (cell_of_one hp),(hb.frozen (p:=⟨p,0,none⟩) hl).trans (free_of_one hp),hb⟩
theorem AJ.setBox(h:AJ w v A)(hp:w.heap[p]?=some (.cells #[x] 136 (0,0)))(y:Value):AJ (w.setCell ⟨p,0,none⟩ y) v A:=by
 rcases h with h|⟨b,c,hv,hne,hc⟩
 ·exact .inl h
 ·refine .inr ⟨b,c,hv,hne,fun k hk=>?_⟩;obtain⟨h1,h2,u,h3,h4⟩:=hc k hk;have hbp:b≠p:=by
   intro e;subst e;rw[aP w b (k*3+1) _ _ _ hp]at h2;simp at h2
  have hcell:∀o,(w.setCell ⟨p,0,none⟩ y).cell? ⟨b,o,none⟩=w.cell? ⟨b,o,none⟩:=fun o=>aV (a:=⟨b,o,none⟩) (Below.heap_setCell w ⟨p,0,none⟩ y b hbp);refine⟨(hcell _).trans h1,(hcell _).trans h2,u,(hcell _).trans h3,h4.kept fun b' cur e=>Below.heap_setCell w ⟨p,0,none⟩ y b' ?_⟩;intro e';subst e';have e2:w.heap[b']?=some (.cells #[x] 136 (0,0)):=hp;rw[e2]at e;simp at e
theorem MB(l:List (Int×Int×Int×Int))(k:Nat)(h:k<l.length)(x y:Int):AE (l.take (k+1)) x y=(AE (l.take k) x y||inR l[k] x y):=by
 unfold AE;rw[bn h,List.any_append];simp
theorem Pb(p q:Bool):keepB 0 p q=(p||q):=rfl
theorem Bz.lower{base':Nat}(h:Bz w base v O)(hb:base'<=base):Bz w base' v O:=by
 obtain⟨P,h1,h2,h3,h4⟩:=h;exact⟨P,h1,⟨h2.1,h2.2.imp id fun⟨g,cap,cur,hv,hg,r⟩=>⟨g,cap,cur,hv,bh hb hg,r⟩⟩,fun p hp=>⟨(h3 p hp).1,fun g hg=>bh hb ((h3 p hp).2 g hg)⟩,h4⟩
theorem Bz.setBox(h:Bz w base v A)(hp:w.heap[p]?=some (.cells #[x] 136 (0,0)))(y:Value):Bz (w.setCell ⟨p,0,none⟩ y) base v A:=
 h.rows fun b cur t ht e=>Below.heap_setCell w ⟨p,0,none⟩ y b fun e'=>by
  subst e';have e2:w.heap[b]?=some (.cells #[x] 136 (0,0)):=hp;rw[e2]at e;simp at e;exact ht e.2.symm
theorem of_out(l:List (Int×Int×Int×Int))(v:Value)(w:World)(h:As w v l)(hl:l.length<=1000)(hf:∀r∈l,AU r=true):
  Calls prog 73 #[v] w fun e w'=>∃u O,e=.returned (.agg #[u])/\Bz w' w.heap.size u O/\AL O/\(∀x y,Ay O x y=AE l x y)/\Below w.heap.size w w':=by
 have HF:=Aa hf;obtain⟨a,c,rfl,hc⟩:=h;have HC:=Aa hc;clear hc hf;obtain⟨n,hn⟩:∃n,l.length=n:=⟨_,rfl⟩;rw[hn];rw[hn]at hl;have HN:=Aa hn;clear hn;go_enter func73,ntmps73
 go_wp2
 go_loopg [8] n (fun g s8 wr=>∃(k:Nat) (u:Value) (O:List (Int×Int×List (Int×Int))),s8=.int .i64 k/\g+k=n/\Bz wr w.heap.size u O/\AL O/\(∀x y,Ay O x y=AE (l.take k) x y)/\wr.heap[w.heap.size]?=some (.cells #[.slice none 0 0] 136 (0,0))/\wr.heap[w.heap.size+1]?=some (.cells #[u] 136 (0,0))/\Below w.heap.size w wr)
 case atStart=>
  refine⟨0,.slice none 0 0,[],rfl,by omega,Sw _ _,C7,fun x y=>by simp[Ay,AE],?_,?_,?_⟩
  ·exact(Ad _ _ _ (by simp)).trans (aR w _)
  ·have h:=aR (w.alloc (.cells #[.slice none 0 0] 136)) (.cells #[.slice none 0 0] 136);rw[show(w.alloc (.cells #[.slice none 0 0] 136)).heap.size=w.heap.size+1 by simp]at h;exact h
  ·repeat(first|exact aN _ _|refine bS ?_ (by simp<;>omega) _)
 case round=>
  obtain⟨k,u,O,rfl,hgk,hu,hO,hmem,b0,b1,hbel⟩:=hrel;obtain⟨ua,un,uc,rfl⟩:=hu.bands.form;cases gk with
  |zero=>
   have hlt:¬(k:Int)<(n:Int):=by omega
   have k0:=cell_of_one b0;have k1:=cell_of_one b1;have f0:=free_of_one b0;have z0:=Ak k0;have z1:=Ak k1;have HE:=Aa (aK hu (aK hO (aK hmem (aK b0 hbel))));clear hu hO hmem hbel b0 b1;go_wp2;refine cU (v:=.agg #[.slice ua un uc]) (by simp[results,results73,go_sem,k0]) rfl ⟨_,rfl,O,?_,HE.out.2.1,?_,?_⟩
   ·exact HE.out.1.setBox HE.out.2.2.2.1 _
   ·have:=HE.out.2.2.1;rw[bw (by have:=HN.out;omega)]at this;exact this
   ·exact HE.out.2.2.2.2.setCell (by simp) _
  |succ g=>
   have hkl:k<l.length:=by have:=HN.out;omega
   obtain⟨b,off,rfl,hcs⟩:=HC.out (by omega);obtain⟨c1,c2,c3,c4⟩:=hcs k hkl;have hfk:=HF.out l[k] (aZ hkl);have hlb:=Ak c1;obtain⟨r,hr⟩:∃r,l[k]=r:=⟨_,rfl⟩;rw[hr]at c1 c2 c3 c4 hfk;obtain⟨x0,y0,x1,y1⟩:=r;replace c1:=(hbel.cell hlb).trans c1;replace c2:=(hbel.cell hlb).trans c2;replace c3:=(hbel.cell hlb).trans c3;replace c4:=(hbel.cell hlb).trans c4;have k0:=cell_of_one b0;have k1:=cell_of_one b1;have f1:=free_of_one b1;have z0:=Ak k0;have z1:=Ak k1;have zb:=Ak c1;have hlt:(k:Int)<(n:Int):=by omega
   have hltn:k<n:=by omega
   have hBig:n<=1000:=hl;have hCm:∀W v,Below wr.heap.size wr W->AJ W v (Kh (x0,y0,x1,y1))->Calls prog 103 #[.int .i64 0,.agg #[.slice ua un uc],.agg #[v]] W fun e w'=>∃v2 O2,e=.returned (.agg #[v2])/\Bz w' w.heap.size v2 O2/\AL O2/\(∀x y,Ay O2 x y=keepB 0 (Ay O x y) (Ay (Kh (x0,y0,x1,y1)) x y))/\Below W.heap.size W w':=fun W v hb hv=>
    (EI 0 O (Kh (x0,y0,x1,y1)) _ _ W hO (Tg _ hfk) (hu.bands.below hb) hv).mono fun _ _ ⟨v2,O2,q1,q2,q3⟩=>⟨v2,O2,q1,q2.lower (bh hbel.size hb.size),q3⟩
   have HE:=Aa (aK hu (aK hO (aK hmem (aK b0 (aK b1 hbel)))));have HH:=Aa (aK hr hfk);clear hu hO hmem hbel b0 b1 hr hfk hcs
   go_wp2_with fail
   go_region_with (first
    |(go_at_call 114;refine(WI x0 y0 x1 y1 _).mono ?_;rintro e w1 ⟨vo,rfl,hvo,hb1⟩;obtain⟨qa,qb,qc⟩:=MA (bD ((aN _ wr).alloc (aO _) _)) hb1 (aN _ _) HE.out.2.2.2.2.1;have HB1:=Aa hb1;clear hb1 qc)
    |(go_at_call 103;refine(hCm _ _ ?_ hvo).mono ?_;exact(Below.trans (bD ((aN _ wr).alloc (aO _) _)) (HB1.out.mono (by simp<;>omega)));rintro e w2 ⟨v2,O2,rfl,hv2,hO2,hm2,hb2⟩;obtain⟨va,vn,vc,rfl⟩:=hv2.bands.form;obtain⟨q1,q2,q3⟩:=MA (bD ((aN _ wr).alloc (aO _) _)) HB1.out hb2 HE.out.2.2.2.2.1;have HQ:=Aa (aK hv2 (aK hO2 (aK hm2 q3)));clear hv2 hO2 hm2 hb2 q3 hvo))
   all_goals
    go_wp2
    go_roundg g
    case measure=>omega
    case rel=>
     obtain⟨hv2,hO2,hm2,hbw⟩:=HQ.out;obtain⟨hu,hO,hmem,b0,b1,hbel⟩:=HE.out;have b0':=(hbw.block _ (Ab b0)).trans b0;have b1':=(hbw.block _ (Ab b1)).trans b1;refine⟨k+1,.slice va vn vc,O2,by go_num,by omega,hv2.setBox b1' _,hO2,fun x y=>?_,?_,one_setCell b1',(hbel.trans (hbw.mono hbel.size)).setCell (by simp) _⟩
     ·rw[hm2,Pb,hmem,UU,MB l k hkl,HH.out.1]
     ·exact(Below.heap_setCell _ _ _ _ (by simp)).trans b0'
theorem KF(l:List (Int×Int×Int×Int))(v:Value)(w:World)(h:As w v l)(hl:l.length<=1000)(hf:∀r∈l,AU r=true):
  Calls prog 73 #[v] w fun e w'=>∃u O,e=.returned (.agg #[u])/\AJ w' u O/\AL O/\(∀x y,Ay O x y=AE l x y)/\Below w.heap.size w w':=
 (of_out l v w h hl hf).mono fun _ _ ⟨u,O,h1,h2,h3⟩=>⟨u,O,h1,h2.bands,h3⟩
variable{l:List (Int×Int×Int×Int)}
def rc(O:List (Int×Int×List (Int×Int))):List (Int×Int×Int×Int):=O.flatMap fun b=>b.2.2.map fun s=>(s.1,b.1,s.2,b.2.1)
def Ae(l:List (Int×Int×Int×Int)):List Value:=l.flatMap fun r=>[.int .i64 r.1,.int .i64 r.2.1,.int .i64 r.2.2.1,.int .i64 r.2.2.2]
theorem AD(l m:List (Int×Int×Int×Int)):Ae (l++m)=Ae l++Ae m:=by simp[Ae]
theorem AT(l:List (Int×Int×Int×Int)):(Ae l).length=l.length*4:=by
 induction l with
 |nil=>rfl
 |cons r l ih=>
  have:Ae (r::l)=.int .i64 r.1::.int .i64 r.2.1::.int .i64 r.2.2.1::.int .i64 r.2.2.2::Ae l:=rfl;rw[this];simp[ih];omega
theorem Cs(l:List (Int×Int×Int×Int))(k:Nat)(h:k<l.length):
  (Ae l)[k*4]?=some (.int .i64 l[k].1)/\(Ae l)[k*4+1]?=some (.int .i64 l[k].2.1)/\(Ae l)[k*4+2]?=some (.int .i64 l[k].2.2.1)/\(Ae l)[k*4+3]?=some (.int .i64 l[k].2.2.2):=by
 induction l generalizing k with
 |nil=>simp at h
 |cons r l ih=>
  have e:Ae (r::l)=.int .i64 r.1::.int .i64 r.2.1::.int .i64 r.2.2.1::.int .i64 r.2.2.2::Ae l:=rfl;cases k with
  |zero=>rw[e];simp
  |succ k=>
   have:=ih k (by simpa using h);rw[e,show(k+1)*4=k*4+4 by omega];simpa using this
def AF(w:World)(base:Nat)(v:Value)(l:List (Int×Int×Int×Int)):Prop:=w.ownsRow base 53 4 v l.length (Ae l)/\(l=[]->v=.slice none 0 0)
theorem AF.form(h:AF w base v l):∃a c,v=.slice a l.length c:=by
 rcases h.1.2 with⟨h,h0⟩|⟨g,cap,cur,h,_⟩
 ·exact⟨none,0,by rw[h,h0]⟩
 ·exact⟨_,_,h⟩
theorem AF.alloc(h:AF w base v l)(o:Obj):AF (w.alloc o) base v l:=⟨h.1.alloc o,h.2⟩
theorem AF.rects(h:AF w base v l):As w v l:=by
 obtain⟨hown,hnil⟩:=h;by_cases hl:l=[]
 ·have:=hnil hl;subst hl;exact⟨none,0,this,fun h=>by simp at h⟩
 ·have hpos:0<l.length:=by cases l with
   |nil=>exact absurd rfl hl
   |cons a l=>simp
  obtain⟨g,cap,rfl,_,_⟩:=hown.form hpos;have cs:=hown.cells (g:=g) rfl;refine⟨_,cap,rfl,fun _=>⟨g,0,rfl,fun k hk=>?_⟩⟩;obtain⟨c1,c2,c3,c4⟩:=Cs l k hk;refine⟨?_,?_,?_,?_⟩
  ·have:=cs _ _ c1;rw[Bn]at this;simpa using this
  ·have:=cs _ _ c2;rw[Bn]at this;simpa using this
  ·have:=cs _ _ c3;rw[Bn]at this;simpa using this
  ·have:=cs _ _ c4;rw[Bn]at this;simpa using this
theorem Sz(O:List (Int×Int×List (Int×Int)))(k:Nat)(h:k<O.length):rc (O.take (k+1))=rc (O.take k)++O[k].2.2.map fun s=>(s.1,O[k].1,s.2,O[k].2.1):=by
 unfold rc;rw[bn h,cM];simp
theorem Nz{O:List (Int×Int×List (Int×Int))}(hO:AL O)(k:Nat):(rc (O.take k)).length<=k*2001:=by
 induction k with
 |zero=>simp[rc]
 |succ k ih=>
  by_cases h:k<O.length
  ·rw[Sz O k h,aY,List.length_map];have:=(hO.sp O[k] (aZ h)).1.len;rw[Nat.add_mul,Nat.one_mul];exact Nat.add_le_add ih this
  ·rw[bw (by omega)]at ih ⊢;exact bh ih (bU _ (cT k))
theorem C8:(prog.info? 53).map (fun i=>(i.zero,i.size,i.bytes))=some (some (.agg #[.int .i64 0,.int .i64 0,.int .i64 0,.int .i64 0]),4,32):=by kernel_rfl
theorem Je(O:List (Int×Int×List (Int×Int)))(u:Value)(w:World)(h:AJ w u O)(hO:AL O):
  Calls prog 77 #[.agg #[u]] w fun e w'=>∃v,e=.returned v/\AF w' w.heap.size v (rc O)/\Below w.heap.size w w':=by
 have HO:=Aa hO;have HU:=Aa h;have hlen:=hO.len;obtain⟨ua,un,uc,rfl⟩:=h.form;obtain⟨n,hn⟩:∃n,O.length=n:=⟨_,rfl⟩;have hun:un=n:=by
  rcases h with⟨h,h0⟩|⟨_,_,h,_⟩
  ·simp at h;rw[<-hn,h0,h.2.1];rfl
  ·simp at h;omega
 subst hun;have HN:=Aa hn;rw[hn]at hlen;clear hO h hn;obtain⟨i0,hi0,hz0,hz1,hz2⟩:=cW C8;go_enter func77,ntmps77
 go_wp2
 go_loopg [3,11] un (fun g s3 s11 wr=>∃k:Nat,s11=.int .i64 k/\g+k=un/\AF wr w.heap.size s3 (rc (O.take k))/\Below w.heap.size w wr)
 case atStart=>exact⟨0,rfl,by omega,⟨bA _ _ _ _,fun _=>rfl⟩,(aN _ _).alloc (aO _) _⟩
 case round=>
  rename World=>wo;rename Nat=>gO;obtain⟨k,rfl,hgk,hown,hbel⟩:=hrel;obtain⟨ra,rcp,rfl⟩:=hown.form;cases gO with
  |zero=>
   have hlt:¬(k:Int)<(un:Int):=by omega
   have HE:=Aa (aK hown hbel);clear hown hbel;go_wp2;go_ret;refine⟨_,rfl,?_,HE.out.2⟩;have:=HE.out.1;rw[bw (by have:=HN.out;omega)]at this;rw[bw (by have:=HN.out;omega)];exact this
  |succ g=>
   have hkl:k<O.length:=by have:=HN.out;omega
   have hlt:(k:Int)<(un:Int):=by omega
   have hltn:k<un:=by omega
   rcases HU.out with⟨h,h0⟩|⟨b,c,h,hne,hc⟩
   ·simp[h0]at hkl
   ·simp at h;obtain⟨rfl,h2,rfl⟩:=h;obtain⟨c1,c2,us,c3,hsp⟩:=hc k hkl;have hbl:=Ak c1;obtain⟨sa,sc,hus,hsc⟩:=hsp.len;have hspl:=(HO.out.sp O[k] (aZ hkl)).1.len;obtain⟨⟨top,bot,L⟩,hB⟩:∃b,O[k]=b:=⟨_,rfl⟩;rw[hB]at c1 c2 hsp hus hsc hspl;simp only at c1 c2 hsp hus hsc hspl;subst hus;replace c1:=(hbel.cell hbl).trans c1;replace c2:=(hbel.cell hbl).trans c2;replace c3:=(hbel.cell hbl).trans c3;have hzb:=Ak c1;obtain⟨ln,hln⟩:∃n,L.length=n:=⟨_,rfl⟩;rw[hln]at c3 hspl;have HSp:=Aa hsp;have HSc:=Aa hsc;have HL:=Aa hln;have HB:=Aa hB;have HE:=Aa (aK hown hbel);have hLen:=Nz HO.out k;clear hsp hsc hln hB hc h2 hne hown hbel HU;obtain⟨lr,hlr⟩:∃n,(rc (O.take k)).length=n:=⟨_,rfl⟩;rw[hlr]at hLen ⊢;have HLr:=Aa hlr;clear hlr;go_wp2;have hso:=HE.out.2.size
    go_loopg [3,18] ln (fun g s3 s18 wx=>∃j:Nat,s18=.int .i64 j/\g+j=ln/\AF wx w.heap.size s3 (rc (O.take k)++(L.take j).map fun s=>(s.1,top,s.2,bot))/\wx.heap[wo.heap.size]?=some (.cells #[.int .i64 top,.int .i64 bot,.slice sa ln sc] 192 (0,0))/\Below w.heap.size w wx)
    case atStart=>
     refine⟨0,rfl,by omega,?_,aR wo _,HE.out.2.alloc hso _⟩;have:=HE.out.1;rw[HLr.out]at this;simpa using this.alloc _
    case round=>
     obtain⟨j,rfl,hgj,hown,hbox,hbx⟩:=hrel;obtain⟨rb,rcb,rfl⟩:=hown.form;obtain⟨mm,hmm⟩:∃n,(rc (O.take k)++(L.take j).map fun s=>(s.1,top,s.2,bot)).length=n:=⟨_,rfl⟩;have hmm2:mm=lr+j:=by
      rw[<-hmm,aY,HLr.out,List.length_map,bR];have:=HL.out;omega
     rw[hmm];have HMM:=Aa hmm;cases gk with
     |zero=>
      have hjl:¬(j:Int)<(ln:Int):=by omega
      have HX:=Aa (aK hown hbx);have HM2:=Aa hmm2;clear hown hbx hmm hmm2 hbox;go_wp2
      go_roundg g
      case measure=>omega
      case rel=>
       refine⟨k+1,by go_num,by omega,?_,HX.out.2⟩;have htk:L.take j=L:=bw (by have:=HL.out;omega);have:=HX.out.1;rw[HMM.out,htk]at this;rw[Sz O k hkl,HB.out];exact this
     |succ gj=>
      have hjl:(j:Int)<(ln:Int):=by omega
      have hjln:j<ln:=by omega
      obtain⟨sb,rfl,hcs⟩:=HSc.out (by have:=HL.out;omega);obtain⟨d1,d2⟩:=hcs j (by have:=HL.out;omega);have hsb:=Ak d1;obtain⟨⟨f,t⟩,hft⟩:∃s,L.getD j (0,0)=s:=⟨_,rfl⟩;rw[hft]at d1 d2;simp only at d1 d2;replace d1:=(hbx.cell hsb).trans d1;replace d2:=(hbx.cell hsb).trans d2;have hzs:=Ak d1;have e0:wr.cell? ⟨wo.heap.size,0,none⟩=some (.int .i64 top):=aP _ _ 0 _ _ _ hbox;have e1:wr.cell? ⟨wo.heap.size,1,none⟩=some (.int .i64 bot):=aP _ _ 1 _ _ _ hbox;have hzo:=Ak e0;have hwl:=hbx.size;have HX:=Aa (aK hown (aK hbox hbx));have HF:=Aa hft;have hb1:mm<=10000000:=by omega
      have HM2:=Aa hmm2;clear hown hbx hmm hmm2 hbox hcs hft
      go_wp2_with(at_builtin;refine wpList_append_lies _ rfl _ _ 33 rfl w.heap.size 53 i0 _ 4 32 underlying33 hi0 hz0 hz1 hz2 rfl (by omega) (.slice rb mm rcb) mm (Ae (rc (O.take k)++(L.take j).map fun s=>(s.1,top,s.2,bot))) rfl (by have:=HX.out.1;have h2:=HMM.out;rw[h2]at this;have h3:=this.1;rw[h2]at h3;exact(h3.alloc _).alloc _) ⟨wr.heap.size+1,0,none⟩ 1 1 [.int .i64 f,.int .i64 top,.int .i64 t,.int .i64 bot] rfl rfl (bI (cs:=#[.int .i64 f,.int .i64 top,.int .i64 t,.int .i64 bot]) (t:=53) (fr:=(0,0)) (Em wr _ _ 0)) (by simp[Value.oneCell']) (by omega) (by unfold maxLen;omega) (by omega) (by simp;omega) _ rfl ?_;intro gg cp w1 hown1 hgrow hat hlt2;have HO1:=Aa hown1;have HG1:=Aa hgrow;clear hown1 hgrow hat)
      go_roundg gj
      case measure=>omega
      case rel=>
       have hjL:j<L.length:=by have:=HL.out;omega
       have hLj:L[j]=(f,t):=by
        have:=HF.out;rw[bu,aU hjL]at this;simpa using this
       have hl2:(rc (O.take k)++(L.take (j+1)).map fun s=>(s.1,top,s.2,bot))=(rc (O.take k)++(L.take j).map fun s=>(s.1,top,s.2,bot))++[(f,top,t,bot)]:=by
        rw[bn hjL,cL,hLj,List.append_assoc];rfl
       obtain⟨hown,hbox,hbx⟩:=HX.out;rw[HMM.out]at hown;have hown2:=((hown.alloc (.cells #[.int .i64 f,.int .i64 t] 194)).alloc (.cells #[.int .i64 f,.int .i64 top,.int .i64 t,.int .i64 bot] 53)).1;refine⟨j+1,by go_num,by omega,?_,?_,?_⟩
       ·rw[hl2];refine⟨?_,fun h=>by simp at h⟩;rw[aY,HMM.out,AD];exact HO1.out
       ·have hb2:((wr.alloc (.cells #[.int .i64 f,.int .i64 t] 194)).alloc (.cells #[.int .i64 f,.int .i64 top,.int .i64 t,.int .i64 bot] 53)).heap[wo.heap.size]?=some (.cells #[.int .i64 top,.int .i64 bot,.slice (some ⟨sb,0,none⟩) ln sc] 192 (0,0)):=by
         rw[Ad _ _ _ (by simp;omega),Ad _ _ _ (by omega)];exact hbox
        exact(HG1.out.block _ (Ab hb2) (GP hown2 hb2 (by decide))).trans hb2
       ·exact((hbx.alloc hwl _).alloc (by simp;omega) _).grown HG1.out (by simp;omega) fun k hk=>(hown2.lt k hk).1
theorem As.form(h:As w v l):∃a c,v=.slice a l.length c:=by
 obtain⟨a,c,hv,_⟩:=h;exact⟨a,c,hv⟩
theorem AF.lower{base base':Nat}(h:AF w base v l)(hb:base'<=base):AF w base' v l:=by
 obtain⟨⟨h1,h2⟩,h3⟩:=h;refine⟨⟨h1,?_⟩,h3⟩;rcases h2 with h2|⟨g,cap,cur,a1,a2,a3⟩
 ·exact .inl h2
 ·exact .inr ⟨g,cap,cur,a1,by omega,a3⟩
theorem DK(l:List (Int×Int×Int×Int))(v:Value)(x y:Int)(w:World)(h:As w v l)(hl:l.length<=maxLen):
  Calls prog 122 #[v,.int .i64 x,.int .i64 y] w fun e w'=>e=.returned (.bool (AE l x y))/\w'=w:=by
 unfold maxLen at hl;obtain⟨a,c,rfl,hc⟩:=h;obtain⟨n,hn⟩:∃n,l.length=n:=⟨_,rfl⟩;rw[hn]at hl;rw[hn];have HC:=Aa hc;have HN:=Aa hn;clear hc hn;obtain⟨res,hres⟩:∃b,AE l x y=b:=⟨_,rfl⟩;rw[hres];have HR:=Aa hres;clear hres;go_enter func122,ntmps122
 go_wp2
 go_loopg [7] n (fun g s7 wr=>∃k:Nat,s7=.int .i64 k/\g+k=n/\(∀j (h:j<l.length),j<k->inR l[j] x y=false)/\wr=w)
 case atStart=>exact⟨0,rfl,by omega,fun j _ h=>absurd h (by omega),rfl⟩
 case round=>
  obtain⟨k,rfl,hgk,hno,rfl⟩:=hrel;have HNo:=Aa hno;clear hno;cases gk with
  |zero=>
   have hlt:¬(k:Int)<(n:Int):=by omega
   go_wp2;go_ret;refine⟨Cm ?_,rfl⟩;rw[<-HR.out];symm;unfold AE;rw[cJ];intro r hr;obtain⟨j,hj,rfl⟩:=List.getElem_of_mem hr;rw[HNo.out j hj (by have:=HN.out;omega)];simp
  |succ g=>
   have hlt:(k:Int)<(n:Int):=by omega
   have hltn:k<n:=by omega
   have hkl:k<l.length:=by have:=HN.out;omega
   obtain⟨b,off,rfl,hcs⟩:=HC.out (by omega);obtain⟨c1,c2,c3,c4⟩:=hcs k hkl;obtain⟨⟨x0,y0,x1,y1⟩,hr⟩:∃r,l[k]=r:=⟨_,rfl⟩;rw[hr]at c1 c2 c3 c4;simp only at c1 c2 c3 c4;have HK:=Aa hr;clear hr hcs;by_cases hin:x0<=x/\x<x1/\y0<=y/\y<y1
   ·have HI:Hid (inR (x0,y0,x1,y1) x y=true):=by unfold Hid inR;simpa using hin
    obtain⟨h1,h2,h3,h4⟩:=hin;go_wp2;go_ret;refine⟨Cm ?_,rfl⟩;rw[<-HR.out];symm;unfold AE;rw[cF];exact⟨l[k],aZ hkl,by rw[HK.out];exact HI.out⟩
   ·have HI:Hid (inR (x0,y0,x1,y1) x y=false):=by unfold Hid inR;simpa using hin
    have hcases:x<x0\/(x0<=x/\x1<=x)\/(x0<=x/\x<x1/\y<y0)\/(x0<=x/\x<x1/\y0<=y/\y1<=y):=by omega
    clear hin;rcases hcases with h1|⟨h1,h2⟩|⟨h1,h2,h3⟩|⟨h1,h2,h3,h4⟩;all_goals
     go_wp2
     go_roundg g
     case measure=>omega
     case rel=>
      refine⟨k+1,by go_num,by omega,fun j hj hjk=>?_,rfl⟩;by_cases e:j=k
      ·subst e;rw[HK.out];exact HI.out
      ·exact HNo.out j hj (by omega)
theorem JR(a b c d:Int)(w:World):
  Calls prog 174 #[.agg #[.int .i64 a,.int .i64 b,.int .i64 c,.int .i64 d]] w fun e w'=>e=.returned (.bool (AU (a,b,c,d)))/\Below w.heap.size w w':=by
 have HF:Hid (∀r,(r=true↔(-2000<=a/\a<=c/\c<=2000/\-2000<=b/\b<=d/\d<=2000))->r=AU (a,b,c,d)):=by
  intro r hr;unfold AU;rw[Bool.eq_iff_iff,hr];simp
 generalize AU (a,b,c,d)=res at*;have HB:Hid (Below w.heap.size w ((w.alloc (.cells #[.int .i64 a,.int .i64 b,.int .i64 c,.int .i64 d] 53)).alloc (.cells #[.int .i64 a,.int .i64 b,.int .i64 c,.int .i64 d] 3))):=((aN _ _).alloc (aO _) _).alloc (by simp) _;go_enter func174,ntmps174
 go_wp2;refine wp_loop_rounds 5 ?_;repeat any_goals (rw[rounds_succ];go_wp2)
 all_goals
  go_ret;refine⟨Cm (HF.out _ ?_),HB.out⟩;simp
  try omega
theorem Er(l:List (Int×Int×Int×Int))(v:Value)(w:World)(h:As w v l)(hl:l.length<=maxLen):
  Calls prog 120 #[v] w fun e w'=>e=.returned (.int .i64 (if l.all AU=true then 0 else 3))/\Below w.heap.size w w':=by
 unfold maxLen at hl;have HR:=Aa h;obtain⟨va,vc,hv⟩:=h.form;obtain⟨n,hn⟩:∃n,l.length=n:=⟨_,rfl⟩;have HN:=Aa hn;rw[hn]at hv hl;have HV:=Aa hv;rw[hv];obtain⟨res,hres⟩:∃r:Int,(if l.all AU=true then 0 else 3)=r:=⟨_,rfl⟩;rw[hres];have HRes:=Aa hres;clear h hv hn hres;go_enter func120,ntmps120
 go_wp2
 go_loopg [3] n (fun g s3 wr=>∃q:Nat,s3=.int .i64 q/\g+q=n/\(∀r∈l.take q,AU r=true)/\Below w.heap.size w wr)
 case atStart=>exact⟨0,rfl,by omega,fun r hr=>by simp at hr,aN _ _⟩
 case round=>
  obtain⟨q,rfl,hgq,hfit,hbr⟩:=hrel;cases gk with
  |zero=>
   have hq:¬(q:Int)<(n:Int):=by omega
   have HY:=Aa (aK hfit hbr);clear hfit hbr;go_wp2;go_ret;refine⟨CI ?_,HY.out.2⟩;rw[<-HRes.out,if_pos];rw[cG];have:=HY.out.1;rw[bw (by have:=HN.out;omega)]at this;exact this
  |succ gq=>
   have hq:(q:Int)<(n:Int):=by omega
   have hqn:q<n:=by omega
   have hql:q<l.length:=by rw[HN.out];exact hqn
   obtain⟨x',c',hx',hcs⟩:=HR.out.below hbr;rw[HV.out,HN.out]at hx';simp at hx';obtain⟨rfl,rfl⟩:=hx';obtain⟨b,off,rfl,hct⟩:=hcs (by omega);obtain⟨c1,c2,c3,c4⟩:=hct q hql;obtain⟨⟨x0,y0,x1,y1⟩,hr⟩:∃r,l[q]=r:=⟨_,rfl⟩;rw[hr]at c1 c2 c3 c4;simp only at c1 c2 c3 c4;have hzb:=Ak c1;have hwr:=hbr.size;have hM:=fun W=>JR x0 y0 x1 y1 W;obtain⟨p,hp⟩:∃p,AU (x0,y0,x1,y1)=p:=⟨_,rfl⟩;rw[hp]at hM;have HY:=Aa (aK hfit (aK hbr (aK hr hp)));clear hfit hbr hr hp hcs hct;cases p with
   |true=>
    go_wp2_with(go_at_call 174;refine(hM _).mono ?_;rintro e w' ⟨rfl,hb1⟩;have HB1:=Aa hb1;clear hb1)
    go_roundg gq
    case measure=>omega
    case rel=>
     obtain⟨hfit,hbr,hr,hp⟩:=HY.out;refine⟨q+1,by go_num,by omega,fun r hr'=>?_,hbr.trans (HB1.out.mono hwr)⟩;rw[bn hql,hr]at hr';simp at hr';rcases hr' with h|h
     ·exact hfit r h
     ·subst h;exact hp
   |false=>
    go_wp2_with(go_at_call 174;refine(hM _).mono ?_;rintro e w' ⟨rfl,hb1⟩;have HB1:=Aa hb1;clear hb1)
    go_ret;obtain⟨hfit,hbr,hr,hp⟩:=HY.out;refine⟨CI ?_,hbr.trans (HB1.out.mono hwr)⟩;rw[<-HRes.out,if_neg];rw[Bool.not_eq_true,List.all_eq_false];exact⟨l[q],aZ hql,by rw[hr,hp];simp⟩
theorem EJ:(prog.info? 3).map (fun i=>(i.zero,i.size,i.bytes))=some (some (.int .i64 0),1,8):=by kernel_rfl
theorem A7{w:World}{base:Nat}{e:TypeId}{size g n cap:Nat}{xs:List Value}(h:w.ownsRow base e size (.slice (some ⟨g,0,none⟩) n cap) n xs):n<=cap:=by
 rcases h.2 with⟨h,_⟩|⟨g',cap',cur,e,_,_,hle,_⟩
 ·simp at h
 ·simp at e;omega
variable{c g n size:Nat}{e:TypeId}{xs:List Value}
theorem Dr{j:Nat}(h:w.ownsRow base e size (.slice (some ⟨g,0,none⟩) n c) n xs)(u:Value):(w.setCell ⟨g,j,none⟩ u).ownsRow base e size (.slice (some ⟨g,0,none⟩) n c) n (xs.set j u):=by
 obtain⟨e1,e2⟩:=h;rcases e2 with⟨e2,_⟩|⟨g',cap',cur,e3,e4,e5,e6,e7,e8,e9⟩
 ·simp at e2
 ·simp at e3;obtain⟨rfl,rfl⟩:=e3;refine⟨by rw[bG];exact e1,.inr ⟨g,c,cur.setIfInBounds j u,rfl,e4,bH w g j cur e u e5,e6,e7,by simpa using e8,?_⟩⟩;rw[<-e9,Array.toList_setIfInBounds,List.take_set]
theorem CM(h:w.ownsRow base e size (.slice (some ⟨g,0,none⟩) n c) n xs)(j:Nat):w.frozen? ⟨g,j,none⟩=false:=by
 obtain⟨cur,hc⟩:=Ap h (k:=g) rfl;simp[World.frozen?,hc]
theorem Am{P:Program}{ops:Array Oper}{rest:List Oper}{o:Oper}{a:Act}{Q:Exit->Act->World->Prop}(hgd:o.guard=none)(s x:Operand)(t:TypeId)
  (ho:o.op=.call {callee:=.builtin .append,args:=#[s,x],argTypes:=#[t,t] })
  (base:Nat) (e:TypeId) (i:TypeInfo) (z:Value) (size bytes:Nat) (ht:P.underlying t=some (.slice e)) (hi:P.info? e=some i) (hz:i.zero=some z)
  (hsize:i.size=size) (hby:i.bytes=bytes) (hzs:z.cells.size=size) (hsz:0<size)
  (v:Value) (n:Nat) (xs:List Value) (hs:a.eval s=v) (hown:w.ownsRow base e size v n xs)
  (vx:Value) (m:Nat) (news:List Value) (hx:a.eval x=vx) (hl:news.length=m*size) (hvx:(vx=.slice none 0 0/\m=0)\/∃ad c,vx=.slice (some ad) m c/\∀j u,news[j]?=some u->w.cell? (ad.add j)=some u) (h1:∀u∈news,u.oneCell'=true)
  (h63:n+m<=maxLen) (hbytes:(n+m)*bytes<=140737488355328) (hbase:base<=w.heap.size)
  (h:∀v' w',w'.ownsRow base e size v' (n+m) (xs++news)->w.grownBy w' v.ownBlock->(v'=.slice none 0 0↔v=.slice none 0 0/\m=0)->(v'.ownBlock=v.ownBlock\/v'.ownBlock=some w.heap.size)->wpList P ops Q rest (a.put o.dst v') w'):
  wpList P ops Q (o::rest) a w:=by
 rcases hvx with⟨hv,hm⟩|⟨ad,c,hv,hnews⟩
 ·subst hv hm;refine wpList_plain hgd fun K hK=>?_;have hr:=run_append_owned_none (P:=P) (w:=w) base t o.type e i size ht hi v n xs hown;unfold Oper.wp execOp;simp only[ho,resolve,invoke,builtin,Sem.run_bind,Sem.run_pure,Result.andThen_ok,cK,List.map_cons,List.map_nil,hs,hx,hr];have hn0:news=[]:=List.length_eq_zero_iff.mp (by rw[hl,Nat.zero_mul]);subst hn0;refine hK _ _ (h v w (by rw[List.append_nil,Nat.add_zero];exact hown) ⟨rfl,rfl,rfl,aO _,fun _ _ _=>rfl⟩ (by simp) (.inl rfl))
 ·exact wpList_append_own_at w hgd s x t ho base e i z size bytes ht hi hz hsize hby hzs hsz v n xs hs hown ad m c news (hx.trans hv) hl hnews h1 h63 hbytes hbase h
theorem Es(b off j:Nat):(⟨b,off,none⟩:Addr).add j=⟨b,off+j,none⟩:=by unfold Addr.add;split<;>simp_all
theorem DL{l:List (Int×Int×Int×Int)}(h:As w v l)(hn:l=[]->v=.slice none 0 0\/∃ad c,v=.slice (some ad) 0 c):(v=.slice none 0 0/\l.length=0)\/∃ad c,v=.slice (some ad) l.length c/\∀j u,(Ae l)[j]?=some u->w.cell? (ad.add j)=some u:=by
 by_cases hl:l=[]
 ·rcases hn hl with hn|⟨ad,c,hn⟩
  ·exact .inl ⟨hn,by rw[hl];rfl⟩
  ·exact .inr ⟨ad,c,by rw[hl];exact hn,fun j u hu=>by rw[hl]at hu;simp[Ae]at hu⟩
 ·right;have hpos:0<l.length:=by cases l with
   |nil=>exact absurd rfl hl
   |cons a l=>simp
  obtain⟨a,c,rfl,hc⟩:=h;obtain⟨b,off,rfl,hcs⟩:=hc hpos;refine⟨_,c,rfl,fun j u hu=>?_⟩;have hj:j<l.length*4:=by
   rw[<-AT];exact(bL.1 hu).1
  obtain⟨k,hk⟩:∃k,j/4=k:=⟨_,rfl⟩;have hkl:k<l.length:=by omega
  obtain⟨q1,q2,q3,q4⟩:=Cs l k hkl;obtain⟨c1,c2,c3,c4⟩:=hcs k hkl;rw[Es];have hcase:j=k*4\/j=k*4+1\/j=k*4+2\/j=k*4+3:=by omega
  clear hk hj;rcases hcase with rfl|rfl|rfl|rfl
  ·rw[q1]at hu;rw[<-hu];exact c1
  ·rw[q2]at hu;rw[<-hu];exact c2
  ·rw[q3]at hu;rw[<-hu];exact c3
  ·rw[q4]at hu;rw[<-hu];exact c4
theorem BK(l:List (Int×Int×Int×Int)):∀u∈Ae l,u.oneCell'=true:=by
 intro u hu;unfold Ae at hu;rw[List.mem_flatMap]at hu;obtain⟨r,_,hu⟩:=hu;simp at hu;rcases hu with rfl|rfl|rfl|rfl<;>rfl
theorem Al(h:w.ownsRow base e size v n xs):∃a c,v=.slice a n c:=by
 rcases h.2 with⟨h,h0⟩|⟨g,cap,cur,h,_⟩
 ·exact⟨none,0,by rw[h,h0]⟩
 ·exact⟨_,_,h⟩
variable{S S':Nat->Prop}{T t:TypeId}{a b c w':World}{cur:Array Value}{k:Nat}
structure Ac(S:Nat->Prop)(w w':World):Prop where
 os:w'.os=w.os
 tape:w'.tape=w.tape
 output:w'.output=w.output
 size:w.heap.size<=w'.heap.size
 block:∀g,g<w.heap.size->¬S g->w'.heap[g]?=w.heap[g]?
def AA(S:Nat->Prop)(w w':World):Nat->Prop:=fun g=>S g\/(w.heap.size<=g/\g<w'.heap.size)
theorem Ac.refl(S:Nat->Prop)(w:World):Ac S w w:=⟨rfl,rfl,rfl,aO _,fun _ _ _=>rfl⟩
theorem Ac.below(h:Below w.heap.size w w'):Ac S w w':=⟨h.os,h.tape,h.output,h.size,fun g hg _=>h.block g hg⟩
theorem Ac.to_below{B:Nat}(h:Ac S w w')(hS:∀g,S g->B<=g)(hB:B<=w.heap.size):Below B w w':=
 ⟨h.os,h.tape,h.output,h.size,fun g hg=>h.block g (by omega) fun hs=>by have:=hS g hs;omega⟩
theorem Ac.trans(h:Ac S a b)(k:Ac (AA S a b) b c):Ac S a c:=
 ⟨k.os.trans h.os,k.tape.trans h.tape,k.output.trans h.output,bh h.size k.size,fun g hg hs=>by
  have h1:=h.size;rw[k.block g (by omega) (fun hh=>by rcases hh with hh|hh;exact hs hh;omega),h.block g hg hs]⟩
theorem Ac.mono(h:Ac S a b)(hS:∀g,g<a.heap.size->S g->S' g):Ac S' a b:=
 ⟨h.os,h.tape,h.output,h.size,fun g hg hs=>h.block g hg fun hh=>hs (hS g hg hh)⟩
theorem Ac.grown{u:Option Nat}(h:Ac S a b)(k:b.grownBy c u)(hu:∀g,u=some g->S g\/a.heap.size<=g):Ac S a c:=
 ⟨k.os.trans h.os,k.tape.trans h.tape,k.output.trans h.output,bh h.size k.size,fun g hg hs=>by
  have h1:=h.size;rw[k.block g (by omega) (fun e=>by rcases hu g e.symm with hh|hh;exact hs hh;omega),h.block g hg hs]⟩
theorem Ac.after(h:Ac S a b)(k:Below b.heap.size b c):Ac S a c:=
 ⟨k.os.trans h.os,k.tape.trans h.tape,k.output.trans h.output,bh h.size k.size,fun g hg hs=>by
  have h1:=h.size;rw[k.block g (by omega),h.block g hg hs]⟩
theorem Ac.alloc(h:Ac S a b)(o:Obj):Ac S a (b.alloc o):=
 h.grown (World.grownBy_alloc b o none) (fun g e=>by cases e)
theorem Ac.set(h:Ac S a b){p:Addr}(hp:S p.block\/a.heap.size<=p.block)(u:Value):Ac S a (b.setCell p u):=
 ⟨h.os,h.tape,h.output,by have:=h.size;simpa using this,fun g hg hs=>by
  rw[aL b p g u (fun e=>by subst e;rcases hp with hp|hp;exact hs hp;omega)];exact h.block g hg hs⟩
theorem Ac.drewN(h:Ac S a b)(n:Nat):Ac S a (b.drewN n):=⟨h.os,h.tape,h.output,h.size,h.block⟩
theorem Ac.drew(h:Ac S a b):Ac S a b.drew:=⟨h.os,h.tape,h.output,h.size,h.block⟩
theorem AI(h:S g):AA S w w' g:=.inl h
def A4(w:World)(S:Nat->Prop)(T:TypeId)(k:Nat)(v:Value)(n:Nat)(xs:List Value):Prop:=w.ownsRow 0 T k v n xs/\∀g,v.ownBlock=some g->S g
theorem A4.mono(h:A4 w S T k v n xs)(hS:∀g,S g->S' g):A4 w S' T k v n xs:=⟨h.1,fun g hg=>hS g (h.2 g hg)⟩
theorem Ai{base:Nat}{e:TypeId}{size:Nat}(h:w.ownsRow base e size v n xs)(hk:∀g,v.ownBlock=some g->w'.heap[g]?=w.heap[g]?):w'.ownsRow base e size v n xs:=by
 obtain⟨h1,h2⟩:=h;refine⟨h1,?_⟩;rcases h2 with h2|⟨g,cap,cur,e1,e2,e3,e4⟩
 ·exact .inl h2
 ·exact .inr ⟨g,cap,cur,e1,e2,by rw[hk g (by rw[e1];rfl)];exact e3,e4⟩
theorem A4.keep(h:A4 w S T k v n xs)(hk:∀g,S g->g<w.heap.size->w'.heap[g]?=w.heap[g]?):A4 w' S T k v n xs:=
 ⟨Ai h.1 fun g hg=>hk g (h.2 g hg) (h.1.lt g hg).2,h.2⟩
theorem A4.nil(w:World)(S:Nat->Prop)(T:TypeId)(k:Nat):A4 w S T k (.slice none 0 0) 0 []:=⟨bA _ _ _ _,fun g hg=>by simp[Value.ownBlock]at hg⟩
theorem A4.type(h:A4 w S T k v n xs)(hg:v.ownBlock=some g):∃cur,w.heap[g]?=some (.cells cur T (0,0)):=Ap h.1 hg
theorem A4.other(h:A4 w S T k v n xs)(hk:∀(g:Nat) (cur:Array Value),w.heap[g]?=some (.cells cur T (0,0))->w'.heap[g]?=w.heap[g]?):A4 w' S T k v n xs:=
 ⟨Ai h.1 fun g hg=>by
  obtain⟨cur,hc⟩:=h.type hg;exact hk g cur hc,h.2⟩
theorem A4.form(h:A4 w S T k v n xs):∃a c,v=.slice a n c:=Al h.1
theorem A4.open(h:A4 w S T k v n xs)(hn:0<n):∃g cap,v=.slice (some ⟨g,0,none⟩) n cap/\S g/\n<=cap/\g<w.heap.size/\(∀j u,xs[j]?=some u->w.cell? ⟨g,j,none⟩=some u)/\∀j,w.frozen? ⟨g,j,none⟩=false:=by
 obtain⟨g,cap,rfl,hb,hl⟩:=h.1.form hn;have cs:=h.1.cells (g:=g) rfl;exact⟨g,cap,rfl,h.2 g rfl,A7 h.1,hl,fun j u hu=>by have:=cs j u hu;rw[Bn]at this;exact this,fun j=>CM h.1 j⟩
theorem A4.set{c:Nat}(h:A4 w S T k (.slice (some ⟨g,0,none⟩) n c) n xs)(j:Nat)(u:Value):A4 (w.setCell ⟨g,j,none⟩ u) S T k (.slice (some ⟨g,0,none⟩) n c) n (xs.set j u):=⟨Dr h.1 u,h.2⟩
theorem A4.len(h:A4 w S T k v n xs):xs.length=n*k:=h.1.1
structure C2(S:Nat->Prop)(T:TypeId)(w w':World):Prop where
 os:w'.os=w.os
 tape:w'.tape=w.tape
 output:w'.output=w.output
 size:w.heap.size<=w'.heap.size
 block:∀g,g<w.heap.size->w'.heap[g]?=w.heap[g]?\/(S g/\∃cur cur':Array Value,w.heap[g]?=some (.cells cur T (0,0))/\w'.heap[g]?=some (.cells cur' T (0,0))/\cur'.size=cur.size)
theorem C2.refl(S:Nat->Prop)(T:TypeId)(w:World):C2 S T w w:=⟨rfl,rfl,rfl,aO _,fun _ _=>.inl rfl⟩
theorem C2.trans(h:C2 S T a b)(k:C2 S T b c):C2 S T a c:=by
 refine⟨k.os.trans h.os,k.tape.trans h.tape,k.output.trans h.output,bh h.size k.size,fun g hg=>?_⟩;rcases h.block g hg with h1|⟨h1,c1,c2,h3,h4,h5⟩
 ·rcases k.block g (aQ hg h.size)with k1|⟨k1,d1,d2,k3,k4,k5⟩
  ·exact .inl (k1.trans h1)
  ·exact .inr ⟨k1,d1,d2,by rw[<-h1];exact k3,k4,k5⟩
 ·rcases k.block g (aQ hg h.size)with k1|⟨k1,d1,d2,k3,k4,k5⟩
  ·exact .inr ⟨h1,c1,c2,h3,by rw[k1];exact h4,h5⟩
  ·rw[h4]at k3;injection k3 with k3;injection k3 with k3;subst k3;exact .inr ⟨h1,c1,d2,h3,k4,k5.trans h5⟩
theorem C2.below(h:Below w.heap.size w w'):C2 S T w w':=⟨h.os,h.tape,h.output,h.size,fun g hg=>.inl (h.block g hg)⟩
theorem C2.only(h:C2 S T w w'):Ac S w w':=⟨h.os,h.tape,h.output,h.size,fun g hg hs=>by
 rcases h.block g hg with h1|⟨h1,_⟩
 ·exact h1
 ·exact absurd h1 hs⟩
theorem C2.drewN(h:C2 S T w w')(n:Nat):C2 S T w (w'.drewN n):=⟨h.os,h.tape,h.output,h.size,h.block⟩
theorem C2.drew(h:C2 S T w w'):C2 S T w w'.drew:=⟨h.os,h.tape,h.output,h.size,h.block⟩
theorem C2.other{q:Nat×Nat}(h:C2 S T w w')(hg:w.heap[g]?=some (.cells cur t q))(ht:t≠T):w'.heap[g]?=w.heap[g]? :=by
 rcases h.block g (aM.1 hg).1 with h1|⟨_,c1,c2,h3,_,_⟩
 ·exact h1
 ·rw[hg]at h3;injection h3 with h3;injection h3 with _ h3;exact absurd h3 ht
theorem C2.row(h:C2 S T w w')(ht:t≠T)(hr:A4 w S' t k v n xs):A4 w' S' t k v n xs:=hr.other fun _ _ hc=>h.other hc ht
theorem C2.any(h:C2 S T w w')(hr:∃xs,A4 w S' T k v n xs):∃xs,A4 w' S' T k v n xs:=by
 obtain⟨xs,⟨h1,h2⟩,hS⟩:=hr;rcases h2 with h2|⟨g,cap,cur,e1,e2,e3,e4,e5,e6,e7⟩
 ·exact⟨xs,⟨h1,.inl h2⟩,hS⟩
 ·have:∃cur':Array Value,w'.heap[g]?=some (.cells cur' T (0,0))/\cur'.size=cur.size:=by
   rcases h.block g (aM.1 e3).1 with q|⟨_,c1,c2,k3,k4,k5⟩
   ·exact⟨cur,by rw[q];exact e3,rfl⟩
   ·rw[e3]at k3;injection k3 with k3;injection k3 with k3;subst k3;exact⟨c2,k4,k5⟩
  obtain⟨cur',k1,k2⟩:=this;refine⟨cur'.toList.take (n*k),⟨?_,.inr ⟨g,cap,cur',e1,e2,k1,e4,e5,by rw[k2,e6],rfl⟩⟩,hS⟩;rw[bR,cR,k2,e6];have:=bU k e4;omega
theorem C2.set(hg:w.heap[g]?=some (.cells cur T (0,0)))(h1:S g)(j:Nat)(u:Value):C2 S T w (w.setCell ⟨g,j,none⟩ u):=by
 refine⟨rfl,rfl,rfl,by simp,fun k hk=>?_⟩;by_cases e:k=g
 ·subst e;exact .inr ⟨h1,cur,_,hg,bH w k j cur _ u hg,by simp⟩
 ·exact .inl (aL w ⟨g,j,none⟩ k u e)
variable{B b:Nat}{cs:Array Value}{wr:World}
def Ax(w:World)(b:Nat)(T:TypeId)(k:Nat):Prop:=∃cur:Array Value,w.heap[b]?=some (.cells cur T (0,0))/\cur.size=k
theorem Ax.lt(h:Ax w b T k):b<w.heap.size:=by
 obtain⟨cur,h1,_⟩:=h;exact(aM.1 h1).1
theorem Ax.set(h:Ax w b T k)(g j:Nat)(u:Value):Ax (w.setCell ⟨g,j,none⟩ u) b T k:=by
 obtain⟨cur,h1,h2⟩:=h;by_cases e:b=g
 ·subst e;exact⟨_,bH w b j cur _ u h1,by simpa using h2⟩
 ·exact⟨cur,by rw[aL w ⟨g,j,none⟩ b u e];exact h1,h2⟩
theorem Ax.alloc(h:Ax w b T k)(o:Obj):Ax (w.alloc o) b T k:=by
 obtain⟨cur,h1,h2⟩:=h;exact⟨cur,by rw[Ad w o b (aM.1 h1).1];exact h1,h2⟩
theorem Ax.drew(h:Ax w b T k):Ax w.drew b T k:=h
theorem Ax.new(w:World)(cur:Array Value)(T:TypeId):Ax (w.alloc (.cells cur T)) w.heap.size T cur.size:=⟨cur,aR w _,rfl⟩
theorem Ax.keep{w':World}(h:Ax w b T k)(hk:w'.heap[b]?=w.heap[b]?):Ax w' b T k:=by
 obtain⟨cur,h1,h2⟩:=h;exact⟨cur,by rw[hk];exact h1,h2⟩
theorem Ax.cell(h:Ax w b T k)(j:Nat)(hj:j<k):∃q,w.cell? ⟨b,j,none⟩=some q:=by
 obtain⟨cur,h1,h2⟩:=h;exact⟨cur[j]'(by omega),by rw[aP w b j cur _ _ h1];exact Array.getElem?_eq_getElem (by omega)⟩
theorem Ax.free(h:Ax w b T k)(j:Nat):w.frozen? ⟨b,j,none⟩=false:=by
 obtain⟨cur,h1,h2⟩:=h;simp[World.frozen?,h1]
def Blk(w:World)(b:Nat)(T:TypeId)(cs:Array Value):Prop:=w.heap[b]?=some (.cells cs T (0,0))
theorem Blk.set(h:Blk w b T cs)(j:Nat)(u:Value):Blk (w.setCell ⟨b,j,none⟩ u) b T (cs.setIfInBounds j u):=bH w b j cs _ u h
theorem Blk.other(h:Blk w b T cs){g:Nat}(hg:b≠g)(j:Nat)(u:Value):Blk (w.setCell ⟨g,j,none⟩ u) b T cs:=by
 unfold Blk;rw[aL w ⟨g,j,none⟩ b u hg];exact h
theorem Blk.alloc(h:Blk w b T cs)(o:Obj):Blk (w.alloc o) b T cs:=by
 unfold Blk;rw[Ad w o b (aM.1 h).1];exact h
theorem Blk.has(h:Blk w b T cs):Ax w b T cs.size:=⟨cs,h,rfl⟩
theorem Blk.cell(h:Blk w b T cs)(j:Nat):w.cell? ⟨b,j,none⟩=cs[j]? :=aP w b j cs _ _ h
def r4C(r:R4):Array Value:=#[.int .i64 r.1,.int .i64 r.2.1,.int .i64 r.2.2.1,.int .i64 r.2.2.2]
theorem Ax.four(h:Ax w b T 4)(u0 u1 u2 u3:Value):Blk ((((w.setCell ⟨b,0,none⟩ u0).setCell ⟨b,1,none⟩ u1).setCell ⟨b,2,none⟩ u2).setCell ⟨b,3,none⟩ u3) b T #[u0,u1,u2,u3]:=by
 obtain⟨cur,h1,h2⟩:=h;have h3:Blk w b T cur:=h1;have h4:=(((h3.set 0 u0).set 1 u1).set 2 u2).set 3 u3;have e:(((cur.setIfInBounds 0 u0).setIfInBounds 1 u1).setIfInBounds 2 u2).setIfInBounds 3 u3=#[u0,u1,u2,u3]:=by
  apply Array.ext_getElem?;intro j
  match j with
  |0=>simp[h2]
  |1=>simp[h2]
  |2=>simp[h2]
  |3=>simp[h2]
  |j+4=>
   rw[Array.getElem?_eq_none (by simp;omega),Array.getElem?_eq_none (by simp)]
 rw[e]at h4;exact h4
theorem al1(h:B<=w.heap.size)(o1:Obj):Below B w (w.alloc o1):=(aN B w).alloc h o1
theorem al2(h:B<=w.heap.size)(o1 o2:Obj):Below B w ((w.alloc o1).alloc o2):=(al1 h o1).alloc (by simp;omega) o2
theorem Z5(h:B<=w.heap.size)(o1 o2:Obj):Below B w ((w.drew.alloc o1).alloc o2):=((aN B w).drew.alloc h o1).alloc (by simp;omega) o2
theorem al3(h:B<=w.heap.size)(o1 o2 o3:Obj):Below B w (((w.alloc o1).alloc o2).alloc o3):=(al2 h o1 o2).alloc (by simp;omega) o3
theorem al5(h:B<=w.heap.size)(o1 o2 o3 o4 o5:Obj):Below B w (((((w.alloc o1).alloc o2).alloc o3).alloc o4).alloc o5):=((al3 h o1 o2 o3).alloc (by simp;omega) o4).alloc (by simp;omega) o5
theorem CO(h:Below B w wr)(hb:B<=b)(u0 u1 u2 u3:Value):Below B w ((((wr.setCell ⟨b,0,none⟩ u0).setCell ⟨b,1,none⟩ u1).setCell ⟨b,2,none⟩ u2).setCell ⟨b,3,none⟩ u3):=(((h.setCell hb _).setCell hb _).setCell hb _).setCell hb _
theorem Cu(hk:k≠b)(u0 u1 u2 u3:Value):((((w.setCell ⟨b,0,none⟩ u0).setCell ⟨b,1,none⟩ u1).setCell ⟨b,2,none⟩ u2).setCell ⟨b,3,none⟩ u3).heap[k]?=w.heap[k]? :=by
 rw[aL _ ⟨b,3,none⟩ k _ hk,aL _ ⟨b,2,none⟩ k _ hk,aL _ ⟨b,1,none⟩ k _ hk,aL _ ⟨b,0,none⟩ k _ hk]
theorem Ax.eleven(h:Ax w b T 11)(u0 u1 u2 u3 u4 u5 u6 u7 u8 u9 u10:Value):Blk (((((((((((w.setCell ⟨b,0,none⟩ u0).setCell ⟨b,1,none⟩ u1).setCell ⟨b,2,none⟩ u2).setCell ⟨b,3,none⟩ u3).setCell ⟨b,4,none⟩ u4).setCell ⟨b,5,none⟩ u5).setCell ⟨b,6,none⟩ u6).setCell ⟨b,7,none⟩ u7).setCell ⟨b,8,none⟩ u8).setCell ⟨b,9,none⟩ u9).setCell ⟨b,10,none⟩ u10) b T #[u0,u1,u2,u3,u4,u5,u6,u7,u8,u9,u10]:=by
 obtain⟨cur,h1,h2⟩:=h;have h3:Blk w b T cur:=h1;have h4:=((((((((((h3.set 0 u0).set 1 u1).set 2 u2).set 3 u3).set 4 u4).set 5 u5).set 6 u6).set 7 u7).set 8 u8).set 9 u9).set 10 u10;have e:((((((((((cur.setIfInBounds 0 u0).setIfInBounds 1 u1).setIfInBounds 2 u2).setIfInBounds 3 u3).setIfInBounds 4 u4).setIfInBounds 5 u5).setIfInBounds 6 u6).setIfInBounds 7 u7).setIfInBounds 8 u8).setIfInBounds 9 u9).setIfInBounds 10 u10=#[u0,u1,u2,u3,u4,u5,u6,u7,u8,u9,u10]:=by
  apply Array.ext_getElem?;intro j
  match j with
  |0=>simp[h2]
  |1=>simp[h2]
  |2=>simp[h2]
  |3=>simp[h2]
  |4=>simp[h2]
  |5=>simp[h2]
  |6=>simp[h2]
  |7=>simp[h2]
  |8=>simp[h2]
  |9=>simp[h2]
  |10=>simp[h2]
  |j+11=>rw[Array.getElem?_eq_none (by simp;omega),Array.getElem?_eq_none (by simp)]
 rw[e]at h4;exact h4
theorem NA(h:Below B w wr)(hb:B<=b)(u0 u1 u2 u3 u4 u5 u6 u7 u8 u9 u10:Value):Below B w (((((((((((wr.setCell ⟨b,0,none⟩ u0).setCell ⟨b,1,none⟩ u1).setCell ⟨b,2,none⟩ u2).setCell ⟨b,3,none⟩ u3).setCell ⟨b,4,none⟩ u4).setCell ⟨b,5,none⟩ u5).setCell ⟨b,6,none⟩ u6).setCell ⟨b,7,none⟩ u7).setCell ⟨b,8,none⟩ u8).setCell ⟨b,9,none⟩ u9).setCell ⟨b,10,none⟩ u10):=((((((((((h.setCell hb _).setCell hb _).setCell hb _).setCell hb _).setCell hb _).setCell hb _).setCell hb _).setCell hb _).setCell hb _).setCell hb _).setCell hb _
theorem Iz(hk:k≠b)(u0 u1 u2 u3 u4 u5 u6 u7 u8 u9 u10:Value):(((((((((((w.setCell ⟨b,0,none⟩ u0).setCell ⟨b,1,none⟩ u1).setCell ⟨b,2,none⟩ u2).setCell ⟨b,3,none⟩ u3).setCell ⟨b,4,none⟩ u4).setCell ⟨b,5,none⟩ u5).setCell ⟨b,6,none⟩ u6).setCell ⟨b,7,none⟩ u7).setCell ⟨b,8,none⟩ u8).setCell ⟨b,9,none⟩ u9).setCell ⟨b,10,none⟩ u10).heap[k]?=w.heap[k]? :=by
 rw[aL _ ⟨b,10,none⟩ k _ hk,aL _ ⟨b,9,none⟩ k _ hk,aL _ ⟨b,8,none⟩ k _ hk,aL _ ⟨b,7,none⟩ k _ hk,aL _ ⟨b,6,none⟩ k _ hk,aL _ ⟨b,5,none⟩ k _ hk,aL _ ⟨b,4,none⟩ k _ hk,aL _ ⟨b,3,none⟩ k _ hk,aL _ ⟨b,2,none⟩ k _ hk,aL _ ⟨b,1,none⟩ k _ hk,aL _ ⟨b,0,none⟩ k _ hk]
end Go.Proofs.YtofinpocigbbeaaGreat
