import Derived.Test.YtofinpocigbbeaaGreatLcb
set_option maxHeartbeats 1000000
set_option maxRecDepth 100000
set_option linter.unusedSimpArgs false
namespace Go.Proofs.YtofinpocigbbeaaGreat
open Go.Proofs.Tryz Go.RowKit
attribute [local go_sem ↓] Go.wp_at_zero Go.wp_at_succ
theorem dK(a b c d e f g h:Int)(w:World)(ha:0<=a/\0<=b/\0<=c/\d<=255)(he:0<=e/\0<=f/\0<=g/\h<=255):
  Calls prog 88 #[.agg #[.int .u8 a,.int .u8 b,.int .u8 c,.int .u8 d],.agg #[.int .u8 e,.int .u8 f,.int .u8 g,.int .u8 h]] w fun x w'=>
   x=.returned (.bool true)/\uj w w':=by
 obtain⟨A,B,C,D,E,h1,h2⟩:∃A B C D E:Int,(∀w,Calls prog 125 #[.agg #[.int .u8 a,.int .u8 b,.int .u8 c,.int .u8 d],.agg #[.int .u8 e,.int .u8 f,.int .u8 g,.int .u8 h]] w fun x w'=>
    x=.returned (.tuple #[.agg #[.int .u8 A,.int .u8 B,.int .u8 C,.int .u8 D],vj E])/\uj w w')/\
   (∀w,Calls prog 126 #[.agg #[.int .u8 a,.int .u8 b,.int .u8 c,.int .u8 d],.agg #[.int .u8 e,.int .u8 f,.int .u8 g,.int .u8 h]] w fun x w'=>
    x=.returned (.tuple #[.agg #[.int .u8 A,.int .u8 B,.int .u8 C,.int .u8 D],vj E])/\uj w w'):=by
  by_cases h1:FU a b c d=true
  ·by_cases h2:FU e f g h=true
   ·have q1:a<=d/\b<=d/\c<=d:=ck h1;have q2:e<=h/\f<=h/\g<=h:=ck h2;exact⟨_,_,_,_,_,fun w=>Yp a b c d e f g h w (by omega) (by omega) (by omega) (by omega) (by omega) h1 h2,fun w=>Ys a b c d e f g h w (by omega) (by omega) (by omega) (by omega) (by omega) (by omega) (by omega) (by omega) h1 h2⟩
   ·exact⟨_,_,_,_,_,fun w=>Yr a b c d e f g h w h1 (by simpa using h2),fun w=>Yu a b c d e f g h w h1 (by simpa using h2)⟩
  ·exact⟨_,_,_,_,_,fun w=>Yq a b c d e f g h w (by simpa using h1),fun w=>Yt a b c d e f g h w (by simpa using h1)⟩
 clear ha he;go_enter func88,ntmps88
 go_wp2_with fail
 refine(h1 _).mono ?_;rintro x w1 ⟨rfl,hbl⟩;have hz:w.heap.size+1<w1.heap.size:=by have:=hbl.size;simp at this;omega
 have hz0:w.heap.size<w1.heap.size:=by omega
 obtain⟨hcl,hfl⟩:=X2 hbl;have k0:w1.cell? (jA w.heap.size 0)=some (.int .u8 a):=(hcl _ _ (by simp<;>omega)).trans (by simp);have k1:w1.cell? (jA w.heap.size 1)=some (.int .u8 b):=(hcl _ _ (by simp<;>omega)).trans (by simp);have k2:w1.cell? (jA w.heap.size 2)=some (.int .u8 c):=(hcl _ _ (by simp<;>omega)).trans (by simp);have k3:w1.cell? (jA w.heap.size 3)=some (.int .u8 d):=(hcl _ _ (by simp<;>omega)).trans (by simp);have l0:w1.cell? (jA (w.heap.size+1) 0)=some (.int .u8 e):=(hcl _ _ (by simp<;>omega)).trans (by simp);have l1:w1.cell? (jA (w.heap.size+1) 1)=some (.int .u8 f):=(hcl _ _ (by simp<;>omega)).trans (by simp);have l2:w1.cell? (jA (w.heap.size+1) 2)=some (.int .u8 g):=(hcl _ _ (by simp<;>omega)).trans (by simp);have l3:w1.cell? (jA (w.heap.size+1) 3)=some (.int .u8 h):=(hcl _ _ (by simp<;>omega)).trans (by simp);have HB:Hid (uj w w1):=Below.trans (((aN _ _).alloc (aO _) _).alloc (by simp) _) (hbl.mono (by simp<;>omega));clear hcl hfl hbl
 go_wp2_with fail
 refine(h2 _).mono ?_;rintro x w2 ⟨rfl,hbm⟩;have hz2:w1.heap.size<w2.heap.size:=by have:=hbm.size;simp at this;omega
 obtain⟨hcm,hfm⟩:=X2 hbm;have m0:w2.cell? (jA w1.heap.size 0)=some (.int .u8 A):=(hcm _ _ (by simp<;>omega)).trans (by simp);have m1:w2.cell? (jA w1.heap.size 1)=some (.int .u8 B):=(hcm _ _ (by simp<;>omega)).trans (by simp);have m2:w2.cell? (jA w1.heap.size 2)=some (.int .u8 C):=(hcm _ _ (by simp<;>omega)).trans (by simp);have m3:w2.cell? (jA w1.heap.size 3)=some (.int .u8 D):=(hcm _ _ (by simp<;>omega)).trans (by simp);have HC:Hid (uj w w2):=Below.trans (HB.out.alloc (by omega) _) (hbm.mono (by simp<;>omega));clear hcm hfm hbm k0 k1 k2 k3 l0 l1 l2 l3 h1 h2;have hq:=X4 A B C D A B C D;simp only[beq_self_eq_true,Bool.and_self]at hq;go_wp2;go_ret;exact⟨rfl,HC.out.alloc (by omega) _⟩
theorem dN(l:List R4)(v:Value)(w:World)(h:Bb w v l)(hl:MZ l):
  Calls prog 48 #[v] w fun e w'=>e=.returned (.bool true)/\uj w w':=by
 obtain⟨a,c,rfl,hc⟩:=h;by_cases h2:l.length<2
 ·have hlt:(l.length:Int)<2:=by omega
  clear hc;go_enter func48,ntmps48
  go_wp2;go_ret;exact⟨rfl,aN _ _⟩
 ·have hlt:¬(l.length:Int)<2:=by omega
  obtain⟨hcap,b,off,rfl,hcs⟩:=hc (by omega);obtain⟨c0,c1,c2,c3⟩:=hcs 0 (by omega);obtain⟨d0,d1,d2,d3⟩:=hcs 1 (by omega);have HO:=Aa (dK l[0].1 l[0].2.1 l[0].2.2.1 l[0].2.2.2 l[1].1 l[1].2.1 l[1].2.2.1 l[1].2.2.2 · (hl _ (aZ _)) (hl _ (aZ _)));obtain⟨p,hp⟩:∃p,l[0]=p:=⟨_,rfl⟩;obtain⟨q,hq⟩:∃q,l[1]=q:=⟨_,rfl⟩;rw[hp]at c0 c1 c2 c3 HO;rw[hq]at d0 d1 d2 d3 HO;simp only[Nat.zero_mul,Nat.one_mul,Nat.add_zero]at c0 c1 c2 c3 d0 d1 d2 d3;obtain⟨m,hm⟩:∃m,l.length=m:=⟨_,rfl⟩;rw[hm]at hlt hcap ⊢;have h0m:(0:Int)<(m:Int):=by omega
  have h1m:(1:Int)<(m:Int):=by omega
  have h0n:0<m:=by omega
  have h1n:1<m:=by omega
  have h0c:0<c:=by omega
  have h1c:1<c:=by omega
  clear hc hcs hp hq hl h2 hm;go_enter func48,ntmps48
  go_wp2_with fail
  go_still_tail 6,(by kernel_rfl)
  go_wp2_with(go_at_call 88;refine(HO.out _).mono ?_;rintro e w1 ⟨rfl,b1⟩;have H1:=Aa b1;clear b1)
  go_ret;exact⟨rfl,⟨H1.out.os,H1.out.tape,H1.out.output,H1.out.size,H1.out.block⟩⟩
theorem dL{n0:Nat}{w:World}{pb:Nat}{n:Cnt}{K:Nat->Prop}{ps:Value}{L:List Scr}(h:Inv n0 w pb n K ps L)(k a b c:Int)(y:Bool)(r:R4)(lv mv pv:Value)(l:List R4)(hp:Nj n0 w pv l):
  Calls prog 24 #[pj pb,.agg (Au 16 k a b c y r lv mv pv)] w (A8 n0 pb n L L.length w):=by
 have HC:Hid (∀W,uj w W->Calls prog 48 #[pv] W fun e w'=>e=.returned (.bool true)/\Hid (A8 n0 pb n L L.length w (.returned (.bool true)) w')):=fun W hW=>(dN l pv W (hp.at' W (Ac.below hW)) hp.byte).mono fun e w' hh=>⟨hh.1,A8.none h (hW.trans (hh.2.mono hW.size))⟩;clear h hp;unfold Au at*;go_enter func24,ntmps24
 go_wp2_with(go_at_call 48;refine(HC.out _ (al1 (aO _) _)).mono ?_;rintro e w' ⟨rfl,HH⟩)
 go_ret;exact HH.out
theorem dz{w wr:World}{i:Nat}(h:Dh w wr i)(hi:i<=926000000000)(d:OpD)(hd:GK w d)(hk:(d.kd=1\/(2<=d.kd/\d.kd<=14/\CW d.kd))\/d.kd=15\/d.kd=16):
  Calls prog 24 #[pj w.heap.size,.agg d.cells] wr (LQ w i):=by
 rcases hk with hk|e1|e1
 ·exact No h hi d hd hk
 ·obtain⟨ps,L,n,K,hI,h1,h2,h3,h4⟩:=h.inv;unfold OpD.cells;rw[e1];exact Calls.mono (dt hI (by omega) d.k d.a d.b d.c d.y d.r d.lv d.mv d.pv d.ll d.ml (hd.rl.op h.bel hI.size) (hd.rm.op h.bel hI.size)) (h.fin hi hI h1 h2 h3 h4)
 ·obtain⟨ps,L,n,K,hI,h1,h2,h3,h4⟩:=h.inv;unfold OpD.cells;rw[e1];exact Calls.mono (dL hI d.k d.a d.b d.c d.y d.r d.lv d.mv d.pv d.l ⟨fun W' hW'=>hd.pix.below (h.bel.trans (hW'.to_below (fun g hg=>hg) hI.size)),hd.form,hd.fit,hd.byte⟩) (h.fin hi hI h1 h2 h3 h4)
end Go.Proofs.YtofinpocigbbeaaGreat
