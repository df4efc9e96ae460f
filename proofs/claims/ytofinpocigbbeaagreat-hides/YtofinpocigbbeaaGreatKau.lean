import Derived.Test.YtofinpocigbbeaaGreatKak
import Derived.Test.YtofinpocigbbeaaGreatKas
set_option maxHeartbeats 1000000
set_option maxRecDepth 100000
set_option linter.unusedSimpArgs false
namespace Go.Proofs.YtofinpocigbbeaaGreat
open Go.Proofs.Tryz Go.RowKit
attribute [local go_sem ↓] Go.wp_at_zero Go.wp_at_succ
theorem N5(g:Nat)(a b:Int)(pa:Option Addr)(pm pk:Nat)(F:Nat->Value)(w:World)(h:B4 w g F):
  Calls prog 60 #[.pointer (some ⟨g,0,none⟩),.agg #[.int .i64 a,.int .i64 b,.slice pa pm pk]] w fun e w'=>e=.returned (.tuple #[])/\
   w'=(((w.setCell ⟨g,14,none⟩ (.int .i64 a)).setCell ⟨g,15,none⟩ (.int .i64 b)).setCell ⟨g,16,none⟩ (.slice pa pm pk)).alloc (.cells #[.int .i64 a,.int .i64 b,.slice pa pm pk] 122):=by
 obtain⟨cur,h1,h2,h3⟩:=h;have hlt:g<w.heap.size:=(aM.1 h1).1;have hc:∀j,j<31->w.cell? ⟨g,j,none⟩=some (F j):=fun j hj=>by
  rw[aP _ _ _ _ _ _ h1];exact h3 j hj
 have hf:∀j,w.frozen? ⟨g,j,none⟩=false:=fun j=>by simp[World.frozen?,h1]
 have c13:=hc 14 (by omega);have c14:=hc 15 (by omega);have c15:=hc 16 (by omega);have f13:=hf 14;have f14:=hf 15;have f15:=hf 16;have hgn:¬g=w.heap.size:=by omega
 clear hc hf h1 h2 h3;go_enter func60,ntmps60
 go_wp2_with fail
 exact cV (v:=.tuple #[]) (by simp[results,results60]) rfl ⟨rfl,rfl⟩
theorem N6{S:Nat->Prop}{x:Nat}{st:St}(hw:Wf st)(id a b:Int)(l:List R4)(v:Value)(w:World){bv:Value}(h:AX w S x st bv)(hv:Bb w v l)(hlen:l.length<=maxLen):
  Calls prog 28 #[.pointer (some ⟨x,0,none⟩),.int .i64 id,.int .i64 a,.int .i64 b,v] w (Bl S x bv (BJ st id a b l.length (l.all Ef) fun k=>l.getD k (0,0,0,0)) w):=by
 have hB:=AV hw id;have HE:=Aa (fun(er:Int) (W:World) (hW:Below w.heap.size w W)=>Bl.same (er:=er) h hW);have HAM:=Aa (N0 l v w hv hlen);have HV:=Aa hv;obtain⟨va,vc,hvf,_⟩:=hv;obtain⟨sc,mp,blk,G,h⟩:=h;obtain⟨x0,x1,xl⟩:=h.scrCells;unfold BJ;obtain⟨t,ht⟩:∃t,st.isB id=t:=⟨_,rfl⟩;rw[ht]at hB ⊢;have hlen2:=hlen;unfold maxLen at hlen2;cases t with
 |false=>
  rw[if_neg (by simp)];have HS:=Aa (Cc h id (Gg hw ht));clear hB h hvf;go_enter func28,ntmps28
  go_wp2_with(go_at_call 58;refine HS.out.mono ?_;rintro e w' ⟨rfl,hw'⟩;replace hw':=hw'.symm;subst hw')
  go_ret;exact HE.out 6 _ (aN _ _)
 |true=>
  rw[if_pos rfl];obtain⟨i,rfl,hio⟩:=hB.1 rfl;have hil:=hw.lt hio;rw[aX];have HS:=Aa (Cd h i hio);have kl:=(h.at (Af hio)).2.2;by_cases hab:0<=a/\a<=24/\0<=b/\b<=24
  ·rw[if_pos hab];obtain⟨n,hn⟩:∃n,l.length=n:=⟨_,rfl⟩;have hb0:0<=a*b:=Int.mul_nonneg hab.1 hab.2.2.1;have hb1:a*b<=576:=by
    have h1:a*b<=24*b:=Int.mul_le_mul_of_nonneg_right hab.2.1 hab.2.2.1;omega
   obtain⟨ok,hok⟩:∃ok,l.all Ef=ok:=⟨_,rfl⟩;obtain⟨f,hf⟩:∃f:Nat->R4,(fun k=>l.getD k (0,0,0,0))=f:=⟨_,rfl⟩;have HOk:Hid (∀W:World,Below w.heap.size w W->∀g:Nat,w.heap.size<=g->Bj W g n f->(n:Int)=a*b->Bl S x bv (0,upd st i (IF a b f)) w (.returned (.int .i64 0)) ((((W.setCell ⟨blk i,14,none⟩ (.int .i64 a)).setCell ⟨blk i,15,none⟩ (.int .i64 b)).setCell ⟨blk i,16,none⟩ (.slice (some ⟨g,0,none⟩) n n)).alloc (.cells #[.int .i64 a,.int .i64 b,.slice (some ⟨g,0,none⟩) n n] 122))):=fun W hW g hgw hpf hnab=>by
    have h:=(h.below hW).mono (S':=AA S w W) fun _ hg=>.inl hg;have hs:B4 W (blk i) (G i):=h.srf i (Af hio);have q:=(h.cells i (Af hio)).nat;have q2:=q.next;have d:=h.data i hio;have ho:S (blk i):=by
     rcases h.own.2.2.2 i (Af hio)with ho|ho
     ·exact ho
     ·have:=kl;omega
    have hnn:n=((IF a b f) (st.sf i)).next.n:=by
     show n=(a*b).toNat;omega
    have hgl:g<W.heap.size:=hpf.has.lt;have hr:=h.upd (w':=((W.setCell ⟨blk i,14,none⟩ (.int .i64 a)).setCell ⟨blk i,15,none⟩ (.int .i64 b)).setCell ⟨blk i,16,none⟩ (.slice (some ⟨g,0,none⟩) n n)) (gf:=IF a b f) hio hil (fun _=>rfl) (fun g hg hne=>by rw[setOther 16 _ g (by simpa using hg) hne,setOther 15 _ g (by simpa using hg) hne,setOther 14 _ g hg hne]) (((hs.set 14 _).set 15 _).set 16 _) rfl (Dk.upd hil ⟨q.num,q.par,⟨q.now.w,q.now.h,q.now.pix,q.now.x,q.now.y,q.now.c0,q.now.c1,q.now.c2,q.now.c3,q.now.cut,q.now.hint⟩,⟨rfl,rfl,⟨_,_,_,rfl⟩,q2.x,q2.y,q2.c0,q2.c1,q2.c2,q2.c3,q2.cut,q2.hint⟩,q.stk,q.kep⟩) ⟨d.pix,d.hint,⟨some ⟨g,0,none⟩,by rw[<-hnn];rfl,fun _=>⟨g,rfl,.inr ⟨hgw,hgl⟩,by rw[<-hnn];exact hpf⟩⟩,d.nhint,d.kw,d.kh,d.kept⟩;refine⟨rfl,⟨sc,mp,blk,_,(hr.below (al1 (aO _) _)).mono fun g hg=>?_⟩,((((Ac.below hW).set (.inl ho) _).set (.inl ho) _).set (.inl ho) _).alloc _⟩;rcases hg with hg|⟨hg1,hg2⟩
    ·exact .inl hg
    ·exact .inr ⟨hg1,by simp;omega⟩
   have HAt:Hid (∀W:World,Below w.heap.size w W->∀g:Nat,w.heap.size<=g->Bj W g n f->(n:Int)=a*b->Calls prog 60 #[.pointer (some ⟨blk i,0,none⟩),.agg #[.int .i64 a,.int .i64 b,.slice (some ⟨g,0,none⟩) n n]] W fun e w'=>e=.returned (.tuple #[])/\Bl S x bv (0,upd st i (IF a b f)) w (.returned (.int .i64 0)) w'):=fun W hW g hgw hpf hnab=>(N5 (blk i) a b (some ⟨g,0,none⟩) n n (G i) W ((h.below hW).srf i (Af hio))).mono fun e w' ⟨h1,h2⟩=>⟨h1,by rw[h2];exact HOk.out W hW g hgw hpf hnab⟩;have HOf:Hid ((n:Int)=a*b->∀W:World,Below w.heap.size w W->Calls prog 61 #[.int .i64 a,.int .i64 b,v] W fun e w'=>∃g:Nat,e=.returned (.agg #[.int .i64 a,.int .i64 b,.slice (some ⟨g,0,none⟩) n n])/\Below w.heap.size w w'/\w.heap.size<=g/\Bj w' g n f/\(n:Int)=a*b):=fun he W hW=>(K4 a b n he.symm (by omega) v l hn W (HV.out.below hW)).mono fun e w' ⟨g,h1,h2,h3,h4⟩=>⟨g,h1,hW.trans (h4.mono hW.size),bh hW.size h3,by rw[<-hf];exact h2,he⟩;rw[hok]at HAM ⊢;rw[hf];rw[hn]at hvf hlen2 ⊢;obtain⟨g,hg⟩:∃g,blk i=g:=⟨_,rfl⟩;rw[hg]at HS HAt;clear HOk h hB hg HV hok hn hf kl;obtain⟨ha1,ha2,hb1',hb2'⟩:=hab;obtain⟨P,hP⟩:∃P,a*b=P:=⟨_,rfl⟩;rw[hP]at hb0 hb1 HOf HAt ⊢;by_cases hnp:(n:Int)=P
   ·have HOf2:=Aa (HOf.out hnp);have hnp2:((n:Int)==P)=true:=by simpa using hnp
    have hnp3:((n:Int) != P)=false:=by simpa using hnp
    clear HOf;subst hvf;cases ok with
    |true=>
     rw[if_pos ⟨hnp,rfl⟩];go_enter func28,ntmps28
     go_wp2_with(first
      |(go_at_call 58;refine HS.out.mono ?_;rintro e w' ⟨rfl,hw'⟩;replace hw':=hw'.symm;subst hw')
      |(go_at_call 59;refine HAM.out.mono ?_;rintro e w1 ⟨rfl,hb⟩;have HB:=Aa hb;clear hb)
      |(go_at_call 61;refine(HOf2.out _ HB.out).mono ?_;rintro e w2 ⟨gg,rfl,hb⟩;have HB2:=Aa hb;clear hb)
      |(go_at_call 60;refine(HAt.out _ HB2.out.1 _ HB2.out.2.1 HB2.out.2.2.1 HB2.out.2.2.2).mono ?_;rintro e w3 ⟨rfl,hb⟩;have HB3:=Aa hb;clear hb)
      |go_in)
     go_ret;exact HB3.out
    |false=>
     rw[if_neg (fun h=>by cases h.2)];go_enter func28,ntmps28
     go_wp2_with(first
      |(go_at_call 58;refine HS.out.mono ?_;rintro e w' ⟨rfl,hw'⟩;replace hw':=hw'.symm;subst hw')
      |(go_at_call 59;refine HAM.out.mono ?_;rintro e w1 ⟨rfl,hb⟩;have HB:=Aa hb;clear hb)
      |go_in)
     go_ret;exact HE.out 4 _ HB.out
   ·rw[if_neg (fun h=>hnp h.1)];have hnp3:((n:Int) != P)=true:=by simpa using hnp
    clear HOf HAt HAM;subst hvf;go_enter func28,ntmps28
    go_wp2_with(first
     |(go_at_call 58;refine HS.out.mono ?_;rintro e w' ⟨rfl,hw'⟩;replace hw':=hw'.symm;subst hw')
     |go_in)
    go_ret;exact HE.out 4 _ (aN _ _)
  ·rw[if_neg hab];have hcases:a<0\/(0<=a/\24<a)\/(0<=a/\a<=24/\b<0)\/(0<=a/\a<=24/\0<=b/\24<b):=by omega
   clear hab h hB hvf HAM HV kl;rcases hcases with h1|⟨h1,h2⟩|⟨h1,h2,h3⟩|⟨h1,h2,h3,h4⟩;all_goals
    try have hd:decide (b<=24)=false:=cE (by omega)
    go_enter func28,ntmps28
    go_wp2_with(first
     |(go_at_call 58;refine HS.out.mono ?_;rintro e w' ⟨rfl,hw'⟩;replace hw':=hw'.symm;subst hw')
     |go_in)
    try go_ret
    exact HE.out 5 _ (aN _ _)
end Go.Proofs.YtofinpocigbbeaaGreat
