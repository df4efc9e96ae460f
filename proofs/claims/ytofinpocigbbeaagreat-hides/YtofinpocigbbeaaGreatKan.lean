import Derived.Test.YtofinpocigbbeaaGreatKam
import Derived.Test.YtofinpocigbbeaaGreatKag
set_option maxHeartbeats 2000000
set_option maxRecDepth 100000
set_option linter.unusedSimpArgs false
namespace Go.Proofs.YtofinpocigbbeaaGreat
open Go.Proofs.Tryz Go.RowKit
attribute [local go_sem ↓] Go.wp_at_zero Go.wp_at_succ
variable{S:Nat->Prop}{bv:Value}{c:Nat}{st:St}
theorem P7(l:List R4):pxL (fun k=>l.getD k (0,0,0,0)) l.length=l:=by
 refine List.ext_getElem (by rw[B9]) fun k h1 h2=>?_;simp[pxL,bu,aU h2]
theorem Oe{w w2:World}{ov:Value}{F:Nat->Nat->Value}{g cap i n:Nat}{a:Option Addr}{vc:Nat}{l:List R4}{W H:Int}{f:Nat->R4}(hb:Below w.heap.size w w2)(hr:B3 w2 S c st.w st.h st.sfs.length st.order bv (.slice (some ⟨g,0,none⟩) st.sfs.length cap) ov F)(hs:C9 w2 S st F)(hi:i<st.sfs.length)(hn:(n:Int)=W*H)(hv:w2.ownsRow w.heap.size 51 4 (.slice a n vc) n (Aq l))(hlf:pxL f n=l):
  Br S c bv (0,upd st i (IF W H f)) w (.returned (.int .i64 0)) (((w2.setCell ⟨g,i*28+13,none⟩ (.int .i64 W)).setCell ⟨g,i*28+14,none⟩ (.int .i64 H)).setCell ⟨g,i*28+15,none⟩ (.slice a n vc)):=by
 obtain⟨e2,cur,hcur⟩:=hr.gType;have hr2:=((hr.set hi (show 13<28 by omega) (.int .i64 W)).set hi (show 14<28 by omega) (.int .i64 H)).set hi (show 15<28 by omega) (.slice a n vc);have hpk:=BB (j:=i*28+15) (u:=.slice a n vc) hcur (BB (j:=i*28+14) (u:=.int .i64 H) hcur (BB (j:=i*28+13) (u:=.int .i64 W) hcur (w':=w2) fun _ _ _ _ _=>rfl));have q:=hs.rel i hi;have hz:=hb.size;have hsz:(((w2.setCell ⟨g,i*28+13,none⟩ (.int .i64 W)).setCell ⟨g,i*28+14,none⟩ (.int .i64 H)).setCell ⟨g,i*28+15,none⟩ (.slice a n vc)).heap.size=w2.heap.size:=by simp
 have hS:∀b,S b->AA S w (((w2.setCell ⟨g,i*28+13,none⟩ (.int .i64 W)).setCell ⟨g,i*28+14,none⟩ (.int .i64 H)).setCell ⟨g,i*28+15,none⟩ (.slice a n vc)) b:=fun _ h=>AI h;refine⟨rfl,Aw.of_upd (hr2.mono hS) hi hs (fun j hj=>by simp only[D7 _ _ _ _ hj]) hS hpk ?_ ?_,?_⟩
 ·simp only[Bx];exact⟨q.alive,q.parent,q.nw,q.nh,q.nx,q.ny,q.ncut,q.n0,q.n1,q.n2,q.n3,q.nhint,rfl,rfl,q.xx,q.xy,q.xcut,q.x0,q.x1,q.x2,q.x3,q.xhint,q.ask,q.sib,q.above,q.kept⟩
 ·simp only[Bx];have hd:=((hs.dat i hi).mono hS).other hpk;have hp:AC w2 (AA S w (((w2.setCell ⟨g,i*28+13,none⟩ (.int .i64 W)).setCell ⟨g,i*28+14,none⟩ (.int .i64 H)).setCell ⟨g,i*28+15,none⟩ (.slice a n vc))) (.slice a n vc) (W*H) f:=
   ⟨n,hn,⟨by rw[hlf];exact⟨hv.1,hv.2.imp (fun h=>h) fun⟨g,c,cur,e1,_,e3⟩=>⟨g,c,cur,e1,cB _,e3⟩⟩,fun b hb2=>.inr ⟨(hv.lt b hb2).1,by rw[hsz];exact(hv.lt b hb2).2⟩⟩⟩
  exact⟨hd.pixN,hp.other fun b cur=>hpk b cur _ (.inl rfl),hd.hinN,hd.hinX,hd.kept⟩
 ·have h0:Ac S w w2:=Ac.below hb;exact((h0.set (.inl e2) _).set (.inl e2) _).set (.inl e2) _
theorem Mf(hw:Wf st)(id W H:Int)(l:List R4)(v:Value)(w:World)(h:Aw w S c st bv)(hl:Bb w v l)(hlen:l.length<=maxLen):
  Calls prog 143 #[.pointer (some ⟨c,0,none⟩),.int .i64 id,.int .i64 W,.int .i64 H,v] w (Br S c bv (BJ st id W H l.length (l.all Ef) (fun k=>l.getD k (0,0,0,0))) w):=by
 obtain⟨i0,hi0,hz0,hz1,hz2⟩:=cW Ed;have hIs:=D6 (S:=S) (c:=c) (st:=st) (bv:=bv) id w h hw.made;have hB:=AV hw id;have HE:=Aa (fun er W (hW:Below w.heap.size w W)=>Br.same (er:=er) h hW);have HL:=Aa hl;unfold BJ;obtain⟨t,ht⟩:∃t,st.isB id=t:=⟨_,rfl⟩;rw[ht]at hIs hB ⊢;clear ht;obtain⟨va,vc,hv,_⟩:=hl;obtain⟨n,hn⟩:∃n,l.length=n:=⟨_,rfl⟩;rw[hn]at hv hlen;rw[hn];subst hv;have HN:=Aa hn;unfold maxLen at hlen;have HI:=Aa hIs;clear hIs hn;cases t with
 |false=>
  rw[if_neg (by simp)];clear hB h;go_enter func143,ntmps143
  go_wp2_with(go_at_call 127;refine HI.out.mono ?_;rintro e w' ⟨rfl,hw'⟩;replace hw':=hw'.symm;subst hw')
  go_ret;exact HE.out 6 _ (aN _ _)
 |true=>
  rw[if_pos rfl];obtain⟨i,rfl,hio⟩:=hB.1 rfl;have hil:=hw.lt hio;rw[aX];by_cases hsz:0<=W/\W<=24/\0<=H/\H<=24
  ·rw[if_pos hsz];obtain⟨hW0,hW1,hH0,hH1⟩:=hsz;have hWH:0<=W*H/\W*H<=24*24:=⟨Int.mul_nonneg hW0 hH0,Int.mul_le_mul hW1 hH1 hH0 (by omega)⟩;have w1:IntKind.i64.wrap (W*H)=W*H:=by rw[bB];omega
   obtain⟨WH,hWHe⟩:∃z,W*H=z:=⟨_,rfl⟩;rw[hWHe]at w1 hWH ⊢;by_cases hnn:(n:Int)=WH
   ·subst hnn;have w2:((n:Int) != wrap64 (W*H))=false:=by
     have e:wrap64 (W*H)=(n:Int):=by rw[hWHe];unfold wrap64;omega
     rw[e];simp
    obtain⟨sv,ov,F,hr,hs⟩:=h;obtain⟨g,cap,e1,e2,e3,e4,e5,e6⟩:=hr.at (by omega);subst e1;obtain⟨_,cur,hcur⟩:=hr.gType;have hne:¬c=g:=Aj hr.scr hcur (by decide);have hne2:g≠c:=fun e=>hne e.symm;have hcl:=(aM.1 hr.scr).1;have HR:=Aa (aK hr (aK hs hil));have HWH:=Aa hWHe;have hmd:=hw.made;obtain⟨nS,hnS⟩:∃x,st.sfs.length=x:=⟨_,rfl⟩;have HC:Hid (∀W',Below w.heap.size w W'->W'.cell? ⟨c,3,none⟩=some (.slice (some ⟨g,0,none⟩) nS cap)/\(∀o,o<28->W'.cell? ⟨g,i*28+o,none⟩=some (F i o))/\∀j,W'.frozen? ⟨g,j,none⟩=false):=fun W' hW=>by
     have r2:=hr.below hW;obtain⟨k0,k1,k2,k3,k4,kf,kl⟩:=r2.cells;obtain⟨g',cap',q1,q2,q3,q4,q5,q6⟩:=r2.at (by omega);injection q1 with q11 q12 q13;injection q11 with q11;injection q11 with q11;subst q11;rw[hnS]at k3;exact⟨k3,fun o ho=>q5 i hil o ho,q6⟩
    rw[hnS]at e3 hmd;have hin:i<nS:=by omega
    have hicap:i<cap:=by omega
    have hn576:n<=576:=by omega
    have HIf:Hid (∀e w',(l.all Ef=true->Br S c bv (0,upd st i (IF W H (fun k=>l.getD k (0,0,0,0)))) w e w')->(l.all Ef=false->Br S c bv (4,st) w e w')->Br S c bv (if(n:Int)=(n:Int)/\l.all Ef=true then(0,upd st i (IF W H (fun k=>l.getD k (0,0,0,0))))else(4,st)) w e w'):=fun e w' h1 h2=>by
     cases hb:l.all Ef with
     |true=>rw[if_pos ⟨rfl,rfl⟩];exact h1 hb
     |false=>rw[if_neg (by simp)];exact h2 hb
    obtain⟨post,hpost⟩:∃P,P=Br S c bv (if(n:Int)=(n:Int)/\l.all Ef=true then(0,upd st i (IF W H (fun k=>l.getD k (0,0,0,0))))else(4,st)) w:=⟨_,rfl⟩;rw[<-hpost]at HIf ⊢;clear hr hs e5 e6 hcur hB hnS hpost hWHe hil;go_enter func143,ntmps143
    go_wp2_with(go_at_call 127;refine HI.out.mono ?_;rintro e w' ⟨rfl,hw'⟩;replace hw':=hw'.symm;subst hw')
    go_loopg [12,13] n (fun gg s12 s13 wr=>∃k:Nat,s13=.int .i64 k/\gg+k=n/\wr.ownsRow w.heap.size 51 4 s12 k (Aq (l.take k))/\(∀r∈l.take k,Ef r=true)/\Below w.heap.size w wr)
    case atStart=>exact⟨0,rfl,by omega,bA _ _ _ _,fun r hr=>by simp at hr,aN _ _⟩
    case round=>
     rename World=>wr;obtain⟨k,rfl,hgk,hown,hfit,hbel⟩:=hrel;obtain⟨ra,rc,hrf⟩:=Al hown;subst hrf;have hsz9:=hbel.size;have HO:=Aa (aK hown (aK hfit hbel));cases gk with
     |zero=>
      have hlt:¬(k:Int)<(n:Int):=by omega
      have hkn:k=n:=by omega
      subst hkn;obtain⟨y3,yc,yf⟩:=HC.out wr hbel;have c13:=yc 13 (by omega);have c14:=yc 14 (by omega);have c15:=yc 15 (by omega);have f13:=yf (i*28+13);have f14:=yf (i*28+14);have f15:=yf (i*28+15);clear yc yf hown hfit hbel;go_wp2
      try go_ret
      refine HIf.out _ _ (fun _=>?_) (fun hno=>?_)
      ·have hfull:l.take k=l:=bw (by have:=HN.out;omega);have ho:=HO.out.1;rw[hfull]at ho;exact Oe HO.out.2.2 (HR.out.1.below HO.out.2.2) (HR.out.2.1.below HO.out.2.2) HR.out.2.2 HWH.out.symm ho (by rw[<-HN.out];exact P7 l)
      ·exfalso;have hfull:l.take k=l:=bw (by have:=HN.out;omega);have ho:=HO.out.2.1;rw[hfull]at ho;rw[cG.2 ho]at hno;cases hno
     |succ gk=>
      have hlt:(k:Int)<(n:Int):=by omega
      have hkL:k<l.length:=by have:=HN.out;omega
      obtain⟨xa,xc,hxv,hx⟩:=HL.out.below hbel;injection hxv with hx1 hx2 hx3;subst hx1 hx3;obtain⟨hlc,b,off,rfl,hcs⟩:=hx (by omega);rw[HN.out]at hlc;obtain⟨c1,c2,c3,c4⟩:=hcs k hkL;obtain⟨⟨p0,p1,p2,p3⟩,hp⟩:∃p,l[k]=p:=⟨_,rfl⟩;rw[hp]at c1 c2 c3 c4;simp only at c1 c2 c3 c4;have hFt:=ID p0 p1 p2 p3;obtain⟨t,ht⟩:∃t,FU p0 p1 p2 p3=t:=⟨_,rfl⟩;rw[ht]at hFt;have HFt:=Aa hFt;have hbl:=Ak c1;have hkc:k<vc:=by omega
      have HP:=Aa (aK hp (aK ht hkL));clear hown hfit hbel hcs hx hp ht hFt hx2;cases t with
      |false=>
       go_wp2_with(go_at_call 177;refine(HFt.out _).mono ?_;rintro e w5 ⟨rfl,he5⟩;have HB5:=Aa he5;clear he5)
       try go_ret
       refine HIf.out _ _ (fun hyes=>?_) (fun _=>?_)
       ·exfalso;have h9:=cG.1 hyes _ (aZ HP.out.2.2);rw[HP.out.1]at h9;have h8:FU p0 p1 p2 p3=true:=h9;rw[HP.out.2.1]at h8;cases h8
       ·exact HE.out 4 _ (by rw[HB5.out];exact HO.out.2.2.alloc hsz9 _)
      |true=>
       go_wp2_with(first
        |(go_at_call 177;refine(HFt.out _).mono ?_;rintro e w5 ⟨rfl,he5⟩;have hbl5:b<w5.heap.size:=(by rw[he5];simp;omega);have hs5:w.heap.size<=w5.heap.size:=(by rw[he5];simp;omega);have d1:=(congrArg (fun W=>World.cell? W ⟨b,off+k*4,none⟩) he5).trans ((BI wr _ b (off+k*4) hbl).trans c1);have d2:=(congrArg (fun W=>World.cell? W ⟨b,off+k*4+1,none⟩) he5).trans ((BI wr _ b (off+k*4+1) hbl).trans c2);have d3:=(congrArg (fun W=>World.cell? W ⟨b,off+k*4+2,none⟩) he5).trans ((BI wr _ b (off+k*4+2) hbl).trans c3);have d4:=(congrArg (fun W=>World.cell? W ⟨b,off+k*4+3,none⟩) he5).trans ((BI wr _ b (off+k*4+3) hbl).trans c4);have HB5:=Aa he5;clear he5)
        |(at_builtin;refine Am (P:=prog) rfl (.tmp 54) (.tmp 59) 44 rfl w.heap.size 51 i0 _ 4 4 underlying44 hi0 hz0 hz1 hz2 rfl (by decide) (.slice ra k rc) k (Aq (l.take k)) rfl (by have h9:=HO.out.1.alloc (.cells #[.int .u8 p0,.int .u8 p1,.int .u8 p2,.int .u8 p3] 51);rw[<-HB5.out]at h9;exact h9.alloc _) (.slice (some ⟨w5.heap.size,0,none⟩) 1 1) 1 [.int .u8 p0,.int .u8 p1,.int .u8 p2,.int .u8 p3] rfl rfl (.inr ⟨_,_,rfl,bI (cs:=#[.int .u8 p0,.int .u8 p1,.int .u8 p2,.int .u8 p3]) (t:=51) (fr:=(0,0)) (aR w5 _)⟩) (by simp[Value.oneCell']) (by unfold maxLen;omega) (by omega) (by simp;omega) ?_;intro v6 w6 ho6 hg6 hn6 ha6;have HB6:=Aa (((by rw[HB5.out];exact HO.out.2.2.alloc hsz9 _:Below w.heap.size w w5).alloc hs5 _).grown hg6 (by simp;omega) (fun k hk=>(HO.out.1.lt k hk).1));have HO6:=Aa ho6;clear ho6 hg6 hn6 ha6))
       go_roundg gk
       case measure=>omega
       case rel=>
        have hkL:=HP.out.2.2;have e9:l.take (k+1)=l.take k++[(p0,p1,p2,p3)]:=by rw[bn hkL,HP.out.1]
        refine⟨k+1,by go_num,by omega,?_,fun r hr=>?_,HB6.out⟩
        ·rw[e9,D5];exact HO6.out
        ·rw[e9,bV,List.mem_singleton]at hr;rcases hr with hr|rfl
         ·exact HO.out.2.1 r hr
         ·exact HP.out.2.1
   ·rw[if_neg (fun hh=>hnn hh.1)];clear hB h;go_enter func143,ntmps143
    go_wp2_with(go_at_call 127;refine HI.out.mono ?_;rintro e w' ⟨rfl,hw'⟩;replace hw':=hw'.symm;subst hw')
    all_goals
     go_ret;exact HE.out 4 _ (aN _ _)
  ·rw[if_neg hsz];clear hB h;have HS:=Aa hsz;have hcs:W<0\/(0<=W/\24<W)\/(0<=W/\W<=24/\H<0)\/(0<=W/\W<=24/\0<=H/\24<H):=by omega
   clear hsz;rcases hcs with h1|⟨h1,h2⟩|⟨h1,h2,h3⟩|⟨h1,h2,h3,h4⟩;all_goals
    go_enter func143,ntmps143
    go_wp2_with(go_at_call 127;refine HI.out.mono ?_;rintro e w' ⟨rfl,hw'⟩;replace hw':=hw'.symm;subst hw')
    go_ret;exact HE.out 5 _ (aN _ _)
variable{B0:Nat}{a b w:World}{u:Option Nat}
def FR(w:World)(B0:Nat)(s:Value)(m:Nat):Prop:=∃xs,w.ownsRow B0 51 4 s m xs
structure Cj(u:Option Nat)(w w':World):Prop where
 grown:w.grownBy w' u
 rows:∀(g:Nat) (cur:Array Value),w.heap[g]?=some (.cells cur 51 (0,0))->∃cur':Array Value,w'.heap[g]?=some (.cells cur' 51 (0,0))/\cur'.size=cur.size
theorem FR.step{w':World}{m:Nat}{s:Value}(h:FR w B0 s m)(hs:Cj u w w'):FR w' B0 s m:=by
 obtain⟨xs,h1,h2⟩:=h;rcases h2 with h2|⟨g,cap,cur,e1,e2,e3,e4,e5,e6,e7⟩
 ·exact⟨xs,h1,.inl h2⟩
 ·obtain⟨cur',k1,k2⟩:=hs.rows g cur e3;refine⟨cur'.toList.take (m*4),?_,.inr ⟨g,cap,cur',e1,e2,k1,e4,e5,by rw[k2,e6],rfl⟩⟩;rw[bR,cR,k2,e6];have:=bU 4 e4;omega
theorem Cj.refl(u:Option Nat)(w:World):Cj u w w:=⟨⟨rfl,rfl,rfl,aO _,fun _ _ _=>rfl⟩,fun _ cur h=>⟨cur,h,rfl⟩⟩
theorem Cj.alloc(u:Option Nat)(w:World)(o:Obj):Cj u w (w.alloc o):=
 ⟨World.grownBy_alloc w o u,fun g cur h=>⟨cur,by rw[Ad w o g (aM.1 h).1];exact h,rfl⟩⟩
theorem Cj.trans{c:World}(h:Cj u a b)(k:Cj u b c):Cj u a c:=
 ⟨h.grown.trans k.grown,fun g cur hg=>by
  obtain⟨c1,e1,e2⟩:=h.rows g cur hg;obtain⟨c2,e3,e4⟩:=k.rows g c1 e1;exact⟨c2,e3,e4.trans e2⟩⟩
theorem Cj.of_none(h:a.grownBy b none):Cj u a b:=
 ⟨⟨h.os,h.tape,h.output,h.size,fun k hk _=>h.block k hk (by simp)⟩,fun g cur hg=>⟨cur,by rw[h.block g (aM.1 hg).1 (by simp)];exact hg,rfl⟩⟩
theorem Qz{n:Nat}{v:Value}(hv:FR w B0 v n)(ty:TypeId)(ad:Addr)(m c:Nat)(news:List Value)(hl:news.length=m*4)(hnews:∀j u,news[j]?=some u->w.cell? (ad.add j)=some u)(h1:∀u∈news,u.oneCell'=true)
  (h63:n+m<=maxLen) (hbytes:(n+m)*4<=140737488355328) (hB:B0<=w.heap.size):
  ∃v' w',(Builtin.append_ #[44,44] ty #[v,.slice (some ad) m c]).run prog w=.ok v' w'/\FR w' B0 v' (n+m)/\Cj v.ownBlock w w'/\(v'.ownBlock=v.ownBlock\/v'.ownBlock=some w.heap.size):=by
 obtain⟨i0,hi0,hz0,hz1,hz2⟩:=cW Ed;obtain⟨xs,hown⟩:=hv;obtain⟨v',w',hr,ho,hg,_,hat⟩:=run_append_own_at (P:=prog) w B0 44 ty 51 i0 _ 4 4 underlying44 hi0 hz0 hz1 hz2 rfl (by decide) v n xs hown ad m c news hl hnews h1 h63 hbytes hB;refine⟨v',w',hr,⟨_,ho⟩,⟨hg,fun k cur hk=>?_⟩,hat⟩;have hkl:=(aM.1 hk).1;by_cases hkv:some k=v.ownBlock
 ·rcases hown.2 with⟨e,_⟩|⟨g,cap,cu,e1,e2,e3,e4,e5,e6,e7⟩
  ·rw[e]at hkv;cases hkv
  ·subst e1;have hkg:k=g:=by
    have:some k=some g:=hkv;injection this
   subst hkg;rw[hk]at e3;injection e3 with e3;injection e3 with e3;subst e3;by_cases hroom:n+m<=cap
   ·have hlen:news.length=m*i0.size:=by rw[hz1];exact hl
    have hfit:n*i0.size+news.length<=cur.size:=by rw[hz1,hl,e6,<-Nat.add_mul];exact bU _ hroom
    have h9:=run_append_room (P:=prog) w 44 ty 51 i0 underlying44 hi0 k n cap cur hk ad m c news hlen hnews h1 hroom hfit;rw[hr]at h9;injection h9 with _ h9;subst h9;refine⟨_,setRow_heap w k cur _ 51 _ hk,?_⟩;simp only[List.size_toArray,aY,bR,cC,cR];omega
   ·obtain⟨v2,w2,h9,_,h8⟩:=run_append_arg_grows (P:=prog) w 44 ty 51 i0 _ 4 4 underlying44 hi0 hz0 hz1 hz2 rfl (by decide) ⟨k,0,none⟩ n cap xs hown.1 (hown.cells (g:=k) rfl) ad m c news hl hnews (by omega) h63 hbytes;rw[hr]at h9;injection h9 with _ h9;subst h9;exact(Cj.of_none (u:=none) h8).rows k cur hk
 ·exact⟨cur,by rw[hg.block k hkl hkv];exact hk,rfl⟩
variable{N:Nat}{cv:Value}
def zB(N:Nat):Array Value:=#[.int .u8 ((N%251:Nat):Int),.int .u8 ((N/251%251:Nat):Int),.int .u8 ((N/63001%251:Nat):Int),.int .u8 77]
def Sb:Code->Array Oper
 | .seq _ (.seq (.region _ ops _) _)=>ops
 |_=>#[]
def GH(f:Func):Array Oper:=(f.body.map Sb).getD #[]
def frB(N:Nat)(cv:Value)(pb zb:Nat)(v:Value)(f:Nat->Value):Act:=
 {tmps:=#[.pointer (some ⟨pb,1,none⟩),v,undef,undef,.pointer (some ⟨zb,0,none⟩),f 5,undef,undef,.pointer (some ⟨pb,1,none⟩),.pointer (some ⟨pb,1,none⟩),.pointer (some ⟨pb,2,none⟩),cv,.int .i64 (N:Int),.agg (zB N),
   f 14,f 15,f 16,f 17,f 18,f 19,f 20,f 21,f 22,f 23,f 24,f 25,f 26,f 27,f 28,f 29,f 30,undef,undef,undef,undef,undef,undef,undef,undef,undef,undef,undef,undef,undef,undef,undef,undef,undef,undef,undef,undef,undef,undef,undef,undef,undef,undef,undef,undef,undef,undef,undef,undef],defers:=[] }
theorem Im:(GH Tryz.f142).size=18:=rfl
theorem Sc:∀(i:Nat) (o:Oper),(GH Tryz.f142)[i]?=some o->∀e∈o.after,e.on<i:=by
 have h:(List.range (GH Tryz.f142).size).all (fun i=>((GH Tryz.f142)[i]?.map fun o=>o.after.toList.all fun e=>decide (e.on<i)).getD false)=true:=by kernel_rfl
 intro i o ho e he;have hi:i<(GH Tryz.f142).size:=(aM.1 ho).1;have h1:=cG.1 h i (cf.2 hi);rw[ho]at h1;have h2:o.after.toList.all (fun e=>decide (e.on<i))=true:=h1;exact ck (cG.1 h2 e (aW.2 he))
theorem Fq(pb zb:Nat)(v:Value)(f:Nat->Value)(o:Oper)(ho:o.op=.load 51 (.tmp 4))(w:World)(hz:w.heap[zb]?=some (.cells (zB N) 51 (0,0))):(execOp (frB N cv pb zb v f).eval o).run prog w=.ok (.value (.agg (zB N))) w:=by
 have c0:w.cell? ⟨zb,0,none⟩=some (.int .u8 ((N%251:Nat):Int)):=by rw[aP w zb 0 (zB N) _ _ hz];rfl
 have c1:w.cell? ⟨zb,1,none⟩=some (.int .u8 ((N/251%251:Nat):Int)):=by rw[aP w zb 1 (zB N) _ _ hz];rfl
 have c2:w.cell? ⟨zb,2,none⟩=some (.int .u8 ((N/63001%251:Nat):Int)):=by rw[aP w zb 2 (zB N) _ _ hz];rfl
 have c3:w.cell? ⟨zb,3,none⟩=some (.int .u8 77):=by rw[aP w zb 3 (zB N) _ _ hz];rfl
 have e4:(frB N cv pb zb v f).eval (.tmp 4)=.pointer (some ⟨zb,0,none⟩):=rfl;unfold execOp;simp only[ho,e4]
 go_simp
 rfl
theorem YU(pb zb:Nat)(v:Value)(f:Nat->Value)(o:Oper)(ho:o.op=.buildSlice 44 1 #[(0,.tmp 16)])(w:World)(h16:f 16=.agg (zB N)):(execOp (frB N cv pb zb v f).eval o).run prog w=.ok (.value (.slice (some ⟨w.heap.size,0,none⟩) 1 1)) (w.alloc (.cells (zB N) 51)):=by
 have e4:(frB N cv pb zb v f).eval (.tmp 16)=.agg (zB N):=h16;unfold execOp;simp only[ho,cK,List.map_cons,List.map_nil,e4];unfold zB
 go_simp
theorem YV(pb zb:Nat)(v:Value)(f:Nat->Value)(o:Oper)(ho:o.op=.buildSlice 44 2 #[(0,.tmp 20),(1,.tmp 21)])(w:World)(h1:f 20=.agg (zB N))(h2:f 21=.agg (zB N)):(execOp (frB N cv pb zb v f).eval o).run prog w=.ok (.value (.slice (some ⟨w.heap.size,0,none⟩) 2 2)) (w.alloc (.cells ((zB N)++(zB N)) 51)):=by
 have e1:(frB N cv pb zb v f).eval (.tmp 20)=.agg (zB N):=h1;have e2:(frB N cv pb zb v f).eval (.tmp 21)=.agg (zB N):=h2;unfold execOp;simp only[ho,cK,List.map_cons,List.map_nil,e1,e2];unfold zB
 go_simp
theorem YX(pb zb:Nat)(v:Value)(f:Nat->Value)(o:Oper)(ho:o.op=.buildSlice 44 3 #[(0,.tmp 25),(1,.tmp 26),(2,.tmp 27)])(w:World)(h1:f 25=.agg (zB N))(h2:f 26=.agg (zB N))(h3:f 27=.agg (zB N)):(execOp (frB N cv pb zb v f).eval o).run prog w=.ok (.value (.slice (some ⟨w.heap.size,0,none⟩) 3 3)) (w.alloc (.cells ((zB N)++(zB N)++(zB N)) 51)):=by
 have e1:(frB N cv pb zb v f).eval (.tmp 25)=.agg (zB N):=h1;have e2:(frB N cv pb zb v f).eval (.tmp 26)=.agg (zB N):=h2;have e3:(frB N cv pb zb v f).eval (.tmp 27)=.agg (zB N):=h3;unfold execOp;simp only[ho,cK,List.map_cons,List.map_nil,e1,e2,e3];unfold zB
 go_simp
theorem YY(pb zb:Nat)(v:Value)(f:Nat->Value)(o:Oper)(ho:o.op=.buildSlice 111 4 #[(0,.tmp 14),(1,.tmp 18),(2,.tmp 23),(3,.tmp 29)])(w:World)(x0 x1 x2 x3:Option Addr)(n0 n1 n2 n3 c0 c1 c2 c3:Nat)(h0:f 14=.slice x0 n0 c0)(h1:f 18=.slice x1 n1 c1)(h2:f 23=.slice x2 n2 c2)(h3:f 29=.slice x3 n3 c3):(execOp (frB N cv pb zb v f).eval o).run prog w=.ok (.value (.slice (some ⟨w.heap.size,0,none⟩) 4 4)) (w.alloc (.cells #[.slice x0 n0 c0,.slice x1 n1 c1,.slice x2 n2 c2,.slice x3 n3 c3] 44)):=by
 have e0:(frB N cv pb zb v f).eval (.tmp 14)=.slice x0 n0 c0:=h0;have e1:(frB N cv pb zb v f).eval (.tmp 18)=.slice x1 n1 c1:=h1;have e2:(frB N cv pb zb v f).eval (.tmp 23)=.slice x2 n2 c2:=h2;have e3:(frB N cv pb zb v f).eval (.tmp 29)=.slice x3 n3 c3:=h3;unfold execOp;simp only[ho,cK,List.map_cons,List.map_nil,e0,e1,e2,e3]
 go_simp
theorem OB(a:Act)(o:Oper)(s x:Operand)(ho:o.op=.call {callee:=.builtin .append,args:=#[s,x],argTypes:=#[44,44] })(w w':World)(y z r:Value)(h1:a.eval s=y)(h2:a.eval x=z)(hr:(Builtin.append_ #[44,44] o.type #[y,z]).run prog w=.ok r w'):(execOp a.eval o).run prog w=.ok (.value r) w':=by
 unfold execOp;simp only[ho,resolve,invoke,builtin,Sem.run_bind,Sem.run_pure,Result.andThen_ok,cK,List.map_cons,List.map_nil,h1,h2,hr]
end Go.Proofs.YtofinpocigbbeaaGreat
