import Derived.Test.YtofinpocigbbeaaGreatKat
set_option maxHeartbeats 2000000
set_option maxRecDepth 100000
set_option linter.unusedSimpArgs false
namespace Go.Proofs.YtofinpocigbbeaaGreat
open Go.Proofs.Tryz Go.RowKit
attribute [local go_sem ↓] Go.wp_at_zero Go.wp_at_succ
variable{S:Nat->Prop}{bv:Value}{c:Nat}{st:St}
theorem P7(l:List R4):pxL (fun k=>l.getD k (0,0,0,0)) l.length=l:=by
 refine List.ext_getElem (by rw[B9]) fun k h1 h2=>?_;simp[pxL,bu,aU h2]
theorem Oe{w w2:World}{ov:Value}{F:Nat->Nat->Value}{g cap i n:Nat}{a:Option Addr}{vc:Nat}{l:List R4}{W H:Int}{f:Nat->R4}(hb:uj w w2)(hr:B3 w2 S c st.w st.h st.sfs.length st.order bv (sj g st.sfs.length cap) ov F)(hs:C9 w2 S st F)(hi:i<st.sfs.length)(hn:(n:Int)=W*H)(hv:w2.ownsRow w.heap.size 51 4 (.slice a n vc) n (Aq l))(hlf:pxL f n=l):
  Br S c bv (0,upd st i (IF W H f)) w (.returned (vj 0)) (((w2.setCell (jA g (i*28+13)) (vj W)).setCell (jA g (i*28+14)) (vj H)).setCell (jA g (i*28+15)) (.slice a n vc)):=by
 obtain⟨e2,cur,hcur⟩:=hr.gType;have hr2:=((hr.set hi (show 13<28 by omega) (vj W)).set hi (show 14<28 by omega) (vj H)).set hi (show 15<28 by omega) (.slice a n vc);have hpk:=BB (j:=i*28+15) (u:=.slice a n vc) hcur (BB (j:=i*28+14) (u:=vj H) hcur (BB (j:=i*28+13) (u:=vj W) hcur (w':=w2) fun _ _ _ _ _=>rfl));have q:=hs.rel i hi;have hz:=hb.size;have hsz:(((w2.setCell (jA g (i*28+13)) (vj W)).setCell (jA g (i*28+14)) (vj H)).setCell (jA g (i*28+15)) (.slice a n vc)).heap.size=w2.heap.size:=by simp
 have hS:∀b,S b->AA S w (((w2.setCell (jA g (i*28+13)) (vj W)).setCell (jA g (i*28+14)) (vj H)).setCell (jA g (i*28+15)) (.slice a n vc)) b:=fun _ h=>AI h;refine⟨rfl,Aw.of_upd (hr2.mono hS) hi hs (fun j hj=>by simp only[D7 _ _ _ _ hj]) hS hpk ?_ ?_,?_⟩
 ·simp only[Bx];exact⟨q.alive,q.parent,q.nw,q.nh,q.nx,q.ny,q.ncut,q.n0,q.n1,q.n2,q.n3,q.nhint,rfl,rfl,q.xx,q.xy,q.xcut,q.x0,q.x1,q.x2,q.x3,q.xhint,q.ask,q.sib,q.above,q.kept⟩
 ·simp only[Bx];have hd:=((hs.dat i hi).mono hS).other hpk;have hp:AC w2 (AA S w (((w2.setCell (jA g (i*28+13)) (vj W)).setCell (jA g (i*28+14)) (vj H)).setCell (jA g (i*28+15)) (.slice a n vc))) (.slice a n vc) (W*H) f:=
   ⟨n,hn,⟨by rw[hlf];exact⟨hv.1,hv.2.imp (fun h=>h) fun⟨g,c,cur,e1,_,e3⟩=>⟨g,c,cur,e1,cB _,e3⟩⟩,fun b hb2=>.inr ⟨(hv.lt b hb2).1,by rw[hsz];exact(hv.lt b hb2).2⟩⟩⟩
  exact⟨hd.pixN,hp.other fun b cur=>hpk b cur _ (.inl rfl),hd.hinN,hd.hinX,hd.kept⟩
 ·have h0:Ac S w w2:=Ac.below hb;exact((h0.set (.inl e2) _).set (.inl e2) _).set (.inl e2) _
theorem Mf(hw:Wf st)(id W H:Int)(l:List R4)(v:Value)(w:World)(h:Aw w S c st bv)(hl:Bb w v l)(hlen:l.length<=maxLen):
  Calls prog 143 #[pj c,vj id,vj W,vj H,v] w (Br S c bv (BJ st id W H l.length (l.all Ef) (fun k=>l.getD k (0,0,0,0))) w):=by
 obtain⟨i0,hi0,hz0,hz1,hz2⟩:=cW Ed;have hIs:=D6 (S:=S) (c:=c) (st:=st) (bv:=bv) id w h hw.made;have hB:=AV hw id;have HE:=Aa (fun er W (hW:uj w W)=>Br.same (er:=er) h hW);have HL:=Aa hl;unfold BJ;obtain⟨t,ht⟩:∃t,st.isB id=t:=⟨_,rfl⟩;rw[ht]at hIs hB ⊢;clear ht;obtain⟨va,vc,hv,_⟩:=hl;obtain⟨n,hn⟩:∃n,l.length=n:=⟨_,rfl⟩;rw[hn]at hv hlen;rw[hn];subst hv;have HN:=Aa hn;unfold maxLen at hlen;have HI:=Aa hIs;clear hIs hn;cases t with
 |false=>
  rw[if_neg (by simp)];clear hB h;go_enter func143,ntmps143
  go_wp2_with(go_at_call 127;refine HI.out.mono ?_;rintro e w' ⟨rfl,hw'⟩;replace hw':=hw'.symm;subst hw')
  go_ret;exact HE.out 6 _ (aN _ _)
 |true=>
  rw[if_pos rfl];obtain⟨i,rfl,hio⟩:=hB.1 rfl;have hil:=hw.lt hio;rw[aX];by_cases hsz:0<=W/\W<=24/\0<=H/\H<=24
  ·rw[if_pos hsz];obtain⟨hW0,hW1,hH0,hH1⟩:=hsz;have hWH:0<=W*H/\W*H<=24*24:=⟨Int.mul_nonneg hW0 hH0,Int.mul_le_mul hW1 hH1 hH0 (by omega)⟩;have w1:IntKind.i64.wrap (W*H)=W*H:=by rw[bB];omega
   obtain⟨WH,hWHe⟩:∃z,W*H=z:=⟨_,rfl⟩;rw[hWHe]at w1 hWH ⊢;by_cases hnn:(n:Int)=WH
   ·subst hnn;have w2:((n:Int) != wrap64 (W*H))=false:=by
     have e:wrap64 (W*H)=(n:Int):=by rw[hWHe];unfold wrap64;omega
     rw[e];simp
    obtain⟨sv,ov,F,hr,hs⟩:=h;obtain⟨g,cap,e1,e2,e3,e4,e5,e6⟩:=hr.at (by omega);subst e1;obtain⟨_,cur,hcur⟩:=hr.gType;have hne:¬c=g:=Aj hr.scr hcur (by decide);have hne2:g≠c:=fun e=>hne e.symm;have hcl:=(aM.1 hr.scr).1;have HR:=Aa (aK hr (aK hs hil));have HWH:=Aa hWHe;have hmd:=hw.made;obtain⟨nS,hnS⟩:∃x,st.sfs.length=x:=⟨_,rfl⟩;have HC:Hid (∀W',uj w W'->W'.cell? (jA c 3)=some (sj g nS cap)/\(∀o,o<28->W'.cell? (jA g (i*28+o))=some (F i o))/\∀j,W'.frozen? (jA g j)=false):=fun W' hW=>by
     have r2:=hr.below hW;obtain⟨k0,k1,k2,k3,k4,kf,kl⟩:=r2.cells;obtain⟨g',cap',q1,q2,q3,q4,q5,q6⟩:=r2.at (by omega);injection q1 with q11 q12 q13;injection q11 with q11;injection q11 with q11;subst q11;rw[hnS]at k3;exact⟨k3,fun o ho=>q5 i hil o ho,q6⟩
    rw[hnS]at e3 hmd;have hin:i<nS:=by omega
    have hicap:i<cap:=by omega
    have hn576:n<=576:=by omega
    have HIf:Hid (∀e w',(l.all Ef=true->Br S c bv (0,upd st i (IF W H (fun k=>l.getD k (0,0,0,0)))) w e w')->(l.all Ef=false->Br S c bv (4,st) w e w')->Br S c bv (if(n:Int)=(n:Int)/\l.all Ef=true then(0,upd st i (IF W H (fun k=>l.getD k (0,0,0,0))))else(4,st)) w e w'):=fun e w' h1 h2=>by
     cases hb:l.all Ef with
     |true=>rw[if_pos ⟨rfl,rfl⟩];exact h1 hb
     |false=>rw[if_neg (by simp)];exact h2 hb
    obtain⟨post,hpost⟩:∃P,P=Br S c bv (if(n:Int)=(n:Int)/\l.all Ef=true then(0,upd st i (IF W H (fun k=>l.getD k (0,0,0,0))))else(4,st)) w:=⟨_,rfl⟩;rw[<-hpost]at HIf ⊢;clear hr hs e5 e6 hcur hB hnS hpost hWHe hil;go_enter func143,ntmps143
    go_wp2_with(go_at_call 127;refine HI.out.mono ?_;rintro e w' ⟨rfl,hw'⟩;replace hw':=hw'.symm;subst hw')
    go_loopg [12,13] n (fun gg s12 s13 wr=>∃k:Nat,s13=vj k/\gg+k=n/\wr.ownsRow w.heap.size 51 4 s12 k (Aq (l.take k))/\(∀r∈l.take k,Ef r=true)/\uj w wr)
    case atStart=>exact⟨0,rfl,by omega,bA _ _ _ _,fun r hr=>by simp at hr,aN _ _⟩
    case round=>
     rename World=>wr;obtain⟨k,rfl,hgk,hown,hfit,hbel⟩:=hrel;obtain⟨ra,rc,hrf⟩:=Al hown;subst hrf;have hsz9:=hbel.size;have HO:=Aa (aK hown (aK hfit hbel));cases gk with
     |zero=>
      have hlt:¬(k:Int)<(n:Int):=by omega
      have hkn:k=n:=by omega
      subst hkn;obtain⟨y3,yc,yf⟩:=HC.out wr hbel;have c13:=yc 13 (by omega);have c14:=yc 14 (by omega);have c15:=yc 15 (by omega);have f13:=yf (i*28+13);have f14:=yf (i*28+14);have f15:=yf (i*28+15);clear yc yf hown hfit hbel;go_wp2
      try go_ret
      refine HIf.out _ _ (fun _=>?_) (fun hno=>?_)
      ·have hfull:l.take k=l:=bw (by have:=HN.out;omega);have ho:=HO.out.1;rw[hfull]at ho;exact Oe HO.out.2.2 (HR.out.1.below HO.out.2.2) (HR.out.2.1.below HO.out.2.2) HR.out.2.2 HWH.out.symm ho (by rw[<-HN.out];exact P7 l)
      ·exfalso;have hfull:l.take k=l:=bw (by have:=HN.out;omega);have ho:=HO.out.2.1;rw[hfull]at ho;rw[cG.2 ho]at hno;cases hno
     |succ gk=>
      have hlt:(k:Int)<(n:Int):=by omega
      have hkL:k<l.length:=by have:=HN.out;omega
      obtain⟨xa,xc,hxv,hx⟩:=HL.out.below hbel;injection hxv with hx1 hx2 hx3;subst hx1 hx3;obtain⟨hlc,b,off,rfl,hcs⟩:=hx (by omega);rw[HN.out]at hlc;obtain⟨c1,c2,c3,c4⟩:=hcs k hkL;obtain⟨⟨p0,p1,p2,p3⟩,hp⟩:∃p,l[k]=p:=⟨_,rfl⟩;rw[hp]at c1 c2 c3 c4;simp only at c1 c2 c3 c4;have hFt:=ID p0 p1 p2 p3;obtain⟨t,ht⟩:∃t,FU p0 p1 p2 p3=t:=⟨_,rfl⟩;rw[ht]at hFt;have HFt:=Aa hFt;have hbl:=Ak c1;have hkc:k<vc:=by omega
      have HP:=Aa (aK hp (aK ht hkL));clear hown hfit hbel hcs hx hp ht hFt hx2;cases t with
      |false=>
       go_wp2_with(go_at_call 177;refine(HFt.out _).mono ?_;rintro e w5 ⟨rfl,he5⟩;have HB5:=Aa he5;clear he5)
       try go_ret
       refine HIf.out _ _ (fun hyes=>?_) (fun _=>?_)
       ·exfalso;have h9:=cG.1 hyes _ (aZ HP.out.2.2);rw[HP.out.1]at h9;have h8:FU p0 p1 p2 p3=true:=h9;rw[HP.out.2.1]at h8;cases h8
       ·exact HE.out 4 _ (by rw[HB5.out];exact HO.out.2.2.alloc hsz9 _)
      |true=>
       go_wp2_with(first
        |(go_at_call 177;refine(HFt.out _).mono ?_;rintro e w5 ⟨rfl,he5⟩;have hbl5:b<w5.heap.size:=(by rw[he5];simp;omega);have hs5:w.heap.size<=w5.heap.size:=(by rw[he5];simp;omega);have d1:=(congrArg (fun W=>World.cell? W (jA b (off+k*4))) he5).trans ((BI wr _ b (off+k*4) hbl).trans c1);have d2:=(congrArg (fun W=>World.cell? W (jA b (off+k*4+1))) he5).trans ((BI wr _ b (off+k*4+1) hbl).trans c2);have d3:=(congrArg (fun W=>World.cell? W (jA b (off+k*4+2))) he5).trans ((BI wr _ b (off+k*4+2) hbl).trans c3);have d4:=(congrArg (fun W=>World.cell? W (jA b (off+k*4+3))) he5).trans ((BI wr _ b (off+k*4+3) hbl).trans c4);have HB5:=Aa he5;clear he5)
        |(at_builtin;refine Am (P:=prog) rfl (.tmp 54) (.tmp 59) 44 rfl w.heap.size 51 i0 _ 4 4 underlying44 hi0 hz0 hz1 hz2 rfl (by decide) (.slice ra k rc) k (Aq (l.take k)) rfl (by have h9:=HO.out.1.alloc (.cells #[.int .u8 p0,.int .u8 p1,.int .u8 p2,.int .u8 p3] 51);rw[<-HB5.out]at h9;exact h9.alloc _) (sj w5.heap.size 1 1) 1 [.int .u8 p0,.int .u8 p1,.int .u8 p2,.int .u8 p3] rfl rfl (.inr ⟨_,_,rfl,bI (cs:=#[.int .u8 p0,.int .u8 p1,.int .u8 p2,.int .u8 p3]) (t:=51) (fr:=(0,0)) (aR w5 _)⟩) (by simp[Value.oneCell']) (by unfold maxLen;omega) (by omega) (by simp;omega) ?_;intro v6 w6 ho6 hg6 hn6 ha6;have HB6:=Aa (((by rw[HB5.out];exact HO.out.2.2.alloc hsz9 _:uj w w5).alloc hs5 _).grown hg6 (by simp;omega) (fun k hk=>(HO.out.1.lt k hk).1));have HO6:=Aa ho6;clear ho6 hg6 hn6 ha6))
       go_roundg gk
       case measure=>omega
       case rel=>
        have hkL:=HP.out.2.2;have e9:l.take (k+1)=l.take k++[(p0,p1,p2,p3)]:=by rw[bn hkL,HP.out.1]
        refine⟨k+1,by go_num,by omega,?_,fun r hr=>?_,HB6.out⟩
        ·rw[e9,D5];exact HO6.out
        ·rw[e9,bV,List.mem_singleton]at hr;rcases hr with hr|rfl
         ·exact HO.out.2.1 r hr
         ·exact HP.out.2.1
   ·rw[if_neg (fun hh=>hnn hh.1)];clear hB h;go_enter func143,ntmps143
    go_wp2_with(go_at_call 127;refine HI.out.mono ?_;rintro e w' ⟨rfl,hw'⟩;replace hw':=hw'.symm;subst hw')
    all_goals
     go_ret;exact HE.out 4 _ (aN _ _)
  ·rw[if_neg hsz];clear hB h;have HS:=Aa hsz;have hcs:W<0\/(0<=W/\24<W)\/(0<=W/\W<=24/\H<0)\/(0<=W/\W<=24/\0<=H/\24<H):=by omega
   clear hsz;rcases hcs with h1|⟨h1,h2⟩|⟨h1,h2,h3⟩|⟨h1,h2,h3,h4⟩;all_goals
    go_enter func143,ntmps143
    go_wp2_with(go_at_call 127;refine HI.out.mono ?_;rintro e w' ⟨rfl,hw'⟩;replace hw':=hw'.symm;subst hw')
    go_ret;exact HE.out 5 _ (aN _ _)
variable{w:World}
theorem FP{P:Program}{ops:Array Oper}{o:Oper}{a:Act}{K:Act->World->Prop}{Q:Exit->Act->World->Prop}{E:Prop}(hgd:o.guard=none)(s x:Operand)(t:TypeId)
  (ho:o.op=.call {callee:=.builtin .append,args:=#[s,x],argTypes:=#[t,t] })
  (base:Nat) (e:TypeId) (i:TypeInfo) (z:Value) (size bytes:Nat) (ht:P.underlying t=some (.slice e)) (hi:P.info? e=some i) (hz:i.zero=some z)
  (hsize:i.size=size) (hby:i.bytes=bytes) (hzs:z.cells.size=size) (hsz:0<size)
  (v:Value) (n:Nat) (xs:List Value) (hs:a.eval s=v) (hown:w.ownsRow base e size v n xs)
  (vx:Value) (m:Nat) (news:List Value) (hx:a.eval x=vx) (hl:news.length=m*size) (hvx:(vx=jj/\m=0)\/∃ad c,vx=.slice (some ad) m c/\∀j u,news[j]?=some u->w.cell? (ad.add j)=some u) (h1:∀u∈news,u.oneCell'=true)
  (h63:n+m<=maxLen) (hbytes:(n+m)*bytes<=140737488355328) (hbase:base<=w.heap.size)
  (h:∀ra rc w',w'.ownsRow base e size (.slice ra (n+m) rc) (n+m) (xs++news)->w.grownBy w' v.ownBlock->K (a.put o.dst (.slice ra (n+m) rc)) w'):
  if Region.wanted o (yielded ops a.tmps)=true then Oper.wp P o a w K Q else E:=by
 have hw:Region.wanted o (yielded ops a.tmps)=true:=by simp[Region.wanted,hgd]
 rw[if_pos hw];rcases hvx with⟨hv,hm⟩|⟨ad,c,hv,hnews⟩
 ·subst hv hm;have hr:=run_append_owned_none (P:=P) (w:=w) base t o.type e i size ht hi v n xs hown;unfold Oper.wp execOp;simp only[ho,resolve,invoke,builtin,Sem.run_bind,Sem.run_pure,Result.andThen_ok,cK,List.map_cons,List.map_nil,hs,hx,hr];have hn0:news=[]:=List.length_eq_zero_iff.mp (by rw[hl,Nat.zero_mul]);subst hn0;obtain⟨ra,rc,hf⟩:=Al hown;subst hf;exact h ra rc w (by rw[List.append_nil,Nat.add_zero];exact hown) ⟨rfl,rfl,rfl,aO _,fun _ _ _=>rfl⟩
 ·obtain⟨v',w',hr,h2,h3,h4,h5⟩:=run_append_own_at (P:=P) w base t o.type e i z size bytes ht hi hz hsize hby hzs hsz v n xs hown ad m c news hl hnews h1 h63 hbytes hbase;unfold Oper.wp execOp;simp only[ho,resolve,invoke,builtin,Sem.run_bind,Sem.run_pure,Result.andThen_ok,cK,List.map_cons,List.map_nil,hs,hx.trans hv,hr];obtain⟨ra,rc,hf⟩:=Al h2;subst hf;exact h ra rc w' h2 h3
theorem RU{w2:World}{ov:Value}{F:Nat->Nat->Value}{g cap i:Nat}{a:Option Addr}{vc:Nat}{l:List R4}(hb:uj w w2)(hr:B3 w2 S c st.w st.h st.sfs.length st.order bv (sj g st.sfs.length cap) ov F)(hs:C9 w2 S st F)(hi:i<st.sfs.length)(hl:l.length<=20)(hv:w2.ownsRow w.heap.size 53 4 (.slice a l.length vc) l.length (Ae l)):
  Br S c bv (0,upd st i (Jn (AE l))) w (.returned (vj 0)) (w2.setCell (jA g (i*28+23)) (.slice a l.length vc)):=by
 obtain⟨e2,cur,hcur⟩:=hr.gType;have hr2:=hr.set hi (show 23<28 by omega) (.slice a l.length vc);have hpk:=BB (j:=i*28+23) (u:=.slice a l.length vc) hcur (w':=w2) fun _ _ _ _ _=>rfl;have q:=hs.rel i hi;have hz:=hb.size;have hsz:(w2.setCell (jA g (i*28+23)) (.slice a l.length vc)).heap.size=w2.heap.size:=by simp
 have hS:∀b,S b->AA S w (w2.setCell (jA g (i*28+23)) (.slice a l.length vc)) b:=fun _ h=>AI h;refine⟨rfl,Aw.of_upd (hr2.mono hS) hi hs (fun j hj=>by simp only[D7 _ _ _ _ hj]) hS hpk ?_ ?_,?_⟩
 ·simp only[Bx];exact⟨q.alive,q.parent,q.nw,q.nh,q.nx,q.ny,q.ncut,q.n0,q.n1,q.n2,q.n3,q.nhint,q.xw,q.xh,q.xx,q.xy,q.xcut,q.x0,q.x1,q.x2,q.x3,⟨_,_,_,rfl⟩,q.ask,q.sib,q.above,q.kept⟩
 ·simp only[Bx];have hd:=((hs.dat i hi).mono hS).other hpk;have hp:Bg w2 (AA S w (w2.setCell (jA g (i*28+23)) (.slice a l.length vc))) (.slice a l.length vc) (AE l):=
   ⟨l,⟨⟨hv.1,hv.2.imp (fun h=>h) fun⟨g,c,cur,e1,_,e3⟩=>⟨g,c,cur,e1,cB _,e3⟩⟩,fun b hb2=>.inr ⟨(hv.lt b hb2).1,by rw[hsz];exact(hv.lt b hb2).2⟩⟩,hl,fun _ _=>rfl⟩
  exact⟨hd.pixN,hd.pixX,hd.hinN,hp.other fun b cur=>hpk b cur _ (.inr (.inl rfl)),hd.kept⟩
 ·exact(Ac.below hb).set (.inl e2) _
theorem Mi(hw:Wf st)(id:Int)(l:List R4)(v:Value)(w:World)(h:Aw w S c st bv)(hl:As w v l)(hlen:l.length<=maxLen)(hnl:l=[]->v=jj\/∃ad c,v=.slice (some ad) 0 c):
  Calls prog 147 #[pj c,vj id,v] w (Br S c bv (BV st id l.length (l.all AU) (AE l)) w):=by
 obtain⟨i0,hi0,hz0,hz1,hz2⟩:=cW C8;have hIs:=D6 (S:=S) (c:=c) (st:=st) (bv:=bv) id w h hw.made;have hAll:=Er l v w hl hlen;have hB:=AV hw id;have HE:=Aa (fun er W (hW:uj w W)=>Br.same (er:=er) h hW);have HNews:=Aa (fun W (hW:uj w W)=>DL (hl.below hW) hnl);unfold BV;obtain⟨t,ht⟩:∃t,st.isB id=t:=⟨_,rfl⟩;rw[ht]at hIs hB ⊢;clear ht;obtain⟨va,vc,hv⟩:=hl.form;obtain⟨n,hn⟩:∃n,l.length=n:=⟨_,rfl⟩;rw[hn]at hv hlen;rw[hn];subst hv;have HN:=Aa hn;have HNw:Hid (∀W,uj w W->(Value.slice va n vc=jj/\n=0)\/∃ad c,Value.slice va n vc=.slice (some ad) n c/\∀j u,(Ae l)[j]?=some u->W.cell? (ad.add j)=some u):=fun W hW=>by
  have:=HNews.out W hW;rw[hn]at this;exact this
 unfold maxLen at hlen;have HI:=Aa hIs;clear hIs hn hl hnl;cases t with
 |false=>
  rw[if_neg (by simp)];clear hB h;go_enter func147,ntmps147
  go_wp2_with(go_at_call 127;refine HI.out.mono ?_;rintro e w' ⟨rfl,hw'⟩;replace hw':=hw'.symm;subst hw')
  go_ret;exact HE.out 6 _ (aN _ _)
 |true=>
  rw[if_pos rfl];obtain⟨i,rfl,hio⟩:=hB.1 rfl;have hil:=hw.lt hio;rw[aX];by_cases h20:20<n
  ·rw[if_pos h20];clear hB h;have h20':(20:Int)<(n:Int):=by omega
   go_enter func147,ntmps147
   go_wp2_with(go_at_call 127;refine HI.out.mono ?_;rintro e w' ⟨rfl,hw'⟩;replace hw':=hw'.symm;subst hw')
   go_ret;exact HE.out 2 _ (aN _ _)
  ·rw[if_neg h20];have h20':¬(20:Int)<(n:Int):=by omega
   obtain⟨p,hp⟩:∃p,l.all AU=p:=⟨_,rfl⟩;rw[hp]at hAll ⊢;have HAll:=Aa hAll;clear hAll;cases p with
   |false=>
    rw[if_neg (by simp)];simp only[Bool.false_eq_true,if_false]at HAll;clear hB h hp;go_enter func147,ntmps147
    go_wp2_with(first
     |(go_at_call 127;refine HI.out.mono ?_;rintro e w' ⟨rfl,hw'⟩;replace hw':=hw'.symm;subst hw')
     |(go_at_call 120;refine HAll.out.mono ?_;rintro e w2 ⟨rfl,hw2⟩;have HB2:=Aa hw2;clear hw2))
    go_ret;exact HE.out 3 _ HB2.out
   |true=>
    rw[if_pos rfl];simp only[if_true]at HAll;obtain⟨sv,ov,F,hr,hs⟩:=h;obtain⟨g,cap,e1,e2,e3,e4,e5,e6⟩:=hr.at (by omega);subst e1;obtain⟨_,cur,hcur⟩:=hr.gType;have hne:¬c=g:=Aj hr.scr hcur (by decide);have hne2:g≠c:=fun e=>hne e.symm;have hcl:=(aM.1 hr.scr).1;have HR:=Aa (aK hr (aK hs hil));have hmd:=hw.made;obtain⟨nS,hnS⟩:∃x,st.sfs.length=x:=⟨_,rfl⟩;have HC:Hid (∀W',uj w W'->W'.cell? (jA c 3)=some (sj g nS cap)/\(∀o,o<28->W'.cell? (jA g (i*28+o))=some (F i o))/\∀j,W'.frozen? (jA g j)=false):=fun W' hW=>by
     have r2:=hr.below hW;obtain⟨k0,k1,k2,k3,k4,kf,kl⟩:=r2.cells;obtain⟨g',cap',q1,q2,q3,q4,q5,q6⟩:=r2.at (by omega);injection q1 with q11 q12 q13;injection q11 with q11;injection q11 with q11;subst q11;rw[hnS]at k3;exact⟨k3,fun o ho=>q5 i hil o ho,q6⟩
    rw[hnS]at e3 hmd;have hin:i<nS:=by omega
    have hicap:i<cap:=by omega
    have HOk:Hid (∀w2 a vc,uj w w2->w2.ownsRow w.heap.size 53 4 (.slice a n vc) n (Ae l)->Br S c bv (0,upd st i (Jn (AE l))) w (.returned (vj 0)) (w2.setCell (jA g (i*28+23)) (.slice a n vc))):=fun w2 a vc hb ho=>by
     have hnn:=HN.out;subst hnn;exact RU hb (HR.out.1.below hb) (HR.out.2.1.below hb) hil (by omega) ho
    obtain⟨post,hpost⟩:∃P,P=Br S c bv (0,upd st i (Jn (AE l))) w:=⟨_,rfl⟩;rw[<-hpost]at HOk ⊢;clear hr hs e5 e6 hcur hB hnS hpost hil hp;go_enter func147,ntmps147
    go_upto_region 10 with(first
     |(go_at_call 127;refine HI.out.mono ?_;rintro e w' ⟨rfl,hw'⟩;replace hw':=hw'.symm;subst hw')
     |(go_at_call 120;refine HAll.out.mono ?_;rintro e w2 ⟨rfl,hw2⟩;obtain⟨y3,yc,yf⟩:=HC.out w2 hw2;have c23:=yc 23 (by omega);have f23:=yf (i*28+23);have hs2:=hw2.size;have HB2:=Aa hw2;clear hw2 yc yf))
    go_region_law (refine FP (by rfl) (.tmp 28) (.tmp 29) 33 (by rfl) w.heap.size 53 i0 _ 4 32 underlying33 hi0 hz0 hz1 hz2 rfl (by decide) (jj) 0 [] (by rfl) (bA _ _ _ _) (.slice va n vc) n (Ae l) (by rfl) (by rw[AT,HN.out]) (HNw.out _ HB2.out.drew) (BK l) (by unfold maxLen;omega) (by omega) (by show w.heap.size<=w2.heap.size;omega) ?_;intro ra rc w3 ho3 hg3;have hb3:=HB2.out.drew.grown hg3 (by show w.heap.size<=w2.heap.size;omega) (fun k hk=>by simp[Value.ownBlock]at hk);obtain⟨y3,yc,yf⟩:=HC.out w3 hb3;have c23:=yc 23 (by omega);have f23:=yf (i*28+23);rw[Nat.zero_add,List.nil_append]at ho3;have HB3:=Aa (aK hb3 ho3);clear hb3 ho3 hg3 yc yf)
    all_goals go_wp2
    all_goals(try go_ret)
    all_goals exact HOk.out _ _ _ HB3.out.1 HB3.out.2
end Go.Proofs.YtofinpocigbbeaaGreat
