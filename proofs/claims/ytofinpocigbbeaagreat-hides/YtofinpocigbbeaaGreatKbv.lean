import Derived.Test.YtofinpocigbbeaaGreatKbu
set_option maxHeartbeats 2000000
set_option maxRecDepth 100000
set_option linter.unusedSimpArgs false
namespace Go.Proofs.YtofinpocigbbeaaGreat
open Go.Proofs.Tryz Go.RowKit
attribute [local go_sem ↓] Go.wp_at_zero Go.wp_at_succ
variable{S:Nat->Prop}{bv:Value}{c:Nat}{st:St}{w:World}
theorem FP{P:Program}{ops:Array Oper}{o:Oper}{a:Act}{K:Act->World->Prop}{Q:Exit->Act->World->Prop}{E:Prop}(hgd:o.guard=none)(s x:Operand)(t:TypeId)
  (ho:o.op=.call {callee:=.builtin .append,args:=#[s,x],argTypes:=#[t,t] })
  (base:Nat) (e:TypeId) (i:TypeInfo) (z:Value) (size bytes:Nat) (ht:P.underlying t=some (.slice e)) (hi:P.info? e=some i) (hz:i.zero=some z)
  (hsize:i.size=size) (hby:i.bytes=bytes) (hzs:z.cells.size=size) (hsz:0<size)
  (v:Value) (n:Nat) (xs:List Value) (hs:a.eval s=v) (hown:w.ownsRow base e size v n xs)
  (vx:Value) (m:Nat) (news:List Value) (hx:a.eval x=vx) (hl:news.length=m*size) (hvx:(vx=.slice none 0 0/\m=0)\/∃ad c,vx=.slice (some ad) m c/\∀j u,news[j]?=some u->w.cell? (ad.add j)=some u) (h1:∀u∈news,u.oneCell'=true)
  (h63:n+m<=maxLen) (hbytes:(n+m)*bytes<=140737488355328) (hbase:base<=w.heap.size)
  (h:∀ra rc w',w'.ownsRow base e size (.slice ra (n+m) rc) (n+m) (xs++news)->w.grownBy w' v.ownBlock->K (a.put o.dst (.slice ra (n+m) rc)) w'):
  if Region.wanted o (yielded ops a.tmps)=true then Oper.wp P o a w K Q else E:=by
 have hw:Region.wanted o (yielded ops a.tmps)=true:=by simp[Region.wanted,hgd]
 rw[if_pos hw];rcases hvx with⟨hv,hm⟩|⟨ad,c,hv,hnews⟩
 ·subst hv hm;have hr:=run_append_owned_none (P:=P) (w:=w) base t o.type e i size ht hi v n xs hown;unfold Oper.wp execOp;simp only[ho,resolve,invoke,builtin,Sem.run_bind,Sem.run_pure,Result.andThen_ok,cK,List.map_cons,List.map_nil,hs,hx,hr];have hn0:news=[]:=List.length_eq_zero_iff.mp (by rw[hl,Nat.zero_mul]);subst hn0;obtain⟨ra,rc,hf⟩:=Al hown;subst hf;exact h ra rc w (by rw[List.append_nil,Nat.add_zero];exact hown) ⟨rfl,rfl,rfl,aO _,fun _ _ _=>rfl⟩
 ·obtain⟨v',w',hr,h2,h3,h4,h5⟩:=run_append_own_at (P:=P) w base t o.type e i z size bytes ht hi hz hsize hby hzs hsz v n xs hown ad m c news hl hnews h1 h63 hbytes hbase;unfold Oper.wp execOp;simp only[ho,resolve,invoke,builtin,Sem.run_bind,Sem.run_pure,Result.andThen_ok,cK,List.map_cons,List.map_nil,hs,hx.trans hv,hr];obtain⟨ra,rc,hf⟩:=Al h2;subst hf;exact h ra rc w' h2 h3
theorem RU{w2:World}{ov:Value}{F:Nat->Nat->Value}{g cap i:Nat}{a:Option Addr}{vc:Nat}{l:List R4}(hb:Below w.heap.size w w2)(hr:B3 w2 S c st.w st.h st.sfs.length st.order bv (.slice (some ⟨g,0,none⟩) st.sfs.length cap) ov F)(hs:C9 w2 S st F)(hi:i<st.sfs.length)(hl:l.length<=20)(hv:w2.ownsRow w.heap.size 53 4 (.slice a l.length vc) l.length (Ae l)):
  Br S c bv (0,upd st i (Jn (AE l))) w (.returned (.int .i64 0)) (w2.setCell ⟨g,i*28+23,none⟩ (.slice a l.length vc)):=by
 obtain⟨e2,cur,hcur⟩:=hr.gType;have hr2:=hr.set hi (show 23<28 by omega) (.slice a l.length vc);have hpk:=BB (j:=i*28+23) (u:=.slice a l.length vc) hcur (w':=w2) fun _ _ _ _ _=>rfl;have q:=hs.rel i hi;have hz:=hb.size;have hsz:(w2.setCell ⟨g,i*28+23,none⟩ (.slice a l.length vc)).heap.size=w2.heap.size:=by simp
 have hS:∀b,S b->AA S w (w2.setCell ⟨g,i*28+23,none⟩ (.slice a l.length vc)) b:=fun _ h=>AI h;refine⟨rfl,Aw.of_upd (hr2.mono hS) hi hs (fun j hj=>by simp only[D7 _ _ _ _ hj]) hS hpk ?_ ?_,?_⟩
 ·simp only[Bx];exact⟨q.alive,q.parent,q.nw,q.nh,q.nx,q.ny,q.ncut,q.n0,q.n1,q.n2,q.n3,q.nhint,q.xw,q.xh,q.xx,q.xy,q.xcut,q.x0,q.x1,q.x2,q.x3,⟨_,_,_,rfl⟩,q.ask,q.sib,q.above,q.kept⟩
 ·simp only[Bx];have hd:=((hs.dat i hi).mono hS).other hpk;have hp:Bg w2 (AA S w (w2.setCell ⟨g,i*28+23,none⟩ (.slice a l.length vc))) (.slice a l.length vc) (AE l):=
   ⟨l,⟨⟨hv.1,hv.2.imp (fun h=>h) fun⟨g,c,cur,e1,_,e3⟩=>⟨g,c,cur,e1,cB _,e3⟩⟩,fun b hb2=>.inr ⟨(hv.lt b hb2).1,by rw[hsz];exact(hv.lt b hb2).2⟩⟩,hl,fun _ _=>rfl⟩
  exact⟨hd.pixN,hd.pixX,hd.hinN,hp.other fun b cur=>hpk b cur _ (.inr (.inl rfl)),hd.kept⟩
 ·exact(Ac.below hb).set (.inl e2) _
theorem Mi(hw:Wf st)(id:Int)(l:List R4)(v:Value)(w:World)(h:Aw w S c st bv)(hl:As w v l)(hlen:l.length<=maxLen)(hnl:l=[]->v=.slice none 0 0\/∃ad c,v=.slice (some ad) 0 c):
  Calls prog 147 #[.pointer (some ⟨c,0,none⟩),.int .i64 id,v] w (Br S c bv (BV st id l.length (l.all AU) (AE l)) w):=by
 obtain⟨i0,hi0,hz0,hz1,hz2⟩:=cW C8;have hIs:=D6 (S:=S) (c:=c) (st:=st) (bv:=bv) id w h hw.made;have hAll:=Er l v w hl hlen;have hB:=AV hw id;have HE:=Aa (fun er W (hW:Below w.heap.size w W)=>Br.same (er:=er) h hW);have HNews:=Aa (fun W (hW:Below w.heap.size w W)=>DL (hl.below hW) hnl);unfold BV;obtain⟨t,ht⟩:∃t,st.isB id=t:=⟨_,rfl⟩;rw[ht]at hIs hB ⊢;clear ht;obtain⟨va,vc,hv⟩:=hl.form;obtain⟨n,hn⟩:∃n,l.length=n:=⟨_,rfl⟩;rw[hn]at hv hlen;rw[hn];subst hv;have HN:=Aa hn;have HNw:Hid (∀W,Below w.heap.size w W->(Value.slice va n vc=.slice none 0 0/\n=0)\/∃ad c,Value.slice va n vc=.slice (some ad) n c/\∀j u,(Ae l)[j]?=some u->W.cell? (ad.add j)=some u):=fun W hW=>by
  have:=HNews.out W hW;rw[hn]at this;exact this
 unfold maxLen at hlen;have HI:=Aa hIs;clear hIs hn hl hnl;cases t with
 |false=>
  rw[if_neg (by simp)];clear hB h;go_enter func147,ntmps147
  go_wp2_with(go_at_call 127;refine HI.out.mono ?_;rintro e w' ⟨rfl,hw'⟩;replace hw':=hw'.symm;subst hw')
  go_ret;exact HE.out 6 _ (aN _ _)
 |true=>
  rw[if_pos rfl];obtain⟨i,rfl,hio⟩:=hB.1 rfl;have hil:=hw.lt hio;rw[aX];by_cases h20:20<n
  ·rw[if_pos h20];clear hB h;have h20':(20:Int)<(n:Int):=by omega
   go_enter func147,ntmps147
   go_wp2_with(go_at_call 127;refine HI.out.mono ?_;rintro e w' ⟨rfl,hw'⟩;replace hw':=hw'.symm;subst hw')
   go_ret;exact HE.out 2 _ (aN _ _)
  ·rw[if_neg h20];have h20':¬(20:Int)<(n:Int):=by omega
   obtain⟨p,hp⟩:∃p,l.all AU=p:=⟨_,rfl⟩;rw[hp]at hAll ⊢;have HAll:=Aa hAll;clear hAll;cases p with
   |false=>
    rw[if_neg (by simp)];simp only[Bool.false_eq_true,if_false]at HAll;clear hB h hp;go_enter func147,ntmps147
    go_wp2_with(first
     |(go_at_call 127;refine HI.out.mono ?_;rintro e w' ⟨rfl,hw'⟩;replace hw':=hw'.symm;subst hw')
     |(go_at_call 120;refine HAll.out.mono ?_;rintro e w2 ⟨rfl,hw2⟩;have HB2:=Aa hw2;clear hw2))
    go_ret;exact HE.out 3 _ HB2.out
   |true=>
    rw[if_pos rfl];simp only[if_true]at HAll;obtain⟨sv,ov,F,hr,hs⟩:=h;obtain⟨g,cap,e1,e2,e3,e4,e5,e6⟩:=hr.at (by omega);subst e1;obtain⟨_,cur,hcur⟩:=hr.gType;have hne:¬c=g:=Aj hr.scr hcur (by decide);have hne2:g≠c:=fun e=>hne e.symm;have hcl:=(aM.1 hr.scr).1;have HR:=Aa (aK hr (aK hs hil));have hmd:=hw.made;obtain⟨nS,hnS⟩:∃x,st.sfs.length=x:=⟨_,rfl⟩;have HC:Hid (∀W',Below w.heap.size w W'->W'.cell? ⟨c,3,none⟩=some (.slice (some ⟨g,0,none⟩) nS cap)/\(∀o,o<28->W'.cell? ⟨g,i*28+o,none⟩=some (F i o))/\∀j,W'.frozen? ⟨g,j,none⟩=false):=fun W' hW=>by
     have r2:=hr.below hW;obtain⟨k0,k1,k2,k3,k4,kf,kl⟩:=r2.cells;obtain⟨g',cap',q1,q2,q3,q4,q5,q6⟩:=r2.at (by omega);injection q1 with q11 q12 q13;injection q11 with q11;injection q11 with q11;subst q11;rw[hnS]at k3;exact⟨k3,fun o ho=>q5 i hil o ho,q6⟩
    rw[hnS]at e3 hmd;have hin:i<nS:=by omega
    have hicap:i<cap:=by omega
    have HOk:Hid (∀w2 a vc,Below w.heap.size w w2->w2.ownsRow w.heap.size 53 4 (.slice a n vc) n (Ae l)->Br S c bv (0,upd st i (Jn (AE l))) w (.returned (.int .i64 0)) (w2.setCell ⟨g,i*28+23,none⟩ (.slice a n vc))):=fun w2 a vc hb ho=>by
     have hnn:=HN.out;subst hnn;exact RU hb (HR.out.1.below hb) (HR.out.2.1.below hb) hil (by omega) ho
    obtain⟨post,hpost⟩:∃P,P=Br S c bv (0,upd st i (Jn (AE l))) w:=⟨_,rfl⟩;rw[<-hpost]at HOk ⊢;clear hr hs e5 e6 hcur hB hnS hpost hil hp;go_enter func147,ntmps147
    go_upto_region 10 with(first
     |(go_at_call 127;refine HI.out.mono ?_;rintro e w' ⟨rfl,hw'⟩;replace hw':=hw'.symm;subst hw')
     |(go_at_call 120;refine HAll.out.mono ?_;rintro e w2 ⟨rfl,hw2⟩;obtain⟨y3,yc,yf⟩:=HC.out w2 hw2;have c23:=yc 23 (by omega);have f23:=yf (i*28+23);have hs2:=hw2.size;have HB2:=Aa hw2;clear hw2 yc yf))
    go_region_law (refine FP (by rfl) (.tmp 28) (.tmp 29) 33 (by rfl) w.heap.size 53 i0 _ 4 32 underlying33 hi0 hz0 hz1 hz2 rfl (by decide) (.slice none 0 0) 0 [] (by rfl) (bA _ _ _ _) (.slice va n vc) n (Ae l) (by rfl) (by rw[AT,HN.out]) (HNw.out _ HB2.out.drew) (BK l) (by unfold maxLen;omega) (by omega) (by show w.heap.size<=w2.heap.size;omega) ?_;intro ra rc w3 ho3 hg3;have hb3:=HB2.out.drew.grown hg3 (by show w.heap.size<=w2.heap.size;omega) (fun k hk=>by simp[Value.ownBlock]at hk);obtain⟨y3,yc,yf⟩:=HC.out w3 hb3;have c23:=yc 23 (by omega);have f23:=yf (i*28+23);rw[Nat.zero_add,List.nil_append]at ho3;have HB3:=Aa (aK hb3 ho3);clear hb3 ho3 hg3 yc yf)
    all_goals go_wp2
    all_goals(try go_ret)
    all_goals exact HOk.out _ _ _ HB3.out.1 HB3.out.2
variable{A B:Nat->Prop}{D P:Nat->Value}{L:List RB}{N cap nb:Nat}
theorem Mj{a:Option Addr}(i:Int)(hi:¬(0<=i/\i<nb))(w:World)(h:Aw w A c st (.slice a nb cap)):
  Calls prog 139 #[.pointer (some ⟨c,0,none⟩),.int .i64 i] w fun e w'=>e=.returned (.tuple #[.agg #[.slice none 0 0,.int .i64 0],.int .i64 10])/\Below w.heap.size w w':=by
 obtain⟨sv,ov,F,hr,hs⟩:=h;obtain⟨k0,k1,k2,k3,k4,kf,kl⟩:=hr.cells;have hcn:¬c=w.heap.size:=by omega
 clear hr hs kf k0 k1 k3 k4;by_cases h0:i<0
 ·go_enter func139,ntmps139
  go_wp2;exact cU (v:=.tuple #[.agg #[.slice none 0 0,.int .i64 0],.int .i64 10]) (by simp[results,results139,go_sem]) rfl ⟨rfl,(aN _ _).alloc (aO _) _⟩
 ·have h1:(nb:Int)<=i:=by omega
  go_enter func139,ntmps139
  go_wp2;exact cU (v:=.tuple #[.agg #[.slice none 0 0,.int .i64 0],.int .i64 10]) (by simp[results,results139,go_sem]) rfl ⟨rfl,(aN _ _).alloc (aO _) _⟩
theorem RV{a:Option Addr}(i:Int)(hi:¬(0<=i/\i<nb))(w:World)(h:Aw w A c st (.slice a nb cap)):
  Calls prog 140 #[.pointer (some ⟨c,0,none⟩),.int .i64 i] w fun e w'=>e=.returned (.tuple #[.slice none 0 0,.int .i64 0,.int .i64 10])/\Below w.heap.size w w':=by
 obtain⟨sv,ov,F,hr,hs⟩:=h;obtain⟨k0,k1,k2,k3,k4,kf,kl⟩:=hr.cells;clear hr hs kf k0 k1 k3 k4;by_cases h0:i<0
 ·go_enter func140,ntmps140
  go_wp2;exact cU (v:=.tuple #[.slice none 0 0,.int .i64 0,.int .i64 10]) (by simp[results,results140,go_sem]) rfl ⟨rfl,aN _ _⟩
 ·have h1:(nb:Int)<=i:=by omega
  go_enter func140,ntmps140
  go_wp2;exact cU (v:=.tuple #[.slice none 0 0,.int .i64 0,.int .i64 10]) (by simp[results,results140,go_sem]) rfl ⟨rfl,aN _ _⟩
theorem Ql(i:Nat)(hi:i<L.length)(w:World)(h:Aw w A c st bv)(hB:AG w B bv N L P D):
  Calls prog 140 #[.pointer (some ⟨c,0,none⟩),.int .i64 i] w fun e w'=>e=.returned (.tuple #[P i,.int .i64 L[i].age,.int .i64 0])/\Below w.heap.size w w':=by
 obtain⟨bg,bcap,hbv,hbc,hBb,hbgl,hbt,hbfr,hbcs⟩:=hB.rowForm (by omega);obtain⟨sv,ov,F,hr,hs⟩:=h;obtain⟨k0,k1,k2,k3,k4,kf,kl⟩:=hr.cells;obtain⟨y0,y1,y2⟩:=hbcs i hi;obtain⟨pa,pm,pc,hP,_⟩:=(hB.pix i hi).form;rw[hP]at y0 ⊢;obtain⟨ag,hag⟩:∃a,L[i].age=a:=⟨_,rfl⟩;rw[hag]at y1 ⊢;have hfew:=hB.few;obtain⟨nb,hnb⟩:∃n,L.length=n:=⟨_,rfl⟩;rw[hnb]at hi hbv hfew hbc;subst hbv;have h0:¬(i:Int)<0:=by omega
 have h00:(0:Int)<=(i:Int):=by omega
 have h1:¬(nb:Int)<=(i:Int):=by omega
 have h2:(i:Int)<(nb:Int):=by omega
 have hic:i<bcap:=by omega
 clear hr hs kf k0 k1 k3 k4 hB hbcs hbfr hbt hnb hag hP y2;go_enter func140,ntmps140
 go_upto_region 3 with fail
 go_quiet (fail)
 go_wp2;exact cU (v:=.tuple #[.slice pa pm pc,.int .i64 ag,.int .i64 0]) (by simp[results,results140,go_sem]) rfl ⟨rfl,cS (aN _ _) _⟩
theorem Mk{a:Option Addr}(i:Int)(hi:¬(0<=i/\i<nb))(v:Value)(w:World)(h:Aw w A c st (.slice a nb cap)):
  Calls prog 137 #[.pointer (some ⟨c,0,none⟩),.int .i64 i,v] w fun e w'=>e=.returned (.int .i64 10)/\Below w.heap.size w w':=by
 obtain⟨sv,ov,F,hr,hs⟩:=h;obtain⟨k0,k1,k2,k3,k4,kf,kl⟩:=hr.cells;clear hr hs kf k0 k1 k3 k4;by_cases h0:i<0
 ·go_enter func137,ntmps137
  go_wp2;go_ret;exact⟨rfl,aN _ _⟩
 ·have h1:(nb:Int)<=i:=by omega
  go_enter func137,ntmps137
  go_wp2;go_ret;exact⟨rfl,aN _ _⟩
def Oj(A B:Nat->Prop)(c:Nat)(st:St)(bv:Value)(N:Nat)(L:List RB)(i:Nat)(b:RB)(w:World)(e:Ending)(w':World):Prop:=
 e=.returned (.int .i64 0)/\Aw w' A c st bv/\(∃P D,AG w' (AA B w w') bv N (L.set i b) P D)/\Ac B w w'
theorem Lz{a:Option Addr}(i:Nat)(hi:i<nb)(Wn Hn:Nat)(hWn:st.w=Wn)(hHn:st.h=Hn)(hw:Wf st)(va:Option Addr)(vn vc:Nat)(hv:vn≠Wn*Hn)(w:World)(h:Aw w A c st (.slice a nb cap)):
  Calls prog 137 #[.pointer (some ⟨c,0,none⟩),.int .i64 i,.slice va vn vc] w fun e w'=>e=.returned (.int .i64 4)/\Below w.heap.size w w':=by
 obtain⟨sv,ov,F,hr,hs⟩:=h;rw[hWn,hHn]at hr;obtain⟨k0,k1,k2,k3,k4,kf,kl⟩:=hr.cells;have hww:=hw.ww;have hhh:=hw.hh;rw[hWn]at hww;rw[hHn]at hhh;obtain⟨K,hK⟩:∃K,Wn*Hn=K:=⟨_,rfl⟩;have hK1:K<=576:=by rw[<-hK];exact cI (show Wn<=24 by omega) (show Hn<=24 by omega)
 rw[hK]at hv;have hWH:(Wn:Int)*(Hn:Int)=(K:Int):=by rw[<-hK];simp
 have m1:IntKind.i64.wrap ((Wn:Int)*(Hn:Int))=(K:Int):=by rw[bB];omega
 have m2:wrap64 ((Wn:Int)*(Hn:Int))=(K:Int):=by unfold wrap64;omega
 have hne:¬(vn:Int)=(K:Int):=fun e=>hv (Int.ofNat_inj.1 e);have hne2:((vn:Int) != (K:Int))=true:=bne_iff_ne.2 hne;have h0:¬(i:Int)<0:=by omega
 have h1:¬(nb:Int)<=(i:Int):=by omega
 clear hr hs kf k3 k4 hWH hK;go_enter func137,ntmps137
 go_upto_region 3 with fail
 go_quiet (fail)
 go_wp2;go_ret;exact⟨rfl,cS (aN _ _) _⟩
theorem AG.filled{w w2:World}{bg bcap:Nat}(h:Aw w A c st (.slice (some ⟨bg,0,none⟩) nb bcap))(hB:AG w B (.slice (some ⟨bg,0,none⟩) nb bcap) N L P D)(hap:∀g,A g->¬B g)(hlt:∀g,B g->g<w.heap.size)(hBb:B bg){i:Nat}(hi:i<L.length)(hb:Below w.heap.size w w2){l:List R4}(hl:l.length=N){a:Option Addr}{vc:Nat}(hv:w2.ownsRow w.heap.size 51 4 (.slice a N vc) N (Aq l)):
  Oj A B c st (.slice (some ⟨bg,0,none⟩) nb bcap) N L i ⟨fun k=>l.getD k (0,0,0,0),0,L[i].dirty⟩ w (.returned (.int .i64 0)) ((w2.setCell ⟨bg,i*3,none⟩ (.slice a N vc)).setCell ⟨bg,i*3+1,none⟩ (.int .i64 0)):=by
 have hbw:=hlt bg hBb;have hs2:=hb.size;obtain⟨W,hW⟩:∃W,(w2.setCell ⟨bg,i*3,none⟩ (.slice a N vc)).setCell ⟨bg,i*3+1,none⟩ (.int .i64 0)=W:=⟨_,rfl⟩;have hWs:W.heap.size=w2.heap.size:=by rw[<-hW];simp
 have k1:∀b,b≠bg->W.heap[b]?=w2.heap[b]? :=fun b hb=>by rw[<-hW,aL _ ⟨bg,i*3+1,none⟩ b _ hb,aL _ ⟨bg,i*3,none⟩ b _ hb]
 have hpx:AC w2 (AA B w W) (.slice a N vc) N (fun k=>l.getD k (0,0,0,0)):=by
  refine⟨N,rfl,⟨?_,fun b hb2=>.inr ⟨(hv.lt b hb2).1,by rw[hWs];exact(hv.lt b hb2).2⟩⟩⟩;have e:pxL (fun k=>l.getD k (0,0,0,0)) N=l:=by rw[<-hl];exact P7 l
  rw[e];exact⟨hv.1,hv.2.imp (fun h=>h) fun⟨g,c,cur,e1,_,e3⟩=>⟨g,c,cur,e1,cB _,e3⟩⟩
 have h0:AG w2 (AA B w W) (.slice (some ⟨bg,0,none⟩) nb bcap) N L P D:=(hB.keep fun g _ hg=>hb.block g hg).mono fun _ hg=>.inl hg;have h1:=h0.setPix hi hpx fun j hj _ b hb2 he=>by
  obtain⟨m,_,hr⟩:=hB.pix j hj;have q1:=hlt b (hr.2 b he);have q2:=(hv.lt b hb2).1;omega
 have h2:=h1.setAge (i:=i) (by rw[bG];exact hi) 0;rw[List.set_set,Eg]at h2;rw[hW];have h3:AG W (AA B w W) (.slice (some ⟨bg,0,none⟩) nb bcap) N (L.set i ⟨fun k=>l.getD k (0,0,0,0),0,L[i].dirty⟩) (fun j=>if j=i then .slice a N vc else P j) D:=by rw[show((0:Nat):Int)=0 from rfl,hW]at h2;exact h2
 have ho:Ac B w W:=by rw[<-hW];exact((Ac.below hb).set (.inl hBb) _).set (.inl hBb) _
 exact⟨rfl,h.keep fun g hg hl=>(k1 g fun e=>hap g hg (e▸hBb)).trans (hb.block g hl),⟨_,D,h3⟩,ho⟩
theorem LA(hw:Wf st)(w:World)(h:Aw w A c st bv)(hap:∀g,A g->¬B g)(hlt:∀g,B g->g<w.heap.size)(Wn Hn:Nat)(hWn:st.w=Wn)(hHn:st.h=Hn)(hB:AG w B bv (Wn*Hn) L P D)(i:Nat)(hi:i<L.length)(l:List R4)(v:Value)(hv:Bb w v l)(hl:l.length=Wn*Hn):
  Calls prog 137 #[.pointer (some ⟨c,0,none⟩),.int .i64 i,v] w (Oj A B c st bv (Wn*Hn) L i ⟨fun k=>l.getD k (0,0,0,0),0,L[i].dirty⟩ w):=by
 obtain⟨i0,hi0,hz0,hz1,hz2⟩:=cW Ed;have hww:=hw.ww;have hhh:=hw.hh;rw[hWn]at hww;rw[hHn]at hhh;obtain⟨N,hN⟩:∃N,Wn*Hn=N:=⟨_,rfl⟩;have hN0:0<N:=by rw[<-hN];exact Nat.mul_pos (by omega) (by omega)
 have hN1:N<=576:=by rw[<-hN];exact cI (show Wn<=24 by omega) (show Hn<=24 by omega)
 rw[hN]at hl hB ⊢;obtain⟨bg,bcap,hbv,hbc,hBb,hbgl,hbt,hbfr,hbcs⟩:=hB.rowForm (by omega);obtain⟨nb,hnb⟩:∃n,L.length=n:=⟨_,rfl⟩;have hfew:=hB.few;rw[hnb]at hbv hfew hbc;subst hbv;have HNews:=Aa (fun(W:World) (hW:Below w.heap.size w W)=>KS (hv.below hW) fun e=>by rw[e]at hl;simp at hl;omega);obtain⟨va,vc,hvf,_⟩:=hv;rw[hl]at hvf;subst hvf;have HNw:Hid (∀W,Below w.heap.size w W->(Value.slice va N vc=.slice none 0 0/\N=0)\/∃ad c,Value.slice va N vc=.slice (some ad) N c/\∀j u,(Aq l)[j]?=some u->W.cell? (ad.add j)=some u):=fun W hW=>by
  have:=HNews.out W hW;rw[hl]at this;exact this
 have HFin:Hid (∀(w2:World) (a:Option Addr) (q:Nat),Below w.heap.size w w2->w2.ownsRow w.heap.size 51 4 (.slice a N q) N (Aq l)->Oj A B c st (.slice (some ⟨bg,0,none⟩) nb bcap) N L i ⟨fun k=>l.getD k (0,0,0,0),0,L[i].dirty⟩ w (.returned (.int .i64 0)) ((w2.setCell ⟨bg,i*3,none⟩ (.slice a N q)).setCell ⟨bg,i*3+1,none⟩ (.int .i64 0))):=fun w2 a q h1 h2=>AG.filled h hB hap hlt hBb hi h1 hl h2;obtain⟨sv,ov,F,hr,hs⟩:=h;rw[hWn,hHn]at hr;obtain⟨y0,y1,y2⟩:=hbcs i hi;have hcb:c≠bg:=fun e=>hap c hr.own (e▸hBb);have hbc2:bg≠c:=fun e=>hcb e.symm;have HC:Hid (∀W:World,Below w.heap.size w W->W.cell? ⟨c,0,none⟩=some (.int .i64 Wn)/\W.cell? ⟨c,1,none⟩=some (.int .i64 Hn)/\W.cell? ⟨c,2,none⟩=some (.slice (some ⟨bg,0,none⟩) nb bcap)/\W.cell? ⟨bg,i*3,none⟩=some (P i)/\(∃u,W.cell? ⟨bg,i*3+1,none⟩=some u)/\(∀j,W.frozen? ⟨bg,j,none⟩=false)/\c<W.heap.size/\bg<W.heap.size):=fun W hW=>by
  obtain⟨k0,k1,k2,k3,k4,kf,kl⟩:=(hr.below hW).cells;have e:=hW.block bg hbgl;exact⟨k0,k1,k2,(hW.cell (p:=⟨bg,i*3,none⟩) hbgl).trans y0,⟨_,(hW.cell (p:=⟨bg,i*3+1,none⟩) hbgl).trans y1⟩,fun j=>(World.frozen?_of_block (a:=⟨bg,j,none⟩) e).trans (hbfr j),kl,aQ hbgl hW.size⟩
 obtain⟨k0,k1,k2,_,⟨u8,k4⟩,kf,kl,_⟩:=HC.out w (aN _ _);have h0:¬(i:Int)<0:=by omega
 have h00:(0:Int)<=(i:Int):=by omega
 have h1:¬(nb:Int)<=(i:Int):=by omega
 have h2:(i:Int)<(nb:Int):=by omega
 have hic:i<bcap:=by omega
 have hNe:((N:Int) != (N:Int))=false:=by simp
 have hML:0+N<=maxLen:=by unfold maxLen;omega
 have hBY:(0+N)*4<=140737488355328:=by omega
 have hWH:(Wn:Int)*(Hn:Int)=(N:Int):=by rw[<-hN];simp
 have m1:IntKind.i64.wrap ((Wn:Int)*(Hn:Int))=(N:Int):=by rw[bB];omega
 have m2:wrap64 ((Wn:Int)*(Hn:Int))=(N:Int):=by unfold wrap64;omega
 have hlen:(Aq l).length=N*4:=by rw[BM,hl]
 obtain⟨post,hpost⟩:∃p,p=Oj A B c st (.slice (some ⟨bg,0,none⟩) nb bcap) N L i ⟨fun k=>l.getD k (0,0,0,0),0,L[i].dirty⟩ w:=⟨_,rfl⟩;rw[<-hpost]at HFin ⊢;clear hr hs kf k4 hB hbcs hbfr hbt hnb y0 y1 y2 hWH hap hlt hpost hl hN;go_enter func137,ntmps137
 go_upto_region 3 with fail
 go_quiet (fail)
 have HB1:Hid (Below w.heap.size w (w.drewN nq)):=cS (aN _ _) _;obtain⟨q0,q1,q2,q3,⟨u9,q4⟩,qf,ql,qb⟩:=HC.out _ HB1.out;generalize w.drewN nq=W1 at*;have hs1:=HB1.out.size;clear k0 k1 k2 kl
 go_upto_region 6 with fail
 go_region_law (refine FP (by rfl) (.tmp 36) (.tmp 37) 44 (by rfl) w.heap.size 51 i0 _ 4 4 underlying44 hi0 hz0 hz1 hz2 rfl (by decide) (.slice none 0 0) 0 [] (by rfl) (bA _ _ _ _) (.slice va N vc) N (Aq l) (by rfl) hlen (HNw.out _ HB1.out.drew) (DY l) hML hBY (by show w.heap.size<=W1.heap.size;exact hs1) ?_;intro ra rc w3 ho3 hg3;have hb3:=HB1.out.drew.grown hg3 (by show w.heap.size<=W1.heap.size;exact hs1) (fun k hk=>by simp[Value.ownBlock]at hk);obtain⟨s0,s1,s2,s3,⟨u7,s4⟩,sf,sl,sb⟩:=HC.out w3 hb3;have sf0:=sf (i*3);have sf1:=sf (i*3+1);rw[Nat.zero_add,List.nil_append]at ho3;have HB3:=Aa (aK hb3 ho3);clear hb3 ho3 hg3 sf)
 all_goals go_wp2
 all_goals(try go_ret)
 all_goals exact HFin.out _ _ _ HB3.out.1 HB3.out.2
end Go.Proofs.YtofinpocigbbeaaGreat
