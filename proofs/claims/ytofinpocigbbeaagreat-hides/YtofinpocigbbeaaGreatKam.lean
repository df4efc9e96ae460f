import Derived.Test.YtofinpocigbbeaaGreatKal
set_option maxHeartbeats 1000000
set_option maxRecDepth 100000
set_option linter.unusedSimpArgs false
namespace Go.Proofs.YtofinpocigbbeaaGreat
open Go.Proofs.Tryz Go.RowKit
attribute [local go_sem ↓] Go.wp_at_zero Go.wp_at_succ
variable{S:Nat->Prop}{bv:Value}{c:Nat}{st:St}{w w':World}
def Br(S:Nat->Prop)(c:Nat)(bv:Value)(p:Int×St)(w:World)(e:Ending)(w':World):Prop:=e=.returned (.int .i64 p.1)/\Aw w' (AA S w w') c p.2 bv/\Ac S w w'
theorem Br.same{er:Int}(h:Aw w S c st bv)(hb:Below w.heap.size w w'):Br S c bv (er,st) w (.returned (.int .i64 er)) w':=
 ⟨rfl,(h.keep fun g _ hg=>hb.block g hg).mono fun _ hg=>AI hg,Ac.below hb⟩
theorem Aw.of_upd{S':Nat->Prop}{sv ov:Value}{F F':Nat->Nat->Value}{i:Nat}{gf:Sf->Sf}(hr:B3 w' S' c st.w st.h st.sfs.length st.order bv sv ov F')(hi:i<st.sfs.length)(hs:C9 w S st F)(hF:∀j,j≠i->F' j=F j)
  (hS:∀g,S g->S' g) (hpk:∀(b:Nat) (cur:Array Value) (t:TypeId),Jj t->w.heap[b]?=some (.cells cur t (0,0))->w'.heap[b]?=w.heap[b]?) (hc:Kt (F' i) (gf (st.sf i))) (hD:CD w' S' (F' i) (gf (st.sf i))):Aw w' S' c (upd st i gf) bv:=by
 refine⟨sv,ov,F',by have h9:=hr;rw[<-Ct st i gf]at h9;exact h9,fun j hj=>?_,fun j hj=>?_⟩
 ·rw[Ct]at hj;rw[Bf st i gf j hi];by_cases e:j=i
  ·subst e;rw[if_pos rfl];exact hc
  ·rw[if_neg e,hF j e];exact hs.rel j hj
 ·rw[Ct]at hj;rw[Bf st i gf j hi];by_cases e:j=i
  ·subst e;rw[if_pos rfl];exact hD
  ·rw[if_neg e,hF j e];exact((hs.dat j hj).mono hS).other hpk
theorem BB{g j:Nat}{u:Value}{cur:Array Value}(hg:w.heap[g]?=some (.cells cur 214 (0,0)))(h:∀(b:Nat) (c:Array Value) (t:TypeId),Jj t->w.heap[b]?=some (.cells c t (0,0))->w'.heap[b]?=w.heap[b]?):∀(b:Nat) (c:Array Value) (t:TypeId),Jj t->w.heap[b]?=some (.cells c t (0,0))->(w'.setCell ⟨g,j,none⟩ u).heap[b]?=w.heap[b]? :=fun b c t ht hb=>by
 rw[aL w' ⟨g,j,none⟩ b u (Aj hb hg (Du ht).1)];exact h b c t ht hb
theorem Md(hw:Wf st)(id x y:Int)(w:World)(h:Aw w S c st bv):
  Calls prog 144 #[.pointer (some ⟨c,0,none⟩),.int .i64 id,.int .i64 x,.int .i64 y] w (Br S c bv (Bp st id x y) w):=by
 have hIs:=D6 (S:=S) (c:=c) (st:=st) (bv:=bv) id w h hw.made;have hB:=AV hw id;have HE6:=Aa (Br.same (er:=6) h (aN _ _));have HE7:=Aa (Br.same (er:=7) h (aN _ _));unfold Bp;obtain⟨t,ht⟩:∃t,st.isB id=t:=⟨_,rfl⟩;rw[ht]at hIs hB ⊢;cases t with
 |false=>
  rw[if_neg (by simp)];clear hB h;go_enter func144,ntmps144
  go_wp2_with(go_at_call 127;refine hIs.mono ?_;rintro e w' ⟨rfl,hw'⟩;replace hw':=hw'.symm;subst hw')
  go_ret;exact HE6.out
 |true=>
  rw[if_pos rfl];obtain⟨i,rfl,hio⟩:=hB.1 rfl;have hil:=hw.lt hio;rw[aX];obtain⟨sv,ov,F,hr,hs⟩:=h;obtain⟨k0,k1,k2,k3,k4,kf,kl⟩:=hr.cells;obtain⟨g,cap,e1,e2,e3,e4,e5,e6⟩:=hr.at (by omega);subst e1;have c16:=e5 i hil 16 (by omega);have c17:=e5 i hil 17 (by omega);have f16:=e6 (i*28+16);have f17:=e6 (i*28+17);obtain⟨_,cur,hcur⟩:=hr.gType;have hne:¬c=g:=Aj hr.scr hcur (by decide);have hne2:g≠c:=fun e=>hne e.symm;have HOk:Hid (-1000<=x/\x<=1000/\-1000<=y/\y<=1000->Br S c bv (0,upd st i (Hi x y)) w (.returned (.int .i64 0)) ((w.setCell ⟨g,i*28+16,none⟩ (.int .i64 x)).setCell ⟨g,i*28+17,none⟩ (.int .i64 y))):=fun _=>by
   have hr2:=(hr.set hil (show 16<28 by omega) (.int .i64 x)).set hil (show 17<28 by omega) (.int .i64 y);have hpk:=BB (j:=i*28+17) (u:=.int .i64 y) hcur (BB (j:=i*28+16) (u:=.int .i64 x) hcur (w':=w) fun _ _ _ _ _=>rfl);have q:=hs.rel i hil;refine⟨rfl,Aw.mono (Aw.of_upd hr2 hil hs (fun j hj=>by rw[D7 _ _ _ _ hj,D7 _ _ _ _ hj]) (fun _ h=>h) hpk ?_ ?_) (fun _ h=>AI h),((Ac.refl S w).set (.inl e2) _).set (.inl e2) _⟩
   ·simp only[Bx];exact⟨q.alive,q.parent,q.nw,q.nh,q.nx,q.ny,q.ncut,q.n0,q.n1,q.n2,q.n3,q.nhint,q.xw,q.xh,rfl,rfl,q.xcut,q.x0,q.x1,q.x2,q.x3,q.xhint,q.ask,q.sib,q.above,q.kept⟩
   ·simp only[Bx];exact((hs.dat i hil).other hpk).turn rfl rfl rfl rfl rfl ⟨rfl,rfl,rfl,rfl⟩ ⟨rfl,rfl,rfl,rfl⟩ rfl
  obtain⟨n,hn⟩:∃n,st.sfs.length=n:=⟨_,rfl⟩;have hmd:=hw.made;rw[hn]at k3 e3 hmd;have hin:i<n:=by omega
  have hcap:i<cap:=by omega
  have HIf:Hid (∀(P:Ending->World->Prop) (Q:Int×St->Prop),True):=fun _ _=>trivial;have HPost:Hid (∀e w',(-1000<=x/\x<=1000/\-1000<=y/\y<=1000->Br S c bv (0,upd st i (Hi x y)) w e w')->(¬(-1000<=x/\x<=1000/\-1000<=y/\y<=1000)->Br S c bv (7,st) w e w')->Br S c bv (if-1000<=x/\x<=1000/\-1000<=y/\y<=1000 then(0,upd st i (Hi x y))else(7,st)) w e w'):=fun e w' h1 h2=>by
   split
   ·rename_i h;exact h1 h
   ·rename_i h;exact h2 h
  obtain⟨post,hpost⟩:∃P,P=Br S c bv (if-1000<=x/\x<=1000/\-1000<=y/\y<=1000 then(0,upd st i (Hi x y))else(7,st)) w:=⟨_,rfl⟩;rw[<-hpost]at HPost ⊢;clear hr hs kf hn e5 e6 hcur hil hB HIf hpost HE6;go_enter func144,ntmps144
  go_wp2_with(go_at_call 127;refine hIs.mono ?_;rintro e w' ⟨rfl,hw'⟩;replace hw':=hw'.symm;subst hw')
  all_goals
   try go_ret
   refine HPost.out _ _ (fun hyes=>?_) (fun hno=>?_)
   ·first
     |exact HOk.out hyes
     |(exfalso;omega)
   ·first
     |exact HE7.out
     |(exfalso;omega)
theorem Aw.clip{w2:World}{ov:Value}{F:Nat->Nat->Value}{g cap i:Nat}(hb:Below w.heap.size w w2)(hr:B3 w2 S c st.w st.h st.sfs.length st.order bv (.slice (some ⟨g,0,none⟩) st.sfs.length cap) ov F)(hs:C9 w2 S st F)(hi:i<st.sfs.length)(t:Bool)(a0 a1 a2 a3:Int)(gf:Sf->Sf)(hg:gf (st.sf i)= {st.sf i with next:={ (st.sf i).next with cut:=t,clip:=(a0,a1,a2,a3) } }):
  Br S c bv (0,upd st i gf) w (.returned (.int .i64 0)) (((((w2.setCell ⟨g,i*28+18,none⟩ (.bool t)).setCell ⟨g,i*28+19,none⟩ (.int .i64 a0)).setCell ⟨g,i*28+20,none⟩ (.int .i64 a1)).setCell ⟨g,i*28+21,none⟩ (.int .i64 a2)).setCell ⟨g,i*28+22,none⟩ (.int .i64 a3)):=by
 obtain⟨e2,cur,hcur⟩:=hr.gType;have hr2:=((((hr.set hi (show 18<28 by omega) (.bool t)).set hi (show 19<28 by omega) (.int .i64 a0)).set hi (show 20<28 by omega) (.int .i64 a1)).set hi (show 21<28 by omega) (.int .i64 a2)).set hi (show 22<28 by omega) (.int .i64 a3);have hpk:=BB (j:=i*28+22) (u:=.int .i64 a3) hcur (BB (j:=i*28+21) (u:=.int .i64 a2) hcur (BB (j:=i*28+20) (u:=.int .i64 a1) hcur (BB (j:=i*28+19) (u:=.int .i64 a0) hcur (BB (j:=i*28+18) (u:=.bool t) hcur (w':=w2) fun _ _ _ _ _=>rfl))));have q:=hs.rel i hi;refine⟨rfl,Aw.mono (Aw.of_upd hr2 hi hs (fun j hj=>by simp only[D7 _ _ _ _ hj]) (fun _ h=>h) hpk ?_ ?_) (fun _ h=>AI h),?_⟩
 ·rw[hg];simp only[Bx];exact⟨q.alive,q.parent,q.nw,q.nh,q.nx,q.ny,q.ncut,q.n0,q.n1,q.n2,q.n3,q.nhint,q.xw,q.xh,q.xx,q.xy,rfl,rfl,rfl,rfl,rfl,q.xhint,q.ask,q.sib,q.above,q.kept⟩
 ·rw[hg];simp only[Bx];exact((hs.dat i hi).other hpk).turn rfl rfl rfl rfl rfl ⟨rfl,rfl,rfl,rfl⟩ ⟨rfl,rfl,rfl,rfl⟩ rfl
 ·have h0:Ac S w w2:=Ac.below hb;exact((((h0.set (.inl e2) _).set (.inl e2) _).set (.inl e2) _).set (.inl e2) _).set (.inl e2) _
theorem Br.drew{p:Int×St}{w':World}{e:Ending}(h:Br S c bv p w e w'):Br S c bv p w e w'.drew:=⟨h.1,h.2.1.keep fun _ _ _=>rfl,h.2.2.drew⟩
theorem Me(hw:Wf st)(id:Int)(w:World)(h:Aw w S c st bv):
  Calls prog 146 #[.pointer (some ⟨c,0,none⟩),.int .i64 id] w (Br S c bv (BU st id) w):=by
 have hIs:=D6 (S:=S) (c:=c) (st:=st) (bv:=bv) id w h hw.made;have hB:=AV hw id;have HE6:=Aa (Br.same (er:=6) h (aN _ _));unfold BU;obtain⟨t,ht⟩:∃t,st.isB id=t:=⟨_,rfl⟩;rw[ht]at hIs hB ⊢;cases t with
 |false=>
  rw[if_neg (by simp)];clear hB h;go_enter func146,ntmps146
  go_wp2_with(go_at_call 127;refine hIs.mono ?_;rintro e w' ⟨rfl,hw'⟩;replace hw':=hw'.symm;subst hw')
  go_ret;exact HE6.out
 |true=>
  rw[if_pos rfl];obtain⟨i,rfl,hio⟩:=hB.1 rfl;have hil:=hw.lt hio;rw[aX];obtain⟨sv,ov,F,hr,hs⟩:=h;obtain⟨k0,k1,k2,k3,k4,kf,kl⟩:=hr.cells;obtain⟨g,cap,e1,e2,e3,e4,e5,e6⟩:=hr.at (by omega);subst e1;have c18:=e5 i hil 18 (by omega);have c19:=e5 i hil 19 (by omega);have c20:=e5 i hil 20 (by omega);have c21:=e5 i hil 21 (by omega);have c22:=e5 i hil 22 (by omega);have f18:=e6 (i*28+18);have f19:=e6 (i*28+19);have f20:=e6 (i*28+20);have f21:=e6 (i*28+21);have f22:=e6 (i*28+22);obtain⟨_,cur,hcur⟩:=hr.gType;have hne:¬c=g:=Aj hr.scr hcur (by decide);have hne2:g≠c:=fun e=>hne e.symm;have HOk:=Aa (Aw.clip (aN _ _) hr hs hil false 0 0 0 0 Fh rfl);obtain⟨n,hn⟩:∃n,st.sfs.length=n:=⟨_,rfl⟩;have hmd:=hw.made;rw[hn]at k3 e3 hmd;have hin:i<n:=by omega
  have hcap:i<cap:=by omega
  clear hr hs kf hn e5 e6 hcur hil hB HE6;go_enter func146,ntmps146
  go_wp2_with(go_at_call 127;refine hIs.mono ?_;rintro e w' ⟨rfl,hw'⟩;replace hw':=hw'.symm;subst hw')
  go_ret;exact HOk.out
theorem P5(hw:Wf st)(id a0 a1 a2 a3:Int)(w:World)(h:Aw w S c st bv):
  Calls prog 145 #[.pointer (some ⟨c,0,none⟩),.int .i64 id,.agg #[.int .i64 a0,.int .i64 a1,.int .i64 a2,.int .i64 a3]] w (Br S c bv (Dj st id (a0,a1,a2,a3) (AU (a0,a1,a2,a3))) w):=by
 have hb0:=fun o=>al1 (aO w.heap.size) o;have HIs:=Aa (fun W (hW:Below w.heap.size w W)=>D6 (S:=S) (c:=c) (st:=st) (bv:=bv) id W (h.keep fun g _ hg=>hW.block g hg) hw.made);have hB:=AV hw id;have HE:=Aa (fun er W (hW:Below w.heap.size w W)=>Br.same (er:=er) h hW);have HFt:=Aa (fun W=>JR a0 a1 a2 a3 W);unfold Dj;obtain⟨t,ht⟩:∃t,st.isB id=t:=⟨_,rfl⟩;obtain⟨ft,hft⟩:∃t,AU (a0,a1,a2,a3)=t:=⟨_,rfl⟩;rw[ht]at HIs hB ⊢;rw[hft]at HFt ⊢;clear ht hft;cases t with
 |false=>
  rw[if_neg (by simp)];clear hB h;go_enter func145,ntmps145
  go_wp2_with(go_at_call 127;refine(HIs.out _ (hb0 _)).mono ?_;rintro e w' ⟨rfl,hw'⟩;replace hw':=hw'.symm;subst hw')
  go_ret;exact HE.out 6 _ (hb0 _)
 |true=>
  rw[if_pos rfl];obtain⟨i,rfl,hio⟩:=hB.1 rfl;have hil:=hw.lt hio;rw[aX];cases ft with
  |false=>
   rw[if_neg (by simp)];clear hB h hil hio;go_enter func145,ntmps145
   go_wp2_with(first
    |(go_at_call 127;refine(HIs.out _ (hb0 _)).mono ?_;rintro e w' ⟨rfl,hw'⟩;replace hw':=hw'.symm;subst hw')
    |(go_at_call 174;refine(HFt.out _).mono ?_;rintro e w2 ⟨rfl,hb2⟩;have HB2:=Aa ((hb0 _).trans (hb2.mono (by simp)));clear hb2))
   go_ret;exact HE.out 3 _ HB2.out
  |true=>
   rw[if_pos rfl];obtain⟨sv,ov,F,hr,hs⟩:=h;obtain⟨g,cap,e1,e2,e3,e4,e5,e6⟩:=hr.at (by omega);subst e1;obtain⟨_,cur,hcur⟩:=hr.gType;have hne:¬c=g:=Aj hr.scr hcur (by decide);have hne2:g≠c:=fun e=>hne e.symm;have hcl:=(aM.1 hr.scr).1;have HOk:Hid (∀w2,Below w.heap.size w w2->Br S c bv (0,upd st i (Jm (a0,a1,a2,a3))) w (.returned (.int .i64 0)) (((((w2.setCell ⟨g,i*28+18,none⟩ (.bool true)).setCell ⟨g,i*28+19,none⟩ (.int .i64 a0)).setCell ⟨g,i*28+20,none⟩ (.int .i64 a1)).setCell ⟨g,i*28+21,none⟩ (.int .i64 a2)).setCell ⟨g,i*28+22,none⟩ (.int .i64 a3))):=fun w2 hb=>Aw.clip hb (hr.below hb) (hs.below hb) hil true a0 a1 a2 a3 (Jm (a0,a1,a2,a3)) rfl;obtain⟨n,hn⟩:∃n,st.sfs.length=n:=⟨_,rfl⟩;have hmd:=hw.made;have HC:Hid (∀W,Below w.heap.size w W->W.cell? ⟨c,3,none⟩=some (.slice (some ⟨g,0,none⟩) n cap)/\(∀o,o<28->W.cell? ⟨g,i*28+o,none⟩=some (F i o))/\∀j,W.frozen? ⟨g,j,none⟩=false):=fun W hW=>by
    have r2:=hr.below hW;obtain⟨k0,k1,k2,k3,k4,kf,kl⟩:=r2.cells;obtain⟨g',cap',q1,q2,q3,q4,q5,q6⟩:=r2.at (by omega);injection q1 with q11 q12 q13;injection q11 with q11;injection q11 with q11;subst q11;rw[hn]at k3;exact⟨k3,fun o ho=>q5 i hil o ho,q6⟩
   rw[hn]at e3 hmd;have hin:i<n:=by omega
   have hcap:i<cap:=by omega
   clear hr hs hn e5 e6 hcur hil hB HE;go_enter func145,ntmps145
   go_upto_region 7 with(first
    |(go_at_call 127;refine(HIs.out _ (hb0 _)).mono ?_;rintro e w' ⟨rfl,hw'⟩;replace hw':=hw'.symm;subst hw')
    |(go_at_call 174;refine(HFt.out _).mono ?_;rintro e w2 ⟨rfl,hb2⟩;have HR2:=Aa (hb2.block w.heap.size (by simp));have HB2:=Aa ((hb0 _).trans (hb2.mono (by simp)));have hs2:=hb2.size;clear hb2))
   obtain⟨k3,kc,kf⟩:=HC.out w2 HB2.out;have c18:=kc 18 (by omega);have c19:=kc 19 (by omega);have c20:=kc 20 (by omega);have c21:=kc 21 (by omega);have c22:=kc 22 (by omega);have f18:=kf (i*28+18);have f19:=kf (i*28+19);have f20:=kf (i*28+20);have f21:=kf (i*28+21);have f22:=kf (i*28+22);have hbr:Blk w2 w.heap.size 53 #[.int .i64 a0,.int .i64 a1,.int .i64 a2,.int .i64 a3]:=HR2.out.trans (aR w _);have r0:w2.cell? ⟨w.heap.size,0,none⟩=some (.int .i64 a0):=hbr.cell 0;have r1:w2.cell? ⟨w.heap.size,1,none⟩=some (.int .i64 a1):=hbr.cell 1;have r2:w2.cell? ⟨w.heap.size,2,none⟩=some (.int .i64 a2):=hbr.cell 2;have r3:w2.cell? ⟨w.heap.size,3,none⟩=some (.int .i64 a3):=hbr.cell 3;have hgr:g≠w.heap.size:=by omega
   have hgr2:¬w.heap.size=g:=by omega
   clear kc kf hbr
   go_upto_region 8 with fail
   go_region
   all_goals
    go_wp2;go_ret;exact(HOk.out w2 HB2.out).drew
theorem Br.drewN{p:Int×St}{w w':World}{e:Ending}(h:Br S c bv p w e w')(n:Nat):Br S c bv p w e (w'.drewN n):=⟨h.1,h.2.1.keep fun _ _ _=>rfl,h.2.2.drewN n⟩
theorem Od{st:St}(hw:Wf st)(id sb:Int)(ab:Bool)(w:World)(h:Aw w S c st bv):
  Calls prog 148 #[.pointer (some ⟨c,0,none⟩),.int .i64 id,.int .i64 sb,.bool ab] w (Br S c bv (Cw st id sb ab) w):=by
 have hI1:=D6 (S:=S) (c:=c) (st:=st) (bv:=bv) id w h hw.made;have hI2:=D6 (S:=S) (c:=c) (st:=st) (bv:=bv) sb w h hw.made;have hB1:=AV hw id;have hB2:=AV hw sb;have HE:=Aa (fun er W (hW:Below w.heap.size w W)=>Br.same (er:=er) h hW);unfold Cw;obtain⟨t1,ht1⟩:∃t,st.isB id=t:=⟨_,rfl⟩;obtain⟨t2,ht2⟩:∃t,st.isB sb=t:=⟨_,rfl⟩;rw[ht1]at hI1 hB1 ⊢;rw[ht2]at hI2 hB2 ⊢;have htt:id=sb->t1=t2:=fun e=>by rw[<-ht1,<-ht2,e]
 clear ht1 ht2;by_cases hbo:t1=true/\t2=true
 ·rw[if_pos hbo];obtain⟨rfl,rfl⟩:=hbo;obtain⟨i,rfl,hio⟩:=hB1.1 rfl;obtain⟨s,rfl,hso⟩:=hB2.1 rfl;have hil:=hw.lt hio;have hsl:=hw.lt hso;rw[aX,aX];obtain⟨sv,ov,F,hr,hs⟩:=h;obtain⟨k0,k1,k2,k3,k4,kf,kl⟩:=hr.cells;obtain⟨g,cap,e1,e2,e3,e4,e5,e6⟩:=hr.at (by omega);subst e1;have c1:=e5 i hil 1 (by omega);have d1:=e5 s hsl 1 (by omega);rw[(hs.rel i hil).parent]at c1;rw[(hs.rel s hsl).parent]at d1;have c24:=e5 i hil 24 (by omega);have c25:=e5 i hil 25 (by omega);have c26:=e5 i hil 26 (by omega);have f24:=e6 (i*28+24);have f25:=e6 (i*28+25);have f26:=e6 (i*28+26);obtain⟨_,cur,hcur⟩:=hr.gType;have hne:¬c=g:=Aj hr.scr hcur (by decide);have hne2:g≠c:=fun e=>hne e.symm;have HOk:Hid (∀n:Nat,Br S c bv (0,upd st i (GU s ab)) w (.returned (.int .i64 0)) ((((w.drewN n).setCell ⟨g,i*28+24,none⟩ (.bool true)).setCell ⟨g,i*28+25,none⟩ (.int .i64 s)).setCell ⟨g,i*28+26,none⟩ (.bool ab))):=fun n=>by
   have hb:Below w.heap.size w (w.drewN n):=cS (aN _ _) n;have hr':=hr.below hb;have hs':=hs.below hb;have hcur':(w.drewN n).heap[g]?=some (.cells cur 214 (0,0)):=hcur;have hr2:=((hr'.set hil (show 24<28 by omega) (.bool true)).set hil (show 25<28 by omega) (.int .i64 s)).set hil (show 26<28 by omega) (.bool ab);have hpk:=BB (j:=i*28+26) (u:=.bool ab) hcur' (BB (j:=i*28+25) (u:=.int .i64 s) hcur' (BB (j:=i*28+24) (u:=.bool true) hcur' (w':=w.drewN n) fun _ _ _ _ _=>rfl));have q:=hs'.rel i hil;refine⟨rfl,Aw.mono (Aw.of_upd hr2 hil hs' (fun j hj=>by simp only[D7 _ _ _ _ hj]) (fun _ h=>h) hpk ?_ ?_) (fun _ h=>AI h),(((Ac.below hb).set (.inl e2) _).set (.inl e2) _).set (.inl e2) _⟩
   ·simp only[Bx];exact⟨q.alive,q.parent,q.nw,q.nh,q.nx,q.ny,q.ncut,q.n0,q.n1,q.n2,q.n3,q.nhint,q.xw,q.xh,q.xx,q.xy,q.xcut,q.x0,q.x1,q.x2,q.x3,q.xhint,rfl,rfl,rfl,q.kept⟩
   ·simp only[Bx];exact((hs'.dat i hil).other hpk).turn rfl rfl rfl rfl rfl ⟨rfl,rfl,rfl,rfl⟩ ⟨rfl,rfl,rfl,rfl⟩ rfl
  obtain⟨n,hn⟩:∃n,st.sfs.length=n:=⟨_,rfl⟩;have hmd:=hw.made;rw[hn]at k3 e3 hmd;have hin:i<n:=by omega
  have hsn:s<n:=by omega
  have hcap:i<cap:=by omega
  have hscap:s<cap:=by omega
  have hinI:(i:Int)<(n:Int):=by omega
  have hsnI:(s:Int)<(n:Int):=by omega
  have hi0:(0:Int)<=(i:Int):=by omega
  have hs0:(0:Int)<=(s:Int):=by omega
  have HI1:=Aa hI1;have HI2:=Aa hI2;clear hr hs kf hn e5 e6 hcur hil hsl hB1 hB2 hI1 hI2;by_cases his:(i:Int)=(s:Int)
  ·rw[if_neg (fun hh=>hh.1 his)];have hdec:decide ((i:Int)=(s:Int))=true:=by simpa using his
   have hbeq:((i:Int)==(s:Int))=true:=by simpa using his
   go_enter func148,ntmps148
   go_upto_region 5 with(first
    |(go_at_call_of 127 (Value.int .i64 (i:Int));refine HI1.out.mono ?_;rintro e w' ⟨rfl,hw'⟩;replace hw':=hw'.symm;subst hw')
    |(go_at_call 127;refine HI2.out.mono ?_;rintro e w' ⟨rfl,hw'⟩;replace hw':=hw'.symm;subst hw'))
   go_quiet (fail)
   go_wp2;go_ret;exact HE.out 8 _ (cS (aN _ _) _)
  ·have hdec:decide ((i:Int)=(s:Int))=false:=by simpa using his
   have hbeq:((i:Int)==(s:Int))=false:=by simpa using his
   by_cases hpp:(st.sf i).parent=(st.sf s).parent
   ·rw[if_pos ⟨his,hpp⟩];rw[<-hpp]at d1;generalize (st.sf i).parent=P at*;go_enter func148,ntmps148
    go_upto_region 5 with(first
     |(go_at_call_of 127 (Value.int .i64 (i:Int));refine HI1.out.mono ?_;rintro e w' ⟨rfl,hw'⟩;replace hw':=hw'.symm;subst hw')
     |(go_at_call 127;refine HI2.out.mono ?_;rintro e w' ⟨rfl,hw'⟩;replace hw':=hw'.symm;subst hw'))
    go_quiet (fail)
    go_wp2;go_ret;exact HOk.out _
   ·rw[if_neg (fun hh=>hpp hh.2)];generalize (st.sf i).parent=P at*;generalize (st.sf s).parent=Q at*;go_enter func148,ntmps148
    go_upto_region 5 with(first
     |(go_at_call_of 127 (Value.int .i64 (i:Int));refine HI1.out.mono ?_;rintro e w' ⟨rfl,hw'⟩;replace hw':=hw'.symm;subst hw')
     |(go_at_call 127;refine HI2.out.mono ?_;rintro e w' ⟨rfl,hw'⟩;replace hw':=hw'.symm;subst hw'))
    go_quiet (fail)
    go_wp2;go_ret;exact HE.out 8 _ (cS (aN _ _) _)
 ·rw[if_neg hbo];have HI1:=Aa hI1;have HI2:=Aa hI2;clear hB1 hB2 hI1 hI2 h;by_cases hii:id=sb
  ·have h2:=htt hii;subst hii;subst h2;cases t1<;>simp at hbo
   all_goals
    go_enter func148,ntmps148
    go_wp2_with(go_at_call 127;refine HI1.out.mono ?_;rintro e w' ⟨rfl,hw'⟩;replace hw':=hw'.symm;subst hw')
    go_ret;exact HE.out 6 _ (aN _ _)
  ·cases t1<;>cases t2<;>simp at hbo
   all_goals
    go_enter func148,ntmps148
    go_wp2_with(first
     |(go_at_call_of 127 (Value.int .i64 id);refine HI1.out.mono ?_;rintro e w' ⟨rfl,hw'⟩;replace hw':=hw'.symm;subst hw')
     |(go_at_call_of 127 (Value.int .i64 sb);refine HI2.out.mono ?_;rintro e w' ⟨rfl,hw'⟩;replace hw':=hw'.symm;subst hw'))
    go_ret;exact HE.out 6 _ (aN _ _)
variable{F:Nat->Nat->Value}{H W:Int}{S':Nat->Prop}{ov ov' sv sv':Value}{n:Nat}{ord:List Nat}{w2:World}
theorem Cx{ops:Array Oper}{rest:List Oper}{o:Oper}{a:Act}{Q:Exit->Act->World->Prop}(hgd:o.guard=none)(s x:Operand)
  (ho:o.op=.call {callee:=.builtin .append,args:=#[s,x],argTypes:=#[24,24] }) (base:Nat) (v:Value) (E:List Nat) (hs:a.eval s=v) (hown:Ca w base v E) (b j:Nat) (hx:a.eval x=.slice (some ⟨b,0,none⟩) 1 1)
  (hb:w.heap[b]?=some (.cells #[.int .i64 (j:Int)] 3 (0,0))) (hl:E.length<=1000) (hbase:base<=w.heap.size)
  (h:∀v' w',Ca w' base v' (E++[j])->w.grownBy w' v.ownBlock->(v'.ownBlock=v.ownBlock\/v'.ownBlock=some w.heap.size)->wpList prog ops Q rest (a.put o.dst v') w'):wpList prog ops Q (o::rest) a w:=by
 obtain⟨i0,hi0,hz0,hz1,hz2⟩:=cW EJ;refine Am (P:=prog) hgd s x 24 ho base 3 i0 _ 1 8 underlying24 hi0 hz0 hz1 hz2 rfl (by decide) v E.length (E.map fun(i:Nat)=>Value.int .i64 (i:Int)) hs hown _ 1 [.int .i64 j] hx rfl (.inr ⟨_,_,rfl,bI (cs:=#[.int .i64 j]) (t:=3) (fr:=(0,0)) hb⟩) (by simp[Value.oneCell']) (by unfold maxLen;omega) (by omega) hbase ?_;intro v' w' h1 h2 _ h3;refine h v' w' ?_ h2 h3;unfold Ca;rw[aY,cL];exact h1
def VA(S:Nat->Prop)(c:Nat)(bv:Value)(p:Int×Int×St)(w:World)(e:Ending)(w':World):Prop:=e=.returned (.tuple #[.int .i64 p.1,.int .i64 p.2.1])/\Aw w' (AA S w w') c p.2.2 bv/\Ac S w w'
theorem BC{u:Option Nat}{T:TypeId}(hg:w.grownBy w2 u)(hu:∀g,u=some g->∃cur,w.heap[g]?=some (.cells cur T (0,0))):∀(t:TypeId),t≠T->∀(b:Nat) (cur:Array Value),w.heap[b]?=some (.cells cur t (0,0))->w2.heap[b]?=w.heap[b]? :=fun t ht b cur hb=>by
 refine hg.block b (aM.1 hb).1 fun e=>?_;obtain⟨c2,h2⟩:=hu b e.symm;exact Aj hb h2 ht rfl
theorem B3.newOrd{ord':List Nat}(h:B3 w S c W H n ord bv sv ov F)(hS:∀g,S g->S' g)(hk:∀(t:TypeId),t≠3->∀(b:Nat) (cur:Array Value),w.heap[b]?=some (.cells cur t (0,0))->w2.heap[b]?=w.heap[b]?)(ho:A4 w2 S' 3 1 ov' ord'.length (ord'.map fun(i:Nat)=>.int .i64 (i:Int))):B3 (w2.setCell ⟨c,4,none⟩ ov') S' c W H n ord' bv sv ov' F:=by
 obtain⟨h1,h2,⟨xs,h3,h4⟩,h5⟩:=h;have hc2:w2.heap[c]?=some (.cells #[.int .i64 W,.int .i64 H,bv,sv,ov] 202 (0,0)):=(hk _ (by decide) c _ h1).trans h1;have hk2:∀(T:TypeId),T≠202->∀(b:Nat) (cur:Array Value),w2.heap[b]?=some (.cells cur T (0,0))->(w2.setCell ⟨c,4,none⟩ ov').heap[b]?=w2.heap[b]? :=fun T hT b cur hb=>aL w2 ⟨c,4,none⟩ b ov' (Aj hb hc2 hT);refine⟨bH w2 c 4 _ _ ov' hc2,hS _ h2,⟨xs,((h3.mono hS).other (hk _ (by decide))).other (hk2 _ (by decide)),h4⟩,ho.other (hk2 _ (by decide))⟩
theorem B3.newSfs{n':Nat}{F':Nat->Nat->Value}(h:B3 w S c W H n ord bv sv ov F)(hS:∀g,S g->S' g)(hk:∀(t:TypeId),t≠214->∀(b:Nat) (cur:Array Value),w.heap[b]?=some (.cells cur t (0,0))->w2.heap[b]?=w.heap[b]?)(ho:∃xs,A4 w2 S' 214 28 sv' n' xs/\∀i,i<n'->∀o,o<28->xs[i*28+o]?=some (F' i o)):B3 (w2.setCell ⟨c,3,none⟩ sv') S' c W H n' ord bv sv' ov F':=by
 obtain⟨h1,h2,⟨xs,h3,h4⟩,h5⟩:=h;obtain⟨zs,z1,z2⟩:=ho;have hc2:w2.heap[c]?=some (.cells #[.int .i64 W,.int .i64 H,bv,sv,ov] 202 (0,0)):=(hk _ (by decide) c _ h1).trans h1;have hk2:∀(T:TypeId),T≠202->∀(b:Nat) (cur:Array Value),w2.heap[b]?=some (.cells cur T (0,0))->(w2.setCell ⟨c,3,none⟩ sv').heap[b]?=w2.heap[b]? :=fun T hT b cur hb=>aL w2 ⟨c,3,none⟩ b sv' (Aj hb hc2 hT);refine⟨bH w2 c 3 _ _ sv' hc2,hS _ h2,⟨zs,z1.other (hk2 _ (by decide)),z2⟩,((h5.mono hS).other (hk _ (by decide))).other (hk2 _ (by decide))⟩
def CT(p:Int):List Value:=[.bool true,.int .i64 p,.int .i64 0,.int .i64 0,.slice none 0 0,.int .i64 0,.int .i64 0,.bool false,.int .i64 0,.int .i64 0,.int .i64 0,.int .i64 0,.slice none 0 0,.int .i64 0,.int .i64 0,.slice none 0 0,.int .i64 0,.int .i64 0,.bool false,.int .i64 0,.int .i64 0,.int .i64 0,.int .i64 0,.slice none 0 0,.bool false,.int .i64 0,.bool false,.slice none 0 0]
theorem VB:(prog.info? 214).map (fun i=>(i.zero,i.size,i.bytes))=some (some (.agg #[.bool false,.int .i64 0,.int .i64 0,.int .i64 0,.slice none 0 0,.int .i64 0,.int .i64 0,.bool false,.int .i64 0,.int .i64 0,.int .i64 0,.int .i64 0,.slice none 0 0,.int .i64 0,.int .i64 0,.slice none 0 0,.int .i64 0,.int .i64 0,.bool false,.int .i64 0,.int .i64 0,.int .i64 0,.int .i64 0,.slice none 0 0,.bool false,.int .i64 0,.bool false,.slice none 0 0]),28,304):=by kernel_rfl
def MQ(F:Nat->Nat->Value)(n:Nat)(p:Int):Nat->Nat->Value:=fun j=>if j=n then(fun o=>(CT p).getD o undef)else F j
theorem TR(h:C9 w S st F)(hS:∀g,S g->S' g)(hk:∀(b:Nat) (cur:Array Value) (t:TypeId),Jj t->w.heap[b]?=some (.cells cur t (0,0))->w2.heap[b]?=w.heap[b]?)(p:Int):C9 w2 S' (mk st p) (MQ F st.sfs.length p):=by
 refine⟨fun j hj=>?_,fun j hj=>?_⟩
 ·rw[Ga]at hj;rw[Dt];unfold MQ;by_cases e:j=st.sfs.length
  ·rw[if_pos e,if_pos e];exact⟨rfl,rfl,rfl,rfl,rfl,rfl,rfl,rfl,rfl,rfl,rfl,⟨_,_,_,rfl⟩,rfl,rfl,rfl,rfl,rfl,rfl,rfl,rfl,rfl,⟨_,_,_,rfl⟩,rfl,rfl,rfl,⟨_,_,_,rfl⟩⟩
  ·rw[if_neg e,if_neg e];exact h.rel j (by omega)
 ·rw[Ga]at hj;rw[Dt];unfold MQ;by_cases e:j=st.sfs.length
  ·rw[if_pos e,if_pos e];exact⟨AC.nil _ _ _,AC.nil _ _ _,Bg.nil _ _,Bg.nil _ _,AH.nil _ _ _⟩
  ·rw[if_neg e,if_neg e];exact((h.dat j (by omega)).mono hS).other hk
theorem VC{w1:World}{p:Int}{xs:List Value}(hr:B3 w S c st.w st.h st.sfs.length st.order bv sv ov F)(hs:C9 w S st F)(o1:Obj)
  (hg1:(w.alloc o1).grownBy w1 sv.ownBlock) (hv1:w1.ownsRow 0 214 28 sv' (st.sfs.length+1) (xs++CT p)) (hx:A4 w S 214 28 sv st.sfs.length xs) (hxF:∀i,i<st.sfs.length->∀o,o<28->xs[i*28+o]?=some (F i o)) (hl1:sv'.ownBlock=sv.ownBlock\/sv'.ownBlock=some (w.heap.size+1)) (o2:Obj)
  (hg2:((w1.setCell ⟨c,3,none⟩ sv').alloc o2).grownBy w2 ov.ownBlock) (hv2:w2.ownsRow 0 3 1 ov' (st.order.length+1) ((st.order.map fun(i:Nat)=>.int .i64 (i:Int))++[.int .i64 (st.sfs.length:Int)])) (hl2:ov'.ownBlock=ov.ownBlock\/ov'.ownBlock=some (w1.heap.size+1)):
  Aw (w2.setCell ⟨c,4,none⟩ ov') (AA S w w2) c (mk st p) bv/\Ac S w (w2.setCell ⟨c,4,none⟩ ov'):=by
 have z1:=hg1.size;have z2:=hg2.size;have z0:(w.alloc o1).heap.size=w.heap.size+1:=by simp
 have z3:((w1.setCell ⟨c,3,none⟩ sv').alloc o2).heap.size=w1.heap.size+1:=by simp
 have hS:∀g,S g->AA S w w2 g:=fun _ h=>AI h;have ha:=hr.below (al1 (aO _) o1);have hxa:A4 (w.alloc o1) S 214 28 sv st.sfs.length xs:=hx.keep fun g _ hg=>Ad w o1 g hg;have hk1:=BC (T:=214) hg1 fun g hg=>hxa.type hg;have hlen:=hx.len;have r1:=ha.newSfs (w2:=w1) (S':=AA S w w2) (sv':=sv') (n':=st.sfs.length+1) (F':=MQ F st.sfs.length p) hS hk1 ⟨xs++CT p,⟨hv1,fun g hg=>by
   have hlt:=(hv1.lt g hg).2;rcases hl1 with h|h
   ·rw[h]at hg;exact .inl (hx.2 g hg)
   ·rw[h]at hg;cases hg;exact .inr ⟨by omega,by omega⟩⟩,fun i hi o ho=>by
  unfold MQ;by_cases e:i=st.sfs.length
  ·subst e;rw[if_pos rfl,bO (by omega),hlen,show st.sfs.length*28+o-st.sfs.length*28=o by omega];have:o<(CT p).length:=ho;rw[bu,aU this];rfl
  ·rw[if_neg e,cA (by omega)];exact hxF i (by omega) o ho⟩
 have hc1:w1.heap[c]?=(w.alloc o1).heap[c]? :=hk1 _ (by decide) c _ ha.scr;have r2:=r1.below (al1 (aO _) o2);have hk2:=BC (T:=3) hg2 fun g hg=>r2.ord.type hg;have r3:=r2.newOrd (w2:=w2) (S':=AA S w w2) (ov':=ov') (ord':=(mk st p).order) (fun _ h=>h) hk2 ⟨by
   show w2.ownsRow 0 _ 1 ov' (st.order++[st.sfs.length]).length ((st.order++[st.sfs.length]).map _);rw[aY,cL];exact hv2,fun g hg=>by
   have hlt:=(hv2.lt g hg).2;rcases hl2 with h|h
   ·rw[h]at hg;exact .inl (hr.ord.2 g hg)
   ·rw[h]at hg;cases hg;exact .inr ⟨by omega,by omega⟩⟩
 have hpk:∀(b:Nat) (cur:Array Value) (t:TypeId),Jj t->w.heap[b]?=some (.cells cur t (0,0))->(w2.setCell ⟨c,4,none⟩ ov').heap[b]?=w.heap[b]? :=fun b cur t ht hb=>by
  have hbl:=(aM.1 hb).1;have hbc:b≠c:=Aj hb hr.scr (Du ht).2.1;have q1:(w.alloc o1).heap[b]?=w.heap[b]? :=Ad w o1 b hbl;have q2:=hk1 _ (Du ht).1 b cur (q1.trans hb);have q3:(w1.setCell ⟨c,3,none⟩ sv').heap[b]?=w1.heap[b]? :=aL w1 ⟨c,3,none⟩ b sv' hbc;have q4:((w1.setCell ⟨c,3,none⟩ sv').alloc o2).heap[b]?=(w1.setCell ⟨c,3,none⟩ sv').heap[b]? :=Ad _ o2 b (by simp;omega);have q5:=hk2 t (Du ht).2.2.1 b cur (q4.trans (q3.trans (q2.trans (q1.trans hb))));rw[aL w2 ⟨c,4,none⟩ b ov' hbc,q5,q4,q3,q2,q1]
 refine⟨⟨sv',ov',MQ F st.sfs.length p,?_,TR hs hS hpk p⟩,?_⟩
 ·have h9:=r3;rw[<-Ga st p]at h9;exact h9
 ·have a1:Ac S w w1:=((Ac.refl S w).alloc o1).grown hg1 fun g hg=>.inl (hx.2 g hg);have a2:Ac S w w2:=((a1.set (p:=⟨c,3,none⟩) (.inl hr.own) sv').alloc o2).grown hg2 fun g hg=>.inl (hr.ord.2 g hg);exact a2.set (p:=⟨c,4,none⟩) (.inl hr.own) ov'
theorem P6(hw:Wf st)(p:Int)(w:World)(h:Aw w S c st bv):
  Calls prog 89 #[.pointer (some ⟨c,0,none⟩),.int .i64 p] w (VA S c bv (Bo st p) w):=by
 obtain⟨i0,hi0,hz0,hz1,hz2⟩:=cW EJ;obtain⟨j0,hj0,hy0,hy1,hy2⟩:=cW VB;have hIs:=D6 (S:=S) (c:=c) (st:=st) (bv:=bv) p w h hw.made;have HSame:Hid (∀a b:Int,VA S c bv (a,b,st) w (.returned (.tuple #[.int .i64 a,.int .i64 b])) w):=fun a b=>⟨rfl,h.mono fun _ hg=>AI hg,Ac.refl _ _⟩;unfold Bo;obtain⟨t,ht⟩:∃t,st.isB p=t:=⟨_,rfl⟩;rw[ht]at hIs ⊢;clear ht;obtain⟨sv,ov,F,hr,hs⟩:=h;obtain⟨k0,k1,k2,k3,k4,kf,kl⟩:=hr.cells;obtain⟨sa,scap,hsv⟩:=hr.svForm;obtain⟨oa,ocap,hov⟩:=hr.ovForm;subst hsv hov;obtain⟨n,hn⟩:∃n,st.sfs.length=n:=⟨_,rfl⟩;obtain⟨m,hm⟩:∃n,st.order.length=n:=⟨_,rfl⟩;have hmd:=hw.made;have hm12:=hw.len;have f3:=kf 3;have f4:=kf 4;rw[hn]at k3 hmd;rw[hm]at k4 hm12;have HIs:=Aa hIs;have HH:=Aa (aK hr (aK hs (aK hn hm)));clear hr hs kf hIs;by_cases hp:p= -1\/t=true
 ·rw[if_pos hp];have hcond:¬(p≠-1/\t=false):=by rintro⟨h1,h2⟩;rcases hp with h|h;exact h1 h;rw[h2]at h;cases h
  by_cases hfull:m<12/\n<60
  ·rw[if_pos (by rw[hn,hm];exact hfull)];obtain⟨hm2,hn2⟩:=hfull;obtain⟨xs,hx,hxF⟩:=HH.out.1.sfs;have HX:=Aa (aK hx hxF);have HK1:Hid (∀(o:Obj) (w1:World),(w.alloc o).grownBy w1 (Value.slice sa n scap).ownBlock->w1.cell? ⟨c,3,none⟩=some (.slice sa n scap)/\w1.cell? ⟨c,4,none⟩=some (.slice oa m ocap)/\w1.frozen? ⟨c,3,none⟩=false/\w1.frozen? ⟨c,4,none⟩=false/\c<w1.heap.size/\(∀(v:Value) (o2:Obj),Ca ((w1.setCell ⟨c,3,none⟩ v).alloc o2) 0 (.slice oa m ocap) st.order)/\∀(v:Value) (o2:Obj) (w2:World),((w1.setCell ⟨c,3,none⟩ v).alloc o2).grownBy w2 (Value.slice oa m ocap).ownBlock->w2.cell? ⟨c,4,none⟩=some (.slice oa m ocap)/\w2.frozen? ⟨c,4,none⟩=false):=by
    intro o w1 hg;have hxa:A4 (w.alloc o) S 214 28 (.slice sa n scap) n xs:=(by have h9:=HX.out.1;rw[HH.out.2.2.1]at h9;exact h9.keep fun g _ hg=>Ad w o g hg);have hk1:=BC (T:=214) hg fun g hg=>hxa.type hg;have hra:=HH.out.1.below (al1 (aO _) o);have hc:=(hk1 _ (by decide) c _ hra.scr).trans hra.scr;have hord:=hra.ord.other (hk1 _ (by decide));have hsc:Ax w1 c 202 5:=⟨_,hc,rfl⟩;rw[HH.out.2.2.1,HH.out.2.2.2]at hc;have h8:∀(v:Value) (o2:Obj),Ca ((w1.setCell ⟨c,3,none⟩ v).alloc o2) 0 (.slice oa m ocap) st.order:=fun v o2=>by
     have h8:=(hord.other (w':=w1.setCell ⟨c,3,none⟩ v) fun b cur hb=>aL w1 ⟨c,3,none⟩ b v (Aj hb hc (by decide))).1;rw[HH.out.2.2.2]at h8;unfold Ca;rw[HH.out.2.2.2];exact h8.alloc o2
    refine⟨(aP w1 c 3 _ _ _ hc).trans rfl,(aP w1 c 4 _ _ _ hc).trans rfl,hsc.free 3,hsc.free 4,hsc.lt,h8,fun v o2 w2 hg2=>?_⟩;have hk2:=BC (T:=3) hg2 fun g hg=>Ap (h8 v o2) hg;have hb1:Blk w1 c 202 #[.int .i64 st.w,.int .i64 st.h,bv,.slice sa n scap,.slice oa m ocap]:=hc;have hb2:=(hb1.set 3 v).alloc o2;have hb3:Blk w2 c _ _:=(hk2 _ (by decide) c _ hb2).trans hb2;exact⟨hb3.cell 4,hb3.has.free 4⟩
   have HMd:Hid (∀(w1 w2:World) (sv' ov':Value) (o1 o2:Obj),(w.alloc o1).grownBy w1 (Value.slice sa n scap).ownBlock->w1.ownsRow 0 214 28 sv' (n+1) (xs++CT p)->(sv'.ownBlock=(Value.slice sa n scap).ownBlock\/sv'.ownBlock=some (w.alloc o1).heap.size)->((w1.setCell ⟨c,3,none⟩ sv').alloc o2).grownBy w2 (Value.slice oa m ocap).ownBlock->Ca w2 0 ov' (st.order++[n])->(ov'.ownBlock=(Value.slice oa m ocap).ownBlock\/ov'.ownBlock=some ((w1.setCell ⟨c,3,none⟩ sv').alloc o2).heap.size)->VA S c bv ((n:Int),0,mk st p) w (.returned (.tuple #[.int .i64 (n:Int),.int .i64 0])) (w2.setCell ⟨c,4,none⟩ ov')):=by
    intro w1 w2 sv' ov' o1 o2 a1 a2 a3 a4 a5 a6;have hr:=HH.out.1;have hs:=HH.out.2.1;have e1:=HH.out.2.2.1;have e2:=HH.out.2.2.2;subst e1 e2;obtain⟨q1,q2⟩:=VC (p:=p) hr hs o1 a1 a2 HX.out.1 HX.out.2 (by simpa using a3) o2 a4 (by unfold Ca at a5;rw[aY,cL]at a5;exact a5) (by simpa using a6);refine⟨rfl,q1.mono fun g hg=>?_,q2⟩;rcases hg with hg|hg
    ·exact .inl hg
    ·exact .inr ⟨hg.1,by simpa using hg.2⟩
   have hm1:st.order.length<=1000:=by rw[hm];omega
   have hone:∀u∈CT p,u.oneCell'=true:=by
    intro u hu;simp only[CT,cw,List.not_mem_nil,or_false]at hu;rcases hu with rfl|rfl|rfl|rfl|rfl|rfl|rfl|rfl|rfl|rfl|rfl|rfl|rfl|rfl|rfl|rfl|rfl|rfl|rfl|rfl|rfl|rfl|rfl|rfl|rfl|rfl|rfl|rfl<;>rfl
   have HOne:=Aa hone;have HRow:Hid (∀o,(w.alloc o).ownsRow 0 214 28 (.slice sa n scap) n xs):=fun o=>by
    have h9:=HX.out.1.1;rw[HH.out.2.2.1]at h9;exact h9.alloc o
   have hml:(m:Int)<12:=by omega
   have hnl:(n:Int)<60:=by omega
   rw[hn];clear hx hxF hn hm hone;by_cases hp1:p= -1
   ·subst hp1;go_enter func89,ntmps89
    go_wp2_with(first
     |(go_at_call 127;refine HIs.out.mono ?_;rintro e w' ⟨rfl,hw'⟩;replace hw':=hw'.symm;subst hw')
     |(at_builtin;refine Am (P:=prog) rfl (.tmp 40) (.tmp 43) 200 rfl 0 214 j0 _ 28 304 underlying200 hj0 hy0 hy1 hy2 rfl (by decide) (.slice sa n scap) n xs rfl (HRow.out _) (.slice (some ⟨w.heap.size,0,none⟩) 1 1) 1 (CT (-1)) rfl rfl (.inr ⟨_,_,rfl,bI (cs:=(CT (-1)).toArray) (t:=214) (fr:=(0,0)) (aR w _)⟩) HOne.out (by unfold maxLen;omega) (by omega) (by omega) ?_;intro v1 w1 ho1 hg1 hn1 ha1;obtain⟨va,vc,hvf⟩:=Al ho1;subst hvf;obtain⟨y3,y4,z3,z4,ycl,yo,yc⟩:=HK1.out _ w1 hg1;have H1:=Aa (aK ho1 (aK hg1 (aK ha1 (aK yo yc))));clear ho1 hg1 hn1 ha1 yo yc)
     |(at_builtin;refine Cx rfl (.tmp 51) (.tmp 53) rfl 0 _ st.order rfl (H1.out.2.2.2.1 _ _) w1.heap.size n rfl (by have h9:=aR (w1.setCell ⟨c,3,none⟩ (.slice va (n+1) vc)) (.cells #[.int .i64 (n:Int)] 3);simpa using h9) hm1 (by omega) ?_;intro v2 w2 ho2 hg2 ha2;obtain⟨vb,vd,hvf⟩:=Al ho2;obtain⟨mm,hmm⟩:∃k,(st.order++[n]).length=k:=⟨_,rfl⟩;rw[hmm]at hvf;subst hvf;clear hmm;obtain⟨x4,u4⟩:=H1.out.2.2.2.2 _ _ w2 hg2;have H2:=Aa (aK ho2 (aK hg2 ha2));clear ho2 hg2 ha2))
    go_ret2
    exact HMd.out w1 w2 _ _ _ _ H1.out.2.1 H1.out.1 H1.out.2.2.1 H2.out.2.1 H2.out.1 H2.out.2.2
   ·have htt:t=true:=by rcases hp with h|h;exact absurd h hp1;exact h
    subst htt;go_enter func89,ntmps89
    go_wp2_with(first
     |(go_at_call 127;refine HIs.out.mono ?_;rintro e w' ⟨rfl,hw'⟩;replace hw':=hw'.symm;subst hw')
     |(at_builtin;refine Am (P:=prog) rfl (.tmp 40) (.tmp 43) 200 rfl 0 214 j0 _ 28 304 underlying200 hj0 hy0 hy1 hy2 rfl (by decide) (.slice sa n scap) n xs rfl (HRow.out _) (.slice (some ⟨w.heap.size,0,none⟩) 1 1) 1 (CT p) rfl rfl (.inr ⟨_,_,rfl,bI (cs:=(CT p).toArray) (t:=214) (fr:=(0,0)) (aR w _)⟩) HOne.out (by unfold maxLen;omega) (by omega) (by omega) ?_;intro v1 w1 ho1 hg1 hn1 ha1;obtain⟨va,vc,hvf⟩:=Al ho1;subst hvf;obtain⟨y3,y4,z3,z4,ycl,yo,yc⟩:=HK1.out _ w1 hg1;have H1:=Aa (aK ho1 (aK hg1 (aK ha1 (aK yo yc))));clear ho1 hg1 hn1 ha1 yo yc)
     |(at_builtin;refine Cx rfl (.tmp 51) (.tmp 53) rfl 0 _ st.order rfl (H1.out.2.2.2.1 _ _) w1.heap.size n rfl (by have h9:=aR (w1.setCell ⟨c,3,none⟩ (.slice va (n+1) vc)) (.cells #[.int .i64 (n:Int)] 3);simpa using h9) hm1 (by omega) ?_;intro v2 w2 ho2 hg2 ha2;obtain⟨vb,vd,hvf⟩:=Al ho2;obtain⟨mm,hmm⟩:∃k,(st.order++[n]).length=k:=⟨_,rfl⟩;rw[hmm]at hvf;subst hvf;clear hmm;obtain⟨x4,u4⟩:=H1.out.2.2.2.2 _ _ w2 hg2;have H2:=Aa (aK ho2 (aK hg2 ha2));clear ho2 hg2 ha2))
    all_goals
     go_ret2
     exact HMd.out w1 w2 _ _ _ _ H1.out.2.1 H1.out.1 H1.out.2.2.1 H2.out.2.1 H2.out.1 H2.out.2.2
  ·rw[if_neg (by rw[hn,hm];exact hfull)];rcases hp with hp|hp
   ·subst hp;by_cases hm3:(m:Int)<12
    ·have hn3:¬(n:Int)<60:=by omega
     go_enter func89,ntmps89
     go_wp2_with(go_at_call 127;refine HIs.out.mono ?_;rintro e w' ⟨rfl,hw'⟩;replace hw':=hw'.symm;subst hw')
     go_ret2
     exact HSame.out 0 9
    ·go_enter func89,ntmps89
     go_wp2_with(go_at_call 127;refine HIs.out.mono ?_;rintro e w' ⟨rfl,hw'⟩;replace hw':=hw'.symm;subst hw')
     go_ret2
     exact HSame.out 0 9
   ·subst hp;by_cases hm3:(m:Int)<12
    ·have hn3:¬(n:Int)<60:=by omega
     go_enter func89,ntmps89
     go_wp2_with(go_at_call 127;refine HIs.out.mono ?_;rintro e w' ⟨rfl,hw'⟩;replace hw':=hw'.symm;subst hw')
     all_goals
      go_ret2
      exact HSame.out 0 9
    ·go_enter func89,ntmps89
     go_wp2_with(go_at_call 127;refine HIs.out.mono ?_;rintro e w' ⟨rfl,hw'⟩;replace hw':=hw'.symm;subst hw')
     all_goals
      go_ret2
      exact HSame.out 0 9
 ·rw[if_neg hp];have h1:¬p= -1:=fun e=>hp (.inl e);cases t with
  |true=>exact absurd (.inr rfl) hp
  |false=>
   go_enter func89,ntmps89
   go_wp2_with(go_at_call 127;refine HIs.out.mono ?_;rintro e w' ⟨rfl,hw'⟩;replace hw':=hw'.symm;subst hw')
   go_ret2
   exact HSame.out 0 6
end Go.Proofs.YtofinpocigbbeaaGreat
