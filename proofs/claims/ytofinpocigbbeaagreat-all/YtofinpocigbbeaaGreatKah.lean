import Derived.Test.YtofinpocigbbeaaGreatKag
set_option maxHeartbeats 1000000
set_option maxRecDepth 100000
set_option linter.unusedSimpArgs false
namespace Go.Proofs.YtofinpocigbbeaaGreat
open Go.Proofs.Tryz Go.RowKit
attribute [local go_sem ↓] Go.wp_at_zero Go.wp_at_succ
theorem Pm(rg nw k q:Nat)(hn:nw<4)(hk:k<4)(hq:q=(nw+4-k)%4)(da:Option Addr)(dn dc:Nat)(w:World)(hc:w.cell? (jA rg q)=some (.slice da dn dc)):
  Calls prog 104 #[.agg #[sj rg 4 4,vj nw],vj k] w fun e w'=>e=.returned (.agg #[.slice da dn dc])/\uj w w':=by
 have hl:=Ak hc;have e3:((nw:Int)-(k:Int)+4).tmod 4=q:=by rw[Int.tmod_eq_emod_of_nonneg (by omega)];omega
 have hq4:q<4:=by omega
 have hq4':(q:Int)<4:=by omega
 have hq0:(0:Int)<=(q:Int):=by omega
 clear hq;go_enter func104,ntmps104
 go_wp2_with fail
 go_region
 go_wp2_with fail
 refine cU (v:=.agg #[.slice da dn dc]) (by simp[results,results104,go_sem]) rfl ⟨rfl,?_⟩;repeat(first|exact aN _ _|refine bD ?_ |refine cO ?_ (by simp<;>omega) _|refine bS ?_ (by simp<;>omega) _)
theorem To(c o rg nw:Nat)(hn:nw<4)(da:Option Addr)(dn dc:Nat)(cs:Array Value)(w:World)(h5:w.cell? (jA c o)=some (sj rg 4 4))(h6:w.cell? (jA c (o+1))=some (vj nw))(hr:Blk w rg 136 cs)(hs:cs.size=4):
  Calls prog 102 #[.pointer (some (jA c o)),.agg #[.slice da dn dc]] w fun e w'=>e=.returned (.tuple #[])/\Blk w' rg 136 (cs.setIfInBounds nw (.slice da dn dc))/\Ac (fun g=>g=rg) w w':=by
 have hl:=Ak h5;have hl2:=Ab hr;obtain⟨u,hu⟩:∃u,w.cell? (jA rg nw)=some u:=hr.has.cell nw (by omega);have hf:=hr.has.free nw;have HR:=Aa hr;clear hr;have hn':(nw:Int)<4:=by omega
 have hn0:(0:Int)<=(nw:Int):=by omega
 go_enter func102,ntmps102
 go_wp2_with fail
 go_region
 go_wp2_with fail
 refine cV (v:=.tuple #[]) (by simp[results,results102]) rfl ⟨rfl,?_,?_⟩
 ·exact((HR.out.set nw _).alloc _)
 ·exact(((Ac.refl (fun g=>g=rg) w).set (.inl rfl) _).alloc _).drew
theorem Pn(c rg nw q:Nat)(hn:nw<4)(hq:q=(nw+1)%4)(da:Option Addr)(dn dc:Nat)(cc cs:Array Value)(T:TypeId)(w:World)(hc:Blk w c T cc)(h5:cc[5]?=some (sj rg 4 4))(h6:cc[6]?=some (vj nw))(hr:Blk w rg 136 cs)(hs:cs.size=4)(hne:c≠rg):
  Calls prog 117 #[.pointer (some (jA c 5)),.agg #[.slice da dn dc]] w fun e w'=>e=.returned (.tuple #[])/\Blk w' c T (cc.setIfInBounds 6 (vj q))/\Blk w' rg 136 (cs.setIfInBounds q (.slice da dn dc))/\Ac (fun g=>g=c\/g=rg) w w':=by
 have k5:w.cell? (jA c 5)=some (sj rg 4 4):=(hc.cell 5).trans h5;have k6:w.cell? (jA c 6)=some (vj nw):=(hc.cell 6).trans h6;have hl:=Ak k5;have hl2:=Ab hr;obtain⟨u,hu⟩:∃u,w.cell? (jA rg q)=some u:=hr.has.cell q (by omega);have hf:=hr.has.free q;have hf6:=hc.has.free 6;have HR:=Aa hr;have HC:=Aa hc;clear hr hc h5 h6;have e3:((nw:Int)+1).tmod 4=q:=by rw[Int.tmod_eq_emod_of_nonneg (by omega)];omega
 have hn':(q:Int)<4:=by omega
 have hn'':q<4:=by omega
 have hn0:(0:Int)<=(q:Int):=by omega
 have hne':rg≠c:=fun e=>hne e.symm;clear hq;go_enter func117,ntmps117
 go_wp2_with fail
 go_region
 go_wp2_with fail
 go_region
 go_wp2_with fail
 refine cV (v:=.tuple #[]) (by simp[results,results117]) rfl ⟨rfl,?_,?_,?_⟩
 ·exact(((HC.out.set 6 _).other hne _ _).alloc _)
 ·exact(((HR.out.other hne' _ _).set q _).alloc _)
 ·exact((((Ac.refl (fun g=>g=c\/g=rg) w).set (.inl (.inl rfl)) _).set (.inl (.inr rfl)) _).alloc _).drew.drew
variable{L:List (Int×Int)}{S S':Nat->Prop}{base c g rg:Nat}{bv v:Value}{dv:Array Value}{w w':World}
abbrev Rgn:=List (Int×Int×List (Int×Int))
def Bj(w:World)(g n:Nat)(f:Nat->R4):Prop:=
 ∃cur:Array Value,w.heap[g]?=some (.cells cur 51 (0,0))/\cur.size=n*4/\∀k,k<n->cur[k*4]?=some (.int .u8 (f k).1)/\cur[k*4+1]?=some (.int .u8 (f k).2.1)/\cur[k*4+2]?=some (.int .u8 (f k).2.2.1)/\cur[k*4+3]?=some (.int .u8 (f k).2.2.2)
theorem Bj.keep{n:Nat}{f:Nat->R4}(h:Bj w g n f)(hk:w'.heap[g]?=w.heap[g]?):Bj w' g n f:=by
 obtain⟨cur,h1,h2⟩:=h;exact⟨cur,hk.trans h1,h2⟩
structure Buf where
 g:Nat
 age:Nat
 f:Nat->R4
def DN(W H:Nat)(b:Buf):List Value:=[vj W,vj H,sj b.g (W*H) (W*H),vj b.age]
structure Cv where
 W:Nat
 H:Nat
 bufs:List Buf
 dam:List Rgn
 nw:Nat
 old:Nat
def NB(d:Cv)(bv rv:Value):Array Value:=#[vj 0,vj 0,vj d.W,vj d.H,bv,rv,vj d.nw]
def CB(w w':World):Prop:=∀(g:Nat) (cur:Array Value) (t:TypeId),t=192\/t=194->w.heap[g]?=some (.cells cur t (0,0))->w'.heap[g]?=w.heap[g]?
theorem CB.below(h:uj w w'):CB w w':=fun g _ _ _ hg=>h.block g (Ab hg)
theorem CB.trans{a b c:World}(h:CB a b)(k:CB b c):CB a c:=fun g cur t ht hg=>by
 have e:=h g cur t ht hg;exact(k g cur t ht (e.trans hg)).trans e
theorem Bz.keptR{O:Rgn}(h:Bz w base v O)(hk:CB w w'):Bz w' base v O:=by
 obtain⟨P,hP,hown,hsp,hnil⟩:=h;refine⟨P,hP,?_,fun p hp=>⟨(hsp p hp).1.kept fun b cur e=>hk b cur _ (.inr rfl) e,(hsp p hp).2⟩,hnil⟩;obtain⟨h1,h2⟩:=hown;refine⟨h1,?_⟩;rcases h2 with h2|⟨g,cap,cur,a1,a2,a3,a4⟩
 ·exact .inl h2
 ·exact .inr ⟨g,cap,cur,a1,a2,(hk g cur _ (.inl rfl) a3).trans a3,a4⟩
def D4(w:World)(S:Nat->Prop)(v:Value)(O:Rgn):Prop:=
 ∃P,P.map Prod.fst=O/\w.ownsRow 0 192 3 v P.length (AQ P)/\(∀g,v.ownBlock=some g->S g)/\(∀p∈P,AS w p.2 p.1.2.2/\∀g,p.2.ownBlock=some g->S g)/\(P=[]->v=jj)
theorem D4.out{O:Rgn}(h:D4 w S v O):Bz w 0 v O:=by
 obtain⟨P,h1,h2,h3,h4,h5⟩:=h;exact⟨P,h1,h2,fun p hp=>⟨(h4 p hp).1,fun g _=>cB g⟩,h5⟩
theorem D4.mono{O:Rgn}(h:D4 w S v O)(hS:∀g,S g->S' g):D4 w S' v O:=by
 obtain⟨P,h1,h2,h3,h4,h5⟩:=h;exact⟨P,h1,h2,fun g hg=>hS g (h3 g hg),fun p hp=>⟨(h4 p hp).1,fun g hg=>hS g ((h4 p hp).2 g hg)⟩,h5⟩
theorem D4.nil(w:World)(S:Nat->Prop):D4 w S (jj) []:=⟨[],rfl,bA _ _ _ _,fun g hg=>by simp[Value.ownBlock]at hg,fun p hp=>by simp at hp,fun _=>rfl⟩
theorem AS.lt(h:AS w v L)(hg:v.ownBlock=some g):g<w.heap.size:=by
 rcases h with⟨rfl,_⟩|⟨b,c,cur,rfl,_,hb,_⟩
 ·simp[Value.ownBlock]at hg
 ·simp[Value.ownBlock]at hg;subst hg;exact Ab hb
theorem AS.keepB(h:AS w v L)(hk:∀g,v.ownBlock=some g->w'.heap[g]?=w.heap[g]?):AS w' v L:=by
 rcases h with h|⟨b,c,cur,rfl,hne,hb,hc⟩
 ·exact .inl h
 ·exact .inr ⟨b,c,cur,rfl,hne,(hk b rfl).trans hb,hc⟩
theorem D4.of_out{O:Rgn}(h:Bz w base v O)(hS:∀g,base<=g->g<w.heap.size->S g):D4 w S v O:=by
 obtain⟨P,h1,h2,h3,h4⟩:=h;exact⟨P,h1,⟨h2.1,h2.2.imp id fun⟨g,cap,cur,hv,hg,r⟩=>⟨g,cap,cur,hv,cB _,r⟩⟩,fun g hg=>hS g (h2.lt g hg).1 (h2.lt g hg).2,fun p hp=>⟨(h3 p hp).1,fun g hg=>hS g ((h3 p hp).2 g hg) ((h3 p hp).1.lt hg)⟩,h4⟩
theorem D4.keep{O:Rgn}(h:D4 w S v O)(hk:∀g,S g->g<w.heap.size->w'.heap[g]?=w.heap[g]?):D4 w' S v O:=by
 obtain⟨P,h1,h2,h3,h4,h5⟩:=h;refine⟨P,h1,?_,h3,fun p hp=>⟨(h4 p hp).1.keepB fun g hg=>hk g ((h4 p hp).2 g hg) ((h4 p hp).1.lt hg),(h4 p hp).2⟩,h5⟩;exact Ai h2 fun g hg=>hk g (h3 g hg) (h2.lt g hg).2
theorem D4.keptR{O:Rgn}(h:D4 w S v O)(hk:CB w w'):D4 w' S v O:=by
 obtain⟨P,h1,h2,h3,h4,h5⟩:=h;refine⟨P,h1,?_,h3,fun p hp=>⟨(h4 p hp).1.kept fun b cur e=>hk b cur _ (.inr rfl) e,(h4 p hp).2⟩,h5⟩;exact Ai h2 fun g hg=>by
  obtain⟨cur,e⟩:=Ap h2 hg;exact hk g cur _ (.inl rfl) e
structure AK(w:World)(S:Nat->Prop)(c:Nat)(d:Cv)(bv:Value)(rg:Nat)(dv:Array Value):Prop where
 blk:Blk w c 145 (NB d bv (sj rg 4 4))
 own:S c
 row:A4 w S 148 4 bv d.bufs.length (d.bufs.flatMap (DN d.W d.H))
 ring:Blk w rg 136 dv
 rown:S rg
 size:dv.size=4
 regs:∀(i:Nat) (R:Rgn),d.dam[i]?=some R->∃v,dv[i]?=some v/\D4 w S v R
 pix:∀b∈d.bufs,S b.g/\Bj w b.g (d.W*d.H) b.f
structure Co(d:Cv):Prop where
 w1:1<=d.W/\d.W<=24
 h1:1<=d.H/\d.H<=24
 n:1<=d.bufs.length/\d.bufs.length<=3
 nw:d.nw<4
 ln:d.dam.length=4
 good:∀R∈d.dam,AL R
 age:∀b∈d.bufs,b.age<=d.old
 inside:∀R∈d.dam,∀x y,Ay R x y=true->inR (0,0,(d.W:Int),(d.H:Int)) x y=true
 apart:∀(i j:Nat) (a b:Buf),d.bufs[i]?=some a->d.bufs[j]?=some b->a.g=b.g->i=j
theorem CB.only(h:Ac S w w')(hS:∀g,S g->∀(cur:Array Value) (t:TypeId),t=192\/t=194->w.heap[g]?≠some (.cells cur t (0,0))):CB w w':=fun g cur t ht hg=>
 h.block g (Ab hg) fun hs=>hS g hs cur t ht hg
theorem Blk.keep{b:Nat}{T:TypeId}{cs:Array Value}(h:Blk w b T cs)(hk:w'.heap[b]?=w.heap[b]?):Blk w' b T cs:=hk.trans h
theorem AK.below{d:Cv}(h:AK w S c d bv rg dv)(hb:uj w w'):AK w' S c d bv rg dv:=
 ⟨h.blk.keep (hb.block c (Ab h.blk)),h.own,h.row.keep fun g _ hl=>hb.block g hl,h.ring.keep (hb.block rg (Ab h.ring)),h.rown,h.size,fun i R hi=>let ⟨v,h1,h2⟩:=h.regs i R hi;⟨v,h1,h2.keptR (CB.below hb)⟩,
  fun b hb'=>⟨(h.pix b hb').1,(h.pix b hb').2.keep (hb.block b.g (let ⟨_,q,_⟩:=(h.pix b hb').2;Ab q))⟩⟩
theorem AK.mono{d:Cv}(h:AK w S c d bv rg dv)(hS:∀g,S g->S' g):AK w S' c d bv rg dv:=
 ⟨h.blk,hS _ h.own,h.row.mono hS,h.ring,hS _ h.rown,h.size,fun i R hi=>let ⟨v,h1,h2⟩:=h.regs i R hi;⟨v,h1,h2.mono hS⟩,fun b hb=>⟨hS _ (h.pix b hb).1,(h.pix b hb).2⟩⟩
theorem AK.keep{d:Cv}(h:AK w S c d bv rg dv)(hk:∀g,S g->g<w.heap.size->w'.heap[g]?=w.heap[g]?):AK w' S c d bv rg dv:=
 ⟨h.blk.keep (hk c h.own (Ab h.blk)),h.own,h.row.keep hk,h.ring.keep (hk rg h.rown (Ab h.ring)),h.rown,h.size,fun i R hi=>let ⟨v,h1,h2⟩:=h.regs i R hi;⟨v,h1,h2.keep hk⟩,
  fun b hb=>⟨(h.pix b hb).1,(h.pix b hb).2.keep (hk b.g (h.pix b hb).1 (let ⟨_,q,_⟩:=(h.pix b hb).2;Ab q))⟩⟩
theorem Rf{d:Cv}(h:AK w S c d bv rg dv)(hd:Co d)(l:List R4)(v:Value)(hl:As w v l)(hn:l.length<=1000)(hf:∀r∈l,AU r=true):
  Calls prog 63 #[pj c,v] w fun e w'=>e=.returned (.tuple #[])/\∃R dv',AK w' (AA S w w') c {d with dam:=d.dam.set d.nw R} bv rg dv'/\AL R/\(∀x y,Ay R x y=(Ay ((d.dam[d.nw]?).getD []) x y||AE l x y))/\Ac (fun g=>g=rg) w w':=by
 have hnw:=hd.nw;have hR:d.dam[d.nw]?=some (d.dam[d.nw]'(by rw[hd.ln];exact hnw)):=aU _;obtain⟨R0,hR0⟩:∃R0,d.dam[d.nw]'(by rw[hd.ln];exact hnw)=R0:=⟨_,rfl⟩;rw[hR0]at hR;have hG0:AL R0:=hd.good _ (cH hR);obtain⟨v0,hv0,ho0⟩:=h.regs _ _ hR;replace ho0:=ho0.out;obtain⟨a0,n0,c0,rfl⟩:=ho0.bands.form;have k5:w.cell? (jA c 5)=some (sj rg 4 4):=h.blk.cell 5;have k6:w.cell? (jA c 6)=some (vj d.nw):=h.blk.cell 6;have hcl:=Ak k5;have hrl:=Ab h.ring;have krg:w.cell? (jA rg d.nw)=some (.slice a0 n0 c0):=(h.ring.cell _).trans hv0;have HB:Hid (∀W:World,uj w W->Calls prog 104 #[.agg #[sj rg 4 4,vj d.nw],vj 0] W fun e w'=>e=.returned (.agg #[.slice a0 n0 c0])/\uj W w'):=fun W hW=>Pm rg d.nw 0 d.nw hnw (by omega) (by omega) a0 n0 c0 W ((hW.cell (p:=(jA rg d.nw)) hrl).trans krg);have HO:Hid (∀W:World,uj w W->Calls prog 73 #[v] W fun e w'=>∃u O,e=.returned (.agg #[u])/\AJ w' u O/\AL O/\(∀x y,Ay O x y=AE l x y)/\uj W w'):=fun W hW=>KF l v W (hl.below hW) hn hf;have HC:Hid (∀(W:World) (u:Value) (O:Rgn),uj w W->AJ W u O->AL O->(∀x y,Ay O x y=AE l x y)->Calls prog 103 #[vj 0,.agg #[.slice a0 n0 c0],.agg #[u]] W fun e w'=>∃a n c' R,e=.returned (.agg #[.slice a n c'])/\Bz w' w.heap.size (.slice a n c') R/\AL R/\(∀x y,Ay R x y=(Ay R0 x y||AE l x y))/\uj W w'):=fun W u O hW hu hO hm=>(EI 0 R0 O _ _ W hG0 hO (ho0.bands.below hW) hu).mono fun e w' ⟨v2,R,q1,q2,q3,q4,q5⟩=>by
  obtain⟨a,n,c',rfl⟩:=q2.bands.form;exact⟨a,n,c',R,q1,q2.lower hW.size,q3,fun x y=>by rw[q4,hm];rfl,q5⟩
 have HA:Hid (∀(W:World) (a:Option Addr) (n c':Nat),uj w W->Calls prog 102 #[.pointer (some (jA c 5)),.agg #[.slice a n c']] W fun e w'=>e=.returned (.tuple #[])/\Blk w' rg 136 (dv.setIfInBounds d.nw (.slice a n c'))/\Ac (fun g=>g=rg) W w'):=fun W a n c' hW=>To c 5 rg d.nw hnw a n c' dv W ((hW.cell (p:=(jA c 5)) hcl).trans k5) ((hW.cell (p:=(jA c 6)) hcl).trans k6) (h.ring.keep (hW.block rg hrl)) h.size;have hvf:∃a n c',v=.slice a n c':=let ⟨a,c',e,_⟩:=hl;⟨a,_,c',e⟩
 have HE:Hid (∀(W W':World) (u:Value) (R:Rgn),uj w W->Bz W w.heap.size u R->AL R->(∀x y,Ay R x y=(Ay R0 x y||AE l x y))->Blk W' rg 136 (dv.setIfInBounds d.nw u)->Ac (fun g=>g=rg) W W'->∃R dv',AK W' (AA S w W') c {d with dam:=d.dam.set d.nw R} bv rg dv'/\AL R/\(∀x y,Ay R x y=(Ay ((d.dam[d.nw]?).getD []) x y||AE l x y))/\Ac (fun g=>g=rg) w W'):=fun W W' u R hW hu hG hm hb ho=>by
  have hkr:CB W W':=CB.only ho fun g hg cur t ht e=>by
   subst hg;have:=(h.ring.keep (hW.block g hrl)).symm.trans e;simp at this;rcases ht with rfl|rfl<;>simp_all
  have hne:∀(g:Nat) (cur:Array Value) (t:TypeId),t≠136->w.heap[g]?=some (.cells cur t (0,0))->W'.heap[g]?=w.heap[g]? :=fun g cur t ht e=>by
   have hg:g≠rg:=fun e2=>by
    subst e2;have:=h.ring.symm.trans e;simp at this;exact ht this.2.symm
   exact(ho.block g (aQ (Ab e) hW.size) hg).trans (hW.block g (Ab e))
  refine⟨R,_,⟨h.blk.keep (hne c _ 145 (by decide) h.blk),.inl h.own,(h.row.mono fun g hg=>Or.inl hg).other fun g cur e=>hne g cur 148 (by decide) e,hb,.inl h.rown,by simpa using h.size,fun i R' hi=>?_,fun b hb'=>⟨.inl (h.pix b hb').1,(h.pix b hb').2.keep (let ⟨cur,q,_⟩:=(h.pix b hb').2;hne b.g cur 51 (by decide) q)⟩⟩,hG,fun x y=>by rw[hR];exact hm x y,(Ac.below hW).trans (ho.mono fun g _ hg=>.inl hg)⟩;by_cases e:i=d.nw
  ·subst e;have:R'=R:=by
    have hlt:d.nw<d.dam.length:=by rw[hd.ln];exact hnw
    simpa[List.getElem?_set_self hlt]using hi.symm
   subst this;exact⟨u,by rw[Array.getElem?_setIfInBounds_self_of_lt (by rw[h.size];exact hnw)],D4.of_out (hu.keptR hkr) fun g hg hl=>.inr ⟨hg,hl⟩⟩
  ·have hi':d.dam[i]?=some R':=by simpa[List.getElem?_set_ne (fun q=>e q.symm)]using hi
   obtain⟨v',q1,q2⟩:=h.regs i R' hi';exact⟨v',by rw[bC (fun q=>e q.symm)];exact q1,((q2.keptR (CB.below hW)).keptR hkr).mono fun g hg=>.inl hg⟩
 obtain⟨va,vn,vc,rfl⟩:=hvf;clear h hd hl hf ho0 hv0 hR hR0 hG0;go_enter func63,ntmps63
 go_region_with (first
  |(go_at_call 104;refine(HB.out _ H2.out).mono ?_;rintro e w1 ⟨rfl,b1⟩;have H1:=Aa (H2.out.trans (b1.mono H2.out.size));have HQ1:=Aa (HQ.out.1.below b1);clear b1)
  |(go_at_call 104;refine(HB.out _ (aN _ _).drew).mono ?_;rintro e w1 ⟨rfl,b1⟩;have H1:=Aa ((aN w.heap.size w).drew.trans b1);clear b1)
  |(go_at_call 73;refine(HO.out _ H1.out).mono ?_;rintro e w2 ⟨u,O,rfl,q1,q2,q3,b2⟩;obtain⟨ua,un,uc,rfl⟩:=q1.form;have H2:=Aa (H1.out.trans (b2.mono H1.out.size));have HQ:=Aa (aK q1 (aK q2 q3));clear b2 q1 q2 q3)
  |(go_at_call 73;refine(HO.out _ (aN _ _).drew).mono ?_;rintro e w2 ⟨u,O,rfl,q1,q2,q3,b2⟩;obtain⟨ua,un,uc,rfl⟩:=q1.form;have H2:=Aa ((aN w.heap.size w).drew.trans b2);have k52:w2.cell? (jA c 5)=some (sj rg 4 4):=(H2.out.cell (p:=(jA c 5)) hcl).trans k5;have k62:w2.cell? (jA c 6)=some (vj d.nw):=(H2.out.cell (p:=(jA c 6)) hcl).trans k6;have HQ:=Aa (aK q1 (aK q2 q3));clear b2 q1 q2 q3)
  |(go_at_call 103;refine(HC.out _ _ _ H1.out HQ1.out HQ.out.2.1 HQ.out.2.2).mono ?_;rintro e w3 ⟨a3,n3,c3,R,rfl,p1,p2,p3,b3⟩;have H3:=Aa (H1.out.trans (b3.mono H1.out.size));have HR:=Aa (aK p1 (aK p2 p3));clear b3 p1 p2 p3)
  |(go_at_call 103;refine(HC.out _ _ _ H2.out HQ.out.1 HQ.out.2.1 HQ.out.2.2).mono ?_;rintro e w3 ⟨a3,n3,c3,R,rfl,p1,p2,p3,b3⟩;have H3:=Aa (H2.out.trans (b3.mono H2.out.size));have HR:=Aa (aK p1 (aK p2 p3));clear b3 p1 p2 p3)
  |(go_at_call 102;refine(HA.out _ _ _ _ H3.out).mono ?_;rintro e w4 ⟨rfl,p4,o4⟩;have H4:=Aa (HE.out _ _ _ _ H3.out HR.out.1 HR.out.2.1 HR.out.2.2 p4 o4);clear p4 o4))
 all_goals go_wp2_with fail
 all_goals exact cV (v:=.tuple #[]) (by simp[results,results63]) rfl ⟨rfl,H4.out⟩
end Go.Proofs.YtofinpocigbbeaaGreat
