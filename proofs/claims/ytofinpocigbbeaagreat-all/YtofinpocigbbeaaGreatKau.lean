import Derived.Test.YtofinpocigbbeaaGreatKat
set_option maxHeartbeats 2000000
set_option maxRecDepth 100000
set_option linter.unusedSimpArgs false
namespace Go.Proofs.YtofinpocigbbeaaGreat
open Go.RowKit Go.Proofs.Tryz
attribute [local go_sem ↓] Go.wp_at_zero Go.wp_at_succ
variable{B S:Nat->Prop}{D P:Nat->Value}{N cap g i m:Nat}{Q:Nat->Nat->Bool}{bv v:Value}{cur:Array Value}{k:Nat->Bool}{n:Int}{w w' wr:World}
structure RB where
 f:Nat->R4
 age:Nat
 dirty:Nat->Bool
structure AG(w:World)(B:Nat->Prop)(bv:Value)(N:Nat)(L:List RB)(P D:Nat->Value):Prop where
 row:∃xs,A4 w B 204 3 bv L.length xs/\∀i (hi:i<L.length),xs[i*3]?=some (P i)/\xs[i*3+1]?=some (vj L[i].age)/\xs[i*3+2]?=some (D i)
 few:L.length<=3
 pix:∀i (hi:i<L.length),AC w B (P i) N L[i].f
 dir:∀i (hi:i<L.length),AH w B (D i) N L[i].dirty
 apP:∀i j,i<L.length->j<L.length->i≠j->∀g,(P i).ownBlock=some g->(P j).ownBlock≠some g
 apD:∀i j,i<L.length->j<L.length->i≠j->∀g,(D i).ownBlock=some g->(D j).ownBlock≠some g
theorem AG.mono{B':Nat->Prop}{L:List RB}(h:AG w B bv N L P D)(hB:∀g,B g->B' g):AG w B' bv N L P D:=
 ⟨(let ⟨xs,h1,h2⟩:=h.row;⟨xs,h1.mono hB,h2⟩),h.few,fun i hi=>(h.pix i hi).mono hB,fun i hi=>(h.dir i hi).mono hB,h.apP,h.apD⟩
theorem AG.keep{L:List RB}(h:AG w B bv N L P D)(hk:∀g,B g->g<w.heap.size->w'.heap[g]?=w.heap[g]?):AG w' B bv N L P D:=
 ⟨(let ⟨xs,h1,h2⟩:=h.row;⟨xs,h1.keep hk,h2⟩),h.few,fun i hi=>(h.pix i hi).keep hk,fun i hi=>(h.dir i hi).keep hk,h.apP,h.apD⟩
theorem AH.keepB(h:AH w S v n k)(hk:∀g,v.ownBlock=some g->w'.heap[g]?=w.heap[g]?):AH w' S v n k:=by
 obtain⟨m,h1,h2⟩:=h;exact⟨m,h1,Ai h2.1 hk,h2.2⟩
theorem AH.congr{k':Nat->Bool}(h:AH w S v n k)(he:∀i:Nat,(i:Int)<n->k' i=k i):AH w S v n k':=by
 obtain⟨m,h1,h2⟩:=h;refine⟨m,h1,?_⟩;have:(List.range m).map (fun i=>Value.bool (k' i))=(List.range m).map fun i=>Value.bool (k i):=List.map_congr_left fun i hi=>by rw[he i (by have:=cf.1 hi;omega)]
 rw[this];exact h2
theorem AH.at(h:AH w S v n k){q:Nat}(hq:(q:Int)<n):∃g cap m,v=sj g m cap/\(m:Int)=n/\m<=cap/\S g/\g<w.heap.size/\w.cell? (jA g q)=some (.bool (k q))/\(∀j,w.frozen? (jA g j)=false)/\∃cur,w.heap[g]?=some (.cells cur 4 (0,0)):=by
 obtain⟨m,h1,h2⟩:=h;obtain⟨g,cap,e1,e2,e3,e4,e5,e6⟩:=h2.open (by omega);refine⟨g,cap,m,e1,h1,e3,e2,e4,e5 q _ ?_,e6,h2.type (by rw[e1];rfl)⟩;rw[bZ,List.getElem?_range (by omega)];rfl
theorem AH.mark(h:AH w S (sj g m cap) n k)(q:Nat):AH (w.setCell (jA g q) (.bool true)) S (sj g m cap) n fun j=>if j=q then true else k j:=by
 obtain⟨m',h1,h2⟩:=h;have e:m'=m:=by
  obtain⟨a,c,e⟩:=h2.form;injection e with _ e _;exact e.symm
 subst e;refine⟨m',h1,?_⟩;have h3:=h2.set q (.bool true);have e2:((List.range m').map fun i=>Value.bool (k i)).set q (.bool true)=(List.range m').map fun j=>Value.bool (if j=q then true else k j):=by
  refine List.ext_getElem? fun j=>?_;rw[bW,bZ,bZ];by_cases hj:j<m'
  ·rw[List.getElem?_range hj];by_cases ej:q=j
   ·subst ej;simp[hj]
   ·rw[if_neg ej];simp only[Option.map_some];rw[if_neg (fun e=>ej e.symm)]
  ·have hn:(List.range m')[j]?=none:=cD (by simp;omega);rw[hn];by_cases ej:q=j
   ·subst ej;rw[if_pos rfl,if_neg (by simp;omega)];rfl
   ·rw[if_neg ej];rfl
 rw[e2]at h3;exact h3
def RB.marked(b:RB)(q:Nat):RB:={b with dirty:=fun k=>if k=q then true else b.dirty k}
theorem AG.mark{L:List RB}(h:AG w B bv N L P D)(hi:i<L.length)(hD:D i=sj g m cap)(hg:w.heap[g]?=some (.cells cur 4 (0,0)))(q:Nat):AG (w.setCell (jA g q) (.bool true)) B bv N (L.set i (L[i].marked q)) P D:=by
 have hk:∀(T:TypeId),T≠4->∀(b:Nat) (cur:Array Value),w.heap[b]?=some (.cells cur T (0,0))->(w.setCell (jA g q) (.bool true)).heap[b]?=w.heap[b]? :=fun T hT b cur hb=>aL w (jA g q) b _ (Aj hb hg hT);have hf:∀j (hj:j<(L.set i (L[i].marked q)).length),(L.set i (L[i].marked q))[j].f=(L[j]'(by simpa using hj)).f/\(L.set i (L[i].marked q))[j].age=(L[j]'(by simpa using hj)).age:=fun j hj=>by
  rw[List.getElem_set];split
  ·rename_i e;subst e;exact⟨rfl,rfl⟩
  ·exact⟨rfl,rfl⟩
 refine⟨?_,by rw[bG];exact h.few,fun j hj=>?_,fun j hj=>?_,by rw[bG];exact h.apP,by rw[bG];exact h.apD⟩
 ·obtain⟨xs,h1,h2⟩:=h.row;refine⟨xs,by rw[bG];exact h1.other (hk _ (by decide)),fun j hj=>?_⟩;rw[(hf j hj).2];exact h2 j (by simpa using hj)
 ·rw[(hf j hj).1];exact(h.pix j (by simpa using hj)).other (hk _ (by decide))
 ·have hj2:j<L.length:=by simpa using hj
  rw[List.getElem_set];split
  ·rename_i e
   subst e;have:=h.dir i hi;rw[hD]at this ⊢;exact this.mark q
  ·rename_i e
   exact(h.dir j hj2).keepB fun g' hg'=>aL w (jA g q) g' _ fun e2=>h.apD i j hi hj2 e g (by rw[hD];rfl) (by have e3:g'=g:=e2;rw[<-e3];exact hg')
structure EA(w wr:World)(B:Nat->Prop)(bv:Value)(N:Nat)(L L':List RB)(P D:Nat->Value)(Q:Nat->Nat->Bool):Prop where
 bufs:AG wr B bv N L' P D
 only:Ac B w wr
 len:L'.length=L.length
 same:∀i (hi:i<L.length) (hi':i<L'.length),L'[i].f=L[i].f/\L'[i].age=L[i].age/\∀k,k<N->L'[i].dirty k=(L[i].dirty k||Q i k)
theorem EA.congr{L L':List RB}{Q':Nat->Nat->Bool}(h:EA w wr B bv N L L' P D Q)(hq:∀i,i<L.length->∀k,k<N->Q' i k=Q i k):EA w wr B bv N L L' P D Q':=
 ⟨h.bufs,h.only,h.len,fun i hi hi'=>⟨(h.same i hi hi').1,(h.same i hi hi').2.1,fun k hk=>by rw[(h.same i hi hi').2.2 k hk,hq i hi k hk]⟩⟩
theorem EA.mark{L L':List RB}(h:EA w wr B bv N L L' P D Q)(hi:i<L'.length)(hD:D i=sj g m cap)(hg:wr.heap[g]?=some (.cells cur 4 (0,0)))(hB:B g)(q:Nat):EA w (wr.setCell (jA g q) (.bool true)).drew B bv N L (L'.set i (L'[i].marked q)) P D fun j k=>Q j k||(decide (j=i)&&decide (k=q)):=by
 refine⟨(h.bufs.mark hi hD hg q).keep fun _ _ _=>rfl,(h.only.set (.inl hB) _).drew,by rw[bG];exact h.len,fun j hj hj'=>?_⟩;have hj2:j<L'.length:=by simpa using hj'
 obtain⟨s1,s2,s3⟩:=h.same j hj hj2;rw[List.getElem_set];split
 ·rename_i e
  subst e;refine⟨s1,s2,fun k hk=>?_⟩;show(if k=q then true else L'[i].dirty k)=_;by_cases e:k=q
  ·simp[e]
  ·rw[if_neg e,s3 k hk];simp[e]
 ·rename_i e
  refine⟨s1,s2,fun k hk=>?_⟩;rw[s3 k hk];have:decide (j=i)=false:=cE fun e2=>e e2.symm;rw[this];simp
def qTo(l:List R4)(W p:Nat)(k:Nat):Bool:=decide (k<p)&&AE l ((k%W:Nat):Int) ((k/W:Nat):Int)
theorem Vz(l:List R4)(W p k:Nat):qTo l W (p+1) k=(qTo l W p k||(decide (k=p)&&AE l ((k%W:Nat):Int) ((k/W:Nat):Int))):=by
 unfold qTo;by_cases h1:k<p
 ·have h2:k<p+1:=by omega
  have h3:¬k=p:=by omega
  simp[h1,h2,h3]
 ·by_cases h3:k=p
  ·subst h3;simp
  ·have h2:¬k<p+1:=by omega
   simp[h1,h2,h3]
theorem RF{W x y:Nat}(hx:x<W):(y*W+x)%W=x/\(y*W+x)/W=y:=by
 rw[Nat.mul_comm];exact⟨by rw[Nat.mul_add_mod,Nat.mod_eq_of_lt hx],by rw[Nat.mul_add_div (by omega),Nat.div_eq_of_lt hx,Nat.add_zero]⟩
theorem P4{A B:Nat->Prop}{c:Nat}{st:St}{bv:Value}(hw:Wf st)(l:List (Int×Int×Int×Int))(v:Value)(w:World)(h:Aw w A c st bv)(hap:∀g,A g->¬B g)(Wn Hn:Nat)(hWn:st.w=Wn)(hHn:st.h=Hn){L:List RB}{P D:Nat->Value}(hB:AG w B bv (Wn*Hn) L P D)(hl:As w v l)(hlB:∀wr,Ac B w wr->As wr v l)(hl2:l.length<=100):
  Calls prog 128 #[pj c,v] w fun e w'=>e=.returned (.tuple #[])/\∃L',EA w w' B bv (Wn*Hn) L L' P D fun _ k=>AE l ((k%Wn:Nat):Int) ((k/Wn:Nat):Int):=by
 obtain⟨sv,ov,F,hr,hs⟩:=h;have hww:=hw.ww;have hhh:=hw.hh;rw[hWn]at hww;rw[hHn]at hhh;rw[hWn,hHn]at hr;have HR:Hid (∀wr,Ac B w wr->wr.cell? (jA c 0)=some (vj Wn)/\wr.cell? (jA c 1)=some (vj Hn)/\wr.cell? (jA c 2)=some bv/\c<wr.heap.size):=fun wr ho=>by
  have q:=(hr.keep (w':=wr) fun g hg hlt=>ho.block g hlt (hap g hg)).cells;exact⟨q.1,q.2.1,q.2.2.1,q.2.2.2.2.2.2⟩
 have HSc:Hid (w.heap[c]?=some (.cells #[vj Wn,vj Hn,bv,sv,ov] 202 (0,0))/\¬B c):=⟨hr.scr,hap c hr.own⟩;obtain⟨la,lc,hv,_⟩:=hl;obtain⟨nl,hnl⟩:∃n,l.length=n:=⟨_,rfl⟩;rw[hnl]at hv hl2;subst hv;have HHas:Hid (∀(V:World) (x y:Int),Ac B w V->Calls prog 122 #[.slice la nl lc,vj x,vj y] V fun e w'=>e=.returned (.bool (AE l x y))/\w'=V):=fun V x y hV=>DK l _ x y V (hlB V hV) (by rw[hnl];unfold maxLen;omega);have HI0:Hid (EA w w B bv (Wn*Hn) L L P D fun _ k=>qTo l Wn 0 k):=⟨hB,Ac.refl _ _,rfl,fun i _ _=>⟨rfl,rfl,fun k _=>by simp[qTo]⟩⟩;obtain⟨nb,hnb⟩:∃nb,L.length=nb:=⟨_,rfl⟩;have hnb3:nb<=3:=by rw[<-hnb];exact hB.few
 obtain⟨ba,bcap,hbv⟩:∃ba bcap,bv=.slice ba nb bcap:=by
  obtain⟨xs,h1,_⟩:=hB.row;rw[hnb]at h1;exact h1.form
 have HNb:=Aa hnb;subst hbv;clear hr hs hlB hWn hHn hw hB hnb hap;go_enter func128,ntmps128
 go_wp2
 go_loopg [4] Hn (fun gg s4 wr=>∃(y:Nat) (L':List RB),s4=vj y/\gg+y=Hn/\Hid (EA w wr B (.slice ba nb bcap) (Wn*Hn) L L' P D fun _ k=>qTo l Wn (y*Wn) k))
 case atStart=>exact⟨0,L,rfl,by omega,by rw[Nat.zero_mul];exact HI0.out⟩
 case round=>
  rename World=>wo;rename Nat=>gO;obtain⟨y,Lo,rfl,hgy,HIo⟩:=hrel;obtain⟨k0,k1,k2,kl⟩:=HR.out wo HIo.out.only;cases gO with
  |zero=>
   have hlt:¬(y:Int)<(Hn:Int):=by omega
   go_wp2;refine cV (v:=.tuple #[]) (by simp[results,results128]) rfl ⟨rfl,Lo,HIo.out.congr fun i _ k hk=>?_⟩;have hy:y=Hn:=by omega
   subst hy;unfold qTo;have:k<y*Wn:=by rw[Nat.mul_comm];exact hk
   simp[this]
  |succ gO=>
   have hlt:(y:Int)<(Hn:Int):=by omega
   go_wp2
   go_loopg [5] Wn (fun gg s5 wr=>∃(x:Nat) (L':List RB),s5=vj x/\gg+x=Wn/\Hid (EA w wr B (.slice ba nb bcap) (Wn*Hn) L L' P D fun _ k=>qTo l Wn (y*Wn+x) k))
   case atStart=>exact⟨0,Lo,rfl,by omega,by rw[Nat.add_zero];exact HIo.out⟩
   case round=>
    rename World=>wm;rename Nat=>gM;clear k0 k1 k2 kl;obtain⟨x,Lm,rfl,hgx,HIm⟩:=hrel;obtain⟨k0,k1,k2,kl⟩:=HR.out wm HIm.out.only;cases gM with
    |zero=>
     have hltx:¬(x:Int)<(Wn:Int):=by omega
     go_wp2
     go_roundg gO
     case measure=>omega
     case rel=>
      have hx:x=Wn:=by omega
      subst hx;exact⟨y+1,Lm,by go_num,by omega,by rw[Nat.add_mul,Nat.one_mul];exact HIm.out⟩
    |succ gM=>
     have hltx:(x:Int)<(Wn:Int):=by omega
     obtain⟨t,ht⟩:∃t,AE l x y=t:=⟨_,rfl⟩;have HC:=Aa (HHas.out wm x y HIm.out.only);rw[ht]at HC;have har:=RF (y:=y) (show x<Wn by omega);have HT:Hid (∀k,qTo l Wn (y*Wn+x+1) k=(qTo l Wn (y*Wn+x) k||(decide (k=y*Wn+x)&&t))):=fun k=>by
      rw[Vz];by_cases e:k=y*Wn+x
      ·subst e;rw[har.1,har.2,ht]
      ·simp[e]
     clear ht har;cases t with
     |false=>
      go_wp2_with(go_at_call 122;refine HC.out.mono ?_;rintro e w' ⟨rfl,hw'⟩;replace hw':=hw'.symm;subst hw')
      go_roundg gM
      case measure=>omega
      case rel=>exact⟨x+1,Lm,by go_num,by omega,HIm.out.congr fun i _ k _=>by rw[<-Nat.add_assoc,HT.out];simp⟩
     |true=>
      go_wp2_with(go_at_call 122;refine HC.out.mono ?_;rintro e w' ⟨rfl,hw'⟩;replace hw':=hw'.symm;subst hw')
      go_loopg [7] nb (fun gg s7 wr=>∃(i:Nat) (L':List RB),s7=vj i/\gg+i=nb/\Hid (EA w wr B (.slice ba nb bcap) (Wn*Hn) L L' P D fun j k=>qTo l Wn (y*Wn+x) k||(decide (j<i)&&decide (k=y*Wn+x))))
      case atStart=>exact⟨0,Lm,rfl,by omega,HIm.out.congr fun i _ k _=>by simp⟩
      case round=>
       rename World=>wi;clear k0 k1 k2 kl;obtain⟨i,Li,rfl,hgi,HIi⟩:=hrel;obtain⟨k0,k1,k2,kl⟩:=HR.out wi HIi.out.only;cases gk with
       |zero=>
        have hlti:¬(i:Int)<(nb:Int):=by omega
        go_wp2
        go_roundg gM
        case measure=>omega
        case rel=>exact⟨x+1,Li,by go_num,by omega,HIi.out.congr fun j hj k _=>by
         have hji:j<i:=by have:=HNb.out;omega
         rw[<-Nat.add_assoc,HT.out];simp[hji]⟩
       |succ gi=>
        have hlti:(i:Int)<(nb:Int):=by omega
        have hiL:i<Li.length:=by rw[HIi.out.len,HNb.out];omega
        obtain⟨q,hq⟩:∃q,y*Wn+x=q:=⟨_,rfl⟩;have hqm:q<Wn*Hn:=by
         have h1:=U6 (show x<Wn by omega) (show y<Hn by omega);omega
        obtain⟨dg,dcap,m,hD,hm,hmd,hBd,hdl,hu,hfree,cur,hcur⟩:=(HIi.out.bufs.dir i hiL).at (q:=q) (by omega);obtain⟨xs,hxr,hxs⟩:=HIi.out.bufs.row;obtain⟨bg,bc,eb,_,hbc,_,hbcs,_⟩:=hxr.open (by omega);have hLl:Li.length=nb:=by rw[HIi.out.len];exact HNb.out
        rw[hLl]at eb hbc;injection eb with eb1 eb2 eb3;subst eb1 eb3;have cd:=hbcs _ _ (hxs i hiL).2.2;rw[hD]at cd;have hyW:(y:Int)*(Wn:Int)<=600/\0<=(y:Int)*(Wn:Int):=by
         have h3:(y:Int)*(Wn:Int)<=24*24:=Int.mul_le_mul (by omega) (by omega) (by omega) (by omega);have h4:=Int.mul_nonneg (show(0:Int)<=y by omega) (show(0:Int)<=Wn by omega);omega
        have hq1:(y:Int)*(Wn:Int)+(x:Int)=(q:Int):=by rw[<-hq];simp
        obtain⟨yw,hyw⟩:∃z:Int,(y:Int)*(Wn:Int)=z:=⟨_,rfl⟩;have w1:IntKind.i64.wrap ((y:Int)*(Wn:Int))=yw:=by rw[bB];omega
        have w2:IntKind.i64.wrap (IntKind.i64.wrap ((y:Int)*(Wn:Int))+(x:Int))=(q:Int):=by rw[w1,bB];omega
        have hfq:=hfree q;have hic:(i:Int)<(bcap:Int):=by omega
        have hi0:(0:Int)<=(i:Int):=by omega
        have hq0:(0:Int)<=(q:Int):=by omega
        have hqmI:(q:Int)<(m:Int):=by omega
        have hqd:q<dcap:=by omega
        have HM:=Aa (HIi.out.mark hiL hD hcur hBd q);have hbd:bg≠dg:=by
         obtain⟨c9,h9⟩:=hxr.type (g:=bg) rfl;exact Aj h9 hcur (by decide)
        have hcd:c≠dg:=fun e=>HSc.out.2 (by rw[e];exact hBd);have hbd2:=hbd.symm;have hcd2:=hcd.symm;have HQ:=Aa hq;clear w1 hyw hyW hq1 hq hm hfree hcur hxr hxs hbcs hD hBd hLl eb2
        go_upto_region 11 with fail
        go_region
        all_goals
         go_wp2
         go_roundg gi
         case measure=>omega
         case rel=>exact⟨i+1,_,by go_num,by omega,HM.out.congr fun j _ k _=>by
          rw[HQ.out];by_cases e1:k=q
          ·by_cases e2:j=i
           ·subst e2;simp[e1]
           ·by_cases e3:j<i
            ·have:j<i+1:=by omega
             simp[e1,e2,e3,this]
            ·have:¬j<i+1:=by omega
             simp[e1,e2,e3,this]
          ·simp[e1]⟩
variable{A:Nat->Prop}{L L':List RB}{c:Nat}{Q Q':Nat->Bool}{st:St}
def Db(L L':List RB)(N:Nat)(Q:Nat->Bool):Prop:=L'.length=L.length/\∀i (hi:i<L.length) (hi':i<L'.length),L'[i].f=L[i].f/\L'[i].age=L[i].age/\∀k,k<N->L'[i].dirty k=(L[i].dirty k||Q k)
theorem Db.refl(L:List RB)(N:Nat)(hq:∀k,k<N->Q k=false):Db L L N Q:=⟨rfl,fun i _ _=>⟨rfl,rfl,fun k hk=>by rw[hq k hk];simp⟩⟩
theorem Db.trans{L'':List RB}(h:Db L L' N Q)(k:Db L' L'' N Q'):Db L L'' N fun j=>Q j||Q' j:=by
 refine⟨k.1.trans h.1,fun i hi hi'=>?_⟩;have hm:i<L'.length:=by rw[h.1];exact hi
 obtain⟨a1,a2,a3⟩:=h.2 i hi hm;obtain⟨b1,b2,b3⟩:=k.2 i hm hi';exact⟨b1.trans a1,b2.trans a2,fun j hj=>by rw[b3 j hj,a3 j hj,Bool.or_assoc]⟩
theorem Db.congr(h:Db L L' N Q)(hq:∀k,k<N->Q' k=Q k):Db L L' N Q':=
 ⟨h.1,fun i hi hi'=>⟨(h.2 i hi hi').1,(h.2 i hi hi').2.1,fun k hk=>by rw[(h.2 i hi hi').2.2 k hk,hq k hk]⟩⟩
theorem EA.hurtB{wr:World}(h:EA w wr B bv N L L' P D fun _ k=>Q k):Db L L' N Q:=⟨h.len,h.same⟩
def Cq(l:List R4)(W:Nat)(k:Nat):Bool:=AE l ((k%W:Nat):Int) ((k/W:Nat):Int)
def Gs(A B:Nat->Prop)(c:Nat)(bv:Value)(N:Nat)(L:List RB)(P D:Nat->Value)(er:Int)(st:St)(Q:Nat->Bool)(w:World)(e:Ending)(w':World):Prop:=
 e=.returned (vj er)/\Aw w' (AA A w w') c st bv/\(∃L',AG w' B bv N L' P D/\Db L L' N Q)/\Ac (fun g=>A g\/B g) w w'
theorem Gs.same{er:Int}(h:Aw w A c st bv)(k:AG w B bv N L P D)(hb:uj w w'):Gs A B c bv N L P D er st (fun _=>false) w (.returned (vj er)) w':=
 ⟨rfl,(h.keep fun g _ hg=>hb.block g hg).mono fun _ hg=>AI hg,⟨L,k.keep fun g _ hg=>hb.block g hg,Db.refl _ _ fun _ _=>rfl⟩,Ac.below hb⟩
theorem AG.apart(h:AG w B bv N L P D)(hap:∀g,A g->¬B g)(ho:Ac A w w'):AG w' B bv N L P D:=h.keep fun g hg hl=>ho.block g hl fun ha=>hap g ha hg
theorem Aw.apart(h:Aw w A c st bv)(hap:∀g,A g->¬B g)(ho:Ac B w w'):Aw w' A c st bv:=h.keep fun g hg hl=>ho.block g hl fun hb=>hap g hg hb
theorem AF.apart{w0:World}{v:Value}{l:List R4}(h:AF w w0.heap.size v l)(hlt:∀g,B g->g<w0.heap.size)(ho:Ac B w w'):AF w' w0.heap.size v l:=⟨Ai h.1 fun g hg=>ho.block g (h.1.lt g hg).2 fun hb=>by have h1:=hlt g hb;have h2:=(h.1.lt g hg).1;omega,h.2⟩
end Go.Proofs.YtofinpocigbbeaaGreat
