import Derived.Test.YtofinpocigbbeaaGreatKak
set_option maxHeartbeats 1000000
set_option maxRecDepth 100000
set_option linter.unusedSimpArgs false
namespace Go.Proofs.YtofinpocigbbeaaGreat
open Go.Proofs.Tryz Go.RowKit
attribute [local go_sem ↓] Go.wp_at_zero Go.wp_at_succ
variable{S:Nat->Prop}{bg c cap rg:Nat}{d:Cv}{dv:Array Value}{w:World}
theorem AK.cells(h:AK w S c d (.slice (some ⟨bg,0,none⟩) d.bufs.length cap) rg dv)(i:Nat)(hi:i<d.bufs.length):
  w.cell? ⟨c,4,none⟩=some (.slice (some ⟨bg,0,none⟩) d.bufs.length cap)/\w.cell? ⟨bg,i*4,none⟩=some (.int .i64 d.W)/\w.cell? ⟨bg,i*4+1,none⟩=some (.int .i64 d.H)/\w.cell? ⟨bg,i*4+2,none⟩=some (.slice (some ⟨d.bufs[i].g,0,none⟩) (d.W*d.H) (d.W*d.H))/\w.cell? ⟨bg,i*4+3,none⟩=some (.int .i64 d.bufs[i].age)/\bg<w.heap.size/\c<w.heap.size:=by
 obtain⟨g',cap',q1,q2,q3,q4,q5,q6⟩:=h.row.open (cP (cB _) hi);simp only[Value.slice.injEq,Option.some.injEq,Addr.mk.injEq]at q1;obtain⟨⟨rfl,_⟩,_,rfl⟩:=q1;have hat:=fun o (ho:o<4)=>Fb (DN d.W d.H) (Ev _ _) d.bufs i o ho hi;exact⟨h.blk.cell 4,q5 _ _ (hat 0 (by omega)),q5 _ _ (hat 1 (by omega)),q5 _ _ (hat 2 (by omega)),q5 _ _ (hat 3 (by omega)),q4,Ab h.blk⟩
theorem Vj(h:AK w S c d (.slice (some ⟨bg,0,none⟩) d.bufs.length cap) rg dv)(hd:Co d)(i:Nat)(hi:i<d.bufs.length):
  Calls prog 65 #[.pointer (some ⟨c,0,none⟩),.int .i64 i] w fun e w'=>∃v,e=.returned (.tuple #[v,.int .i64 d.bufs[i].age])/\w'.ownsRow w.heap.size 51 4 v (d.W*d.H) (Aq (pxL d.bufs[i].f (d.W*d.H)))/\v≠.slice none 0 0/\Below w.heap.size w w':=by
 have hW:=hd.w1;have hH:=hd.h1;have hcap:d.bufs.length<=cap:=A7 h.row.1;have hN:d.W*d.H<=576:=bh (cI hW.2 hH.2) (by omega);obtain⟨b,hb⟩:∃b,d.bufs[i]=b:=⟨_,rfl⟩;have hp:=(h.pix d.bufs[i] (aZ hi)).2;have HS:Hid (∀W:World,Below w.heap.size w W->W.cell? ⟨c,4,none⟩=some (.slice (some ⟨bg,0,none⟩) d.bufs.length cap)/\W.cell? ⟨bg,i*4,none⟩=some (.int .i64 d.W)/\W.cell? ⟨bg,i*4+1,none⟩=some (.int .i64 d.H)/\W.cell? ⟨bg,i*4+2,none⟩=some (.slice (some ⟨b.g,0,none⟩) (d.W*d.H) (d.W*d.H))/\W.cell? ⟨bg,i*4+3,none⟩=some (.int .i64 b.age)/\bg<W.heap.size/\c<W.heap.size):=fun W hW=>by
  have q:=(h.below hW).cells i hi;rw[hb]at q;exact q
 rw[hb]at hp;rw[hb];obtain⟨N,hNe⟩:∃N,d.W*d.H=N:=⟨_,rfl⟩;rw[hNe]at HS hp hN;rw[hNe];have HC:Hid (∀W:World,Below w.heap.size w W->Calls prog 110 #[.agg #[.int .i64 d.W,.int .i64 d.H,.slice (some ⟨b.g,0,none⟩) N N]] W fun e w'=>∃a n cc,e=.returned (.slice a n cc)/\Hid (w'.ownsRow w.heap.size 51 4 (.slice a n cc) N (Aq (pxL b.f N))/\(.slice a n cc)≠Value.slice none 0 0/\Below w.heap.size w w')):=fun W hW=>(Ts d.W d.H b.g N hN b.f W (hp.keep (hW.block _ hp.has.lt))).mono fun e w' ⟨v,q1,q2,q3,q4⟩=>by
  obtain⟨a,cc,rfl⟩:=Al q2;exact⟨a,_,cc,q1,⟨q2.1,q2.2.imp id fun⟨g,cap,cur,a1,a2,a3⟩=>⟨g,cap,cur,a1,bh hW.size a2,a3⟩⟩,q3,hW.trans (q4.mono hW.size)⟩
 obtain⟨n,hn⟩:∃n,d.bufs.length=n:=⟨_,rfl⟩;rw[hn]at HS hcap;have hin:(i:Int)<(n:Int):=by omega
 have hi0:(0:Int)<=(i:Int):=by omega
 have hic:i<cap:=by omega
 clear h hd hp hb;go_enter func65,ntmps65
 go_wp2_with fail
 go_region_held3 (fun W=>W.cell? ⟨c,4,none⟩=some (.slice (some ⟨bg,0,none⟩) n cap)/\W.cell? ⟨bg,i*4,none⟩=some (.int .i64 d.W)/\W.cell? ⟨bg,i*4+1,none⟩=some (.int .i64 d.H)/\W.cell? ⟨bg,i*4+2,none⟩=some (.slice (some ⟨b.g,0,none⟩) N N)/\W.cell? ⟨bg,i*4+3,none⟩=some (.int .i64 b.age)/\bg<W.heap.size/\c<W.heap.size)
  (first
   |with_reducible exact HS.out _ (aN _ _).drew
   |with_reducible exact HS.out _ (aN _ _)
   |with_reducible exact HS.out _ H1.out.2.2
   |fail)
  (first
   |(go_at_call 110;refine(HC.out _ (aN _ _).drew).mono ?_;rintro e w1 ⟨va,vn,vc,rfl,H1⟩)
   |fail)
 all_goals go_wp2_with fail
 all_goals exact cU (v:=.tuple #[.slice va vn vc,.int .i64 b.age]) (by simp[results,results65,go_sem]) rfl ⟨_,rfl,H1.out⟩
theorem K5{bv:Value}(h:AK w S c d bv rg dv)(hd:Co d):
  Calls prog 42 #[.pointer (some ⟨c,0,none⟩)] w fun e w'=>e=.returned (.int .i64 ((d.W*d.H:Nat):Int))/\Below w.heap.size w w':=by
 have hW:=hd.w1;have hH:=hd.h1;have k2:w.cell? ⟨c,2,none⟩=some (.int .i64 d.W):=h.blk.cell 2;have k3:w.cell? ⟨c,3,none⟩=some (.int .i64 d.H):=h.blk.cell 3;have hcl:=Ak k2;have hN:d.W*d.H<=576:=bh (cI hW.2 hH.2) (by omega);obtain⟨N,hNe⟩:∃N,d.W*d.H=N:=⟨_,rfl⟩;have e1:(d.W:Int)*(d.H:Int)=(N:Int):=by rw[<-hNe];simp
 rw[hNe]at hN;rw[hNe];clear h hd hNe;go_enter func42,ntmps42
 go_wp2_with fail
 go_quiet (fail)
 go_wp2_with fail
 go_ret;exact⟨rfl,Joins.below_draws _ _ _⟩
theorem AK.setBuf4{n:Nat}(h:AK w S c d (.slice (some ⟨bg,0,none⟩) n cap) rg dv)(hn:n=d.bufs.length)(i:Nat)(hi:i<d.bufs.length)(b:Buf)(hp:S b.g/\Bj w b.g (d.W*d.H) b.f)(hbg:b.g≠bg):
  AK ((((w.setCell ⟨bg,i*4,none⟩ (.int .i64 d.W)).setCell ⟨bg,i*4+1,none⟩ (.int .i64 d.H)).setCell ⟨bg,i*4+2,none⟩ (.slice (some ⟨b.g,0,none⟩) (d.W*d.H) (d.W*d.H))).setCell ⟨bg,i*4+3,none⟩ (.int .i64 b.age)) S c {d with bufs:=d.bufs.set i b} (.slice (some ⟨bg,0,none⟩) n cap) rg dv:=by
 have hs:d.bufs.set i d.bufs[i]=d.bufs:=KR (aU hi);have kp:∀(V:World) (j:Nat) (u:Value) f,Bj V b.g (d.W*d.H) f->Bj (V.setCell ⟨bg,j,none⟩ u) b.g (d.W*d.H) f:=fun V j u f q=>q.keep (aL V ⟨bg,j,none⟩ b.g u hbg);have h1:=h.setBuf hn i 0 (by omega) hi d.bufs[i] (.int .i64 d.W) rfl (h.pix _ (aZ hi));simp only[hs,Nat.add_zero]at h1;have h2:=h1.setBuf hn i 1 (by omega) hi d.bufs[i] (.int .i64 d.H) rfl (h1.pix _ (aZ hi));simp only[hs]at h2;have h3:=h2.setBuf hn i 2 (by omega) hi ⟨b.g,d.bufs[i].age,b.f⟩ (.slice (some ⟨b.g,0,none⟩) (d.W*d.H) (d.W*d.H)) rfl ⟨hp.1,kp _ _ _ _ (kp _ _ _ _ hp.2)⟩;have h4:=h3.setBuf (by simpa using hn) i 3 (by omega) (by simpa using hi) b (.int .i64 b.age) (by simp[DN]) ⟨hp.1,kp _ _ _ _ (kp _ _ _ _ (kp _ _ _ _ hp.2))⟩;simpa using h4
def Cv.filled(d:Cv)(i g:Nat)(f:Nat->R4):Cv:={d with bufs:=d.bufs.set i ⟨g,0,f⟩ }
theorem Vk(h:AK w S c d (.slice (some ⟨bg,0,none⟩) d.bufs.length cap) rg dv)(hd:Co d)(i:Nat)(hi:i<d.bufs.length)(l:List R4)(v:Value)(hv:Bb w v l)(hl:l.length=d.W*d.H):
  Calls prog 43 #[.pointer (some ⟨c,0,none⟩),.int .i64 i,v] w fun e w'=>e=.returned (.tuple #[])/\∃g,w.heap.size<=g/\g<w'.heap.size/\AK w' (AA S w w') c (d.filled i g (fun k=>l.getD k (0,0,0,0))) (.slice (some ⟨bg,0,none⟩) d.bufs.length cap) rg dv/\Ac (fun b=>b=bg) w w':=by
 have hW:=hd.w1;have hH:=hd.h1;have hcap:d.bufs.length<=cap:=A7 h.row.1;obtain⟨N,hNe⟩:∃N,d.W*d.H=N:=⟨_,rfl⟩;have hN:N<=576:=by rw[<-hNe];exact bh (cI hW.2 hH.2) (by omega)
 have e1:(d.W:Int)*(d.H:Int)=(N:Int):=by rw[<-hNe];simp
 have k2:w.cell? ⟨c,2,none⟩=some (.int .i64 d.W):=h.blk.cell 2;have k3:w.cell? ⟨c,3,none⟩=some (.int .i64 d.H):=h.blk.cell 3;obtain⟨c4,_,_,_,_,hbl,hcl⟩:=h.cells i hi;have hrl:=Ab h.ring;obtain⟨n,hn⟩:∃n,d.bufs.length=n:=⟨_,rfl⟩;have HS:Hid (∀W:World,Below w.heap.size w W->W.cell? ⟨c,2,none⟩=some (.int .i64 d.W)/\W.cell? ⟨c,3,none⟩=some (.int .i64 d.H)/\W.cell? ⟨c,4,none⟩=some (.slice (some ⟨bg,0,none⟩) n cap)/\bg<W.heap.size/\c<W.heap.size):=fun W hW=>⟨(hW.cell (p:=⟨c,2,none⟩) hcl).trans k2,(hW.cell (p:=⟨c,3,none⟩) hcl).trans k3,by rw[<-hn];exact(hW.cell (p:=⟨c,4,none⟩) hcl).trans c4,aQ hbl hW.size,aQ hcl hW.size⟩;have HG:Hid (∀W:World,Below w.heap.size w W->Calls prog 61 #[.int .i64 d.W,.int .i64 d.H,v] W fun e w'=>∃g,e=.returned (.agg #[.int .i64 d.W,.int .i64 d.H,.slice (some ⟨g,0,none⟩) N N])/\(∃u0,w'.cell? ⟨bg,i*4,none⟩=some u0)/\(∃u1,w'.cell? ⟨bg,i*4+1,none⟩=some u1)/\(∃u2,w'.cell? ⟨bg,i*4+2,none⟩=some u2)/\(∃u3,w'.cell? ⟨bg,i*4+3,none⟩=some u3)/\w'.frozen? ⟨bg,i*4,none⟩=false/\w'.frozen? ⟨bg,i*4+1,none⟩=false/\w'.frozen? ⟨bg,i*4+2,none⟩=false/\w'.frozen? ⟨bg,i*4+3,none⟩=false/\Hid (Below w.heap.size w w'/\∃g',w.heap.size<=g'/\g'<w'.heap.size/\AK ((((w'.setCell ⟨bg,i*4,none⟩ (.int .i64 d.W)).setCell ⟨bg,i*4+1,none⟩ (.int .i64 d.H)).setCell ⟨bg,i*4+2,none⟩ (.slice (some ⟨g,0,none⟩) N N)).setCell ⟨bg,i*4+3,none⟩ (.int .i64 0)) (AA S w w') c (d.filled i g' (fun k=>l.getD k (0,0,0,0))) (.slice (some ⟨bg,0,none⟩) d.bufs.length cap) rg dv)):=fun W hW=>(K4 d.W d.H N e1 hN v l (by rw[hl,hNe]) W (hv.below hW)).mono fun e w' ⟨g,q1,q2,q3,q4⟩=>by
  have hb:Below w.heap.size w w':=hW.trans (q4.mono hW.size);have hm:=(h.below hb).mono (S':=AA S w w') fun g hg=>.inl hg;have hbt:Ax w' bg 148 (cap*4):=by
   obtain⟨k1,k2⟩:=hm.row.1;rcases k2 with⟨k2,_⟩|⟨g9,cap9,cur,a1,a2,a3,a4,a5,a6,a7⟩
   ·cases k2
   ·simp only[Value.slice.injEq,Option.some.injEq,Addr.mk.injEq]at a1;obtain⟨⟨rfl,_⟩,_,rfl⟩:=a1;exact⟨cur,a3,a6⟩
  have hgl:=q2.has.lt;have hgw:w.heap.size<=g:=bh hW.size q3;refine⟨g,q1,hbt.cell _ (by omega),hbt.cell _ (by omega),hbt.cell _ (by omega),hbt.cell _ (by omega),hbt.free _,hbt.free _,hbt.free _,hbt.free _,hb,g,hgw,hgl,?_⟩;have q:=hm.setBuf4 rfl i hi ⟨g,0,fun k=>l.getD k (0,0,0,0)⟩ ⟨.inr ⟨hgw,hgl⟩,by rw[hNe];exact q2⟩ (show g≠bg by omega);rw[hNe]at q;exact q
 have hcb:c≠bg:=fun e=>by
  obtain⟨cur,hcur⟩:=h.row.type (g:=bg) rfl;have hk:=h.blk;rw[e]at hk;have:=hk.symm.trans hcur;simp at this
 have HS2:Hid (∀W:World,Below w.heap.size w W->∀u0 u1 u2 u3,((((W.setCell ⟨bg,i*4,none⟩ u0).setCell ⟨bg,i*4+1,none⟩ u1).setCell ⟨bg,i*4+2,none⟩ u2).setCell ⟨bg,i*4+3,none⟩ u3).cell? ⟨c,2,none⟩=some (.int .i64 d.W)/\((((W.setCell ⟨bg,i*4,none⟩ u0).setCell ⟨bg,i*4+1,none⟩ u1).setCell ⟨bg,i*4+2,none⟩ u2).setCell ⟨bg,i*4+3,none⟩ u3).cell? ⟨c,3,none⟩=some (.int .i64 d.H)/\((((W.setCell ⟨bg,i*4,none⟩ u0).setCell ⟨bg,i*4+1,none⟩ u1).setCell ⟨bg,i*4+2,none⟩ u2).setCell ⟨bg,i*4+3,none⟩ u3).cell? ⟨c,4,none⟩=some (.slice (some ⟨bg,0,none⟩) n cap)/\bg<((((W.setCell ⟨bg,i*4,none⟩ u0).setCell ⟨bg,i*4+1,none⟩ u1).setCell ⟨bg,i*4+2,none⟩ u2).setCell ⟨bg,i*4+3,none⟩ u3).heap.size/\c<((((W.setCell ⟨bg,i*4,none⟩ u0).setCell ⟨bg,i*4+1,none⟩ u1).setCell ⟨bg,i*4+2,none⟩ u2).setCell ⟨bg,i*4+3,none⟩ u3).heap.size):=fun W hW u0 u1 u2 u3=>by
  obtain⟨q1,q2,q3,q4,q5⟩:=HS.out W hW;have e:((((W.setCell ⟨bg,i*4,none⟩ u0).setCell ⟨bg,i*4+1,none⟩ u1).setCell ⟨bg,i*4+2,none⟩ u2).setCell ⟨bg,i*4+3,none⟩ u3).heap[c]?=W.heap[c]? :=by
   rw[aL _ _ c _ hcb,aL _ _ c _ hcb,aL _ _ c _ hcb,aL _ _ c _ hcb]
  exact⟨(aV (a:=⟨c,2,none⟩) e).trans q1,(aV (a:=⟨c,3,none⟩) e).trans q2,(aV (a:=⟨c,4,none⟩) e).trans q3,by simpa using q4,by simpa using q5⟩
 have HO4:Hid (∀W:World,Below w.heap.size w W->∀u0 u1 u2 u3,Ac (fun b=>b=bg) w ((((W.setCell ⟨bg,i*4,none⟩ u0).setCell ⟨bg,i*4+1,none⟩ u1).setCell ⟨bg,i*4+2,none⟩ u2).setCell ⟨bg,i*4+3,none⟩ u3)):=fun W hW u0 u1 u2 u3=>
  ((((Ac.below (S:=fun b=>b=bg) hW).set (p:=⟨bg,i*4,none⟩) (.inl rfl) u0).set (p:=⟨bg,i*4+1,none⟩) (.inl rfl) u1).set (p:=⟨bg,i*4+2,none⟩) (.inl rfl) u2).set (p:=⟨bg,i*4+3,none⟩) (.inl rfl) u3
 have hvf:∃a n c',v=.slice a n c':=let ⟨a,c',e,_⟩:=hv;⟨a,_,c',e⟩
 obtain⟨va,vn,vc,rfl⟩:=hvf;rw[hn]at hcap;have hin:(i:Int)<(n:Int):=by omega
 have hi0:(0:Int)<=(i:Int):=by omega
 have hic:i<cap:=by omega
 clear h hd hv hl e1 k2 k3 c4 hrl;go_enter func43,ntmps43
 go_wp2_with fail
 go_region_held3 (fun W=>W.cell? ⟨c,2,none⟩=some (.int .i64 d.W)/\W.cell? ⟨c,3,none⟩=some (.int .i64 d.H)/\W.cell? ⟨c,4,none⟩=some (.slice (some ⟨bg,0,none⟩) n cap)/\bg<W.heap.size/\c<W.heap.size)
  (first
   |with_reducible exact HS.out _ (aN _ _).drew
   |with_reducible exact HS.out _ (aN _ _)
   |with_reducible exact HS.out _ H1.out.1
   |with_reducible exact HS2.out _ H1.out.1 _ _ _ _
   |fail)
  (first
   |(go_at_call 61;refine(HG.out _ (aN _ _).drew).mono ?_;rintro e w1 ⟨g,rfl,⟨u0,x0⟩,⟨u1,x1⟩,⟨u2,x2⟩,⟨u3,x3⟩,f0,f1,f2,f3,H1⟩)
   |fail)
 all_goals go_wp2_with fail
 obtain⟨hb,g',a1,a2,cm⟩:=H1.out;refine cV (v:=.tuple #[]) (by simp[results,results43]) rfl ⟨rfl,g',a1,by simpa using a2,cm.mono fun b hb'=>?_,?_⟩
 ·exact hb'.imp id fun q=>by simpa using q
 ·exact HO4.out _ hb _ _ _ _
variable{H W k:Nat}{L:List Nat}{bv:Value}{wr:World}
theorem Rx:(prog.info? 136).map (fun i=>(i.zero,i.size,i.bytes))=some (some (.agg #[.slice none 0 0]),1,24):=by kernel_rfl
theorem Ry:(prog.info? 148).map (fun i=>(i.zero,i.size,i.bytes))=some (some (.agg #[.int .i64 0,.int .i64 0,.slice none 0 0,.int .i64 0]),4,48):=by kernel_rfl
theorem PL(w:World):
  Calls prog 97 #[.int .i64 4] w fun e w'=>∃rg,e=.returned (.agg #[.slice (some ⟨rg,0,none⟩) 4 4,.int .i64 0])/\w.heap.size<=rg/\Blk w' rg 136 #[.slice none 0 0,.slice none 0 0,.slice none 0 0,.slice none 0 0]/\Below w.heap.size w w':=by
 obtain⟨j0,hj0,hy0,hy1,hy2⟩:=cW Rx;have hmk2:∀w:World,(Instr.makeSlice 141 (.int .i64 4) (.int .i64 4)).run prog w=.ok (.slice (some ⟨w.heap.size,0,none⟩) 4 4) (w.alloc (.cells #[.slice none 0 0,.slice none 0 0,.slice none 0 0,.slice none 0 0] 136)):=fun w=>by
  have h9:=run_make (P:=prog) w 141 136 j0 _ underlying141 hj0 hy0 .i64 .i64 4 4 (by omega) (Int.le_refl _) (by rw[hy2];omega) (by omega);rw[hy1]at h9;have e:madeCells (Value.agg #[.slice none 0 0]).cells (Int.toNat 4*1)=#[.slice none 0 0,.slice none 0 0,.slice none 0 0,.slice none 0 0]:=by first|kernel_rfl|(apply Array.ext';simp[madeCells,Value.cells,List.range_succ])
  rw[e]at h9;exact h9
 go_enter func97,ntmps97
 go_wp2_with fail
 refine cU (v:=.agg #[.slice (some ⟨w.heap.size+1,0,none⟩) 4 4,.int .i64 0]) (by simp[results,results97,go_sem]) rfl ⟨w.heap.size+1,rfl,by omega,?_,Joins.below_alloc2 w _ _⟩;have q:=aR (w.alloc (.cells #[.slice (some ⟨w.heap.size+1,0,none⟩) 4 4,.int .i64 0] 143)) (.cells #[.slice none 0 0,.slice none 0 0,.slice none 0 0,.slice none 0 0] 136);rw[show(w.alloc (.cells #[.slice (some ⟨w.heap.size+1,0,none⟩) 4 4,.int .i64 0] 143)).heap.size=w.heap.size+1 by simp]at q;exact q
def Gj(g:Nat):Buf:=⟨g,0,fun _=>(0,0,0,0)⟩
structure Ki(w wr:World)(c rg W H k:Nat)(bv:Value)(L:List Nat):Prop where
 bel:Below w.heap.size w wr
 cb:w.heap.size<=c
 rb:w.heap.size<=rg
 blk:Blk wr c 145 #[.int .i64 0,.int .i64 0,.int .i64 W,.int .i64 H,bv,.slice (some ⟨rg,0,none⟩) 4 4,.int .i64 0]
 row:wr.ownsRow (c+1) 148 4 bv k (L.flatMap fun g=>DN W H (Gj g))
 ring:Blk wr rg 136 #[.slice none 0 0,.slice none 0 0,.slice none 0 0,.slice none 0 0]
 len:L.length=k
 pix:∀g∈L,c<g/\Bj wr g (W*H) (fun _=>(0,0,0,0))
 apart:∀(i j a:Nat),L[i]?=some a->L[j]?=some a->i=j
theorem Ki.step{w5 w6:World}{gg cp g:Nat}(h:Ki w wr c rg W H k bv L)(h5:Below wr.heap.size wr w5)(hg:w5.grownBy w6 bv.ownBlock)(hp:Bj w5 g (W*H) (fun _=>(0,0,0,0)))(hgn:wr.heap.size<=g)
  (ho:w6.ownsRow (c+1) 148 4 (.slice (some ⟨gg,0,none⟩) (k+1) cp) (k+1) ((L.flatMap fun g=>DN W H (Gj g))++DN W H (Gj g))):
  Ki w (w6.setCell ⟨c,4,none⟩ (.slice (some ⟨gg,0,none⟩) (k+1) cp)) c rg W H (k+1) (.slice (some ⟨gg,0,none⟩) (k+1) cp) (L++[g]):=by
 have hcl:=Ab h.blk;have hrl:=Ab h.ring;have hs5:=h5.size;have hown:∀b,bv.ownBlock=some b->c+1<=b/\∃cur,wr.heap[b]?=some (.cells cur 148 (0,0)):=fun b hb=>⟨(h.row.lt b hb).1,Ap h.row hb⟩;have hst:∀b,b<w5.heap.size->bv.ownBlock≠some b->b≠c->(w6.setCell ⟨c,4,none⟩ (.slice (some ⟨gg,0,none⟩) (k+1) cp)).heap[b]?=w5.heap[b]? :=fun b hb hn hc=>by
  rw[aL _ _ b _ hc,hg.block b hb fun e=>hn e.symm]
 have hc6:w6.heap[c]?=wr.heap[c]? :=by
  rw[hg.block c (by omega) fun e=>by have:=(hown c e.symm).1;omega,h5.block c hcl]
 have hgb:∀b,b∈L++[g]->c<b/\Bj w5 b (W*H) (fun _=>(0,0,0,0)):=fun b hb=>by
  rcases bV.1 hb with hb|hb
  ·exact⟨(h.pix b hb).1,(h.pix b hb).2.keep (h5.block b (h.pix b hb).2.has.lt)⟩
  ·simp at hb;subst hb;exact⟨by omega,hp⟩
 refine⟨?_,h.cb,h.rb,?_,?_,?_,by simp[h.len],fun b hb=>⟨(hgb b hb).1,(hgb b hb).2.keep (hst b (hgb b hb).2.has.lt (fun e=>?_) (by have:=(hgb b hb).1;omega))⟩,fun i j a hi hj=>?_⟩
 ·refine cO ?_ h.cb _;exact(h.bel.trans (h5.mono h.bel.size)).grown hg (bh h.bel.size hs5) fun b hb=>by have:=(hown b hb).1;have:=h.cb;omega
 ·have q:Blk w6 c 145 _:=hc6.trans h.blk;exact q.set 4 _
 ·refine Ai ?_ fun b hb=>aL _ _ b _ ?_
  ·rw[cM];simpa using ho
  ·have:=(ho.lt b hb).1;show b≠c;omega
 ·refine h.ring.keep ?_;rw[hst rg (by omega) (fun e=>?_) (fun e=>?_),h5.block rg hrl]
  ·obtain⟨cur,q⟩:=(hown rg e).2;have:=h.ring.symm.trans q;simp at this
  ·have q:=h.ring;rw[e]at q;have:=q.symm.trans h.blk;simp at this
 ·obtain⟨cur,q⟩:=(hown b e).2;obtain⟨cur2,q2,_⟩:=(hgb b hb).2;rw[h5.block b (Ab q)]at q2;have:=q.symm.trans q2;simp at this
 ·have key:∀(i:Nat),(L++[g])[i]?=some a->(i<L.length/\L[i]?=some a/\a<wr.heap.size)\/(i=L.length/\a=g):=fun i hi=>by
   by_cases e:i<L.length
   ·rw[cA e]at hi;exact .inl ⟨e,hi,(h.pix a (cH hi)).2.has.lt⟩
   ·rw[bO (by omega)]at hi;right;have:i-L.length=0:=by
     by_cases e2:i-L.length=0
     ·exact e2
     ·rw[cD (by simp;omega)]at hi;cases hi
    rw[this]at hi;simp at hi;exact⟨by omega,hi.symm⟩
  rcases key i hi with⟨a1,a2,a3⟩|⟨a1,a2⟩
  ·rcases key j hj with⟨b1,b2,b3⟩|⟨b1,b2⟩
   ·exact h.apart i j a a2 b2
   ·omega
  ·rcases key j hj with⟨b1,b2,b3⟩|⟨b1,b2⟩
   ·omega
   ·omega
def Cv.new(W H:Nat)(L:List Nat):Cv:=⟨W,H,L.map Gj,[[],[],[],[]],0,0⟩
theorem Cv.new_ok(h:Ki w wr c rg W H k bv L)(hW:1<=W/\W<=24)(hH:1<=H/\H<=24)(hk:1<=k/\k<=3):Co (Cv.new W H L):=by
 refine⟨hW,hH,by simp[Cv.new,h.len];exact hk,by simp[Cv.new],rfl,fun R hR=>?_,fun b hb=>?_,fun R hR x y hm=>?_,fun i j a b hi hj hg=>?_⟩
 ·simp[Cv.new]at hR;subst hR;exact C7
 ·simp[Cv.new]at hb;obtain⟨g,_,rfl⟩:=hb;exact aO _
 ·simp[Cv.new]at hR;subst hR;simp[Ay]at hm
 ·simp only[Cv.new,bZ,Option.map_eq_some_iff]at hi hj;obtain⟨g1,hi,rfl⟩:=hi;obtain⟨g2,hj,rfl⟩:=hj;have:g1=g2:=hg;subst this;exact h.apart i j g1 hi hj
theorem Ki.mem(h:Ki w wr c rg W H k bv L):AK wr (fun g=>w.heap.size<=g/\g<wr.heap.size) c (Cv.new W H L) bv rg #[.slice none 0 0,.slice none 0 0,.slice none 0 0,.slice none 0 0]:=by
 refine⟨h.blk,⟨h.cb,Ab h.blk⟩,⟨?_,fun g hg=>⟨by have:=(h.row.lt g hg).1;have:=h.cb;omega,(h.row.lt g hg).2⟩⟩,h.ring,⟨h.rb,Ab h.ring⟩,rfl,fun i R hi=>?_,fun b hb=>?_⟩
 ·have q:=h.row;have e:(Cv.new W H L).bufs.flatMap (DN W H)=L.flatMap fun g=>DN W H (Gj g):=by simp[Cv.new,List.flatMap_map]
  have e2:(Cv.new W H L).bufs.length=k:=by simp[Cv.new,h.len]
  show World.ownsRow wr 0 _ 4 bv (Cv.new W H L).bufs.length ((Cv.new W H L).bufs.flatMap (DN W H));rw[e,e2];exact⟨q.1,q.2.imp id fun⟨g,cap,cur,a1,a2,a3⟩=>⟨g,cap,cur,a1,cB _,a3⟩⟩
 ·have hi4:i<4:=(bL.1 hi).1;have hR:R=[]:=by
   have:=cH hi;simpa[Cv.new]using this
  subst hR;exact⟨.slice none 0 0,by match i,hi4 with|0,_|1,_|2,_|3,_=>rfl,D4.nil _ _⟩
 ·simp[Cv.new]at hb;obtain⟨g,hg,rfl⟩:=hb;exact⟨⟨by have:=(h.pix g hg).1;have:=h.cb;show w.heap.size<=g;omega,(h.pix g hg).2.has.lt⟩,(h.pix g hg).2⟩
theorem TG(W H N:Nat)(w:World)(hW:1<=W/\W<=24)(hH:1<=H/\H<=24)(hN:1<=N/\N<=3):
  Calls prog 54 #[.int .i64 W,.int .i64 H,.int .i64 N] w fun e w'=>∃c rg bv L,e=.returned (.pointer (some ⟨c,0,none⟩))/\Ki w w' c rg W H N bv L:=by
 obtain⟨i0,hi0,hz0,hz1,hz2⟩:=cW Ry;obtain⟨hW0,hW1⟩:=hW;obtain⟨hH0,hH1⟩:=hH;obtain⟨hn0,hn1⟩:=hN;obtain⟨K,hK⟩:∃K:Nat,W*H=K:=⟨_,rfl⟩;have hK2:K<=576:=by rw[<-hK];exact bh (cI hW1 hH1) (by omega)
 have hKi:(W:Int)*(H:Int)=(K:Int):=by rw[<-hK];simp
 have HG:=Aa (J4 W H K hKi hK2);have HR:=Aa (PL w);have HKe:=Aa hK;clear hKi hK;go_enter func54,ntmps54
 go_wp2_with(go_at_call 97;refine HR.out.mono ?_;rintro e w1 ⟨rg,rfl,r1,r2,r3⟩;have H1:=Aa (aK r1 (aK r2 r3));clear r1 r2 r3)
 have H0:Hid (Ki w (w1.alloc (.cells #[.int .i64 0,.int .i64 0,.int .i64 W,.int .i64 H,.slice none 0 0,.slice (some ⟨rg,0,none⟩) 4 4,.int .i64 0] 145)) w1.heap.size rg W H 0 (.slice none 0 0) []):=by
  obtain⟨r1,r2,r3⟩:=H1.out;exact⟨r3.alloc r3.size _,r3.size,r1,aR w1 _,bA _ _ _ _,r2.alloc _,rfl,fun g hg=>(by cases hg),fun i j a hi=>(by simp at hi)⟩
 clear H1 HR
 go_loopg [15] N (fun gg s15 wr=>∃(k:Nat) (bv:Value) (L:List Nat),s15=.int .i64 (k:Int)/\gg+k=N/\Hid (Ki w wr w1.heap.size rg W H k bv L))
 case atStart=>exact⟨0,.slice none 0 0,[],rfl,by omega,H0.out⟩
 case round=>
  rename World=>wr;obtain⟨k,bv,L,rfl,hgk,HM⟩:=hrel;cases gk with
  |zero=>
   have hlt:¬(k:Int)<(N:Int):=by omega
   have hkN:k=N:=by omega
   subst hkN
   go_wp2_with fail
   go_ret;exact⟨_,rfl,rg,bv,L,HM.out⟩
  |succ gk=>
   have hlt:(k:Int)<(N:Int):=by omega
   obtain⟨ba,bc,hbf⟩:=Al HM.out.row;subst hbf;have c1:wr.cell? ⟨w1.heap.size,4,none⟩=some (.slice ba k bc):=HM.out.blk.cell 4;have hxl:w1.heap.size<wr.heap.size:=HM.out.blk.has.lt;have HX:Hid (∀wx:World,Below wr.heap.size wr wx->wx.cell? ⟨w1.heap.size,4,none⟩=some (.slice ba k bc)/\wx.ownsRow (w1.heap.size+1) 148 4 (.slice ba k bc) k (L.flatMap fun g=>DN W H (Gj g))/\w1.heap.size+1<=wx.heap.size):=fun wx hx=>⟨(hx.cell (p:=⟨w1.heap.size,4,none⟩) hxl).trans c1,Ai HM.out.row fun b hb=>hx.block b (HM.out.row.lt b hb).2,by have:=hx.size;omega⟩;have HY:Hid (∀(w5 w6:World) (gg cp g:Nat),Below wr.heap.size wr w5->w5.grownBy w6 (Value.slice ba k bc).ownBlock->Bj w5 g K (fun _=>(0,0,0,0))->wr.heap.size<=g->w6.ownsRow (w1.heap.size+1) 148 4 (.slice (some ⟨gg,0,none⟩) (k+1) cp) (k+1) ((L.flatMap fun g=>DN W H (Gj g))++[.int .i64 W,.int .i64 H,.slice (some ⟨g,0,none⟩) K K,.int .i64 0])->w6.cell? ⟨w1.heap.size,4,none⟩=some (.slice ba k bc)/\w6.frozen? ⟨w1.heap.size,4,none⟩=false/\Hid (Ki w (w6.setCell ⟨w1.heap.size,4,none⟩ (.slice (some ⟨gg,0,none⟩) (k+1) cp)) w1.heap.size rg W H (k+1) (.slice (some ⟨gg,0,none⟩) (k+1) cp) (L++[g]))):=fun w5 w6 gg cp g h5 hg hp hgn ho=>by
    have hb:w6.heap[w1.heap.size]?=wr.heap[w1.heap.size]? :=by
     rw[hg.block _ (aQ hxl h5.size) (fun e=>by have:=(HM.out.row.lt _ e.symm).1;omega),h5.block _ hxl]
    refine⟨?_,?_,HM.out.step h5 hg (by rw[HKe.out];exact hp) hgn ?_⟩
    ·rw[aV (w:=wr) (a:=⟨w1.heap.size,4,none⟩) hb];exact c1
    ·rw[World.frozen?_of_block (w:=wr) (a:=⟨w1.heap.size,4,none⟩) hb];exact HM.out.blk.has.free 4
    ·have e:DN W H (Gj g)=[.int .i64 W,.int .i64 H,.slice (some ⟨g,0,none⟩) K K,.int .i64 0]:=by
      unfold DN Gj;rw[HKe.out];rfl
     rw[e];exact ho
   have hk2:k<=3:=by omega
   go_upto_region 4 with fail
   go_region_law (first
     |(refine step_append_lies _ (by rfl) (.tmp 21) (.tmp 26) 140 (by rfl) (w1.heap.size+1) 148 i0 _ 4 48 underlying140 hi0 hz0 hz1 hz2 rfl (by omega) (.slice ba k bc) k (L.flatMap fun g=>DN W H (Gj g)) (by rfl) (HX.out _ (HB1.out.alloc HB1.out.size _)).2.1 ⟨w2.heap.size,0,none⟩ 1 1 [.int .i64 W,.int .i64 H,.slice (some ⟨g,0,none⟩) K K,.int .i64 0] (by rfl) (by rfl) (bI (cs:=#[.int .i64 W,.int .i64 H,.slice (some ⟨g,0,none⟩) K K,.int .i64 0]) (t:=148) (fr:=(0,0)) (aR w2 _)) (by simp[Value.oneCell']) (by omega) (by unfold maxLen;omega) (by omega) (HX.out _ (HB1.out.alloc HB1.out.size _)).2.2 _ rfl ?_;intro ga cp w6 hown6 hgrow _ _;obtain⟨c6,f6,HN6⟩:=HY.out _ w6 ga cp g (HB1.out.alloc HB1.out.size _) hgrow (HP1.out.1.keep (Ad w2 _ g HP1.out.1.has.lt)) HP1.out.2 hown6;clear hown6 hgrow)
     |(go_simp;go_wp2_with(go_at_call 98;refine(HG.out _).mono ?_;rintro e w2 ⟨g,rfl,hg,hge,hb⟩;have HB1:=Aa (((aN wr.heap.size wr).drew).trans hb);have HP1:=Aa (aK hg hge);have cx:=(HX.out w2 HB1.out).1;have hxl1:=aQ hxl HB1.out.size;have hxn1:=Nat.ne_of_lt hxl1;clear hg hge hb)))
   all_goals
    go_wp2_with fail
    go_roundg gk
    case measure=>omega
    case rel=>exact⟨k+1,_,_,by go_num,by omega,HN6⟩
end Go.Proofs.YtofinpocigbbeaaGreat
