import Derived.Test.YtofinpocigbbeaaGreatKbj
import Derived.Test.YtofinpocigbbeaaGreatKas
namespace Go.Proofs.YtofinpocigbbeaaGreat
open Go.RowKit
attribute [local go_sem ↓] Go.wp_at_zero Go.wp_at_succ

/-- The surfaces in another order. -/
def reord (st : St) (o : List Nat) : St := { st with order := o }

/-- What lies on one surface is put in another order. -/
theorem PRaw.turn {w w' : World} {S : Nat → Prop} {x : Nat} {st : St} {bv : Value} {sc mp : Nat} {blk : Int → Nat} {G : Int → Nat → Value} (h : PRaw w S x st bv sc mp blk G) {o : List Nat} (ho : o.Perm st.order) {p : Int} (hp : Live st p) (hk : ∀ q, q ≠ p → (reord st o).kids q = st.kids q) {v : Value}
    (hpar : SrfB w' (blk p) (upO (G p) 2 v))
    (hrow : RowS w' S 117 1 v ((reord st o).kids p).length (((reord st o).kids p).map fun (j : Nat) => ptrV (blk j)))
    (hvb : v.ownBlock = (G p 2).ownBlock)
    (hoth : ∀ g, g < w.heap.size → g ≠ blk p → some g ≠ (G p 2).ownBlock → w'.heap[g]? = w.heap[g]?) :
    PRaw w' S x (reord st o) bv sc mp blk (upG G p (upO (G p) 2 v)) := by
  have hL : ∀ q, Live (reord st o) q → Live st q := fun q hq => by
    rcases hq with rfl | ⟨j, rfl, hj⟩
    · exact live_top st
    · exact live_nat (ho.mem_iff.1 hj)
  have hlt : ∀ {g : Nat} {o : Obj}, w.heap[g]? = some o → g < w.heap.size := fun {g o} hg => (Array.getElem?_eq_some_iff.1 hg).1
  obtain ⟨pc, hpc, hpcs⟩ := h.srf p hp
  have rowT : ∀ g, some g = (G p 2).ownBlock → ∃ cur, w.heap[g]? = some (.cells cur 117 (0, 0)) := fun g hg => (h.on p hp).type hg.symm
  have hown : ∀ q, (upG G p (upO (G p) 2 v) q 2).ownBlock = (G q 2).ownBlock := fun q => by
    unfold upG
    by_cases e : q = p
    · subst e
      rw [if_pos rfl]
      show v.ownBlock = _
      exact hvb
    · rw [if_neg e]
  refine ⟨?_, ?_, ?_, fun q hq => ?_, ⟨h.own.1, h.own.2.1, h.own.2.2.1, fun q hq => h.own.2.2.2 q (hL q hq)⟩, fun q q' hq hq' e => h.inj q q' (hL q hq) (hL q' hq') e, fun q hq => ?_, fun q q' hq hq' hne g hg => ?_, fun q hq => ?_, fun j hj => ?_⟩
  · refine (hoth x (hlt h.scr) (neT h.scr hpc (by decide)) fun e => ?_).trans h.scr
    obtain ⟨c, hc⟩ := rowT x e
    exact neT h.scr hc (by decide) rfl
  · refine (hoth sc (hlt h.sce) (neT h.sce hpc (by decide)) fun e => ?_).trans h.sce
    obtain ⟨c, hc⟩ := rowT sc e
    exact neT h.sce hc (by decide) rfl
  · refine (h.map.keep (hoth mp h.map.lt (fun e => h.map.ne hpc e.symm) fun e => ?_)).congr ho.symm fun _ _ => rfl
    obtain ⟨c, hc⟩ := rowT mp e
    exact h.map.ne hc rfl
  · unfold upG
    by_cases e : q = p
    · subst e; rw [if_pos rfl]; exact hpar
    · rw [if_neg e]
      obtain ⟨c, hc, hc2⟩ := h.srf q (hL q hq)
      refine ⟨c, (hoth _ (hlt hc) (fun e2 => e (h.inj q p (hL q hq) hp e2)) fun e2 => ?_).trans hc, hc2⟩
      obtain ⟨c2, hc2⟩ := rowT _ e2
      exact neT hc hc2 (by decide) rfl
  · by_cases e : q = p
    · subst e
      unfold upG
      rw [if_pos rfl]
      exact hrow
    · unfold upG
      rw [if_neg e, hk q e]
      have hr := h.on q (hL q hq)
      refine ⟨own_keep hr.1 fun g hg => ?_, hr.2⟩
      obtain ⟨c, hc⟩ := hr.type hg
      exact hoth g (hlt hc) (neT hc hpc (by decide)) fun e2 => h.apart q p (hL q hq) hp e g hg e2.symm
  · rw [hown] at hg ⊢
    exact h.apart q q' (hL q hq) (hL q' hq') hne g hg
  · have hc3 : PCells blk (reord st o) q (G q) := (h.cells q (hL q hq)).other rfl rfl fun _ => rfl
    unfold upG
    by_cases e : q = p
    · rw [if_pos e]
      subst e
      exact ⟨hc3.num, hc3.par, ⟨hc3.now.w, hc3.now.h, hc3.now.pix, hc3.now.x, hc3.now.y, hc3.now.c0, hc3.now.c1, hc3.now.c2, hc3.now.c3, hc3.now.cut, hc3.now.hint⟩, (by obtain ⟨l, h1, h2⟩ := hc3.next; exact ⟨l, ⟨h1.w, h1.h, h1.pix, h1.x, h1.y, h1.c0, h1.c1, h1.c2, h1.c3, h1.cut, h1.hint⟩, h2⟩), hc3.stk, hc3.kep⟩
    · rw [if_neg e]
      exact hc3
  · have hkd : KeptD w w' := fun g cur t ht e => hoth g (hlt e) (neT e hpc (ht.ne (by unfold DataT; decide))) fun e2 => by
      obtain ⟨c, hc⟩ := rowT g e2
      exact neT e hc (ht.ne (by unfold DataT; decide)) rfl
    have hd : SfD w' S (G j) ((reord st o).sf j) := (h.data j (ho.mem_iff.1 hj)).kd hkd
    unfold upG
    by_cases e : (j : Int) = p
    · rw [if_pos e]
      subst e
      exact ⟨hd.pix, hd.hint, hd.npix, hd.nhint, hd.kw, hd.kh, hd.kept⟩
    · rw [if_neg e]
      exact hd

theorem reord_kids {st : St} {i s : Nat} (ab : Bool) (hp : (st.sf s).parent = (st.sf i).parent) (q : Int) : (reord st (rsL st.order i s ab)).kids q = if (st.sf i).parent = q then rsL (st.kids q) i s ab else st.kids q := by
  unfold St.kids
  show (rsL st.order i s ab).filter _ = _
  have e : (fun j => decide (((reord st (rsL st.order i s ab)).sf j).parent = q)) = fun j => decide ((st.sf j).parent = q) := rfl
  rw [e, rsL_filter _ _ _ _ (by rw [hp])]
  by_cases h : (st.sf i).parent = q
  · rw [if_pos (by simpa using h), if_pos h]
  · rw [if_neg (by simpa using h), if_neg h]

end Go.Proofs.YtofinpocigbbeaaGreat

namespace Go.Proofs.YtofinpocigbbeaaGreat
open Go.RowKit

section
variable {w w' : World} {S S' : Nat → Prop} {x : Nat} {st : St} {bv : Value} {sc mp : Nat} {blk : Int → Nat} {G : Int → Nat → Value}

/-- One surface's cells are turned, but for what lies on it. -/
theorem PRaw.updS (h : PRaw w S x st bv sc mp blk G) (hS : ∀ g, S g → S' g) {i : Nat} (hi : i ∈ st.order) (hil : i < st.sfs.length) {gf : Sf → Sf} (hpar : ∀ s, (gf s).parent = s.parent) (hoth : ∀ g, g < w.heap.size → g ≠ blk i → w'.heap[g]? = w.heap[g]?) {F : Nat → Value} (hs : SrfB w' (blk i) F) (h2 : F 2 = G i 2) (hc : PCells blk (Go.Proofs.YtofinpocigbbeaaGreat.upd st i gf) i F) (hd : SfD w' S' F (gf (st.sf i))) : PRaw w' S' x (Go.Proofs.YtofinpocigbbeaaGreat.upd st i gf) bv sc mp blk (upG G i F) := by
  have hA := upd_alike (g := gf) hil hpar
  obtain ⟨cur, hcur, hcs⟩ := h.srf i (live_nat hi)
  have hlt : ∀ {g : Nat} {o : Obj}, w.heap[g]? = some o → g < w.heap.size := fun {g o} hg => (Array.getElem?_eq_some_iff.1 hg).1
  have on2 : ∀ p : Int, upG G i F p 2 = G p 2 := fun p => by
    unfold upG
    by_cases e : p = i
    · subst e; rw [if_pos rfl, h2]
    · rw [if_neg e]
  refine ⟨(hoth x (hlt h.scr) (neT h.scr hcur (by decide))).trans h.scr, ?_, h.map.keep (hoth mp h.map.lt (fun e => h.map.ne hcur e.symm)), fun p hp => ?_, ⟨hS _ h.own.1, hS _ h.own.2.1, hS _ h.own.2.2.1, fun p hp => hS _ (h.own.2.2.2 p hp)⟩, h.inj, fun p hp => ?_, fun p p' hp hp' hne g => ?_, fun p hp => ?_, fun j hj => ?_⟩
  · rw [hA.len]
    exact (hoth sc (hlt h.sce) (neT h.sce hcur (by decide))).trans h.sce
  · unfold upG
    by_cases e : p = i
    · subst e; rw [if_pos rfl]; exact hs
    · rw [if_neg e]
      have hb : blk p ≠ blk i := fun e2 => e (h.inj p i hp (live_nat hi) e2)
      obtain ⟨c2, k1, k2⟩ := h.srf p hp
      exact ⟨c2, (hoth _ (hlt k1) hb).trans k1, k2⟩
  · rw [on2, hA.kids]
    exact ((h.on p hp).mono hS).other fun g c hg => hoth g (hlt hg) (neT hg hcur (by decide))
  · rw [on2, on2]
    exact h.apart p p' hp hp' hne g
  · unfold upG
    by_cases e : p = i
    · subst e; rw [if_pos rfl]; exact hc
    · rw [if_neg e]
      refine (h.cells p hp).other rfl rfl fun hp1 => ?_
      rw [upd_sf st i gf _ hil, if_neg]
      rcases hp with rfl | ⟨j, rfl, _⟩
      · exact absurd rfl hp1
      · rw [Int.toNat_natCast]
        exact fun e2 => e (by rw [e2])
  · have hkd : KeptD w w' := fun g cur t ht e => hoth g (hlt e) (neT e hcur (ht.ne (by unfold DataT; decide)))
    unfold upG
    by_cases e : (j : Int) = i
    · have e2 : j = i := by omega
      subst e2
      rw [if_pos rfl, upd_sf st j gf _ hil, if_pos rfl]
      exact hd
    · rw [if_neg e, upd_sf st i gf _ hil, if_neg (fun e2 => e (by rw [e2]))]
      exact ((h.data j hj).kd hkd).mono hS

end

end Go.Proofs.YtofinpocigbbeaaGreat

namespace Go.Proofs.YtofinpocigbbeaaGreat
open Go.RowKit
attribute [local go_sem ↓] Go.wp_at_zero Go.wp_at_succ

theorem insert_any (g n cap t b : Nat) (u : Value) (cur : Array Value) (w : World) (hg : w.heap[g]? = some (.cells cur 117 (0, 0))) (hb : w.heap[b]? = some (.cells #[u] 117 (0, 0))) (hgb : g ≠ b) (hcs : cur.size = cap) (hcap : cap ≤ maxLen) (hn : n + 1 ≤ cap) (ht : t ≤ n) (hp : ∀ u ∈ cur.toList.take n, u.oneCell' = true) (hu : u.oneCell' = true) :
    Calls Tryz.prog 163 #[.slice (some ⟨g, 0, none⟩) n cap, .int .i64 (t : Int), .slice (some ⟨b, 0, none⟩) 1 1] w fun e w' => e = .returned (.slice (some ⟨g, 0, none⟩) (n + 1) cap) ∧
      (∃ cur' : Array Value, w'.heap[g]? = some (.cells cur' 117 (0, 0)) ∧ cur'.size = cap ∧ cur'.toList.take (n + 1) = (cur.toList.take n).take t ++ u :: (cur.toList.take n).drop t) ∧ w.grownBy w' (some g) ∧ w'.heap.size = w.heap.size := by
  by_cases e : t = n
  · subst e
    have h := insert_end g t cap b u cur w hg hb hcs hn hu
    rw [List.take_take, Nat.min_self, List.drop_eq_nil_of_le (by simp; omega)]
    exact h
  · rw [List.take_take, Nat.min_eq_left ht]
    exact insert_mid g n cap t b u cur w hg hb hgb hcs hcap hn (by omega) hp hu

def sfDone (s : Sf) : Sf := { s with ask := false }

/-- The three cells that tell what was asked of the order are emptied. -/
theorem PRaw.done {w : World} {S : Nat → Prop} {x : Nat} {st : St} (hw : Wf st) {bv : Value} {sc mp : Nat} {blk : Int → Nat} {G : Int → Nat → Value} (h : PRaw w S x st bv sc mp blk G) {i : Nat} (hi : i ∈ st.order) (W : World) (hW : Below w.heap.size w W) :
    (∃ G', PRaw (((W.setCell ⟨blk i, 25, none⟩ (.bool false)).setCell ⟨blk i, 26, none⟩ (.int .i64 0)).setCell ⟨blk i, 27, none⟩ (.bool false)) S x (Go.Proofs.YtofinpocigbbeaaGreat.upd st i sfDone) bv sc mp blk G') ∧ Only S w (((W.setCell ⟨blk i, 25, none⟩ (.bool false)).setCell ⟨blk i, 26, none⟩ (.int .i64 0)).setCell ⟨blk i, 27, none⟩ (.bool false)) ∧ KeptD w (((W.setCell ⟨blk i, 25, none⟩ (.bool false)).setCell ⟨blk i, 26, none⟩ (.int .i64 0)).setCell ⟨blk i, 27, none⟩ (.bool false)) := by
  have h2 := h.below hW
  have hil := hw.lt hi
  have hs : SrfB W (blk i) (G i) := h2.srf i (live_nat hi)
  have q := (h2.cells i (live_nat hi)).nat
  have d := h2.data i hi
  have ho := h2.own.2.2.2 i (live_nat hi)
  refine ⟨⟨_, h2.upd (gf := sfDone) hi hil (fun _ => rfl) (fun g hg hne => ?_) (((hs.set 25 _).set 26 _).set 27 _) rfl (NCells.upd hil ⟨q.num, q.par, ⟨q.now.w, q.now.h, q.now.pix, q.now.x, q.now.y, q.now.c0, q.now.c1, q.now.c2, q.now.c3, q.now.cut, q.now.hint⟩, ⟨q.next.w, q.next.h, q.next.pix, q.next.x, q.next.y, q.next.c0, q.next.c1, q.next.c2, q.next.c3, q.next.cut, q.next.hint⟩, ⟨_, _, _, rfl, rfl, rfl, rfl, fun e => by cases e⟩, q.kep⟩) ⟨d.pix, d.hint, d.npix, d.nhint, d.kw, d.kh, d.kept⟩⟩, ((((Only.below hW).set (.inl ho) _).set (.inl ho) _).set (.inl ho) _), fun g cur t ht e => ?_⟩
  rotate_left
  · obtain ⟨c0, e0, _⟩ := h.srf i (live_nat hi)
    have hne : g ≠ blk i := neT e e0 (ht.ne (by unfold DataT; decide))
    have hgl := block_lt e
    rw [setOther 27 _ g (by have := hW.size; simp; omega) hne, setOther 26 _ g (by have := hW.size; simp; omega) hne, setOther 25 _ g (by have := hW.size; omega) hne, hW.block g hgl]
  rw [setOther 27 _ g (by simpa using hg) hne, setOther 26 _ g (by simpa using hg) hne, setOther 25 _ g hg hne]

theorem done_wf {st : St} (hw : Wf st) {i : Nat} (hi : i ∈ st.order) : Wf (upd st i sfDone) := upd_wf hw (hw.lt hi) (fun _ => rfl) (fun _ => rfl) ⟨(hw.lk i).1, (hw.lk i).2⟩

theorem done_kids {st : St} (hw : Wf st) {i : Nat} (hi : i ∈ st.order) (p : Int) : (upd st i sfDone).kids p = st.kids p := (upd_alike (g := sfDone) (hw.lt hi) (fun _ => rfl)).kids p

set_option maxRecDepth 100000 in
set_option maxHeartbeats 1000000 in
/-- (*Surface).restack: nothing was asked for. -/
theorem restack_no {w : World} {S : Nat → Prop} {x : Nat} {st : St} (hw : Wf st) {bv : Value} {sc mp : Nat} {blk : Int → Nat} {G : Int → Nat → Value} (h : PRaw w S x st bv sc mp blk G) (i : Nat) (hi : i ∈ st.order) (ha : (st.sf i).ask = false) :
    Calls Tryz.prog 108 #[.pointer (some ⟨blk i, 0, none⟩)] w fun e w' => e = .returned (.tuple #[]) ∧ (∃ G', PRaw w' S x (upd st i sfDone) bv sc mp blk G') ∧ Only S w w' ∧ KeptD w w' := by
  obtain ⟨p, hpe⟩ : ∃ p, (st.sf i).parent = p := ⟨_, rfl⟩
  obtain ⟨ic, icf, il⟩ := h.at (live_nat hi)
  have q := (h.cells i (live_nat hi)).nat
  have i1 := ic 1 (by omega)
  rw [q.par, hpe] at i1
  unfold ptrV at i1
  obtain ⟨t, z, ab, e25, e26, e27, et, _⟩ := q.stk
  rw [ha] at et
  subst et
  have c25 := ic 25 (by omega)
  have c26 := ic 26 (by omega)
  have c27 := ic 27 (by omega)
  rw [e25] at c25
  rw [e26] at c26
  rw [e27] at c27
  have f25 := icf 25
  have f26 := icf 26
  have f27 := icf 27
  have HD : Hid (∀ o : Obj, (∃ G', PRaw ((((w.setCell ⟨blk i, 25, none⟩ (.bool false)).setCell ⟨blk i, 26, none⟩ (.int .i64 0)).setCell ⟨blk i, 27, none⟩ (.bool false)).alloc o).drew S x (upd st i sfDone) bv sc mp blk G') ∧ Only S w ((((w.setCell ⟨blk i, 25, none⟩ (.bool false)).setCell ⟨blk i, 26, none⟩ (.int .i64 0)).setCell ⟨blk i, 27, none⟩ (.bool false)).alloc o).drew ∧ KeptD w ((((w.setCell ⟨blk i, 25, none⟩ (.bool false)).setCell ⟨blk i, 26, none⟩ (.int .i64 0)).setCell ⟨blk i, 27, none⟩ (.bool false)).alloc o).drew) := fun o => by
    obtain ⟨⟨G', hG⟩, hO, hk⟩ := h.done hw hi w (Below.refl _ _)
    exact ⟨⟨G', hG.below (al1 (Nat.le_refl _) o).drew⟩, (hO.alloc o).drew, hk.trans (KeptD.below (al1 (Nat.le_refl _) o).drew)⟩
  obtain ⟨ib, hib⟩ : ∃ ib, blk i = ib := ⟨_, rfl⟩
  obtain ⟨pb, hpb⟩ : ∃ pb, blk p = pb := ⟨_, rfl⟩
  rw [hpb] at i1
  rw [hib] at i1 c25 c26 c27 f25 f26 f27 HD il ⊢
  have hin : ¬ ib = w.heap.size := by omega
  clear h ic icf q hib hpb e25 e26 e27
  go_enter Tryz.func108, Tryz.ntmps108
  go_wp2_with fail
  go_region
  all_goals go_wp2_with fail
  all_goals exact bodyPost_ret (v := .tuple #[]) (by simp [results, Tryz.results108]) rfl ⟨rfl, HD.out _⟩

set_option maxRecDepth 100000 in
set_option maxHeartbeats 1000000 in
/-- (*Surface).restack: the sibling is gone. -/
theorem restack_out {w : World} {S : Nat → Prop} {x : Nat} {st : St} (hw : Wf st) {bv : Value} {sc mp : Nat} {blk : Int → Nat} {G : Int → Nat → Value} (h : PRaw w S x st bv sc mp blk G) (i s : Nat) (hi : i ∈ st.order) (hs : s ∉ st.order) (ha : (st.sf i).ask = true) (hsb : (st.sf i).sib = s) :
    Calls Tryz.prog 108 #[.pointer (some ⟨blk i, 0, none⟩)] w fun e w' => e = .returned (.tuple #[]) ∧ (∃ G', PRaw w' S x (upd st i sfDone) bv sc mp blk G') ∧ Only S w w' ∧ KeptD w w' := by
  obtain ⟨p, hpe⟩ : ∃ p, (st.sf i).parent = p := ⟨_, rfl⟩
  have hp : Live st p := by rw [← hpe]; exact live_par hw hi
  obtain ⟨ic, icf, il⟩ := h.at (live_nat hi)
  obtain ⟨pc, pf, pl⟩ := h.at hp
  have q := (h.cells i (live_nat hi)).nat
  have i1 := ic 1 (by omega)
  rw [q.par, hpe] at i1
  unfold ptrV at i1
  obtain ⟨t, z, ab, e25, e26, e27, et, ez⟩ := q.stk
  rw [ha] at et
  subst et
  obtain ⟨rfl, _⟩ := ez rfl
  rw [hsb] at e26
  have c25 := ic 25 (by omega)
  have c26 := ic 26 (by omega)
  have c27 := ic 27 (by omega)
  rw [e25] at c25
  rw [e26] at c26
  rw [e27] at c27
  have f25 := icf 25
  have f26 := icf 26
  have f27 := icf 27
  have HD : Hid (∀ o : Obj, (∃ G', PRaw ((((w.setCell ⟨blk i, 25, none⟩ (.bool false)).setCell ⟨blk i, 26, none⟩ (.int .i64 0)).setCell ⟨blk i, 27, none⟩ (.bool false)).alloc o).drew S x (upd st i sfDone) bv sc mp blk G') ∧ Only S w ((((w.setCell ⟨blk i, 25, none⟩ (.bool false)).setCell ⟨blk i, 26, none⟩ (.int .i64 0)).setCell ⟨blk i, 27, none⟩ (.bool false)).alloc o).drew ∧ KeptD w ((((w.setCell ⟨blk i, 25, none⟩ (.bool false)).setCell ⟨blk i, 26, none⟩ (.int .i64 0)).setCell ⟨blk i, 27, none⟩ (.bool false)).alloc o).drew) := fun o => by
    obtain ⟨⟨G', hG⟩, hO, hk⟩ := h.done hw hi w (Below.refl _ _)
    exact ⟨⟨G', hG.below (al1 (Nat.le_refl _) o).drew⟩, (hO.alloc o).drew, hk.trans (KeptD.below (al1 (Nat.le_refl _) o).drew)⟩
  have hip : blk i ≠ blk p := fun e => by
    have e2 := h.inj i p (live_nat hi) hp e
    have := hw.par i
    rw [hpe] at this
    omega
  have T0 : Hid (∀ W : World, (∃ G', PRaw W S x (upd st i sfDone) bv sc mp blk G') ∧ Only S w W ∧ KeptD w W → Calls Tryz.prog 111 #[.pointer (some ⟨blk p, 0, none⟩), .int .i64 (s : Int)] W fun e w' => e = .returned (.int .i64 (-1)) ∧ (∃ G', PRaw w' S x (upd st i sfDone) bv sc mp blk G') ∧ Only S w w' ∧ KeptD w w') := fun W ⟨⟨G', h1⟩, hO, hkd⟩ => by
    have hp1 : Live (upd st i sfDone) p := hp
    obtain ⟨pc1, _, pl1⟩ := h1.at hp1
    refine (find_any ((upd st i sfDone).kids p) (fun (j : Nat) => blk j) (s : Int) (G' p 2) (blk p) W (pc1 2 (by omega)) pl1 (h1.ptrs hp1) (by have := kids_len (done_wf hw hi) p; omega)).mono ?_
    rintro e w' ⟨r, rfl, hr, hb⟩
    rcases hr with ⟨rfl, _⟩ | ⟨k, j, _, h2, h3⟩
    · exact ⟨rfl, ⟨G', h1.below hb⟩, hO.after hb, hkd.trans (KeptD.below hb)⟩
    · have : j = s := by omega
      subst this
      rw [done_kids hw hi] at h2
      exact absurd (kids_mem.1 (List.mem_of_getElem? h2)).1 hs
  obtain ⟨ib, hib⟩ : ∃ ib, blk i = ib := ⟨_, rfl⟩
  obtain ⟨pb, hpb⟩ : ∃ pb, blk p = pb := ⟨_, rfl⟩
  rw [hpb] at i1 T0
  rw [hib] at i1 c25 c26 c27 f25 f26 f27 HD il ⊢
  have hin : ¬ ib = w.heap.size := by omega
  clear h ic icf pc pf q hib hpb e25 e26 e27 hw hip
  go_enter Tryz.func108, Tryz.ntmps108
  go_wp2_with fail
  go_region
  all_goals go_wp2_with (go_at_call 111; refine (T0.out _ (HD.out _)).mono ?_; rintro e w' ⟨rfl, hb⟩; have HB := hide hb; clear hb)
  all_goals exact bodyPost_ret (v := .tuple #[]) (by simp [results, Tryz.results108]) rfl ⟨rfl, HB.out⟩

end Go.Proofs.YtofinpocigbbeaaGreat

namespace Go.Proofs.YtofinpocigbbeaaGreat
open Go.RowKit
attribute [local go_sem ↓] Go.wp_at_zero Go.wp_at_succ

theorem rsL_at {l : List Nat} (hn : l.Nodup) {i s k k2 : Nat} (ab : Bool) (hne : s ≠ i) (hk : l[k]? = some i) (hk2 : (l.eraseIdx k)[k2]? = some s) : rsL l i s ab = (l.eraseIdx k).take (k2 + if ab = true then 1 else 0) ++ i :: (l.eraseIdx k).drop (k2 + if ab = true then 1 else 0) := by
  rw [rsL_ins i s ab hne, filter_erase l k i hn hk]
  exact rsI_at i s ab _ (by rw [← filter_erase l k i hn hk]; exact hn.filter _) k2 hk2

set_option maxRecDepth 100000 in
set_option maxHeartbeats 1000000 in
theorem restack_in {w0 : World} {S : Nat → Prop} {x : Nat} {st0 : St} (hw0 : Wf st0) {bv : Value} {sc mp : Nat} {blk : Int → Nat} {G0 : Int → Nat → Value} (h0 : PRaw w0 S x st0 bv sc mp blk G0) (i s : Nat) (hi0 : i ∈ st0.order) (hs0 : s ∈ st0.order) (hne : s ≠ i) (hpp0 : (st0.sf s).parent = (st0.sf i).parent) (ab : Bool) (ha : (st0.sf i).ask = true) (hsb : (st0.sf i).sib = s) (hab : (st0.sf i).above = ab) :
    Calls Tryz.prog 108 #[.pointer (some ⟨blk i, 0, none⟩)] w0 fun e w' => e = .returned (.tuple #[]) ∧ (∃ G', PRaw w' S x (reord (upd st0 i sfDone) (rsL st0.order i s ab)) bv sc mp blk G') ∧ Only S w0 w' ∧ KeptD w0 w' := by
  obtain ⟨p, hpe0⟩ : ∃ p, (st0.sf i).parent = p := ⟨_, rfl⟩
  obtain ⟨ic0, icf0, il0⟩ := h0.at (live_nat hi0)
  have q0 := (h0.cells i (live_nat hi0)).nat
  have i10 := ic0 1 (by omega)
  rw [q0.par, hpe0] at i10
  unfold ptrV at i10
  obtain ⟨t, z, ab', e25, e26, e27, et, ez⟩ := q0.stk
  rw [ha] at et
  subst et
  obtain ⟨rfl, rfl⟩ := ez rfl
  rw [hsb] at e26
  rw [hab] at e27
  have c25 := ic0 25 (by omega)
  have c26 := ic0 26 (by omega)
  have c27 := ic0 27 (by omega)
  rw [e25] at c25
  rw [e26] at c26
  rw [e27] at c27
  have f25 := icf0 25
  have f26 := icf0 26
  have f27 := icf0 27
  have HA := hide (fun o => (al1 (Nat.le_refl w0.heap.size) o).drew)
  have HD : Hid (∀ W : World, Below w0.heap.size w0 W → W.heap[w0.heap.size]? = some (.cells #[.bool true, .int .i64 (s : Int), .bool ab] 172 (0, 0)) → ∃ st : St, ∃ G, st = upd st0 i sfDone ∧ Wf st ∧ i ∈ st.order ∧ s ∈ st.order ∧ (st.sf s).parent = (st.sf i).parent ∧ (st.sf i).parent = p ∧ st.order = st0.order ∧ PRaw (((W.setCell ⟨blk i, 25, none⟩ (.bool false)).setCell ⟨blk i, 26, none⟩ (.int .i64 0)).setCell ⟨blk i, 27, none⟩ (.bool false)) S x st bv sc mp blk G ∧ KeptD w0 (((W.setCell ⟨blk i, 25, none⟩ (.bool false)).setCell ⟨blk i, 26, none⟩ (.int .i64 0)).setCell ⟨blk i, 27, none⟩ (.bool false)) ∧ Only S w0 (((W.setCell ⟨blk i, 25, none⟩ (.bool false)).setCell ⟨blk i, 26, none⟩ (.int .i64 0)).setCell ⟨blk i, 27, none⟩ (.bool false)) ∧ (((W.setCell ⟨blk i, 25, none⟩ (.bool false)).setCell ⟨blk i, 26, none⟩ (.int .i64 0)).setCell ⟨blk i, 27, none⟩ (.bool false)).heap[w0.heap.size]? = some (.cells #[.bool true, .int .i64 (s : Int), .bool ab] 172 (0, 0))) := fun W hW hWb => by
    obtain ⟨⟨G, hG⟩, hO, hkd⟩ := h0.done hw0 hi0 W hW
    have hpar := (upd_alike (g := sfDone) (hw0.lt hi0) (fun _ => rfl)).par
    have hne0 : w0.heap.size ≠ blk i := by omega
    refine ⟨_, G, rfl, done_wf hw0 hi0, hi0, hs0, by rw [hpar, hpar]; exact hpp0, by rw [hpar]; exact hpe0, rfl, hG, hkd, hO, ?_⟩
    rw [heap_setCell_other _ ⟨blk i, 27, none⟩ _ _ hne0, heap_setCell_other _ ⟨blk i, 26, none⟩ _ _ hne0, heap_setCell_other _ ⟨blk i, 25, none⟩ _ _ hne0]
    exact hWb
  obtain ⟨ib, hib⟩ : ∃ ib, blk i = ib := ⟨_, rfl⟩
  obtain ⟨pb, hpb⟩ : ∃ pb, blk p = pb := ⟨_, rfl⟩
  rw [hpb] at i10
  rw [hib] at i10 c25 c26 c27 f25 f26 f27 HD il0 ⊢
  have hin0 : ¬ ib = w0.heap.size := by omega
  have HIB := hide (And.intro hib hpb)
  clear h0 ic0 icf0 q0 hib hpb e25 e26 e27 hw0 hpp0 ha hsb hpe0
  go_enter Tryz.func108, Tryz.ntmps108
  go_wp2_with fail
  go_cut [2, 3] (fun s2 s3 wx => s2 = .pointer (some ⟨pb, 0, none⟩) ∧ s3 = .pointer (some ⟨w0.heap.size, 0, none⟩) ∧ Hid (Below w0.heap.size w0 wx ∧ wx.heap[w0.heap.size]? = some (.cells #[.bool true, .int .i64 (s : Int), .bool ab] 172 (0, 0))))
  case first =>
    go_region
    all_goals go_wp2_with fail
    all_goals go_meet
    all_goals exact ⟨rfl, rfl, HA.out _, heap_alloc_new w0 _⟩
  case rest =>
  obtain ⟨rfl, rfl, hwx⟩ := hcut
  rename World => wx
  have hB0 := hwx.out.1
  obtain ⟨st, G, hst, hw, hi, hs, hpp, hp0, hord, h, hkd0, hO0, hbx⟩ := HD.out wx hwx.out.1 hwx.out.2
  have e25 := (hB0.cell (p := ⟨ib, 25, none⟩) il0).trans c25
  have e26 := (hB0.cell (p := ⟨ib, 26, none⟩) il0).trans c26
  have e27 := (hB0.cell (p := ⟨ib, 27, none⟩) il0).trans c27
  have g25 := (hB0.frozen (p := ⟨ib, 25, none⟩) il0).trans f25
  have g26 := (hB0.frozen (p := ⟨ib, 26, none⟩) il0).trans f26
  have g27 := (hB0.frozen (p := ⟨ib, 27, none⟩) il0).trans f27
  have HH := hide (And.intro hst (And.intro hw (And.intro hi (And.intro hs (And.intro hpp (And.intro hp0 (And.intro hord (And.intro h (And.intro hkd0 (And.intro hO0 hbx))))))))))
  clear hst hw hi hs hpp hp0 hord h hkd0 hO0 hbx c25 c26 c27 f25 f26 f27 i10 hB0 HD hwx
  go_upto_region 2 with fail
  obtain ⟨hst, hw, hi, hs, hpp, hp0, hord, h, hkd0, hO0, hbx⟩ := HH.out
  clear HH e25 e26 e27 g25 g26 g27
  generalize ((wx.setCell ⟨ib, 25, none⟩ (.bool false)).setCell ⟨ib, 26, none⟩ (.int .i64 0)).setCell ⟨ib, 27, none⟩ (.bool false) = w at *
  obtain ⟨bx, hbxe⟩ : ∃ bx, w0.heap.size = bx := ⟨_, rfl⟩
  rw [hbxe] at hbx ⊢
  obtain ⟨hib, hpb⟩ := HIB.out
  have hpe := hp0
  have hp : Live st p := by rw [← hpe]; exact live_par hw hi
  have hik : i ∈ st.kids p := kids_mem.2 ⟨hi, hpe⟩
  have hsk : s ∈ st.kids p := kids_mem.2 ⟨hs, by rw [hpp, hpe]⟩
  have hnd : (st.kids p).Nodup := hw.nd.filter _
  obtain ⟨g, n, cap, cur, r1, r2, r3, r4, r5, r6, r7, r8⟩ := h.rowAt hp (List.ne_nil_of_mem hik)
  have hk12n := kids_len hw p
  rw [r2] at hk12n
  obtain ⟨ic, _, il⟩ := h.at (live_nat hi)
  obtain ⟨pc, pf, pl⟩ := h.at hp
  have q := (h.cells i (live_nat hi)).nat
  have i0 := ic 0 (by omega)
  have i1 := ic 1 (by omega)
  rw [q.num] at i0
  rw [q.par, hpe] at i1
  have p2 := pc 2 (by omega)
  rw [r1] at p2
  have f2 := pf 2
  obtain ⟨pcur, hpcur, hpcs⟩ := h.srf p hp
  have hpg : blk p ≠ g := neT hpcur r3 (by decide)
  obtain ⟨icur, hicur, _⟩ := h.srf i (live_nat hi)
  have hig : blk i ≠ g := neT hicur r3 (by decide)
  have hip : blk i ≠ blk p := fun e => by
    have e2 := h.inj i p (live_nat hi) hp e
    have := hw.par i
    rw [hpe] at this
    omega
  have hmpg : mp ≠ g := fun e => h.map.ne r3 e.symm
  have hmpp : mp ≠ blk p := fun e => h.map.ne hpcur e.symm
  have hgl : g < w.heap.size := (Array.getElem?_eq_some_iff.1 r3).1
  have hbxl : bx < w.heap.size := (Array.getElem?_eq_some_iff.1 hbx).1
  have hbxp : bx ≠ blk p := neT hbx hpcur (by decide)
  have hbxg : bx ≠ g := neT hbx r3 (by decide)
  have b0 : w.cell? ⟨bx, 0, none⟩ = some (.bool true) := cell_of_row _ _ 0 _ _ _ hbx
  have b1 : w.cell? ⟨bx, 1, none⟩ = some (.int .i64 (s : Int)) := cell_of_row _ _ 1 _ _ _ hbx
  have b2 : w.cell? ⟨bx, 2, none⟩ = some (.bool ab) := cell_of_row _ _ 2 _ _ _ hbx
  have fnd : ∀ (t : Nat), t ∈ st.kids p → ∀ W : World, Below w.heap.size w W → Calls Tryz.prog 111 #[.pointer (some ⟨blk p, 0, none⟩), .int .i64 (t : Int)] W fun e w' => ∃ k : Nat, e = .returned (.int .i64 (k : Int)) ∧ (st.kids p)[k]? = some t ∧ Below w.heap.size w w' := fun t ht W hW => by
    refine (find_any (st.kids p) (fun (j : Nat) => blk j) (t : Int) (G p 2) (blk p) W ?_ (Nat.lt_of_lt_of_le pl hW.size) ((h.ptrs hp).below hW) (by omega)).mono ?_
    · rw [hW.cell (p := ⟨blk p, 2, none⟩) pl, pc 2 (by omega)]
    · rintro e w' ⟨r, rfl, hr, hb⟩
      obtain ⟨k, rfl, hk⟩ := idx_is ht hr
      exact ⟨k, rfl, hk, hW.trans (hb.mono hW.size)⟩
  -- the first find
  have T0 : Hid (Calls Tryz.prog 111 #[.pointer (some ⟨blk p, 0, none⟩), .int .i64 (s : Int)] w fun e w' => ∃ k : Nat, e = .returned (.int .i64 (k : Int)) ∧ (st.kids p)[k]? = some s ∧ Below w.heap.size w w') := fnd s hsk w (Below.refl _ _)
  -- the second one
  have N1 : Hid (∀ w1 : World, Below w.heap.size w w1 → w1.cell? ⟨blk i, 0, none⟩ = some (.int .i64 (i : Int)) ∧ Calls Tryz.prog 111 #[.pointer (some ⟨blk p, 0, none⟩), .int .i64 (i : Int)] w1 fun e w' => ∃ k : Nat, e = .returned (.int .i64 (k : Int)) ∧ (st.kids p)[k]? = some i ∧ Below w.heap.size w w') := fun w1 h1 => ⟨by rw [h1.cell (p := ⟨blk i, 0, none⟩) il, i0], fnd i hik w1 h1⟩
  -- Delete
  have N2 : Hid (∀ (w2 : World) (k : Nat), Below w.heap.size w w2 → (st.kids p)[k]? = some i → (k : Int) < 1000 ∧ w2.cell? ⟨blk p, 2, none⟩ = some (.slice (some ⟨g, 0, none⟩) (n + 1) cap) ∧ Calls Tryz.prog 112 #[.slice (some ⟨g, 0, none⟩) (n + 1) cap, .int .i64 (k : Int), .int .i64 ((k : Int) + 1)] w2 fun e w' => e = .returned (.slice (some ⟨g, 0, none⟩) n cap) ∧ w'.cell? ⟨blk p, 2, none⟩ = some (.slice (some ⟨g, 0, none⟩) (n + 1) cap) ∧ w'.frozen? ⟨blk p, 2, none⟩ = false ∧ (w'.setCell ⟨blk p, 2, none⟩ (.slice (some ⟨g, 0, none⟩) n cap)).cell? ⟨bx, 1, none⟩ = some (.int .i64 (s : Int)) ∧ bx < (w'.setCell ⟨blk p, 2, none⟩ (.slice (some ⟨g, 0, none⟩) n cap)).heap.size ∧ DMid w (w'.setCell ⟨blk p, 2, none⟩ (.slice (some ⟨g, 0, none⟩) n cap)) S st G blk p (blk p) g n cap mp k) := fun w2 k hW hk => by
    have hkn := (List.getElem?_eq_some_iff.1 hk).1
    refine ⟨by omega, by rw [hW.cell (p := ⟨blk p, 2, none⟩) pl, p2], ?_⟩
    refine (delete_any g n cap k cur w2 ((hW.block g hgl).trans r3) r4 r5 r6 (by omega) fun u hu => ?_).mono ?_
    · rw [r7] at hu
      obtain ⟨j, _, rfl⟩ := List.mem_map.1 hu
      rfl
    · rintro e W' ⟨rfl, ⟨cur', c1, c2, c3⟩, g1, s1⟩
      have hWo : ∀ b, b < w.heap.size → b ≠ g → W'.heap[b]? = w.heap[b]? := fun b hb hne => by
        rw [g1.block b (Nat.lt_of_lt_of_le hb hW.size) (fun e => hne (by injection e)), hW.block b hb]
      have hs : SrfB w (blk p) (G p) := h.srf p hp
      have hset : ∀ b, b ≠ blk p → (W'.setCell ⟨blk p, 2, none⟩ (.slice (some ⟨g, 0, none⟩) n cap)).heap[b]? = W'.heap[b]? := fun b hne => heap_setCell_other W' ⟨blk p, 2, none⟩ b _ hne
      refine ⟨rfl, ?_, ?_, ?_, ?_, ?_, ?_, ?_, fun b hb h1 h2 => ?_, ?_⟩
      · rw [World.cell?_of_block (w := w) (a := ⟨blk p, 2, none⟩) (hWo _ pl hpg), p2]
      · rw [World.frozen?_of_block (w := w) (a := ⟨blk p, 2, none⟩) (hWo _ pl hpg)]
        exact f2
      · rw [World.cell?_of_block (w := w) (a := ⟨bx, 1, none⟩) ((hset bx hbxp).trans (hWo _ hbxl hbxg))]
        exact b1
      · have := hW.size
        simp
        omega
      · rw [hset mp hmpp, hWo mp h.map.lt hmpg]
      · exact (hs.keep (hWo _ pl hpg)).set 2 _
      · refine ⟨⟨?_, .inr ⟨g, cap, cur', rfl, Nat.zero_le _, (hset g (fun e => hpg e.symm)).trans c1, by omega, r5, by rw [c2, Nat.mul_one], ?_⟩⟩, fun b hb => ?_⟩
        · rw [List.length_map, List.length_eraseIdx, if_pos hkn]
          omega
        · rw [Nat.mul_one, c3, r7]
          exact (ChangeMaps.map_eraseIdx _ _ _).symm
        · simp [Value.ownBlock] at hb
          subst hb
          exact r8
      · rw [hset b h1, hWo b hb h2]
      · refine Only.set ((Only.below hW).grown g1 fun b e => .inl ?_) (.inl (h.own.2.2.2 p hp)) _
        injection e with e
        rw [← e]
        exact r8
  -- the third find
  have N3 : Hid (∀ (w4 : World) (k : Nat), (st.kids p)[k]? = some i → DMid w w4 S st G blk p (blk p) g n cap mp k → Calls Tryz.prog 111 #[.pointer (some ⟨blk p, 0, none⟩), .int .i64 (s : Int)] w4 fun e w' => ∃ k2 : Nat, e = .returned (.int .i64 (k2 : Int)) ∧ (((st.kids p).eraseIdx k)[k2]? = some s ∧ Below w4.heap.size w4 w') ∧ (k2 : Int) < 1000 ∧ w'.cell? ⟨blk p, 2, none⟩ = some (.slice (some ⟨g, 0, none⟩) n cap) ∧ w'.cell? ⟨bx, 2, none⟩ = some (.bool ab) ∧ bx < w'.heap.size) := fun w4 k hk D => by
    have hkn := (List.getElem?_eq_some_iff.1 hk).1
    have hel : ((st.kids p).eraseIdx k).length = n := by rw [List.length_eraseIdx, if_pos hkn]; omega
    have hse : s ∈ (st.kids p).eraseIdx k := by
      rw [← filter_erase _ k i hnd hk, List.mem_filter]
      exact ⟨hsk, by simpa using hne⟩
    have hn0 : 0 < n := by rw [← hel]; exact List.length_pos_of_mem hse
    obtain ⟨pcur4, e1, e2, e3⟩ := D.srf
    have hpl4 : blk p < w4.heap.size := Nat.lt_of_lt_of_le pl D.only.size
    have hc4 : w4.cell? ⟨blk p, 2, none⟩ = some (.slice (some ⟨g, 0, none⟩) n cap) := by
      rw [cell_of_row w4 _ _ _ _ _ e1, e3 2 (by omega)]
      rfl
    have hP : Ptrs w4 (.slice (some ⟨g, 0, none⟩) n cap) ((st.kids p).eraseIdx k) fun (j : Nat) => blk j := by
      refine ⟨⟨_, _, by rw [hel], fun m hm => ?_⟩, fun j hj => ?_⟩
      · obtain ⟨g', cap', q1, q2, q3, q4, q5, q6⟩ := D.row.open hn0
        have hgg : g = g' := by
          injection q1 with q1
          injection q1 with q1
          injection q1
        subst hgg
        refine ⟨g, rfl, q4, q5 m _ ?_⟩
        rw [List.getElem?_map, List.getElem?_eq_getElem hm]
        rfl
      · have hj2 : j ∈ st.kids p := List.mem_of_mem_eraseIdx hj
        have hlj := live_kid hj2
        obtain ⟨jc, _, jl⟩ := h.at hlj
        obtain ⟨jcur, hjcur, _⟩ := h.srf j hlj
        have hjp : blk j ≠ blk p := fun e => by
          have e4 := h.inj j p hlj hp e
          obtain ⟨a1, a2⟩ := kids_mem.1 hj2
          have := hw.par j
          rw [a2] at this
          omega
        refine ⟨?_, Nat.lt_of_lt_of_le jl D.only.size⟩
        rw [World.cell?_of_block (w := w) (a := ⟨blk j, 0, none⟩) (D.oth _ jl hjp (neT hjcur r3 (by decide))), jc 0 (by omega), (h.cells j hlj).num]
    refine (find_any _ (fun (j : Nat) => blk j) (s : Int) _ (blk p) w4 hc4 hpl4 hP (by omega)).mono ?_
    rintro e w' ⟨r, rfl, hr, hb⟩
    obtain ⟨k2, rfl, hk2⟩ := idx_is hse hr
    have hk2l := (List.getElem?_eq_some_iff.1 hk2).1
    have hbx4 : bx < w4.heap.size := Nat.lt_of_lt_of_le hbxl D.only.size
    exact ⟨k2, rfl, ⟨hk2, hb⟩, by omega, (hb.cell (p := ⟨blk p, 2, none⟩) hpl4).trans hc4, (hb.cell (p := ⟨bx, 2, none⟩) hbx4).trans ((World.cell?_of_block (w := w) (a := ⟨bx, 2, none⟩) (D.oth bx hbxl hbxp hbxg)).trans b2), Nat.lt_of_lt_of_le hbx4 hb.size⟩
  -- Insert
  have N4 : Hid (∀ (w4 w5 : World) (k k2 : Nat) (z : Int), z = ((k2 + (if ab = true then 1 else 0) : Nat) : Int) → (st.kids p)[k]? = some i → DMid w w4 S st G blk p (blk p) g n cap mp k → (((st.kids p).eraseIdx k)[k2]? = some s ∧ Below w4.heap.size w4 w5) → Calls Tryz.prog 163 #[.slice (some ⟨g, 0, none⟩) n cap, .int .i64 z, .slice (some ⟨w5.heap.size, 0, none⟩) 1 1] (w5.alloc (.cells #[.pointer (some ⟨blk i, 0, none⟩)] 117)) fun e w' => e = .returned (.slice (some ⟨g, 0, none⟩) (n + 1) cap) ∧ w'.cell? ⟨blk p, 2, none⟩ = some (.slice (some ⟨g, 0, none⟩) n cap) ∧ w'.frozen? ⟨blk p, 2, none⟩ = false ∧ (∃ G', PRaw (w'.setCell ⟨blk p, 2, none⟩ (.slice (some ⟨g, 0, none⟩) (n + 1) cap)) S x (reord st (rsL st.order i s ab)) bv sc mp blk G') ∧ Only S w (w'.setCell ⟨blk p, 2, none⟩ (.slice (some ⟨g, 0, none⟩) (n + 1) cap)) ∧ KeptD w (w'.setCell ⟨blk p, 2, none⟩ (.slice (some ⟨g, 0, none⟩) (n + 1) cap))) := fun w4 w5 k k2 z hz hk D ⟨hk2, hb⟩ => by
    subst hz
    have hkn := (List.getElem?_eq_some_iff.1 hk).1
    have hk2l := (List.getElem?_eq_some_iff.1 hk2).1
    have hel : ((st.kids p).eraseIdx k).length = n := by rw [List.length_eraseIdx, if_pos hkn]; omega
    obtain ⟨⟨_, hrow⟩, _⟩ := D.row
    rcases hrow with ⟨hrow, _⟩ | ⟨g', cap', cur4, a1, a2, a3, a4, a5, a6, a7⟩
    · cases hrow
    · have hgg : g = g' := by
        injection a1 with a1
        injection a1 with a1
        injection a1
      have hcc : cap = cap' := by injection a1
      subst hgg
      subst hcc
      have hgl4 := (Array.getElem?_eq_some_iff.1 a3).1
      have hg5 : (w5.alloc (.cells #[.pointer (some ⟨blk i, 0, none⟩)] 117)).heap[g]? = some (.cells cur4 117 (0, 0)) := by
        rw [heap_old _ _ g (Nat.lt_of_lt_of_le hgl4 hb.size), hb.block g hgl4]
        exact a3
      have ht : k2 + (if ab = true then 1 else 0) ≤ n := by split <;> omega
      refine (insert_any g n cap _ w5.heap.size (.pointer (some ⟨blk i, 0, none⟩)) cur4 _ hg5 (heap_alloc_new w5 _) (by have := hb.size; omega) (by omega) r5 (by omega) ht (fun u hu => ?_) rfl).mono ?_
      · rw [Nat.mul_one] at a7
        rw [a7] at hu
        obtain ⟨j, _, rfl⟩ := List.mem_map.1 hu
        rfl
      · rintro e w7 ⟨rfl, ⟨cur7, c1, c2, c3⟩, g7, s7⟩
        have hpl4 : blk p < w4.heap.size := Nat.lt_of_lt_of_le pl D.only.size
        have h74 : ∀ b, b < w4.heap.size → b ≠ g → w7.heap[b]? = w4.heap[b]? := fun b hbl hbg => by
          have hb5 : b < w5.heap.size := Nat.lt_of_lt_of_le hbl hb.size
          rw [g7.block b (by simp; omega) (fun e => hbg (by injection e)), heap_old _ _ b hb5, hb.block b hbl]
        obtain ⟨pcur4, e1, e2, e3⟩ := D.srf
        have hset : ∀ b, b ≠ blk p → (w7.setCell ⟨blk p, 2, none⟩ (.slice (some ⟨g, 0, none⟩) (n + 1) cap)).heap[b]? = w7.heap[b]? := fun b hne => heap_setCell_other w7 ⟨blk p, 2, none⟩ b _ hne
        have hO7 : Only S w w7 := by
          refine ((D.only.after hb).alloc _).grown g7 fun b e => .inl ?_
          injection e with e
          rw [← e]
          exact r8
        have hks : (reord st (rsL st.order i s ab)).kids p = ((st.kids p).eraseIdx k).take (k2 + if ab = true then 1 else 0) ++ i :: ((st.kids p).eraseIdx k).drop (k2 + if ab = true then 1 else 0) := by
          rw [reord_kids ab hpp p, if_pos hpe]
          exact rsL_at hnd ab hne hk hk2
        refine ⟨rfl, ?_, ?_, ⟨_, h.turn (rsL_perm hw.nd ab hne hi hs) hp (fun q hq => ?_) (v := .slice (some ⟨g, 0, none⟩) (n + 1) cap) ?_ ?_ (by rw [r1]) fun b hbl h1 h2 => ?_⟩, hO7.set (.inl (h.own.2.2.2 p hp)) _, fun b cur t ht e => ?_⟩
        · rw [World.cell?_of_block (w := w4) (a := ⟨blk p, 2, none⟩) (h74 _ hpl4 hpg), cell_of_row w4 _ _ _ _ _ e1, e3 2 (by omega)]
          rfl
        · rw [World.frozen?_of_block (w := w4) (a := ⟨blk p, 2, none⟩) (h74 _ hpl4 hpg)]
          simp [World.frozen?, e1]
        · rw [reord_kids ab hpp q, if_neg (fun e => hq (by rw [← e, hpe]))]
        · refine ((SrfB.keep D.srf (h74 _ hpl4 hpg)).set 2 _).congr fun o _ => ?_
          unfold upO
          by_cases eo : o = 2
          · rw [if_pos eo, if_pos eo]
          · rw [if_neg eo, if_neg eo, if_neg eo]
        · rw [hks]
          have hlen : (((st.kids p).eraseIdx k).take (k2 + if ab = true then 1 else 0) ++ i :: ((st.kids p).eraseIdx k).drop (k2 + if ab = true then 1 else 0)).length = n + 1 := by
            rw [List.length_append, List.length_cons, List.length_take, List.length_drop, hel]
            omega
          rw [hlen]
          refine ⟨⟨by rw [List.length_map, hlen, Nat.mul_one], .inr ⟨g, cap, cur7, rfl, Nat.zero_le _, (hset g (fun e => hpg e.symm)).trans c1, by omega, r5, by rw [c2, Nat.mul_one], ?_⟩⟩, fun b hbb => ?_⟩
          · rw [Nat.mul_one] at a7 ⊢
            rw [c3, a7, List.map_append, List.map_cons, List.map_take, List.map_drop]
            rfl
          · simp [Value.ownBlock] at hbb
            subst hbb
            exact r8
        · rw [hset b h1]
          have hbg : b ≠ g := fun e => h2 (by rw [r1, e]; rfl)
          rw [h74 b (Nat.lt_of_lt_of_le hbl D.only.size) hbg, D.oth b hbl h1 hbg]
        · have hbl := block_lt e
          have h1 : b ≠ blk p := neT e hpcur (ht.ne (by unfold DataT; decide))
          have hbg : b ≠ g := neT e r3 (ht.ne (by unfold DataT; decide))
          rw [hset b h1, h74 b (Nat.lt_of_lt_of_le hbl D.only.size) hbg, D.oth b hbl h1 hbg]
  have HEnd : Hid (∀ w' : World, (∃ G', PRaw w' S x (reord st (rsL st.order i s ab)) bv sc mp blk G') ∧ Only S w w' ∧ KeptD w w' → (∃ G', PRaw w' S x (reord (upd st0 i sfDone) (rsL st0.order i s ab)) bv sc mp blk G') ∧ Only S w0 w' ∧ KeptD w0 w') := fun w' ⟨q1, q2, q3⟩ => by
    rw [hst] at q1
    exact ⟨q1, hO0.trans (q2.mono fun g _ hg => .inl hg), hkd0.trans q3⟩
  rw [hpb] at T0 N1 N2 N3 N4
  rw [hib] at N1 N4
  clear h q ic pc pf r1 r3 r7 hpcur hpcs hpg hmpg hmpp hpb hib hicur hig hip i0 p2 f2 fnd hnd hw hbx hbxp hbxg i1 hst hord hO0 hkd0 hpp
  cases ab with
  | false =>
    go_wp2_with (first
      | (go_at_call 111; refine T0.out.mono ?_; rintro e w1 ⟨k1, rfl, _, h1⟩; obtain ⟨c1, T1'⟩ := N1.out w1 h1; have T1 := hide T1'; clear T0 h1 T1')
      | (go_at_call 111; refine T1.out.mono ?_; rintro e w2 ⟨k, rfl, hk, h2⟩; obtain ⟨hk1000, c2, T2'⟩ := N2.out w2 k h2 hk; have T2 := hide T2'; have HK := hide hk; clear T1 h2 T2' hk)
      | (go_at_call 112; refine T2.out.mono ?_; rintro e w3 ⟨rfl, c3, f3, d1, dl, D⟩; have HD := hide D; have T3 := hide (N3.out _ k HK.out D); clear T2 D)
      | (go_at_call 111; refine T3.out.mono ?_; rintro e w5 ⟨k2, rfl, h5, hk2, c5, d2, dl2⟩; have T4 := hide (N4.out _ w5 k k2 (k2 : Int) (by simp) HK.out HD.out h5); clear T3 h5)
      | (go_at_call 163; refine T4.out.mono ?_; rintro e w7 ⟨rfl, c7, f7, R1⟩; have HR := hide R1; clear T4 R1))
    exact bodyPost_end (v := .tuple #[]) (by simp [results, Tryz.results108]) rfl ⟨rfl, HEnd.out _ HR.out⟩
  | true =>
    go_wp2_with (first
      | (go_at_call 111; refine T0.out.mono ?_; rintro e w1 ⟨k1, rfl, _, h1⟩; obtain ⟨c1, T1'⟩ := N1.out w1 h1; have T1 := hide T1'; clear T0 h1 T1')
      | (go_at_call 111; refine T1.out.mono ?_; rintro e w2 ⟨k, rfl, hk, h2⟩; obtain ⟨hk1000, c2, T2'⟩ := N2.out w2 k h2 hk; have T2 := hide T2'; have HK := hide hk; clear T1 h2 T2' hk)
      | (go_at_call 112; refine T2.out.mono ?_; rintro e w3 ⟨rfl, c3, f3, d1, dl, D⟩; have HD := hide D; have T3 := hide (N3.out _ k HK.out D); clear T2 D)
      | (go_at_call 111; refine T3.out.mono ?_; rintro e w5 ⟨k2, rfl, h5, hk2, c5, d2, dl2⟩; have T4 := hide (N4.out _ w5 k k2 ((k2 : Int) + 1) (by simp) HK.out HD.out h5); clear T3 h5)
      | (go_at_call 163; refine T4.out.mono ?_; rintro e w7 ⟨rfl, c7, f7, R1⟩; have HR := hide R1; clear T4 R1))
    exact bodyPost_end (v := .tuple #[]) (by simp [results, Tryz.results108]) rfl ⟨rfl, HEnd.out _ HR.out⟩

end Go.Proofs.YtofinpocigbbeaaGreat
