import Derived.Test.YtofinpocigbbeaaGreatKas
namespace Go.Proofs.YtofinpocigbbeaaGreat
open Go.RowKit
attribute [local go_sem ↓] Go.wp_at_zero Go.wp_at_succ

/-- The cells of a new surface. -/
def newP (n : Int) (pb : Nat) : Array Value := #[.int .i64 n, .pointer (some ⟨pb, 0, none⟩), .slice none 0 0, .int .i64 0, .int .i64 0, .slice none 0 0, .int .i64 0, .int .i64 0, .int .i64 0, .int .i64 0, .int .i64 0, .int .i64 0, .bool false, .slice none 0 0, .int .i64 0, .int .i64 0, .slice none 0 0, .int .i64 0, .int .i64 0, .int .i64 0, .int .i64 0, .int .i64 0, .int .i64 0, .bool false, .slice none 0 0, .bool false, .int .i64 0, .bool false, .int .i64 0, .int .i64 0, .slice none 0 0]

def upB (blk : Int → Nat) (n : Nat) (nb : Nat) : Int → Nat := fun p => if p = (n : Int) then nb else blk p

theorem upB_old {blk : Int → Nat} {n nb : Nat} {p : Int} (h : p ≠ n) : upB blk n nb p = blk p := by unfold upB; rw [if_neg h]
theorem upB_new (blk : Int → Nat) (n nb : Nat) : upB blk n nb (n : Int) = nb := by unfold upB; rw [if_pos rfl]

theorem live_lt {st : St} (hw : Wf st) {p : Int} (h : Live st p) : p ≠ st.sfs.length := by
  rcases h with rfl | ⟨i, rfl, hi⟩
  · omega
  · have := hw.lt hi
    omega

theorem mk_live {st : St} {p q : Int} : Live (mk st p) q ↔ Live st q ∨ q = st.sfs.length := by
  unfold Live
  show (q = -1 ∨ ∃ i : Nat, q = i ∧ i ∈ st.order ++ [st.sfs.length]) ↔ _
  constructor
  · rintro (h | ⟨i, rfl, hi⟩)
    · exact .inl (.inl h)
    · rw [List.mem_append, List.mem_singleton] at hi
      rcases hi with hi | rfl
      · exact .inl (.inr ⟨i, rfl, hi⟩)
      · exact .inr rfl
  · rintro ((h | ⟨i, rfl, hi⟩) | rfl)
    · exact .inl h
    · exact .inr ⟨i, rfl, List.mem_append_left _ hi⟩
    · exact .inr ⟨_, rfl, by simp⟩

/-- One surface more. -/
theorem PRaw.more {w w' : World} {S S' : Nat → Prop} {x : Nat} {st : St} (hw : Wf st) {bv : Value} {sc mp : Nat} {blk : Int → Nat} {G : Int → Nat → Value} (h : PRaw w S x st bv sc mp blk G) {p : Int} (hp : Live st p) (hS : ∀ g, S g → S' g) {nb : Nat} (hnb : w.heap.size ≤ nb) (hnS : S' nb) {v : Value}
    (hsce : w'.heap[sc]? = some (.cells #[ptrV (blk (-1)), .map (some mp), .int .i64 ((st.sfs.length : Int) + 1)] 152 (0, 0)))
    (hmap : MapOf w' mp (st.order ++ [st.sfs.length]) fun (i : Nat) => upB blk st.sfs.length nb i)
    (hnew : w'.heap[nb]? = some (.cells (newP st.sfs.length (blk p)) 174 (0, 0)))
    (hpar : SrfB w' (blk p) (upO (G p) 2 v))
    (hrow : RowS w' S' 117 1 v ((st.kids p).length + 1) (((st.kids p).map fun (i : Nat) => ptrV (blk i)) ++ [ptrV nb]))
    (hvb : v.ownBlock = (G p 2).ownBlock ∨ ∃ g, v.ownBlock = some g ∧ w.heap.size ≤ g)
    (hoth : ∀ g, g < w.heap.size → g ≠ sc → g ≠ mp → g ≠ blk p → some g ≠ (G p 2).ownBlock → w'.heap[g]? = w.heap[g]?) :
    PRaw w' S' x (Go.Proofs.YtofinpocigbbeaaGreat.mk st p) bv sc mp (upB blk st.sfs.length nb) (upG (upG G p (upO (G p) 2 v)) (st.sfs.length : Int) fun o => (newP st.sfs.length (blk p)).getD o undef) := by
  have hlt : ∀ {g : Nat} {o : Obj}, w.heap[g]? = some o → g < w.heap.size := fun {g o} hg => (Array.getElem?_eq_some_iff.1 hg).1
  obtain ⟨pc, hpc, hpcs⟩ := h.srf p hp
  have rowT : ∀ g, some g = (G p 2).ownBlock → ∃ cur, w.heap[g]? = some (.cells cur 117 (0, 0)) := fun g hg => (h.on p hp).type hg.symm
  have blt : ∀ q, Live st q → blk q < w.heap.size := fun q hq => by
    obtain ⟨c, hc, _⟩ := h.srf q hq
    exact hlt hc
  have oldb : ∀ q, Live st q → upB blk st.sfs.length nb q = blk q := fun q hq => upB_old (live_lt hw hq)
  have hnp : (st.sfs.length : Int) ≠ p := fun e => live_lt hw hp e.symm
  have G2 : ∀ q, Live st q → upG (upG G p (upO (G p) 2 v)) (st.sfs.length : Int) (fun o => (newP st.sfs.length (blk p)).getD o undef) q = if q = p then upO (G p) 2 v else G q := fun q hq => by
    unfold upG
    rw [if_neg (live_lt hw hq)]
  have Gn : upG (upG G p (upO (G p) 2 v)) (st.sfs.length : Int) (fun o => (newP st.sfs.length (blk p)).getD o undef) (st.sfs.length : Int) = fun o => (newP st.sfs.length (blk p)).getD o undef := by
    unfold upG
    rw [if_pos rfl]
  have kmap : ∀ q, ((st.kids q).map fun (i : Nat) => ptrV (upB blk st.sfs.length nb i)) = (st.kids q).map fun (i : Nat) => ptrV (blk i) := fun q => List.map_congr_left fun i hi => by rw [oldb i (live_kid hi)]
  have hold : ∀ q, Live st q → upG (upG G p (upO (G p) 2 v)) (st.sfs.length : Int) (fun o => (newP st.sfs.length (blk p)).getD o undef) q 2 = if q = p then v else G q 2 := fun q hq => by
    rw [G2 q hq]
    by_cases e : q = p
    · rw [if_pos e, if_pos e]; rfl
    · rw [if_neg e, if_neg e]
  have new2 : upG (upG G p (upO (G p) 2 v)) (st.sfs.length : Int) (fun o => (newP st.sfs.length (blk p)).getD o undef) (st.sfs.length : Int) 2 = .slice none 0 0 := by rw [Gn]; rfl
  refine ⟨?_, ?_, hmap, fun q hq => ?_, ⟨hS _ h.own.1, hS _ h.own.2.1, hS _ h.own.2.2.1, fun q hq => ?_⟩, fun q q' hq hq' e => ?_, fun q hq => ?_, fun q q' hq hq' hne g hg => ?_, fun q hq => ?_, fun j hj => ?_⟩
  · refine (hoth x (hlt h.scr) (neT h.scr h.sce (by decide)) (h.map.ne h.scr) (neT h.scr hpc (by decide)) fun e => ?_).trans h.scr
    obtain ⟨c, hc⟩ := rowT x e
    exact neT h.scr hc (by decide) rfl
  · rw [mk_len, oldb (-1) (live_top st)]
    exact hsce
  · rcases mk_live.1 hq with hq | rfl
    · rw [oldb q hq, G2 q hq]
      by_cases e : q = p
      · subst e; rw [if_pos rfl]; exact hpar
      · rw [if_neg e]
        obtain ⟨c, hc, hc2⟩ := h.srf q hq
        refine ⟨c, (hoth _ (hlt hc) (neT hc h.sce (by decide)) (h.map.ne hc) (fun e2 => e (h.inj q p hq hp e2)) fun e2 => ?_).trans hc, hc2⟩
        obtain ⟨c2, hc2⟩ := rowT _ e2
        exact neT hc hc2 (by decide) rfl
    · rw [upB_new, Gn]
      refine ⟨_, hnew, rfl, fun o ho => ?_⟩
      show _ = some ((newP st.sfs.length (blk p)).getD o undef)
      rw [Array.getD_eq_getD_getElem?, Array.getElem?_eq_getElem (show o < (newP st.sfs.length (blk p)).size from ho)]
      rfl
  · rcases mk_live.1 hq with hq | rfl
    · rw [oldb q hq]; exact hS _ (h.own.2.2.2 q hq)
    · rw [upB_new]; exact hnS
  · rcases mk_live.1 hq with hq | rfl <;> rcases mk_live.1 hq' with hq' | rfl
    · rw [oldb q hq, oldb q' hq'] at e
      exact h.inj q q' hq hq' e
    · rw [oldb q hq, upB_new] at e
      have := blt q hq
      omega
    · rw [oldb q' hq', upB_new] at e
      have := blt q' hq'
      omega
    · rfl
  · rw [mk_kids hw]
    rcases mk_live.1 hq with hq | rfl
    · rw [hold q hq]
      by_cases e : q = p
      · subst e
        rw [if_pos rfl, if_pos rfl, List.length_append, List.map_append, kmap]
        show RowS _ _ _ _ _ _ (_ ++ [ptrV (upB blk st.sfs.length nb _)])
        rw [upB_new]
        exact hrow
      · rw [if_neg e, if_neg e, List.append_nil, kmap]
        have hr := h.on q hq
        refine RowS.mono ?_ hS
        refine ⟨own_keep hr.1 fun g hg => ?_, hr.2⟩
        obtain ⟨c, hc⟩ := hr.type hg
        exact hoth g (hlt hc) (neT hc h.sce (by decide)) (h.map.ne hc) (neT hc hpc (by decide)) fun e2 => h.apart q p hq hp e g hg e2.symm
    · rw [new2]
      have hk : st.kids (st.sfs.length : Int) = [] := by
        refine List.eq_nil_iff_forall_not_mem.2 fun i hi => ?_
        obtain ⟨h1, h2⟩ := kids_mem.1 hi
        have h3 := hw.lt h1
        have h4 := hw.par i
        omega
      rw [hk, if_neg hnp]
      exact RowS.nil _ _ _ _
  · rcases mk_live.1 hq with l1 | rfl <;> rcases mk_live.1 hq' with l2 | rfl
    · rw [hold q l1] at hg
      rw [hold q' l2]
      by_cases e : q = p
      · subst e
        rw [if_pos rfl] at hg
        rw [if_neg (fun e2 => hne e2.symm)]
        rcases hvb with hvb | ⟨g2, hv1, hv2⟩
        · rw [hvb] at hg
          exact h.apart q q' l1 l2 hne g hg
        · rw [hv1] at hg
          injection hg with hg
          subst hg
          intro e3
          obtain ⟨c, hc⟩ := (h.on q' l2).type e3
          have := hlt hc
          omega
      · rw [if_neg e] at hg
        by_cases e' : q' = p
        · subst e'
          rw [if_pos rfl]
          rcases hvb with hvb | ⟨g2, hv1, hv2⟩
          · rw [hvb]
            exact h.apart q q' l1 l2 hne g hg
          · rw [hv1]
            intro e3
            injection e3 with e3
            subst e3
            obtain ⟨c, hc⟩ := (h.on q l1).type hg
            have := hlt hc
            omega
        · rw [if_neg e']
          exact h.apart q q' l1 l2 hne g hg
    · rw [new2]
      exact fun e => by cases e
    · rw [new2] at hg
      cases hg
    · exact absurd rfl hne
  · rcases mk_live.1 hq with hq | rfl
    · rw [G2 q hq]
      have hc := h.cells q hq
      have hc2 : PCells (upB blk st.sfs.length nb) st q (G q) := by
        refine ⟨hc.num, ?_, hc.now, hc.next, hc.stk, hc.kep⟩
        rw [hc.par]
        rcases hq with rfl | ⟨i, rfl, hi⟩
        · rfl
        · rw [if_neg (nat_ne_top i), if_neg (nat_ne_top i), Int.toNat_natCast, oldb _ (live_par hw hi)]
      have hc3 : PCells (upB blk st.sfs.length nb) (Go.Proofs.YtofinpocigbbeaaGreat.mk st p) q (G q) := by
        refine hc2.other rfl rfl fun hq1 => ?_
        rw [mk_sf, if_neg]
        rcases hq with rfl | ⟨i, rfl, hi⟩
        · exact absurd rfl hq1
        · rw [Int.toNat_natCast]
          have := hw.lt hi
          omega
      by_cases e : q = p
      · rw [if_pos e]
        subst e
        exact ⟨hc3.num, hc3.par, ⟨hc3.now.w, hc3.now.h, hc3.now.pix, hc3.now.x, hc3.now.y, hc3.now.c0, hc3.now.c1, hc3.now.c2, hc3.now.c3, hc3.now.cut, hc3.now.hint⟩, (by obtain ⟨l, h1, h2⟩ := hc3.next; exact ⟨l, ⟨h1.w, h1.h, h1.pix, h1.x, h1.y, h1.c0, h1.c1, h1.c2, h1.c3, h1.cut, h1.hint⟩, h2⟩), hc3.stk, hc3.kep⟩
      · rw [if_neg e]
        exact hc3
    · rw [Gn]
      refine NCells.toP ?_
      rw [mk_sf, if_pos rfl]
      refine ⟨rfl, ?_, ⟨rfl, rfl, ⟨_, _, _, rfl⟩, rfl, rfl, rfl, rfl, rfl, rfl, rfl, ⟨_, _, _, rfl⟩⟩, ⟨rfl, rfl, ⟨_, _, _, rfl⟩, rfl, rfl, rfl, rfl, rfl, rfl, rfl, ⟨_, _, _, rfl⟩⟩, ⟨_, _, _, rfl, rfl, rfl, rfl, fun e => by cases e⟩, ⟨_, _, _, _, _, rfl, rfl, rfl⟩⟩
      show _ = ptrV (upB blk st.sfs.length nb p)
      rw [oldb p hp]
      rfl
  · have hkd : KeptD w w' := fun g cur t ht e => hoth g (hlt e) (neT e h.sce (ht.ne (by unfold DataT; decide))) (h.map.ne e) (neT e hpc (ht.ne (by unfold DataT; decide))) fun e2 => by
      obtain ⟨c, hc⟩ := rowT g e2
      exact neT e hc (ht.ne (by unfold DataT; decide)) rfl
    have hj2 : j ∈ st.order ++ [st.sfs.length] := hj
    rw [List.mem_append, List.mem_singleton] at hj2
    rcases hj2 with hj2 | rfl
    · have e1 : (Go.Proofs.YtofinpocigbbeaaGreat.mk st p).sf j = st.sf j := by
        rw [mk_sf, if_neg (by have := hw.lt hj2; omega)]
      rw [G2 j (live_nat hj2), e1]
      have hd := ((h.data j hj2).kd hkd).mono hS
      by_cases e : (j : Int) = p
      · rw [if_pos e]
        subst e
        exact ⟨hd.pix, hd.hint, hd.npix, hd.nhint, hd.kw, hd.kh, hd.kept⟩
      · rw [if_neg e]
        exact hd
    · rw [Gn, mk_sf, if_pos rfl]
      exact ⟨PixV.nil _ _ rfl _, HintV.nil _ _, PixV.nil _ _ rfl _, HintV.nil _ _, rfl, rfl, BoolV.nil _ _ rfl _⟩

end Go.Proofs.YtofinpocigbbeaaGreat

namespace Go.Proofs.YtofinpocigbbeaaGreat
open Go.RowKit
attribute [local go_sem ↓] Go.wp_at_zero Go.wp_at_succ

set_option maxRecDepth 100000 in
set_option maxHeartbeats 1000000 in
/-- (*Scene).Parent -/
theorem scParent_all {w : World} {S : Nat → Prop} {x : Nat} {st : St} (hw : Wf st) {bv : Value} {sc mp : Nat} {blk : Int → Nat} {G : Int → Nat → Value} (h : PRaw w S x st bv sc mp blk G) (id : Int) :
    Calls Tryz.prog 55 #[.pointer (some ⟨sc, 0, none⟩), .int .i64 id] w fun e w' => e = .returned (if id = -1 then .pointer (some ⟨blk (-1), 0, none⟩) else srfV st blk id) ∧ w' = w := by
  obtain ⟨k0, k1, k2, k3, k4⟩ := h.sceCells
  by_cases hid : id = -1
  · subst hid
    rw [if_pos rfl]
    clear h
    unfold ptrV at k0
    go_enter Tryz.func55, Tryz.ntmps55
    go_wp2_with fail
    go_ret
    exact ⟨rfl, rfl⟩
  · rw [if_neg hid]
    obtain ⟨v, hl, hv⟩ := h.map.lookup Tryz.underlying150 Tryz.underlying3 (ptrZero w) id
    have hsv : srfV st blk id = .pointer v := by
      unfold srfV
      rcases hv with ⟨rfl, hv⟩ | ⟨i, hi, rfl, rfl⟩
      · rw [if_neg]
        intro e
        obtain ⟨i, e1, e2⟩ := (isB_iff hw id).1 e
        exact hv i e2 e1.symm
      · rw [if_pos ((isB_iff hw _).2 ⟨i, rfl, hi⟩)]
    rw [hsv]
    clear h hv hsv
    go_enter Tryz.func55, Tryz.ntmps55
    go_wp2_with fail
    go_ret
    exact ⟨rfl, rfl⟩

set_option maxRecDepth 100000 in
set_option maxHeartbeats 1000000 in
/-- (*Scene).Full -/
theorem scFull_any {w : World} {S : Nat → Prop} {x : Nat} {st : St} (hw : Wf st) {bv : Value} {sc mp : Nat} {blk : Int → Nat} {G : Int → Nat → Value} (h : PRaw w S x st bv sc mp blk G) :
    Calls Tryz.prog 56 #[.pointer (some ⟨sc, 0, none⟩)] w fun e w' => e = .returned (.bool (!decide (st.order.length < 12 ∧ st.sfs.length < 60))) ∧ w' = w := by
  obtain ⟨k0, k1, k2, k3, k4⟩ := h.sceCells
  have hl := h.map.len (P := Tryz.prog) (ty := 3) Tryz.underlying150
  have hlen := hw.len
  have hmade := hw.made
  obtain ⟨n, hn⟩ : ∃ n, st.order.length = n := ⟨_, rfl⟩
  obtain ⟨m, hm⟩ : ∃ m, st.sfs.length = m := ⟨_, rfl⟩
  rw [hn] at hl hlen ⊢
  rw [hm] at k2 hmade ⊢
  clear h hn hm
  by_cases h1 : n < 12
  · have h1' : ¬ (12 : Int) ≤ (n : Int) := by omega
    by_cases h2 : m < 60
    · have h2' : ¬ (60 : Int) ≤ (m : Int) := by omega
      rw [decide_eq_true ⟨h1, h2⟩]
      go_enter Tryz.func56, Tryz.ntmps56
      go_wp2_with fail
      go_ret
      exact ⟨rfl, rfl⟩
    · have h2' : (60 : Int) ≤ (m : Int) := by omega
      rw [decide_eq_false fun h => h2 h.2]
      go_enter Tryz.func56, Tryz.ntmps56
      go_wp2_with fail
      go_ret
      exact ⟨rfl, rfl⟩
  · have h1' : (12 : Int) ≤ (n : Int) := by omega
    rw [decide_eq_false fun h => h1 h.1]
    go_enter Tryz.func56, Tryz.ntmps56
    go_wp2_with fail
    go_ret
    exact ⟨rfl, rfl⟩

end Go.Proofs.YtofinpocigbbeaaGreat

namespace Go.Proofs.YtofinpocigbbeaaGreat
open Go.RowKit
attribute [local go_sem ↓] Go.wp_at_zero Go.wp_at_succ

theorem grownBy_cell {w w' : World} {u : Option Nat} (h : w.grownBy w' u) {g j : Nat} {q : Value} (hc : w.cell? ⟨g, j, none⟩ = some q) (hne : some g ≠ u) : w'.cell? ⟨g, j, none⟩ = some q := h.cell hc hne

theorem grownBy_frozen {w w' : World} {u : Option Nat} (h : w.grownBy w' u) {g j : Nat} (hl : g < w.heap.size) (hc : w.frozen? ⟨g, j, none⟩ = false) (hne : some g ≠ u) : w'.frozen? ⟨g, j, none⟩ = false := (World.frozen?_of_block (h.block g hl hne)).trans hc

/-- What a call on the program's screen leaves that hands a number back. -/
def PMPost (S : Nat → Prop) (x : Nat) (bv : Value) (p : Int × Int × St) (w : World) (e : Ending) (w' : World) : Prop := e = .returned (.tuple #[.int .i64 p.1, .int .i64 p.2.1]) ∧ PaneOk w' (grow S w w') x p.2.2 bv ∧ Only S w w'

set_option maxRecDepth 100000 in
set_option maxHeartbeats 1000000 in
/-- (*Scene).Make -/
theorem scMake_any {w : World} {S : Nat → Prop} {x : Nat} {st : St} (hw : Wf st) {bv : Value} {sc mp : Nat} {blk : Int → Nat} {G : Int → Nat → Value} (h : PRaw w S x st bv sc mp blk G) (p : Int) (hp : Live st p) (hmade : st.sfs.length < 60) :
    Calls Tryz.prog 57 #[.pointer (some ⟨sc, 0, none⟩), .pointer (some ⟨blk p, 0, none⟩)] w fun e w' => e = .returned (.int .i64 (st.sfs.length : Int)) ∧ PaneOk w' (grow S w w') x (mk st p) bv ∧ Only S w w' := by
  obtain ⟨i0, hi0, hz0, hz1, hz2⟩ := info_parts ptrInfo
  obtain ⟨k0, k1, k2, k3, k4⟩ := h.sceCells
  obtain ⟨pc, pf, pl⟩ := h.at hp
  have p2 := pc 2 (by omega)
  have hrow := h.on p hp
  obtain ⟨oa, oc, ho⟩ := hrow.form
  have hkl : (st.kids p).length ≤ 12 := Nat.le_trans (List.length_filter_le _ _) hw.len
  have f2 := k4 2
  have hscn : ¬ sc = w.heap.size := by omega
  have hpn : ¬ blk p = w.heap.size := by omega
  obtain ⟨pcur, hpcur, _⟩ := h.srf p hp
  have hmpl := h.map.lt
  have hmpn : mp ≠ w.heap.size := by omega
  have hscp : sc ≠ blk p := neT h.sce hpcur (by decide)
  have hpmp : blk p ≠ mp := h.map.ne hpcur
  have hscmp : sc ≠ mp := h.map.ne h.sce
  -- the world ahead of the map
  obtain ⟨A, hA⟩ : ∃ A, A = (w.setCell ⟨sc, 2, none⟩ (.int .i64 ((st.sfs.length : Int) + 1))).alloc (.cells (newP st.sfs.length (blk p)) 174) := ⟨_, rfl⟩
  have hAs : A.heap.size = w.heap.size + 1 := by rw [hA]; simp
  have hAo : ∀ g, g < w.heap.size → g ≠ sc → A.heap[g]? = w.heap[g]? := fun g hg hne => by
    rw [hA, heap_old _ _ g (by simpa using hg), heap_setCell_other w ⟨sc, 2, none⟩ g _ hne]
  have hAn : A.heap[w.heap.size]? = some (.cells (newP st.sfs.length (blk p)) 174 (0, 0)) := by
    rw [hA]
    have := heap_alloc_new (w.setCell ⟨sc, 2, none⟩ (.int .i64 ((st.sfs.length : Int) + 1))) (.cells (newP st.sfs.length (blk p)) 174)
    simpa using this
  have hAsc : A.heap[sc]? = some (.cells #[ptrV (blk (-1)), .map (some mp), .int .i64 ((st.sfs.length : Int) + 1)] 152 (0, 0)) := by
    rw [hA, heap_old _ _ sc (by simpa using k3), heap_setCell_same w sc 2 _ _ _ h.sce]
    rfl
  have hOA : Only S w A := by
    rw [hA]
    exact ((Only.refl S w).set (.inl h.own.2.1) _).alloc _
  have HM : Hid (MapOf A.drew mp st.order fun (i : Nat) => upB blk st.sfs.length w.heap.size i) := by
    refine MapOf.congr (h.map.keep (hAo mp hmpl (fun e => hscmp e.symm))) (List.Perm.refl _) fun i hi => ?_
    have := hw.lt hi
    exact upB_old (by omega)
  have HNo : Hid (st.sfs.length ∉ st.order) := fun hi => by have := hw.lt hi; omega
  have HU : Hid (upB blk st.sfs.length w.heap.size ((st.sfs.length : Nat) : Int) = w.heap.size) := upB_new _ _ _
  -- behind the map
  have HF2 : Hid (∀ w2 : World, A.drew.grownBy w2 (some mp) → w2.heap.size = A.drew.heap.size → w2.cell? ⟨blk p, 2, none⟩ = some (.slice oa (st.kids p).length oc) ∧ w2.frozen? ⟨blk p, 2, none⟩ = false ∧ w2.cell? ⟨w.heap.size, 0, none⟩ = some (.int .i64 (st.sfs.length : Int)) ∧ w2.heap.size = w.heap.size + 1 ∧ w2.ownsRow 0 117 1 (.slice oa (st.kids p).length oc) (st.kids p).length ((st.kids p).map fun (i : Nat) => ptrV (blk i))) := fun w2 g2 s2 => by
    refine ⟨grownBy_cell g2 ?_ (fun e => hpmp (by injection e)), grownBy_frozen g2 (show blk p < A.heap.size by omega) ?_ (fun e => hpmp (by injection e)), grownBy_cell g2 ?_ (fun e => hmpn (by injection e with e; exact e.symm)), ?_, ?_⟩
    · show A.cell? _ = _
      rw [World.cell?_of_block (w := w) (a := ⟨blk p, 2, none⟩) (hAo _ pl (fun e => hscp e.symm)), p2, ho]
    · show A.frozen? _ = _
      rw [World.frozen?_of_block (w := w) (a := ⟨blk p, 2, none⟩) (hAo _ pl (fun e => hscp e.symm))]
      exact pf 2
    · show A.cell? _ = _
      rw [cell_of_row A _ _ _ _ _ hAn]
      rfl
    · rw [s2]; exact hAs
    · have hr := hrow.1
      rw [ho] at hr
      refine own_keep hr fun g hg => ?_
      obtain ⟨c, hc⟩ := own_type hr hg
      have hgl := (Array.getElem?_eq_some_iff.1 hc).1
      rw [g2.block g (show g < A.heap.size by omega) (fun e => h.map.ne hc (by injection e))]
      exact hAo g hgl (neT hc h.sce (by decide))
  have HEnd : Hid (∀ (w2 w4 : World) (v : Value), MapOf w2 mp (st.order ++ [st.sfs.length]) (fun (i : Nat) => upB blk st.sfs.length w.heap.size i) → A.drew.grownBy w2 (some mp) → w2.heap.size = w.heap.size + 1 → w4.ownsRow 0 117 1 v ((st.kids p).length + 1) (((st.kids p).map fun (i : Nat) => ptrV (blk i)) ++ [ptrV w.heap.size]) → (w2.alloc (.cells #[.pointer (some ⟨w.heap.size, 0, none⟩)] 117)).grownBy w4 (Value.slice oa (st.kids p).length oc).ownBlock → (v.ownBlock = (Value.slice oa (st.kids p).length oc).ownBlock ∨ v.ownBlock = some (w.heap.size + 1 + 1)) →
      w4.cell? ⟨blk p, 2, none⟩ = some (.slice oa (st.kids p).length oc) ∧ w4.frozen? ⟨blk p, 2, none⟩ = false ∧ w4.cell? ⟨w.heap.size, 0, none⟩ = some (.int .i64 (st.sfs.length : Int)) ∧ PaneOk (w4.setCell ⟨blk p, 2, none⟩ v) (grow S w (w4.setCell ⟨blk p, 2, none⟩ v)) x (mk st p) bv ∧ Only S w (w4.setCell ⟨blk p, 2, none⟩ v)) := fun w2 w4 v m2 g2 s2 r4 g4 hv => by
    have hob : ∀ g, (Value.slice oa (st.kids p).length oc).ownBlock = some g → ∃ c, w.heap[g]? = some (.cells c 117 (0, 0)) := fun g hg => by
      rw [← ho] at hg
      exact hrow.type hg
    have hobn : ∀ {g : Nat} {c : Array Value} {t : TypeId}, w.heap[g]? = some (.cells c t (0, 0)) → t ≠ 117 → some g ≠ (Value.slice oa (st.kids p).length oc).ownBlock := fun {g c t} hg ht e => by
      obtain ⟨c2, hc2⟩ := hob g e.symm
      exact neT hg hc2 ht rfl
    have h43 : ∀ g, g < w.heap.size + 1 → some g ≠ (Value.slice oa (st.kids p).length oc).ownBlock → w4.heap[g]? = w2.heap[g]? := fun g hg hne => by
      rw [g4.block g (by simp; omega) hne, heap_old _ _ g (by omega)]
    have h42 : ∀ g, g < w.heap.size → g ≠ sc → g ≠ mp → some g ≠ (Value.slice oa (st.kids p).length oc).ownBlock → w4.heap[g]? = w.heap[g]? := fun g hg h1 h2 hne => by
      rw [h43 g (by omega) hne, g2.block g (show g < A.heap.size by omega) (fun e => h2 (by injection e))]
      exact hAo g hg h1
    have hnn : some w.heap.size ≠ (Value.slice oa (st.kids p).length oc).ownBlock := fun e => by
      obtain ⟨c, hc⟩ := hob _ e.symm
      have := (Array.getElem?_eq_some_iff.1 hc).1
      omega
    have h4n : w4.heap[w.heap.size]? = some (.cells (newP st.sfs.length (blk p)) 174 (0, 0)) := by
      rw [h43 _ (by omega) hnn, g2.block _ (show w.heap.size < A.heap.size by omega) (fun e => hmpn (by injection e with e; exact e.symm))]
      exact hAn
    have h4p := h42 (blk p) pl (fun e => hscp e.symm) hpmp (hobn hpcur (by decide))
    have h4c : w4.cell? ⟨blk p, 2, none⟩ = some (.slice oa (st.kids p).length oc) := by
      rw [World.cell?_of_block (w := w) (a := ⟨blk p, 2, none⟩) h4p, p2, ho]
    have hmpo : some mp ≠ (Value.slice oa (st.kids p).length oc).ownBlock := fun e => by
      obtain ⟨c, hc⟩ := hob _ e.symm
      exact h.map.ne hc rfl
    have hsco := hobn h.sce (by decide)
    have h4s : w.heap.size + 1 + 1 ≤ w4.heap.size := by
      have := g4.size
      simp at this
      omega
    have hO4 : Only S w w4 := by
      have o2 : Only S w w2 := hOA.drew.grown g2 fun g e => .inl (by injection e with e; rw [← e]; exact h.own.2.2.1)
      refine (o2.alloc _).grown g4 fun g e => .inl ?_
      rw [← ho] at e
      exact hrow.2 g e
    have hO5 : Only S w (w4.setCell ⟨blk p, 2, none⟩ v) := hO4.set (.inl (h.own.2.2.2 p hp)) v
    have hpcs : SrfB w (blk p) (G p) := h.srf p hp
    have h5o : ∀ g, g ≠ blk p → (w4.setCell ⟨blk p, 2, none⟩ v).heap[g]? = w4.heap[g]? := fun g hne => heap_setCell_other w4 ⟨blk p, 2, none⟩ g v hne
    have hS5 : grow S w (w4.setCell ⟨blk p, 2, none⟩ v) w.heap.size := .inr ⟨Nat.le_refl _, by simp; omega⟩
    refine ⟨h4c, by rw [World.frozen?_of_block (w := w) (a := ⟨blk p, 2, none⟩) h4p]; exact pf 2, by rw [cell_of_row w4 _ _ _ _ _ h4n]; rfl, ⟨sc, mp, _, _, h.more hw hp (fun _ hg => grow_self hg) (Nat.le_refl _) hS5 (v := v) ?_ ?_ ?_ ?_ ?_ ?_ ?_⟩, hO5⟩
    · rw [h5o sc hscp, h43 sc (by omega) hsco, g2.block sc (show sc < A.heap.size by omega) (fun e => hscmp (by injection e))]
      exact hAsc
    · refine m2.keep ?_
      rw [h5o mp (fun e => hpmp e.symm), h43 mp (by omega) hmpo]
    · rw [h5o _ (fun e => hpn e.symm)]
      exact h4n
    · exact (hpcs.keep h4p).set 2 v
    · refine ⟨own_keep r4 fun g hg => h5o g ?_, fun g hg => ?_⟩
      · rintro rfl
        rcases hv with hv | hv
        · rw [hv] at hg
          exact hobn hpcur (by decide) hg.symm
        · rw [hv] at hg
          injection hg with hg
          omega
      · rcases hv with hv | hv
        · rw [hv, ← ho] at hg
          exact .inl (hrow.2 g hg)
        · rw [hv] at hg
          injection hg with hg
          subst hg
          refine .inr ⟨by omega, ?_⟩
          obtain ⟨c, hc⟩ := own_type r4 (k := w.heap.size + 1 + 1) hv
          have := (Array.getElem?_eq_some_iff.1 hc).1
          simpa using this
    · rcases hv with hv | hv
      · exact .inl (by rw [hv, ho])
      · exact .inr ⟨_, hv, by omega⟩
    · intro g hg h1 h2 h3 h4
      rw [h5o g h3]
      exact h42 g hg h1 h2 (by rw [← ho]; exact h4)
  have HA := hide hA
  have a1 : A.cell? ⟨sc, 1, none⟩ = some (.map (some mp)) := by rw [cell_of_row A _ _ _ _ _ hAsc]; rfl
  have a2 : A.cell? ⟨w.heap.size, 0, none⟩ = some (.int .i64 (st.sfs.length : Int)) := by rw [cell_of_row A _ _ _ _ _ hAn]; rfl
  have HA1 := hide (And.intro a1 a2)
  clear a1 a2
  have hmade2 : (st.sfs.length : Int) < 60 := by omega
  clear hrow h pc pf hw hAo hAn hAsc hOA hA
  obtain ⟨n, hn⟩ : ∃ n, st.sfs.length = n := ⟨_, rfl⟩
  obtain ⟨kn, hkn⟩ : ∃ kn, (st.kids p).length = kn := ⟨_, rfl⟩
  obtain ⟨ks, hks⟩ : ∃ ks, ((st.kids p).map fun (i : Nat) => ptrV (blk i)) = ks := ⟨_, rfl⟩
  rw [hn] at hmade2 HM HNo HU HF2 HEnd HA HA1 k2 ⊢
  rw [hkn] at HF2 HEnd ho hkl
  rw [hks] at HF2 HEnd
  unfold newP at HA
  obtain ⟨pb, hpb⟩ : ∃ pb, blk p = pb := ⟨_, rfl⟩
  rw [hpb] at HA HF2 HEnd p2 hpn hscp hpmp pl ⊢
  clear hpb
  go_enter Tryz.func57, Tryz.ntmps57
  go_wp2_with fail
  rw [← HA.out]
  obtain ⟨a1, a2⟩ := HA1.out
  obtain ⟨w2, hrun, m2, g2, s2⟩ := HM.out.store (P := Tryz.prog) Tryz.underlying150 Tryz.underlying3 HNo.out w.heap.size HU.out
  go_region
  obtain ⟨q1, q2, q3, q4, q5⟩ := HF2.out w2 g2 s2
  have H2 := hide (And.intro m2 (And.intro g2 q4))
  have HQ5 := hide q5
  have hw2n : ¬ w.heap.size = w2.heap.size := by omega
  have hpbn : ¬ pb = w2.heap.size := by omega
  clear m2 g2 s2 q4 q5 HF2 hrun
  go_wp2_with (at_builtin; refine wpList_append_row (P := Tryz.prog) rfl (.tmp 33) (.tmp 35) 170 rfl 0 117 i0 _ 1 8 Tryz.underlying170 hi0 hz0 hz1 hz2 rfl (by decide) (.slice oa kn oc) kn ks rfl (HQ5.out.alloc _) (.slice (some ⟨w2.heap.size, 0, none⟩) 1 1) 1 [ptrV w.heap.size] rfl rfl (.inr ⟨_, _, rfl, cell_one_new _ _ _⟩) (by simp [Value.oneCell', ptrV]) (by unfold maxLen; omega) (by omega) (by simp) ?_; intro v w4 r4 g4 z4 hv; obtain ⟨va, vc, rfl⟩ := row_form r4; rw [show (w2.alloc (.cells #[.pointer (some ⟨w.heap.size, 0, none⟩)] 117)).heap.size = w.heap.size + 1 + 1 by simp; exact H2.out.2.2] at hv; obtain ⟨e1, e2, e3, e4, e5⟩ := HEnd.out w2 w4 _ H2.out.1 H2.out.2.1 H2.out.2.2 r4 g4 hv; have HR := hide (And.intro e4 e5); clear e4 e5 r4 g4 z4 hv)
  go_ret
  exact ⟨rfl, HR.out.1, HR.out.2⟩

set_option maxRecDepth 100000 in
set_option maxHeartbeats 1000000 in
/-- (*Screen).Make -/
theorem paMake_any {S : Nat → Prop} {x : Nat} {st : St} (hw : Wf st) (p : Int) (w : World) {bv : Value} (h : PaneOk w S x st bv) :
    Calls Tryz.prog 27 #[.pointer (some ⟨x, 0, none⟩), .int .i64 p] w (PMPost S x bv (opMake st p) w) := by
  have HE : Hid (∀ er : Int, PMPost S x bv (0, er, st) w (.returned (.tuple #[.int .i64 0, .int .i64 er])) w) := fun er => ⟨rfl, h.mono fun _ hg => grow_self hg, Only.refl _ _⟩
  obtain ⟨sc, mp, blk, G, h⟩ := h
  obtain ⟨x0, x1, xl⟩ := h.scrCells
  have HP := hide (scParent_all hw h p)
  have HF := hide (scFull_any hw h)
  have HM := hide (scMake_any hw h p)
  unfold opMake
  by_cases hp : p = -1 ∨ st.isB p = true
  · rw [if_pos hp]
    have hl : Live st p := by
      rcases hp with hp | hp
      · exact .inl hp
      · exact .inr ((isB_iff hw p).1 hp)
    have hv : (if p = -1 then Value.pointer (some ⟨blk (-1), 0, none⟩) else srfV st blk p) = .pointer (some ⟨blk p, 0, none⟩) := by
      by_cases e : p = -1
      · rw [if_pos e, e]
      · rw [if_neg e]
        unfold srfV
        rw [if_pos (hp.resolve_left e)]
    rw [hv] at HP
    by_cases hc : st.order.length < 12 ∧ st.sfs.length < 60
    · rw [if_pos hc]
      rw [decide_eq_true hc] at HF
      have HM2 := hide (HM.out hl hc.2)
      clear h hp hv HM hl hc
      go_enter Tryz.func27, Tryz.ntmps27
      go_wp2_with (first
        | (go_at_call 55; refine HP.out.mono ?_; rintro e w' ⟨rfl, hw'⟩; replace hw' := hw'.symm; subst hw')
        | (go_at_call 56; refine HF.out.mono ?_; rintro e w' ⟨rfl, hw'⟩; replace hw' := hw'.symm; subst hw')
        | (go_at_call 57; refine HM2.out.mono ?_; rintro e w' ⟨rfl, r1, r2⟩; have HR := hide (And.intro r1 r2); clear r1 r2))
      go_ret2
      exact ⟨rfl, HR.out.1, HR.out.2⟩
    · rw [if_neg hc]
      rw [decide_eq_false hc] at HF
      clear h hp hv HM hl hc
      go_enter Tryz.func27, Tryz.ntmps27
      go_wp2_with (first
        | (go_at_call 55; refine HP.out.mono ?_; rintro e w' ⟨rfl, hw'⟩; replace hw' := hw'.symm; subst hw')
        | (go_at_call 56; refine HF.out.mono ?_; rintro e w' ⟨rfl, hw'⟩; replace hw' := hw'.symm; subst hw'))
      go_ret2
      exact HE.out 9
  · rw [if_neg hp]
    have hv : (if p = -1 then Value.pointer (some ⟨blk (-1), 0, none⟩) else srfV st blk p) = .pointer none := by
      rw [if_neg (fun e => hp (.inl e))]
      unfold srfV
      rw [if_neg (fun e => hp (.inr e))]
    rw [hv] at HP
    clear h hp hv HM HF
    go_enter Tryz.func27, Tryz.ntmps27
    go_wp2_with (go_at_call 55; refine HP.out.mono ?_; rintro e w' ⟨rfl, hw'⟩; replace hw' := hw'.symm; subst hw')
    go_ret2
    exact HE.out 6

end Go.Proofs.YtofinpocigbbeaaGreat

namespace Go.Proofs.YtofinpocigbbeaaGreat
open Go.RowKit
attribute [local go_sem ↓] Go.wp_at_zero Go.wp_at_succ

/-- Less some numbers. -/
def rmF (L D : List Nat) : List Nat := L.filter fun a => !D.contains a

theorem rmF_nil (L : List Nat) : rmF L [] = L := by unfold rmF; simp
theorem rmF_app (L D E : List Nat) : rmF (rmF L D) E = rmF L (D ++ E) := by
  unfold rmF
  rw [List.filter_filter]
  refine List.filter_congr fun a _ => ?_
  simp only [List.contains_append, Bool.not_or]
  exact Bool.and_comm _ _

theorem rmF_one {L : List Nat} (h : L.Nodup) (a : Nat) : L.erase a = rmF L [a] := by
  rw [h.erase_eq_filter]
  unfold rmF
  refine List.filter_congr fun b _ => ?_
  rw [Bool.eq_iff_iff]
  simp

theorem rmF_mem {L D : List Nat} {a : Nat} : a ∈ rmF L D ↔ a ∈ L ∧ a ∉ D := by
  unfold rmF
  rw [List.mem_filter]
  simp

/-- What forget reads of a surface. -/
structure FT (w : World) (st : St) (blk : Int → Nat) (mp : Nat) (j : Nat) : Prop where
  num : w.cell? ⟨blk j, 0, none⟩ = some (.int .i64 (j : Int))
  lt : blk j < w.heap.size
  ne : blk j ≠ mp
  on : ∃ a c, w.cell? ⟨blk j, 2, none⟩ = some (.slice a (st.kids j).length c) ∧ ∀ k (h : k < (st.kids j).length), ∃ g, a = some ⟨g, 0, none⟩ ∧ g < w.heap.size ∧ g ≠ mp ∧ w.cell? ⟨g, k, none⟩ = some (.pointer (some ⟨blk ((st.kids j)[k] : Nat), 0, none⟩))

theorem FT.grown {w w' : World} {st : St} {blk : Int → Nat} {mp j : Nat} (h : FT w st blk mp j) (hg : w.grownBy w' (some mp)) : FT w' st blk mp j := by
  obtain ⟨a, c, h1, h2⟩ := h.on
  refine ⟨grownBy_cell hg h.num fun e => h.ne (by injection e), Nat.lt_of_lt_of_le h.lt hg.size, h.ne, a, c, grownBy_cell hg h1 fun e => h.ne (by injection e), fun k hk => ?_⟩
  obtain ⟨g, e1, e2, e3, e4⟩ := h2 k hk
  exact ⟨g, e1, Nat.lt_of_lt_of_le e2 hg.size, e3, grownBy_cell hg e4 fun e => e3 (by injection e)⟩

/-- All kids up to the k-th, each with all that is on it. -/
def St.kupto (st : St) (i : Nat) (k : Nat) : List Nat := ((st.kids i).take k).flatMap fun j => j :: st.dfs j

theorem kupto_zero (st : St) (i : Nat) : st.kupto i 0 = [] := rfl
theorem kupto_succ (st : St) (i k : Nat) (h : k < (st.kids i).length) : st.kupto i (k + 1) = st.kupto i k ++ ((st.kids i)[k] :: st.dfs (st.kids i)[k]) := by
  unfold St.kupto
  rw [List.take_succ_eq_append_getElem h, List.flatMap_append]
  simp
theorem kupto_all {st : St} (hw : Wf st) (i k : Nat) (h : (st.kids i).length ≤ k) : st.kupto i k = st.dfs i := by
  unfold St.kupto
  rw [List.take_of_length_le h, dfs_step hw i (by omega)]

theorem kids_len {st : St} (hw : Wf st) (p : Int) : (st.kids p).length ≤ 12 := Nat.le_trans (List.length_filter_le _ _) hw.len

theorem sub_nodup {st : St} (hw : Wf st) (i : Nat) : (i :: st.dfs i).Nodup := by
  rw [List.nodup_cons]
  exact ⟨fun h => ((dfs_mem hw st.sfs.length i (by omega) i).1 h).2.1 rfl, dfs_nodup hw st.sfs.length i (by omega)⟩

/-- A kid's part is not among the earlier ones. -/
theorem kupto_apart {st : St} (hw : Wf st) (i k : Nat) (h : k < (st.kids i).length) {m : Nat} (hm : m ∈ (st.kids i)[k] :: st.dfs (st.kids i)[k]) : m ∉ i :: st.kupto i k := by
  have hn := sub_nodup hw i
  rw [dfs_step hw i (by omega)] at hn
  have e : (st.kids i).flatMap (fun j => j :: st.dfs j) = st.kupto i (k + 1) ++ ((st.kids i).drop (k + 1)).flatMap fun j => j :: st.dfs j := by
    unfold St.kupto
    rw [← List.flatMap_append, List.take_append_drop]
  rw [e, kupto_succ st i k h, ← List.cons_append, ← List.cons_append, List.nodup_append, List.nodup_append] at hn
  intro h2
  exact hn.1.2.2 m h2 m hm rfl

theorem kid_sub {st : St} (hw : Wf st) (i k : Nat) (h : k < (st.kids i).length) {m : Nat} (hm : m ∈ (st.kids i)[k] :: st.dfs (st.kids i)[k]) : m ∈ i :: st.dfs i := by
  rw [dfs_step hw i (by omega)]
  exact List.mem_cons_of_mem _ (List.mem_flatMap.2 ⟨_, List.getElem_mem h, hm⟩)

set_option maxRecDepth 100000 in
set_option maxHeartbeats 1000000 in
/-- (*Scene).forget -/
theorem forget_any {st : St} (hw : Wf st) {blk : Int → Nat} {sc mp : Nat} (hscm : sc ≠ mp) : ∀ (n : Nat) (i : Nat) (L : List Nat) (w : World), i ∈ st.order → st.need i ≤ n → L.Nodup → (∀ j ∈ i :: st.dfs i, FT w st blk mp j ∧ j ∈ L) → MapOf w mp L (fun (j : Nat) => blk j) → w.cell? ⟨sc, 1, none⟩ = some (.map (some mp)) →
    Calls Tryz.prog 113 #[.pointer (some ⟨sc, 0, none⟩), .pointer (some ⟨blk i, 0, none⟩)] w fun e w' => e = .returned (.tuple #[]) ∧ MapOf w' mp (rmF L (i :: st.dfs i)) (fun (j : Nat) => blk j) ∧ w.grownBy w' (some mp) ∧ w'.heap.size = w.heap.size := by
  intro n
  induction n with
  | zero => intro i L w _ h; unfold St.need at h; omega
  | succ n ih =>
    intro i L w hio hneed hnd hFT hm hsc
    have hi := (hFT i (by simp)).1
    obtain ⟨oa, oc, ho1, ho2⟩ := hi.on
    have hnum := hi.num
    obtain ⟨m, hmk⟩ : ∃ m, (st.kids i).length = m := ⟨_, rfl⟩
    have hm12 : m ≤ 12 := by rw [← hmk]; exact kids_len hw i
    obtain ⟨w1, hrun, m1, g1, s1⟩ := (hm.keep (w' := w.drew) rfl).delete (P := Tryz.prog) (ty := 0) Tryz.underlying150 Tryz.underlying3 (hFT i (by simp)).2
    rw [rmF_one hnd] at m1
    have ho3 : w1.cell? ⟨blk i, 2, none⟩ = some (.slice oa (st.kids i).length oc) := grownBy_cell g1 ho1 fun e => hi.ne (by injection e)
    rw [hmk] at ho3
    have HL : Hid (∀ (k : Nat) (W : World), MapOf W mp (rmF L (i :: st.kupto i k)) (fun (j : Nat) => blk j) → w1.grownBy W (some mp) → W.heap.size = w.heap.size → k < m → ∃ (g : Nat) (j : Nat), oa = some ⟨g, 0, none⟩ ∧ W.cell? ⟨g, k, none⟩ = some (.pointer (some ⟨blk j, 0, none⟩)) ∧
        Calls Tryz.prog 113 #[.pointer (some ⟨sc, 0, none⟩), .pointer (some ⟨blk j, 0, none⟩)] W fun e w' => e = .returned (.tuple #[]) ∧ MapOf w' mp (rmF L (i :: st.kupto i (k + 1))) (fun (j : Nat) => blk j) ∧ w1.grownBy w' (some mp) ∧ w'.heap.size = w.heap.size) := fun k W mW gW sW hkm => by
      have hkl : k < (st.kids i).length := by omega
      obtain ⟨g, e1, e2, e3, e4⟩ := ho2 k hkl
      obtain ⟨q1, q2⟩ := kids_mem.1 (List.getElem_mem hkl)
      have gw : w.grownBy W (some mp) := ⟨gW.os.trans g1.os, gW.tape.trans g1.tape, gW.output.trans g1.output, by omega, fun b hb hne => by rw [gW.block b (Nat.lt_of_lt_of_le hb g1.size) hne, g1.block b hb hne]; rfl⟩
      refine ⟨g, (st.kids i)[k], e1, grownBy_cell gw e4 fun e => e3 (by injection e), ?_⟩
      refine (ih (st.kids i)[k] (rmF L (i :: st.kupto i k)) W q1 (by have := need_kid hw (by omega) q1 q2; omega) (hnd.filter _) (fun j hj => ?_) mW (grownBy_cell gw hsc fun e => hscm (by injection e))).mono ?_
      · have := hFT j (kid_sub hw i k hkl hj)
        exact ⟨this.1.grown gw, rmF_mem.2 ⟨this.2, kupto_apart hw i k hkl hj⟩⟩
      · rintro e w' ⟨rfl, r1, r2, r3⟩
        rw [rmF_app, List.cons_append, ← kupto_succ st i k hkl] at r1
        exact ⟨rfl, r1, ⟨r2.os.trans gW.os, r2.tape.trans gW.tape, r2.output.trans gW.output, Nat.le_trans gW.size r2.size, fun b hb hne => by rw [r2.block b (Nat.lt_of_lt_of_le hb gW.size) hne, gW.block b hb hne]⟩, by omega⟩
    have HEnd : Hid (∀ (W : World), MapOf W mp (rmF L (i :: st.kupto i m)) (fun (j : Nat) => blk j) → w1.grownBy W (some mp) → W.heap.size = w.heap.size → MapOf W mp (rmF L (i :: st.dfs i)) (fun (j : Nat) => blk j) ∧ w.grownBy W (some mp)) := fun W mW gW sW => by
      rw [kupto_all hw i m (by omega)] at mW
      exact ⟨mW, ⟨gW.os.trans g1.os, gW.tape.trans g1.tape, gW.output.trans g1.output, by omega, fun b hb hne => by rw [gW.block b (Nat.lt_of_lt_of_le hb g1.size) hne, g1.block b hb hne]; rfl⟩⟩
    have HI1 : Hid (MapOf w1 mp (rmF L (i :: st.kupto i 0)) (fun (j : Nat) => blk j) ∧ w1.grownBy w1 (some mp) ∧ w1.heap.size = w.heap.size) := ⟨m1, ⟨rfl, rfl, rfl, Nat.le_refl _, fun _ _ _ => rfl⟩, s1⟩
    clear ih hFT hm ho2 hi m1 g1 s1 ho1
    obtain ⟨ib, hib⟩ : ∃ ib, blk i = ib := ⟨_, rfl⟩
    rw [hib] at hnum ho3 ⊢
    go_enter Tryz.func113, Tryz.ntmps113
    go_wp2_with fail
    go_region
    go_wp2_with fail
    clear hsc hnum ho3 hrun
    go_loopg [19] m (fun gg s19 wr => ∃ k : Nat, s19 = .int .i64 (k : Int) ∧ gg + k = m ∧ Hid (MapOf wr mp (rmF L (i :: st.kupto i k)) (fun (j : Nat) => blk j) ∧ w1.grownBy wr (some mp) ∧ wr.heap.size = w.heap.size))
    case atStart => exact ⟨0, rfl, by omega, HI1.out⟩
    case round =>
      obtain ⟨k, rfl, hgk, HR⟩ := hrel
      cases gk with
      | zero =>
        have hlt : ¬ (k : Int) < (m : Int) := by omega
        have hkm : k = m := by omega
        subst hkm
        go_wp2_with fail
        exact bodyPost_end (v := .tuple #[]) (by simp [results, Tryz.results113]) rfl ⟨rfl, (HEnd.out _ HR.out.1 HR.out.2.1 HR.out.2.2).1, (HEnd.out _ HR.out.1 HR.out.2.1 HR.out.2.2).2, HR.out.2.2⟩
      | succ gg =>
        have hlt : (k : Int) < (m : Int) := by omega
        obtain ⟨g, j, rfl, hc, hcall⟩ := HL.out k _ HR.out.1 HR.out.2.1 HR.out.2.2 (by omega)
        have HC := hide hcall
        have hkm : k < m := by omega
        clear hcall
        go_wp2_with (go_at_call 113; refine HC.out.mono ?_; rintro e w' ⟨rfl, r1⟩; have HR1 := hide r1; clear r1)
        go_roundg gg
        case measure => omega
        case rel => exact ⟨k + 1, by go_num, by omega, HR1.out⟩

end Go.Proofs.YtofinpocigbbeaaGreat

namespace Go.Proofs.YtofinpocigbbeaaGreat
open Go.RowKit

/-- The row of what lies on a surface, as find reads it. -/
theorem PRaw.ptrs {w : World} {S : Nat → Prop} {x : Nat} {st : St} {bv : Value} {sc mp : Nat} {blk : Int → Nat} {G : Int → Nat → Value} (h : PRaw w S x st bv sc mp blk G) {p : Int} (hp : Live st p) : Ptrs w (G p 2) (st.kids p) fun (j : Nat) => blk j := by
  have hr := h.on p hp
  obtain ⟨a, c, ha⟩ := hr.form
  refine ⟨⟨a, c, ha, fun k hk => ?_⟩, fun j hj => ?_⟩
  · obtain ⟨g, cap, e1, e2, e3, e4, e5, e6⟩ := hr.open (by omega)
    rw [ha] at e1
    injection e1 with e1
    refine ⟨g, e1, e4, e5 k _ ?_⟩
    rw [List.getElem?_map, List.getElem?_eq_getElem hk]
    rfl
  · obtain ⟨kc, kf, kl⟩ := h.at (live_kid hj)
    refine ⟨?_, kl⟩
    rw [kc 0 (by omega), (h.cells j (live_kid hj)).num]

/-- The row of what lies on a surface on which something lies. -/
theorem PRaw.rowAt {w : World} {S : Nat → Prop} {x : Nat} {st : St} {bv : Value} {sc mp : Nat} {blk : Int → Nat} {G : Int → Nat → Value} (h : PRaw w S x st bv sc mp blk G) {p : Int} (hp : Live st p) (hne : st.kids p ≠ []) :
    ∃ g n cap cur, G p 2 = .slice (some ⟨g, 0, none⟩) (n + 1) cap ∧ (st.kids p).length = n + 1 ∧ w.heap[g]? = some (.cells cur 117 (0, 0)) ∧ cur.size = cap ∧ cap ≤ maxLen ∧ n + 1 ≤ cap ∧ cur.toList.take (n + 1) = ((st.kids p).map fun (j : Nat) => ptrV (blk j)) ∧ S g := by
  have hr := h.on p hp
  have hl : 0 < (st.kids p).length := List.length_pos_iff.2 hne
  obtain ⟨h1, h2⟩ := hr
  obtain ⟨h3, h4⟩ := h1
  rcases h4 with ⟨_, h4⟩ | ⟨g, cap, cur, e1, e2, e3, e4, e5, e6, e7⟩
  · omega
  · obtain ⟨n, hn⟩ : ∃ n, (st.kids p).length = n + 1 := ⟨(st.kids p).length - 1, by omega⟩
    rw [hn] at e1 e4 e7
    exact ⟨g, n, cap, cur, e1, hn, e3, by rw [e6, Nat.mul_one], e5, e4, by rw [← e7, Nat.mul_one], h2 g (by rw [e1]; rfl)⟩

theorem idx_is {L : List Nat} {i : Nat} (hi : i ∈ L) {r : Int} (h : IdxIs L (i : Int) r) : ∃ k : Nat, r = k ∧ L[k]? = some i := by
  rcases h with ⟨_, h⟩ | ⟨k, j, h1, h2, h3⟩
  · exact absurd rfl (h i hi)
  · have : j = i := by omega
    subst this
    exact ⟨k, h1, h2⟩

end Go.Proofs.YtofinpocigbbeaaGreat

namespace Go.Proofs.YtofinpocigbbeaaGreat
open Go.RowKit
attribute [local go_sem ↓] Go.wp_at_zero Go.wp_at_succ

theorem filter_erase : ∀ (l : List Nat) (k i : Nat), l.Nodup → l[k]? = some i → (l.filter fun j => decide (j ≠ i)) = l.eraseIdx k
  | [], k, i, _, h => by simp at h
  | a :: l, 0, i, hn, h => by
    simp at h
    subst h
    rw [List.nodup_cons] at hn
    rw [List.filter_cons, if_neg (by simp), List.eraseIdx_cons_zero, List.filter_eq_self]
    intro b hb
    simp
    rintro rfl
    exact hn.1 hb
  | a :: l, k + 1, i, hn, h => by
    rw [List.nodup_cons] at hn
    have h2 : l[k]? = some i := by simpa using h
    have hi : i ∈ l := List.mem_of_getElem? h2
    rw [List.filter_cons, if_pos (by simp; rintro rfl; exact hn.1 hi), List.eraseIdx_cons_succ, filter_erase l k i hn.2 h2]

theorem rm_live {st : St} {i : Nat} {q : Int} (h : Live (rm st i) q) : Live st q ∧ i ∉ st.chain q := by
  rcases h with rfl | ⟨j, rfl, hj⟩
  · exact ⟨live_top st, by rw [chain_neg st (by omega)]; simp⟩
  · have hj2 : j ∈ st.order.filter fun (o : Nat) => !(st.chain o).contains i := hj
    rw [List.mem_filter] at hj2
    exact ⟨live_nat hj2.1, by simpa using hj2.2⟩

/-- A surface is gone, with all that was on it. -/
theorem PRaw.less {w w' : World} {S : Nat → Prop} {x : Nat} {st : St} (hw : Wf st) {bv : Value} {sc mp : Nat} {blk : Int → Nat} {G : Int → Nat → Value} (h : PRaw w S x st bv sc mp blk G) {i : Nat} (hi : i ∈ st.order) {p : Int} (hpe : (st.sf i).parent = p) {k : Nat} (hk : (st.kids p)[k]? = some i) {v : Value}
    (hmap : MapOf w' mp (rm st i).order fun (j : Nat) => blk j)
    (hpar : SrfB w' (blk p) (upO (G p) 2 v))
    (hrow : RowS w' S 117 1 v ((st.kids p).length - 1) (((st.kids p).eraseIdx k).map fun (j : Nat) => ptrV (blk j)))
    (hvb : v.ownBlock = (G p 2).ownBlock)
    (hoth : ∀ g, g < w.heap.size → g ≠ mp → g ≠ blk p → some g ≠ (G p 2).ownBlock → w'.heap[g]? = w.heap[g]?) :
    PRaw w' S x (rm st i) bv sc mp blk (upG G p (upO (G p) 2 v)) := by
  have hp : Live st p := by rw [← hpe]; exact live_par hw hi
  have hlt : ∀ {g : Nat} {o : Obj}, w.heap[g]? = some o → g < w.heap.size := fun {g o} hg => (Array.getElem?_eq_some_iff.1 hg).1
  obtain ⟨pc, hpc, hpcs⟩ := h.srf p hp
  have rowT : ∀ g, some g = (G p 2).ownBlock → ∃ cur, w.heap[g]? = some (.cells cur 117 (0, 0)) := fun g hg => (h.on p hp).type hg.symm
  have hown : ∀ q, (upG G p (upO (G p) 2 v) q 2).ownBlock = (G q 2).ownBlock := fun q => by
    unfold upG
    by_cases e : q = p
    · subst e
      rw [if_pos rfl]
      show v.ownBlock = _
      exact hvb
    · rw [if_neg e]
  refine ⟨?_, ?_, hmap, fun q hq => ?_, ⟨h.own.1, h.own.2.1, h.own.2.2.1, fun q hq => h.own.2.2.2 q (rm_live hq).1⟩, fun q q' hq hq' e => h.inj q q' (rm_live hq).1 (rm_live hq').1 e, fun q hq => ?_, fun q q' hq hq' hne g hg => ?_, fun q hq => ?_, fun j hj => ?_⟩
  · refine (hoth x (hlt h.scr) (h.map.ne h.scr) (neT h.scr hpc (by decide)) fun e => ?_).trans h.scr
    obtain ⟨c, hc⟩ := rowT x e
    exact neT h.scr hc (by decide) rfl
  · rw [rm_len]
    refine (hoth sc (hlt h.sce) (h.map.ne h.sce) (neT h.sce hpc (by decide)) fun e => ?_).trans h.sce
    obtain ⟨c, hc⟩ := rowT sc e
    exact neT h.sce hc (by decide) rfl
  · unfold upG
    by_cases e : q = p
    · subst e; rw [if_pos rfl]; exact hpar
    · rw [if_neg e]
      obtain ⟨c, hc, hc2⟩ := h.srf q (rm_live hq).1
      refine ⟨c, (hoth _ (hlt hc) (h.map.ne hc) (fun e2 => e (h.inj q p (rm_live hq).1 hp e2)) fun e2 => ?_).trans hc, hc2⟩
      obtain ⟨c2, hc2⟩ := rowT _ e2
      exact neT hc hc2 (by decide) rfl
  · rw [rm_kids hw i q (rm_live hq).2]
    unfold upG
    by_cases e : q = p
    · subst e
      rw [if_pos rfl, filter_erase (st.kids q) k i (hw.nd.filter _) hk, List.length_eraseIdx, if_pos (List.getElem?_eq_some_iff.1 hk).1]
      exact hrow
    · rw [if_neg e]
      have hsame : ((st.kids q).filter fun j => decide (j ≠ i)) = st.kids q := by
        rw [List.filter_eq_self]
        intro j hj
        simp
        rintro rfl
        exact e (by rw [← (kids_mem.1 hj).2, hpe])
      rw [hsame]
      have hr := h.on q (rm_live hq).1
      refine ⟨own_keep hr.1 fun g hg => ?_, hr.2⟩
      obtain ⟨c, hc⟩ := hr.type hg
      exact hoth g (hlt hc) (h.map.ne hc) (neT hc hpc (by decide)) fun e2 => h.apart q p (rm_live hq).1 hp e g hg e2.symm
  · rw [hown] at hg ⊢
    exact h.apart q q' (rm_live hq).1 (rm_live hq').1 hne g hg
  · have hc := h.cells q (rm_live hq).1
    have hc3 : PCells blk (rm st i) q (G q) := by
      refine hc.other rfl rfl fun hq1 => ?_
      rw [rm_sf st hw, if_neg]
      intro hg
      have h1 := (rm_live hq).2
      rcases hq with rfl | ⟨j, rfl, hj⟩
      · exact hq1 rfl
      · rw [Int.toNat_natCast] at hg
        exact h1 (gone_mem.1 hg).2
    unfold upG
    by_cases e : q = p
    · rw [if_pos e]
      subst e
      exact ⟨hc3.num, hc3.par, ⟨hc3.now.w, hc3.now.h, hc3.now.pix, hc3.now.x, hc3.now.y, hc3.now.c0, hc3.now.c1, hc3.now.c2, hc3.now.c3, hc3.now.cut, hc3.now.hint⟩, (by obtain ⟨l, h1, h2⟩ := hc3.next; exact ⟨l, ⟨h1.w, h1.h, h1.pix, h1.x, h1.y, h1.c0, h1.c1, h1.c2, h1.c3, h1.cut, h1.hint⟩, h2⟩), hc3.stk, hc3.kep⟩
    · rw [if_neg e]
      exact hc3
  · have hkd : KeptD w w' := fun g cur t ht e => hoth g (hlt e) (h.map.ne e) (neT e hpc (ht.ne (by unfold DataT; decide))) fun e2 => by
      obtain ⟨c, hc⟩ := rowT g e2
      exact neT e hc (ht.ne (by unfold DataT; decide)) rfl
    have hlv : Live (rm st i) (j : Int) := live_nat hj
    have hjo : j ∈ st.order := by
      rcases (rm_live hlv).1 with e | ⟨k, e, hk⟩
      · omega
      · have : j = k := by omega
        subst this
        exact hk
    have hd := (h.data j hjo).kd hkd
    rw [rm_sf st hw, if_neg (fun hg => (rm_live hlv).2 (gone_mem.1 hg).2)]
    unfold upG
    by_cases e : (j : Int) = p
    · rw [if_pos e]
      subst e
      exact ⟨hd.pix, hd.hint, hd.npix, hd.nhint, hd.kw, hd.kh, hd.kept⟩
    · rw [if_neg e]
      exact hd

theorem rm_order {st : St} (hw : Wf st) {i : Nat} (hi : i ∈ st.order) : rmF st.order (i :: st.dfs i) = (rm st i).order := by
  unfold rmF
  show _ = st.order.filter _
  refine List.filter_congr fun o ho => ?_
  congr 1
  rw [Bool.eq_iff_iff]
  have := (gone_perm hw i hi).mem_iff (a := o)
  rw [gone_mem] at this
  simp only [List.contains_iff_mem]
  rw [this]
  exact ⟨fun h => h.2, fun h => ⟨ho, h⟩⟩

end Go.Proofs.YtofinpocigbbeaaGreat
