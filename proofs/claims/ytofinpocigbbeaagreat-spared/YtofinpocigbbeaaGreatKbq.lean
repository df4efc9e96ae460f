import Derived.Test.YtofinpocigbbeaaGreatKbo
import Derived.Test.YtofinpocigbbeaaGreatKbp
namespace Go.Proofs.YtofinpocigbbeaaGreat
open Go.RowKit
attribute [local go_sem ↓] Go.wp_at_zero Go.wp_at_succ

set_option maxRecDepth 100000 in
set_option maxHeartbeats 1000000 in
/-- (*Scene).Picture -/
theorem scPicture_any {w : World} {st : St} {blk : Int → Nat} {G : Int → Nat → Value} {sc : Nat} (hsc : w.cell? ⟨sc, 0, none⟩ = some (.pointer (some ⟨blk (-1), 0, none⟩))) (h : ∀ V : World, Below w.heap.size w V → LaysOf V st G blk (-1)) :
    Calls Tryz.prog 41 #[.pointer (some ⟨sc, 0, none⟩)] w fun e w' => ∃ a n c, e = .returned (.agg #[.slice a n c]) ∧ OwnL w' w.heap.size (.slice a n c) st G (st.visAll (-1)) ∧ Below w.heap.size w w' := by
  obtain ⟨pb, hpb⟩ : ∃ pb, blk (-1) = pb := ⟨_, rfl⟩
  obtain ⟨n, hn⟩ : ∃ n, (st.visAll (-1)).length = n := ⟨_, rfl⟩
  have HL : Hid (∀ V : World, Below w.heap.size w V → Calls Tryz.prog 80 #[.pointer (some ⟨pb, 0, none⟩), .slice none 0 0] V fun e w' => ∃ a c, e = .returned (.slice a n c) ∧ OwnL w' V.heap.size (.slice a n c) st G (st.visAll (-1)) ∧ Below V.heap.size V w') := fun V hV => by
    have := h V hV
    unfold LaysOf at this
    rw [hpb] at this
    refine this.mono ?_
    rintro e w' ⟨v, rfl, h1, h2⟩
    obtain ⟨a, c, hv⟩ := row_form h1
    rw [hn] at hv
    subst hv
    exact ⟨a, c, rfl, h1, h2⟩
  have hscl := cell_lt hsc
  have hscn : ¬ sc = w.heap.size := Nat.ne_of_lt hscl
  rw [hpb] at hsc
  clear h hpb hn
  go_enter Tryz.func41, Tryz.ntmps41
  go_wp2_with (go_at_call 80; refine (HL.out _ ((Below.refl _ _).alloc (Nat.le_refl _) _)).mono ?_; rintro e w1 ⟨va, vc, rfl, h1, h2⟩; have hbk : Blk w1 w.heap.size 95 #[.slice none 0 0] := (h2.block w.heap.size (by simp)).trans (heap_alloc_new w _); have c0 := hbk.cell 0; have f0 := hbk.has.free 0; simp only [List.getElem?_toArray, List.getElem?_cons_zero] at c0; have H1 := hide (And.intro h1 (And.intro h2 hbk)); clear h1 h2 hbk)
  obtain ⟨h1, h2, h3⟩ := H1.out
  have hs2 : w.heap.size + 1 ≤ w1.heap.size := by have := h2.size; simpa using this
  have h4 := h3.set 0 (.slice va n vc)
  have e0 : (w1.setCell ⟨w.heap.size, 0, none⟩ (.slice va n vc)).cell? ⟨w.heap.size, 0, none⟩ = some (.slice va n vc) := h4.cell 0
  exact bodyPost_ret (v := .agg #[.slice va n vc]) (by simp [results, Tryz.results41, go_sem, e0]) rfl ⟨va, n, vc, rfl, by
    unfold OwnL at h1 ⊢
    have h5 : w1.ownsRow w.heap.size 158 15 (.slice va n vc) (st.visAll (-1)).length ((st.visAll (-1)).flatMap (layC st G)) := ⟨h1.1, h1.2.imp id fun ⟨g, cap, cur, e1, e2, e3⟩ => ⟨g, cap, cur, e1, by simp at e2; omega, e3⟩⟩
    refine own_keep h5 fun g hg => heap_setCell_other w1 ⟨w.heap.size, 0, none⟩ g _ ?_
    have := (h1.lt g hg).1
    simp at this
    show g ≠ w.heap.size
    omega, (((Below.refl _ _).alloc (Nat.le_refl _) _).trans (h2.mono (by simp))).setCell (Nat.le_refl _) _⟩

theorem painted_ok {d : Cv} (hd : CvOk d) (i : Nat) (f : Nat → R4) : CvOk (d.painted i f) := by
  have hag : ∀ (j : Nat) (b : Buf), (d.painted i f).bufs[j]? = some b → ∃ a, d.bufs[j]? = some a ∧ b.g = a.g ∧ b.age ≤ d.old + 1 := fun j b hb => by
    have hb : (d.bufs.mapIdx fun j b => if j = i then (⟨b.g, 1, f⟩ : Buf) else b.older)[j]? = some b := hb
    rw [List.getElem?_mapIdx] at hb
    obtain ⟨a, ha, rfl⟩ := Option.map_eq_some_iff.1 hb
    have := hd.age a (List.mem_of_getElem? ha)
    refine ⟨a, ha, ?_, ?_⟩
    · split
      · rfl
      · unfold Buf.older; split <;> rfl
    · split
      · show 1 ≤ d.old + 1; omega
      · unfold Buf.older; split <;> (try simp only) <;> omega
  refine ⟨hd.w1, hd.h1, ?_, ?_, ?_, fun R hR => ?_, fun b hb => ?_, fun R hR x y hm => ?_, fun j k a b hj hk e => ?_⟩
  · show 1 ≤ (d.bufs.mapIdx _).length ∧ (d.bufs.mapIdx _).length ≤ 3
    rw [List.length_mapIdx]
    exact hd.n
  · show (d.nw + 1) % 4 < 4
    omega
  · show (d.dam.set _ _).length = 4
    rw [List.length_set]
    exact hd.ln
  · rcases List.mem_or_eq_of_mem_set hR with hR | rfl
    · exact hd.good R hR
    · exact good_nil
  · obtain ⟨j, hj⟩ := List.mem_iff_getElem?.1 hb
    obtain ⟨a, _, _, h3⟩ := hag j b hj
    exact h3
  · rcases List.mem_or_eq_of_mem_set hR with hR | rfl
    · exact hd.inside R hR x y hm
    · simp [memR] at hm
  · obtain ⟨a', h1, h2, _⟩ := hag j a hj
    obtain ⟨b', h3, h4, _⟩ := hag k b hk
    exact hd.apart j k a' b' h1 h3 (by rw [← h2, ← h4]; exact e)

/-- What a Repaint of a buffer that there is answers, and leaves. -/
def RpPost (S : Nat → Prop) (x : Nat) (st : St) (d : Cv) (i : Nat) (w : World) (e : Ending) (w' : World) : Prop :=
  ∃ (hi : i < d.bufs.length) (rv : Value) (O : Rgn), e = .returned (.tuple #[.agg #[rv, .int .i64 (laidL (fun x y => (st.picL (st.visAll (-1)) x y).2) (rc O) (rc O).length)], .int .i64 0]) ∧ Good O ∧ (∀ x y, memR O x y = d.stale d.bufs[i].age x y) ∧ OwnR w' w.heap.size rv (rc O) ∧
    FullC w' (grow S w w') x st (d.painted i (paintL d.W (rc O) (fun x y => (st.picL (st.visAll (-1)) x y).1) d.bufs[i].f)) ∧ Only S w w'

/-- The canvas is painted. -/
theorem FullM.paint {w w1 : World} {A B : Nat → Prop} {x : Nat} {st : St} (hw : Wf st) {d : Cv} {c : Nat} (h : FullM w A B x st d c) {sc mp : Nat} {blk : Int → Nat} {G : Int → Nat → Value} (hr : PRaw w A x st (ptrV c) sc mp blk G) (hold : d.old ≤ 4611686018427387904) (hb1 : Below w.heap.size w w1) (la : Option Addr) (ln lc : Nat) (hL : OwnL w1 w.heap.size (.slice la ln lc) st G (st.visAll (-1))) (i : Nat) (hi : i < d.bufs.length) (V0 : World) (hV0 : Below w1.heap.size w1 V0) :
    Calls Tryz.prog 40 #[.pointer (some ⟨c, 0, none⟩), .int .i64 i, .agg #[.slice la ln lc]] V0 fun e w' => ∃ (rv : Value) (O : Rgn), e = .returned (.agg #[rv, .int .i64 (laidL (fun x y => (st.picL (st.visAll (-1)) x y).2) (rc O) (rc O).length)]) ∧ Good O ∧ (∀ x y, memR O x y = d.stale d.bufs[i].age x y) ∧ OwnR w' w.heap.size rv (rc O) ∧
      FullM w' A B x st (d.painted i (paintL d.W (rc O) (fun x y => (st.picL (st.visAll (-1)) x y).1) d.bufs[i].f)) c ∧ Only B V0 w' := by
  have hd := h.ok
  have hW := hd.w1
  have hH := hd.h1
  have hbV : Below w.heap.size w V0 := hb1.trans (hV0.mono hb1.size)
  have hm := h.keep hbV.size fun g _ hg => hbV.block g hg
  obtain ⟨bv, rg, dv, hc⟩ := hm.cv
  have hpos : 0 < d.bufs.length := by omega
  obtain ⟨bg, cap, rfl, hbgS, _⟩ := hc.row.open hpos
  have hgB : B d.bufs[i].g := (hc.pix _ (List.getElem_mem hi)).1
  have hLV : OwnL V0 w.heap.size (.slice la ln lc) st G (st.visAll (-1)) := own_keep hL fun g hg => hV0.block g (hL.lt g hg).2
  obtain ⟨pcur, hpc, _⟩ := (hc.pix _ (List.getElem_mem hi)).2
  have hlen := visAll_len hw (live_top st)
  refine (paintC_any hc hm.lb hd hold i hi la ln lc (fun x y => (st.picL (st.visAll (-1)) x y).1) (fun x y => (st.picL (st.visAll (-1)) x y).2) (fun x y => ?_) (fun V x y hV hx hy => ?_)).mono ?_
  · have := picU_ok st x y (st.unh (st.visAll (-1)) x y)
    have hu : (st.unh (st.visAll (-1)) x y).length ≤ (st.visAll (-1)).length := by
      unfold St.unh
      rw [List.length_drop]
      omega
    unfold St.picL
    omega
  · have hrV : PRaw V A _ st (ptrV c) sc mp blk G := (hr.below hbV).keep fun g hg hl => hV.block g hl fun e => h.ap g hg (e ▸ hgB)
    have hLV2 : OwnL V w.heap.size (.slice la ln lc) st G (st.visAll (-1)) := own_keep hLV fun g hg => by
      obtain ⟨cur, hcur⟩ := own_type hLV hg
      refine hV.block g (hLV.lt g hg).2 fun e => ?_
      rw [e] at hcur
      have := hcur.symm.trans hpc
      simp at this
    refine picAt_any hw hLV2.at (fun j hj => ?_) (by omega) x y (by omega) (by omega)
    have hjo := visAll_sub hw (live_top st) hj
    have dd := hrV.data j hjo
    exact ⟨hw.lt hjo, dd.pix.keepS (fun _ _ => trivial) fun _ _ _ _ => rfl, dd.kept.keepS (fun _ _ => trivial) fun _ _ _ _ => rfl⟩
  · rintro e w' ⟨rv, O, rfl, hG, hM, hrv, ⟨dv', hc'⟩, ho⟩
    have hsz := hbV.size
    have hs3 := ho.size
    have hoB : ∀ g, CvS c bg rg g ∨ g = d.bufs[i].g → B g := fun g hg => by
      rcases hg with (rfl | rfl | rfl) | rfl
      · exact hc.own
      · exact hbgS
      · exact hc.rown
      · exact hgB
    refine ⟨rv, O, rfl, hG, hM, hrv.lower hsz, ⟨?_, ⟨_, rg, dv', hc'⟩, painted_ok hd i _, h.dw, h.dh, fun g hg => Nat.lt_of_lt_of_le (hm.la g hg) hs3, fun g hg => Nat.lt_of_lt_of_le (hm.lb g hg) hs3, h.ap⟩, ho.mono fun g _ hg => hoB g hg⟩
    exact hm.pane.keep fun g hg hl => ho.block g hl fun e => h.ap g hg (hoB g e)

end Go.Proofs.YtofinpocigbbeaaGreat

namespace Go.Proofs.YtofinpocigbbeaaGreat
open Go.RowKit
attribute [local go_sem ↓] Go.wp_at_zero Go.wp_at_succ

/-- The screen's cells. -/
theorem FullM.cells {w : World} {A B : Nat → Prop} {x : Nat} {st : St} {d : Cv} {c : Nat} (h : FullM w A B x st d c) : w.cell? ⟨x, 1, none⟩ = some (.pointer (some ⟨c, 0, none⟩)) ∧ x < w.heap.size := by
  obtain ⟨sc, mp, blk, G, hr⟩ := h.pane
  exact ⟨hr.scrCells.2.1, hr.scrCells.2.2⟩

theorem FullM.has {w : World} {A B : Nat → Prop} {x : Nat} {st : St} {d : Cv} {c : Nat} (h : FullM w A B x st d c) (i : Int) (V : World) (hV : Below w.heap.size w V) : Calls Tryz.prog 39 #[.pointer (some ⟨c, 0, none⟩), .int .i64 i] V fun e w' => e = .returned (.bool (decide (0 ≤ i ∧ i < d.bufs.length))) ∧ w' = V := by
  have hm := h.keep hV.size fun g _ hg => hV.block g hg
  obtain ⟨bv, rg, dv, hc⟩ := hm.cv
  have := h.ok.n
  obtain ⟨bg, cap, rfl, _⟩ := hc.row.open (by omega)
  exact has_any hc i

theorem cells_two {w' : World} {x b : Nat} (hne : ¬ x = b) {u v : Value} (h : w'.cell? ⟨x, 0, none⟩ = some u ∧ w'.cell? ⟨x, 1, none⟩ = some v) (p q : Value) : ((w'.setCell ⟨b, 0, none⟩ p).setCell ⟨b, 1, none⟩ q).cell? ⟨x, 0, none⟩ = some u ∧ ((w'.setCell ⟨b, 0, none⟩ p).setCell ⟨b, 1, none⟩ q).cell? ⟨x, 1, none⟩ = some v := by
  have e : ((w'.setCell ⟨b, 0, none⟩ p).setCell ⟨b, 1, none⟩ q).heap[x]? = w'.heap[x]? := by
    rw [heap_setCell_other _ ⟨b, 1, none⟩ x _ hne, heap_setCell_other _ ⟨b, 0, none⟩ x _ hne]
  rw [World.cell?_of_block (w := w') (a := ⟨x, 0, none⟩) e, World.cell?_of_block (w := w') (a := ⟨x, 1, none⟩) e]
  exact h

/-- Nothing is painted: there is no such buffer. -/
def RpNo (w : World) (e : Ending) (w' : World) : Prop := e = .returned (.tuple #[.agg #[.slice none 0 0, .int .i64 0], .int .i64 10]) ∧ Below w.heap.size w w'

set_option maxRecDepth 100000 in
set_option maxHeartbeats 1000000 in
theorem fuRepaint_no {S : Nat → Prop} {x : Nat} {st : St} {d : Cv} (i : Int) (hi : ¬ (0 ≤ i ∧ i < d.bufs.length)) (w : World) (h : FullC w S x st d) :
    Calls Tryz.prog 14 #[.pointer (some ⟨x, 0, none⟩), .int .i64 i] w (RpNo w) := by
  obtain ⟨A, B, c, h1, h2, h3⟩ := h
  obtain ⟨x1, xl⟩ := h1.cells
  have hxn : ¬ x = w.heap.size := Nat.ne_of_lt xl
  have HH := hide (h1.has i)
  have hdc : decide (0 ≤ i ∧ i < d.bufs.length) = false := decide_eq_false hi
  rw [hdc] at HH
  clear h1 h2 h3 hi hdc
  go_enter Tryz.func14, Tryz.ntmps14
  go_wp2_with (go_at_call 39; refine (HH.out _ ((Below.refl _ _).alloc (Nat.le_refl _) _)).mono ?_; rintro e w1 ⟨rfl, hw1⟩; replace hw1 := hw1.symm; subst hw1)
  exact bodyPost_ret (v := .tuple #[.agg #[.slice none 0 0, .int .i64 0], .int .i64 10]) (by simp [results, Tryz.results14, go_sem]) rfl ⟨rfl, (Below.refl _ _).alloc (Nat.le_refl _) _⟩

set_option maxRecDepth 100000 in
set_option maxHeartbeats 1000000 in
theorem fuRepaint_any {S : Nat → Prop} {x : Nat} {st : St} (hw : Wf st) {d : Cv} (i : Nat) (hi : i < d.bufs.length) (hold : d.old ≤ 4611686018427387904) (w : World) (h : FullC w S x st d) :
    Calls Tryz.prog 14 #[.pointer (some ⟨x, 0, none⟩), .int .i64 i] w (RpPost S x st d i w) := by
  obtain ⟨A, B, c, h1, h2, h3⟩ := h
  obtain ⟨x1, xl⟩ := h1.cells
  have hxn : ¬ x = w.heap.size := Nat.ne_of_lt xl
  have hn3 := h1.ok.n
  have hi3 : (i : Int) < 3 := by omega
  obtain ⟨sc, mp, blk, G, hr⟩ := h1.pane
  have HH := hide (h1.has i)
  have hdc : decide (0 ≤ (i : Int) ∧ (i : Int) < d.bufs.length) = true := decide_eq_true (by omega)
  rw [hdc] at HH
  have HX : Hid (∀ V : World, Below w.heap.size w V → V.cell? ⟨x, 0, none⟩ = some (.pointer (some ⟨sc, 0, none⟩)) ∧ V.cell? ⟨x, 1, none⟩ = some (.pointer (some ⟨c, 0, none⟩))) := fun V hV => let q := (hr.below hV).scrCells; ⟨q.1, q.2.1⟩
  obtain ⟨W0, hW0⟩ : ∃ W0, W0 = w.alloc (.cells #[.slice none 0 0, .int .i64 0] 35) := ⟨_, rfl⟩
  have hB0 : Below w.heap.size w W0 := by rw [hW0]; exact (Below.refl _ _).alloc (Nat.le_refl _) _
  have hk0 : Blk W0 w.heap.size 35 #[.slice none 0 0, .int .i64 0] := by rw [hW0]; exact heap_alloc_new w _
  have HP : Hid (∀ V : World, Below W0.heap.size W0 V → Calls Tryz.prog 41 #[.pointer (some ⟨sc, 0, none⟩)] V fun e w1 => ∃ a n q, e = .returned (.agg #[.slice a n q]) ∧ (Below W0.heap.size W0 w1) ∧ ∀ V2 : World, Below w1.heap.size w1 V2 → Calls Tryz.prog 40 #[.pointer (some ⟨c, 0, none⟩), .int .i64 i, .agg #[.slice a n q]] V2 fun e w' => ∃ (ra : Option Addr) (rn rq : Nat) (z : Int), e = .returned (.agg #[.slice ra rn rq, .int .i64 z]) ∧ (w'.cell? ⟨x, 0, none⟩ = some (.pointer (some ⟨sc, 0, none⟩)) ∧ w'.cell? ⟨x, 1, none⟩ = some (.pointer (some ⟨c, 0, none⟩))) ∧ (Blk w' w.heap.size 35 #[.slice none 0 0, .int .i64 0]) ∧
      ∀ w2 : World, w'.heap.size ≤ w2.heap.size → Only (fun g => g = w.heap.size) w' w2 → RpPost S x st d i w (.returned (.tuple #[.agg #[.slice ra rn rq, .int .i64 z], .int .i64 0])) w2) := fun V hV => by
    have hbV : Below w.heap.size w V := hB0.trans (hV.mono hB0.size)
    refine (scPicture_any (st := st) (G := G) (blk := blk) (hr.below hbV).sceCells.1 fun V2 hV2 => ((hr.below hbV).below hV2).lays hw (live_top st)).mono ?_
    rintro e w1 ⟨a, n, q, rfl, hL, hb1⟩
    have hb01 : Below W0.heap.size W0 w1 := hV.trans (hb1.mono hV.size)
    have hs := hbV.size
    refine ⟨a, n, q, rfl, hb01, fun V2 hV2 => ?_⟩
    have hL' : OwnL w1 w.heap.size (.slice a n q) st G (st.visAll (-1)) := ⟨hL.1, hL.2.imp id fun ⟨g, cap, cur, e1, e2, e3⟩ => ⟨g, cap, cur, e1, by omega, e3⟩⟩
    refine (h1.paint hw hr hold (hbV.trans (hb1.mono hs)) a n q hL' i hi V2 hV2).mono ?_
    rintro e w' ⟨rv, O, rfl, hG, hM, hrv, hfm, ho⟩
    obtain ⟨ra, rq, hrf⟩ := hrv.form
    subst hrf
    have hbV2 : Below W0.heap.size W0 V2 := hb01.trans (hV2.mono hb01.size)
    have hbw2 : Below w.heap.size w V2 := hB0.trans (hbV2.mono hB0.size)
    have hnB : ∀ g, w.heap.size ≤ g → ¬ B g := fun g hg hb => by have := h1.lb g hb; omega
    have hkB : Blk w' w.heap.size 35 #[.slice none 0 0, .int .i64 0] := by
      have e1 : Blk V2 w.heap.size 35 #[.slice none 0 0, .int .i64 0] := hk0.keep (hbV2.block _ (block_lt hk0))
      exact e1.keep (ho.block _ (block_lt e1) (hnB _ (Nat.le_refl _)))
    refine ⟨ra, _, rq, _, rfl, ?_, hkB, fun w2 hsz hk2 => ?_⟩
    · have k := (hr.below hbw2).scrCells
      have ex : w'.heap[x]? = V2.heap[x]? := ho.block x k.2.2 fun hb => h1.ap x hr.own.1 hb
      rw [World.cell?_of_block (w := V2) (a := ⟨x, 0, none⟩) ex, World.cell?_of_block (w := V2) (a := ⟨x, 1, none⟩) ex]
      exact ⟨k.1, k.2.1⟩
    · have hs2 := hbw2.size
      have hs3 := ho.size
      have hOw : Only S w w' := (Only.below hbw2).trans (ho.mono fun g _ hg => .inl (h3 g hg))
      refine ⟨hi, _, O, rfl, hG, hM, ⟨own_keep hrv.1 fun g hg => hk2.block g (hrv.1.lt g hg).2 fun e2 => ?_, hrv.2⟩, ⟨A, B, c, hfm.keep hsz fun g hg hl => hk2.block g hl fun e2 => ?_, fun g hg => .inl (h2 g hg), fun g hg => .inl (h3 g hg)⟩, hOw.trans (hk2.mono fun g _ hg => ?_)⟩
      · obtain ⟨cur, hcur⟩ := own_type hrv.1 hg
        rw [e2] at hcur
        have := hcur.symm.trans hkB
        simp at this
      · have : g < w.heap.size := hg.elim (h1.la g) (h1.lb g)
        omega
      · rw [hg]
        exact .inr ⟨Nat.le_refl _, block_lt hkB⟩
  have HE0 : Hid (Below W0.heap.size W0 W0) := Below.refl _ _
  have hb0 := hB0
  rw [hW0] at HP HE0 hb0
  have hx1n : x < w.heap.size := xl
  clear h1 h2 h3 hr hdc hW0 hB0 hk0 hold hi hn3
  go_enter Tryz.func14, Tryz.ntmps14
  go_upto_region 3 with (go_at_call 39; refine (HH.out _ ((Below.refl _ _).alloc (Nat.le_refl _) _)).mono ?_; rintro e w1 ⟨rfl, hw1⟩; replace hw1 := hw1.symm; subst hw1)
  clear x1
  go_region_held3 (fun w' => w'.cell? ⟨x, 0, none⟩ = some (.pointer (some ⟨sc, 0, none⟩)) ∧ w'.cell? ⟨x, 1, none⟩ = some (.pointer (some ⟨c, 0, none⟩)))
    (first
      | (refine HX.out _ ?_; (repeat (first | with_reducible exact Below.refl _ _ | with_reducible exact HB1.out | with_reducible refine Below.drew ?_ | with_reducible refine Below.alloc ?_ (by first | omega | (simp <;> omega)) _)); done)
      | exact HZ.out
      | exact HZ2.out _ _
      | fail)
    (first
      | (go_at_call 41; refine (HP.out _ ?_).mono ?_; (repeat (first | with_reducible exact Below.refl _ _ | with_reducible refine Below.drew ?_)); rintro e w1 ⟨pa, pn, pq, rfl, hb1, hpt⟩; have HB1 := hide (hb0.trans (hb1.mono hb0.size)); have HPt := hide hpt; clear hb1 hpt)
      | (go_at_call 40; refine (HPt.out _ ?_).mono ?_; (repeat (first | with_reducible exact Below.refl _ _ | with_reducible refine Below.drew ?_)); rintro e w2 ⟨ra, rn, rq, z, rfl, hz, hbk, hen⟩; have HZ := hide hz; have HZ2 := hide (cells_two hxn hz); have HK := hide hbk; have c0 := hbk.cell 0; have c1 := hbk.cell 1; have f0 := hbk.has.free 0; have f1 := hbk.has.free 1; simp only [List.getElem?_toArray, List.getElem?_cons_zero, List.getElem?_cons_succ] at c0 c1; have HN := hide hen; clear hen hz hbk)
      | fail)
  all_goals go_wp2_with fail
  all_goals
    have hk := HK.out
    have h4 := (hk.set 0 (.slice ra rn rq)).set 1 (.int .i64 z)
    have e0 : ((w2.setCell ⟨w.heap.size, 0, none⟩ (.slice ra rn rq)).setCell ⟨w.heap.size, 1, none⟩ (.int .i64 z)).cell? ⟨w.heap.size, 0, none⟩ = some (.slice ra rn rq) := h4.cell 0
    have e1 : ((w2.setCell ⟨w.heap.size, 0, none⟩ (.slice ra rn rq)).setCell ⟨w.heap.size, 1, none⟩ (.int .i64 z)).cell? ⟨w.heap.size, 1, none⟩ = some (.int .i64 z) := h4.cell 1
    exact bodyPost_ret (v := .tuple #[.agg #[.slice ra rn rq, .int .i64 z], .int .i64 0]) (by simp [results, Tryz.results14, go_sem, e0, e1]) rfl (HN.out _ (by simp) (by refine Only.set (Only.set (Only.refl _ _) (.inl ?_) _) (.inl ?_) _ <;> rfl))

end Go.Proofs.YtofinpocigbbeaaGreat
