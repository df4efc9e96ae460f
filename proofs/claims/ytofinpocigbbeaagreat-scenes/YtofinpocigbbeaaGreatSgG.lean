import Derived.Test.YtofinpocigbbeaaGreatRefD
import Derived.Test.YtofinpocigbbeaaGreatSceD
import Derived.Test.YtofinpocigbbeaaGreatSgP
import Derived.Laws.MakeOwn
import Derived.Laws.StructEq
import Derived.Deep.OwnRows
import Derived.Deep.RegionLaw
/-! RefE -/
namespace Go.Proofs.YtofinpocigbbeaaGreat
open Go.RowKit
attribute [local go_sem ↓] Go.wp_at_zero Go.wp_at_succ

/-- What a call on the document's screen leaves. -/
def RPost (S : Nat → Prop) (c : Nat) (p : Int × St) (w : World) (e : Ending) (w' : World) : Prop := e = .returned (.int .i64 p.1) ∧ RefOk w' (grow S w w') c p.2 ∧ Only S w w'

theorem RPost.same {S : Nat → Prop} {c : Nat} {st : St} {w w' : World} {er : Int} (h : RefOk w S c st) (hb : Below w.heap.size w w') : RPost S c (er, st) w (.returned (.int .i64 er)) w' :=
  ⟨rfl, (h.keep fun g _ hg => hb.block g hg).mono fun _ hg => grow_self hg, Only.below hb⟩

theorem RefOk.of_upd {w w' : World} {S S' : Nat → Prop} {c : Nat} {st : St} {bv sv ov : Value} {F F' : Nat → Nat → Value} {i : Nat} {gf : Sf → Sf} (hr : RRaw w' S' c st.w st.h st.sfs.length st.order bv sv ov F') (hi : i < st.sfs.length) (hs : RSem w S st F) (hF : ∀ j, j ≠ i → F' j = F j)
    (hS : ∀ g, S g → S' g) (hpk : ∀ (b : Nat) (cur : Array Value), w.heap[b]? = some (.cells cur 51 (0, 0)) → w'.heap[b]? = w.heap[b]?) (hc : SfCells (F' i) (gf (st.sf i))) (hN : PixRow w' S' (F' i 4) ((gf (st.sf i)).now.w * (gf (st.sf i)).now.h)) (hX : PixRow w' S' (F' i 15) ((gf (st.sf i)).next.w * (gf (st.sf i)).next.h)) : RefOk w' S' c (upd st i gf) := by
  refine ⟨bv, sv, ov, F', by have h9 := hr; rw [← upd_len st i gf] at h9; exact h9, fun j hj => ?_, fun j hj => ?_, fun j hj => ?_⟩
  · rw [upd_len] at hj
    rw [upd_sf st i gf j hi]
    by_cases e : j = i
    · subst e; rw [if_pos rfl]; exact hc
    · rw [if_neg e, hF j e]; exact hs.rel j hj
  · rw [upd_len] at hj
    rw [upd_sf st i gf j hi]
    by_cases e : j = i
    · subst e; rw [if_pos rfl]; exact hN
    · rw [if_neg e, hF j e]; exact ((hs.pixN j hj).mono hS).other hpk
  · rw [upd_len] at hj
    rw [upd_sf st i gf j hi]
    by_cases e : j = i
    · subst e; rw [if_pos rfl]; exact hX
    · rw [if_neg e, hF j e]; exact ((hs.pixX j hj).mono hS).other hpk

theorem pk_set {w w' : World} {g j : Nat} {u : Value} {cur : Array Value} (hg : w.heap[g]? = some (.cells cur 214 (0, 0))) (h : ∀ (b : Nat) (c : Array Value), w.heap[b]? = some (.cells c 51 (0, 0)) → w'.heap[b]? = w.heap[b]?) : ∀ (b : Nat) (c : Array Value), w.heap[b]? = some (.cells c 51 (0, 0)) → (w'.setCell ⟨g, j, none⟩ u).heap[b]? = w.heap[b]? := fun b c hb => by
  rw [heap_setCell_other w' ⟨g, j, none⟩ b u (ne_of_type hb hg (by decide))]
  exact h b c hb

set_option maxRecDepth 100000 in
set_option maxHeartbeats 1000000 in
/-- (*Screen).Offset -/
theorem refOffset_any {S : Nat → Prop} {c : Nat} {st : St} (hw : Wf st) (id x y : Int) (w : World) (h : RefOk w S c st) :
    Calls Tryz.prog 144 #[.pointer (some ⟨c, 0, none⟩), .int .i64 id, .int .i64 x, .int .i64 y] w (RPost S c (opOffset st id x y) w) := by
  have hIs := is_any (S := S) (c := c) (st := st) id w h hw.made
  have hB := isB_iff hw id
  have HE6 := hide (RPost.same (er := 6) h (Below.refl _ _))
  have HE7 := hide (RPost.same (er := 7) h (Below.refl _ _))
  unfold opOffset
  obtain ⟨t, ht⟩ : ∃ t, st.isB id = t := ⟨_, rfl⟩
  rw [ht] at hIs hB ⊢
  cases t with
  | false =>
    rw [if_neg (by simp)]
    clear hB h
    go_enter Tryz.func144, Tryz.ntmps144
    go_wp2_with (go_at_call 127; refine hIs.mono ?_; rintro e w' ⟨rfl, hw'⟩; replace hw' := hw'.symm; subst hw')
    go_ret
    exact HE6.out
  | true =>
    rw [if_pos rfl]
    obtain ⟨i, rfl, hio⟩ := hB.1 rfl
    have hil := hw.lt hio
    rw [Int.toNat_natCast]
    obtain ⟨bv, sv, ov, F, hr, hs⟩ := h
    obtain ⟨k0, k1, k2, k3, k4, kf, kl⟩ := hr.cells
    obtain ⟨g, cap, e1, e2, e3, e4, e5, e6⟩ := hr.at (by omega)
    subst e1
    have c16 := e5 i hil 16 (by omega)
    have c17 := e5 i hil 17 (by omega)
    have f16 := e6 (i * 28 + 16)
    have f17 := e6 (i * 28 + 17)
    obtain ⟨_, cur, hcur⟩ := hr.gType
    have hne : ¬ c = g := ne_of_type hr.scr hcur (by decide)
    have hne2 : g ≠ c := fun e => hne e.symm
    have HOk : Hid (-1000 ≤ x ∧ x ≤ 1000 ∧ -1000 ≤ y ∧ y ≤ 1000 → RPost S c (0, upd st i (sfOff x y)) w (.returned (.int .i64 0)) ((w.setCell ⟨g, i * 28 + 16, none⟩ (.int .i64 x)).setCell ⟨g, i * 28 + 17, none⟩ (.int .i64 y))) := fun _ => by
      have hr2 := (hr.set hil (show 16 < 28 by omega) (.int .i64 x)).set hil (show 17 < 28 by omega) (.int .i64 y)
      have hpk := pk_set (j := i * 28 + 17) (u := .int .i64 y) hcur (pk_set (j := i * 28 + 16) (u := .int .i64 x) hcur (w' := w) fun _ _ _ => rfl)
      have q := hs.rel i hil
      refine ⟨rfl, RefOk.mono (RefOk.of_upd hr2 hil hs (fun j hj => by rw [upF_ne _ _ _ _ hj, upF_ne _ _ _ _ hj]) (fun _ h => h) hpk ?_ ?_ ?_) (fun _ h => grow_self h), ((Only.refl S w).set (.inl e2) _).set (.inl e2) _⟩
      · simp only [upF_at]
        exact ⟨q.alive, q.parent, q.nw, q.nh, q.nx, q.ny, q.ncut, q.n0, q.n1, q.n2, q.n3, q.nhint, q.xw, q.xh, rfl, rfl, q.xcut, q.x0, q.x1, q.x2, q.x3, q.xhint, q.ask, q.sib, q.above, q.kept⟩
      · simp only [upF_at]
        exact (hs.pixN i hil).other hpk
      · simp only [upF_at]
        exact (hs.pixX i hil).other hpk
    obtain ⟨n, hn⟩ : ∃ n, st.sfs.length = n := ⟨_, rfl⟩
    have hmd := hw.made
    rw [hn] at k3 e3 hmd
    have hin : i < n := by omega
    have hcap : i < cap := by omega
    have HIf : Hid (∀ (P : Ending → World → Prop) (Q : Int × St → Prop), True) := fun _ _ => trivial
    have HPost : Hid (∀ e w', (-1000 ≤ x ∧ x ≤ 1000 ∧ -1000 ≤ y ∧ y ≤ 1000 → RPost S c (0, upd st i (sfOff x y)) w e w') → (¬ (-1000 ≤ x ∧ x ≤ 1000 ∧ -1000 ≤ y ∧ y ≤ 1000) → RPost S c (7, st) w e w') → RPost S c (if -1000 ≤ x ∧ x ≤ 1000 ∧ -1000 ≤ y ∧ y ≤ 1000 then (0, upd st i (sfOff x y)) else (7, st)) w e w') := fun e w' h1 h2 => by
      split
      · rename_i h; exact h1 h
      · rename_i h; exact h2 h
    obtain ⟨post, hpost⟩ : ∃ P, P = RPost S c (if -1000 ≤ x ∧ x ≤ 1000 ∧ -1000 ≤ y ∧ y ≤ 1000 then (0, upd st i (sfOff x y)) else (7, st)) w := ⟨_, rfl⟩
    rw [← hpost] at HPost ⊢
    clear hr hs kf hn e5 e6 hcur hil hB HIf hpost HE6
    go_enter Tryz.func144, Tryz.ntmps144
    go_wp2_with (go_at_call 127; refine hIs.mono ?_; rintro e w' ⟨rfl, hw'⟩; replace hw' := hw'.symm; subst hw')
    all_goals
      try go_ret
      refine HPost.out _ _ (fun hyes => ?_) (fun hno => ?_)
      · first
          | exact HOk.out hyes
          | (exfalso; omega)
      · first
          | exact HE7.out
          | (exfalso; omega)

end Go.Proofs.YtofinpocigbbeaaGreat

/-! RefF -/
namespace Go.Proofs.YtofinpocigbbeaaGreat
open Go.RowKit
attribute [local go_sem ↓] Go.wp_at_zero Go.wp_at_succ

/-- Five cells of a surface are written: cut, clip. -/
theorem RefOk.clip {w w2 : World} {S : Nat → Prop} {c : Nat} {st : St} {bv ov : Value} {F : Nat → Nat → Value} {g cap i : Nat} (hb : Below w.heap.size w w2) (hr : RRaw w2 S c st.w st.h st.sfs.length st.order bv (.slice (some ⟨g, 0, none⟩) st.sfs.length cap) ov F) (hs : RSem w2 S st F) (hi : i < st.sfs.length) (t : Bool) (a0 a1 a2 a3 : Int) (gf : Sf → Sf) (hg : gf (st.sf i) = { st.sf i with next := { (st.sf i).next with cut := t, clip := (a0, a1, a2, a3) } }) :
    RPost S c (0, upd st i gf) w (.returned (.int .i64 0)) (((((w2.setCell ⟨g, i * 28 + 18, none⟩ (.bool t)).setCell ⟨g, i * 28 + 19, none⟩ (.int .i64 a0)).setCell ⟨g, i * 28 + 20, none⟩ (.int .i64 a1)).setCell ⟨g, i * 28 + 21, none⟩ (.int .i64 a2)).setCell ⟨g, i * 28 + 22, none⟩ (.int .i64 a3)) := by
  obtain ⟨e2, cur, hcur⟩ := hr.gType
  have hr2 := ((((hr.set hi (show 18 < 28 by omega) (.bool t)).set hi (show 19 < 28 by omega) (.int .i64 a0)).set hi (show 20 < 28 by omega) (.int .i64 a1)).set hi (show 21 < 28 by omega) (.int .i64 a2)).set hi (show 22 < 28 by omega) (.int .i64 a3)
  have hpk := pk_set (j := i * 28 + 22) (u := .int .i64 a3) hcur (pk_set (j := i * 28 + 21) (u := .int .i64 a2) hcur (pk_set (j := i * 28 + 20) (u := .int .i64 a1) hcur (pk_set (j := i * 28 + 19) (u := .int .i64 a0) hcur (pk_set (j := i * 28 + 18) (u := .bool t) hcur (w' := w2) fun _ _ _ => rfl))))
  have q := hs.rel i hi
  refine ⟨rfl, RefOk.mono (RefOk.of_upd hr2 hi hs (fun j hj => by simp only [upF_ne _ _ _ _ hj]) (fun _ h => h) hpk ?_ ?_ ?_) (fun _ h => grow_self h), ?_⟩
  · rw [hg]
    simp only [upF_at]
    exact ⟨q.alive, q.parent, q.nw, q.nh, q.nx, q.ny, q.ncut, q.n0, q.n1, q.n2, q.n3, q.nhint, q.xw, q.xh, q.xx, q.xy, rfl, rfl, rfl, rfl, rfl, q.xhint, q.ask, q.sib, q.above, q.kept⟩
  · rw [hg]
    simp only [upF_at]
    exact (hs.pixN i hi).other hpk
  · rw [hg]
    simp only [upF_at]
    exact (hs.pixX i hi).other hpk
  · have h0 : Only S w w2 := Only.below hb
    exact ((((h0.set (.inl e2) _).set (.inl e2) _).set (.inl e2) _).set (.inl e2) _).set (.inl e2) _

theorem RPost.drew {S : Nat → Prop} {c : Nat} {p : Int × St} {w w' : World} {e : Ending} (h : RPost S c p w e w') : RPost S c p w e w'.drew := ⟨h.1, h.2.1.keep fun _ _ _ => rfl, h.2.2.drew⟩

set_option maxRecDepth 100000 in
set_option maxHeartbeats 1000000 in
/-- (*Screen).Unclip -/
theorem refUnclip_any {S : Nat → Prop} {c : Nat} {st : St} (hw : Wf st) (id : Int) (w : World) (h : RefOk w S c st) :
    Calls Tryz.prog 146 #[.pointer (some ⟨c, 0, none⟩), .int .i64 id] w (RPost S c (opUnclip st id) w) := by
  have hIs := is_any (S := S) (c := c) (st := st) id w h hw.made
  have hB := isB_iff hw id
  have HE6 := hide (RPost.same (er := 6) h (Below.refl _ _))
  unfold opUnclip
  obtain ⟨t, ht⟩ : ∃ t, st.isB id = t := ⟨_, rfl⟩
  rw [ht] at hIs hB ⊢
  cases t with
  | false =>
    rw [if_neg (by simp)]
    clear hB h
    go_enter Tryz.func146, Tryz.ntmps146
    go_wp2_with (go_at_call 127; refine hIs.mono ?_; rintro e w' ⟨rfl, hw'⟩; replace hw' := hw'.symm; subst hw')
    go_ret
    exact HE6.out
  | true =>
    rw [if_pos rfl]
    obtain ⟨i, rfl, hio⟩ := hB.1 rfl
    have hil := hw.lt hio
    rw [Int.toNat_natCast]
    obtain ⟨bv, sv, ov, F, hr, hs⟩ := h
    obtain ⟨k0, k1, k2, k3, k4, kf, kl⟩ := hr.cells
    obtain ⟨g, cap, e1, e2, e3, e4, e5, e6⟩ := hr.at (by omega)
    subst e1
    have c18 := e5 i hil 18 (by omega)
    have c19 := e5 i hil 19 (by omega)
    have c20 := e5 i hil 20 (by omega)
    have c21 := e5 i hil 21 (by omega)
    have c22 := e5 i hil 22 (by omega)
    have f18 := e6 (i * 28 + 18)
    have f19 := e6 (i * 28 + 19)
    have f20 := e6 (i * 28 + 20)
    have f21 := e6 (i * 28 + 21)
    have f22 := e6 (i * 28 + 22)
    obtain ⟨_, cur, hcur⟩ := hr.gType
    have hne : ¬ c = g := ne_of_type hr.scr hcur (by decide)
    have hne2 : g ≠ c := fun e => hne e.symm
    have HOk := hide (RefOk.clip (Below.refl _ _) hr hs hil false 0 0 0 0 sfUnclip rfl)
    obtain ⟨n, hn⟩ : ∃ n, st.sfs.length = n := ⟨_, rfl⟩
    have hmd := hw.made
    rw [hn] at k3 e3 hmd
    have hin : i < n := by omega
    have hcap : i < cap := by omega
    clear hr hs kf hn e5 e6 hcur hil hB HE6
    go_enter Tryz.func146, Tryz.ntmps146
    go_wp2_with (go_at_call 127; refine hIs.mono ?_; rintro e w' ⟨rfl, hw'⟩; replace hw' := hw'.symm; subst hw')
    go_ret
    exact HOk.out

set_option maxRecDepth 100000 in
set_option maxHeartbeats 1000000 in
/-- (*Screen).Clip -/
theorem refClip_any {S : Nat → Prop} {c : Nat} {st : St} (hw : Wf st) (id a0 a1 a2 a3 : Int) (w : World) (h : RefOk w S c st) :
    Calls Tryz.prog 145 #[.pointer (some ⟨c, 0, none⟩), .int .i64 id, .agg #[.int .i64 a0, .int .i64 a1, .int .i64 a2, .int .i64 a3]] w (RPost S c (opClip st id (a0, a1, a2, a3) (fitR (a0, a1, a2, a3))) w) := by
  have hb0 := fun o => al1 (Nat.le_refl w.heap.size) o
  have HIs := hide (fun W (hW : Below w.heap.size w W) => is_any (S := S) (c := c) (st := st) id W (h.keep fun g _ hg => hW.block g hg) hw.made)
  have hB := isB_iff hw id
  have HE := hide (fun er W (hW : Below w.heap.size w W) => RPost.same (er := er) h hW)
  have HFt := hide (fun W => refFits_any a0 a1 a2 a3 W)
  unfold opClip
  obtain ⟨t, ht⟩ : ∃ t, st.isB id = t := ⟨_, rfl⟩
  obtain ⟨ft, hft⟩ : ∃ t, fitR (a0, a1, a2, a3) = t := ⟨_, rfl⟩
  rw [ht] at HIs hB ⊢
  rw [hft] at HFt ⊢
  clear ht hft
  cases t with
  | false =>
    rw [if_neg (by simp)]
    clear hB h
    go_enter Tryz.func145, Tryz.ntmps145
    go_wp2_with (go_at_call 127; refine (HIs.out _ (hb0 _)).mono ?_; rintro e w' ⟨rfl, hw'⟩; replace hw' := hw'.symm; subst hw')
    go_ret
    exact HE.out 6 _ (hb0 _)
  | true =>
    rw [if_pos rfl]
    obtain ⟨i, rfl, hio⟩ := hB.1 rfl
    have hil := hw.lt hio
    rw [Int.toNat_natCast]
    cases ft with
    | false =>
      rw [if_neg (by simp)]
      clear hB h hil hio
      go_enter Tryz.func145, Tryz.ntmps145
      go_wp2_with (first
        | (go_at_call 127; refine (HIs.out _ (hb0 _)).mono ?_; rintro e w' ⟨rfl, hw'⟩; replace hw' := hw'.symm; subst hw')
        | (go_at_call 174; refine (HFt.out _).mono ?_; rintro e w2 ⟨rfl, hb2⟩; have HB2 := hide ((hb0 _).trans (hb2.mono (by simp))); clear hb2))
      go_ret
      exact HE.out 3 _ HB2.out
    | true =>
      rw [if_pos rfl]
      obtain ⟨bv, sv, ov, F, hr, hs⟩ := h
      obtain ⟨g, cap, e1, e2, e3, e4, e5, e6⟩ := hr.at (by omega)
      subst e1
      obtain ⟨_, cur, hcur⟩ := hr.gType
      have hne : ¬ c = g := ne_of_type hr.scr hcur (by decide)
      have hne2 : g ≠ c := fun e => hne e.symm
      have hcl := (Array.getElem?_eq_some_iff.1 hr.scr).1
      have HOk : Hid (∀ w2, Below w.heap.size w w2 → RPost S c (0, upd st i (sfClip (a0, a1, a2, a3))) w (.returned (.int .i64 0)) (((((w2.setCell ⟨g, i * 28 + 18, none⟩ (.bool true)).setCell ⟨g, i * 28 + 19, none⟩ (.int .i64 a0)).setCell ⟨g, i * 28 + 20, none⟩ (.int .i64 a1)).setCell ⟨g, i * 28 + 21, none⟩ (.int .i64 a2)).setCell ⟨g, i * 28 + 22, none⟩ (.int .i64 a3))) := fun w2 hb => RefOk.clip hb (hr.below hb) (hs.below hb) hil true a0 a1 a2 a3 (sfClip (a0, a1, a2, a3)) rfl
      obtain ⟨n, hn⟩ : ∃ n, st.sfs.length = n := ⟨_, rfl⟩
      have hmd := hw.made
      have HC : Hid (∀ W, Below w.heap.size w W → W.cell? ⟨c, 3, none⟩ = some (.slice (some ⟨g, 0, none⟩) n cap) ∧ (∀ o, o < 28 → W.cell? ⟨g, i * 28 + o, none⟩ = some (F i o)) ∧ ∀ j, W.frozen? ⟨g, j, none⟩ = false) := fun W hW => by
        have r2 := hr.below hW
        obtain ⟨k0, k1, k2, k3, k4, kf, kl⟩ := r2.cells
        obtain ⟨g', cap', q1, q2, q3, q4, q5, q6⟩ := r2.at (by omega)
        injection q1 with q11 q12 q13
        injection q11 with q11
        injection q11 with q11
        subst q11
        rw [hn] at k3
        exact ⟨k3, fun o ho => q5 i hil o ho, q6⟩
      rw [hn] at e3 hmd
      have hin : i < n := by omega
      have hcap : i < cap := by omega
      clear hr hs hn e5 e6 hcur hil hB HE
      go_enter Tryz.func145, Tryz.ntmps145
      go_upto_region 7 with (first
        | (go_at_call 127; refine (HIs.out _ (hb0 _)).mono ?_; rintro e w' ⟨rfl, hw'⟩; replace hw' := hw'.symm; subst hw')
        | (go_at_call 174; refine (HFt.out _).mono ?_; rintro e w2 ⟨rfl, hb2⟩; have HR2 := hide (hb2.block w.heap.size (by simp)); have HB2 := hide ((hb0 _).trans (hb2.mono (by simp))); have hs2 := hb2.size; clear hb2))
      obtain ⟨k3, kc, kf⟩ := HC.out w2 HB2.out
      have c18 := kc 18 (by omega)
      have c19 := kc 19 (by omega)
      have c20 := kc 20 (by omega)
      have c21 := kc 21 (by omega)
      have c22 := kc 22 (by omega)
      have f18 := kf (i * 28 + 18)
      have f19 := kf (i * 28 + 19)
      have f20 := kf (i * 28 + 20)
      have f21 := kf (i * 28 + 21)
      have f22 := kf (i * 28 + 22)
      have hbr : Blk w2 w.heap.size 53 #[.int .i64 a0, .int .i64 a1, .int .i64 a2, .int .i64 a3] := HR2.out.trans (heap_alloc_new w _)
      have r0 : w2.cell? ⟨w.heap.size, 0, none⟩ = some (.int .i64 a0) := hbr.cell 0
      have r1 : w2.cell? ⟨w.heap.size, 1, none⟩ = some (.int .i64 a1) := hbr.cell 1
      have r2 : w2.cell? ⟨w.heap.size, 2, none⟩ = some (.int .i64 a2) := hbr.cell 2
      have r3 : w2.cell? ⟨w.heap.size, 3, none⟩ = some (.int .i64 a3) := hbr.cell 3
      have hgr : g ≠ w.heap.size := by omega
      have hgr2 : ¬ w.heap.size = g := by omega
      clear kc kf hbr
      go_upto_region 8 with fail
      go_region
      all_goals
        go_wp2
        go_ret
        exact (HOk.out w2 HB2.out).drew

end Go.Proofs.YtofinpocigbbeaaGreat

/-! RefG -/
namespace Go.Proofs.YtofinpocigbbeaaGreat
open Go.RowKit
attribute [local go_sem ↓] Go.wp_at_zero Go.wp_at_succ

theorem RPost.drewN {S : Nat → Prop} {c : Nat} {p : Int × St} {w w' : World} {e : Ending} (h : RPost S c p w e w') (n : Nat) : RPost S c p w e (w'.drewN n) := ⟨h.1, h.2.1.keep fun _ _ _ => rfl, h.2.2.drewN n⟩

set_option maxRecDepth 100000 in
set_option maxHeartbeats 1000000 in
/-- (*Screen).Stack -/
theorem refStack_any {S : Nat → Prop} {c : Nat} {st : St} (hw : Wf st) (id sb : Int) (ab : Bool) (w : World) (h : RefOk w S c st) :
    Calls Tryz.prog 148 #[.pointer (some ⟨c, 0, none⟩), .int .i64 id, .int .i64 sb, .bool ab] w (RPost S c (opStack st id sb ab) w) := by
  have hI1 := is_any (S := S) (c := c) (st := st) id w h hw.made
  have hI2 := is_any (S := S) (c := c) (st := st) sb w h hw.made
  have hB1 := isB_iff hw id
  have hB2 := isB_iff hw sb
  have HE := hide (fun er W (hW : Below w.heap.size w W) => RPost.same (er := er) h hW)
  unfold opStack
  obtain ⟨t1, ht1⟩ : ∃ t, st.isB id = t := ⟨_, rfl⟩
  obtain ⟨t2, ht2⟩ : ∃ t, st.isB sb = t := ⟨_, rfl⟩
  rw [ht1] at hI1 hB1 ⊢
  rw [ht2] at hI2 hB2 ⊢
  have htt : id = sb → t1 = t2 := fun e => by rw [← ht1, ← ht2, e]
  clear ht1 ht2
  by_cases hbo : t1 = true ∧ t2 = true
  · rw [if_pos hbo]
    obtain ⟨rfl, rfl⟩ := hbo
    obtain ⟨i, rfl, hio⟩ := hB1.1 rfl
    obtain ⟨s, rfl, hso⟩ := hB2.1 rfl
    have hil := hw.lt hio
    have hsl := hw.lt hso
    rw [Int.toNat_natCast, Int.toNat_natCast]
    obtain ⟨bv, sv, ov, F, hr, hs⟩ := h
    obtain ⟨k0, k1, k2, k3, k4, kf, kl⟩ := hr.cells
    obtain ⟨g, cap, e1, e2, e3, e4, e5, e6⟩ := hr.at (by omega)
    subst e1
    have c1 := e5 i hil 1 (by omega)
    have d1 := e5 s hsl 1 (by omega)
    rw [(hs.rel i hil).parent] at c1
    rw [(hs.rel s hsl).parent] at d1
    have c24 := e5 i hil 24 (by omega)
    have c25 := e5 i hil 25 (by omega)
    have c26 := e5 i hil 26 (by omega)
    have f24 := e6 (i * 28 + 24)
    have f25 := e6 (i * 28 + 25)
    have f26 := e6 (i * 28 + 26)
    obtain ⟨_, cur, hcur⟩ := hr.gType
    have hne : ¬ c = g := ne_of_type hr.scr hcur (by decide)
    have hne2 : g ≠ c := fun e => hne e.symm
    have HOk : Hid (∀ n : Nat, RPost S c (0, upd st i (sfStack s ab)) w (.returned (.int .i64 0)) ((((w.drewN n).setCell ⟨g, i * 28 + 24, none⟩ (.bool true)).setCell ⟨g, i * 28 + 25, none⟩ (.int .i64 s)).setCell ⟨g, i * 28 + 26, none⟩ (.bool ab))) := fun n => by
      have hb : Below w.heap.size w (w.drewN n) := below_drewN (Below.refl _ _) n
      have hr' := hr.below hb
      have hs' := hs.below hb
      have hcur' : (w.drewN n).heap[g]? = some (.cells cur 214 (0, 0)) := hcur
      have hr2 := ((hr'.set hil (show 24 < 28 by omega) (.bool true)).set hil (show 25 < 28 by omega) (.int .i64 s)).set hil (show 26 < 28 by omega) (.bool ab)
      have hpk := pk_set (j := i * 28 + 26) (u := .bool ab) hcur' (pk_set (j := i * 28 + 25) (u := .int .i64 s) hcur' (pk_set (j := i * 28 + 24) (u := .bool true) hcur' (w' := w.drewN n) fun _ _ _ => rfl))
      have q := hs'.rel i hil
      refine ⟨rfl, RefOk.mono (RefOk.of_upd hr2 hil hs' (fun j hj => by simp only [upF_ne _ _ _ _ hj]) (fun _ h => h) hpk ?_ ?_ ?_) (fun _ h => grow_self h), (((Only.below hb).set (.inl e2) _).set (.inl e2) _).set (.inl e2) _⟩
      · simp only [upF_at]
        exact ⟨q.alive, q.parent, q.nw, q.nh, q.nx, q.ny, q.ncut, q.n0, q.n1, q.n2, q.n3, q.nhint, q.xw, q.xh, q.xx, q.xy, q.xcut, q.x0, q.x1, q.x2, q.x3, q.xhint, rfl, rfl, rfl, q.kept⟩
      · simp only [upF_at]
        exact (hs'.pixN i hil).other hpk
      · simp only [upF_at]
        exact (hs'.pixX i hil).other hpk
    obtain ⟨n, hn⟩ : ∃ n, st.sfs.length = n := ⟨_, rfl⟩
    have hmd := hw.made
    rw [hn] at k3 e3 hmd
    have hin : i < n := by omega
    have hsn : s < n := by omega
    have hcap : i < cap := by omega
    have hscap : s < cap := by omega
    have hinI : (i : Int) < (n : Int) := by omega
    have hsnI : (s : Int) < (n : Int) := by omega
    have hi0 : (0 : Int) ≤ (i : Int) := by omega
    have hs0 : (0 : Int) ≤ (s : Int) := by omega
    have HI1 := hide hI1
    have HI2 := hide hI2
    clear hr hs kf hn e5 e6 hcur hil hsl hB1 hB2 hI1 hI2
    by_cases his : (i : Int) = (s : Int)
    · rw [if_neg (fun hh => hh.1 his)]
      have hdec : decide ((i : Int) = (s : Int)) = true := by simpa using his
      have hbeq : ((i : Int) == (s : Int)) = true := by simpa using his
      go_enter Tryz.func148, Tryz.ntmps148
      go_upto_region 5 with (first
        | (go_at_call_of 127 (Value.int .i64 (i : Int)); refine HI1.out.mono ?_; rintro e w' ⟨rfl, hw'⟩; replace hw' := hw'.symm; subst hw')
        | (go_at_call 127; refine HI2.out.mono ?_; rintro e w' ⟨rfl, hw'⟩; replace hw' := hw'.symm; subst hw'))
      go_quiet (fail)
      go_wp2
      go_ret
      exact HE.out 8 _ (below_drewN (Below.refl _ _) _)
    · have hdec : decide ((i : Int) = (s : Int)) = false := by simpa using his
      have hbeq : ((i : Int) == (s : Int)) = false := by simpa using his
      by_cases hpp : (st.sf i).parent = (st.sf s).parent
      · rw [if_pos ⟨his, hpp⟩]
        rw [← hpp] at d1
        generalize (st.sf i).parent = P at *
        go_enter Tryz.func148, Tryz.ntmps148
        go_upto_region 5 with (first
          | (go_at_call_of 127 (Value.int .i64 (i : Int)); refine HI1.out.mono ?_; rintro e w' ⟨rfl, hw'⟩; replace hw' := hw'.symm; subst hw')
          | (go_at_call 127; refine HI2.out.mono ?_; rintro e w' ⟨rfl, hw'⟩; replace hw' := hw'.symm; subst hw'))
        go_quiet (fail)
        go_wp2
        go_ret
        exact HOk.out _
      · rw [if_neg (fun hh => hpp hh.2)]
        generalize (st.sf i).parent = P at *
        generalize (st.sf s).parent = Q at *
        go_enter Tryz.func148, Tryz.ntmps148
        go_upto_region 5 with (first
          | (go_at_call_of 127 (Value.int .i64 (i : Int)); refine HI1.out.mono ?_; rintro e w' ⟨rfl, hw'⟩; replace hw' := hw'.symm; subst hw')
          | (go_at_call 127; refine HI2.out.mono ?_; rintro e w' ⟨rfl, hw'⟩; replace hw' := hw'.symm; subst hw'))
        go_quiet (fail)
        go_wp2
        go_ret
        exact HE.out 8 _ (below_drewN (Below.refl _ _) _)
  · rw [if_neg hbo]
    have HI1 := hide hI1
    have HI2 := hide hI2
    clear hB1 hB2 hI1 hI2 h
    by_cases hii : id = sb
    · have h2 := htt hii
      subst hii
      subst h2
      cases t1 <;> simp at hbo
      all_goals
        go_enter Tryz.func148, Tryz.ntmps148
        go_wp2_with (go_at_call 127; refine HI1.out.mono ?_; rintro e w' ⟨rfl, hw'⟩; replace hw' := hw'.symm; subst hw')
        go_ret
        exact HE.out 6 _ (Below.refl _ _)
    · cases t1 <;> cases t2 <;> simp at hbo
      all_goals
        go_enter Tryz.func148, Tryz.ntmps148
        go_wp2_with (first
          | (go_at_call_of 127 (Value.int .i64 id); refine HI1.out.mono ?_; rintro e w' ⟨rfl, hw'⟩; replace hw' := hw'.symm; subst hw')
          | (go_at_call_of 127 (Value.int .i64 sb); refine HI2.out.mono ?_; rintro e w' ⟨rfl, hw'⟩; replace hw' := hw'.symm; subst hw'))
        go_ret
        exact HE.out 6 _ (Below.refl _ _)

end Go.Proofs.YtofinpocigbbeaaGreat

/-! RefH -/
namespace Go.Proofs.YtofinpocigbbeaaGreat
open Go.RowKit
attribute [local go_sem ↓] Go.wp_at_zero Go.wp_at_succ

/-- append of one number, and where it lies. -/
theorem wpList_append_natL {w : World} {ops : Array Oper} {rest : List Oper} {o : Oper} {a : Act} {Q : Exit → Act → World → Prop} (hgd : o.guard = none) (s x : Operand)
    (ho : o.op = .call { callee := .builtin .append, args := #[s, x], argTypes := #[24, 24] }) (base : Nat) (v : Value) (E : List Nat) (hs : a.eval s = v) (hown : OwnN w base v E) (b j : Nat) (hx : a.eval x = .slice (some ⟨b, 0, none⟩) 1 1)
    (hb : w.heap[b]? = some (.cells #[.int .i64 (j : Int)] 3 (0, 0))) (hl : E.length ≤ 1000) (hbase : base ≤ w.heap.size)
    (h : ∀ v' w', OwnN w' base v' (E ++ [j]) → w.grownBy w' v.ownBlock → (v'.ownBlock = v.ownBlock ∨ v'.ownBlock = some w.heap.size) → wpList Tryz.prog ops Q rest (a.put o.dst v') w') : wpList Tryz.prog ops Q (o :: rest) a w := by
  obtain ⟨i0, hi0, hz0, hz1, hz2⟩ := info_parts intInfo
  refine wpList_append_row (P := Tryz.prog) hgd s x 24 ho base 3 i0 _ 1 8 Tryz.underlying24 hi0 hz0 hz1 hz2 rfl (by decide) v E.length (E.map fun (i : Nat) => Value.int .i64 (i : Int)) hs hown _ 1 [.int .i64 j] hx rfl (.inr ⟨_, _, rfl, World.news_of_block (cs := #[.int .i64 j]) (t := 3) (fr := (0, 0)) hb⟩) (by simp [Value.oneCell']) (by unfold maxLen; omega) (by omega) hbase ?_
  intro v' w' h1 h2 _ h3
  refine h v' w' ?_ h2 h3
  unfold OwnN
  rw [List.length_append, List.map_append]
  exact h1

def MPost (S : Nat → Prop) (c : Nat) (p : Int × Int × St) (w : World) (e : Ending) (w' : World) : Prop := e = .returned (.tuple #[.int .i64 p.1, .int .i64 p.2.1]) ∧ RefOk w' (grow S w w') c p.2.2 ∧ Only S w w'

/-- Rows of other types stay behind an append. -/
theorem grown_other {w w2 : World} {u : Option Nat} {T : TypeId} (hg : w.grownBy w2 u) (hu : ∀ g, u = some g → ∃ cur, w.heap[g]? = some (.cells cur T (0, 0))) : ∀ (t : TypeId), t ≠ T → ∀ (b : Nat) (cur : Array Value), w.heap[b]? = some (.cells cur t (0, 0)) → w2.heap[b]? = w.heap[b]? := fun t ht b cur hb => by
  refine hg.block b (Array.getElem?_eq_some_iff.1 hb).1 fun e => ?_
  obtain ⟨c2, h2⟩ := hu b e.symm
  exact ne_of_type hb h2 ht rfl

theorem RRaw.newOrd {w w2 : World} {S S' : Nat → Prop} {c : Nat} {W H : Int} {n : Nat} {ord ord' : List Nat} {bv sv ov ov' : Value} {F : Nat → Nat → Value} (h : RRaw w S c W H n ord bv sv ov F) (hS : ∀ g, S g → S' g) (hk : ∀ (t : TypeId), t ≠ 3 → ∀ (b : Nat) (cur : Array Value), w.heap[b]? = some (.cells cur t (0, 0)) → w2.heap[b]? = w.heap[b]?) (ho : RowS w2 S' 3 1 ov' ord'.length (ord'.map fun (i : Nat) => .int .i64 (i : Int))) : RRaw (w2.setCell ⟨c, 4, none⟩ ov') S' c W H n ord' bv sv ov' F := by
  obtain ⟨h1, h2, ⟨xs, h3, h4⟩, h5, nb, ys, h6, h7, h8⟩ := h
  have hc2 : w2.heap[c]? = some (.cells #[.int .i64 W, .int .i64 H, bv, sv, ov] 202 (0, 0)) := (hk _ (by decide) c _ h1).trans h1
  have hk2 : ∀ (T : TypeId), T ≠ 202 → ∀ (b : Nat) (cur : Array Value), w2.heap[b]? = some (.cells cur T (0, 0)) → (w2.setCell ⟨c, 4, none⟩ ov').heap[b]? = w2.heap[b]? := fun T hT b cur hb => heap_setCell_other w2 ⟨c, 4, none⟩ b ov' (ne_of_type hb hc2 hT)
  refine ⟨heap_setCell_same w2 c 4 _ _ ov' hc2, hS _ h2, ⟨xs, ((h3.mono hS).other (hk _ (by decide))).other (hk2 _ (by decide)), h4⟩, ho.other (hk2 _ (by decide)), nb, ys, h6, ((h7.mono hS).other (hk _ (by decide))).other (hk2 _ (by decide)), fun k hk3 => ?_⟩
  obtain ⟨dv, m, e1, e2, zs, e3⟩ := h8 k hk3
  exact ⟨dv, m, e1, e2, zs, ((e3.mono hS).other (hk _ (by decide))).other (hk2 _ (by decide))⟩

theorem RRaw.newSfs {w w2 : World} {S S' : Nat → Prop} {c : Nat} {W H : Int} {n n' : Nat} {ord : List Nat} {bv sv sv' ov : Value} {F F' : Nat → Nat → Value} (h : RRaw w S c W H n ord bv sv ov F) (hS : ∀ g, S g → S' g) (hk : ∀ (t : TypeId), t ≠ 214 → ∀ (b : Nat) (cur : Array Value), w.heap[b]? = some (.cells cur t (0, 0)) → w2.heap[b]? = w.heap[b]?) (ho : ∃ xs, RowS w2 S' 214 28 sv' n' xs ∧ ∀ i, i < n' → ∀ o, o < 28 → xs[i * 28 + o]? = some (F' i o)) : RRaw (w2.setCell ⟨c, 3, none⟩ sv') S' c W H n' ord bv sv' ov F' := by
  obtain ⟨h1, h2, ⟨xs, h3, h4⟩, h5, nb, ys, h6, h7, h8⟩ := h
  obtain ⟨zs, z1, z2⟩ := ho
  have hc2 : w2.heap[c]? = some (.cells #[.int .i64 W, .int .i64 H, bv, sv, ov] 202 (0, 0)) := (hk _ (by decide) c _ h1).trans h1
  have hk2 : ∀ (T : TypeId), T ≠ 202 → ∀ (b : Nat) (cur : Array Value), w2.heap[b]? = some (.cells cur T (0, 0)) → (w2.setCell ⟨c, 3, none⟩ sv').heap[b]? = w2.heap[b]? := fun T hT b cur hb => heap_setCell_other w2 ⟨c, 3, none⟩ b sv' (ne_of_type hb hc2 hT)
  refine ⟨heap_setCell_same w2 c 3 _ _ sv' hc2, hS _ h2, ⟨zs, z1.other (hk2 _ (by decide)), z2⟩, ((h5.mono hS).other (hk _ (by decide))).other (hk2 _ (by decide)), nb, ys, h6, ((h7.mono hS).other (hk _ (by decide))).other (hk2 _ (by decide)), fun k hk3 => ?_⟩
  obtain ⟨dv, m, e1, e2, us, e3⟩ := h8 k hk3
  exact ⟨dv, m, e1, e2, us, ((e3.mono hS).other (hk _ (by decide))).other (hk2 _ (by decide))⟩

def newCells (p : Int) : List Value := [.bool true, .int .i64 p, .int .i64 0, .int .i64 0, .slice none 0 0, .int .i64 0, .int .i64 0, .bool false, .int .i64 0, .int .i64 0, .int .i64 0, .int .i64 0, .slice none 0 0, .int .i64 0, .int .i64 0, .slice none 0 0, .int .i64 0, .int .i64 0, .bool false, .int .i64 0, .int .i64 0, .int .i64 0, .int .i64 0, .slice none 0 0, .bool false, .int .i64 0, .bool false, .slice none 0 0]

theorem surfInfo : (Tryz.prog.info? 214).map (fun i => (i.zero, i.size, i.bytes)) = some (some (.agg #[.bool false, .int .i64 0, .int .i64 0, .int .i64 0, .slice none 0 0, .int .i64 0, .int .i64 0, .bool false, .int .i64 0, .int .i64 0, .int .i64 0, .int .i64 0, .slice none 0 0, .int .i64 0, .int .i64 0, .slice none 0 0, .int .i64 0, .int .i64 0, .bool false, .int .i64 0, .int .i64 0, .int .i64 0, .int .i64 0, .slice none 0 0, .bool false, .int .i64 0, .bool false, .slice none 0 0]), 28, 304) := by kernel_rfl

/-- One surface more. -/
def moreF (F : Nat → Nat → Value) (n : Nat) (p : Int) : Nat → Nat → Value := fun j => if j = n then (fun o => (newCells p).getD o undef) else F j

theorem rsem_more {w w2 : World} {S S' : Nat → Prop} {st : St} {F : Nat → Nat → Value} (h : RSem w S st F) (hS : ∀ g, S g → S' g) (hk : ∀ (b : Nat) (cur : Array Value), w.heap[b]? = some (.cells cur 51 (0, 0)) → w2.heap[b]? = w.heap[b]?) (p : Int) : RSem w2 S' (mk st p) (moreF F st.sfs.length p) := by
  refine ⟨fun j hj => ?_, fun j hj => ?_, fun j hj => ?_⟩
  · rw [mk_len] at hj
    rw [mk_sf]
    unfold moreF
    by_cases e : j = st.sfs.length
    · rw [if_pos e, if_pos e]
      exact ⟨rfl, rfl, rfl, rfl, rfl, rfl, rfl, rfl, rfl, rfl, rfl, rfl, rfl, rfl, rfl, rfl, rfl, rfl, rfl, rfl, rfl, rfl, rfl, rfl, rfl, ⟨_, _, _, rfl⟩⟩
    · rw [if_neg e, if_neg e]
      exact h.rel j (by omega)
  · rw [mk_len] at hj
    rw [mk_sf]
    unfold moreF
    by_cases e : j = st.sfs.length
    · rw [if_pos e, if_pos e]
      exact PixRow.nil _ _
    · rw [if_neg e, if_neg e]
      exact ((h.pixN j (by omega)).mono hS).other hk
  · rw [mk_len] at hj
    rw [mk_sf]
    unfold moreF
    by_cases e : j = st.sfs.length
    · rw [if_pos e, if_pos e]
      exact PixRow.nil _ _
    · rw [if_neg e, if_neg e]
      exact ((h.pixX j (by omega)).mono hS).other hk

/-- Both rows have grown. -/
theorem ref_made {w w1 w2 : World} {S : Nat → Prop} {c : Nat} {st : St} {bv sv ov sv' ov' : Value} {F : Nat → Nat → Value} {p : Int} {xs : List Value} (hr : RRaw w S c st.w st.h st.sfs.length st.order bv sv ov F) (hs : RSem w S st F) (o1 : Obj)
    (hg1 : (w.alloc o1).grownBy w1 sv.ownBlock) (hv1 : w1.ownsRow 0 214 28 sv' (st.sfs.length + 1) (xs ++ newCells p)) (hx : RowS w S 214 28 sv st.sfs.length xs) (hxF : ∀ i, i < st.sfs.length → ∀ o, o < 28 → xs[i * 28 + o]? = some (F i o)) (hl1 : sv'.ownBlock = sv.ownBlock ∨ sv'.ownBlock = some (w.heap.size + 1)) (o2 : Obj)
    (hg2 : ((w1.setCell ⟨c, 3, none⟩ sv').alloc o2).grownBy w2 ov.ownBlock) (hv2 : w2.ownsRow 0 3 1 ov' (st.order.length + 1) ((st.order.map fun (i : Nat) => .int .i64 (i : Int)) ++ [.int .i64 (st.sfs.length : Int)])) (hl2 : ov'.ownBlock = ov.ownBlock ∨ ov'.ownBlock = some (w1.heap.size + 1)) :
    RefOk (w2.setCell ⟨c, 4, none⟩ ov') (grow S w w2) c (mk st p) ∧ Only S w (w2.setCell ⟨c, 4, none⟩ ov') := by
  have z1 := hg1.size
  have z2 := hg2.size
  have z0 : (w.alloc o1).heap.size = w.heap.size + 1 := by simp
  have z3 : ((w1.setCell ⟨c, 3, none⟩ sv').alloc o2).heap.size = w1.heap.size + 1 := by simp
  have hS : ∀ g, S g → grow S w w2 g := fun _ h => grow_self h
  have ha := hr.below (al1 (Nat.le_refl _) o1)
  have hxa : RowS (w.alloc o1) S 214 28 sv st.sfs.length xs := hx.keep fun g _ hg => heap_old w o1 g hg
  have hk1 := grown_other (T := 214) hg1 fun g hg => hxa.type hg
  have hlen := hx.len
  have r1 := ha.newSfs (w2 := w1) (S' := grow S w w2) (sv' := sv') (n' := st.sfs.length + 1) (F' := moreF F st.sfs.length p) hS hk1 ⟨xs ++ newCells p, ⟨hv1, fun g hg => by
      have hlt := (hv1.lt g hg).2
      rcases hl1 with h | h
      · rw [h] at hg; exact .inl (hx.2 g hg)
      · rw [h] at hg; cases hg; exact .inr ⟨by omega, by omega⟩⟩, fun i hi o ho => by
    unfold moreF
    by_cases e : i = st.sfs.length
    · subst e
      rw [if_pos rfl, List.getElem?_append_right (by omega), hlen, show st.sfs.length * 28 + o - st.sfs.length * 28 = o by omega]
      have : o < (newCells p).length := ho
      rw [List.getD_eq_getElem?_getD, List.getElem?_eq_getElem this]
      rfl
    · rw [if_neg e, List.getElem?_append_left (by omega)]
      exact hxF i (by omega) o ho⟩
  have hc1 : w1.heap[c]? = (w.alloc o1).heap[c]? := hk1 _ (by decide) c _ ha.scr
  have r2 := r1.below (al1 (Nat.le_refl _) o2)
  have hk2 := grown_other (T := 3) hg2 fun g hg => r2.ord.type hg
  have r3 := r2.newOrd (w2 := w2) (S' := grow S w w2) (ov' := ov') (ord' := (mk st p).order) (fun _ h => h) hk2 ⟨by
      show w2.ownsRow 0 _ 1 ov' (st.order ++ [st.sfs.length]).length ((st.order ++ [st.sfs.length]).map _)
      rw [List.length_append, List.map_append]
      exact hv2, fun g hg => by
      have hlt := (hv2.lt g hg).2
      rcases hl2 with h | h
      · rw [h] at hg; exact .inl (hr.ord.2 g hg)
      · rw [h] at hg; cases hg; exact .inr ⟨by omega, by omega⟩⟩
  have hpk : ∀ (b : Nat) (cur : Array Value), w.heap[b]? = some (.cells cur 51 (0, 0)) → (w2.setCell ⟨c, 4, none⟩ ov').heap[b]? = w.heap[b]? := fun b cur hb => by
    have hbl := (Array.getElem?_eq_some_iff.1 hb).1
    have hbc : b ≠ c := ne_of_type hb hr.scr (by decide)
    have q1 : (w.alloc o1).heap[b]? = w.heap[b]? := heap_old w o1 b hbl
    have q2 := hk1 _ (by decide) b cur (q1.trans hb)
    have q3 : (w1.setCell ⟨c, 3, none⟩ sv').heap[b]? = w1.heap[b]? := heap_setCell_other w1 ⟨c, 3, none⟩ b sv' hbc
    have q4 : ((w1.setCell ⟨c, 3, none⟩ sv').alloc o2).heap[b]? = (w1.setCell ⟨c, 3, none⟩ sv').heap[b]? := heap_old _ o2 b (by simp; omega)
    have q5 := hk2 51 (by decide) b cur (q4.trans (q3.trans (q2.trans (q1.trans hb))))
    rw [heap_setCell_other w2 ⟨c, 4, none⟩ b ov' hbc, q5, q4, q3, q2, q1]
  refine ⟨⟨bv, sv', ov', moreF F st.sfs.length p, ?_, rsem_more hs hS hpk p⟩, ?_⟩
  · have h9 := r3
    rw [← mk_len st p] at h9
    exact h9
  · have a1 : Only S w w1 := ((Only.refl S w).alloc o1).grown hg1 fun g hg => .inl (hx.2 g hg)
    have a2 : Only S w w2 := ((a1.set (p := ⟨c, 3, none⟩) (.inl hr.own) sv').alloc o2).grown hg2 fun g hg => .inl (hr.ord.2 g hg)
    exact a2.set (p := ⟨c, 4, none⟩) (.inl hr.own) ov'

set_option maxRecDepth 100000 in
set_option maxHeartbeats 1000000 in
/-- (*Screen).Make -/
theorem refMake_any {S : Nat → Prop} {c : Nat} {st : St} (hw : Wf st) (p : Int) (w : World) (h : RefOk w S c st) :
    Calls Tryz.prog 89 #[.pointer (some ⟨c, 0, none⟩), .int .i64 p] w (MPost S c (opMake st p) w) := by
  obtain ⟨i0, hi0, hz0, hz1, hz2⟩ := info_parts intInfo
  obtain ⟨j0, hj0, hy0, hy1, hy2⟩ := info_parts surfInfo
  have hIs := is_any (S := S) (c := c) (st := st) p w h hw.made
  have HSame : Hid (∀ a b : Int, MPost S c (a, b, st) w (.returned (.tuple #[.int .i64 a, .int .i64 b])) w) := fun a b => ⟨rfl, h.mono fun _ hg => grow_self hg, Only.refl _ _⟩
  unfold opMake
  obtain ⟨t, ht⟩ : ∃ t, st.isB p = t := ⟨_, rfl⟩
  rw [ht] at hIs ⊢
  clear ht
  obtain ⟨bv, sv, ov, F, hr, hs⟩ := h
  obtain ⟨k0, k1, k2, k3, k4, kf, kl⟩ := hr.cells
  obtain ⟨sa, scap, hsv⟩ := hr.svForm
  obtain ⟨oa, ocap, hov⟩ := hr.ovForm
  subst hsv hov
  obtain ⟨n, hn⟩ : ∃ n, st.sfs.length = n := ⟨_, rfl⟩
  obtain ⟨m, hm⟩ : ∃ n, st.order.length = n := ⟨_, rfl⟩
  have hmd := hw.made
  have hm12 := hw.len
  have f3 := kf 3
  have f4 := kf 4
  rw [hn] at k3 hmd
  rw [hm] at k4 hm12
  have HIs := hide hIs
  have HH := hide (And.intro hr (And.intro hs (And.intro hn hm)))
  clear hr hs kf hIs
  by_cases hp : p = -1 ∨ t = true
  · rw [if_pos hp]
    have hcond : ¬ (p ≠ -1 ∧ t = false) := by rintro ⟨h1, h2⟩; rcases hp with h | h; exact h1 h; rw [h2] at h; cases h
    by_cases hfull : m < 12 ∧ n < 60
    · rw [if_pos (by rw [hn, hm]; exact hfull)]
      obtain ⟨hm2, hn2⟩ := hfull
      obtain ⟨xs, hx, hxF⟩ := HH.out.1.sfs
      have HX := hide (And.intro hx hxF)
      have HK1 : Hid (∀ (o : Obj) (w1 : World), (w.alloc o).grownBy w1 (Value.slice sa n scap).ownBlock → w1.cell? ⟨c, 3, none⟩ = some (.slice sa n scap) ∧ w1.cell? ⟨c, 4, none⟩ = some (.slice oa m ocap) ∧ w1.frozen? ⟨c, 3, none⟩ = false ∧ w1.frozen? ⟨c, 4, none⟩ = false ∧ c < w1.heap.size ∧ (∀ (v : Value) (o2 : Obj), OwnN ((w1.setCell ⟨c, 3, none⟩ v).alloc o2) 0 (.slice oa m ocap) st.order) ∧ ∀ (v : Value) (o2 : Obj) (w2 : World), ((w1.setCell ⟨c, 3, none⟩ v).alloc o2).grownBy w2 (Value.slice oa m ocap).ownBlock → w2.cell? ⟨c, 4, none⟩ = some (.slice oa m ocap) ∧ w2.frozen? ⟨c, 4, none⟩ = false) := by
        intro o w1 hg
        have hxa : RowS (w.alloc o) S 214 28 (.slice sa n scap) n xs := (by have h9 := HX.out.1; rw [HH.out.2.2.1] at h9; exact h9.keep fun g _ hg => heap_old w o g hg)
        have hk1 := grown_other (T := 214) hg fun g hg => hxa.type hg
        have hra := HH.out.1.below (al1 (Nat.le_refl _) o)
        have hc := (hk1 _ (by decide) c _ hra.scr).trans hra.scr
        have hord := hra.ord.other (hk1 _ (by decide))
        have hsc : HasB w1 c 202 5 := ⟨_, hc, rfl⟩
        rw [HH.out.2.2.1, HH.out.2.2.2] at hc
        have h8 : ∀ (v : Value) (o2 : Obj), OwnN ((w1.setCell ⟨c, 3, none⟩ v).alloc o2) 0 (.slice oa m ocap) st.order := fun v o2 => by
          have h8 := (hord.other (w' := w1.setCell ⟨c, 3, none⟩ v) fun b cur hb => heap_setCell_other w1 ⟨c, 3, none⟩ b v (ne_of_type hb hc (by decide))).1
          rw [HH.out.2.2.2] at h8
          unfold OwnN
          rw [HH.out.2.2.2]
          exact h8.alloc o2
        refine ⟨(cell_of_row w1 c 3 _ _ _ hc).trans rfl, (cell_of_row w1 c 4 _ _ _ hc).trans rfl, hsc.free 3, hsc.free 4, hsc.lt, h8, fun v o2 w2 hg2 => ?_⟩
        have hk2 := grown_other (T := 3) hg2 fun g hg => own_type (h8 v o2) hg
        have hb1 : Blk w1 c 202 #[.int .i64 st.w, .int .i64 st.h, bv, .slice sa n scap, .slice oa m ocap] := hc
        have hb2 := (hb1.set 3 v).alloc o2
        have hb3 : Blk w2 c _ _ := (hk2 _ (by decide) c _ hb2).trans hb2
        exact ⟨hb3.cell 4, hb3.has.free 4⟩
      have HMd : Hid (∀ (w1 w2 : World) (sv' ov' : Value) (o1 o2 : Obj), (w.alloc o1).grownBy w1 (Value.slice sa n scap).ownBlock → w1.ownsRow 0 214 28 sv' (n + 1) (xs ++ newCells p) → (sv'.ownBlock = (Value.slice sa n scap).ownBlock ∨ sv'.ownBlock = some (w.alloc o1).heap.size) → ((w1.setCell ⟨c, 3, none⟩ sv').alloc o2).grownBy w2 (Value.slice oa m ocap).ownBlock → OwnN w2 0 ov' (st.order ++ [n]) → (ov'.ownBlock = (Value.slice oa m ocap).ownBlock ∨ ov'.ownBlock = some ((w1.setCell ⟨c, 3, none⟩ sv').alloc o2).heap.size) → MPost S c ((n : Int), 0, mk st p) w (.returned (.tuple #[.int .i64 (n : Int), .int .i64 0])) (w2.setCell ⟨c, 4, none⟩ ov')) := by
        intro w1 w2 sv' ov' o1 o2 a1 a2 a3 a4 a5 a6
        have hr := HH.out.1
        have hs := HH.out.2.1
        have e1 := HH.out.2.2.1
        have e2 := HH.out.2.2.2
        subst e1 e2
        obtain ⟨q1, q2⟩ := ref_made (p := p) hr hs o1 a1 a2 HX.out.1 HX.out.2 (by simpa using a3) o2 a4 (by unfold OwnN at a5; rw [List.length_append, List.map_append] at a5; exact a5) (by simpa using a6)
        refine ⟨rfl, q1.mono fun g hg => ?_, q2⟩
        rcases hg with hg | hg
        · exact .inl hg
        · exact .inr ⟨hg.1, by simpa using hg.2⟩
      have hm1 : st.order.length ≤ 1000 := by rw [hm]; omega
      have hone : ∀ u ∈ newCells p, u.oneCell' = true := by
        intro u hu
        simp only [newCells, List.mem_cons, List.not_mem_nil, or_false] at hu
        rcases hu with rfl | rfl | rfl | rfl | rfl | rfl | rfl | rfl | rfl | rfl | rfl | rfl | rfl | rfl | rfl | rfl | rfl | rfl | rfl | rfl | rfl | rfl | rfl | rfl | rfl | rfl | rfl | rfl <;> rfl
      have HOne := hide hone
      have HRow : Hid (∀ o, (w.alloc o).ownsRow 0 214 28 (.slice sa n scap) n xs) := fun o => by
        have h9 := HX.out.1.1
        rw [HH.out.2.2.1] at h9
        exact h9.alloc o
      have hml : (m : Int) < 12 := by omega
      have hnl : (n : Int) < 60 := by omega
      rw [hn]
      clear hx hxF hn hm hone
      by_cases hp1 : p = -1
      · subst hp1
        go_enter Tryz.func89, Tryz.ntmps89
        go_wp2_with (first
          | (go_at_call 127; refine HIs.out.mono ?_; rintro e w' ⟨rfl, hw'⟩; replace hw' := hw'.symm; subst hw')
          | (at_builtin; refine wpList_append_row (P := Tryz.prog) rfl (.tmp 40) (.tmp 43) 200 rfl 0 214 j0 _ 28 304 Tryz.underlying200 hj0 hy0 hy1 hy2 rfl (by decide) (.slice sa n scap) n xs rfl (HRow.out _) (.slice (some ⟨w.heap.size, 0, none⟩) 1 1) 1 (newCells (-1)) rfl rfl (.inr ⟨_, _, rfl, World.news_of_block (cs := (newCells (-1)).toArray) (t := 214) (fr := (0, 0)) (heap_alloc_new w _)⟩) HOne.out (by unfold maxLen; omega) (by omega) (by omega) ?_; intro v1 w1 ho1 hg1 hn1 ha1; obtain ⟨va, vc, hvf⟩ := row_form ho1; subst hvf; obtain ⟨y3, y4, z3, z4, ycl, yo, yc⟩ := HK1.out _ w1 hg1; have H1 := hide (And.intro ho1 (And.intro hg1 (And.intro ha1 (And.intro yo yc)))); clear ho1 hg1 hn1 ha1 yo yc)
          | (at_builtin; refine wpList_append_natL rfl (.tmp 51) (.tmp 53) rfl 0 _ st.order rfl (H1.out.2.2.2.1 _ _) w1.heap.size n rfl (by have h9 := heap_alloc_new (w1.setCell ⟨c, 3, none⟩ (.slice va (n + 1) vc)) (.cells #[.int .i64 (n : Int)] 3); simpa using h9) hm1 (by omega) ?_; intro v2 w2 ho2 hg2 ha2; obtain ⟨vb, vd, hvf⟩ := row_form ho2; obtain ⟨mm, hmm⟩ : ∃ k, (st.order ++ [n]).length = k := ⟨_, rfl⟩; rw [hmm] at hvf; subst hvf; clear hmm; obtain ⟨x4, u4⟩ := H1.out.2.2.2.2 _ _ w2 hg2; have H2 := hide (And.intro ho2 (And.intro hg2 ha2)); clear ho2 hg2 ha2))
        go_ret2
        exact HMd.out w1 w2 _ _ _ _ H1.out.2.1 H1.out.1 H1.out.2.2.1 H2.out.2.1 H2.out.1 H2.out.2.2
      · have htt : t = true := by rcases hp with h | h; exact absurd h hp1; exact h
        subst htt
        go_enter Tryz.func89, Tryz.ntmps89
        go_wp2_with (first
          | (go_at_call 127; refine HIs.out.mono ?_; rintro e w' ⟨rfl, hw'⟩; replace hw' := hw'.symm; subst hw')
          | (at_builtin; refine wpList_append_row (P := Tryz.prog) rfl (.tmp 40) (.tmp 43) 200 rfl 0 214 j0 _ 28 304 Tryz.underlying200 hj0 hy0 hy1 hy2 rfl (by decide) (.slice sa n scap) n xs rfl (HRow.out _) (.slice (some ⟨w.heap.size, 0, none⟩) 1 1) 1 (newCells p) rfl rfl (.inr ⟨_, _, rfl, World.news_of_block (cs := (newCells p).toArray) (t := 214) (fr := (0, 0)) (heap_alloc_new w _)⟩) HOne.out (by unfold maxLen; omega) (by omega) (by omega) ?_; intro v1 w1 ho1 hg1 hn1 ha1; obtain ⟨va, vc, hvf⟩ := row_form ho1; subst hvf; obtain ⟨y3, y4, z3, z4, ycl, yo, yc⟩ := HK1.out _ w1 hg1; have H1 := hide (And.intro ho1 (And.intro hg1 (And.intro ha1 (And.intro yo yc)))); clear ho1 hg1 hn1 ha1 yo yc)
          | (at_builtin; refine wpList_append_natL rfl (.tmp 51) (.tmp 53) rfl 0 _ st.order rfl (H1.out.2.2.2.1 _ _) w1.heap.size n rfl (by have h9 := heap_alloc_new (w1.setCell ⟨c, 3, none⟩ (.slice va (n + 1) vc)) (.cells #[.int .i64 (n : Int)] 3); simpa using h9) hm1 (by omega) ?_; intro v2 w2 ho2 hg2 ha2; obtain ⟨vb, vd, hvf⟩ := row_form ho2; obtain ⟨mm, hmm⟩ : ∃ k, (st.order ++ [n]).length = k := ⟨_, rfl⟩; rw [hmm] at hvf; subst hvf; clear hmm; obtain ⟨x4, u4⟩ := H1.out.2.2.2.2 _ _ w2 hg2; have H2 := hide (And.intro ho2 (And.intro hg2 ha2)); clear ho2 hg2 ha2))
        all_goals
          go_ret2
          exact HMd.out w1 w2 _ _ _ _ H1.out.2.1 H1.out.1 H1.out.2.2.1 H2.out.2.1 H2.out.1 H2.out.2.2
    · rw [if_neg (by rw [hn, hm]; exact hfull)]
      rcases hp with hp | hp
      · subst hp
        by_cases hm3 : (m : Int) < 12
        · have hn3 : ¬ (n : Int) < 60 := by omega
          go_enter Tryz.func89, Tryz.ntmps89
          go_wp2_with (go_at_call 127; refine HIs.out.mono ?_; rintro e w' ⟨rfl, hw'⟩; replace hw' := hw'.symm; subst hw')
          go_ret2
          exact HSame.out 0 9
        · go_enter Tryz.func89, Tryz.ntmps89
          go_wp2_with (go_at_call 127; refine HIs.out.mono ?_; rintro e w' ⟨rfl, hw'⟩; replace hw' := hw'.symm; subst hw')
          go_ret2
          exact HSame.out 0 9
      · subst hp
        by_cases hm3 : (m : Int) < 12
        · have hn3 : ¬ (n : Int) < 60 := by omega
          go_enter Tryz.func89, Tryz.ntmps89
          go_wp2_with (go_at_call 127; refine HIs.out.mono ?_; rintro e w' ⟨rfl, hw'⟩; replace hw' := hw'.symm; subst hw')
          all_goals
            go_ret2
            exact HSame.out 0 9
        · go_enter Tryz.func89, Tryz.ntmps89
          go_wp2_with (go_at_call 127; refine HIs.out.mono ?_; rintro e w' ⟨rfl, hw'⟩; replace hw' := hw'.symm; subst hw')
          all_goals
            go_ret2
            exact HSame.out 0 9
  · rw [if_neg hp]
    have h1 : ¬ p = -1 := fun e => hp (.inl e)
    cases t with
    | true => exact absurd (.inr rfl) hp
    | false =>
      go_enter Tryz.func89, Tryz.ntmps89
      go_wp2_with (go_at_call 127; refine HIs.out.mono ?_; rintro e w' ⟨rfl, hw'⟩; replace hw' := hw'.symm; subst hw')
      go_ret2
      exact HSame.out 0 6

end Go.Proofs.YtofinpocigbbeaaGreat

/-! RefI -/
namespace Go.Proofs.YtofinpocigbbeaaGreat
open Go.RowKit
attribute [local go_sem ↓] Go.wp_at_zero Go.wp_at_succ

/-- Some surfaces are there no more. -/
def goneF (F : Nat → Nat → Value) (L : List Nat) : Nat → Nat → Value := fun j => if j ∈ L then (fun o => if o = 0 then .bool false else F j o) else F j

theorem goneF_nil (F : Nat → Nat → Value) : goneF F [] = F := by
  funext j
  unfold goneF
  simp

theorem goneF_more (F : Nat → Nat → Value) (L : List Nat) (i : Nat) : upF (goneF F L) i 0 (.bool false) = goneF F (L ++ [i]) := by
  funext j o
  unfold upF goneF
  by_cases e : j = i <;> by_cases h : j ∈ L <;> by_cases e2 : o = 0 <;> simp_all

theorem rsem_gone {w w2 : World} {S S' : Nat → Prop} {st : St} {F : Nat → Nat → Value} (hw : Wf st) (h : RSem w S st F) (hS : ∀ g, S g → S' g) (hk : ∀ (b : Nat) (cur : Array Value), w.heap[b]? = some (.cells cur 51 (0, 0)) → w2.heap[b]? = w.heap[b]?) (id : Nat) : RSem w2 S' (rm st id) (goneF F (st.gone id)) := by
  refine ⟨fun j hj => ?_, fun j hj => ?_, fun j hj => ?_⟩
  · rw [rm_len] at hj
    rw [rm_sf st hw]
    unfold goneF
    have q := h.rel j hj
    by_cases e : j ∈ st.gone id
    · rw [if_pos e, if_pos e]
      exact ⟨rfl, q.parent, q.nw, q.nh, q.nx, q.ny, q.ncut, q.n0, q.n1, q.n2, q.n3, q.nhint, q.xw, q.xh, q.xx, q.xy, q.xcut, q.x0, q.x1, q.x2, q.x3, q.xhint, q.ask, q.sib, q.above, q.kept⟩
    · rw [if_neg e, if_neg e]
      exact q
  · rw [rm_len] at hj
    rw [rm_sf st hw]
    unfold goneF
    have q := ((h.pixN j hj).mono hS).other hk
    by_cases e : j ∈ st.gone id
    · rw [if_pos e, if_pos e]; exact q
    · rw [if_neg e, if_neg e]; exact q
  · rw [rm_len] at hj
    rw [rm_sf st hw]
    unfold goneF
    have q := ((h.pixX j hj).mono hS).other hk
    by_cases e : j ∈ st.gone id
    · rw [if_pos e, if_pos e]; exact q
    · rw [if_neg e, if_neg e]; exact q

theorem OwnN.at {w : World} {base : Nat} {v : Value} {E : List Nat} (h : OwnN w base v E) {i : Nat} (hi : i < E.length) : ∃ g c, v = .slice (some ⟨g, 0, none⟩) E.length c ∧ E.length ≤ c ∧ g < w.heap.size ∧ w.cell? ⟨g, i, none⟩ = some (.int .i64 (E[i] : Int)) := by
  obtain ⟨g, c, hv, _, hl⟩ := World.ownsRow.form h (by omega)
  have cs := World.ownsRow.cells h (g := g) (by rw [hv]; rfl) i (.int .i64 (E[i] : Int)) (by rw [List.getElem?_map, List.getElem?_eq_getElem hi]; rfl)
  rw [add_at] at cs
  refine ⟨g, c, hv, ?_, hl, cs⟩
  have h9 := h
  unfold OwnN at h9
  rw [hv] at h9
  exact own_cap h9

theorem OwnN.keep {w w' : World} {base : Nat} {v : Value} {E : List Nat} (h : OwnN w base v E) (hk : ∀ g, v.ownBlock = some g → w'.heap[g]? = w.heap[g]?) : OwnN w' base v E := own_keep h hk

theorem OwnN.rowS {w : World} {S : Nat → Prop} {base : Nat} {v : Value} {E : List Nat} (h : OwnN w base v E) (hS : ∀ g, v.ownBlock = some g → S g) : RowS w S 3 1 v E.length (E.map fun (i : Nat) => .int .i64 (i : Int)) :=
  ⟨⟨h.1, h.2.imp (fun h => h) fun ⟨g, c, cur, e1, _, e3⟩ => ⟨g, c, cur, e1, Nat.zero_le _, e3⟩⟩, hS⟩

theorem take_filter_next (P : Nat → Bool) {l : List Nat} {k : Nat} (hk : k < l.length) : (l.take (k + 1)).filter P = (l.take k).filter P ++ if P l[k] = true then [l[k]] else [] := by
  rw [List.take_succ_eq_append_getElem hk, List.filter_append, List.filter_cons]
  rfl

set_option maxRecDepth 100000 in
set_option maxHeartbeats 2000000 in
/-- (*Screen).Destroy -/
theorem refDestroy_any {S : Nat → Prop} {c : Nat} {st : St} (hw : Wf st) (id : Int) (w : World) (h : RefOk w S c st) :
    Calls Tryz.prog 90 #[.pointer (some ⟨c, 0, none⟩), .int .i64 id] w (RPost S c (opDestroy st id) w) := by
  have hIs := is_any (S := S) (c := c) (st := st) id w h hw.made
  have hB := isB_iff hw id
  have HE6 := hide (RPost.same (er := 6) h (Below.refl _ _))
  unfold opDestroy
  obtain ⟨t, ht⟩ : ∃ t, st.isB id = t := ⟨_, rfl⟩
  rw [ht] at hIs hB ⊢
  clear ht
  cases t with
  | false =>
    rw [if_neg (by simp)]
    clear hB h
    go_enter Tryz.func90, Tryz.ntmps90
    go_wp2_with (go_at_call 127; refine hIs.mono ?_; rintro e w' ⟨rfl, hw'⟩; replace hw' := hw'.symm; subst hw')
    go_ret
    exact HE6.out
  | true =>
    rw [if_pos rfl]
    obtain ⟨i, rfl, hio⟩ := hB.1 rfl
    rw [Int.toNat_natCast]
    have HR := hide h
    have HPa := hide (parts_any hw i w h)
    have HHu : Hid (∀ (W : World) (v : Value) (l : List (Int × Int × Int × Int)), Below w.heap.size w W → OwnR W w.heap.size v l → l.length ≤ 12 → Calls Tryz.prog 128 #[.pointer (some ⟨c, 0, none⟩), v] W fun e w' => e = .returned (.tuple #[]) ∧ TurT S 4 W w') := fun W v l hW hv hl => hurt_any hw l v w.heap.size W (h.keep fun g _ hg => hW.block g hg) hv (by omega)
    obtain ⟨m, hm⟩ : ∃ n, st.order.length = n := ⟨_, rfl⟩
    have hm12 := hw.len
    rw [hm] at hm12
    have HI := hide hIs
    have HHm := hide hm
    clear hIs hB HE6 h hm
    go_enter Tryz.func90, Tryz.ntmps90
    go_wp2_with (first
      | (go_at_call 127; refine HI.out.mono ?_; rintro e w' ⟨rfl, hw'⟩; replace hw' := hw'.symm; subst hw')
      | (go_at_call 129; refine HPa.out.mono ?_; rintro e w1 ⟨v1, l1, rfl, hv1, hl1, hb1⟩; have H1 := hide (And.intro hv1 (And.intro hl1 hb1)); clear hv1 hl1 hb1)
      | (go_at_call 128; refine (HHu.out _ _ _ H1.out.2.2 H1.out.1 H1.out.2.1).mono ?_; rintro e w2 ⟨rfl, ht2⟩; have H2 := hide ht2; clear ht2))
    have HR2 := hide ((HR.out.keep fun g _ hg => H1.out.2.2.block g hg).tur H2.out)
    have HO2 : Hid (Only S w w2) := (Only.below H1.out.2.2).trans ((H2.out.only).mono fun g _ hg => grow_self hg)
    obtain ⟨bv, sv, ov, F, hr, hs⟩ := HR2.out
    obtain ⟨k0, k1, k2, k3, k4, kf, kl⟩ := hr.cells
    obtain ⟨oa, ocap, hov⟩ := hr.ovForm
    subst hov
    rw [HHm.out] at k4
    have f4 := kf 4
    have HH := hide (And.intro hr hs)
    clear hr hs kf k0 k1 k2
    go_loopg [6, 7, 8] m (fun gg s6 s7 s8 wr => ∃ k : Nat, s8 = .int .i64 k ∧ gg + k = m ∧ OwnN wr w2.heap.size s6 ((st.order.take k).filter fun (o : Nat) => !(st.chain o).contains i) ∧ OwnN wr w2.heap.size s7 ((st.order.take k).filter fun (o : Nat) => (st.chain o).contains i) ∧ (∀ g, s6.ownBlock = some g → s7.ownBlock ≠ some g) ∧ Below w2.heap.size w2 wr)
    case atStart => exact ⟨0, rfl, by omega, World.ownsRow_nil _ _ _ _, World.ownsRow_nil _ _ _ _, fun g hg => by simp [Value.ownBlock] at hg, Below.refl _ _⟩
    case round =>
      rename World => wr
      obtain ⟨k, rfl, hgk, hol, hog, hdis, hbel⟩ := hrel
      obtain ⟨la, lc, hlf⟩ := row_form hol
      obtain ⟨ga, gc, hgf⟩ := row_form hog
      obtain ⟨nL, hnL⟩ : ∃ x, ((st.order.take k).filter fun (o : Nat) => !(st.chain o).contains i).length = x := ⟨_, rfl⟩
      obtain ⟨nG, hnG⟩ : ∃ x, ((st.order.take k).filter fun (o : Nat) => (st.chain o).contains i).length = x := ⟨_, rfl⟩
      rw [hnL] at hlf
      rw [hnG] at hgf
      subst hlf hgf
      have hsz := hbel.size
      have v4 := (hbel.cell (p := ⟨c, 4, none⟩) kl).trans k4
      have v3 := (hbel.cell (p := ⟨c, 3, none⟩) kl).trans k3
      have vf := (hbel.frozen (p := ⟨c, 4, none⟩) kl).trans f4
      have hbL : nL ≤ 12 := by
        have h1 := List.length_filter_le (fun (o : Nat) => !(st.chain o).contains i) (st.order.take k)
        rw [List.length_take] at h1
        have h2 := HHm.out
        omega
      have hbG : nG ≤ 12 := by
        have h1 := List.length_filter_le (fun (o : Nat) => (st.chain o).contains i) (st.order.take k)
        rw [List.length_take] at h1
        have h2 := HHm.out
        omega
      cases gk with
      | zero =>
        have hlt : ¬ (k : Int) < (m : Int) := by omega
        have hfull : st.order.take k = st.order := List.take_of_length_le (by have := HHm.out; omega)
        rw [hfull] at hol hog hnL hnG
        have hrr := HH.out.1.below hbel
        have hsr := HH.out.2.below hbel
        have hS : ∀ g, S g → grow S w wr g := fun _ h => grow_self h
        have hz2 := HO2.out.size
        have r3 := hrr.setOrd (S' := grow S w wr) (ov' := .slice la nL lc) (ord' := (rm st i).order) hS (OwnN.rowS (E := (rm st i).order) hol fun g hg => .inr ⟨by have := (hol.lt g hg).1; omega, (hol.lt g hg).2⟩)
        have hsS := hsr.setC (S' := grow S w wr) (j := 4) (u := .slice la nL lc) hS hrr.scr
        have hO3 : Only S w (wr.setCell ⟨c, 4, none⟩ (.slice la nL lc)) := (HO2.out.after hbel).set (p := ⟨c, 4, none⟩) (.inl hrr.own) _
        have hog3 : OwnN (wr.setCell ⟨c, 4, none⟩ (.slice la nL lc)) w2.heap.size (.slice ga nG gc) (st.gone i) := OwnN.keep hog fun b hb => heap_setCell_other wr ⟨c, 4, none⟩ b _ (by have h1 := (hog.lt b hb).1; show b ≠ c; omega)
        have hz3 : (wr.setCell ⟨c, 4, none⟩ (.slice la nL lc)).heap.size = wr.heap.size := by simp
        obtain ⟨sg, scap, es, hSg, hsc, hsgl, _, _⟩ := hrr.at (show 0 < st.sfs.length from by have := hw.lt hio; omega)
        rw [es] at r3
        have H3 := hide (And.intro r3 (And.intro hsS (And.intro hO3 hog3)))
        have hnG2 : (st.gone i).length = nG := hnG
        have HNG := hide hnG2
        clear r3 hsS hO3 hog3 hol hog hrr hsr hdis hnL hnG hnG2 hbel
        go_upto_region 15 with fail
        generalize wr.setCell ⟨c, 4, none⟩ (.slice la nL lc) = w3 at *
        go_wp2
        go_loopg [10] nG (fun gg s10 wq => ∃ j : Nat, s10 = .int .i64 j ∧ gg + j = nG ∧ RRaw wq (grow S w wr) c st.w st.h st.sfs.length (rm st i).order bv (.slice (some ⟨sg, 0, none⟩) st.sfs.length scap) (.slice la nL lc) (goneF F ((st.gone i).take j)) ∧ TurT (grow S w wr) 214 w3 wq)
        case atStart => exact ⟨0, rfl, by omega, by rw [List.take_zero, goneF_nil]; exact H3.out.1, TurT.refl _ _ _⟩
        case round =>
          rename World => wq
          obtain ⟨j, rfl, hgj, hrq, htq⟩ := hrel
          obtain ⟨q0, q1, q2, q3, q4, qf, ql⟩ := hrq.cells
          have hogq : OwnN wq w2.heap.size (.slice ga nG gc) (st.gone i) := OwnN.keep H3.out.2.2.2 fun b hb => by
            obtain ⟨cc, hc⟩ := own_type H3.out.2.2.2 hb
            exact htq.other hc (by decide)
          cases gk with
          | zero =>
            have hlt2 : ¬ (j : Int) < (nG : Int) := by omega
            have HQ := hide (And.intro hrq htq)
            clear hrq htq
            go_wp2
            go_ret
            have hfg : (st.gone i).take j = st.gone i := List.take_of_length_le (by have := HNG.out; omega)
            have hr9 := HQ.out.1
            rw [hfg] at hr9
            have hzq := HQ.out.2.size
            refine ⟨rfl, RefOk.mono (S := grow S w wr) ⟨bv, .slice (some ⟨sg, 0, none⟩) (rm st i).sfs.length scap, .slice la nL lc, goneF F (st.gone i), by rw [← rm_len st i] at hr9; exact hr9, ?_⟩ (fun g hg => ?_), ?_⟩
            · have h8 := rsem_gone (S' := grow S w wr) (w2 := wq) hw H3.out.2.1 (fun _ h => h) (fun b cur hb => HQ.out.2.other hb (by decide)) i
              exact h8
            · rcases hg with hg | hg
              · exact .inl hg
              · exact .inr ⟨hg.1, by omega⟩
            · refine H3.out.2.2.1.trans ((HQ.out.2.only).mono fun g hg hs9 => ?_)
              rcases hs9 with hs9 | hs9
              · exact .inl hs9
              · exact .inr ⟨hs9.1, by omega⟩
          | succ gj =>
            have hlt2 : (j : Int) < (nG : Int) := by omega
            have hjG : j < (st.gone i).length := by have := HNG.out; omega
            obtain ⟨gg9, gc9, eg, hgcap, _, cg⟩ := hogq.at hjG
            rw [HNG.out] at eg hgcap
            injection eg with eg1 eg2 eg3
            subst eg1 eg3
            obtain ⟨d, hd⟩ : ∃ d, (st.gone i)[j] = d := ⟨_, rfl⟩
            rw [hd] at cg
            have hdl : d < st.sfs.length := by rw [← hd]; exact hw.lt (gone_mem.1 (List.getElem_mem hjG)).1
            obtain ⟨sg2, sc2, es2, _, hsc2, _, ec, ef⟩ := hrq.at (by omega)
            injection es2 with es21 es22 es23
            injection es21 with es21
            injection es21 with es21
            subst es21 es23
            have cd := ec d hdl 0 (by omega)
            have fd := ef (d * 28)
            rw [Nat.add_zero] at cd
            have hrq2 := hrq.set hdl (show 0 < 28 by omega) (.bool false)
            rw [goneF_more, Nat.add_zero] at hrq2
            obtain ⟨hSg2, cur, hcur⟩ := hrq.gType
            have htq2 := htq.trans (TurT.set hcur hSg2 (d * 28) (.bool false))
            have e9 : (st.gone i).take j ++ [d] = (st.gone i).take (j + 1) := by rw [List.take_succ_eq_append_getElem hjG, hd]
            rw [e9] at hrq2
            obtain ⟨nS, hnS⟩ : ∃ x, st.sfs.length = x := ⟨_, rfl⟩
            rw [hnS] at q3 hsc2 hdl
            have hmd := hw.made
            rw [hnS] at hmd
            have hdI : (d : Int) < (nS : Int) := by omega
            have hd0 : (0 : Int) ≤ (d : Int) := by omega
            have hj0 : (0 : Int) ≤ (j : Int) := by omega
            have hdc : d < scap := by omega
            have hjc : j < gc := by omega
            have HQ := hide (And.intro hrq2 htq2)
            clear hrq htq hrq2 htq2 hogq ec ef hcur e9 hd hnS hjG
            go_upto_region 18 with fail
            go_region
            all_goals
              go_wp2
              go_roundg gj
              case measure => omega
              case rel => exact ⟨j + 1, by go_num, by omega, HQ.out.1.keep (w' := (wq.setCell ⟨sg, d * 28, none⟩ (.bool false)).drew) (fun _ _ _ => rfl), HQ.out.2.drew⟩
      | succ gk =>
        have hlt : (k : Int) < (m : Int) := by omega
        have hkL : k < st.order.length := by have := HHm.out; omega
        obtain ⟨og, oc, eo, _, hoc, ogl, ocs⟩ := HH.out.1.ordAt (by omega)
        rw [HHm.out] at hoc eo
        injection eo with eo1 eo2 eo3
        subst eo1 eo3
        have co := (hbel.cell (p := ⟨og, k, none⟩) ogl).trans (ocs k hkL)
        obtain ⟨j, hj⟩ : ∃ j, st.order[k] = j := ⟨_, rfl⟩
        rw [hj] at co
        have hjl : j < st.sfs.length := by rw [← hj]; exact hw.lt (List.getElem_mem hkL)
        have hOn := on_any (S := S) (c := c) (st := st) j i wr (HR2.out.keep fun g _ hg => hbel.block g hg) hw hjl
        have HN1 := hide (take_filter_next (fun (o : Nat) => !(st.chain o).contains i) hkL)
        have HN2 := hide (take_filter_next (fun (o : Nat) => (st.chain o).contains i) hkL)
        obtain ⟨t, ht⟩ : ∃ t, (st.chain j).contains i = t := ⟨_, rfl⟩
        rw [hj] at HN1 HN2
        simp only [ht] at HN1 HN2
        rw [ht] at hOn
        have hkc : k < ocap := by omega
        have HO := hide (And.intro hol (And.intro hog (And.intro hdis (And.intro hbel (And.intro hnL hnG)))))
        have HOn := hide hOn
        clear hol hog hdis hbel hnL hnG ocs eo2 hkL hj hjl ht hOn
        cases t with
        | true =>
          go_wp2_with (first
            | (go_at_call 130; refine HOn.out.mono ?_; rintro e w' ⟨rfl, hw'⟩; replace hw' := hw'.symm; subst hw')
            | (at_builtin; refine wpList_append_natL rfl (.tmp 41) (.tmp 49) rfl w2.heap.size _ _ rfl (HO.out.2.1.alloc _) wr.heap.size j rfl (heap_alloc_new wr _) (by rw [HO.out.2.2.2.2.2]; omega) (by simp; omega) ?_; intro v5 w5 ho5 hg5 ha5; have HB5 := hide ((HO.out.2.2.2.1.alloc hsz _).grown hg5 (by simp; omega) (fun k hk => (HO.out.2.1.lt k hk).1)); have H5 := hide (And.intro ho5 (And.intro hg5 ha5)); clear ho5 hg5 ha5))
          go_roundg gk
          case measure => omega
          case rel =>
            have hk9 : ∀ g, (Value.slice la nL lc).ownBlock = some g → w5.heap[g]? = wr.heap[g]? := fun g hg => by
              have h1 := HO.out.1.lt g hg
              rw [H5.out.2.1.block g (by simp; omega) (fun e => HO.out.2.2.1 g hg e.symm)]
              exact heap_old wr _ g h1.2
            refine ⟨k + 1, by go_num, by omega, ?_, ?_, fun g hg e => ?_, HB5.out⟩
            · have e9 : (st.order.take (k + 1)).filter (fun (o : Nat) => !(st.chain o).contains i) = (st.order.take k).filter fun (o : Nat) => !(st.chain o).contains i := by rw [HN1.out]; simp
              rw [e9]
              exact HO.out.1.keep hk9
            · have e9 : (st.order.take (k + 1)).filter (fun (o : Nat) => (st.chain o).contains i) = (st.order.take k).filter (fun (o : Nat) => (st.chain o).contains i) ++ [j] := by rw [HN2.out]; simp
              rw [e9]
              exact H5.out.1
            · rcases H5.out.2.2 with h | h
              · rw [h] at e; exact HO.out.2.2.1 g hg e
              · rw [h] at e
                have h1 := (HO.out.1.lt g hg).2
                simp at e
                omega
        | false =>
          go_wp2_with (first
            | (go_at_call 130; refine HOn.out.mono ?_; rintro e w' ⟨rfl, hw'⟩; replace hw' := hw'.symm; subst hw')
            | (at_builtin; refine wpList_append_natL rfl (.tmp 51) (.tmp 59) rfl w2.heap.size _ _ rfl (HO.out.1.alloc _) wr.heap.size j rfl (heap_alloc_new wr _) (by rw [HO.out.2.2.2.2.1]; omega) (by simp; omega) ?_; intro v5 w5 ho5 hg5 ha5; have HB5 := hide ((HO.out.2.2.2.1.alloc hsz _).grown hg5 (by simp; omega) (fun k hk => (HO.out.1.lt k hk).1)); have H5 := hide (And.intro ho5 (And.intro hg5 ha5)); clear ho5 hg5 ha5))
          go_roundg gk
          case measure => omega
          case rel =>
            have hk9 : ∀ g, (Value.slice ga nG gc).ownBlock = some g → w5.heap[g]? = wr.heap[g]? := fun g hg => by
              have h1 := HO.out.2.1.lt g hg
              rw [H5.out.2.1.block g (by simp; omega) (fun e => HO.out.2.2.1 g e.symm hg)]
              exact heap_old wr _ g h1.2
            refine ⟨k + 1, by go_num, by omega, ?_, ?_, fun g hg e => ?_, HB5.out⟩
            · have e9 : (st.order.take (k + 1)).filter (fun (o : Nat) => !(st.chain o).contains i) = (st.order.take k).filter (fun (o : Nat) => !(st.chain o).contains i) ++ [j] := by rw [HN1.out]; simp
              rw [e9]
              exact H5.out.1
            · have e9 : (st.order.take (k + 1)).filter (fun (o : Nat) => (st.chain o).contains i) = (st.order.take k).filter fun (o : Nat) => (st.chain o).contains i := by rw [HN2.out]; simp
              rw [e9]
              exact HO.out.2.1.keep hk9
            · rcases H5.out.2.2 with h | h
              · rw [h] at hg; exact HO.out.2.2.1 g hg e
              · rw [h] at hg
                have h1 := (HO.out.2.1.lt g e).2
                simp at hg
                omega

end Go.Proofs.YtofinpocigbbeaaGreat

/-! RefJ -/
namespace Go.Proofs.YtofinpocigbbeaaGreat
open Go.RowKit
attribute [local go_sem ↓] Go.wp_at_zero Go.wp_at_succ

/-- The buffer that was asked for. -/
theorem ref_attached {w w2 : World} {S : Nat → Prop} {c : Nat} {st : St} {bv ov : Value} {F : Nat → Nat → Value} {g cap i n : Nat} {a : Option Addr} {vc : Nat} {l : List R4} {W H : Int} {f : Nat → R4} (hb : Below w.heap.size w w2) (hr : RRaw w2 S c st.w st.h st.sfs.length st.order bv (.slice (some ⟨g, 0, none⟩) st.sfs.length cap) ov F) (hs : RSem w2 S st F) (hi : i < st.sfs.length) (hn : (n : Int) = W * H) (hv : w2.ownsRow w.heap.size 51 4 (.slice a n vc) n (pixCells l)) :
    RPost S c (0, upd st i (sfBuf W H f)) w (.returned (.int .i64 0)) (((w2.setCell ⟨g, i * 28 + 13, none⟩ (.int .i64 W)).setCell ⟨g, i * 28 + 14, none⟩ (.int .i64 H)).setCell ⟨g, i * 28 + 15, none⟩ (.slice a n vc)) := by
  obtain ⟨e2, cur, hcur⟩ := hr.gType
  have hr2 := ((hr.set hi (show 13 < 28 by omega) (.int .i64 W)).set hi (show 14 < 28 by omega) (.int .i64 H)).set hi (show 15 < 28 by omega) (.slice a n vc)
  have hpk := pk_set (j := i * 28 + 15) (u := .slice a n vc) hcur (pk_set (j := i * 28 + 14) (u := .int .i64 H) hcur (pk_set (j := i * 28 + 13) (u := .int .i64 W) hcur (w' := w2) fun _ _ _ => rfl))
  have q := hs.rel i hi
  have hz := hb.size
  have hsz : (((w2.setCell ⟨g, i * 28 + 13, none⟩ (.int .i64 W)).setCell ⟨g, i * 28 + 14, none⟩ (.int .i64 H)).setCell ⟨g, i * 28 + 15, none⟩ (.slice a n vc)).heap.size = w2.heap.size := by simp
  have hS : ∀ b, S b → grow S w (((w2.setCell ⟨g, i * 28 + 13, none⟩ (.int .i64 W)).setCell ⟨g, i * 28 + 14, none⟩ (.int .i64 H)).setCell ⟨g, i * 28 + 15, none⟩ (.slice a n vc)) b := fun _ h => grow_self h
  refine ⟨rfl, RefOk.of_upd (hr2.mono hS) hi hs (fun j hj => by simp only [upF_ne _ _ _ _ hj]) hS hpk ?_ ?_ ?_, ?_⟩
  · simp only [upF_at]
    exact ⟨q.alive, q.parent, q.nw, q.nh, q.nx, q.ny, q.ncut, q.n0, q.n1, q.n2, q.n3, q.nhint, rfl, rfl, q.xx, q.xy, q.xcut, q.x0, q.x1, q.x2, q.x3, q.xhint, q.ask, q.sib, q.above, q.kept⟩
  · simp only [upF_at]
    exact ((hs.pixN i hi).mono hS).other hpk
  · simp only [upF_at]
    have hp : PixRow w2 (grow S w (((w2.setCell ⟨g, i * 28 + 13, none⟩ (.int .i64 W)).setCell ⟨g, i * 28 + 14, none⟩ (.int .i64 H)).setCell ⟨g, i * 28 + 15, none⟩ (.slice a n vc))) (.slice a n vc) (W * H) :=
      ⟨n, pixCells l, hn, ⟨⟨hv.1, hv.2.imp (fun h => h) fun ⟨g, c, cur, e1, _, e3⟩ => ⟨g, c, cur, e1, Nat.zero_le _, e3⟩⟩, fun b hb2 => .inr ⟨(hv.lt b hb2).1, by rw [hsz]; exact (hv.lt b hb2).2⟩⟩, pixCells_u8 l⟩
    exact hp.other hpk
  · have h0 : Only S w w2 := Only.below hb
    exact ((h0.set (.inl e2) _).set (.inl e2) _).set (.inl e2) _

set_option maxRecDepth 100000 in
set_option maxHeartbeats 2000000 in
/-- (*Screen).Attach -/
theorem refAttach_any {S : Nat → Prop} {c : Nat} {st : St} (hw : Wf st) (id W H : Int) (l : List R4) (v : Value) (w : World) (h : RefOk w S c st) (hl : PixAt w v l) (hlen : l.length ≤ maxLen) :
    Calls Tryz.prog 143 #[.pointer (some ⟨c, 0, none⟩), .int .i64 id, .int .i64 W, .int .i64 H, v] w (RPost S c (opAttach st id W H l.length (l.all fitP) (fun k => l.getD k (0, 0, 0, 0))) w) := by
  obtain ⟨i0, hi0, hz0, hz1, hz2⟩ := info_parts pixInfo
  have hIs := is_any (S := S) (c := c) (st := st) id w h hw.made
  have hB := isB_iff hw id
  have HE := hide (fun er W (hW : Below w.heap.size w W) => RPost.same (er := er) h hW)
  have HL := hide hl
  unfold opAttach
  obtain ⟨t, ht⟩ : ∃ t, st.isB id = t := ⟨_, rfl⟩
  rw [ht] at hIs hB ⊢
  clear ht
  obtain ⟨va, vc, hv, _⟩ := hl
  obtain ⟨n, hn⟩ : ∃ n, l.length = n := ⟨_, rfl⟩
  rw [hn] at hv hlen
  rw [hn]
  subst hv
  have HN := hide hn
  unfold maxLen at hlen
  have HI := hide hIs
  clear hIs hn
  cases t with
  | false =>
    rw [if_neg (by simp)]
    clear hB h
    go_enter Tryz.func143, Tryz.ntmps143
    go_wp2_with (go_at_call 127; refine HI.out.mono ?_; rintro e w' ⟨rfl, hw'⟩; replace hw' := hw'.symm; subst hw')
    go_ret
    exact HE.out 6 _ (Below.refl _ _)
  | true =>
    rw [if_pos rfl]
    obtain ⟨i, rfl, hio⟩ := hB.1 rfl
    have hil := hw.lt hio
    rw [Int.toNat_natCast]
    by_cases hsz : 0 ≤ W ∧ W ≤ 24 ∧ 0 ≤ H ∧ H ≤ 24
    · rw [if_pos hsz]
      obtain ⟨hW0, hW1, hH0, hH1⟩ := hsz
      have hWH : 0 ≤ W * H ∧ W * H ≤ 24 * 24 := ⟨Int.mul_nonneg hW0 hH0, Int.mul_le_mul hW1 hH1 hH0 (by omega)⟩
      have w1 : IntKind.i64.wrap (W * H) = W * H := by rw [IntKind.wrap_i64]; omega
      obtain ⟨WH, hWHe⟩ : ∃ z, W * H = z := ⟨_, rfl⟩
      rw [hWHe] at w1 hWH ⊢
      by_cases hnn : (n : Int) = WH
      · subst hnn
        have w2 : ((n : Int) != wrap64 (W * H)) = false := by
          have e : wrap64 (W * H) = (n : Int) := by rw [hWHe]; unfold wrap64; omega
          rw [e]; simp
        obtain ⟨bv, sv, ov, F, hr, hs⟩ := h
        obtain ⟨g, cap, e1, e2, e3, e4, e5, e6⟩ := hr.at (by omega)
        subst e1
        obtain ⟨_, cur, hcur⟩ := hr.gType
        have hne : ¬ c = g := ne_of_type hr.scr hcur (by decide)
        have hne2 : g ≠ c := fun e => hne e.symm
        have hcl := (Array.getElem?_eq_some_iff.1 hr.scr).1
        have HR := hide (And.intro hr (And.intro hs hil))
        have HWH := hide hWHe
        have hmd := hw.made
        obtain ⟨nS, hnS⟩ : ∃ x, st.sfs.length = x := ⟨_, rfl⟩
        have HC : Hid (∀ W', Below w.heap.size w W' → W'.cell? ⟨c, 3, none⟩ = some (.slice (some ⟨g, 0, none⟩) nS cap) ∧ (∀ o, o < 28 → W'.cell? ⟨g, i * 28 + o, none⟩ = some (F i o)) ∧ ∀ j, W'.frozen? ⟨g, j, none⟩ = false) := fun W' hW => by
          have r2 := hr.below hW
          obtain ⟨k0, k1, k2, k3, k4, kf, kl⟩ := r2.cells
          obtain ⟨g', cap', q1, q2, q3, q4, q5, q6⟩ := r2.at (by omega)
          injection q1 with q11 q12 q13
          injection q11 with q11
          injection q11 with q11
          subst q11
          rw [hnS] at k3
          exact ⟨k3, fun o ho => q5 i hil o ho, q6⟩
        rw [hnS] at e3 hmd
        have hin : i < nS := by omega
        have hicap : i < cap := by omega
        have hn576 : n ≤ 576 := by omega
        have HIf : Hid (∀ e w', (l.all fitP = true → RPost S c (0, upd st i (sfBuf W H (fun k => l.getD k (0, 0, 0, 0)))) w e w') → (l.all fitP = false → RPost S c (4, st) w e w') → RPost S c (if (n : Int) = (n : Int) ∧ l.all fitP = true then (0, upd st i (sfBuf W H (fun k => l.getD k (0, 0, 0, 0)))) else (4, st)) w e w') := fun e w' h1 h2 => by
          cases hb : l.all fitP with
          | true => rw [if_pos ⟨rfl, rfl⟩]; exact h1 hb
          | false => rw [if_neg (by simp)]; exact h2 hb
        obtain ⟨post, hpost⟩ : ∃ P, P = RPost S c (if (n : Int) = (n : Int) ∧ l.all fitP = true then (0, upd st i (sfBuf W H (fun k => l.getD k (0, 0, 0, 0)))) else (4, st)) w := ⟨_, rfl⟩
        rw [← hpost] at HIf ⊢
        clear hr hs e5 e6 hcur hB hnS hpost hWHe hil
        go_enter Tryz.func143, Tryz.ntmps143
        go_wp2_with (go_at_call 127; refine HI.out.mono ?_; rintro e w' ⟨rfl, hw'⟩; replace hw' := hw'.symm; subst hw')
        go_loopg [12, 13] n (fun gg s12 s13 wr => ∃ k : Nat, s13 = .int .i64 k ∧ gg + k = n ∧ wr.ownsRow w.heap.size 51 4 s12 k (pixCells (l.take k)) ∧ (∀ r ∈ l.take k, fitP r = true) ∧ Below w.heap.size w wr)
        case atStart => exact ⟨0, rfl, by omega, World.ownsRow_nil _ _ _ _, fun r hr => by simp at hr, Below.refl _ _⟩
        case round =>
          rename World => wr
          obtain ⟨k, rfl, hgk, hown, hfit, hbel⟩ := hrel
          obtain ⟨ra, rc, hrf⟩ := row_form hown
          subst hrf
          have hsz9 := hbel.size
          have HO := hide (And.intro hown (And.intro hfit hbel))
          cases gk with
          | zero =>
            have hlt : ¬ (k : Int) < (n : Int) := by omega
            have hkn : k = n := by omega
            subst hkn
            obtain ⟨y3, yc, yf⟩ := HC.out wr hbel
            have c13 := yc 13 (by omega)
            have c14 := yc 14 (by omega)
            have c15 := yc 15 (by omega)
            have f13 := yf (i * 28 + 13)
            have f14 := yf (i * 28 + 14)
            have f15 := yf (i * 28 + 15)
            clear yc yf hown hfit hbel
            go_wp2
            try go_ret
            refine HIf.out _ _ (fun _ => ?_) (fun hno => ?_)
            · have hfull : l.take k = l := List.take_of_length_le (by have := HN.out; omega)
              have ho := HO.out.1
              rw [hfull] at ho
              exact ref_attached HO.out.2.2 (HR.out.1.below HO.out.2.2) (HR.out.2.1.below HO.out.2.2) HR.out.2.2 HWH.out.symm ho
            · exfalso
              have hfull : l.take k = l := List.take_of_length_le (by have := HN.out; omega)
              have ho := HO.out.2.1
              rw [hfull] at ho
              rw [List.all_eq_true.2 ho] at hno
              cases hno
          | succ gk =>
            have hlt : (k : Int) < (n : Int) := by omega
            have hkL : k < l.length := by have := HN.out; omega
            obtain ⟨xa, xc, hxv, hx⟩ := HL.out.below hbel
            injection hxv with hx1 hx2 hx3
            subst hx1 hx3
            obtain ⟨hlc, b, off, rfl, hcs⟩ := hx (by omega)
            rw [HN.out] at hlc
            obtain ⟨c1, c2, c3, c4⟩ := hcs k hkL
            obtain ⟨⟨p0, p1, p2, p3⟩, hp⟩ : ∃ p, l[k] = p := ⟨_, rfl⟩
            rw [hp] at c1 c2 c3 c4
            simp only at c1 c2 c3 c4
            have hFt := fits_any p0 p1 p2 p3
            obtain ⟨t, ht⟩ : ∃ t, fitB p0 p1 p2 p3 = t := ⟨_, rfl⟩
            rw [ht] at hFt
            have HFt := hide hFt
            have hbl := cell_lt c1
            have hkc : k < vc := by omega
            have HP := hide (And.intro hp (And.intro ht hkL))
            clear hown hfit hbel hcs hx hp ht hFt hx2
            cases t with
            | false =>
              go_wp2_with (go_at_call 177; refine (HFt.out _).mono ?_; rintro e w5 ⟨rfl, he5⟩; have HB5 := hide he5; clear he5)
              try go_ret
              refine HIf.out _ _ (fun hyes => ?_) (fun _ => ?_)
              · exfalso
                have h9 := List.all_eq_true.1 hyes _ (List.getElem_mem HP.out.2.2)
                rw [HP.out.1] at h9
                have h8 : fitB p0 p1 p2 p3 = true := h9
                rw [HP.out.2.1] at h8
                cases h8
              · exact HE.out 4 _ (by rw [HB5.out]; exact HO.out.2.2.alloc hsz9 _)
            | true =>
              go_wp2_with (first
                | (go_at_call 177; refine (HFt.out _).mono ?_; rintro e w5 ⟨rfl, he5⟩; have hbl5 : b < w5.heap.size := (by rw [he5]; simp; omega); have hs5 : w.heap.size ≤ w5.heap.size := (by rw [he5]; simp; omega); have d1 := (congrArg (fun W => World.cell? W ⟨b, off + k * 4, none⟩) he5).trans ((cell_old wr _ b (off + k * 4) hbl).trans c1); have d2 := (congrArg (fun W => World.cell? W ⟨b, off + k * 4 + 1, none⟩) he5).trans ((cell_old wr _ b (off + k * 4 + 1) hbl).trans c2); have d3 := (congrArg (fun W => World.cell? W ⟨b, off + k * 4 + 2, none⟩) he5).trans ((cell_old wr _ b (off + k * 4 + 2) hbl).trans c3); have d4 := (congrArg (fun W => World.cell? W ⟨b, off + k * 4 + 3, none⟩) he5).trans ((cell_old wr _ b (off + k * 4 + 3) hbl).trans c4); have HB5 := hide he5; clear he5)
                | (at_builtin; refine wpList_append_row (P := Tryz.prog) rfl (.tmp 54) (.tmp 59) 44 rfl w.heap.size 51 i0 _ 4 4 Tryz.underlying44 hi0 hz0 hz1 hz2 rfl (by decide) (.slice ra k rc) k (pixCells (l.take k)) rfl (by have h9 := HO.out.1.alloc (.cells #[.int .u8 p0, .int .u8 p1, .int .u8 p2, .int .u8 p3] 51); rw [← HB5.out] at h9; exact h9.alloc _) (.slice (some ⟨w5.heap.size, 0, none⟩) 1 1) 1 [.int .u8 p0, .int .u8 p1, .int .u8 p2, .int .u8 p3] rfl rfl (.inr ⟨_, _, rfl, World.news_of_block (cs := #[.int .u8 p0, .int .u8 p1, .int .u8 p2, .int .u8 p3]) (t := 51) (fr := (0, 0)) (heap_alloc_new w5 _)⟩) (by simp [Value.oneCell']) (by unfold maxLen; omega) (by omega) (by simp; omega) ?_; intro v6 w6 ho6 hg6 hn6 ha6; have HB6 := hide (((by rw [HB5.out]; exact HO.out.2.2.alloc hsz9 _ : Below w.heap.size w w5).alloc hs5 _).grown hg6 (by simp; omega) (fun k hk => (HO.out.1.lt k hk).1)); have HO6 := hide ho6; clear ho6 hg6 hn6 ha6))
              go_roundg gk
              case measure => omega
              case rel =>
                have hkL := HP.out.2.2
                have e9 : l.take (k + 1) = l.take k ++ [(p0, p1, p2, p3)] := by rw [List.take_succ_eq_append_getElem hkL, HP.out.1]
                refine ⟨k + 1, by go_num, by omega, ?_, fun r hr => ?_, HB6.out⟩
                · rw [e9, pixCells_append]
                  exact HO6.out
                · rw [e9, List.mem_append, List.mem_singleton] at hr
                  rcases hr with hr | rfl
                  · exact HO.out.2.1 r hr
                  · exact HP.out.2.1
      · rw [if_neg (fun hh => hnn hh.1)]
        clear hB h
        go_enter Tryz.func143, Tryz.ntmps143
        go_wp2_with (go_at_call 127; refine HI.out.mono ?_; rintro e w' ⟨rfl, hw'⟩; replace hw' := hw'.symm; subst hw')
        all_goals
          go_ret
          exact HE.out 4 _ (Below.refl _ _)
    · rw [if_neg hsz]
      clear hB h
      have HS := hide hsz
      have hcs : W < 0 ∨ (0 ≤ W ∧ 24 < W) ∨ (0 ≤ W ∧ W ≤ 24 ∧ H < 0) ∨ (0 ≤ W ∧ W ≤ 24 ∧ 0 ≤ H ∧ 24 < H) := by omega
      clear hsz
      rcases hcs with h1 | ⟨h1, h2⟩ | ⟨h1, h2, h3⟩ | ⟨h1, h2, h3, h4⟩
      all_goals
        go_enter Tryz.func143, Tryz.ntmps143
        go_wp2_with (go_at_call 127; refine HI.out.mono ?_; rintro e w' ⟨rfl, hw'⟩; replace hw' := hw'.symm; subst hw')
        go_ret
        exact HE.out 5 _ (Below.refl _ _)

end Go.Proofs.YtofinpocigbbeaaGreat

/-! RefK -/
namespace Go.Proofs.YtofinpocigbbeaaGreat
open Go.RowKit
attribute [local go_sem ↓] Go.wp_at_zero Go.wp_at_succ

theorem stacked_any {S : Nat → Prop} {c : Nat} {st : St} (hw : Wf st) (hsb : SibOk st) (id : Nat) (hid : id ∈ st.order) (w : World) (h : RefOk w S c st) :
    Calls Tryz.prog 131 #[.pointer (some ⟨c, 0, none⟩), .int .i64 id] w (StackPost S c st id w) := by
  cases hp : st.puts id with
  | true => exact stacked_yes hw hsb id hid hp w h
  | false => exact stacked_no hw id hid hp w h

def nowSf (s : Sf) : Sf := { s with now := s.next, kept := keptOf s.next }

theorem stk_now (st : St) {i : Nat} (hi : i < st.sfs.length) : stk (upd st i nowSf) i = cm st i := by
  have hs : (upd st i nowSf).sf i = nowSf (st.sf i) := by rw [upd_sf st i nowSf i hi, if_pos rfl]
  have hb : ∀ x, (upd st i nowSf).isB x = st.isB x := fun x => by
    unfold St.isB
    rw [upd_len, upd_sf st i nowSf _ hi]
    split
    · rename_i e; rw [← e]; rfl
    · rfl
  have hp : (upd st i nowSf).puts i = st.puts i := by
    unfold St.puts
    rw [hs, hb]
    rfl
  unfold stk cm
  rw [hp, hs]
  have hl : (upd (upd st i nowSf) i stSf).sfs = (upd st i cmSf).sfs := by
    unfold upd
    apply List.ext_getElem?
    intro j
    simp only [List.getElem?_modify]
    cases st.sfs[j]? with
    | none => rfl
    | some a =>
      by_cases e : i = j
      · simp [e, nowSf, stSf, cmSf]
      · simp [e]
  show St.mk _ _ _ _ = St.mk _ _ _ _
  rw [hl]
  rfl

theorem rsem_upd {w w' : World} {S : Nat → Prop} {st : St} {F F' : Nat → Nat → Value} {i : Nat} {gf : Sf → Sf} (hi : i < st.sfs.length) (hs : RSem w S st F) (hF : ∀ j, j ≠ i → F' j = F j) (hpk : ∀ (b : Nat) (cur : Array Value), w.heap[b]? = some (.cells cur 51 (0, 0)) → w'.heap[b]? = w.heap[b]?) (hc : SfCells (F' i) (gf (st.sf i))) (hN : PixRow w' S (F' i 4) ((gf (st.sf i)).now.w * (gf (st.sf i)).now.h)) (hX : PixRow w' S (F' i 15) ((gf (st.sf i)).next.w * (gf (st.sf i)).next.h)) : RSem w' S (upd st i gf) F' := by
  refine ⟨fun j hj => ?_, fun j hj => ?_, fun j hj => ?_⟩
  · rw [upd_len] at hj
    rw [upd_sf st i gf j hi]
    by_cases e : j = i
    · subst e; rw [if_pos rfl]; exact hc
    · rw [if_neg e, hF j e]; exact hs.rel j hj
  · rw [upd_len] at hj
    rw [upd_sf st i gf j hi]
    by_cases e : j = i
    · subst e; rw [if_pos rfl]; exact hN
    · rw [if_neg e, hF j e]; exact (hs.pixN j hj).other hpk
  · rw [upd_len] at hj
    rw [upd_sf st i gf j hi]
    by_cases e : j = i
    · subst e; rw [if_pos rfl]; exact hX
    · rw [if_neg e, hF j e]; exact (hs.pixX j hj).other hpk

theorem Fine.now {st : St} (h : Fine st) {i : Nat} (hi : i < st.sfs.length) : Fine (Go.Proofs.YtofinpocigbbeaaGreat.upd st i nowSf) := h.upd hi (fun _ => rfl) (fun _ => rfl) ⟨(h.wf.lk i).2, (h.wf.lk i).2⟩ (fun _ => ⟨rfl, rfl⟩)

theorem HasB.tur {S : Nat → Prop} {T t : TypeId} {w w' : World} {b k : Nat} (h : HasB w b t k) (ht : TurT S T w w') : HasB w' b t k := by
  obtain ⟨cur, h1, h2⟩ := h
  rcases ht.block b (Array.getElem?_eq_some_iff.1 h1).1 with q | ⟨_, c1, c2, q1, q2, q3⟩
  · exact ⟨cur, by rw [q]; exact h1, h2⟩
  · rw [h1] at q1
    injection q1 with q1
    injection q1 with q11 q12
    subst q11 q12
    exact ⟨c2, q2, by rw [q3]; exact h2⟩

theorem boolInfo : (Tryz.prog.info? 4).map (fun i => (i.zero, i.size, i.bytes)) = some (some (.bool false), 1, 1) := by kernel_rfl

set_option maxRecDepth 100000 in
theorem eqRc (a b c d e f g h : Int) (w : World) : (Op.equalIn 10000 53 (.agg #[.int .i64 a, .int .i64 b, .int .i64 c, .int .i64 d]) (.agg #[.int .i64 e, .int .i64 f, .int .i64 g, .int .i64 h])).run Tryz.prog w = .ok (a == e && (b == f && (c == g && d == h))) w := by
  have u3 := Tryz.underlying3
  rw [show (10000 : Nat) = 9999 + 1 from rfl, run_equalIn_struct w 9999 53 _ _ (by kernel_rfl) (by kernel_rfl)]
  go_simp
  by_cases h1 : a = e <;> by_cases h2 : b = f <;> by_cases h3 : c = g <;> by_cases h4 : d = h <;> simp [h1, h2, h3, h4]

theorem commit_tail {w w1 Wg : World} {S : Nat → Prop} {c : Nat} {st st1 : St} {bv sv ov : Value} {F1 : Nat → Nat → Value} {g : Nat} (co cn : Array Value) (hr : RRaw Wg S c st.w st.h st.sfs.length st.order bv sv ov F1) (hs : RSem Wg S st1 F1) (hO : Only S w Wg) (hz : Wg.heap.size = w1.heap.size) (ho : ∀ b, b ≠ g → Wg.heap[b]? = w1.heap[b]?) :
    (∃ F1, RRaw ((Wg.alloc (.cells co 212)).alloc (.cells cn 212)) S c st.w st.h st.sfs.length st.order bv sv ov F1 ∧ RSem ((Wg.alloc (.cells co 212)).alloc (.cells cn 212)) S st1 F1) ∧ Only S w ((Wg.alloc (.cells co 212)).alloc (.cells cn 212)) ∧ ((Wg.alloc (.cells co 212)).alloc (.cells cn 212)).heap.size = w1.heap.size + 2 ∧ Blk ((Wg.alloc (.cells co 212)).alloc (.cells cn 212)) w1.heap.size 212 co ∧ Blk ((Wg.alloc (.cells co 212)).alloc (.cells cn 212)) (w1.heap.size + 1) 212 cn ∧ ∀ b, b < w1.heap.size → b ≠ g → ((Wg.alloc (.cells co 212)).alloc (.cells cn 212)).heap[b]? = w1.heap[b]? := by
  have b0 := al2 (Nat.le_refl Wg.heap.size) (.cells co 212) (.cells cn 212)
  have b1 : Blk (Wg.alloc (.cells co 212)) Wg.heap.size 212 co := heap_alloc_new _ _
  have z1 : (Wg.alloc (.cells co 212)).heap.size = w1.heap.size + 1 := by simp [hz]
  have b2 : Blk ((Wg.alloc (.cells co 212)).alloc (.cells cn 212)) (Wg.alloc (.cells co 212)).heap.size 212 cn := heap_alloc_new _ _
  rw [hz] at b1
  rw [z1] at b2
  exact ⟨⟨F1, hr.below b0, hs.below b0⟩, hO.after b0, by simp [hz], b1.alloc _, b2, fun b hb hne => (b0.block b (by omega)).trans (ho b hne)⟩

/-- What it has is what was asked for; and two copies. -/
theorem commit_mid {w w1 : World} {S : Nat → Prop} {c : Nat} {st : St} {bv ov : Value} {F : Nat → Nat → Value} {g cap i : Nat} (hb : Below w.heap.size w w1) (hr : RRaw w S c st.w st.h st.sfs.length st.order bv (.slice (some ⟨g, 0, none⟩) st.sfs.length cap) ov F) (hs : RSem w S st F) (hi : i < st.sfs.length) {X N : Look} (hX : (st.sf i).next = X) (pa xa : Option Addr) (pm pc xm xc : Nat) (hx : F i 15 = .slice xa xm xc) :
    ∃ W2, ((((((((((((w1.setCell ⟨g, i * 28 + 2, none⟩ (.int .i64 X.w)).setCell ⟨g, i * 28 + 2 + 1, none⟩ (.int .i64 X.h)).setCell ⟨g, i * 28 + 2 + 2, none⟩ (.slice xa xm xc)).setCell ⟨g, i * 28 + 2 + 3, none⟩ (.int .i64 X.x)).setCell ⟨g, i * 28 + 2 + 4, none⟩ (.int .i64 X.y)).setCell ⟨g, i * 28 + 2 + 5, none⟩ (.bool X.cut)).setCell ⟨g, i * 28 + 2 + 6, none⟩ (.int .i64 X.clip.1)).setCell ⟨g, i * 28 + 2 + 7, none⟩ (.int .i64 X.clip.2.1)).setCell ⟨g, i * 28 + 2 + 8, none⟩ (.int .i64 X.clip.2.2.1)).setCell ⟨g, i * 28 + 2 + 9, none⟩ (.int .i64 X.clip.2.2.2)).setCell ⟨g, i * 28 + 2 + 10, none⟩ (.slice none 0 0)).alloc (.cells #[.int .i64 N.w, .int .i64 N.h, .slice pa pm pc, .int .i64 N.x, .int .i64 N.y, .bool N.cut, .int .i64 N.clip.1, .int .i64 N.clip.2.1, .int .i64 N.clip.2.2.1, .int .i64 N.clip.2.2.2, .slice none 0 0] 212)).alloc (.cells #[.int .i64 X.w, .int .i64 X.h, .slice xa xm xc, .int .i64 X.x, .int .i64 X.y, .bool X.cut, .int .i64 X.clip.1, .int .i64 X.clip.2.1, .int .i64 X.clip.2.2.1, .int .i64 X.clip.2.2.2, .slice none 0 0] 212) = W2 ∧
      (∃ F1, RRaw W2 S c st.w st.h st.sfs.length st.order bv (.slice (some ⟨g, 0, none⟩) st.sfs.length cap) ov F1 ∧ RSem W2 S (upd st i nowSf) F1) ∧ Only S w W2 ∧ W2.heap.size = w1.heap.size + 2 ∧
      Blk W2 w1.heap.size 212 #[.int .i64 N.w, .int .i64 N.h, .slice pa pm pc, .int .i64 N.x, .int .i64 N.y, .bool N.cut, .int .i64 N.clip.1, .int .i64 N.clip.2.1, .int .i64 N.clip.2.2.1, .int .i64 N.clip.2.2.2, .slice none 0 0] ∧
      Blk W2 (w1.heap.size + 1) 212 #[.int .i64 X.w, .int .i64 X.h, .slice xa xm xc, .int .i64 X.x, .int .i64 X.y, .bool X.cut, .int .i64 X.clip.1, .int .i64 X.clip.2.1, .int .i64 X.clip.2.2.1, .int .i64 X.clip.2.2.2, .slice none 0 0] ∧ ∀ b, b < w1.heap.size → b ≠ g → W2.heap[b]? = w1.heap[b]? := by
  refine ⟨_, rfl, ?_⟩
  have r1 := hr.below hb
  have s1 := hs.below hb
  obtain ⟨e2, cur, hcur⟩ := r1.gType
  have hr2 := ((((((((((r1.set hi (show 2 < 28 by omega) (.int .i64 X.w)).set hi (show 3 < 28 by omega) (.int .i64 X.h)).set hi (show 4 < 28 by omega) (.slice xa xm xc)).set hi (show 5 < 28 by omega) (.int .i64 X.x)).set hi (show 6 < 28 by omega) (.int .i64 X.y)).set hi (show 7 < 28 by omega) (.bool X.cut)).set hi (show 8 < 28 by omega) (.int .i64 X.clip.1)).set hi (show 9 < 28 by omega) (.int .i64 X.clip.2.1)).set hi (show 10 < 28 by omega) (.int .i64 X.clip.2.2.1)).set hi (show 11 < 28 by omega) (.int .i64 X.clip.2.2.2)).set hi (show 12 < 28 by omega) (.slice none 0 0)
  have hpk := pk_set (j := i * 28 + 12) (u := .slice none 0 0) hcur (pk_set (j := i * 28 + 11) (u := .int .i64 X.clip.2.2.2) hcur (pk_set (j := i * 28 + 10) (u := .int .i64 X.clip.2.2.1) hcur (pk_set (j := i * 28 + 9) (u := .int .i64 X.clip.2.1) hcur (pk_set (j := i * 28 + 8) (u := .int .i64 X.clip.1) hcur (pk_set (j := i * 28 + 7) (u := .bool X.cut) hcur (pk_set (j := i * 28 + 6) (u := .int .i64 X.y) hcur (pk_set (j := i * 28 + 5) (u := .int .i64 X.x) hcur (pk_set (j := i * 28 + 4) (u := .slice xa xm xc) hcur (pk_set (j := i * 28 + 3) (u := .int .i64 X.h) hcur (pk_set (j := i * 28 + 2) (u := .int .i64 X.w) hcur (w' := w1) fun _ _ _ => rfl))))))))))
  have q := s1.rel i hi
  have hoth : ∀ b, b ≠ g → (((((((((((w1.setCell ⟨g, i * 28 + 2, none⟩ (.int .i64 X.w)).setCell ⟨g, i * 28 + 3, none⟩ (.int .i64 X.h)).setCell ⟨g, i * 28 + 4, none⟩ (.slice xa xm xc)).setCell ⟨g, i * 28 + 5, none⟩ (.int .i64 X.x)).setCell ⟨g, i * 28 + 6, none⟩ (.int .i64 X.y)).setCell ⟨g, i * 28 + 7, none⟩ (.bool X.cut)).setCell ⟨g, i * 28 + 8, none⟩ (.int .i64 X.clip.1)).setCell ⟨g, i * 28 + 9, none⟩ (.int .i64 X.clip.2.1)).setCell ⟨g, i * 28 + 10, none⟩ (.int .i64 X.clip.2.2.1)).setCell ⟨g, i * 28 + 11, none⟩ (.int .i64 X.clip.2.2.2)).setCell ⟨g, i * 28 + 12, none⟩ (.slice none 0 0)).heap[b]? = w1.heap[b]? := fun b hne => by
    rw [heap_setCell_other _ ⟨g, i * 28 + 12, none⟩ b _ hne, heap_setCell_other _ ⟨g, i * 28 + 11, none⟩ b _ hne, heap_setCell_other _ ⟨g, i * 28 + 10, none⟩ b _ hne, heap_setCell_other _ ⟨g, i * 28 + 9, none⟩ b _ hne, heap_setCell_other _ ⟨g, i * 28 + 8, none⟩ b _ hne, heap_setCell_other _ ⟨g, i * 28 + 7, none⟩ b _ hne, heap_setCell_other _ ⟨g, i * 28 + 6, none⟩ b _ hne, heap_setCell_other _ ⟨g, i * 28 + 5, none⟩ b _ hne, heap_setCell_other _ ⟨g, i * 28 + 4, none⟩ b _ hne, heap_setCell_other _ ⟨g, i * 28 + 3, none⟩ b _ hne, heap_setCell_other _ ⟨g, i * 28 + 2, none⟩ b _ hne]
  have hO : Only S w (((((((((((w1.setCell ⟨g, i * 28 + 2, none⟩ (.int .i64 X.w)).setCell ⟨g, i * 28 + 3, none⟩ (.int .i64 X.h)).setCell ⟨g, i * 28 + 4, none⟩ (.slice xa xm xc)).setCell ⟨g, i * 28 + 5, none⟩ (.int .i64 X.x)).setCell ⟨g, i * 28 + 6, none⟩ (.int .i64 X.y)).setCell ⟨g, i * 28 + 7, none⟩ (.bool X.cut)).setCell ⟨g, i * 28 + 8, none⟩ (.int .i64 X.clip.1)).setCell ⟨g, i * 28 + 9, none⟩ (.int .i64 X.clip.2.1)).setCell ⟨g, i * 28 + 10, none⟩ (.int .i64 X.clip.2.2.1)).setCell ⟨g, i * 28 + 11, none⟩ (.int .i64 X.clip.2.2.2)).setCell ⟨g, i * 28 + 12, none⟩ (.slice none 0 0)) := by
    have h0 : Only S w w1 := Only.below hb
    exact ((((((((((h0.set (.inl e2) _).set (.inl e2) _).set (.inl e2) _).set (.inl e2) _).set (.inl e2) _).set (.inl e2) _).set (.inl e2) _).set (.inl e2) _).set (.inl e2) _).set (.inl e2) _).set (.inl e2) _
  have hRef : RSem (((((((((((w1.setCell ⟨g, i * 28 + 2, none⟩ (.int .i64 X.w)).setCell ⟨g, i * 28 + 3, none⟩ (.int .i64 X.h)).setCell ⟨g, i * 28 + 4, none⟩ (.slice xa xm xc)).setCell ⟨g, i * 28 + 5, none⟩ (.int .i64 X.x)).setCell ⟨g, i * 28 + 6, none⟩ (.int .i64 X.y)).setCell ⟨g, i * 28 + 7, none⟩ (.bool X.cut)).setCell ⟨g, i * 28 + 8, none⟩ (.int .i64 X.clip.1)).setCell ⟨g, i * 28 + 9, none⟩ (.int .i64 X.clip.2.1)).setCell ⟨g, i * 28 + 10, none⟩ (.int .i64 X.clip.2.2.1)).setCell ⟨g, i * 28 + 11, none⟩ (.int .i64 X.clip.2.2.2)).setCell ⟨g, i * 28 + 12, none⟩ (.slice none 0 0)) S (upd st i nowSf) (upF (upF (upF (upF (upF (upF (upF (upF (upF (upF (upF F i 2 (.int .i64 X.w)) i 3 (.int .i64 X.h)) i 4 (.slice xa xm xc)) i 5 (.int .i64 X.x)) i 6 (.int .i64 X.y)) i 7 (.bool X.cut)) i 8 (.int .i64 X.clip.1)) i 9 (.int .i64 X.clip.2.1)) i 10 (.int .i64 X.clip.2.2.1)) i 11 (.int .i64 X.clip.2.2.2)) i 12 (.slice none 0 0)) := rsem_upd (gf := nowSf) hi s1 (fun j hj => by simp only [upF_ne _ _ _ _ hj]) hpk (by
      simp only [upF_at]
      subst hX
      exact ⟨q.alive, q.parent, rfl, rfl, rfl, rfl, rfl, rfl, rfl, rfl, rfl, rfl, q.xw, q.xh, q.xx, q.xy, q.xcut, q.x0, q.x1, q.x2, q.x3, q.xhint, q.ask, q.sib, q.above, q.kept⟩) (by
      simp only [upF_at]
      have h9 := s1.pixX i hi
      rw [hx] at h9
      exact h9.other hpk) (by
      simp only [upF_at]
      exact (s1.pixX i hi).other hpk)
  exact commit_tail _ _ hr2 hRef hO (by simp) hoth

set_option maxRecDepth 100000 in
set_option maxHeartbeats 2000000 in
/-- (*Screen).Commit -/
theorem refCommit_any {S : Nat → Prop} {c : Nat} {st : St} (hf : Fine st) (id : Int) (w : World) (h : RefOk w S c st) (hSb : ∀ g, S g → g < w.heap.size) :
    Calls Tryz.prog 91 #[.pointer (some ⟨c, 0, none⟩), .int .i64 id] w (RPost S c (opCommit st id) w) := by
  have hw := hf.wf
  have hIs := is_any (S := S) (c := c) (st := st) id w h hw.made
  have hB := isB_iff hw id
  have HE6 := hide (RPost.same (er := 6) h (Below.refl _ _))
  unfold opCommit
  obtain ⟨t, ht⟩ : ∃ t, st.isB id = t := ⟨_, rfl⟩
  rw [ht] at hIs hB ⊢
  clear ht
  have HI := hide hIs
  clear hIs
  cases t with
  | false =>
    rw [if_neg (by simp)]
    clear hB h
    go_enter Tryz.func91, Tryz.ntmps91
    go_wp2_with (go_at_call 127; refine HI.out.mono ?_; rintro e w' ⟨rfl, hw'⟩; replace hw' := hw'.symm; subst hw')
    go_ret
    exact HE6.out
  | true =>
    rw [if_pos rfl]
    obtain ⟨i, rfl, hio⟩ := hB.1 rfl
    have hil := hw.lt hio
    rw [Int.toNat_natCast]
    have HPa := hide (parts_any hw i w h)
    have HRef := hide h
    obtain ⟨bv, sv, ov, F, hr, hs⟩ := h
    obtain ⟨g, cap, e1, e2, e3, e4, e5, e6⟩ := hr.at (by omega)
    subst e1
    obtain ⟨_, cur, hcur⟩ := hr.gType
    have hne : ¬ c = g := ne_of_type hr.scr hcur (by decide)
    have hne2 : g ≠ c := fun e => hne e.symm
    have hcl := (Array.getElem?_eq_some_iff.1 hr.scr).1
    obtain ⟨nS, hnS⟩ : ∃ x, st.sfs.length = x := ⟨_, rfl⟩
    have hmd := hw.made
    obtain ⟨pa, pm, pc, hpx, hpm⟩ := (hs.pixN i hil).form
    obtain ⟨xa, xm, xc, hxx, hxm⟩ := (hs.pixX i hil).form
    have q := hs.rel i hil
    obtain ⟨ka, km, kc, hkk⟩ := q.kept
    have HC : Hid (∀ W', Below w.heap.size w W' → W'.cell? ⟨c, 3, none⟩ = some (.slice (some ⟨g, 0, none⟩) nS cap) ∧ (∀ o, o < 28 → W'.cell? ⟨g, i * 28 + o, none⟩ = some (F i o)) ∧ ∀ j, W'.frozen? ⟨g, j, none⟩ = false) := fun W' hW => by
      have r2 := hr.below hW
      obtain ⟨k0, k1, k2, k3, k4, kf, kl⟩ := r2.cells
      obtain ⟨g', cap', q1, q2, q3, q4, q5, q6⟩ := r2.at (by omega)
      injection q1 with q11 q12 q13
      injection q11 with q11
      injection q11 with q11
      subst q11
      rw [hnS] at k3
      exact ⟨k3, fun o ho => q5 i hil o ho, q6⟩
    rw [hnS] at e3 hmd
    have hin : i < nS := by omega
    have hicap : i < cap := by omega
    have HQ := hide (And.intro hr (And.intro hs (And.intro hil (And.intro hnS hio))))
    have HF := hide (And.intro q (And.intro hpx hxx))
    have lkN := (hw.lk i).1
    have lkX := (hw.lk i).2
    obtain ⟨N, hN⟩ : ∃ x, (st.sf i).now = x := ⟨_, rfl⟩
    obtain ⟨X, hX⟩ : ∃ x, (st.sf i).next = x := ⟨_, rfl⟩
    have z2 := q.nw; have z3 := q.nh; have z5 := q.nx; have z6 := q.ny; have z7 := q.ncut; have z8 := q.n0; have z9 := q.n1; have z10 := q.n2; have z11 := q.n3; have z12 := q.nhint
    have y2 := q.xw; have y3 := q.xh; have y5 := q.xx; have y6 := q.xy; have y7 := q.xcut; have y8 := q.x0; have y9 := q.x1; have y10 := q.x2; have y11 := q.x3; have y12 := q.xhint
    rw [hN] at z2 z3 z5 z6 z7 z8 z9 z10 z11 hpm lkN
    rw [hX] at y2 y3 y5 y6 y7 y8 y9 y10 y11 hxm lkX
    have HNX := hide (And.intro hN hX)
    clear hr hs e5 e6 hcur hB HE6 hil hN hX q hnS
    go_enter Tryz.func91, Tryz.ntmps91
    go_upto_region 5 with (first
      | (go_at_call 127; refine HI.out.mono ?_; rintro e w' ⟨rfl, hw'⟩; replace hw' := hw'.symm; subst hw')
      | (go_at_call 129; refine HPa.out.mono ?_; rintro e w1 ⟨v1, l1, rfl, hv1, hl1, hb1⟩; have H1 := hide (And.intro hv1 (And.intro hl1 hb1)); have hs1 := hb1.size; clear hv1 hl1 hb1))
    obtain ⟨k3, kc9, kf⟩ := HC.out w1 H1.out.2.2
    have hclw : c < w1.heap.size := by omega
    have hglw : g < w1.heap.size := by omega
    have d2 := kc9 2 (by omega); have d3 := kc9 3 (by omega); have d4 := kc9 4 (by omega); have d5 := kc9 5 (by omega); have d6 := kc9 6 (by omega); have d7 := kc9 7 (by omega); have d8 := kc9 8 (by omega); have d9 := kc9 9 (by omega); have d10 := kc9 10 (by omega); have d11 := kc9 11 (by omega); have d12 := kc9 12 (by omega)
    have d13 := kc9 13 (by omega); have d14 := kc9 14 (by omega); have d15 := kc9 15 (by omega); have d16 := kc9 16 (by omega); have d17 := kc9 17 (by omega); have d18 := kc9 18 (by omega); have d19 := kc9 19 (by omega); have d20 := kc9 20 (by omega); have d21 := kc9 21 (by omega); have d22 := kc9 22 (by omega); have d23 := kc9 23 (by omega); have d27 := kc9 27 (by omega)
    rw [z2] at d2; rw [z3] at d3; rw [hpx] at d4; rw [z5] at d5; rw [z6] at d6; rw [z7] at d7; rw [z8] at d8; rw [z9] at d9; rw [z10] at d10; rw [z11] at d11; rw [z12] at d12
    rw [y2] at d13; rw [y3] at d14; rw [hxx] at d15; rw [y5] at d16; rw [y6] at d17; rw [y7] at d18; rw [y8] at d19; rw [y9] at d20; rw [y10] at d21; rw [y11] at d22; rw [y12] at d23; rw [hkk] at d27
    have f2 := kf (i * 28 + 2); have f3 := kf (i * 28 + 3); have f4 := kf (i * 28 + 4); have f5 := kf (i * 28 + 5); have f6 := kf (i * 28 + 6); have f7 := kf (i * 28 + 7); have f8 := kf (i * 28 + 8); have f9 := kf (i * 28 + 9); have f10 := kf (i * 28 + 10); have f11 := kf (i * 28 + 11); have f12 := kf (i * 28 + 12); have f27 := kf (i * 28 + 27)
    clear kc9 kf z2 z3 z5 z6 z7 z8 z9 z10 z11 z12 y2 y3 y5 y6 y7 y8 y9 y10 y11 y12 hpx hxx hkk
    go_upto_region 9 with fail
    obtain ⟨W2, hW2, ⟨F1, r2, s2⟩, hO2, hz2, hB8, hB9, hoth⟩ := commit_mid (N := N) H1.out.2.2 HQ.out.1 HQ.out.2.1 HQ.out.2.2.1 HNX.out.2 pa xa pm pc xm xc HF.out.2.2
    rw [hW2]
    clear hW2
    have lw := lkX.w
    have lh := lkX.h
    have hKK : 0 ≤ X.w * X.h ∧ X.w * X.h ≤ 24 * 24 := ⟨Int.mul_nonneg lw.1 lh.1, Int.mul_le_mul lw.2 lh.2 lh.1 (by omega)⟩
    obtain ⟨K, hK⟩ : ∃ K : Nat, (K : Int) = X.w * X.h := ⟨(X.w * X.h).toNat, by omega⟩
    have hK576 : K ≤ 576 := by omega
    have m1 : IntKind.i64.wrap (X.w * X.h) = (K : Int) := by rw [IntKind.wrap_i64]; omega
    have m2 : wrap64 (X.w * X.h) = (K : Int) := by unfold wrap64; omega
    have hmk : ∀ W : World, (Instr.makeSlice 154 (.int .i64 (K : Int)) (.int .i64 (K : Int))).run Tryz.prog W = .ok (.slice (some ⟨W.heap.size, 0, none⟩) K K) (W.alloc (.cells (madeCells #[.bool false] K) 4)) := fun W => run_make_row' 154 4 (.bool false) 1 Tryz.underlying154 boolInfo rfl .i64 .i64 K (by omega) (by omega) W
    obtain ⟨g', cap', p1, p2, p3, p4, p5, p6⟩ := r2.at (show 0 < st.sfs.length from by have := HQ.out.2.2.1; omega)
    injection p1 with p11 p12 p13
    injection p11 with p11
    injection p11 with p11
    subst p11
    have u27 := p5 i HQ.out.2.2.1 27 (by omega)
    have v27 := p6 (i * 28 + 27)
    have x0 : W2.cell? ⟨w1.heap.size + 1, 0, none⟩ = some (.int .i64 X.w) := hB9.cell 0
    have x1 : W2.cell? ⟨w1.heap.size + 1, 1, none⟩ = some (.int .i64 X.h) := hB9.cell 1
    have hgW : g < W2.heap.size := by omega
    have hgb : ¬ w1.heap.size + 1 = g := by omega
    have HZ2 := hide hz2
    have HM := hide (And.intro r2 (And.intro s2 (And.intro hO2 (And.intro hB8 (And.intro hB9 hoth)))))
    clear r2 s2 hO2 hB8 hB9 hoth p5 p6 p12 p13 d2 d3 d4 d5 d6 d7 d8 d9 d10 d11 d12 d13 d14 d15 d16 d17 d18 d19 d20 d21 d22 d23 d27 f2 f3 f4 f5 f6 f7 f8 f9 f10 f11 f12 f27 k3 hKK
    have HK := hide (And.intro hK hz2)
    clear hK hz2
    go_upto_region 10 with fail
    -- the marks
    have HW3 : ∃ W3, (W2.setCell ⟨g, i * 28 + 27, none⟩ (.slice (some ⟨W2.heap.size, 0, none⟩) K K)).alloc (.cells (madeCells #[.bool false] K) 4) = W3 ∧ (∃ F2, RRaw W3 S c st.w st.h st.sfs.length st.order bv (.slice (some ⟨g, 0, none⟩) st.sfs.length cap) ov F2 ∧ RSem W3 S (upd st i nowSf) F2) ∧ Only S w W3 ∧ W3.heap.size = w1.heap.size + 3 ∧ HasB W3 (w1.heap.size + 2) 4 K ∧ (∀ b, b < w1.heap.size + 2 → b ≠ g → W3.heap[b]? = W2.heap[b]?) ∧ W3.cell? ⟨g, i * 28 + 27, none⟩ = some (.slice (some ⟨w1.heap.size + 2, 0, none⟩) K K) := by
      refine ⟨_, rfl, ?_⟩
      have hz2 := HK.out.2
      obtain ⟨e29, cu9, hcu9⟩ := HM.out.1.gType
      have r3 := (HM.out.1.set HQ.out.2.2.1 (show 27 < 28 by omega) (.slice (some ⟨W2.heap.size, 0, none⟩) K K))
      have hpk := pk_set (j := i * 28 + 27) (u := .slice (some ⟨W2.heap.size, 0, none⟩) K K) hcu9 (w' := W2) fun _ _ _ => rfl
      have s3 : RSem (W2.setCell ⟨g, i * 28 + 27, none⟩ (.slice (some ⟨W2.heap.size, 0, none⟩) K K)) S (upd st i nowSf) (upF F1 i 27 (.slice (some ⟨W2.heap.size, 0, none⟩) K K)) := by
        refine ⟨fun j hj => ?_, fun j hj => ?_, fun j hj => ?_⟩
        · have q := HM.out.2.1.rel j hj
          by_cases e : j = i
          · subst e
            rw [upF_at]
            exact ⟨q.alive, q.parent, q.nw, q.nh, q.nx, q.ny, q.ncut, q.n0, q.n1, q.n2, q.n3, q.nhint, q.xw, q.xh, q.xx, q.xy, q.xcut, q.x0, q.x1, q.x2, q.x3, q.xhint, q.ask, q.sib, q.above, ⟨_, _, _, rfl⟩⟩
          · rw [upF_ne _ _ _ _ e]; exact q
        · have q := (HM.out.2.1.pixN j hj).other hpk
          by_cases e : j = i
          · subst e; rw [upF_at]; exact q
          · rw [upF_ne _ _ _ _ e]; exact q
        · have q := (HM.out.2.1.pixX j hj).other hpk
          by_cases e : j = i
          · subst e; rw [upF_at]; exact q
          · rw [upF_ne _ _ _ _ e]; exact q
      have zz : (W2.setCell ⟨g, i * 28 + 27, none⟩ (.slice (some ⟨W2.heap.size, 0, none⟩) K K)).heap.size = w1.heap.size + 2 := by simp [hz2]
      have bm := al1 (Nat.le_refl (W2.setCell ⟨g, i * 28 + 27, none⟩ (.slice (some ⟨W2.heap.size, 0, none⟩) K K)).heap.size) (.cells (madeCells #[.bool false] K) 4)
      have hbm : HasB ((W2.setCell ⟨g, i * 28 + 27, none⟩ (.slice (some ⟨W2.heap.size, 0, none⟩) K K)).alloc (.cells (madeCells #[.bool false] K) 4)) (w1.heap.size + 2) 4 K := by
        have h9 := heap_alloc_new (W2.setCell ⟨g, i * 28 + 27, none⟩ (.slice (some ⟨W2.heap.size, 0, none⟩) K K)) (.cells (madeCells #[.bool false] K) 4)
        rw [zz] at h9
        exact ⟨_, h9, by rw [size_madeCells]⟩
      obtain ⟨g9, cap9, b1, _, _, _, b5, _⟩ := r3.at (show 0 < st.sfs.length from by have := HQ.out.2.2.1; omega)
      injection b1 with b11 b12 b13
      injection b11 with b11
      injection b11 with b11
      subst b11
      have c27 := b5 i HQ.out.2.2.1 27 (by omega)
      rw [upF_at] at c27
      refine ⟨⟨_, r3.below bm, s3.below bm⟩, (HM.out.2.2.1.set (.inl e29) _).alloc _, by simp [hz2], hbm, fun b hb hne => ?_, ?_⟩
      · rw [heap_old _ _ b (by omega)]
        exact heap_setCell_other W2 ⟨g, i * 28 + 27, none⟩ b _ hne
      · rw [cell_old _ _ g _ (by omega), c27]
        show some (if (27 : Nat) = 27 then _ else _) = _
        rw [if_pos rfl, hz2]
    obtain ⟨W3, hW3, ⟨F2, r3, s3⟩, hO3, hz3, hB3, hoth3, k27⟩ := HW3
    rw [hW3]
    clear hW3 u27 v27 x0 x1 m1 m2 hmk
    have HHas : Hid (∀ (W : World) (x y : Int), Calls Tryz.prog 122 #[.slice none 0 0, .int .i64 x, .int .i64 y] W fun e w' => e = .returned (.bool false) ∧ w' = W) := fun W x y => refHas_any [] (.slice none 0 0) x y W ⟨none, 0, rfl, fun h => by simp at h⟩ (by simp)
    obtain ⟨_, cu3, hcu3⟩ := r3.gType
    have hB9' : Blk W3 (w1.heap.size + 1) 212 #[.int .i64 X.w, .int .i64 X.h, .slice xa xm xc, .int .i64 X.x, .int .i64 X.y, .bool X.cut, .int .i64 X.clip.1, .int .i64 X.clip.2.1, .int .i64 X.clip.2.2.1, .int .i64 X.clip.2.2.2, .slice none 0 0] := (hoth3 _ (by omega) (by omega)).trans HM.out.2.2.2.2.1
    have hB8' : Blk W3 w1.heap.size 212 #[.int .i64 N.w, .int .i64 N.h, .slice pa pm pc, .int .i64 N.x, .int .i64 N.y, .bool N.cut, .int .i64 N.clip.1, .int .i64 N.clip.2.1, .int .i64 N.clip.2.2.1, .int .i64 N.clip.2.2.2, .slice none 0 0] := (hoth3 _ (by omega) (by omega)).trans HM.out.2.2.2.1
    have H3 := hide (And.intro r3 (And.intro s3 (And.intro hO3 (And.intro hB3 (And.intro hoth3 (And.intro k27 (And.intro hcu3 (And.intro hB9' (And.intro hB8' hz3)))))))))
    clear r3 s3 hO3 hB3 hoth3 k27 hcu3 hB9' hB8' hz3
    go_wp2
    go_loopg [10] K (fun gg s10 wr => ∃ j : Nat, s10 = .int .i64 j ∧ gg + j = K ∧ TurT (fun b => b = w1.heap.size + 2) 4 W3 wr)
    case atStart => exact ⟨0, rfl, by omega, TurT.refl _ _ _⟩
    case round =>
      rename World => wr
      obtain ⟨j, rfl, hgj, hT⟩ := hrel
      have HT := hide hT
      have k27r : wr.cell? ⟨g, i * 28 + 27, none⟩ = some (.slice (some ⟨w1.heap.size + 2, 0, none⟩) K K) := (World.cell?_of_block (a := ⟨g, i * 28 + 27, none⟩) (hT.other H3.out.2.2.2.2.2.2.1 (by decide))).trans H3.out.2.2.2.2.2.1
      have hB9r : Blk wr (w1.heap.size + 1) 212 _ := (hT.other H3.out.2.2.2.2.2.2.2.1 (by decide)).trans H3.out.2.2.2.2.2.2.2.1
      have hKb := H3.out.2.2.2.1.tur hT
      cases gk with
      | zero =>
        have hlt : ¬ (j : Int) < (K : Int) := by omega
        clear hT hB9r hKb
        have hil := HQ.out.2.2.1
        have hf1 := hf.now hil
        have hsz3 := H3.out.2.2.2.2.2.2.2.2.2
        have hszr := HT.out.size
        have hRr : RefOk wr S c (upd st i nowSf) := ⟨bv, _, ov, F2, by have h9 := H3.out.1.tur HT.out; rw [← upd_len st i nowSf] at h9; exact h9, ⟨H3.out.2.1.rel, fun b hb => (H3.out.2.1.pixN b hb).other fun _ _ hc => HT.out.other hc (by decide), fun b hb => (H3.out.2.1.pixX b hb).other fun _ _ hc => HT.out.other hc (by decide)⟩⟩
        have hOr : Only S w wr := H3.out.2.2.1.trans ((HT.out.only).mono fun b hb he => .inr ⟨by omega, by omega⟩)
        have HSt := hide (stacked_any hf1.wf hf1.sib i HQ.out.2.2.2.2 wr hRr)
        have H1r : Hid (OwnR wr w.heap.size v1 l1) := ⟨own_keep H1.out.1.1 fun b hb => by
          have h8 := H1.out.1.1.lt b hb
          obtain ⟨cb, hcb⟩ := own_type H1.out.1.1 hb
          have e2 : W2.heap[b]? = w1.heap[b]? := HM.out.2.2.2.2.2 b h8.2 (by omega)
          have e3 : W3.heap[b]? = W2.heap[b]? := H3.out.2.2.2.2.1 b (by omega) (by omega)
          have e4 := HT.out.other (e3.trans (e2.trans hcb)) (by decide)
          rw [e4, e3, e2], H1.out.1.2⟩
        have hB8r : Blk wr w1.heap.size 212 _ := (HT.out.other H3.out.2.2.2.2.2.2.2.2.1 (by decide)).trans H3.out.2.2.2.2.2.2.2.2.1
        have hB9r : Blk wr (w1.heap.size + 1) 212 _ := (HT.out.other H3.out.2.2.2.2.2.2.2.1 (by decide)).trans H3.out.2.2.2.2.2.2.2.1
        have hpix : PixRow wr S (.slice pa pm pc) (N.w * N.h) := by
          have h9 := HQ.out.2.1.pixN i hil
          rw [HF.out.2.1, HNX.out.1] at h9
          refine h9.other fun b cb hb => ?_
          have hbl := (Array.getElem?_eq_some_iff.1 hb).1
          have e1 : w1.heap[b]? = w.heap[b]? := H1.out.2.2.block b hbl
          obtain ⟨_, cug, hcug⟩ := HQ.out.1.gType
          have hbg : b ≠ g := ne_of_type hb hcug (by decide)
          have e2 : W2.heap[b]? = w1.heap[b]? := HM.out.2.2.2.2.2 b (by omega) hbg
          have e3 : W3.heap[b]? = W2.heap[b]? := H3.out.2.2.2.2.1 b (by omega) hbg
          have e4 := HT.out.other (e3.trans (e2.trans (e1.trans hb))) (by decide)
          rw [e4, e3, e2, e1]
        have HP := hide (And.intro hpix (And.intro hB8r (And.intro hB9r hOr)))
        clear hpix hB8r hB9r hOr hRr
        go_upto_region 16 with (go_at_call 131; refine HSt.out.mono ?_; rintro e w5 ⟨bo, rfl, hR5, hO5, hP5⟩; have H5 := hide (And.intro hR5 (And.intro hO5 hP5)); have hs5 := hO5.size; clear hR5 hO5 hP5)
        have hB8 : Blk w5 w1.heap.size 212 _ := (H5.out.2.1.block _ (by omega) (fun hh => by have := hSb _ hh; omega)).trans HP.out.2.1
        have hB9 : Blk w5 (w1.heap.size + 1) 212 _ := (H5.out.2.1.block _ (by omega) (fun hh => by have := hSb _ hh; omega)).trans HP.out.2.2.1
        have H1x : Hid (OwnR w5 w.heap.size v1 l1) := ⟨own_keep H1r.out.1 fun b hb => H5.out.2.1.block b (H1r.out.1.lt b hb).2 (fun hh => by have h7 := hSb _ hh; have h8 := (H1r.out.1.lt b hb).1; omega), H1r.out.2⟩
        have HPx : Hid (PixRow w5 S (.slice pa pm pc) (N.w * N.h)) := HP.out.1.other H5.out.2.2
        have hcm : stk (upd st i nowSf) i = cm st i := stk_now st hil
        have hwc : Wf (cm st i) := by rw [← hcm]; exact stk_wf hf1.wf hf1.sib HQ.out.2.2.2.2
        have HR5 : Hid (RefOk w5 (grow S wr w5) c (cm st i)) := by unfold Hid; rw [← hcm]; exact H5.out.1
        have HFin : Hid (∀ W, RefOk W (grow S wr w5) c (cm st i) → Only (grow S wr w5) w5 W → RPost S c (0, cm st i) w (.returned (.int .i64 0)) W) := fun W h1 h2 => by
          have hz9 := h2.size
          have hzw := HP.out.2.2.2.size
          have hO5 : Only S w w5 := HP.out.2.2.2.trans (H5.out.2.1.mono fun _ _ h => grow_self h)
          refine ⟨rfl, h1.mono fun b hb => ?_, hO5.trans (h2.mono fun b hb1 hb => ?_)⟩
          · rcases hb with hb | hb
            · exact .inl hb
            · exact .inr ⟨by omega, by omega⟩
          · rcases hb with hb | hb
            · exact .inl hb
            · exact .inr ⟨by omega, by omega⟩
        have HHu : Hid (∀ (W : World) (v : Value) (l : List (Int × Int × Int × Int)) (B : Nat), RefOk W (grow S wr w5) c (cm st i) → OwnR W B v l → l.length ≤ 12 → Calls Tryz.prog 128 #[.pointer (some ⟨c, 0, none⟩), v] W fun e w' => e = .returned (.tuple #[]) ∧ TurT (grow S wr w5) 4 W w') := fun W v l B h1 h2 h3 => hurt_any hwc l v B W h1 h2 (by omega)
        have HPa2 : Hid (∀ W, RefOk W (grow S wr w5) c (cm st i) → Calls Tryz.prog 129 #[.pointer (some ⟨c, 0, none⟩), .int .i64 i] W (PartsPost W)) := fun W h1 => parts_any hwc i W h1
        have hcl9 : i < (cm st i).sfs.length := by rw [cm_len]; exact hil
        have hnx : ((cm st i).sf i).now = X := by rw [cm_sf st i i hil, if_pos rfl]; exact HNX.out.2
        have HCh : Hid (N.w * N.h = X.w * X.h → Calls Tryz.prog 132 #[.pointer (some ⟨c, 0, none⟩), .int .i64 i, .slice pa pm pc] w5 (PartsPost w5)) := fun he => changed_any (S' := S) hwc i hcl9 (.slice pa pm pc) w5 HR5.out (by rw [hnx, ← he]; exact HPx.out)
        have a0 : w5.cell? ⟨w1.heap.size, 0, none⟩ = some (.int .i64 N.w) := hB8.cell 0
        have a1 : w5.cell? ⟨w1.heap.size, 1, none⟩ = some (.int .i64 N.h) := hB8.cell 1
        have a2 : w5.cell? ⟨w1.heap.size, 2, none⟩ = some (.slice pa pm pc) := hB8.cell 2
        have a3 : w5.cell? ⟨w1.heap.size, 3, none⟩ = some (.int .i64 N.x) := hB8.cell 3
        have a4 : w5.cell? ⟨w1.heap.size, 4, none⟩ = some (.int .i64 N.y) := hB8.cell 4
        have a5 : w5.cell? ⟨w1.heap.size, 5, none⟩ = some (.bool N.cut) := hB8.cell 5
        have a6 : w5.cell? ⟨w1.heap.size, 6, none⟩ = some (.int .i64 N.clip.1) := hB8.cell 6
        have a7 : w5.cell? ⟨w1.heap.size, 7, none⟩ = some (.int .i64 N.clip.2.1) := hB8.cell 7
        have a8 : w5.cell? ⟨w1.heap.size, 8, none⟩ = some (.int .i64 N.clip.2.2.1) := hB8.cell 8
        have a9 : w5.cell? ⟨w1.heap.size, 9, none⟩ = some (.int .i64 N.clip.2.2.2) := hB8.cell 9
        have b0 : w5.cell? ⟨w1.heap.size + 1, 0, none⟩ = some (.int .i64 X.w) := hB9.cell 0
        have b1 : w5.cell? ⟨w1.heap.size + 1, 1, none⟩ = some (.int .i64 X.h) := hB9.cell 1
        have b3 : w5.cell? ⟨w1.heap.size + 1, 3, none⟩ = some (.int .i64 X.x) := hB9.cell 3
        have b4 : w5.cell? ⟨w1.heap.size + 1, 4, none⟩ = some (.int .i64 X.y) := hB9.cell 4
        have b5 : w5.cell? ⟨w1.heap.size + 1, 5, none⟩ = some (.bool X.cut) := hB9.cell 5
        have b6 : w5.cell? ⟨w1.heap.size + 1, 6, none⟩ = some (.int .i64 X.clip.1) := hB9.cell 6
        have b7 : w5.cell? ⟨w1.heap.size + 1, 7, none⟩ = some (.int .i64 X.clip.2.1) := hB9.cell 7
        have b8 : w5.cell? ⟨w1.heap.size + 1, 8, none⟩ = some (.int .i64 X.clip.2.2.1) := hB9.cell 8
        have b9 : w5.cell? ⟨w1.heap.size + 1, 9, none⟩ = some (.int .i64 X.clip.2.2.2) := hB9.cell 9
        have hq := eqRc N.clip.1 N.clip.2.1 N.clip.2.2.1 N.clip.2.2.2 X.clip.1 X.clip.2.1 X.clip.2.2.1 X.clip.2.2.2
        obtain ⟨cq, hcq⟩ : ∃ t, (N.clip.1 == X.clip.1 && (N.clip.2.1 == X.clip.2.1 && (N.clip.2.2.1 == X.clip.2.2.1 && N.clip.2.2.2 == X.clip.2.2.2))) = t := ⟨_, rfl⟩
        rw [hcq] at hq
        clear hB8 hB9 hcm hnx hcl9 hcq hf1 hil hsz3 hszr
        obtain ⟨tw, htw⟩ : ∃ t, (N.w != X.w) = t := ⟨_, rfl⟩
        obtain ⟨th, hth⟩ : ∃ t, (N.h != X.h) = t := ⟨_, rfl⟩
        have HE : Hid (tw = false → th = false → N.w * N.h = X.w * X.h) := fun e1 e2 => by
          rw [e1] at htw
          rw [e2] at hth
          have h1 : N.w = X.w := by simpa using htw
          have h2 : N.h = X.h := by simpa using hth
          rw [h1, h2]
        cases tw <;> cases th <;> cases bo
        all_goals
          go_wp2_with (first
            | (go_at_call 132; refine (HCh.out (HE.out rfl rfl)).mono ?_; rintro e w6 ⟨v6, l6, rfl, hv6, hl6, hb6⟩; have H6 := hide (And.intro hv6 (And.intro hl6 hb6)); have HR6 := hide (HR5.out.keep (w' := w6) fun b _ hb => hb6.block b hb); have HO6 : Hid (Only (grow S wr w5) w5 w6) := Only.below hb6; clear hv6 hl6 hb6)
            | (go_at_call_of 128 v1; refine (HHu.out _ _ _ _ HR5.out H1x.out H1.out.2.1).mono ?_; rintro e w6 ⟨rfl, ht6⟩; have HR6 := hide (HR5.out.tur ht6); have HO6 := hide ht6.only; clear ht6)
            | (go_at_call 129; refine (HPa2.out _ HR6.out).mono ?_; rintro e w7 ⟨v6, l6, rfl, hv6, hl6, hb6⟩; have H6 := hide (And.intro hv6 (And.intro hl6 hb6)); have HR7 := hide (HR6.out.keep (w' := w7) fun b _ hb => hb6.block b hb); have HO7 := hide (HO6.out.after hb6); clear hv6 hl6 hb6)
            | (go_at_call 128; refine (HHu.out _ _ _ _ HR7.out H6.out.1 H6.out.2.1).mono ?_; rintro e w8 ⟨rfl, ht8⟩; have HR8 := hide (HR7.out.tur ht8); have HO8 := hide (HO7.out.trans ((ht8.only).mono fun _ _ h => grow_self h)); clear ht8)
            | (go_at_call 128; refine (HHu.out _ _ _ _ HR6.out H6.out.1 H6.out.2.1).mono ?_; rintro e w8 ⟨rfl, ht8⟩; have HR8 := hide (HR6.out.tur ht8); have HO8 := hide (HO6.out.trans ((ht8.only).mono fun _ _ h => grow_self h)); clear ht8))
        all_goals
          go_ret
          exact HFin.out _ HR8.out HO8.out
      | succ gj =>
        have hlt : (j : Int) < (K : Int) := by omega
        have hxw : X.w ≠ 0 := fun e => by
          have h9 := HK.out.1
          rw [e, Int.zero_mul] at h9
          omega
        have hxw1 : 1 ≤ X.w := by omega
        have y0 : wr.cell? ⟨w1.heap.size + 1, 0, none⟩ = some (.int .i64 X.w) := hB9r.cell 0
        have y10 : wr.cell? ⟨w1.heap.size + 1, 10, none⟩ = some (.slice none 0 0) := hB9r.cell 10
        have hj0 : (0 : Int) ≤ (j : Int) := by omega
        clear hT hB9r
        have HKb := hide hKb
        clear hKb
        go_upto_region 13 with fail
        go_quiet ((go_at_call 122; exact Calls.quiet_of_same (HHas.out _ _ _)))
        have hTz := HT.out.drewN nq
        have hKz : HasB (wr.drewN nq) (w1.heap.size + 2) 4 K := HKb.out
        have k27z : (wr.drewN nq).cell? ⟨g, i * 28 + 27, none⟩ = some (.slice (some ⟨w1.heap.size + 2, 0, none⟩) K K) := k27r
        clear k27r y0 y10
        generalize wr.drewN nq = wz at *
        obtain ⟨q9, z9⟩ := hKz.cell j (by omega)
        have fz := hKz.free j
        obtain ⟨cz, hcz, hczs⟩ := hKz
        have HZ := hide (And.intro hTz hcz)
        clear hTz hcz hczs
        go_upto_region 14 with fail
        go_region
        all_goals
          go_wp2
          go_roundg gj
          case measure => omega
          case rel => exact ⟨j + 1, by go_num, by omega, (HZ.out.1.trans (TurT.set (S := fun b => b = w1.heap.size + 2) HZ.out.2 rfl j _)).drew⟩

end Go.Proofs.YtofinpocigbbeaaGreat

/-! RefN -/
namespace Go.Proofs.YtofinpocigbbeaaGreat
open Go.RowKit
attribute [local go_sem ↓] Go.wp_at_zero Go.wp_at_succ

theorem bufInfo : (Tryz.prog.info? 204).map (fun i => (i.zero, i.size, i.bytes)) = some (some (.agg #[.slice none 0 0, .int .i64 0, .slice none 0 0]), 3, 56) := by kernel_rfl

/-- The screen's buffers so far. -/
structure NewM (w wr : World) (W H : Int) (k : Nat) (bv : Value) (xs : List Value) : Prop where
  bel : Below w.heap.size w wr
  scr : Blk wr w.heap.size 202 #[.int .i64 W, .int .i64 H, bv, .slice none 0 0, .slice none 0 0]
  row : wr.ownsRow (w.heap.size + 1) 204 3 bv k xs
  drt : ∀ j, j < k → ∃ (dv : Value) (m : Nat), xs[j * 3 + 2]? = some dv ∧ (m : Int) = W * H ∧ ∃ ys, RowS wr (fun g => w.heap.size ≤ g ∧ g < wr.heap.size) 4 1 dv m ys

def NPost (W H : Int) (w : World) (e : Ending) (w' : World) : Prop := ∃ c, e = .returned (.tuple #[.pointer (some ⟨c, 0, none⟩), .int .i64 0]) ∧ RefOk w' (fun g => w.heap.size ≤ g ∧ g < w'.heap.size) c ⟨W, H, [], []⟩ ∧ Below w.heap.size w w'

theorem NewM.done {w wr : World} {W H : Int} {k : Nat} {bv : Value} {xs : List Value} (h : NewM w wr W H k bv xs) (hk : k ≤ 3) : RefOk wr (fun g => w.heap.size ≤ g ∧ g < wr.heap.size) w.heap.size ⟨W, H, [], []⟩ := by
  refine ⟨bv, .slice none 0 0, .slice none 0 0, fun _ _ => undef, ⟨h.scr, ⟨Nat.le_refl _, h.scr.has.lt⟩, ⟨[], RowS.nil _ _ _ _, fun i hi => by simp at hi⟩, RowS.nil _ _ _ _, k, xs, hk, ⟨⟨h.row.1, h.row.2.imp (fun h => h) fun ⟨g, c, cur, e1, _, e3⟩ => ⟨g, c, cur, e1, Nat.zero_le _, e3⟩⟩, fun g hg => ⟨by have := (h.row.lt g hg).1; omega, (h.row.lt g hg).2⟩⟩, h.drt⟩, ⟨fun i hi => by simp at hi, fun i hi => by simp at hi, fun i hi => by simp at hi⟩⟩

theorem third_block (w : World) (a b x : Obj) : (((w.alloc a).alloc b).alloc x).heap[w.heap.size + 1 + 1]? = some x := by
  have h9 := heap_alloc_new ((w.alloc a).alloc b) x
  simpa using h9
theorem second_block (w : World) (a b x : Obj) : (((w.alloc a).alloc b).alloc x).heap[w.heap.size + 1]? = some b := by
  have h9 := heap_alloc_new (w.alloc a) b
  rw [heap_old _ x _ (by simp)]
  simpa using h9
theorem first_block (w : World) (a b x : Obj) : (((w.alloc a).alloc b).alloc x).heap[w.heap.size]? = some a := by
  rw [heap_old _ x _ (by simp; omega), heap_old _ b _ (by simp)]
  exact heap_alloc_new w a

/-- What the screen's block says behind the append. -/
theorem NewM.cell {w wr w5 w6 : World} {W H : Int} {k : Nat} {bv : Value} {xs : List Value} (h : NewM w wr W H k bv xs) (h5 : ∀ b, b < wr.heap.size → w5.heap[b]? = wr.heap[b]?) (hg : w5.grownBy w6 bv.ownBlock) :
    Blk w6 w.heap.size 202 #[.int .i64 W, .int .i64 H, bv, .slice none 0 0, .slice none 0 0] := by
  have hc := h.scr.has.lt
  have e5 := h5 _ hc
  have hne : some w.heap.size ≠ bv.ownBlock := fun e => by have := (h.row.lt _ e.symm).1; omega
  have e6 := hg.block w.heap.size (block_lt (e5.trans h.scr)) hne
  exact e6.trans (e5.trans h.scr)

theorem NewM.step {w wr w5 w6 : World} {W H : Int} {k : Nat} {bv : Value} {xs : List Value} (h : NewM w wr W H k bv xs) {K d g cap : Nat} {u0 u1 : Value} (hK : (K : Int) = W * H) (hK1 : K ≤ 1000)
    (hb5 : Below w.heap.size w w5) (h5 : ∀ b, b < wr.heap.size → w5.heap[b]? = wr.heap[b]?) (hs5 : wr.heap.size ≤ w5.heap.size) (hgrow : w5.grownBy w6 bv.ownBlock)
    (hd0 : wr.heap.size ≤ d) (hd : w5.heap[d]? = some (.cells (madeCells #[.bool false] K) 4))
    (hown : w6.ownsRow (w.heap.size + 1) 204 3 (.slice (some ⟨g, 0, none⟩) (k + 1) cap) (k + 1) (xs ++ [u0, u1, .slice (some ⟨d, 0, none⟩) K K])) :
    NewM w (w6.setCell ⟨w.heap.size, 2, none⟩ (.slice (some ⟨g, 0, none⟩) (k + 1) cap)) W H (k + 1) (.slice (some ⟨g, 0, none⟩) (k + 1) cap) (xs ++ [u0, u1, .slice (some ⟨d, 0, none⟩) K K]) := by
  have hB := h.cell h5 hgrow
  have hsz := h.bel.size
  have hlen := h.row.1
  have hown5 : w5.ownsRow (w.heap.size + 1) 204 3 bv k xs := own_keep h.row fun g hg => h5 g (h.row.lt g hg).2
  have hk := grown_other (T := 204) hgrow fun g hg => own_type hown5 hg
  have hs6 : w5.heap.size ≤ w6.heap.size := hgrow.size
  have hstay : ∀ (b : Nat) (cur : Array Value), w5.heap[b]? = some (.cells cur 4 (0, 0)) → (w6.setCell ⟨w.heap.size, 2, none⟩ (.slice (some ⟨g, 0, none⟩) (k + 1) cap)).heap[b]? = w5.heap[b]? := fun b cur hb => by
    have e6 := hk _ (by decide) b cur hb
    rw [heap_setCell_other w6 ⟨w.heap.size, 2, none⟩ b _ (ne_of_type (e6.trans hb) hB (by decide)), e6]
  refine ⟨((hb5.grown hgrow (by omega) fun k hk => by have := (h.row.lt k hk).1; omega).setCell (Nat.le_refl _) _), hB.set 2 _, own_keep hown fun b hb => ?_, fun j hj => ?_⟩
  · have h1 := (hown.lt b hb).1
    exact heap_setCell_other w6 ⟨w.heap.size, 2, none⟩ b _ (show b ≠ w.heap.size by omega)
  · by_cases e : j = k
    · subst e
      refine ⟨.slice (some ⟨d, 0, none⟩) K K, K, ?_, hK, (madeCells #[.bool false] K).toList, ⟨⟨by simp [size_madeCells], .inr ⟨d, K, _, rfl, Nat.zero_le _, (hstay d _ hd).trans hd, Nat.le_refl _, by unfold maxLen; omega, by simp [size_madeCells], List.take_of_length_le (by simp [size_madeCells])⟩⟩, fun b hb => ?_⟩⟩
      · rw [List.getElem?_append_right (by omega), hlen, show j * 3 + 2 - j * 3 = 2 by omega]
        rfl
      · have hb' : d = b := by simpa [Value.ownBlock] using hb
        subst hb'
        have := block_lt hd
        exact ⟨by omega, by simp; omega⟩
    · obtain ⟨dv, m, a1, a2, ys, a3⟩ := h.drt j (by omega)
      have a4 : RowS w5 _ 4 1 dv m ys := a3.keep fun g _ hg => h5 g hg
      refine ⟨dv, m, ?_, a2, ys, (a4.other hstay).mono fun b hb => ⟨hb.1, by simp; omega⟩⟩
      rw [List.getElem?_append_left (by omega)]
      exact a1

set_option maxRecDepth 100000 in
set_option maxHeartbeats 1000000 in
/-- New, where it is not refused. -/
theorem refNew_ok (W H n : Int) (w : World) (hW : 1 ≤ W ∧ W ≤ 24) (hH : 1 ≤ H ∧ H ≤ 24) (hn : 1 ≤ n ∧ n ≤ 3) :
    Calls Tryz.prog 81 #[.int .i64 W, .int .i64 H, .int .i64 n] w (NPost W H w) := by
  obtain ⟨i0, hi0, hz0, hz1, hz2⟩ := info_parts bufInfo
  obtain ⟨j0, hj0, hy0, hy1, hy2⟩ := info_parts pixInfo
  obtain ⟨N, hN⟩ : ∃ N : Nat, n = N := ⟨n.toNat, by omega⟩
  subst hN
  obtain ⟨hW0, hW1⟩ := hW
  obtain ⟨hH0, hH1⟩ := hH
  obtain ⟨hn0, hn1⟩ := hn
  have hWH : 0 ≤ W * H ∧ W * H ≤ 24 * 24 := ⟨Int.mul_nonneg (by omega) (by omega), Int.mul_le_mul hW1 hH1 (by omega) (by omega)⟩
  obtain ⟨K, hK⟩ : ∃ K : Nat, (K : Int) = W * H := ⟨(W * H).toNat, by omega⟩
  have m1 : IntKind.i64.wrap (W * H) = (K : Int) := by rw [IntKind.wrap_i64]; omega
  have m2 : wrap64 (W * H) = (K : Int) := by unfold wrap64; omega
  have hmk1 : ∀ w : World, (Instr.makeSlice 154 (.int .i64 (K : Int)) (.int .i64 (K : Int))).run Tryz.prog w = .ok (.slice (some ⟨w.heap.size, 0, none⟩) K K) (w.alloc (.cells (madeCells #[.bool false] K) 4)) := fun w => run_make_row' 154 4 (.bool false) 1 Tryz.underlying154 boolInfo rfl .i64 .i64 K (by omega) (by omega) w
  have hmk2 : ∀ w : World, (Instr.makeSlice 44 (.int .i64 (K : Int)) (.int .i64 (K : Int))).run Tryz.prog w = .ok (.slice (some ⟨w.heap.size, 0, none⟩) K K) (w.alloc (.cells (madeCells #[.int .u8 0, .int .u8 0, .int .u8 0, .int .u8 0] (K * 4)) 51)) := fun w => by
    have h9 := run_make (P := Tryz.prog) w 44 51 j0 _ Tryz.underlying44 hj0 hy0 .i64 .i64 K K (by omega) (Int.le_refl _) (by rw [hy2]; omega) (by omega)
    simp only [Int.toNat_natCast, hy1] at h9
    exact h9
  have hK1 : K ≤ 1000 := by omega
  have HK := hide hK
  clear hWH hK
  go_enter Tryz.func81, Tryz.ntmps81
  go_wp2
  go_loopg [9] N (fun gg s9 wr => ∃ (k : Nat) (bv : Value) (xs : List Value), s9 = .int .i64 k ∧ gg + k = N ∧ NewM w wr W H k bv xs)
  case atStart => exact ⟨0, .slice none 0 0, [], rfl, by omega, ⟨(Below.refl _ _).alloc (Nat.le_refl _) _, heap_alloc_new w _, World.ownsRow_nil _ _ _ _, fun j hj => by omega⟩⟩
  case round =>
    rename World => wr
    obtain ⟨k, bv, xs, rfl, hgk, hM⟩ := hrel
    cases gk with
    | zero =>
      have hlt : ¬ (k : Int) < (N : Int) := by omega
      have HM := hide hM
      clear hM
      go_wp2
      go_ret2
      exact ⟨_, rfl, HM.out.done (by omega), HM.out.bel⟩
    | succ gk =>
      have hlt : (k : Int) < (N : Int) := by omega
      obtain ⟨ba, bc, hbf⟩ := row_form hM.row
      subst hbf
      have c2 : wr.cell? ⟨w.heap.size, 2, none⟩ = some (.slice ba k bc) := hM.scr.cell 2
      have f2 := hM.scr.has.free 2
      have hcl := hM.scr.has.lt
      have HM := hide hM
      clear hM
      have HB0 : Hid (∀ (w6 : World) (o1 o2 o3 : Obj), (((wr.alloc o1).alloc o2).alloc o3).drew.grownBy w6 (Value.slice ba k bc).ownBlock → Blk w6 w.heap.size 202 #[.int .i64 W, .int .i64 H, .slice ba k bc, .slice none 0 0, .slice none 0 0]) := fun w6 o1 o2 o3 hg => HM.out.cell (fun b hb => (((al1 (Nat.le_refl wr.heap.size) o1).alloc (by simp) o2).alloc (by simp; omega) o3).drew.block b hb) hg
      have HS : Hid (∀ (w6 : World) (o1 o2 o3 : Obj) (g cap : Nat) (u0 u1 : Value) (d : Nat), wr.heap.size ≤ d → (((wr.alloc o1).alloc o2).alloc o3).heap[d]? = some (.cells (madeCells #[.bool false] K) 4) → (((wr.alloc o1).alloc o2).alloc o3).drew.grownBy w6 (Value.slice ba k bc).ownBlock → w6.ownsRow (w.heap.size + 1) 204 3 (.slice (some ⟨g, 0, none⟩) (k + 1) cap) (k + 1) (xs ++ [u0, u1, .slice (some ⟨d, 0, none⟩) K K]) → ∃ bv xs', bv = (Value.slice (some ⟨g, 0, none⟩) (k + 1) cap) ∧ NewM w (w6.setCell ⟨w.heap.size, 2, none⟩ (.slice (some ⟨g, 0, none⟩) (k + 1) cap)) W H (k + 1) bv xs') := fun w6 o1 o2 o3 g cap u0 u1 d h1 h2 h3 h4 => by
        have hz := HM.out.bel.size
        exact ⟨_, _, rfl, HM.out.step HK.out hK1 ((((HM.out.bel.alloc hz o1).alloc (by simp; omega) o2).alloc (by simp; omega) o3).drew) (fun b hb => (((al1 (Nat.le_refl wr.heap.size) o1).alloc (by simp) o2).alloc (by simp; omega) o3).drew.block b hb) (by show wr.heap.size ≤ (((wr.alloc o1).alloc o2).alloc o3).heap.size; simp; omega) h3 h1 h2 h4⟩
      have g1 : ∀ o1, (wr.alloc o1).cell? ⟨w.heap.size, 2, none⟩ = some (.slice ba k bc) := fun o1 => by rw [cell_old _ _ _ _ hcl]; exact c2
      have g2 : ∀ o1 o2, ((wr.alloc o1).alloc o2).cell? ⟨w.heap.size, 2, none⟩ = some (.slice ba k bc) := fun o1 o2 => by rw [cell_old _ _ _ _ (by simp; omega)]; exact g1 o1
      have g3 : ∀ o1 o2 o3, (((wr.alloc o1).alloc o2).alloc o3).cell? ⟨w.heap.size, 2, none⟩ = some (.slice ba k bc) := fun o1 o2 o3 => by rw [cell_old _ _ _ _ (by simp; omega)]; exact g2 o1 o2
      go_upto_region 9 with fail
      go_region_law (first | (refine step_append_lies _ (by rfl) (.tmp 43) (.tmp 53) _ (by rfl) (w.heap.size + 1) 204 i0 _ 3 56 Tryz.underlying199 hi0 hz0 hz1 hz2 rfl (by omega) (.slice ba k bc) k xs (by rfl) ((((HM.out.row.alloc _).alloc _).alloc _).drew) ⟨wr.heap.size + 1 + 1, 0, none⟩ 1 1 [.slice (some ⟨wr.heap.size, 0, none⟩) K K, .int .i64 0, .slice (some ⟨wr.heap.size + 1, 0, none⟩) K K] (by rfl) (by rfl) (World.news_of_block (cs := #[.slice (some ⟨wr.heap.size, 0, none⟩) K K, .int .i64 0, .slice (some ⟨wr.heap.size + 1, 0, none⟩) K K]) (t := 204) (fr := (0, 0)) (third_block wr _ _ _)) (by simp [Value.oneCell']) (by omega) (by unfold maxLen; omega) (by omega) (by simp; omega) (wr.heap.size + 1 + 1 + 1) (by simp) ?_; intro gg cp w6 hown6 hgrow hat hlt10; have HB := HB0.out w6 _ _ _ hgrow; have c26 := HB.cell 2; have f26 := HB.has.free 2; have H6 := hide (HS.out w6 _ _ _ gg cp _ _ (wr.heap.size + 1) (by omega) (by first | exact first_block wr _ _ _ | exact second_block wr _ _ _) hgrow hown6); clear hown6 hgrow hat HB) | (refine step_append_lies _ (by rfl) (.tmp 43) (.tmp 53) _ (by rfl) (w.heap.size + 1) 204 i0 _ 3 56 Tryz.underlying199 hi0 hz0 hz1 hz2 rfl (by omega) (.slice ba k bc) k xs (by rfl) ((((HM.out.row.alloc _).alloc _).alloc _).drew) ⟨wr.heap.size + 1 + 1, 0, none⟩ 1 1 [.slice (some ⟨wr.heap.size + 1, 0, none⟩) K K, .int .i64 0, .slice (some ⟨wr.heap.size, 0, none⟩) K K] (by rfl) (by rfl) (World.news_of_block (cs := #[.slice (some ⟨wr.heap.size + 1, 0, none⟩) K K, .int .i64 0, .slice (some ⟨wr.heap.size, 0, none⟩) K K]) (t := 204) (fr := (0, 0)) (third_block wr _ _ _)) (by simp [Value.oneCell']) (by omega) (by unfold maxLen; omega) (by omega) (by simp; omega) (wr.heap.size + 1 + 1 + 1) (by simp) ?_; intro gg cp w6 hown6 hgrow hat hlt10; have HB := HB0.out w6 _ _ _ hgrow; have c26 := HB.cell 2; have f26 := HB.has.free 2; have H6 := hide (HS.out w6 _ _ _ gg cp _ _ (wr.heap.size) (by omega) (by first | exact first_block wr _ _ _ | exact second_block wr _ _ _) hgrow hown6); clear hown6 hgrow hat HB))
      all_goals
        go_wp2
        go_roundg gk
        case measure => omega
        case rel =>
          obtain ⟨bv', xs', _, hN⟩ := H6.out
          exact ⟨k + 1, bv', xs', by go_num, by omega, hN⟩

/-- New refuses. -/
def NRef (n : Int) (w : World) (e : Ending) (w' : World) : Prop := e = .returned (.tuple #[.pointer none, .int .i64 n]) ∧ Below w.heap.size w w'

set_option maxRecDepth 100000 in
set_option maxHeartbeats 1000000 in
theorem refNew_size (W H n : Int) (w : World) (h : W < 1 ∨ 24 < W ∨ H < 1 ∨ 24 < H) :
    Calls Tryz.prog 81 #[.int .i64 W, .int .i64 H, .int .i64 n] w (NRef 5 w) := by
  by_cases h1 : W < 1
  · go_enter Tryz.func81, Tryz.ntmps81
    go_wp2
    go_ret2
    exact ⟨rfl, Below.refl _ _⟩
  by_cases h2 : 24 < W
  · go_enter Tryz.func81, Tryz.ntmps81
    go_wp2
    go_ret2
    exact ⟨rfl, Below.refl _ _⟩
  by_cases h3 : H < 1
  · go_enter Tryz.func81, Tryz.ntmps81
    go_wp2
    go_ret2
    exact ⟨rfl, Below.refl _ _⟩
  have h4 : 24 < H := by omega
  go_enter Tryz.func81, Tryz.ntmps81
  go_wp2
  go_ret2
  exact ⟨rfl, Below.refl _ _⟩

set_option maxRecDepth 100000 in
set_option maxHeartbeats 1000000 in
theorem refNew_buf (W H n : Int) (w : World) (hW : 1 ≤ W ∧ W ≤ 24) (hH : 1 ≤ H ∧ H ≤ 24) (h : n < 1 ∨ 3 < n) :
    Calls Tryz.prog 81 #[.int .i64 W, .int .i64 H, .int .i64 n] w (NRef 10 w) := by
  obtain ⟨hW0, hW1⟩ := hW
  obtain ⟨hH0, hH1⟩ := hH
  have n1 : ¬ W < 1 := by omega
  have n2 : ¬ 24 < W := by omega
  have n3 : ¬ H < 1 := by omega
  have n4 : ¬ 24 < H := by omega
  by_cases h1 : n < 1
  · go_enter Tryz.func81, Tryz.ntmps81
    go_wp2
    go_ret2
    exact ⟨rfl, Below.refl _ _⟩
  have h4 : 3 < n := by omega
  go_enter Tryz.func81, Tryz.ntmps81
  go_wp2
  go_ret2
  exact ⟨rfl, Below.refl _ _⟩

end Go.Proofs.YtofinpocigbbeaaGreat
