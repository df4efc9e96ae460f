import Derived.Test.YtlaflopimpnjpaaGreatSg25
import Derived.Test.YtlaflopimpnjpaaGreatSg06
/-! RefE -/
namespace Go.Proofs.YtlaflopimpnjpaaGreat
open Go.RowKit
attribute [local go_sem ↓] Go.wp_at_zero Go.wp_at_succ

/-- What a call on the document's screen leaves. -/
def RPost (S : Nat → Prop) (c : Nat) (p : Int × St) (w : World) (e : Ending) (w' : World) : Prop := e = .returned (.int .i64 p.1) ∧ RefOk w' (grow S w w') c p.2 ∧ Only S w w'

theorem RPost.same {S : Nat → Prop} {c : Nat} {st : St} {w w' : World} {er : Int} (h : RefOk w S c st) (hb : Below w.heap.size w w') : RPost S c (er, st) w (.returned (.int .i64 er)) w' :=
  ⟨rfl, (h.keep fun g _ hg => hb.block g hg).mono fun _ hg => grow_self hg, Only.below hb⟩

theorem RefOk.of_upd {w w' : World} {S S' : Nat → Prop} {c : Nat} {st : St} {bv sv ov : Value} {F F' : Nat → Nat → Value} {i : Nat} {gf : Sf → Sf} (hr : RRaw w' S' c st.w st.h st.sfs.length st.order bv sv ov F') (hi : i < st.sfs.length) (hs : RSem w S st F) (hF : ∀ j, j ≠ i → F' j = F j)
    (hS : ∀ g, S g → S' g) (hpk : ∀ (b : Nat) (cur : Array Value), w.heap[b]? = some (.cells cur 55 (0, 0)) → w'.heap[b]? = w.heap[b]?) (hc : SfCells (F' i) (gf (st.sf i))) (hN : PixRow w' S' (F' i 4) ((gf (st.sf i)).now.w * (gf (st.sf i)).now.h)) (hX : PixRow w' S' (F' i 15) ((gf (st.sf i)).next.w * (gf (st.sf i)).next.h)) : RefOk w' S' c (upd st i gf) := by
  refine ⟨bv, sv, ov, F', by have h9 := hr; rw [← upd_len st i gf] at h9; exact h9, fun j hj => ?_, fun j hj => ?_, fun j hj => ?_⟩
  · rw [upd_len] at hj
    rw [upd_sf st i gf j hi]
    by_cases e : j = i
    · subst e; rw [if_pos rfl]; exact hc
    · rw [if_neg e, hF j e]; exact hs.rel j hj
  · rw [upd_len] at hj
    rw [upd_sf st i gf j hi]
    by_cases e : j = i
    · subst e; rw [if_pos rfl]; exact hN
    · rw [if_neg e, hF j e]; exact ((hs.pixN j hj).mono hS).other hpk
  · rw [upd_len] at hj
    rw [upd_sf st i gf j hi]
    by_cases e : j = i
    · subst e; rw [if_pos rfl]; exact hX
    · rw [if_neg e, hF j e]; exact ((hs.pixX j hj).mono hS).other hpk

theorem pk_set {w w' : World} {g j : Nat} {u : Value} {cur : Array Value} (hg : w.heap[g]? = some (.cells cur 118 (0, 0))) (h : ∀ (b : Nat) (c : Array Value), w.heap[b]? = some (.cells c 55 (0, 0)) → w'.heap[b]? = w.heap[b]?) : ∀ (b : Nat) (c : Array Value), w.heap[b]? = some (.cells c 55 (0, 0)) → (w'.setCell ⟨g, j, none⟩ u).heap[b]? = w.heap[b]? := fun b c hb => by
  rw [heap_setCell_other w' ⟨g, j, none⟩ b u (ne_of_type hb hg (by decide))]
  exact h b c hb

set_option maxRecDepth 100000 in
set_option maxHeartbeats 1000000 in
/-- (*Screen).Offset -/
theorem refOffset_any {S : Nat → Prop} {c : Nat} {st : St} (hw : Wf st) (id x y : Int) (w : World) (h : RefOk w S c st) :
    Calls Tryz.prog 77 #[.pointer (some ⟨c, 0, none⟩), .int .i64 id, .int .i64 x, .int .i64 y] w (RPost S c (opOffset st id x y) w) := by
  have hIs := is_any (S := S) (c := c) (st := st) id w h hw.made
  have hB := isB_iff hw id
  have HE6 := hide (RPost.same (er := 6) h (Below.refl _ _))
  have HE7 := hide (RPost.same (er := 7) h (Below.refl _ _))
  unfold opOffset
  obtain ⟨t, ht⟩ : ∃ t, st.isB id = t := ⟨_, rfl⟩
  rw [ht] at hIs hB ⊢
  cases t with
  | false =>
    rw [if_neg (by simp)]
    clear hB h
    go_enter Tryz.func77, Tryz.ntmps77
    go_wp2_with (go_at_call 51; refine hIs.mono ?_; rintro e w' ⟨rfl, hw'⟩; replace hw' := hw'.symm; subst hw')
    go_ret
    exact HE6.out
  | true =>
    rw [if_pos rfl]
    obtain ⟨i, rfl, hio⟩ := hB.1 rfl
    have hil := hw.lt hio
    rw [Int.toNat_natCast]
    obtain ⟨bv, sv, ov, F, hr, hs⟩ := h
    obtain ⟨k0, k1, k2, k3, k4, kf, kl⟩ := hr.cells
    obtain ⟨g, cap, e1, e2, e3, e4, e5, e6⟩ := hr.at (by omega)
    subst e1
    have c16 := e5 i hil 16 (by omega)
    have c17 := e5 i hil 17 (by omega)
    have f16 := e6 (i * 28 + 16)
    have f17 := e6 (i * 28 + 17)
    obtain ⟨_, cur, hcur⟩ := hr.gType
    have hne : ¬ c = g := ne_of_type hr.scr hcur (by decide)
    have hne2 : g ≠ c := fun e => hne e.symm
    have HOk : Hid (-1000 ≤ x ∧ x ≤ 1000 ∧ -1000 ≤ y ∧ y ≤ 1000 → RPost S c (0, upd st i (sfOff x y)) w (.returned (.int .i64 0)) ((w.setCell ⟨g, i * 28 + 16, none⟩ (.int .i64 x)).setCell ⟨g, i * 28 + 17, none⟩ (.int .i64 y))) := fun _ => by
      have hr2 := (hr.set hil (show 16 < 28 by omega) (.int .i64 x)).set hil (show 17 < 28 by omega) (.int .i64 y)
      have hpk := pk_set (j := i * 28 + 17) (u := .int .i64 y) hcur (pk_set (j := i * 28 + 16) (u := .int .i64 x) hcur (w' := w) fun _ _ _ => rfl)
      have q := hs.rel i hil
      refine ⟨rfl, RefOk.mono (RefOk.of_upd hr2 hil hs (fun j hj => by rw [upF_ne _ _ _ _ hj, upF_ne _ _ _ _ hj]) (fun _ h => h) hpk ?_ ?_ ?_) (fun _ h => grow_self h), ((Only.refl S w).set (.inl e2) _).set (.inl e2) _⟩
      · simp only [upF_at]
        exact ⟨q.alive, q.parent, q.nw, q.nh, q.nx, q.ny, q.ncut, q.n0, q.n1, q.n2, q.n3, q.nhint, q.xw, q.xh, rfl, rfl, q.xcut, q.x0, q.x1, q.x2, q.x3, q.xhint, q.ask, q.sib, q.above, q.kept⟩
      · simp only [upF_at]
        exact (hs.pixN i hil).other hpk
      · simp only [upF_at]
        exact (hs.pixX i hil).other hpk
    obtain ⟨n, hn⟩ : ∃ n, st.sfs.length = n := ⟨_, rfl⟩
    have hmd := hw.made
    rw [hn] at k3 e3 hmd
    have hin : i < n := by omega
    have hcap : i < cap := by omega
    have HIf : Hid (∀ (P : Ending → World → Prop) (Q : Int × St → Prop), True) := fun _ _ => trivial
    have HPost : Hid (∀ e w', (-1000 ≤ x ∧ x ≤ 1000 ∧ -1000 ≤ y ∧ y ≤ 1000 → RPost S c (0, upd st i (sfOff x y)) w e w') → (¬ (-1000 ≤ x ∧ x ≤ 1000 ∧ -1000 ≤ y ∧ y ≤ 1000) → RPost S c (7, st) w e w') → RPost S c (if -1000 ≤ x ∧ x ≤ 1000 ∧ -1000 ≤ y ∧ y ≤ 1000 then (0, upd st i (sfOff x y)) else (7, st)) w e w') := fun e w' h1 h2 => by
      split
      · rename_i h; exact h1 h
      · rename_i h; exact h2 h
    obtain ⟨post, hpost⟩ : ∃ P, P = RPost S c (if -1000 ≤ x ∧ x ≤ 1000 ∧ -1000 ≤ y ∧ y ≤ 1000 then (0, upd st i (sfOff x y)) else (7, st)) w := ⟨_, rfl⟩
    rw [← hpost] at HPost ⊢
    clear hr hs kf hn e5 e6 hcur hil hB HIf hpost HE6
    go_enter Tryz.func77, Tryz.ntmps77
    go_wp2_with (go_at_call 51; refine hIs.mono ?_; rintro e w' ⟨rfl, hw'⟩; replace hw' := hw'.symm; subst hw')
    all_goals
      try go_ret
      refine HPost.out _ _ (fun hyes => ?_) (fun hno => ?_)
      · first
          | exact HOk.out hyes
          | (exfalso; omega)
      · first
          | exact HE7.out
          | (exfalso; omega)

end Go.Proofs.YtlaflopimpnjpaaGreat

/-! RefF -/
namespace Go.Proofs.YtlaflopimpnjpaaGreat
open Go.RowKit
attribute [local go_sem ↓] Go.wp_at_zero Go.wp_at_succ

/-- Five cells of a surface are written: cut, clip. -/
theorem RefOk.clip {w w2 : World} {S : Nat → Prop} {c : Nat} {st : St} {bv ov : Value} {F : Nat → Nat → Value} {g cap i : Nat} (hb : Below w.heap.size w w2) (hr : RRaw w2 S c st.w st.h st.sfs.length st.order bv (.slice (some ⟨g, 0, none⟩) st.sfs.length cap) ov F) (hs : RSem w2 S st F) (hi : i < st.sfs.length) (t : Bool) (a0 a1 a2 a3 : Int) (gf : Sf → Sf) (hg : gf (st.sf i) = { st.sf i with next := { (st.sf i).next with cut := t, clip := (a0, a1, a2, a3) } }) :
    RPost S c (0, upd st i gf) w (.returned (.int .i64 0)) (((((w2.setCell ⟨g, i * 28 + 18, none⟩ (.bool t)).setCell ⟨g, i * 28 + 19, none⟩ (.int .i64 a0)).setCell ⟨g, i * 28 + 20, none⟩ (.int .i64 a1)).setCell ⟨g, i * 28 + 21, none⟩ (.int .i64 a2)).setCell ⟨g, i * 28 + 22, none⟩ (.int .i64 a3)) := by
  obtain ⟨e2, cur, hcur⟩ := hr.gType
  have hr2 := ((((hr.set hi (show 18 < 28 by omega) (.bool t)).set hi (show 19 < 28 by omega) (.int .i64 a0)).set hi (show 20 < 28 by omega) (.int .i64 a1)).set hi (show 21 < 28 by omega) (.int .i64 a2)).set hi (show 22 < 28 by omega) (.int .i64 a3)
  have hpk := pk_set (j := i * 28 + 22) (u := .int .i64 a3) hcur (pk_set (j := i * 28 + 21) (u := .int .i64 a2) hcur (pk_set (j := i * 28 + 20) (u := .int .i64 a1) hcur (pk_set (j := i * 28 + 19) (u := .int .i64 a0) hcur (pk_set (j := i * 28 + 18) (u := .bool t) hcur (w' := w2) fun _ _ _ => rfl))))
  have q := hs.rel i hi
  refine ⟨rfl, RefOk.mono (RefOk.of_upd hr2 hi hs (fun j hj => by simp only [upF_ne _ _ _ _ hj]) (fun _ h => h) hpk ?_ ?_ ?_) (fun _ h => grow_self h), ?_⟩
  · rw [hg]
    simp only [upF_at]
    exact ⟨q.alive, q.parent, q.nw, q.nh, q.nx, q.ny, q.ncut, q.n0, q.n1, q.n2, q.n3, q.nhint, q.xw, q.xh, q.xx, q.xy, rfl, rfl, rfl, rfl, rfl, q.xhint, q.ask, q.sib, q.above, q.kept⟩
  · rw [hg]
    simp only [upF_at]
    exact (hs.pixN i hi).other hpk
  · rw [hg]
    simp only [upF_at]
    exact (hs.pixX i hi).other hpk
  · have h0 : Only S w w2 := Only.below hb
    exact ((((h0.set (.inl e2) _).set (.inl e2) _).set (.inl e2) _).set (.inl e2) _).set (.inl e2) _

theorem RPost.drew {S : Nat → Prop} {c : Nat} {p : Int × St} {w w' : World} {e : Ending} (h : RPost S c p w e w') : RPost S c p w e w'.drew := ⟨h.1, h.2.1.keep fun _ _ _ => rfl, h.2.2.drew⟩

set_option maxRecDepth 100000 in
set_option maxHeartbeats 1000000 in
/-- (*Screen).Unclip -/
theorem refUnclip_any {S : Nat → Prop} {c : Nat} {st : St} (hw : Wf st) (id : Int) (w : World) (h : RefOk w S c st) :
    Calls Tryz.prog 81 #[.pointer (some ⟨c, 0, none⟩), .int .i64 id] w (RPost S c (opUnclip st id) w) := by
  have hIs := is_any (S := S) (c := c) (st := st) id w h hw.made
  have hB := isB_iff hw id
  have HE6 := hide (RPost.same (er := 6) h (Below.refl _ _))
  unfold opUnclip
  obtain ⟨t, ht⟩ : ∃ t, st.isB id = t := ⟨_, rfl⟩
  rw [ht] at hIs hB ⊢
  cases t with
  | false =>
    rw [if_neg (by simp)]
    clear hB h
    go_enter Tryz.func81, Tryz.ntmps81
    go_wp2_with (go_at_call 51; refine hIs.mono ?_; rintro e w' ⟨rfl, hw'⟩; replace hw' := hw'.symm; subst hw')
    go_ret
    exact HE6.out
  | true =>
    rw [if_pos rfl]
    obtain ⟨i, rfl, hio⟩ := hB.1 rfl
    have hil := hw.lt hio
    rw [Int.toNat_natCast]
    obtain ⟨bv, sv, ov, F, hr, hs⟩ := h
    obtain ⟨k0, k1, k2, k3, k4, kf, kl⟩ := hr.cells
    obtain ⟨g, cap, e1, e2, e3, e4, e5, e6⟩ := hr.at (by omega)
    subst e1
    have c18 := e5 i hil 18 (by omega)
    have c19 := e5 i hil 19 (by omega)
    have c20 := e5 i hil 20 (by omega)
    have c21 := e5 i hil 21 (by omega)
    have c22 := e5 i hil 22 (by omega)
    have f18 := e6 (i * 28 + 18)
    have f19 := e6 (i * 28 + 19)
    have f20 := e6 (i * 28 + 20)
    have f21 := e6 (i * 28 + 21)
    have f22 := e6 (i * 28 + 22)
    obtain ⟨_, cur, hcur⟩ := hr.gType
    have hne : ¬ c = g := ne_of_type hr.scr hcur (by decide)
    have hne2 : g ≠ c := fun e => hne e.symm
    have HOk := hide (RefOk.clip (Below.refl _ _) hr hs hil false 0 0 0 0 sfUnclip rfl)
    obtain ⟨n, hn⟩ : ∃ n, st.sfs.length = n := ⟨_, rfl⟩
    have hmd := hw.made
    rw [hn] at k3 e3 hmd
    have hin : i < n := by omega
    have hcap : i < cap := by omega
    clear hr hs kf hn e5 e6 hcur hil hB HE6
    go_enter Tryz.func81, Tryz.ntmps81
    go_wp2_with (go_at_call 51; refine hIs.mono ?_; rintro e w' ⟨rfl, hw'⟩; replace hw' := hw'.symm; subst hw')
    go_ret
    exact HOk.out

set_option maxRecDepth 100000 in
set_option maxHeartbeats 1000000 in
/-- (*Screen).Clip -/
theorem refClip_any {S : Nat → Prop} {c : Nat} {st : St} (hw : Wf st) (id a0 a1 a2 a3 : Int) (w : World) (h : RefOk w S c st) :
    Calls Tryz.prog 79 #[.pointer (some ⟨c, 0, none⟩), .int .i64 id, .agg #[.int .i64 a0, .int .i64 a1, .int .i64 a2, .int .i64 a3]] w (RPost S c (opClip st id (a0, a1, a2, a3) (fitR (a0, a1, a2, a3))) w) := by
  have hb0 := fun o => al1 (Nat.le_refl w.heap.size) o
  have HIs := hide (fun W (hW : Below w.heap.size w W) => is_any (S := S) (c := c) (st := st) id W (h.keep fun g _ hg => hW.block g hg) hw.made)
  have hB := isB_iff hw id
  have HE := hide (fun er W (hW : Below w.heap.size w W) => RPost.same (er := er) h hW)
  have HFt := hide (fun W => refFits_any a0 a1 a2 a3 W)
  unfold opClip
  obtain ⟨t, ht⟩ : ∃ t, st.isB id = t := ⟨_, rfl⟩
  obtain ⟨ft, hft⟩ : ∃ t, fitR (a0, a1, a2, a3) = t := ⟨_, rfl⟩
  rw [ht] at HIs hB ⊢
  rw [hft] at HFt ⊢
  clear ht hft
  cases t with
  | false =>
    rw [if_neg (by simp)]
    clear hB h
    go_enter Tryz.func79, Tryz.ntmps79
    go_wp2_with (go_at_call 51; refine (HIs.out _ (hb0 _)).mono ?_; rintro e w' ⟨rfl, hw'⟩; replace hw' := hw'.symm; subst hw')
    go_ret
    exact HE.out 6 _ (hb0 _)
  | true =>
    rw [if_pos rfl]
    obtain ⟨i, rfl, hio⟩ := hB.1 rfl
    have hil := hw.lt hio
    rw [Int.toNat_natCast]
    cases ft with
    | false =>
      rw [if_neg (by simp)]
      clear hB h hil hio
      go_enter Tryz.func79, Tryz.ntmps79
      go_wp2_with (first
        | (go_at_call 51; refine (HIs.out _ (hb0 _)).mono ?_; rintro e w' ⟨rfl, hw'⟩; replace hw' := hw'.symm; subst hw')
        | (go_at_call 95; refine (HFt.out _).mono ?_; rintro e w2 ⟨rfl, hb2⟩; have HB2 := hide ((hb0 _).trans (hb2.mono (by simp))); clear hb2))
      go_ret
      exact HE.out 3 _ HB2.out
    | true =>
      rw [if_pos rfl]
      obtain ⟨bv, sv, ov, F, hr, hs⟩ := h
      obtain ⟨g, cap, e1, e2, e3, e4, e5, e6⟩ := hr.at (by omega)
      subst e1
      obtain ⟨_, cur, hcur⟩ := hr.gType
      have hne : ¬ c = g := ne_of_type hr.scr hcur (by decide)
      have hne2 : g ≠ c := fun e => hne e.symm
      have hcl := (Array.getElem?_eq_some_iff.1 hr.scr).1
      have HOk : Hid (∀ w2, Below w.heap.size w w2 → RPost S c (0, upd st i (sfClip (a0, a1, a2, a3))) w (.returned (.int .i64 0)) (((((w2.setCell ⟨g, i * 28 + 18, none⟩ (.bool true)).setCell ⟨g, i * 28 + 19, none⟩ (.int .i64 a0)).setCell ⟨g, i * 28 + 20, none⟩ (.int .i64 a1)).setCell ⟨g, i * 28 + 21, none⟩ (.int .i64 a2)).setCell ⟨g, i * 28 + 22, none⟩ (.int .i64 a3))) := fun w2 hb => RefOk.clip hb (hr.below hb) (hs.below hb) hil true a0 a1 a2 a3 (sfClip (a0, a1, a2, a3)) rfl
      obtain ⟨n, hn⟩ : ∃ n, st.sfs.length = n := ⟨_, rfl⟩
      have hmd := hw.made
      have HC : Hid (∀ W, Below w.heap.size w W → W.cell? ⟨c, 3, none⟩ = some (.slice (some ⟨g, 0, none⟩) n cap) ∧ (∀ o, o < 28 → W.cell? ⟨g, i * 28 + o, none⟩ = some (F i o)) ∧ ∀ j, W.frozen? ⟨g, j, none⟩ = false) := fun W hW => by
        have r2 := hr.below hW
        obtain ⟨k0, k1, k2, k3, k4, kf, kl⟩ := r2.cells
        obtain ⟨g', cap', q1, q2, q3, q4, q5, q6⟩ := r2.at (by omega)
        injection q1 with q11 q12 q13
        injection q11 with q11
        injection q11 with q11
        subst q11
        rw [hn] at k3
        exact ⟨k3, fun o ho => q5 i hil o ho, q6⟩
      rw [hn] at e3 hmd
      have hin : i < n := by omega
      have hcap : i < cap := by omega
      clear hr hs hn e5 e6 hcur hil hB HE
      go_enter Tryz.func79, Tryz.ntmps79
      go_upto_region 7 with (first
        | (go_at_call 51; refine (HIs.out _ (hb0 _)).mono ?_; rintro e w' ⟨rfl, hw'⟩; replace hw' := hw'.symm; subst hw')
        | (go_at_call 95; refine (HFt.out _).mono ?_; rintro e w2 ⟨rfl, hb2⟩; have HR2 := hide (hb2.block w.heap.size (by simp)); have HB2 := hide ((hb0 _).trans (hb2.mono (by simp))); have hs2 := hb2.size; clear hb2))
      obtain ⟨k3, kc, kf⟩ := HC.out w2 HB2.out
      have c18 := kc 18 (by omega)
      have c19 := kc 19 (by omega)
      have c20 := kc 20 (by omega)
      have c21 := kc 21 (by omega)
      have c22 := kc 22 (by omega)
      have f18 := kf (i * 28 + 18)
      have f19 := kf (i * 28 + 19)
      have f20 := kf (i * 28 + 20)
      have f21 := kf (i * 28 + 21)
      have f22 := kf (i * 28 + 22)
      have hbr : Blk w2 w.heap.size 37 #[.int .i64 a0, .int .i64 a1, .int .i64 a2, .int .i64 a3] := HR2.out.trans (heap_alloc_new w _)
      have r0 : w2.cell? ⟨w.heap.size, 0, none⟩ = some (.int .i64 a0) := hbr.cell 0
      have r1 : w2.cell? ⟨w.heap.size, 1, none⟩ = some (.int .i64 a1) := hbr.cell 1
      have r2 : w2.cell? ⟨w.heap.size, 2, none⟩ = some (.int .i64 a2) := hbr.cell 2
      have r3 : w2.cell? ⟨w.heap.size, 3, none⟩ = some (.int .i64 a3) := hbr.cell 3
      have hgr : g ≠ w.heap.size := by omega
      have hgr2 : ¬ w.heap.size = g := by omega
      clear kc kf hbr
      go_upto_region 8 with fail
      go_region
      all_goals
        go_wp2
        go_ret
        exact (HOk.out w2 HB2.out).drew

end Go.Proofs.YtlaflopimpnjpaaGreat

/-! RefG -/
namespace Go.Proofs.YtlaflopimpnjpaaGreat
open Go.RowKit
attribute [local go_sem ↓] Go.wp_at_zero Go.wp_at_succ

theorem RPost.drewN {S : Nat → Prop} {c : Nat} {p : Int × St} {w w' : World} {e : Ending} (h : RPost S c p w e w') (n : Nat) : RPost S c p w e (w'.drewN n) := ⟨h.1, h.2.1.keep fun _ _ _ => rfl, h.2.2.drewN n⟩

set_option maxRecDepth 100000 in
set_option maxHeartbeats 1000000 in
/-- (*Screen).Stack -/
theorem refStack_any {S : Nat → Prop} {c : Nat} {st : St} (hw : Wf st) (id sb : Int) (ab : Bool) (w : World) (h : RefOk w S c st) :
    Calls Tryz.prog 85 #[.pointer (some ⟨c, 0, none⟩), .int .i64 id, .int .i64 sb, .bool ab] w (RPost S c (opStack st id sb ab) w) := by
  have hI1 := is_any (S := S) (c := c) (st := st) id w h hw.made
  have hI2 := is_any (S := S) (c := c) (st := st) sb w h hw.made
  have hB1 := isB_iff hw id
  have hB2 := isB_iff hw sb
  have HE := hide (fun er W (hW : Below w.heap.size w W) => RPost.same (er := er) h hW)
  unfold opStack
  obtain ⟨t1, ht1⟩ : ∃ t, st.isB id = t := ⟨_, rfl⟩
  obtain ⟨t2, ht2⟩ : ∃ t, st.isB sb = t := ⟨_, rfl⟩
  rw [ht1] at hI1 hB1 ⊢
  rw [ht2] at hI2 hB2 ⊢
  have htt : id = sb → t1 = t2 := fun e => by rw [← ht1, ← ht2, e]
  clear ht1 ht2
  by_cases hbo : t1 = true ∧ t2 = true
  · rw [if_pos hbo]
    obtain ⟨rfl, rfl⟩ := hbo
    obtain ⟨i, rfl, hio⟩ := hB1.1 rfl
    obtain ⟨s, rfl, hso⟩ := hB2.1 rfl
    have hil := hw.lt hio
    have hsl := hw.lt hso
    rw [Int.toNat_natCast, Int.toNat_natCast]
    obtain ⟨bv, sv, ov, F, hr, hs⟩ := h
    obtain ⟨k0, k1, k2, k3, k4, kf, kl⟩ := hr.cells
    obtain ⟨g, cap, e1, e2, e3, e4, e5, e6⟩ := hr.at (by omega)
    subst e1
    have c1 := e5 i hil 1 (by omega)
    have d1 := e5 s hsl 1 (by omega)
    rw [(hs.rel i hil).parent] at c1
    rw [(hs.rel s hsl).parent] at d1
    have c24 := e5 i hil 24 (by omega)
    have c25 := e5 i hil 25 (by omega)
    have c26 := e5 i hil 26 (by omega)
    have f24 := e6 (i * 28 + 24)
    have f25 := e6 (i * 28 + 25)
    have f26 := e6 (i * 28 + 26)
    obtain ⟨_, cur, hcur⟩ := hr.gType
    have hne : ¬ c = g := ne_of_type hr.scr hcur (by decide)
    have hne2 : g ≠ c := fun e => hne e.symm
    have HOk : Hid (∀ n : Nat, RPost S c (0, upd st i (sfStack s ab)) w (.returned (.int .i64 0)) ((((w.drewN n).setCell ⟨g, i * 28 + 24, none⟩ (.bool true)).setCell ⟨g, i * 28 + 25, none⟩ (.int .i64 s)).setCell ⟨g, i * 28 + 26, none⟩ (.bool ab))) := fun n => by
      have hb : Below w.heap.size w (w.drewN n) := below_drewN (Below.refl _ _) n
      have hr' := hr.below hb
      have hs' := hs.below hb
      have hcur' : (w.drewN n).heap[g]? = some (.cells cur 118 (0, 0)) := hcur
      have hr2 := ((hr'.set hil (show 24 < 28 by omega) (.bool true)).set hil (show 25 < 28 by omega) (.int .i64 s)).set hil (show 26 < 28 by omega) (.bool ab)
      have hpk := pk_set (j := i * 28 + 26) (u := .bool ab) hcur' (pk_set (j := i * 28 + 25) (u := .int .i64 s) hcur' (pk_set (j := i * 28 + 24) (u := .bool true) hcur' (w' := w.drewN n) fun _ _ _ => rfl))
      have q := hs'.rel i hil
      refine ⟨rfl, RefOk.mono (RefOk.of_upd hr2 hil hs' (fun j hj => by simp only [upF_ne _ _ _ _ hj]) (fun _ h => h) hpk ?_ ?_ ?_) (fun _ h => grow_self h), (((Only.below hb).set (.inl e2) _).set (.inl e2) _).set (.inl e2) _⟩
      · simp only [upF_at]
        exact ⟨q.alive, q.parent, q.nw, q.nh, q.nx, q.ny, q.ncut, q.n0, q.n1, q.n2, q.n3, q.nhint, q.xw, q.xh, q.xx, q.xy, q.xcut, q.x0, q.x1, q.x2, q.x3, q.xhint, rfl, rfl, rfl, q.kept⟩
      · simp only [upF_at]
        exact (hs'.pixN i hil).other hpk
      · simp only [upF_at]
        exact (hs'.pixX i hil).other hpk
    obtain ⟨n, hn⟩ : ∃ n, st.sfs.length = n := ⟨_, rfl⟩
    have hmd := hw.made
    rw [hn] at k3 e3 hmd
    have hin : i < n := by omega
    have hsn : s < n := by omega
    have hcap : i < cap := by omega
    have hscap : s < cap := by omega
    have hinI : (i : Int) < (n : Int) := by omega
    have hsnI : (s : Int) < (n : Int) := by omega
    have hi0 : (0 : Int) ≤ (i : Int) := by omega
    have hs0 : (0 : Int) ≤ (s : Int) := by omega
    have HI1 := hide hI1
    have HI2 := hide hI2
    clear hr hs kf hn e5 e6 hcur hil hsl hB1 hB2 hI1 hI2
    by_cases his : (i : Int) = (s : Int)
    · rw [if_neg (fun hh => hh.1 his)]
      have hdec : decide ((i : Int) = (s : Int)) = true := by simpa using his
      have hbeq : ((i : Int) == (s : Int)) = true := by simpa using his
      go_enter Tryz.func85, Tryz.ntmps85
      go_upto_region 5 with (first
        | (go_at_call_of 51 (Value.int .i64 (i : Int)); refine HI1.out.mono ?_; rintro e w' ⟨rfl, hw'⟩; replace hw' := hw'.symm; subst hw')
        | (go_at_call 51; refine HI2.out.mono ?_; rintro e w' ⟨rfl, hw'⟩; replace hw' := hw'.symm; subst hw'))
      go_quiet (fail)
      go_wp2
      go_ret
      exact HE.out 8 _ (below_drewN (Below.refl _ _) _)
    · have hdec : decide ((i : Int) = (s : Int)) = false := by simpa using his
      have hbeq : ((i : Int) == (s : Int)) = false := by simpa using his
      by_cases hpp : (st.sf i).parent = (st.sf s).parent
      · rw [if_pos ⟨his, hpp⟩]
        rw [← hpp] at d1
        generalize (st.sf i).parent = P at *
        go_enter Tryz.func85, Tryz.ntmps85
        go_upto_region 5 with (first
          | (go_at_call_of 51 (Value.int .i64 (i : Int)); refine HI1.out.mono ?_; rintro e w' ⟨rfl, hw'⟩; replace hw' := hw'.symm; subst hw')
          | (go_at_call 51; refine HI2.out.mono ?_; rintro e w' ⟨rfl, hw'⟩; replace hw' := hw'.symm; subst hw'))
        go_quiet (fail)
        go_wp2
        go_ret
        exact HOk.out _
      · rw [if_neg (fun hh => hpp hh.2)]
        generalize (st.sf i).parent = P at *
        generalize (st.sf s).parent = Q at *
        go_enter Tryz.func85, Tryz.ntmps85
        go_upto_region 5 with (first
          | (go_at_call_of 51 (Value.int .i64 (i : Int)); refine HI1.out.mono ?_; rintro e w' ⟨rfl, hw'⟩; replace hw' := hw'.symm; subst hw')
          | (go_at_call 51; refine HI2.out.mono ?_; rintro e w' ⟨rfl, hw'⟩; replace hw' := hw'.symm; subst hw'))
        go_quiet (fail)
        go_wp2
        go_ret
        exact HE.out 8 _ (below_drewN (Below.refl _ _) _)
  · rw [if_neg hbo]
    have HI1 := hide hI1
    have HI2 := hide hI2
    clear hB1 hB2 hI1 hI2 h
    by_cases hii : id = sb
    · have h2 := htt hii
      subst hii
      subst h2
      cases t1 <;> simp at hbo
      all_goals
        go_enter Tryz.func85, Tryz.ntmps85
        go_wp2_with (go_at_call 51; refine HI1.out.mono ?_; rintro e w' ⟨rfl, hw'⟩; replace hw' := hw'.symm; subst hw')
        go_ret
        exact HE.out 6 _ (Below.refl _ _)
    · cases t1 <;> cases t2 <;> simp at hbo
      all_goals
        go_enter Tryz.func85, Tryz.ntmps85
        go_wp2_with (first
          | (go_at_call_of 51 (Value.int .i64 id); refine HI1.out.mono ?_; rintro e w' ⟨rfl, hw'⟩; replace hw' := hw'.symm; subst hw')
          | (go_at_call_of 51 (Value.int .i64 sb); refine HI2.out.mono ?_; rintro e w' ⟨rfl, hw'⟩; replace hw' := hw'.symm; subst hw'))
        go_ret
        exact HE.out 6 _ (Below.refl _ _)

end Go.Proofs.YtlaflopimpnjpaaGreat
