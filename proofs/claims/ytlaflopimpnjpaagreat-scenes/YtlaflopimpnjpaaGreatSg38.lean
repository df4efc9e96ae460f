import Derived.Test.YtlaflopimpnjpaaGreatSg37
/-! OnA -/
namespace Go.Proofs.YtlaflopimpnjpaaGreat
open Go.RowKit
attribute [local go_sem ↓] Go.wp_at_zero Go.wp_at_succ

/-- The pixels of an Op are the caller's, as they were. -/
structure OpPix (n0 : Nat) (w : World) (pv : Value) (l : List R4) : Prop where
  at' : ∀ W, Only (fun g => n0 ≤ g) w W → PixAt W pv l
  form : (pv = .slice none 0 0 ∧ l = []) ∨ ∃ ad c, pv = .slice (some ad) l.length c
  fit : l.length * 4 ≤ 140737488351232

theorem OpPix.only {n0 : Nat} {w W : World} {pv : Value} {l : List R4} (h : OpPix n0 w pv l) (ho : Only (fun g => n0 ≤ g) w W) : OpPix n0 W pv l :=
  ⟨fun W' hW' => h.at' W' (ho.trans (hW'.mono fun _ _ hg => .inl hg)), h.form, h.fit⟩

theorem asked_all {n0 : Nat} {w : World} {pb N : Nat} {ps : Value} {L : List Scr} (h : Inv n0 w pb N ps L) {i : Nat} {s : Scr} (hi : L[i]? = some s) (kd k a b c : Int) (y : Bool) (r : R4) (lv mv pv : Value) (l : List R4) (hp : OpPix n0 w pv l)
    (hk : kd = 4 ∨ kd = 5 ∨ kd = 6 ∨ kd = 7 ∨ kd = 9) :
    Calls Tryz.prog 33 #[pairV s, .agg (opCells kd k a b c y r lv mv pv)] w (StepPost n0 pb N ps L w) := by
  rcases hk with rfl | rfl | rfl | rfl | rfl
  · exact asked_attach h hi k a b c y r lv mv pv l hp.at' hp.form hp.fit
  · exact asked_offset h hi k a b c y r lv mv pv
  · exact asked_clip h hi k a b c y r lv mv pv
  · exact asked_unclip h hi k a b c y r lv mv pv
  · exact asked_stack h hi k a b c y r lv mv pv

theorem StepPost.before {n0 : Nat} {pb N : Nat} {ps : Value} {L : List Scr} {w W w' : World} {e : Ending} (hb : Below w.heap.size w W) (h : StepPost n0 pb N ps L W e w') : StepPost n0 pb N ps L w e w' := by
  obtain ⟨h1, h2, h3, h4⟩ := h
  refine ⟨h1, h2, fun g cur t ht hg => ?_, (Only.below hb).trans (h4.mono fun _ _ hg => .inl hg)⟩
  have e := hb.block g (Array.getElem?_eq_some_iff.1 hg).1
  exact (h3 g cur t ht (e.trans hg)).trans e

set_option maxRecDepth 100000 in
set_option maxHeartbeats 1000000 in
/-- on: what is asked for -/
theorem on_asked {n0 : Nat} {w : World} {pb N : Nat} {ps : Value} {L : List Scr} (h : Inv n0 w pb N ps L) {i : Nat} {s : Scr} (hi : L[i]? = some s) (kd k a b c : Int) (y : Bool) (r : R4) (lv mv pv : Value) (l : List R4) (hp : OpPix n0 w pv l)
    (hk : kd = 4 ∨ kd = 5 ∨ kd = 6 ∨ kd = 7 ∨ kd = 9) :
    Calls Tryz.prog 10 #[.pointer (some ⟨pb, 0, none⟩), pairV s, .agg (opCells kd k a b c y r lv mv pv)] w (StepPost n0 pb N ps L w) := by
  have HC : Hid (∀ W, Below w.heap.size w W → Calls Tryz.prog 33 #[pairV s, .agg (opCells kd k a b c y r lv mv pv)] W fun e w' => e = .returned (.bool true) ∧ Hid (StepPost n0 pb N ps L w (.returned (.bool true)) w')) := fun W hW => (asked_all (h.below hW) hi kd k a b c y r lv mv pv l (hp.only (Only.below hW)) hk).mono fun e w' hh => by
    have := hh.1
    subst this
    exact ⟨rfl, hh.before hW⟩
  clear h hi hp
  unfold pairV opCells at *
  rcases hk with rfl | rfl | rfl | rfl | rfl
  all_goals
    go_enter Tryz.func10, Tryz.ntmps10
    go_wp2_with (go_at_call 33; refine (HC.out _ (al2 (Nat.le_refl _) _ _)).mono ?_; rintro e w' ⟨rfl, HH⟩)
    go_ret
    exact HH.out

set_option maxRecDepth 100000 in
set_option maxHeartbeats 1000000 in
/-- on: Make -/
theorem on_make {n0 : Nat} {w : World} {pb N : Nat} {ps : Value} {L : List Scr} (h : Inv n0 w pb N ps L) {i : Nat} {s : Scr} (hi : L[i]? = some s) (k a b c : Int) (y : Bool) (r : R4) (lv mv pv : Value) :
    Calls Tryz.prog 10 #[.pointer (some ⟨pb, 0, none⟩), pairV s, .agg (opCells 2 k a b c y r lv mv pv)] w (StepPost n0 pb N ps L w) := by
  obtain ⟨nn, er, st', ho⟩ : ∃ nn er st', opMake s.st a = (nn, er, st') := ⟨_, _, _, rfl⟩
  have hf : Fine st' := by
    have := fine_make (h.pane hi (Below.refl _ _)).2 a
    rw [ho] at this
    exact this
  have HP : Hid (∀ W, Below w.heap.size w W → Calls Tryz.prog 22 #[.pointer (some ⟨s.x, 0, none⟩), .int .i64 a] W (PMPost s.A s.x (nn, er, st') W)) := fun W hW => by
    have := paMake_any (h.pane hi hW).2.wf a W (h.pane hi hW).1
    rw [ho] at this
    exact this
  have HR : Hid (∀ W1 W, Below w.heap.size w W1 → Only s.A W1 W → Calls Tryz.prog 23 #[.pointer (some ⟨s.c, 0, none⟩), .int .i64 a] W (MPost s.B s.c (nn, er, st') W)) := fun W1 W hW1 hW => by
    have := refMake_any (h.pane hi hW1).2.wf a W (h.ref hi hW1 hW).1
    rw [ho] at this
    exact this
  have HIn := hide (h.inA hi)
  have HI := hide (And.intro h (And.intro hi hf))
  clear h hi hf ho
  unfold pairV opCells
  obtain ⟨post, hpost⟩ : ∃ P, P = StepPost n0 pb N ps L w := ⟨_, rfl⟩
  rw [← hpost]
  have HPo := hide hpost
  clear hpost
  go_enter Tryz.func10, Tryz.ntmps10
  go_wp2_with (first
    | (go_at_call 22; refine (HP.out _ (al2 (Nat.le_refl _) _ _)).mono ?_; rintro e w2 ⟨rfl, hP, oP⟩; obtain ⟨b1, b2⟩ := boxes_stay HIn.out.1 oP; have c1 := cell_of_row w2 _ 1 _ _ _ b1; have c2 := cell_of_row w2 _ 2 _ _ _ b2; simp only [List.getElem?_toArray, List.getElem?_cons_zero, List.getElem?_cons_succ] at c1 c2; have H2 := hide (And.intro hP oP); clear hP oP b1 b2)
    | (go_at_call 23; refine (HR.out _ _ (al2 (Nat.le_refl _) _ _) H2.out.2).mono ?_; rintro e w3 ⟨rfl, hR, oR⟩; have H3 := hide (And.intro hR oR); clear hR oR))
  try go_ret
  rw [HPo.out]
  exact HI.out.1.done HI.out.2.1 (al2 (Nat.le_refl _) _ _) H2.out.1 H2.out.2 H3.out.1 H3.out.2 HI.out.2.2 (Only.refl _ _)

set_option maxRecDepth 100000 in
set_option maxHeartbeats 1000000 in
/-- on: Destroy -/
theorem on_destroy {n0 : Nat} {w : World} {pb N : Nat} {ps : Value} {L : List Scr} (h : Inv n0 w pb N ps L) {i : Nat} {s : Scr} (hi : L[i]? = some s) (k a b c : Int) (y : Bool) (r : R4) (lv mv pv : Value) :
    Calls Tryz.prog 10 #[.pointer (some ⟨pb, 0, none⟩), pairV s, .agg (opCells 3 k a b c y r lv mv pv)] w (StepPost n0 pb N ps L w) := by
  obtain ⟨er, st', ho⟩ : ∃ er st', opDestroy s.st a = (er, st') := ⟨_, _, rfl⟩
  have hf : Fine st' := by
    have := fine_destroy (h.pane hi (Below.refl _ _)).2 a
    rw [ho] at this
    exact this
  have HP : Hid (∀ W, Below w.heap.size w W → Calls Tryz.prog 24 #[.pointer (some ⟨s.x, 0, none⟩), .int .i64 a] W (PPost s.A s.x (er, st') W)) := fun W hW => by
    have := paDestroy_any (h.pane hi hW).2.wf a W (h.pane hi hW).1
    rw [ho] at this
    exact this
  have HR : Hid (∀ W1 W, Below w.heap.size w W1 → Only s.A W1 W → Calls Tryz.prog 25 #[.pointer (some ⟨s.c, 0, none⟩), .int .i64 a] W (RPost s.B s.c (er, st') W)) := fun W1 W hW1 hW => by
    have := refDestroy_any (h.pane hi hW1).2.wf a W (h.ref hi hW1 hW).1
    rw [ho] at this
    exact this
  have HIn := hide (h.inA hi)
  have HI := hide (And.intro h (And.intro hi hf))
  clear h hi hf ho
  unfold pairV opCells
  obtain ⟨post, hpost⟩ : ∃ P, P = StepPost n0 pb N ps L w := ⟨_, rfl⟩
  rw [← hpost]
  have HPo := hide hpost
  clear hpost
  go_enter Tryz.func10, Tryz.ntmps10
  go_wp2_with (first
    | (go_at_call 24; refine (HP.out _ (al2 (Nat.le_refl _) _ _)).mono ?_; rintro e w2 ⟨rfl, hP, oP⟩; obtain ⟨b1, b2⟩ := boxes_stay HIn.out.1 oP; have c1 := cell_of_row w2 _ 1 _ _ _ b1; have c2 := cell_of_row w2 _ 2 _ _ _ b2; simp only [List.getElem?_toArray, List.getElem?_cons_zero, List.getElem?_cons_succ] at c1 c2; have H2 := hide (And.intro hP oP); clear hP oP b1 b2)
    | (go_at_call 25; refine (HR.out _ _ (al2 (Nat.le_refl _) _ _) H2.out.2).mono ?_; rintro e w3 ⟨rfl, hR, oR⟩; have H3 := hide (And.intro hR oR); clear hR oR))
  try go_ret
  rw [HPo.out]
  exact HI.out.1.done HI.out.2.1 (al2 (Nat.le_refl _) _ _) H2.out.1 H2.out.2 H3.out.1 H3.out.2 HI.out.2.2 (Only.refl _ _)

set_option maxRecDepth 100000 in
set_option maxHeartbeats 1000000 in
/-- on: Commit -/
theorem on_commit {n0 : Nat} {w : World} {pb N : Nat} {ps : Value} {L : List Scr} (h : Inv n0 w pb N ps L) {i : Nat} {s : Scr} (hi : L[i]? = some s) (k a b c : Int) (y : Bool) (r : R4) (lv mv pv : Value) :
    Calls Tryz.prog 10 #[.pointer (some ⟨pb, 0, none⟩), pairV s, .agg (opCells 10 k a b c y r lv mv pv)] w (StepPost n0 pb N ps L w) := by
  obtain ⟨er, st', ho⟩ : ∃ er st', opCommit s.st a = (er, st') := ⟨_, _, rfl⟩
  have hf : Fine st' := by
    have := fine_commit (h.pane hi (Below.refl _ _)).2 a
    rw [ho] at this
    exact this
  have HP : Hid (∀ W, Below w.heap.size w W → Calls Tryz.prog 26 #[.pointer (some ⟨s.x, 0, none⟩), .int .i64 a] W (PPost s.A s.x (er, st') W)) := fun W hW => by
    have := paCommit_any (h.pane hi hW).2 a W (h.pane hi hW).1
    rw [ho] at this
    exact this
  have HR : Hid (∀ W1 W, Below w.heap.size w W1 → Only s.A W1 W → Calls Tryz.prog 27 #[.pointer (some ⟨s.c, 0, none⟩), .int .i64 a] W (RPost s.B s.c (er, st') W)) := fun W1 W hW1 hW => by
    have := refCommit_any (h.pane hi hW1).2 a W (h.ref hi hW1 hW).1 (h.ref hi hW1 hW).2
    rw [ho] at this
    exact this
  have HIn := hide (h.inA hi)
  have HI := hide (And.intro h (And.intro hi hf))
  clear h hi hf ho
  unfold pairV opCells
  obtain ⟨post, hpost⟩ : ∃ P, P = StepPost n0 pb N ps L w := ⟨_, rfl⟩
  rw [← hpost]
  have HPo := hide hpost
  clear hpost
  go_enter Tryz.func10, Tryz.ntmps10
  go_wp2_with (first
    | (go_at_call 26; refine (HP.out _ (al2 (Nat.le_refl _) _ _)).mono ?_; rintro e w2 ⟨rfl, hP, oP⟩; obtain ⟨b1, b2⟩ := boxes_stay HIn.out.1 oP; have c1 := cell_of_row w2 _ 1 _ _ _ b1; have c2 := cell_of_row w2 _ 2 _ _ _ b2; simp only [List.getElem?_toArray, List.getElem?_cons_zero, List.getElem?_cons_succ] at c1 c2; have H2 := hide (And.intro hP oP); clear hP oP b1 b2)
    | (go_at_call 27; refine (HR.out _ _ (al2 (Nat.le_refl _) _ _) H2.out.2).mono ?_; rintro e w3 ⟨rfl, hR, oR⟩; have H3 := hide (And.intro hR oR); clear hR oR))
  try go_ret
  rw [HPo.out]
  exact HI.out.1.done HI.out.2.1 (al2 (Nat.le_refl _) _ _) H2.out.1 H2.out.2 H3.out.1 H3.out.2 HI.out.2.2 (Only.refl _ _)

end Go.Proofs.YtlaflopimpnjpaaGreat

/-! OnB -/
namespace Go.Proofs.YtlaflopimpnjpaaGreat
open Go.RowKit
attribute [local go_sem ↓] Go.wp_at_zero Go.wp_at_succ

set_option maxRecDepth 100000 in
set_option maxHeartbeats 1000000 in
/-- on: Views -/
theorem on_views {n0 : Nat} {w : World} {pb N : Nat} {ps : Value} {L : List Scr} (h : Inv n0 w pb N ps L) (hN : N ≤ 1000000000000) {i : Nat} {s : Scr} (hi : L[i]? = some s) (k a b c : Int) (y : Bool) (r : R4) (lv mv pv : Value) :
    Calls Tryz.prog 10 #[.pointer (some ⟨pb, 0, none⟩), pairV s, .agg (opCells 11 k a b c y r lv mv pv)] w (StepPost n0 pb N ps L w) := by
  obtain ⟨V, hV⟩ : ∃ V, s.st.vis (s.st.dfs (-1)) = V := ⟨_, rfl⟩
  have hVl : V.length ≤ 12 := by
    have h1 := vis_len (st := s.st) (s.st.dfs (-1))
    have h2 := dfs_len (h.pane hi (Below.refl _ _)).2.wf (p := -1) (by omega)
    rw [← hV]
    omega
  have HP : Hid (∀ W, Below w.heap.size w W → Calls Tryz.prog 28 #[.pointer (some ⟨s.x, 0, none⟩)] W fun e w' => ∃ v, e = .returned v ∧ OwnV w' W.heap.size v s.st V ∧ Below W.heap.size W w') := fun W hW => by
    have := paViews_any (h.pane hi hW).2.wf (h.pane hi hW).1
    unfold ViewsPost at this
    rw [hV] at this
    exact this
  have HR : Hid (∀ W, Below w.heap.size w W → Calls Tryz.prog 30 #[.pointer (some ⟨s.c, 0, none⟩)] W fun e w' => ∃ v, e = .returned v ∧ OwnV w' W.heap.size v s.st V ∧ Below W.heap.size W w') := fun W hW => by
    have := refViews_any (h.pane hi hW).2.wf W (h.ref hi hW (Only.refl _ _)).1
    unfold ViewsPost at this
    rw [hV] at this
    exact this
  have HB : Hid (∀ W W3 v, Below w.heap.size w W → Below W.heap.size W W3 → OwnV W3 W.heap.size v s.st V → Calls Tryz.prog 31 #[.pointer (some ⟨pb, 1, none⟩), v] W3 fun e w' => e = .returned (.tuple #[]) ∧ Hid (StepPost n0 pb N ps L w (.returned (.bool true)) w')) := fun W W3 v hW hW3 hv => by
    have hI := h.below hW
    obtain ⟨pc, cv, xs, hbk, hp0, hcv⟩ := hI.play
    refine (views_any (n := V.length) hW3 hbk hN (by omega) ⟨_, hv⟩).mono ?_
    rintro e w' ⟨rfl, ⟨cv', xs', hb', hc'⟩, ho⟩
    refine ⟨rfl, ?_⟩
    obtain ⟨q1, q2, q3⟩ := hI.viewed hbk hp0 hcv hW3 hb' hc' ho
    exact StepPost.before hW ⟨rfl, ⟨L, N + 1, rfl, Nat.le_refl _, q1⟩, q2, q3⟩
  have HS : Hid (∀ W u v b1 b2, OwnV W b1 u s.st V → OwnV W b2 v s.st V → Calls Tryz.prog 29 #[u, v] W fun e w' => e = .returned (.bool true) ∧ ∃ nq, w' = W.drewN nq) := fun W u v b1 b2 hu hv => sameV_any s.st V u v b1 b2 W hu hv (by omega)
  have hpn : pb < w.heap.size := by
    obtain ⟨pc, cv, xs, hbk, _⟩ := h.play
    exact block_lt hbk.blk
  clear h hi hV hN
  unfold pairV opCells
  go_enter Tryz.func10, Tryz.ntmps10
  go_wp2_with (first
    | (go_at_call 28; refine (HP.out _ (al2 (Nat.le_refl _) _ _)).mono ?_; rintro e w1 ⟨v1, rfl, hv1, hb1⟩; have hbx := boxes_below hb1; have c1 := cell_of_row w1 _ 1 _ _ _ hbx.1; simp only [List.getElem?_toArray, List.getElem?_cons_zero, List.getElem?_cons_succ] at c1; have H1 := hide (And.intro ((al2 (Nat.le_refl _) _ _).trans (hb1.mono (by simp; omega))) (And.intro hv1 (And.intro hb1 (al2 (Nat.le_refl w.heap.size) (.cells #[.pointer (some ⟨s.x, 0, none⟩), .pointer (some ⟨s.c, 0, none⟩)] 49) (.cells #[.int .i64 11, .int .i64 k, .int .i64 a, .int .i64 b, .int .i64 c, .bool y, .int .i64 r.1, .int .i64 r.2.1, .int .i64 r.2.2.1, .int .i64 r.2.2.2, lv, mv, pv] 41))))); clear hv1 hb1 hbx)
    | (go_at_call 30; refine (HR.out _ H1.out.1).mono ?_; rintro e w2 ⟨v2, rfl, hv2, hb2⟩; have H2 := hide (And.intro hv2 (And.intro (own_keep H1.out.2.1 fun g hg => hb2.block g (H1.out.2.1.lt g hg).2) (H1.out.2.2.1.trans (hb2.mono H1.out.2.2.1.size)))); clear hv2 hb2)
    | (go_at_call 29; refine (HS.out _ _ _ _ _ H2.out.2.1 H2.out.1).mono ?_; rintro e w3 ⟨rfl, nq, rfl⟩)
    | (go_at_call 31; refine (HB.out _ _ _ H1.out.2.2.2 (below_drewN H2.out.2.2 _) (own_keep H2.out.2.1 fun _ _ => rfl)).mono ?_; rintro e w4 ⟨rfl, HH⟩))
  go_ret
  exact HH.out

end Go.Proofs.YtlaflopimpnjpaaGreat
