import Derived.Test.YtlaflopimpnjpaaGreatSg38
import Derived.Deep.RegionHeld3
import Derived.Test.YtlaflopimpnjpaaGreatSg37
import Derived.Test.YtlaflopimpnjpaaGreatSg29
/-! Opn -/
namespace Go.Proofs.YtlaflopimpnjpaaGreat
open Go.RowKit
attribute [local go_sem ↓] Go.wp_at_zero Go.wp_at_succ

/-- What any step leaves. -/
def StepAny (n0 : Nat) (pb N lo hi : Nat) (w : World) (e : Ending) (w' : World) : Prop :=
  e = .returned (.bool true) ∧ (∃ ps' L' N', lo ≤ L'.length ∧ L'.length ≤ hi ∧ N' ≤ N + 1 ∧ Inv n0 w' pb N' ps' L') ∧ (∀ (g : Nat) (cur : Array Value), w.heap[g]? = some (.cells cur 41 (0, 0)) → w'.heap[g]? = w.heap[g]?) ∧ Only (fun g => n0 ≤ g) w w'

theorem StepPost.any {n0 : Nat} {pb N : Nat} {ps : Value} {L : List Scr} {w : World} {e : Ending} {w' : World} (h : StepPost n0 pb N ps L w e w') : StepAny n0 pb N L.length L.length w e w' := by
  obtain ⟨h1, ⟨L', N', h2, h3, h4⟩, h5, h6⟩ := h
  exact ⟨h1, ⟨ps, L', N', by omega, by omega, h3, h4⟩, fun g cur hg => h5 g cur _ (.inl rfl) hg, h6⟩

theorem StepAny.weak {n0 : Nat} {pb N lo hi lo' hi' : Nat} {w w' : World} {e : Ending} (h : StepAny n0 pb N lo hi w e w') (h1 : lo' ≤ lo) (h2 : hi ≤ hi') : StepAny n0 pb N lo' hi' w e w' := by
  obtain ⟨q1, ⟨ps', L', N', a, b, c, d⟩, q3, q4⟩ := h
  exact ⟨q1, ⟨ps', L', N', by omega, by omega, c, d⟩, q3, q4⟩

theorem StepAny.before {n0 : Nat} {pb N lo hi : Nat} {w W w' : World} {e : Ending} (hb : Below w.heap.size w W) (h : StepAny n0 pb N lo hi W e w') : StepAny n0 pb N lo hi w e w' := by
  obtain ⟨h1, h2, h3, h4⟩ := h
  refine ⟨h1, h2, fun g cur hg => ?_, (Only.below hb).trans (h4.mono fun _ _ hg => .inl hg)⟩
  have e := hb.block g (Array.getElem?_eq_some_iff.1 hg).1
  exact (h3 g cur (e.trans hg)).trans e

theorem StepAny.none {n0 : Nat} {w W : World} {pb N : Nat} {ps : Value} {L : List Scr} (h : Inv n0 w pb N ps L) (hb : Below w.heap.size w W) : StepAny n0 pb N L.length L.length w (.returned (.bool true)) W :=
  ⟨rfl, ⟨ps, L, N, Nat.le_refl _, by omega, by omega, h.below hb⟩, fun g _ hg => hb.block g (Array.getElem?_eq_some_iff.1 hg).1, Only.below hb⟩

theorem pairInfo : (Tryz.prog.info? 49).map (fun i => (i.zero, i.size, i.bytes)) = some (some (.agg #[.pointer none, .pointer none]), 2, 16) := by kernel_rfl

set_option maxRecDepth 100000 in
set_option maxHeartbeats 1000000 in
/-- opened: refused -/
theorem opened_no {n0 : Nat} {w : World} {pb N : Nat} {ps : Value} {L : List Scr} (h : Inv n0 w pb N ps L) (k a b c : Int) (y : Bool) (r : R4) (lv mv pv : Value) (er : Int)
    (hP : ∀ W, Calls Tryz.prog 13 #[.int .i64 a, .int .i64 b, .int .i64 c] W (NRef er W)) (hR : ∀ W, Calls Tryz.prog 14 #[.int .i64 a, .int .i64 b, .int .i64 c] W (NRef er W)) :
    Calls Tryz.prog 7 #[.pointer (some ⟨pb, 0, none⟩), .agg (opCells 1 k a b c y r lv mv pv)] w (StepAny n0 pb N L.length L.length w) := by
  have HP := hide hP
  have HR := hide hR
  have HI := hide h
  clear hP hR h
  unfold opCells
  obtain ⟨post, hpost⟩ : ∃ P, P = StepAny n0 pb N L.length L.length w := ⟨_, rfl⟩
  rw [← hpost]
  have HPo := hide hpost
  clear hpost
  go_enter Tryz.func7, Tryz.ntmps7
  go_wp2_with (first
    | (go_at_call 13; refine (HP.out _).mono ?_; rintro e w1 ⟨rfl, hb1⟩; have hbx := (hb1.block w.heap.size (by simp)).trans (heap_alloc_new w _); have c2 := cell_of_row w1 _ 2 _ _ _ hbx; have c3 := cell_of_row w1 _ 3 _ _ _ hbx; have c4 := cell_of_row w1 _ 4 _ _ _ hbx; simp only [List.getElem?_toArray, List.getElem?_cons_zero, List.getElem?_cons_succ] at c2 c3 c4; have H1 := hide ((al1 (Nat.le_refl _) _).trans (hb1.mono (by simp))); clear hb1 hbx)
    | (go_at_call 14; refine (HR.out _).mono ?_; rintro e w2 ⟨rfl, hb2⟩; have H2 := hide (H1.out.trans (hb2.mono H1.out.size)); clear hb2))
  try go_ret
  rw [HPo.out]
  exact StepAny.none HI.out H2.out

set_option maxRecDepth 100000 in
set_option maxHeartbeats 1000000 in
/-- opened: a screen more -/
theorem opened_ok {n0 : Nat} {w : World} {pb N : Nat} {ps : Value} {L : List Scr} (h : Inv n0 w pb N ps L) (hL : L.length ≤ 1000000000000) (k a b c : Int) (y : Bool) (r : R4) (lv mv pv : Value) (hW : 1 ≤ a ∧ a ≤ 24) (hH : 1 ≤ b ∧ b ≤ 24) (hn : 1 ≤ c ∧ c ≤ 3) :
    Calls Tryz.prog 7 #[.pointer (some ⟨pb, 0, none⟩), .agg (opCells 1 k a b c y r lv mv pv)] w (StepAny n0 pb N (L.length + 1) (L.length + 1) w) := by
  obtain ⟨i0, hi0, hz0, hz1, hz2⟩ := info_parts pairInfo
  have HP := hide (fun W => paNew_ok a b c W hW hH hn)
  have HR := hide (fun W => refNew_ok a b c W hW hH hn)
  have HF := hide (Fine.new hW hH)
  have hsz := h.size
  obtain ⟨pc, cv, xs, hbk, hp0, hcv⟩ := h.play
  have hpl := block_lt hbk.blk
  obtain ⟨pa, pcap, hpf⟩ := row_form h.row
  have hpb0 : w.cell? ⟨pb, 0, none⟩ = some ps := (cell_of_row w pb 0 pc _ _ hbk.blk).trans hp0
  have HPS : Hid (∀ W, Below w.heap.size w W → W.cell? ⟨pb, 0, none⟩ = some ps ∧ W.ownsRow n0 49 2 ps L.length (L.flatMap Scr.cells) ∧ n0 ≤ W.heap.size) := fun W hb => ⟨(hb.cell (p := ⟨pb, 0, none⟩) hpl).trans hpb0, own_keep h.row fun g hg => hb.block g (h.row.lt g hg).2, Nat.le_trans hsz hb.size⟩
  have HPB : Hid (∀ W W6 : World, Below w.heap.size w W → W.grownBy W6 ps.ownBlock → (∃ q, W6.cell? ⟨pb, 0, none⟩ = some q) ∧ W6.frozen? ⟨pb, 0, none⟩ = false) := fun W W6 hb hg => by
    have e : W6.heap[pb]? = some (.cells pc 34 (0, 0)) := by
      rw [hg.block pb (Nat.lt_of_lt_of_le hpl hb.size) (fun e => ?_), hb.block pb hpl, hbk.blk]
      obtain ⟨c2, hc2⟩ := own_type h.row e.symm
      have := hbk.blk
      rw [hc2] at this
      injection this with this
      injection this with _ this
      exact absurd this (by decide)
    exact ⟨⟨_, (cell_of_row W6 pb 0 pc _ _ e).trans hp0⟩, by simp [World.frozen?, e]⟩
  have HI := hide h
  subst hpf
  obtain ⟨ln, hln⟩ : ∃ ln, L.length = ln := ⟨_, rfl⟩
  have HE : Hid (∀ W1 W2 W3 W6 v x c0, Below (w.alloc (.cells (opCells 1 k a b c y r lv mv pv) 41)).heap.size (w.alloc (.cells (opCells 1 k a b c y r lv mv pv) 41)) W1 → PaneOk W1 (fun g => (w.alloc (.cells (opCells 1 k a b c y r lv mv pv) 41)).heap.size ≤ g ∧ g < W1.heap.size) x ⟨a, b, [], []⟩ → Below W1.heap.size W1 W2 → RefOk W2 (fun g => W1.heap.size ≤ g ∧ g < W2.heap.size) c0 ⟨a, b, [], []⟩ → Below W2.heap.size W2 W3 → W3.grownBy W6 (Value.slice pa L.length pcap).ownBlock → W6.ownsRow n0 49 2 v (L.length + 1) (L.flatMap Scr.cells ++ [ptrV x, ptrV c0]) → StepAny n0 pb N (L.length + 1) (L.length + 1) w (.returned (.bool true)) (W6.setCell ⟨pb, 0, none⟩ v)) := fun W1 W2 W3 W6 v x c0 e1 e2 e3 e4 e5 e6 e7 => by
    obtain ⟨L', q1, q2, q3, q4⟩ := (h.below (al1 (Nat.le_refl _) (.cells (opCells 1 k a b c y r lv mv pv) 41))).opened e1 e2 e3 e4 HF.out e5 e6 e7
    exact StepAny.before (al1 (Nat.le_refl _) (.cells (opCells 1 k a b c y r lv mv pv) 41)) ⟨rfl, ⟨v, L', N, by omega, by omega, by omega, q2⟩, q3, q4⟩
  obtain ⟨post, hpost⟩ : ∃ P, P = StepAny n0 pb N (L.length + 1) (L.length + 1) w := ⟨_, rfl⟩
  rw [← hpost]
  rw [← hpost] at HE
  unfold opCells at *
  rw [hln] at HE HPS HPB hL
  unfold NPostP at HP
  unfold NPost at HR
  unfold ptrV at HE
  clear hpost h hbk hp0 hcv hpl hpb0 hsz hW hH hn HI HF
  go_enter Tryz.func7, Tryz.ntmps7
  go_wp2_with (first
    | (go_at_call 13; refine (HP.out _).mono ?_; rintro e w1 ⟨x, rfl, hp1, hb1⟩; have hbx := (hb1.block w.heap.size (by simp)).trans (heap_alloc_new w _); have c2 := cell_of_row w1 _ 2 _ _ _ hbx; have c3 := cell_of_row w1 _ 3 _ _ _ hbx; have c4 := cell_of_row w1 _ 4 _ _ _ hbx; simp only [List.getElem?_toArray, List.getElem?_cons_zero, List.getElem?_cons_succ] at c2 c3 c4; have H1 := hide (And.intro ((al1 (Nat.le_refl _) _).trans (hb1.mono (by simp))) (And.intro hp1 hb1)); clear hp1 hb1 hbx)
    | (go_at_call 14; refine (HR.out _).mono ?_; rintro e w2 ⟨x2, rfl, hp2, hb2⟩; have H2 := hide (And.intro (H1.out.1.trans (hb2.mono H1.out.1.size)) (And.intro hp2 hb2)); have d0 := (HPS.out w2 H2.out.1).1; clear hp2 hb2)
    | (at_builtin; refine wpList_append_row (P := Tryz.prog) rfl (.tmp 45) (.tmp 49) 27 rfl n0 49 i0 _ 2 16 Tryz.underlying27 hi0 hz0 hz1 hz2 rfl (by decide) (.slice pa ln pcap) ln (L.flatMap Scr.cells) rfl ((HPS.out w2 H2.out.1).2.1.alloc _) (.slice (some ⟨w2.heap.size, 0, none⟩) 1 1) 1 [.pointer (some ⟨x, 0, none⟩), .pointer (some ⟨x2, 0, none⟩)] rfl rfl (.inr ⟨_, _, rfl, World.news_of_block (cs := #[.pointer (some ⟨x, 0, none⟩), .pointer (some ⟨x2, 0, none⟩)]) (t := 49) (fr := (0, 0)) (heap_alloc_new w2 _)⟩) (by simp [Value.oneCell']) (by unfold maxLen; omega) (by omega) (by have := (HPS.out w2 H2.out.1).2.2; simp; omega) ?_; intro v6 w6 r6 g6 _ _; obtain ⟨va6, vc6, hv6⟩ := row_form r6; subst hv6; obtain ⟨⟨q0, hq0⟩, hfz0⟩ := HPB.out _ _ (H2.out.1.alloc H2.out.1.size _) g6; have HR6 := hide (And.intro r6 g6); clear r6 g6))
  try go_ret
  exact HE.out w1 w2 _ w6 _ x x2 H1.out.2.2 H1.out.2.1 H2.out.2.2 H2.out.2.1 (al1 (Nat.le_refl _) _) HR6.out.2 HR6.out.1

end Go.Proofs.YtlaflopimpnjpaaGreat

/-! Stp -/
namespace Go.Proofs.YtlaflopimpnjpaaGreat
open Go.RowKit
attribute [local go_sem ↓] Go.wp_at_zero Go.wp_at_succ

theorem opened_all {n0 : Nat} {w : World} {pb N : Nat} {ps : Value} {L : List Scr} (h : Inv n0 w pb N ps L) (hL : L.length ≤ 1000000000000) (k a b c : Int) (y : Bool) (r : R4) (lv mv pv : Value) :
    Calls Tryz.prog 7 #[.pointer (some ⟨pb, 0, none⟩), .agg (opCells 1 k a b c y r lv mv pv)] w (StepAny n0 pb N L.length (L.length + 1) w) := by
  by_cases h1 : a < 1 ∨ 24 < a ∨ b < 1 ∨ 24 < b
  · refine Calls.mono (opened_no h k a b c y r lv mv pv 5 (fun W => paNew_size a b c W h1) fun W => refNew_size a b c W h1) fun e w' q => q.weak (Nat.le_refl _) (by omega)
  · by_cases h2 : c < 1 ∨ 3 < c
    · refine Calls.mono (opened_no h k a b c y r lv mv pv 10 (fun W => paNew_buf a b c W (by omega) (by omega) h2) fun W => refNew_buf a b c W (by omega) (by omega) h2) fun e w' q => q.weak (Nat.le_refl _) (by omega)
    · exact Calls.mono (opened_ok h hL k a b c y r lv mv pv (by omega) (by omega) (by omega)) fun e w' q => q.weak (by omega) (Nat.le_refl _)

theorem on_all {n0 : Nat} {w : World} {pb N : Nat} {ps : Value} {L : List Scr} (h : Inv n0 w pb N ps L) (hN : N ≤ 1000000000000) {i : Nat} {s : Scr} (hi : L[i]? = some s) (kd k a b c : Int) (y : Bool) (r : R4) (lv mv pv : Value) (l : List R4) (hp : OpPix n0 w pv l)
    (hk : kd = 2 ∨ kd = 3 ∨ kd = 4 ∨ kd = 5 ∨ kd = 6 ∨ kd = 7 ∨ kd = 9 ∨ kd = 10 ∨ kd = 11) :
    Calls Tryz.prog 10 #[.pointer (some ⟨pb, 0, none⟩), pairV s, .agg (opCells kd k a b c y r lv mv pv)] w (StepPost n0 pb N ps L w) := by
  rcases hk with rfl | rfl | rfl | rfl | rfl | rfl | rfl | rfl | rfl
  · exact on_make h hi k a b c y r lv mv pv
  · exact on_destroy h hi k a b c y r lv mv pv
  · exact on_asked h hi 4 k a b c y r lv mv pv l hp (by simp)
  · exact on_asked h hi 5 k a b c y r lv mv pv l hp (by simp)
  · exact on_asked h hi 6 k a b c y r lv mv pv l hp (by simp)
  · exact on_asked h hi 7 k a b c y r lv mv pv l hp (by simp)
  · exact on_asked h hi 9 k a b c y r lv mv pv l hp (by simp)
  · exact on_commit h hi k a b c y r lv mv pv
  · exact on_views h hN hi k a b c y r lv mv pv

set_option maxRecDepth 100000 in
set_option maxHeartbeats 1000000 in
/-- step: New -/
theorem step_new {n0 : Nat} {w : World} {pb N lo hi : Nat} (k a b c : Int) (y : Bool) (r : R4) (lv mv pv : Value)
    (hC : ∀ W, Below w.heap.size w W → Calls Tryz.prog 7 #[.pointer (some ⟨pb, 0, none⟩), .agg (opCells 1 k a b c y r lv mv pv)] W (StepAny n0 pb N lo hi W)) :
    Calls Tryz.prog 5 #[.pointer (some ⟨pb, 0, none⟩), .agg (opCells 1 k a b c y r lv mv pv)] w (StepAny n0 pb N lo hi w) := by
  have HC : Hid (∀ W, Below w.heap.size w W → Calls Tryz.prog 7 #[.pointer (some ⟨pb, 0, none⟩), .agg (opCells 1 k a b c y r lv mv pv)] W fun e w' => e = .returned (.bool true) ∧ Hid (StepAny n0 pb N lo hi w (.returned (.bool true)) w')) := fun W hW => (hC W hW).mono fun e w' hh => by
    have := hh.1
    subst this
    exact ⟨rfl, hh.before hW⟩
  clear hC
  unfold opCells at *
  go_enter Tryz.func5, Tryz.ntmps5
  go_wp2_with (go_at_call 7; refine (HC.out _ (al1 (Nat.le_refl _) _)).mono ?_; rintro e w' ⟨rfl, HH⟩)
  go_ret
  exact HH.out

theorem cells_at (L : List Scr) : ∀ (j : Nat) (s : Scr), L[j]? = some s → (L.flatMap Scr.cells)[j * 2]? = some (.pointer (some ⟨s.x, 0, none⟩)) ∧ (L.flatMap Scr.cells)[j * 2 + 1]? = some (.pointer (some ⟨s.c, 0, none⟩)) := by
  induction L with
  | nil => intro j s hj; simp at hj
  | cons a L ih =>
    intro j s hj
    rw [List.flatMap_cons]
    cases j with
    | zero =>
      simp at hj
      subst hj
      exact ⟨rfl, rfl⟩
    | succ j =>
      simp at hj
      have := ih j s hj
      have hl : a.cells.length = 2 := rfl
      refine ⟨?_, ?_⟩
      · rw [List.getElem?_append_right (by rw [hl]; omega), hl, show (j + 1) * 2 - 2 = j * 2 by omega]; exact this.1
      · rw [List.getElem?_append_right (by rw [hl]; omega), hl, show (j + 1) * 2 + 1 - 2 = j * 2 + 1 by omega]; exact this.2

set_option maxRecDepth 100000 in
set_option maxHeartbeats 1000000 in
/-- step: on a screen -/
theorem step_on {n0 : Nat} {w : World} {pb N : Nat} {ps : Value} {L : List Scr} (h : Inv n0 w pb N ps L) (hL0 : 0 < L.length) (hL : L.length ≤ 1000000000000) (hN : N ≤ 1000000000000) (kd k a b c : Int) (hk64 : -9223372036854775808 ≤ k ∧ k ≤ 9223372036854775807) (y : Bool) (r : R4) (lv mv pv : Value) (l : List R4) (hp : OpPix n0 w pv l)
    (hk : kd = 2 ∨ kd = 3 ∨ kd = 4 ∨ kd = 5 ∨ kd = 6 ∨ kd = 7 ∨ kd = 9 ∨ kd = 10 ∨ kd = 11) :
    Calls Tryz.prog 5 #[.pointer (some ⟨pb, 0, none⟩), .agg (opCells kd k a b c y r lv mv pv)] w (StepAny n0 pb N L.length L.length w) := by
  obtain ⟨pg, pcap, hpf, hpbase, hpg⟩ := World.ownsRow.form h.row hL0
  have hcap := own_cap (by have h9 := h.row; rw [hpf] at h9; exact h9)
  have HO : Hid (∀ (W : World) (j : Nat) (s : Scr), Below w.heap.size w W → L[j]? = some s → Calls Tryz.prog 10 #[.pointer (some ⟨pb, 0, none⟩), .agg #[.pointer (some ⟨s.x, 0, none⟩), .pointer (some ⟨s.c, 0, none⟩)], .agg (opCells kd k a b c y r lv mv pv)] W fun e w' => e = .returned (.bool true) ∧ Hid (StepPost n0 pb N ps L W (.returned (.bool true)) w')) := fun W j s hW hj => (on_all (h.below hW) hN hj kd k a b c y r lv mv pv l (hp.only (Only.below hW)) hk).mono fun e w' hh => by
    have := hh.1
    subst this
    exact ⟨rfl, hh⟩
  have HPk : Hid (∀ W : World, Calls Tryz.prog 11 #[.int .i64 k, .int .i64 (L.length : Nat)] W fun e w' => (∃ q : Nat, q < L.length ∧ e = .returned (.int .i64 q)) ∧ w' = W) := fun W => pick_any k L.length hL0 (by omega) hk64 W
  obtain ⟨pc, cv, xs, hbk, hp0, hcv⟩ := h.play
  have hpl := block_lt hbk.blk
  have hc0 : w.cell? ⟨pb, 0, none⟩ = some ps := (cell_of_row w pb 0 pc _ _ hbk.blk).trans hp0
  obtain ⟨X, hX⟩ : ∃ X : Nat → Nat, X = fun j => (L[j]?.map Scr.x).getD 0 := ⟨_, rfl⟩
  obtain ⟨Y, hY⟩ : ∃ Y : Nat → Nat, Y = fun j => (L[j]?.map Scr.c).getD 0 := ⟨_, rfl⟩
  have hXY : ∀ j, j < L.length → ∃ s, L[j]? = some s ∧ s.x = X j ∧ s.c = Y j := fun j hj => ⟨L[j], List.getElem?_eq_getElem hj, by rw [hX]; simp [List.getElem?_eq_getElem hj], by rw [hY]; simp [List.getElem?_eq_getElem hj]⟩
  clear hX hY
  have hpr : ∀ j, j < L.length → w.cell? ⟨pg, j * 2, none⟩ = some (.pointer (some ⟨X j, 0, none⟩)) ∧ w.cell? ⟨pg, j * 2 + 1, none⟩ = some (.pointer (some ⟨Y j, 0, none⟩)) := fun j hj => by
    obtain ⟨s, h1, h2, h3⟩ := hXY j hj
    obtain ⟨c1, c2⟩ := cells_at L j s h1
    have cs := World.ownsRow.cells h.row (g := pg) (by rw [hpf]; rfl)
    have d1 := cs _ _ c1
    have d2 := cs _ _ c2
    rw [add_at] at d1 d2
    rw [← h2, ← h3]
    exact ⟨d1, d2⟩
  have hpt := own_type h.row (k := pg) (by rw [hpf]; rfl)
  have HI := hide h
  clear hp hk64 hbk hp0 hcv
  subst hpf
  obtain ⟨ln, hln⟩ : ∃ ln, L.length = ln := ⟨_, rfl⟩
  rw [hln] at HPk hXY hpr hcap hL0 hL
  have HE : Hid (∀ W w' : World, Below w.heap.size w W → StepPost n0 pb N (.slice (some ⟨pg, 0, none⟩) L.length pcap) L W (.returned (.bool true)) w' → StepAny n0 pb N L.length L.length w (.returned (.bool true)) w') := fun W w' hb hh => StepAny.before hb hh.any
  -- what is read: the list of screens, the Op
  have HS : Hid (∀ W : World, (W.cell? ⟨pb, 0, none⟩ = some (.slice (some ⟨pg, 0, none⟩) L.length pcap) ∧ W.heap[pg]? = w.heap[pg]? ∧ W.heap[w.heap.size]? = some (.cells #[.int .i64 kd, .int .i64 k, .int .i64 a, .int .i64 b, .int .i64 c, .bool y, .int .i64 r.1, .int .i64 r.2.1, .int .i64 r.2.2.1, .int .i64 r.2.2.2, lv, mv, pv] 41 (0, 0))) → W.cell? ⟨pb, 0, none⟩ = some (.slice (some ⟨pg, 0, none⟩) ln pcap) ∧ (∀ j, j < ln → W.cell? ⟨pg, j * 2, none⟩ = some (.pointer (some ⟨X j, 0, none⟩))) ∧ (∀ j, j < ln → W.cell? ⟨pg, j * 2 + 1, none⟩ = some (.pointer (some ⟨Y j, 0, none⟩))) ∧ W.cell? ⟨w.heap.size, 0, none⟩ = some (.int .i64 kd) ∧ W.cell? ⟨w.heap.size, 1, none⟩ = some (.int .i64 k) ∧ W.cell? ⟨w.heap.size, 2, none⟩ = some (.int .i64 a) ∧ W.cell? ⟨w.heap.size, 3, none⟩ = some (.int .i64 b) ∧ W.cell? ⟨w.heap.size, 4, none⟩ = some (.int .i64 c) ∧ W.cell? ⟨w.heap.size, 5, none⟩ = some (.bool y) ∧ W.cell? ⟨w.heap.size, 6, none⟩ = some (.int .i64 r.1) ∧ W.cell? ⟨w.heap.size, 7, none⟩ = some (.int .i64 r.2.1) ∧ W.cell? ⟨w.heap.size, 8, none⟩ = some (.int .i64 r.2.2.1) ∧ W.cell? ⟨w.heap.size, 9, none⟩ = some (.int .i64 r.2.2.2) ∧ W.cell? ⟨w.heap.size, 10, none⟩ = some lv ∧ W.cell? ⟨w.heap.size, 11, none⟩ = some mv ∧ W.cell? ⟨w.heap.size, 12, none⟩ = some pv) := fun W ⟨h1, h2, h3⟩ => by
    have e := fun j => cell_of_row W w.heap.size j _ _ _ h3
    have e0 := e 0; have e1 := e 1; have e2 := e 2; have e3 := e 3; have e4 := e 4; have e5 := e 5; have e6 := e 6; have e7 := e 7; have e8 := e 8; have e9 := e 9; have e10 := e 10; have e11 := e 11; have e12 := e 12
    simp only [List.getElem?_toArray, List.getElem?_cons_zero, List.getElem?_cons_succ] at e0 e1 e2 e3 e4 e5 e6 e7 e8 e9 e10 e11 e12
    rw [hln] at h1
    exact ⟨h1, fun j hj => (World.cell?_of_block h2).trans (hpr j hj).1, fun j hj => (World.cell?_of_block h2).trans (hpr j hj).2, e0, e1, e2, e3, e4, e5, e6, e7, e8, e9, e10, e11, e12⟩
  have HS1 : Hid (∀ W : World, Below (w.heap.size + 1) (w.alloc (.cells #[.int .i64 kd, .int .i64 k, .int .i64 a, .int .i64 b, .int .i64 c, .bool y, .int .i64 r.1, .int .i64 r.2.1, .int .i64 r.2.2.1, .int .i64 r.2.2.2, lv, mv, pv] 41 (0, 0))) W → W.cell? ⟨pb, 0, none⟩ = some (.slice (some ⟨pg, 0, none⟩) ln pcap) ∧ (∀ j, j < ln → W.cell? ⟨pg, j * 2, none⟩ = some (.pointer (some ⟨X j, 0, none⟩))) ∧ (∀ j, j < ln → W.cell? ⟨pg, j * 2 + 1, none⟩ = some (.pointer (some ⟨Y j, 0, none⟩))) ∧ W.cell? ⟨w.heap.size, 0, none⟩ = some (.int .i64 kd) ∧ W.cell? ⟨w.heap.size, 1, none⟩ = some (.int .i64 k) ∧ W.cell? ⟨w.heap.size, 2, none⟩ = some (.int .i64 a) ∧ W.cell? ⟨w.heap.size, 3, none⟩ = some (.int .i64 b) ∧ W.cell? ⟨w.heap.size, 4, none⟩ = some (.int .i64 c) ∧ W.cell? ⟨w.heap.size, 5, none⟩ = some (.bool y) ∧ W.cell? ⟨w.heap.size, 6, none⟩ = some (.int .i64 r.1) ∧ W.cell? ⟨w.heap.size, 7, none⟩ = some (.int .i64 r.2.1) ∧ W.cell? ⟨w.heap.size, 8, none⟩ = some (.int .i64 r.2.2.1) ∧ W.cell? ⟨w.heap.size, 9, none⟩ = some (.int .i64 r.2.2.2) ∧ W.cell? ⟨w.heap.size, 10, none⟩ = some lv ∧ W.cell? ⟨w.heap.size, 11, none⟩ = some mv ∧ W.cell? ⟨w.heap.size, 12, none⟩ = some pv) := fun W hb => by
    have hb0 : Below w.heap.size w W := (al1 (Nat.le_refl _) (.cells #[.int .i64 kd, .int .i64 k, .int .i64 a, .int .i64 b, .int .i64 c, .bool y, .int .i64 r.1, .int .i64 r.2.1, .int .i64 r.2.2.1, .int .i64 r.2.2.2, lv, mv, pv] 41 (0, 0))).trans (hb.mono (by omega))
    exact HS.out W ⟨(hb0.cell (p := ⟨pb, 0, none⟩) hpl).trans hc0, hb0.block pg hpg, (hb.block w.heap.size (by omega)).trans (heap_alloc_new w _)⟩
  have HS2 : Hid (∀ W W' : World, Below (w.heap.size + 1) (w.alloc (.cells #[.int .i64 kd, .int .i64 k, .int .i64 a, .int .i64 b, .int .i64 c, .bool y, .int .i64 r.1, .int .i64 r.2.1, .int .i64 r.2.2.1, .int .i64 r.2.2.2, lv, mv, pv] 41 (0, 0))) W → StepPost n0 pb N (.slice (some ⟨pg, 0, none⟩) L.length pcap) L W (.returned (.bool true)) W' → W'.cell? ⟨pb, 0, none⟩ = some (.slice (some ⟨pg, 0, none⟩) ln pcap) ∧ (∀ j, j < ln → W'.cell? ⟨pg, j * 2, none⟩ = some (.pointer (some ⟨X j, 0, none⟩))) ∧ (∀ j, j < ln → W'.cell? ⟨pg, j * 2 + 1, none⟩ = some (.pointer (some ⟨Y j, 0, none⟩))) ∧ W'.cell? ⟨w.heap.size, 0, none⟩ = some (.int .i64 kd) ∧ W'.cell? ⟨w.heap.size, 1, none⟩ = some (.int .i64 k) ∧ W'.cell? ⟨w.heap.size, 2, none⟩ = some (.int .i64 a) ∧ W'.cell? ⟨w.heap.size, 3, none⟩ = some (.int .i64 b) ∧ W'.cell? ⟨w.heap.size, 4, none⟩ = some (.int .i64 c) ∧ W'.cell? ⟨w.heap.size, 5, none⟩ = some (.bool y) ∧ W'.cell? ⟨w.heap.size, 6, none⟩ = some (.int .i64 r.1) ∧ W'.cell? ⟨w.heap.size, 7, none⟩ = some (.int .i64 r.2.1) ∧ W'.cell? ⟨w.heap.size, 8, none⟩ = some (.int .i64 r.2.2.1) ∧ W'.cell? ⟨w.heap.size, 9, none⟩ = some (.int .i64 r.2.2.2) ∧ W'.cell? ⟨w.heap.size, 10, none⟩ = some lv ∧ W'.cell? ⟨w.heap.size, 11, none⟩ = some mv ∧ W'.cell? ⟨w.heap.size, 12, none⟩ = some pv) := fun W W' hb hh => by
    have hb0 : Below w.heap.size w W := (al1 (Nat.le_refl _) (.cells #[.int .i64 kd, .int .i64 k, .int .i64 a, .int .i64 b, .int .i64 c, .bool y, .int .i64 r.1, .int .i64 r.2.1, .int .i64 r.2.2.1, .int .i64 r.2.2.2, lv, mv, pv] 41 (0, 0))).trans (hb.mono (by omega))
    obtain ⟨_, ⟨L', N', q1, _, q2⟩, q3, _⟩ := hh
    obtain ⟨pc', cv', xs', hbk', hp', _⟩ := q2.play
    obtain ⟨cur, hcur⟩ := hpt
    refine HS.out W' ⟨(cell_of_row W' pb 0 pc' _ _ hbk'.blk).trans hp', ?_, ?_⟩
    · rw [q3 pg cur _ (.inr rfl) ((hb0.block pg hpg).trans hcur), hb0.block pg hpg]
    · have e := (hb.block w.heap.size (by omega)).trans (heap_alloc_new w _)
      rw [q3 w.heap.size _ _ (.inl rfl) e, e]
  have HO2 : Hid (∀ (W : World) (j : Nat), Below w.heap.size w W → j < ln → Calls Tryz.prog 10 #[.pointer (some ⟨pb, 0, none⟩), .agg #[.pointer (some ⟨X j, 0, none⟩), .pointer (some ⟨Y j, 0, none⟩)], .agg #[.int .i64 kd, .int .i64 k, .int .i64 a, .int .i64 b, .int .i64 c, .bool y, .int .i64 r.1, .int .i64 r.2.1, .int .i64 r.2.2.1, .int .i64 r.2.2.2, lv, mv, pv]] W fun e w' => e = .returned (.bool true) ∧ Hid (StepPost n0 pb N (.slice (some ⟨pg, 0, none⟩) L.length pcap) L W (.returned (.bool true)) w')) := fun W j hW hj => by
    obtain ⟨s, h1, h2, h3⟩ := hXY j hj
    rw [← h2, ← h3]
    exact HO.out W j s hW h1
  obtain ⟨post, hpost⟩ : ∃ P, P = StepAny n0 pb N L.length L.length w := ⟨_, rfl⟩
  rw [← hpost] at HE ⊢
  have hc0' := hc0
  rw [hln] at hc0'
  have k1 : ¬ kd = 1 := by omega
  have k15 : ¬ kd = 15 := by omega
  have k16 : ¬ kd = 16 := by omega
  have k2 : ¬ kd < 2 := by omega
  have k14 : ¬ 14 < kd := by omega
  have l0 : ¬ (ln : Int) = 0 := by omega
  have l1 : ¬ ln = 0 := by omega
  have hpw : ¬ pb = w.heap.size := by omega
  have hgw : ¬ pg = w.heap.size := by omega
  unfold opCells
  clear hpost h HO hk hXY hpr hpt HI HS hc0 hN hL
  go_enter Tryz.func5, Tryz.ntmps5
  go_upto_region 10 with fail
  have HB0 : Hid (Below w.heap.size w (w.alloc (.cells #[.int .i64 kd, .int .i64 k, .int .i64 a, .int .i64 b, .int .i64 c, .bool y, .int .i64 r.1, .int .i64 r.2.1, .int .i64 r.2.2.1, .int .i64 r.2.2.2, lv, mv, pv] 41 (0, 0)))) := al1 (Nat.le_refl _) _
  generalize (w.alloc (.cells #[.int .i64 kd, .int .i64 k, .int .i64 a, .int .i64 b, .int .i64 c, .bool y, .int .i64 r.1, .int .i64 r.2.1, .int .i64 r.2.2.1, .int .i64 r.2.2.2, lv, mv, pv] 41 (0, 0))) = W0 at *
  go_region_held3 (fun w' => w'.cell? ⟨pb, 0, none⟩ = some (.slice (some ⟨pg, 0, none⟩) ln pcap) ∧ (∀ j, j < ln → w'.cell? ⟨pg, j * 2, none⟩ = some (.pointer (some ⟨X j, 0, none⟩))) ∧ (∀ j, j < ln → w'.cell? ⟨pg, j * 2 + 1, none⟩ = some (.pointer (some ⟨Y j, 0, none⟩))) ∧ w'.cell? ⟨w.heap.size, 0, none⟩ = some (.int .i64 kd) ∧ w'.cell? ⟨w.heap.size, 1, none⟩ = some (.int .i64 k) ∧ w'.cell? ⟨w.heap.size, 2, none⟩ = some (.int .i64 a) ∧ w'.cell? ⟨w.heap.size, 3, none⟩ = some (.int .i64 b) ∧ w'.cell? ⟨w.heap.size, 4, none⟩ = some (.int .i64 c) ∧ w'.cell? ⟨w.heap.size, 5, none⟩ = some (.bool y) ∧ w'.cell? ⟨w.heap.size, 6, none⟩ = some (.int .i64 r.1) ∧ w'.cell? ⟨w.heap.size, 7, none⟩ = some (.int .i64 r.2.1) ∧ w'.cell? ⟨w.heap.size, 8, none⟩ = some (.int .i64 r.2.2.1) ∧ w'.cell? ⟨w.heap.size, 9, none⟩ = some (.int .i64 r.2.2.2) ∧ w'.cell? ⟨w.heap.size, 10, none⟩ = some lv ∧ w'.cell? ⟨w.heap.size, 11, none⟩ = some mv ∧ w'.cell? ⟨w.heap.size, 12, none⟩ = some pv)
    (first
      | with_reducible exact HS1.out _ (Below.refl _ _)
      | with_reducible exact HS1.out _ (Below.refl _ _).drew
      | with_reducible exact HS2.out _ _ (Below.refl _ _).drew HH.out
      | fail)
    (first
      | (go_at_call 11; refine (HPk.out _).mono ?_; rintro e w2 ⟨⟨q, hq, rfl⟩, rfl⟩; have hq1 : (q : Int) < (ln : Int) := (by omega); have hq0 : (0 : Int) ≤ (q : Int) := (by omega); have hqc : q < pcap := (by omega))
      | (go_at_call 10; refine (HO2.out _ q HB0.out.drew hq).mono ?_; rintro e w5 ⟨rfl, HH⟩)
      | fail)
  all_goals go_wp2_with fail
  all_goals (try go_ret)
  all_goals exact HE.out _ _ HB0.out.drew HH.out

end Go.Proofs.YtlaflopimpnjpaaGreat

/-! Opd -/
namespace Go.Proofs.YtlaflopimpnjpaaGreat
open Go.RowKit

/-- An Op, as it came in. -/
structure OpD where
  kd : Int
  k : Int
  a : Int
  b : Int
  c : Int
  y : Bool
  r : R4
  lv : Value
  mv : Value
  pv : Value
  l : List R4

def OpD.cells (d : OpD) : Array Value := opCells d.kd d.k d.a d.b d.c d.y d.r d.lv d.mv d.pv

structure OpDok (w : World) (d : OpD) : Prop where
  k64 : -9223372036854775808 ≤ d.k ∧ d.k ≤ 9223372036854775807
  pix : PixAt w d.pv d.l
  form : (d.pv = .slice none 0 0 ∧ d.l = []) ∨ ∃ ad c, d.pv = .slice (some ad) d.l.length c
  fit : d.l.length * 4 ≤ 140737488351232

/-- A list of them. -/
structure OpsAt (w : World) (v : Value) (D : List OpD) : Prop where
  form : ∃ a c, v = .slice a D.length c
  cells : ∀ a c, v = .slice a D.length c → ∀ i (hi : i < D.length), D.length ≤ c ∧ ∃ b off, a = some ⟨b, off, none⟩ ∧ b < w.heap.size ∧ ∀ o u, D[i].cells[o]? = some u → w.cell? ⟨b, off + i * 13 + o, none⟩ = some u
  ok : ∀ d ∈ D, OpDok w d

end Go.Proofs.YtlaflopimpnjpaaGreat
