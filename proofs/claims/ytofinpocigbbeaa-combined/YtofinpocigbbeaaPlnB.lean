import Derived.Test.YtofinpocigbbeaaPln
namespace Go.Proofs.Ytofinpocigbbeaa
open Go.RowKit

/-- Where band k begins among the rectangles. -/
def st (O : List (Int × Int × List (Int × Int))) (k : Nat) : Nat := (rc (O.take k)).length

theorem st_zero (O : List (Int × Int × List (Int × Int))) : st O 0 = 0 := rfl
theorem st_succ (O : List (Int × Int × List (Int × Int))) (k : Nat) (h : k < O.length) : st O (k + 1) = st O k + O[k].2.2.length := by
  unfold st; rw [rc_take O k h, List.length_append, List.length_map]
theorem st_all (O : List (Int × Int × List (Int × Int))) (k : Nat) (h : O.length ≤ k) : st O k = (rc O).length := by
  unfold st; rw [List.take_of_length_le h]
theorem st_lt {O : List (Int × Int × List (Int × Int))} (hO : Good O) (k : Nat) (h : k < O.length) : st O k < st O (k + 1) := by
  rw [st_succ O k h]
  have := (hO.sp O[k] (List.getElem_mem h)).2
  cases e : O[k].2.2 with
  | nil => exact absurd e this
  | cons a l => simp
theorem st_mono {O : List (Int × Int × List (Int × Int))} (k : Nat) : st O k ≤ st O (k + 1) := by
  by_cases h : k < O.length
  · rw [st_succ O k h]; omega
  · rw [st_all O k (by omega), st_all O (k + 1) (by omega)]; exact Nat.le_refl _
theorem st_le {O : List (Int × Int × List (Int × Int))} (j k : Nat) (h : j ≤ k) : st O j ≤ st O k := by
  induction k with
  | zero => have : j = 0 := by omega
            subst this; exact Nat.le_refl _
  | succ k ih =>
    by_cases e : j = k + 1
    · subst e; exact Nat.le_refl _
    · exact Nat.le_trans (ih (by omega)) (st_mono k)
theorem st_end (O : List (Int × Int × List (Int × Int))) (k : Nat) : st O k ≤ (rc O).length := by
  by_cases h : k ≤ O.length
  · rw [← st_all O O.length (Nat.le_refl _)]; exact st_le k _ h
  · rw [st_all O k (by omega)]; exact Nat.le_refl _

theorem rc_at (O : List (Int × Int × List (Int × Int))) (k j : Nat) (h : k < O.length) (hj : j < O[k].2.2.length) : (rc O).getD (st O k + j) (0, 0, 0, 0) = (O[k].2.2[j].1, O[k].1, O[k].2.2[j].2, O[k].2.1) := by
  have hs : rc O = rc (O.take k) ++ ((O[k].2.2.map fun s => (s.1, O[k].1, s.2, O[k].2.1)) ++ rc (O.drop (k + 1))) := by
    have : O = O.take k ++ O[k] :: O.drop (k + 1) := by rw [← List.drop_eq_getElem_cons h, List.take_append_drop]
    unfold rc
    conv => lhs; rw [this]
    rw [List.flatMap_append, List.flatMap_cons]
  rw [List.getD_eq_getElem?_getD, hs]
  unfold st
  rw [List.getElem?_append_right (by omega), show (rc (O.take k)).length + j - (rc (O.take k)).length = j by omega, List.getElem?_append_left (by simpa using hj), List.getElem?_map, List.getElem?_eq_getElem hj]
  rfl

/-- The spans of a band rise. -/
theorem span_lt {O : List (Int × Int × List (Int × Int))} (hO : Good O) (k j : Nat) (h : k < O.length) (hj : j < O[k].2.2.length) : O[k].2.2[j].1 < O[k].2.2[j].2 := by
  have hs := (hO.sp O[k] (List.getElem_mem h)).1.rising
  have := List.pairwise_iff_getElem.1 hs (2 * j) (2 * j + 1) (by rw [edges_len]; omega) (by rw [edges_len]; omega) (by omega)
  rw [← nth_lt, ← nth_lt, edges_even _ j hj, edges_odd _ j hj] at this
  exact this
theorem span_next {O : List (Int × Int × List (Int × Int))} (hO : Good O) (k j : Nat) (h : k < O.length) (hj : j + 1 < O[k].2.2.length) : O[k].2.2[j].2 < O[k].2.2[j + 1].1 := by
  have hs := (hO.sp O[k] (List.getElem_mem h)).1.rising
  have := List.pairwise_iff_getElem.1 hs (2 * j + 1) (2 * (j + 1)) (by rw [edges_len]; omega) (by rw [edges_len]; omega) (by omega)
  rw [← nth_lt, ← nth_lt, edges_odd _ j (by omega), edges_even _ (j + 1) hj] at this
  exact this
theorem band_next {O : List (Int × Int × List (Int × Int))} (hO : Good O) (k : Nat) (h : k + 1 < O.length) : O[k].2.1 ≤ O[k + 1].1 := by
  have := List.pairwise_iff_getElem.1 hO.lv (2 * k + 1) (2 * (k + 1)) (by rw [levels_len]; omega) (by rw [levels_len]; omega) (by omega)
  rw [← nth_lt, ← nth_lt, levels_odd O k (by omega), levels_even O (k + 1) h] at this
  exact this

theorem not_alike {O : List (Int × Int × List (Int × Int))} (hO : Good O) (k : Nat) (h : k < O.length) : ¬ AlikeSaw (rc O) (st O (k - 1)) (st O k) (st O (k + 1)) := by
  rintro ⟨h1, h2, h3, h4⟩
  cases k with
  | zero => exact h1 rfl
  | succ k =>
    simp only [Nat.add_sub_cancel] at h1 h2 h3 h4
    have hk : k < O.length := by omega
    have s1 := st_succ O k hk
    have s2 := st_succ O (k + 1) h
    have p1 := st_lt hO k hk
    have p2 := st_lt hO (k + 1) h
    have hlen : O[k].2.2.length = O[k + 1].2.2.length := by omega
    have t1 := rc_at O k (O[k].2.2.length - 1) hk (by omega)
    have t2 := rc_at O (k + 1) 0 h (by omega)
    rw [show st O k + (O[k].2.2.length - 1) = st O (k + 1) - 1 by omega] at t1
    rw [Nat.add_zero] at t2
    rw [t1, t2] at h3
    refine hO.df k (by omega) h3 (List.ext_getElem hlen fun j j1 j2 => ?_)
    have := h4 (st O k + j) (by omega) (by omega)
    rw [show st O k + j + st O (k + 1) - st O k = st O (k + 1) + j by omega, rc_at O k j hk j1, rc_at O (k + 1) j h j2] at this
    exact Prod.ext this.1 this.2

/-- Where plain stands at rectangle i. -/
def At (O : List (Int × Int × List (Int × Int))) (i f ab : Nat) : Prop := (i = 0 ∧ f = 0 ∧ ab = 0) ∨ ∃ k, k < O.length ∧ st O k < i ∧ i ≤ st O (k + 1) ∧ f = st O k ∧ ab = st O (k - 1)

/-- Rectangle i is one, and how it follows the last one. -/
theorem at_rect {O : List (Int × Int × List (Int × Int))} (hO : Good O) {i f ab : Nat} (h : At O i f ab) (hi : i < (rc O).length) :
    (((rc O).getD i (0, 0, 0, 0)).1 < ((rc O).getD i (0, 0, 0, 0)).2.2.1 ∧ ((rc O).getD i (0, 0, 0, 0)).2.1 < ((rc O).getD i (0, 0, 0, 0)).2.2.2) ∧
    ((i = 0 ∧ At O 1 0 0 ∧ f = 0 ∧ ab = 0) ∨
     (0 < i ∧ ((rc O).getD (i - 1) (0, 0, 0, 0)).2.1 = ((rc O).getD i (0, 0, 0, 0)).2.1 ∧ ((rc O).getD (i - 1) (0, 0, 0, 0)).2.2.2 = ((rc O).getD i (0, 0, 0, 0)).2.2.2 ∧ ((rc O).getD (i - 1) (0, 0, 0, 0)).2.2.1 < ((rc O).getD i (0, 0, 0, 0)).1 ∧ At O (i + 1) f ab) ∨
     (0 < i ∧ ((rc O).getD (i - 1) (0, 0, 0, 0)).2.1 ≠ ((rc O).getD i (0, 0, 0, 0)).2.1 ∧ ((rc O).getD (i - 1) (0, 0, 0, 0)).2.2.2 ≤ ((rc O).getD i (0, 0, 0, 0)).2.1 ∧ ab ≤ f ∧ f < i ∧ (¬ AlikeSaw (rc O) ab f i) ∧ At O (i + 1) i f)) := by
  rcases h with ⟨rfl, rfl, rfl⟩ | ⟨k, hk, h1, h2, rfl, rfl⟩
  · have hO0 : 0 < O.length := by
      cases O with
      | nil => simp [rc] at hi
      | cons a O => simp
    have p := st_lt hO 0 hO0
    have s := st_succ O 0 hO0
    have hl0 : 0 < O[0].2.2.length := by omega
    have t : (rc O).getD 0 (0, 0, 0, 0) = (O[0].2.2[0].1, O[0].1, O[0].2.2[0].2, O[0].2.1) := rc_at O 0 0 hO0 hl0
    rw [st_zero] at p s
    rw [t]
    refine ⟨⟨span_lt hO 0 0 hO0 _, hO.tb _ (List.getElem_mem hO0)⟩, .inl ⟨rfl, .inr ⟨0, hO0, by rw [st_zero]; omega, by omega, rfl, rfl⟩, rfl, rfl⟩⟩
  · have s := st_succ O k hk
    have tb := hO.tb _ (List.getElem_mem hk)
    by_cases e : i < st O (k + 1)
    · obtain ⟨j, hj⟩ : ∃ j, i = st O k + (j + 1) := ⟨i - st O k - 1, by omega⟩
      have t1 := rc_at O k j hk (by omega)
      have t2 := rc_at O k (j + 1) hk (by omega)
      rw [← hj] at t2
      rw [show st O k + j = i - 1 by omega] at t1
      rw [t1, t2]
      exact ⟨⟨span_lt hO k (j + 1) hk _, tb⟩, .inr (.inl ⟨by omega, rfl, rfl, span_next hO k j hk (by omega), .inr ⟨k, hk, by omega, by omega, rfl, rfl⟩⟩)⟩
    · have ei : i = st O (k + 1) := by omega
      have hk1 : k + 1 < O.length := by
        by_cases hh : k + 1 < O.length
        · exact hh
        · rw [st_all O (k + 1) (by omega)] at ei; omega
      have p2 := st_lt hO (k + 1) hk1
      have s2 := st_succ O (k + 1) hk1
      have p1 := st_lt hO k hk
      have t1 := rc_at O k (O[k].2.2.length - 1) hk (by omega)
      have t2 := rc_at O (k + 1) 0 hk1 (by omega)
      rw [Nat.add_zero, ← ei] at t2
      rw [show st O k + (O[k].2.2.length - 1) = i - 1 by omega] at t1
      rw [t1, t2]
      have hb := band_next hO k hk1
      refine ⟨⟨span_lt hO (k + 1) 0 hk1 _, hO.tb _ (List.getElem_mem hk1)⟩, .inr (.inr ⟨by omega, ?_, hb, st_le _ _ (by omega), h1, by rw [ei]; exact not_alike hO k hk, .inr ⟨k + 1, hk1, by omega, by omega, ei, rfl⟩⟩)⟩
      show O[k].1 ≠ O[k + 1].1
      omega

theorem at_end {O : List (Int × Int × List (Int × Int))} (hO : Good O) {f ab : Nat} (h : At O (rc O).length f ab) : ab ≤ f ∧ f ≤ (rc O).length ∧ (ab < f → f < (rc O).length) ∧ ¬ AlikeSaw (rc O) ab f (rc O).length := by
  rcases h with ⟨h0, rfl, rfl⟩ | ⟨k, hk, h1, h2, rfl, rfl⟩
  · exact ⟨Nat.le_refl _, by omega, fun h => by omega, fun h => h.1 rfl⟩
  · have e := st_end O (k + 1)
    have : (rc O).length = st O (k + 1) := by omega
    refine ⟨st_le _ _ (by omega), by omega, fun _ => h1, ?_⟩
    rw [this]
    exact not_alike hO k hk

end Go.Proofs.Ytofinpocigbbeaa
