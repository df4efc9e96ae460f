import Derived.Test.YtofinpocigbbeaaPlnM
import Derived.Test.YtofinpocigbbeaaOfs
namespace Go.Proofs.Ytofinpocigbbeaa

/-! ### The cells between all edges of two lists of rectangles -/

/-- The edges are among E and F. -/
def Edged (E F : List Int) (l : List (Int × Int × Int × Int)) : Prop := ∀ r ∈ l, r.1 ∈ E ∧ r.2.2.1 ∈ E ∧ r.2.1 ∈ F ∧ r.2.2.2 ∈ F

def cellC (kind : Int) (la lb : List (Int × Int × Int × Int)) (x y : Int) : Bool := keepB kind (hasB la x y) (hasB lb x y)

def rowC (kind : Int) (la lb : List (Int × Int × Int × Int)) (E : List Int) (y : Int) (k : Nat) : List Bool := (List.range k).map fun j => cellC kind la lb (nth E j) y

def gridC (kind : Int) (la lb : List (Int × Int × Int × Int)) (E F : List Int) (i : Nat) : List Bool := (List.range i).flatMap fun q => rowC kind la lb E (nth F q) (E.length - 1)

theorem rowC_succ (kind : Int) (la lb : List (Int × Int × Int × Int)) (E : List Int) (y : Int) (k : Nat) : rowC kind la lb E y (k + 1) = rowC kind la lb E y k ++ [cellC kind la lb (nth E k) y] := by
  unfold rowC; rw [List.range_succ, List.map_append]; rfl

theorem rowC_len (kind : Int) (la lb : List (Int × Int × Int × Int)) (E : List Int) (y : Int) (k : Nat) : (rowC kind la lb E y k).length = k := by simp [rowC]

theorem gridC_succ (kind : Int) (la lb : List (Int × Int × Int × Int)) (E F : List Int) (i : Nat) : gridC kind la lb E F (i + 1) = gridC kind la lb E F i ++ rowC kind la lb E (nth F i) (E.length - 1) := by
  unfold gridC; rw [List.range_succ, List.flatMap_append]; simp

theorem gridC_len (kind : Int) (la lb : List (Int × Int × Int × Int)) (E F : List Int) (i : Nat) : (gridC kind la lb E F i).length = i * (E.length - 1) := by
  induction i with
  | zero => simp [gridC]
  | succ i ih => rw [gridC_succ, List.length_append, ih, rowC_len, Nat.add_mul, Nat.one_mul]

theorem gridC_split (kind : Int) (la lb : List (Int × Int × Int × Int)) (E F : List Int) {i m : Nat} (h : i < m) : ∃ R, gridC kind la lb E F m = gridC kind la lb E F i ++ (rowC kind la lb E (nth F i) (E.length - 1) ++ R) := by
  induction m with
  | zero => omega
  | succ m ih =>
    rw [gridC_succ]
    by_cases e : i = m
    · subst e; exact ⟨[], by simp⟩
    · obtain ⟨R, hR⟩ := ih (by omega)
      exact ⟨R ++ rowC kind la lb E (nth F m) (E.length - 1), by rw [hR]; simp [List.append_assoc]⟩

theorem gridC_row (kind : Int) (la lb : List (Int × Int × Int × Int)) (E F : List Int) {i m : Nat} (h : i < m) : rowI (gridC kind la lb E F m) (E.length - 1) i = rowC kind la lb E (nth F i) (E.length - 1) := by
  obtain ⟨R, hR⟩ := gridC_split kind la lb E F h
  unfold rowI
  rw [hR, List.drop_append_of_le_length (by rw [gridC_len]; exact Nat.le_refl _), List.drop_of_length_le (by rw [gridC_len]; exact Nat.le_refl _), List.nil_append, List.take_append_of_le_length (by rw [rowC_len]; exact Nat.le_refl _), List.take_of_length_le (by rw [rowC_len]; exact Nat.le_refl _)]

/-- Between which edges does a number lie? -/
theorem between {E : List Int} {x : Int} (h1 : nth E 0 ≤ x) (h2 : x < nth E (E.length - 1)) (hl : 0 < E.length) : ∃ k, k + 1 < E.length ∧ nth E k ≤ x ∧ x < nth E (k + 1) := by
  have key : ∀ q, q < E.length → x < nth E q → ∃ k, k + 1 < E.length ∧ nth E k ≤ x ∧ x < nth E (k + 1) := by
    intro q
    induction q with
    | zero => intro _ h; omega
    | succ q ih =>
      intro hq h
      by_cases hx : nth E q ≤ x
      · exact ⟨q, hq, hx, h⟩
      · exact ih (by omega) (by omega)
  exact key (E.length - 1) (by omega) h2

theorem hasB_cell {E F : List Int} {l : List (Int × Int × Int × Int)} (hE : E.Pairwise (· < ·)) (hF : F.Pairwise (· < ·)) (h : Edged E F l) {k i : Nat} (hk : k + 1 < E.length) (hi : i + 1 < F.length) {x y : Int}
    (x1 : nth E k ≤ x) (x2 : x < nth E (k + 1)) (y1 : nth F i ≤ y) (y2 : y < nth F (i + 1)) : hasB l x y = hasB l (nth E k) (nth F i) := by
  unfold hasB
  rw [Bool.eq_iff_iff, List.any_eq_true, List.any_eq_true]
  constructor
  · rintro ⟨r, hr, h2⟩
    refine ⟨r, hr, ?_⟩
    obtain ⟨e1, e2, e3, e4⟩ := h r hr
    unfold inR at h2 ⊢
    rw [decide_eq_true_eq] at h2 ⊢
    exact (has_cell hE hF e1 e2 e3 e4 hk hi x1 x2 y1 y2).1 h2
  · rintro ⟨r, hr, h2⟩
    refine ⟨r, hr, ?_⟩
    obtain ⟨e1, e2, e3, e4⟩ := h r hr
    unfold inR at h2 ⊢
    rw [decide_eq_true_eq] at h2 ⊢
    exact (has_cell hE hF e1 e2 e3 e4 hk hi x1 x2 y1 y2).2 h2

theorem in_low {E : List Int} (hE : E.Pairwise (· < ·)) {a : Int} (h : a ∈ E) : nth E 0 ≤ a ∧ a ≤ nth E (E.length - 1) := by
  obtain ⟨j, hj, rfl⟩ := List.getElem_of_mem h
  rw [← nth_lt E j hj]
  exact ⟨nth_mono' hE (Nat.zero_le _) hj, nth_mono' hE (by omega) (by omega)⟩

theorem hasB_out {E F : List Int} {l : List (Int × Int × Int × Int)} (hE : E.Pairwise (· < ·)) (hF : F.Pairwise (· < ·)) (h : Edged E F l) {x y : Int} (ho : x < nth E 0 ∨ nth E (E.length - 1) ≤ x ∨ y < nth F 0 ∨ nth F (F.length - 1) ≤ y) : hasB l x y = false := by
  unfold hasB
  rw [List.any_eq_false]
  intro r hr
  obtain ⟨e1, e2, e3, e4⟩ := h r hr
  have a1 := in_low hE e1
  have a2 := in_low hE e2
  have a3 := in_low hF e3
  have a4 := in_low hF e4
  unfold inR
  rw [decide_eq_true_eq]
  omega

/-- The grid of cells has just the points that the kind says. -/
theorem grid_is {E F : List Int} {la lb : List (Int × Int × Int × Int)} (kind : Int) (hE : E.Pairwise (· < ·)) (hF : F.Pairwise (· < ·)) (ha : Edged E F la) (hb : Edged E F lb) (nE : 0 < E.length) (nF : 0 < F.length) (x y : Int) :
    gridIn E F (gridC kind la lb E F (F.length - 1)) x y = keepB kind (hasB la x y) (hasB lb x y) := by
  by_cases hy : nth F 0 ≤ y ∧ y < nth F (F.length - 1)
  · obtain ⟨i, hi, y1, y2⟩ := between hy.1 hy.2 nF
    rw [gridIn_at hF hi y1 y2, gridC_row kind la lb E F (show i < F.length - 1 by omega)]
    have hl : (rowC kind la lb E (nth F i) (E.length - 1)).length + 1 = E.length := by rw [rowC_len]; omega
    by_cases hx : nth E 0 ≤ x ∧ x < nth E (E.length - 1)
    · obtain ⟨k, hk, x1, x2⟩ := between hx.1 hx.2 nE
      rw [cellIn_at hE hl (by rw [rowC_len]; omega) x1 x2, hasB_cell hE hF ha hk hi x1 x2 y1 y2, hasB_cell hE hF hb hk hi x1 x2 y1 y2]
      unfold rowC
      rw [List.getD_eq_getElem?_getD, List.getElem?_map, List.getElem?_range (by omega)]
      rfl
    · rw [hasB_out hE hF ha (by omega), hasB_out hE hF hb (by omega), keepB_none]
      by_cases hx0 : nth E 0 ≤ x
      · exact cellIn_high hE hl (by rw [rowC_len]; omega)
      · exact cellIn_low hE hl (by omega)
  · rw [hasB_out hE hF ha (by omega), hasB_out hE hF hb (by omega), keepB_none]
    by_cases hy0 : nth F 0 ≤ y
    · exact gridIn_high hF (by omega)
    · exact gridIn_low hF (by omega)

end Go.Proofs.Ytofinpocigbbeaa
