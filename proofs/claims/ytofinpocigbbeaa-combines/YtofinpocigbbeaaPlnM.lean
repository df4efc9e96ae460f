import Derived.Test.YtofinpocigbbeaaRowM
namespace Go.Proofs.Ytofinpocigbbeaa

/-! ### Rows of cells, one below the other -/

def rowI (I : List Bool) (n i : Nat) : List Bool := (I.drop (i * n)).take n

theorem rowI_len {I : List Bool} {n m i : Nat} (hI : I.length = m * n) (hi : i < m) : (rowI I n i).length = n := by
  unfold rowI
  rw [List.length_take, List.length_drop, hI]
  have : (i + 1) * n ≤ m * n := Nat.mul_le_mul_right n hi
  rw [Nat.add_mul, Nat.one_mul] at this
  omega

/-- Is a point in a cell that is in? -/
def gridIn (E F : List Int) (I : List Bool) (x y : Int) : Bool := (List.range (F.length - 1)).any fun i => decide (nth F i ≤ y ∧ y < nth F (i + 1)) && cellIn E (rowI I (E.length - 1) i) x

theorem gridIn_at {E F : List Int} {I : List Bool} (hF : F.Pairwise (· < ·)) {i : Nat} (hi : i + 1 < F.length) {x y : Int} (h1 : nth F i ≤ y) (h2 : y < nth F (i + 1)) : gridIn E F I x y = cellIn E (rowI I (E.length - 1) i) x := by
  unfold gridIn
  have key : ∀ j, j < F.length - 1 → j ≠ i → ¬ (nth F j ≤ y ∧ y < nth F (j + 1)) := by
    rintro j hj e ⟨a, b⟩
    by_cases l : j < i
    · have := nth_mono' hF (show j + 1 ≤ i by omega) (by omega)
      omega
    · have := nth_mono' hF (show i + 1 ≤ j by omega) (by omega)
      omega
  cases hc : cellIn E (rowI I (E.length - 1) i) x with
  | true =>
    rw [List.any_eq_true]
    refine ⟨i, List.mem_range.2 (by omega), ?_⟩
    rw [hc]
    simp
    exact ⟨h1, h2⟩
  | false =>
    rw [List.any_eq_false]
    intro j hj
    have hj := List.mem_range.1 hj
    by_cases e : j = i
    · subst e; rw [hc]; simp
    · simp [key j hj e]

theorem gridIn_low {E F : List Int} {I : List Bool} (hF : F.Pairwise (· < ·)) {x y : Int} (h : y < nth F 0) : gridIn E F I x y = false := by
  unfold gridIn
  rw [List.any_eq_false]
  intro j hj
  have hj := List.mem_range.1 hj
  have := nth_mono' hF (show 0 ≤ j by omega) (by omega)
  have : ¬ (nth F j ≤ y ∧ y < nth F (j + 1)) := by omega
  simp [this]

theorem gridIn_high {E F : List Int} {I : List Bool} (hF : F.Pairwise (· < ·)) {x y : Int} (h : nth F (F.length - 1) ≤ y) : gridIn E F I x y = false := by
  unfold gridIn
  rw [List.any_eq_false]
  intro j hj
  have hj := List.mem_range.1 hj
  have := nth_mono' hF (show j + 1 ≤ F.length - 1 by omega) (by omega)
  have : ¬ (nth F j ≤ y ∧ y < nth F (j + 1)) := by omega
  simp [this]

/-- The bands of the first i rows. -/
structure GridR (E F : List Int) (I : List Bool) (i : Nat) (O : List (Int × Int × List (Int × Int))) : Prop where
  good : Good O
  upto : ∀ e ∈ levels O, e ≤ nth F i
  is : ∀ x y, y < nth F i → memR O x y = gridIn E F I x y

theorem gridR_start {E F : List Int} {I : List Bool} (hF : F.Pairwise (· < ·)) : GridR E F I 0 [] :=
  ⟨good_nil, fun e he => by simp [levels] at he, fun x y hy => by rw [gridIn_low hF hy]; rfl⟩

theorem gridR_next {E F : List Int} {I : List Bool} {i : Nat} {O : List (Int × Int × List (Int × Int))} {L : List (Int × Int)} (hE : E.Pairwise (· < ·)) (hF : F.Pairwise (· < ·)) (bE : ∀ e ∈ E, -2000 ≤ e ∧ e ≤ 2000) (bF : ∀ e ∈ F, -2000 ≤ e ∧ e ≤ 2000)
    (hl : (rowI I (E.length - 1) i).length + 1 = E.length) (hi : i + 1 < F.length) (h : GridR E F I i O) (hL : RowR E (rowI I (E.length - 1) i) (rowI I (E.length - 1) i).length L) : GridR E F I (i + 1) (addB O (nth F i, nth F (i + 1), L)) := by
  have hm := nth_mono hF (show i < i + 1 by omega) hi
  obtain ⟨hS, hmem⟩ := rowR_done hE hl bE hL
  have b1 := bF _ (nth_in (show i < F.length by omega))
  have b2 := bF _ (nth_in hi)
  refine ⟨good_add h.good h.upto hm b1.1 (fun _ => b2.2) hS, levels_add O _ _ (fun e he => by have := h.upto e he; omega) (by show nth F i ≤ _; omega) (Int.le_refl _), fun x y hy => ?_⟩
  rw [memR_add O _ x y hm h.good.tb]
  show (memR O x y || (decide (nth F i ≤ y ∧ y < nth F (i + 1)) && memS L x)) = _
  by_cases hy' : y < nth F i
  · rw [h.is x y hy']
    have : ¬ (nth F i ≤ y ∧ y < nth F (i + 1)) := by omega
    simp [this]
  · rw [memR_past O x y fun e he => by have := h.upto e he; omega, gridIn_at hF hi (by omega) hy, hmem]
    have : nth F i ≤ y ∧ y < nth F (i + 1) := by omega
    simp [this]

theorem gridR_done {E F : List Int} {I : List Bool} {O : List (Int × Int × List (Int × Int))} (hF : F.Pairwise (· < ·)) (h : GridR E F I (F.length - 1) O) : ∀ x y, memR O x y = gridIn E F I x y := by
  intro x y
  by_cases hy : y < nth F (F.length - 1)
  · exact h.is x y hy
  · rw [gridIn_high hF (by omega), memR_past O x y fun e he => by have := h.upto e he; omega]

/-! ### The cells between all edges of some rectangles -/

/-- All edges of l's rectangles are among E and F: then l has a cell whole or not at all. -/
theorem has_cell {E F : List Int} (hE : E.Pairwise (· < ·)) (hF : F.Pairwise (· < ·)) {a b c d : Int} (e1 : a ∈ E) (e2 : c ∈ E) (f1 : b ∈ F) (f2 : d ∈ F) {k i : Nat} (hk : k + 1 < E.length) (hi : i + 1 < F.length) {x y : Int}
    (x1 : nth E k ≤ x) (x2 : x < nth E (k + 1)) (y1 : nth F i ≤ y) (y2 : y < nth F (i + 1)) : (a ≤ x ∧ x < c ∧ b ≤ y ∧ y < d) ↔ (a ≤ nth E k ∧ nth E k < c ∧ b ≤ nth F i ∧ nth F i < d) := by
  have key : ∀ {E : List Int}, E.Pairwise (· < ·) → ∀ {k : Nat}, k + 1 < E.length → ∀ {z q : Int}, z ∈ E → nth E k ≤ q → q < nth E (k + 1) → (z ≤ q ↔ z ≤ nth E k) := by
    intro E hE k hk z q hz h1 h2
    constructor
    · intro h
      obtain ⟨j, hj, rfl⟩ := List.getElem_of_mem hz
      rw [← nth_lt E j hj] at h ⊢
      by_cases l : j ≤ k
      · exact nth_mono' hE l (by omega)
      · have := nth_mono' hE (show k + 1 ≤ j by omega) hj
        omega
    · intro h; omega
  have k1 := key hE hk e1 x1 x2
  have k2 := key hE hk e2 x1 x2
  have k3 := key hF hi f1 y1 y2
  have k4 := key hF hi f2 y1 y2
  constructor
  · rintro ⟨p1, p2, p3, p4⟩
    exact ⟨k1.1 p1, by omega, k3.1 p3, by omega⟩
  · rintro ⟨p1, p2, p3, p4⟩
    exact ⟨k1.2 p1, by omega, k3.2 p3, by omega⟩

end Go.Proofs.Ytofinpocigbbeaa
