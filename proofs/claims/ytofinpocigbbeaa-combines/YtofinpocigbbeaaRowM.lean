import Derived.Test.YtofinpocigbbeaaUni
namespace Go.Proofs.Ytofinpocigbbeaa

/-! ### A row of cells -/

/-- Is x in a cell that is in? E: the cells' edges; I: which cells are in. -/
def cellIn (E : List Int) (I : List Bool) (x : Int) : Bool := (List.range I.length).any fun k => I.getD k false && decide (nth E k ≤ x ∧ x < nth E (k + 1))

theorem nth_mono {E : List Int} (hs : E.Pairwise (· < ·)) {i j : Nat} (h : i < j) (hj : j < E.length) : nth E i < nth E j := by
  rw [nth_lt E i (by omega), nth_lt E j hj]
  exact List.pairwise_iff_getElem.1 hs i j _ hj h

theorem nth_mono' {E : List Int} (hs : E.Pairwise (· < ·)) {i j : Nat} (h : i ≤ j) (hj : j < E.length) : nth E i ≤ nth E j := by
  by_cases e : i = j
  · subst e; exact Int.le_refl _
  · exact Int.le_of_lt (nth_mono hs (by omega) hj)

theorem cellIn_at {E : List Int} {I : List Bool} (hs : E.Pairwise (· < ·)) (hl : I.length + 1 = E.length) {k : Nat} (hk : k < I.length) {x : Int} (h1 : nth E k ≤ x) (h2 : x < nth E (k + 1)) : cellIn E I x = I.getD k false := by
  unfold cellIn
  cases hI : I.getD k false with
  | true =>
    rw [List.any_eq_true]
    refine ⟨k, List.mem_range.2 hk, ?_⟩
    rw [hI]
    simp
    exact ⟨h1, h2⟩
  | false =>
    rw [List.any_eq_false]
    intro j hj
    have hj := List.mem_range.1 hj
    by_cases e : j = k
    · subst e; rw [hI]; simp
    · have : ¬ (nth E j ≤ x ∧ x < nth E (j + 1)) := by
        rintro ⟨a, b⟩
        by_cases l : j < k
        · have := nth_mono' hs (show j + 1 ≤ k by omega) (by omega)
          omega
        · have := nth_mono' hs (show k + 1 ≤ j by omega) (by omega)
          omega
      simp [this]

theorem cellIn_low {E : List Int} {I : List Bool} (hs : E.Pairwise (· < ·)) (hl : I.length + 1 = E.length) {x : Int} (h : x < nth E 0) : cellIn E I x = false := by
  unfold cellIn
  rw [List.any_eq_false]
  intro j hj
  have hj := List.mem_range.1 hj
  have := nth_mono' hs (show 0 ≤ j by omega) (by omega)
  have : ¬ (nth E j ≤ x ∧ x < nth E (j + 1)) := by omega
  simp [this]

theorem cellIn_high {E : List Int} {I : List Bool} (hs : E.Pairwise (· < ·)) (hl : I.length + 1 = E.length) {x : Int} (h : nth E I.length ≤ x) : cellIn E I x = false := by
  unfold cellIn
  rw [List.any_eq_false]
  intro j hj
  have hj := List.mem_range.1 hj
  have := nth_mono' hs (show j + 1 ≤ I.length by omega) (by omega)
  have : ¬ (nth E j ≤ x ∧ x < nth E (j + 1)) := by omega
  simp [this]

/-- The spans of the first i cells. -/
structure RowR (E : List Int) (I : List Bool) (i : Nat) (L : List (Int × Int)) : Prop where
  rising : (edges L).Pairwise (· < ·)
  mem : ∀ e ∈ edges L, e ∈ E
  upto : ∀ e ∈ edges L, e ≤ nth E i
  grows : 0 < i → I.getD (i - 1) false = true → ∃ D f, L = D ++ [(f, nth E i)]
  shut : (i = 0 ∨ I.getD (i - 1) false = false) → ∀ e ∈ edges L, e < nth E i
  is : ∀ x, x < nth E i → memS L x = cellIn E I x

theorem rowR_start {E : List Int} {I : List Bool} (hs : E.Pairwise (· < ·)) (hl : I.length + 1 = E.length) : RowR E I 0 [] :=
  ⟨List.Pairwise.nil, fun e he => by simp [edges] at he, fun e he => by simp [edges] at he, fun h => by omega, fun _ e he => by simp [edges] at he, fun x hx => by rw [cellIn_low hs hl hx]; rfl⟩

theorem rowR_skip {E : List Int} {I : List Bool} {i : Nat} {L : List (Int × Int)} (hs : E.Pairwise (· < ·)) (hl : I.length + 1 = E.length) (h : RowR E I i L) (hi : i < I.length) (hI : I.getD i false = false) : RowR E I (i + 1) L := by
  have hm := nth_mono hs (show i < i + 1 by omega) (by omega)
  refine ⟨h.rising, h.mem, fun e he => by have := h.upto e he; omega, fun _ hh => ?_, fun _ e he => by have := h.upto e he; omega, fun x hx => ?_⟩
  · simp only [Nat.add_sub_cancel] at hh; rw [hI] at hh; simp at hh
  · by_cases hx' : x < nth E i
    · exact h.is x hx'
    · rw [cellIn_at hs hl hi (by omega) hx, hI, memS_past L h.rising x fun e he => by have := h.upto e he; omega]

theorem nth_in {E : List Int} {i : Nat} (h : i < E.length) : nth E i ∈ E := by rw [nth_lt E i h]; exact List.getElem_mem h

theorem rowR_new {E : List Int} {I : List Bool} {i : Nat} {L : List (Int × Int)} (hs : E.Pairwise (· < ·)) (hl : I.length + 1 = E.length) (h : RowR E I i L) (hi : i < I.length) (hI : I.getD i false = true) (hp : i = 0 ∨ I.getD (i - 1) false = false) : RowR E I (i + 1) (L ++ [(nth E i, nth E (i + 1))]) := by
  have hm := nth_mono hs (show i < i + 1 by omega) (by omega)
  have hsh := h.shut hp
  have hed : edges (L ++ [(nth E i, nth E (i + 1))]) = edges L ++ [nth E i, nth E (i + 1)] := by rw [edges_append]; rfl
  refine ⟨?_, ?_, ?_, fun _ _ => ⟨L, _, rfl⟩, fun hh => ?_, fun x hx => ?_⟩
  · rw [hed, List.pairwise_append]
    refine ⟨h.rising, by simp; exact hm, fun a ha b hb => ?_⟩
    have := hsh a ha
    simp at hb
    omega
  · intro e he
    rw [hed] at he
    simp at he
    rcases he with he | he | he
    · exact h.mem e he
    · subst he; exact nth_in (by omega)
    · subst he; exact nth_in (by omega)
  · intro e he
    rw [hed] at he
    simp at he
    rcases he with he | he | he
    · have := h.upto e he; omega
    · omega
    · omega
  · simp only [Nat.add_sub_cancel] at hh
    rw [hI] at hh
    simp at hh
  · have e1 : memS (L ++ [(nth E i, nth E (i + 1))]) x = (memS L x || decide (nth E i ≤ x ∧ x < nth E (i + 1))) := by unfold memS; simp
    rw [e1]
    by_cases hx' : x < nth E i
    · rw [h.is x hx']
      have : ¬ (nth E i ≤ x ∧ x < nth E (i + 1)) := by omega
      simp [this]
    · rw [cellIn_at hs hl hi (by omega) hx, hI]
      have : nth E i ≤ x ∧ x < nth E (i + 1) := by omega
      simp [this]

theorem rowR_grow {E : List Int} {I : List Bool} {i : Nat} {D : List (Int × Int)} {f : Int} (hs : E.Pairwise (· < ·)) (hl : I.length + 1 = E.length) (h : RowR E I i (D ++ [(f, nth E i)])) (hi : i < I.length) (hI : I.getD i false = true) : RowR E I (i + 1) (D ++ [(f, nth E (i + 1))]) := by
  have hm := nth_mono hs (show i < i + 1 by omega) (by omega)
  have hr := h.rising
  have hed : ∀ z, edges (D ++ [(f, z)]) = edges D ++ [f, z] := fun z => by rw [edges_append]; rfl
  rw [hed, List.pairwise_append] at hr
  obtain ⟨r1, r2, r3⟩ := hr
  simp at r2
  refine ⟨?_, ?_, ?_, fun _ _ => ⟨D, f, rfl⟩, fun hh => ?_, fun x hx => ?_⟩
  · rw [hed, List.pairwise_append]
    refine ⟨r1, by simp; omega, fun a ha b hb => ?_⟩
    have := r3 a ha f (by simp)
    simp at hb
    omega
  · intro e he
    rw [hed] at he
    simp at he
    rcases he with he | he | he
    · exact h.mem e (by rw [hed]; simp [he])
    · subst he; exact h.mem _ (by rw [hed]; simp)
    · subst he; exact nth_in (by omega)
  · intro e he
    rw [hed] at he
    simp at he
    rcases he with he | he | he
    · have := r3 e he f (by simp); omega
    · omega
    · omega
  · simp only [Nat.add_sub_cancel] at hh
    rw [hI] at hh
    simp at hh
  · have e1 : ∀ z, memS (D ++ [(f, z)]) x = (memS D x || decide (f ≤ x ∧ x < z)) := fun z => by unfold memS; simp
    rw [e1]
    by_cases hx' : x < nth E i
    · rw [← h.is x hx', e1]
      congr 1
      rw [decide_eq_decide]
      omega
    · rw [cellIn_at hs hl hi (by omega) hx, hI]
      have : f ≤ x ∧ x < nth E (i + 1) := by omega
      simp [this]

theorem rowR_done {E : List Int} {I : List Bool} {L : List (Int × Int)} (hs : E.Pairwise (· < ·)) (hl : I.length + 1 = E.length) (hb : ∀ e ∈ E, -2000 ≤ e ∧ e ≤ 2000) (h : RowR E I I.length L) : Spans L ∧ ∀ x, memS L x = cellIn E I x := by
  refine ⟨⟨h.rising, fun e he => hb e (h.mem e he)⟩, fun x => ?_⟩
  by_cases hx : x < nth E I.length
  · exact h.is x hx
  · rw [cellIn_high hs hl (by omega), memS_past L h.rising x fun e he => by have := h.upto e he; omega]

end Go.Proofs.Ytofinpocigbbeaa
