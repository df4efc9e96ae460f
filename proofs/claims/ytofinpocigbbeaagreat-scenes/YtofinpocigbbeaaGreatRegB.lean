import Derived.Test.YtofinpocigbbeaaGreatReg
namespace Go.Proofs.YtofinpocigbbeaaGreat

/-! ### Bands: top, bottom, spans -/

def levels (A : List (Int × Int × List (Int × Int))) : List Int := A.flatMap fun b => [b.1, b.2.1]

theorem levels_nil : levels [] = [] := rfl
theorem levels_cons (b : Int × Int × List (Int × Int)) (A : List (Int × Int × List (Int × Int))) : levels (b :: A) = b.1 :: b.2.1 :: levels A := rfl
theorem levels_append (A B : List (Int × Int × List (Int × Int))) : levels (A ++ B) = levels A ++ levels B := by simp [levels]
theorem levels_len (A : List (Int × Int × List (Int × Int))) : (levels A).length = 2 * A.length := by
  induction A with
  | nil => rfl
  | cons b A ih => rw [levels_cons]; simp [ih]; omega

theorem levels_even (A : List (Int × Int × List (Int × Int))) (k : Nat) (h : k < A.length) : nth (levels A) (2 * k) = A[k].1 := by
  induction A generalizing k with
  | nil => simp at h
  | cons s L ih =>
    cases k with
    | zero => rfl
    | succ k => simp at h ⊢; rw [← ih k h]; rfl

theorem levels_odd (A : List (Int × Int × List (Int × Int))) (k : Nat) (h : k < A.length) : nth (levels A) (2 * k + 1) = A[k].2.1 := by
  induction A generalizing k with
  | nil => simp at h
  | cons s L ih =>
    cases k with
    | zero => rfl
    | succ k => simp at h ⊢; rw [← ih k h]; rfl

theorem top_mem {A : List (Int × Int × List (Int × Int))} {b : Int × Int × List (Int × Int)} (h : b ∈ A) : b.1 ∈ levels A := by
  unfold levels; rw [List.mem_flatMap]; exact ⟨b, h, by simp⟩
theorem bot_mem {A : List (Int × Int × List (Int × Int))} {b : Int × Int × List (Int × Int)} (h : b ∈ A) : b.2.1 ∈ levels A := by
  unfold levels; rw [List.mem_flatMap]; exact ⟨b, h, by simp⟩

/-- A region in its plain form. -/
structure Good (A : List (Int × Int × List (Int × Int))) : Prop where
  lv : (levels A).Pairwise (· ≤ ·)
  tb : ∀ b ∈ A, b.1 < b.2.1
  bd : ∀ e ∈ levels A, -2000 ≤ e ∧ e ≤ 2000
  sp : ∀ b ∈ A, Spans b.2.2 ∧ b.2.2 ≠ []
  df : ∀ k (h : k + 1 < A.length), A[k].2.1 = A[k + 1].1 → A[k].2.2 ≠ A[k + 1].2.2

theorem good_nil : Good [] := ⟨List.Pairwise.nil, fun b hb => by simp at hb, fun e he => by simp [levels] at he, fun b hb => by simp at hb, fun k h => by simp at h⟩

def memR (A : List (Int × Int × List (Int × Int))) (x y : Int) : Bool := A.any fun b => decide (b.1 ≤ y ∧ y < b.2.1) && memS b.2.2 x

/-- The spans between the edges k - 1 and k. -/
def rowAt (A : List (Int × Int × List (Int × Int))) (k : Nat) : List (Int × Int) := if k % 2 = 0 then [] else ((A[k / 2]?).map fun b => b.2.2).getD []

theorem rowAt_even (A : List (Int × Int × List (Int × Int))) (k : Nat) : rowAt A (2 * k) = [] := by unfold rowAt; simp
theorem rowAt_odd (A : List (Int × Int × List (Int × Int))) (k : Nat) (h : k < A.length) : rowAt A (2 * k + 1) = A[k].2.2 := by
  unfold rowAt
  rw [if_neg (by omega), show (2 * k + 1) / 2 = k from by omega, List.getElem?_eq_getElem h]; rfl

theorem rowAt_spans {A : List (Int × Int × List (Int × Int))} (h : Good A) (k : Nat) : Spans (rowAt A k) := by
  unfold rowAt
  split
  · exact spans_nil
  · cases e : A[k / 2]? with
    | none => exact spans_nil
    | some b => exact (h.sp b (List.mem_of_getElem? e)).1

theorem memR_far (A : List (Int × Int × List (Int × Int))) (x y : Int) (h : ∀ e ∈ levels A, y < e) : memR A x y = false := by
  unfold memR
  rw [List.any_eq_false]
  intro b hb
  have := h b.1 (top_mem hb)
  have : ¬ (b.1 ≤ y ∧ y < b.2.1) := by omega
  simp [this]

theorem memR_past (A : List (Int × Int × List (Int × Int))) (x y : Int) (h : ∀ e ∈ levels A, e ≤ y) : memR A x y = false := by
  unfold memR
  rw [List.any_eq_false]
  intro b hb
  have := h b.2.1 (bot_mem hb)
  have : ¬ (b.1 ≤ y ∧ y < b.2.1) := by omega
  simp [this]

theorem memR_cons (b : Int × Int × List (Int × Int)) (A : List (Int × Int × List (Int × Int))) (x y : Int) : memR (b :: A) x y = ((decide (b.1 ≤ y ∧ y < b.2.1) && memS b.2.2 x) || memR A x y) := rfl
theorem memR_append (A B : List (Int × Int × List (Int × Int))) (x y : Int) : memR (A ++ B) x y = (memR A x y || memR B x y) := by unfold memR; rw [List.any_append]

theorem rowAt_cons2 (b : Int × Int × List (Int × Int)) (A : List (Int × Int × List (Int × Int))) (k : Nat) : rowAt (b :: A) (2 + k) = rowAt A k := by
  unfold rowAt
  rw [show (2 + k) % 2 = k % 2 from by omega, show (2 + k) / 2 = k / 2 + 1 from by omega]
  rfl

/-- A point is in by the row that the count of the edges above it says. -/
theorem memR_cnt (A : List (Int × Int × List (Int × Int))) (hl : (levels A).Pairwise (· ≤ ·)) (ht : ∀ b ∈ A, b.1 < b.2.1) (x y : Int) : memR A x y = memS (rowAt A (cnt (levels A) y)) x := by
  induction A with
  | nil => rfl
  | cons b A ih =>
    rw [levels_cons] at hl
    obtain ⟨h1, h2⟩ := List.pairwise_cons.1 hl
    obtain ⟨h3, h4⟩ := List.pairwise_cons.1 h2
    have ih := ih h4 fun b hb => ht b (by simp [hb])
    have htb := ht b (by simp)
    rw [levels_cons, cnt_cons, cnt_cons, memR_cons]
    by_cases a : b.1 ≤ y
    · by_cases c : b.2.1 ≤ y
      · rw [if_pos a, if_pos c, ih, show 1 + (1 + cnt (levels A) y) = 2 + cnt (levels A) y from by omega, rowAt_cons2]
        have : ¬ (b.1 ≤ y ∧ y < b.2.1) := by omega
        simp [this]
      · have hz : cnt (levels A) y = 0 := cnt_zero _ _ fun e he => by have := h3 e he; omega
        rw [if_pos a, if_neg c, hz, memR_far A x y fun e he => by have := h3 e he; omega]
        have : b.1 ≤ y ∧ y < b.2.1 := by omega
        simp [this, rowAt]
    · have hz : cnt (levels A) y = 0 := cnt_zero _ _ fun e he => by have := h3 e he; omega
      rw [if_neg a, if_neg (by omega), hz, memR_far A x y fun e he => by have := h3 e he; omega]
      have : ¬ (b.1 ≤ y ∧ y < b.2.1) := by omega
      simp [this, rowAt, memS]

/-- A band put below all others. -/
def addB (O : List (Int × Int × List (Int × Int))) (b : Int × Int × List (Int × Int)) : List (Int × Int × List (Int × Int)) :=
  if b.2.2 = [] then O else
    match O.getLast? with
    | some l => if l.2.1 = b.1 ∧ l.2.2 = b.2.2 then O.dropLast ++ [(l.1, b.2.1, l.2.2)] else O ++ [b]
    | none => [b]

/-- What is done so far: c is the last level passed. -/
structure Walk (kind : Int) (A B : List (Int × Int × List (Int × Int))) (c : Int) (i j : Nat) (O : List (Int × Int × List (Int × Int))) : Prop where
  hi : i = cnt (levels A) c
  hj : j = cnt (levels B) c
  good : Good O
  upto : ∀ e ∈ levels O, e ≤ nextE (levels A) (levels B) i j
  is : ∀ x y, y < nextE (levels A) (levels B) i j → memR O x y = keepB kind (memR A x y) (memR B x y)

theorem Good.far {A : List (Int × Int × List (Int × Int))} (h : Good A) : ∀ e ∈ levels A, e < big := fun e he => by have := h.bd e he; unfold big; omega

theorem walk_start {kind : Int} {A B : List (Int × Int × List (Int × Int))} (hA : Good A) (hB : Good B) : Walk kind A B (-3000) 0 0 [] := by
  have zA : cnt (levels A) (-3000) = 0 := cnt_zero _ _ fun e he => by have := hA.bd e he; omega
  have zB : cnt (levels B) (-3000) = 0 := cnt_zero _ _ fun e he => by have := hB.bd e he; omega
  refine ⟨zA.symm, zB.symm, good_nil, fun e he => by simp [levels] at he, fun x y hy => ?_⟩
  have kA : memR A x y = false := by
    refine memR_far A x y fun e he => ?_
    obtain ⟨k, hk, rfl⟩ := List.getElem_of_mem he
    have h0 : 0 < (levels A).length := by omega
    have : nth (levels A) 0 ≤ (levels A)[k] := by
      rw [nth_lt _ _ h0]
      by_cases e : k = 0
      · subst e; exact Int.le_refl _
      · exact List.pairwise_iff_getElem.1 hA.lv _ _ h0 hk (by omega)
    unfold nextE at hy; omega
  have kB : memR B x y = false := by
    refine memR_far B x y fun e he => ?_
    obtain ⟨k, hk, rfl⟩ := List.getElem_of_mem he
    have h0 : 0 < (levels B).length := by omega
    have : nth (levels B) 0 ≤ (levels B)[k] := by
      rw [nth_lt _ _ h0]
      by_cases e : k = 0
      · subst e; exact Int.le_refl _
      · exact List.pairwise_iff_getElem.1 hB.lv _ _ h0 hk (by omega)
    unfold nextE at hy; omega
  rw [kA, kB, keepB_none]; rfl

theorem getLast_split {α : Type} (O : List α) (l : α) (h : O.getLast? = some l) : O = O.dropLast ++ [l] := by
  cases O with
  | nil => simp at h
  | cons a O =>
    rw [List.getLast?_eq_some_getLast (by simp)] at h
    simp only [Option.some.injEq] at h
    rw [← h]
    exact (List.dropLast_concat_getLast (by simp)).symm

/-- The band becomes part of what there is: the plain form stays. -/
theorem good_add {O : List (Int × Int × List (Int × Int))} (h : Good O) {b : Int × Int × List (Int × Int)} (hup : ∀ e ∈ levels O, e ≤ b.1) (htb : b.1 < b.2.1) (h0 : -2000 ≤ b.1) (h1 : b.2.2 ≠ [] → b.2.1 ≤ 2000) (hs : Spans b.2.2) : Good (addB O b) := by
  unfold addB
  split
  · exact h
  · rename_i hne
    have h1 := h1 hne
    split
    · rename_i l hl
      have hO := getLast_split O l hl
      generalize hD : O.dropLast = D at hO
      subst hO
      have hlm : l ∈ D ++ [l] := by simp
      have hlv := h.lv
      rw [levels_append, levels_cons, levels_nil, List.pairwise_append] at hlv
      obtain ⟨v1, v2, v3⟩ := hlv
      have ltb := h.tb l hlm
      have lub := hup l.2.1 (bot_mem hlm)
      split
      · rename_i hc
        obtain ⟨c1, c2⟩ := hc
        refine ⟨?_, ?_, ?_, ?_, ?_⟩
        · rw [levels_append, levels_cons, levels_nil, List.pairwise_append]
          refine ⟨v1, ?_, fun a ha e he => ?_⟩
          · simp; omega
          · have q := v3 a ha l.1 (by simp)
            simp at he
            rcases he with he | he
            · omega
            · omega
        · intro b' hb'
          simp at hb'
          rcases hb' with hb' | hb'
          · exact h.tb b' (by simp [hb'])
          · subst hb'; show l.1 < b.2.1; omega
        · intro e he
          rw [levels_append, levels_cons, levels_nil] at he
          simp at he
          rcases he with he | he | he
          · exact h.bd e (by rw [levels_append]; simp [he])
          · subst he; exact h.bd _ (top_mem hlm)
          · subst he; omega
        · intro b' hb'
          simp at hb'
          rcases hb' with hb' | hb'
          · exact h.sp b' (by simp [hb'])
          · subst hb'; exact h.sp l hlm
        · intro k hk e
          simp at hk
          by_cases hkD : k + 1 < D.length
          · have := h.df k (by simp; omega)
            simp only [List.getElem_append_left (show k < D.length by omega), List.getElem_append_left hkD] at e this ⊢
            exact this e
          · have ek : k + 1 = D.length := by omega
            have := h.df k (by simp; omega)
            have a1 : (D ++ [l])[k + 1]'(by simp; omega) = l := by simp [ek]
            have a2 : (D ++ [(l.1, b.2.1, l.2.2)])[k + 1]'(by simp; omega) = (l.1, b.2.1, l.2.2) := by simp [ek]
            rw [a1] at this
            rw [a2] at e ⊢
            simp only [List.getElem_append_left (show k < D.length by omega)] at e this ⊢
            exact this e
      · rename_i hc
        refine ⟨?_, ?_, ?_, ?_, ?_⟩
        · rw [levels_append, List.pairwise_append]
          refine ⟨h.lv, ?_, fun a ha e he => ?_⟩
          · rw [levels_cons, levels_nil]; simp; omega
          · have := hup a ha
            rw [levels_cons, levels_nil] at he
            simp at he; omega
        · intro b' hb'
          rw [List.mem_append] at hb'
          rcases hb' with hb' | hb'
          · exact h.tb b' hb'
          · simp at hb'; subst hb'; exact htb
        · intro e he
          rw [levels_append, List.mem_append] at he
          rcases he with he | he
          · exact h.bd e he
          · rw [levels_cons, levels_nil] at he
            simp at he
            rcases he with he | he <;> subst he <;> omega
        · intro b' hb'
          rw [List.mem_append] at hb'
          rcases hb' with hb' | hb'
          · exact h.sp b' hb'
          · simp at hb'; subst hb'; exact ⟨hs, hne⟩
        · intro k hk e
          by_cases hkO : k + 1 < (D ++ [l]).length
          · have := h.df k hkO
            simp only [List.getElem_append_left (show k < (D ++ [l]).length by omega), List.getElem_append_left hkO] at e ⊢
            exact this e
          · have ek : k = D.length := by simp at hk hkO; omega
            subst ek
            have a1 : (D ++ [l] ++ [b])[D.length]'(by simp) = l := by simp
            have a2 : (D ++ [l] ++ [b])[D.length + 1]'(by simp) = b := by simp
            rw [a1, a2] at e ⊢
            exact fun q => hc ⟨e, q⟩
    · rename_i hl
      have hO : O = [] := by
        cases O with
        | nil => rfl
        | cons a O => rw [List.getLast?_eq_some_getLast (by simp)] at hl; simp at hl
      subst hO
      refine ⟨?_, ?_, ?_, ?_, ?_⟩
      · rw [levels_cons, levels_nil]; simp; omega
      · intro b' hb'; simp at hb'; subst hb'; exact htb
      · intro e he
        rw [levels_cons, levels_nil] at he
        simp at he
        rcases he with he | he <;> subst he <;> omega
      · intro b' hb'; simp at hb'; subst hb'; exact ⟨hs, hne⟩
      · intro k hk; simp at hk

theorem memR_add (O : List (Int × Int × List (Int × Int))) (b : Int × Int × List (Int × Int)) (x y : Int) (htb : b.1 < b.2.1) (hO : ∀ b ∈ O, b.1 < b.2.1) : memR (addB O b) x y = (memR O x y || (decide (b.1 ≤ y ∧ y < b.2.1) && memS b.2.2 x)) := by
  unfold addB
  split
  · rename_i h
    rw [h]; simp [memS]
  · split
    · rename_i l hl
      have hOe := getLast_split O l hl
      generalize O.dropLast = D at hOe
      subst hOe
      have hl := hO l (by simp)
      split
      · rename_i hc
        obtain ⟨c1, c2⟩ := hc
        have : ∀ (p : Int × Int × List (Int × Int)), memR [p] x y = (decide (p.1 ≤ y ∧ y < p.2.1) && memS p.2.2 x) := fun p => by unfold memR; simp
        rw [memR_append, memR_append, this, this, ← c2, Bool.or_assoc, ← Bool.and_or_distrib_right]
        congr 2
        rw [Bool.eq_iff_iff]
        simp
        omega
      · have : ∀ (p : Int × Int × List (Int × Int)), memR [p] x y = (decide (p.1 ≤ y ∧ y < p.2.1) && memS p.2.2 x) := fun p => by unfold memR; simp
        rw [memR_append, this]
    · rename_i hl
      have hO : O = [] := by
        cases O with
        | nil => rfl
        | cons a O => rw [List.getLast?_eq_some_getLast (by simp)] at hl; simp at hl
      subst hO
      unfold memR; simp

theorem levels_add (O : List (Int × Int × List (Int × Int))) (b : Int × Int × List (Int × Int)) (M : Int) (h : ∀ e ∈ levels O, e ≤ M) (h1 : b.1 ≤ M) (h2 : b.2.1 ≤ M) : ∀ e ∈ levels (addB O b), e ≤ M := by
  unfold addB
  split
  · exact h
  · split
    · rename_i l hl
      have hOe := getLast_split O l hl
      generalize O.dropLast = D at hOe
      subst hOe
      split
      · intro e he
        rw [levels_append, levels_cons, levels_nil] at he
        simp at he
        rcases he with he | he | he
        · exact h e (by rw [levels_append]; simp [he])
        · subst he; exact h _ (top_mem (by simp))
        · subst he; exact h2
      · intro e he
        rw [levels_append, List.mem_append] at he
        rcases he with he | he
        · exact h e he
        · rw [levels_cons, levels_nil] at he
          simp at he
          rcases he with he | he <;> subst he <;> assumption
    · intro e he
      rw [levels_cons, levels_nil] at he
      simp at he
      rcases he with he | he <;> subst he <;> assumption

theorem nextE_gt {A B : List (Int × Int × List (Int × Int))} (hA : Good A) (hB : Good B) (c : Int) (hc : c < big) : c < nextE (levels A) (levels B) (cnt (levels A) c) (cnt (levels B) c) := by
  have a := nth_gt (levels A) hA.lv c hc
  have b := nth_gt (levels B) hB.lv c hc
  unfold nextE; omega

/-- The levels at 'top' are passed, both times. -/
theorem walk_pass {kind : Int} {A B O : List (Int × Int × List (Int × Int))} {c : Int} {i j : Nat} (hA : Good A) (hB : Good B) (h : Walk kind A B c i j O) (hcb : c < big)
    (top : Int) (ht : top = nextE (levels A) (levels B) i j) (hb : top ≠ big) : c < top ∧ (-2000 ≤ top ∧ top ≤ 2000) := by
  have hc := nextE_gt hA hB c hcb
  rw [← h.hi, ← h.hj, ← ht] at hc
  refine ⟨hc, ?_⟩
  unfold nextE at ht
  by_cases e : top = nth (levels A) i
  · rw [e] at hb ⊢; exact hA.bd _ (nth_mem _ _ hb)
  · have e' : top = nth (levels B) j := by omega
    rw [e'] at hb ⊢; exact hB.bd _ (nth_mem _ _ hb)

theorem odd_nth {A : List (Int × Int × List (Int × Int))} (hA : Good A) (k : Nat) (hk : k ≤ (levels A).length) (ho : k % 2 = 1) : nth (levels A) k ≤ 2000 := by
  have hl : k < (levels A).length := by rw [levels_len] at hk ⊢; omega
  rw [nth_lt _ _ hl]
  exact (hA.bd _ (List.getElem_mem hl)).2

/-- A strip is done. -/
theorem walk_step {kind : Int} {A B O : List (Int × Int × List (Int × Int))} {c : Int} {i j : Nat} (hA : Good A) (hB : Good B) (h : Walk kind A B c i j O) (hcb : c < big)
    (top : Int) (ht : top = nextE (levels A) (levels B) i j) (hb : top ≠ big) (i' j' : Nat) (hi' : i' = cnt (levels A) top) (hj' : j' = cnt (levels B) top)
    (bottom : Int) (hbot : bottom = nextE (levels A) (levels B) i' j') (L : List (Int × Int)) (hL : Spans L)
    (hmem : ∀ x, memS L x = keepB kind (memS (rowAt A i') x) (memS (rowAt B j') x)) : Walk kind A B top i' j' (addB O (top, bottom, L)) := by
  obtain ⟨hct, ht1⟩ := walk_pass hA hB h hcb top ht hb
  have htb : top < big := by unfold big; omega
  have hgt := nextE_gt hA hB top htb
  rw [← hi', ← hj', ← hbot] at hgt
  have hfin : L ≠ [] → bottom ≤ 2000 := by
    intro hne
    by_cases ho : i' % 2 = 1
    · have := odd_nth hA i' (by rw [hi']; exact cnt_le _ _) ho
      rw [hbot]; unfold nextE; omega
    · by_cases ho' : j' % 2 = 1
      · have := odd_nth hB j' (by rw [hj']; exact cnt_le _ _) ho'
        rw [hbot]; unfold nextE; omega
      · cases L with
        | nil => exact absurd rfl hne
        | cons s L =>
          have hr := hL.rising
          rw [edges_cons] at hr
          have hlt : s.1 < s.2 := (List.pairwise_cons.1 hr).1 s.2 (by simp)
          have hm := hmem s.1
          have e1 : rowAt A i' = [] := by unfold rowAt; rw [if_pos (by omega)]
          have e2 : rowAt B j' = [] := by unfold rowAt; rw [if_pos (by omega)]
          rw [e1, e2] at hm
          have : memS (s :: L) s.1 = true := by unfold memS; simp; left; exact hlt
          rw [this] at hm
          have : memS [] s.1 = false := rfl
          rw [this, keepB_none] at hm
          simp at hm
  have hup : ∀ e ∈ levels O, e ≤ top := by rw [ht]; exact h.upto
  refine ⟨hi', hj', good_add h.good hup hgt ht1.1 hfin hL, ?_, fun x y hy => ?_⟩
  · rw [← hbot]
    exact levels_add O _ bottom (fun e he => by have := hup e he; omega) (by show top ≤ bottom; omega) (Int.le_refl _)
  · rw [← hbot] at hy
    rw [memR_add O _ x y hgt h.good.tb]
    show (memR O x y || (decide (top ≤ y ∧ y < bottom) && memS L x)) = _
    by_cases hyt : y < top
    · have : ¬ (top ≤ y ∧ y < bottom) := by omega
      simp only [this, decide_false, Bool.false_and, Bool.or_false]
      exact h.is x y (by rw [← ht]; exact hyt)
    · rw [memR_past O x y fun e he => by have := hup e he; omega]
      have e1 : memR A x y = memS (rowAt A i') x := by
        rw [memR_cnt A hA.lv hA.tb, cnt_const _ hA.lv top y (by omega) (by rw [← hi']; unfold nextE at hbot; omega), ← hi']
      have e2 : memR B x y = memS (rowAt B j') x := by
        rw [memR_cnt B hB.lv hB.tb, cnt_const _ hB.lv top y (by omega) (by rw [← hj']; unfold nextE at hbot; omega), ← hj']
      rw [e1, e2, ← hmem x]
      have : top ≤ y ∧ y < bottom := by omega
      simp [this]

theorem walk_done {kind : Int} {A B O : List (Int × Int × List (Int × Int))} {c : Int} {i j : Nat} (hA : Good A) (hB : Good B) (h : Walk kind A B c i j O)
    (hx : nextE (levels A) (levels B) i j = big) : ∀ x y, memR O x y = keepB kind (memR A x y) (memR B x y) := by
  intro x y
  by_cases hy : y < big
  · exact h.is x y (by rw [hx]; exact hy)
  · rw [memR_past A x y fun e he => by have := hA.far e he; omega, memR_past B x y fun e he => by have := hB.far e he; omega, memR_past O x y fun e he => by have := h.good.far e he; omega, keepB_none]

/-- Levels rise, and no more than so many bands are there. -/
theorem Good.len {A : List (Int × Int × List (Int × Int))} (h : Good A) : A.length ≤ 4001 := by
  have key : ∀ (A : List (Int × Int × List (Int × Int))) (lo : Int), (levels A).Pairwise (· ≤ ·) → (∀ b ∈ A, b.1 < b.2.1) → (∀ e ∈ levels A, lo ≤ e ∧ e ≤ 2000) → (A.length : Int) ≤ max 0 (2000 - lo + 1) := by
    intro A
    induction A with
    | nil => intro lo _ _ _; simp; omega
    | cons b A ih =>
      intro lo h1 h2 h3
      rw [levels_cons] at h1 h3
      obtain ⟨a1, a2⟩ := List.pairwise_cons.1 h1
      obtain ⟨a3, a4⟩ := List.pairwise_cons.1 a2
      have hb := h2 b (by simp)
      have g1 := h3 b.1 (by simp)
      have g2 := h3 b.2.1 (by simp)
      have := ih b.2.1 a4 (fun b hb => h2 b (by simp [hb])) fun e he => ⟨a3 e he, (h3 e (by simp [he])).2⟩
      simp
      omega
  have := key A (-2000) h.lv h.tb h.bd
  omega

theorem cnt_run (E : List Int) (hs : E.Pairwise (· ≤ ·)) (c x : Int) (hc : c < x) (k : Nat) (hk : cnt E c ≤ k) (hkl : k ≤ E.length) (hrun : ∀ j, cnt E c ≤ j → j < k → nth E j = x) (hx : k < E.length → x < nth E k) : cnt E x = k := by
  obtain ⟨a, b⟩ := cnt_spec E hs c
  refine cnt_eq E hs x k hkl (fun j hj h => ?_) (fun j hj h => ?_)
  · by_cases e : j < cnt E c
    · have := a j hj e; omega
    · have := hrun j (by omega) h
      rw [nth_lt E j hj] at this; omega
  · have h1 := hx (by omega)
    rw [nth_lt E k (by omega)] at h1
    by_cases e : j = k
    · subst e; exact h1
    · have := List.pairwise_iff_getElem.1 hs k j (by omega) hj (by omega)
      omega

end Go.Proofs.YtofinpocigbbeaaGreat
