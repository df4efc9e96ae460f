import Derived.Test.YtofinpocigbbeaaGreatKab
namespace Go.Proofs.YtofinpocigbbeaaGreat

/-! ### A region has one plain form -/

theorem edges_one (E F : List Int) (hE : E.Pairwise (· < ·)) (hF : F.Pairwise (· < ·)) (h : ∀ x, cnt E x % 2 = cnt F x % 2) : E = F := by
  induction E generalizing F with
  | nil =>
    cases F with
    | nil => rfl
    | cons f F =>
      obtain ⟨h1, _⟩ := List.pairwise_cons.1 hF
      have := h f
      rw [cnt_nil, cnt_cons, if_pos (Int.le_refl f), cnt_zero F f h1] at this
      omega
  | cons e E ih =>
    obtain ⟨h1, h2⟩ := List.pairwise_cons.1 hE
    cases F with
    | nil =>
      have := h e
      rw [cnt_nil, cnt_cons, if_pos (Int.le_refl e), cnt_zero E e h1] at this
      omega
    | cons f F =>
      obtain ⟨h3, h4⟩ := List.pairwise_cons.1 hF
      have hef : e = f := by
        by_cases a : e < f
        · have := h e
          rw [cnt_cons, cnt_cons, if_pos (Int.le_refl e), cnt_zero E e h1, if_neg (by omega), cnt_zero F e fun x hx => by have := h3 x hx; omega] at this
          omega
        · by_cases b : f < e
          · have := h f
            rw [cnt_cons, cnt_cons, if_pos (Int.le_refl f), cnt_zero F f h3, if_neg (by omega), cnt_zero E f fun x hx => by have := h1 x hx; omega] at this
            omega
          · omega
      subst hef
      congr 1
      refine ih F h2 h4 fun x => ?_
      have := h x
      rw [cnt_cons, cnt_cons] at this
      omega

theorem edges_inj (S T : List (Int × Int)) (h : edges S = edges T) : S = T := by
  induction S generalizing T with
  | nil =>
    cases T with
    | nil => rfl
    | cons t T => rw [edges_cons, edges_nil] at h; simp at h
  | cons s S ih =>
    cases T with
    | nil => rw [edges_cons, edges_nil] at h; simp at h
    | cons t T =>
      rw [edges_cons, edges_cons] at h
      simp at h
      rw [ih T h.2.2, Prod.ext h.1 h.2.1]

theorem spans_one {S T : List (Int × Int)} (hS : Spans S) (hT : Spans T) (h : ∀ x, memS S x = memS T x) : S = T := by
  refine edges_inj S T (edges_one _ _ hS.rising hT.rising fun x => ?_)
  have := h x
  rw [memS_cnt S hS.rising, memS_cnt T hT.rising, decide_eq_decide] at this
  omega

theorem good_tail {b : Int × Int × List (Int × Int)} {A : List (Int × Int × List (Int × Int))} (h : Good (b :: A)) : Good A ∧ (∀ e ∈ levels A, b.2.1 ≤ e) ∧ b.1 < b.2.1 ∧ Spans b.2.2 ∧ b.2.2 ≠ [] ∧ ∀ c A', A = c :: A' → b.2.1 = c.1 → b.2.2 ≠ c.2.2 := by
  have hl := h.lv
  rw [levels_cons] at hl
  obtain ⟨h1, h2⟩ := List.pairwise_cons.1 hl
  obtain ⟨h3, h4⟩ := List.pairwise_cons.1 h2
  have hs := h.sp b (by simp)
  refine ⟨⟨h4, fun c hc => h.tb c (by simp [hc]), fun e he => h.bd e (by rw [levels_cons]; simp [he]), fun c hc => h.sp c (by simp [hc]), fun k hk e => ?_⟩, h3, h.tb b (by simp), hs.1, hs.2, fun c A' hA e => ?_⟩
  · have := h.df (k + 1) (by simp; omega)
    simp only [List.getElem_cons_succ] at this
    exact this e
  · subst hA
    have := h.df 0 (by simp)
    simp only [List.getElem_cons_zero, List.getElem_cons_succ] at this
    exact this e

/-- A point of a span: a band's row is not empty. -/
theorem some_point {S : List (Int × Int)} (hS : Spans S) (hne : S ≠ []) : ∃ x, memS S x = true := by
  cases S with
  | nil => exact absurd rfl hne
  | cons s S =>
    have hr := hS.rising
    rw [edges_cons] at hr
    have hlt : s.1 < s.2 := (List.pairwise_cons.1 hr).1 s.2 (by simp)
    exact ⟨s.1, by unfold memS; simp; left; exact hlt⟩

theorem memR_in {b : Int × Int × List (Int × Int)} {A : List (Int × Int × List (Int × Int))} (h : Good (b :: A)) (x y : Int) (h1 : b.1 ≤ y) (h2 : y < b.2.1) : memR (b :: A) x y = memS b.2.2 x := by
  obtain ⟨_, ht, _⟩ := good_tail h
  rw [memR_cons, memR_far A x y fun e he => by have := ht e he; omega]
  have : b.1 ≤ y ∧ y < b.2.1 := ⟨h1, h2⟩
  simp [this]

/-- Just below the first band: not its row again. -/
theorem memR_below {b : Int × Int × List (Int × Int)} {A : List (Int × Int × List (Int × Int))} (h : Good (b :: A)) (hh : ∀ x, memR (b :: A) x b.2.1 = memS b.2.2 x) : False := by
  obtain ⟨hA, ht, htb, hs, hne, hdf⟩ := good_tail h
  have hz : ∀ x, memR (b :: A) x b.2.1 = memR A x b.2.1 := fun x => by
    rw [memR_cons]
    have : ¬ (b.1 ≤ b.2.1 ∧ b.2.1 < b.2.1) := by omega
    simp
  cases A with
  | nil =>
    obtain ⟨x, hx⟩ := some_point hs hne
    have := hh x
    rw [hz x, hx] at this
    simp [memR] at this
  | cons c A =>
    have hc := ht c.1 (by rw [levels_cons]; simp)
    obtain ⟨_, htc, htbc, hsc, hnec, _⟩ := good_tail hA
    by_cases e : b.2.1 = c.1
    · refine hdf c A rfl e (spans_one hs hsc fun x => ?_)
      rw [← hh x, hz x, memR_in hA x b.2.1 (by omega) (by omega)]
    · obtain ⟨x, hx⟩ := some_point hs hne
      have := hh x
      rw [hz x, hx, memR_far (c :: A) x b.2.1 fun q hq => ?_] at this
      · simp at this
      · rw [levels_cons] at hq
        simp at hq
        rcases hq with hq | hq | hq
        · omega
        · omega
        · have := htc q hq; omega

theorem plain_one {A B : List (Int × Int × List (Int × Int))} (hA : Good A) (hB : Good B) (h : ∀ x y, memR A x y = memR B x y) : A = B := by
  induction A generalizing B with
  | nil =>
    cases B with
    | nil => rfl
    | cons b B =>
      obtain ⟨_, _, htb, hs, hne, _⟩ := good_tail hB
      obtain ⟨x, hx⟩ := some_point hs hne
      have := h x b.1
      rw [memR_in hB x b.1 (Int.le_refl _) htb, hx] at this
      simp [memR] at this
  | cons a A ih =>
    obtain ⟨hA', hta, htba, hsa, hnea, _⟩ := good_tail hA
    cases B with
    | nil =>
      obtain ⟨x, hx⟩ := some_point hsa hnea
      have := h x a.1
      rw [memR_in hA x a.1 (Int.le_refl _) htba, hx] at this
      simp [memR] at this
    | cons b B =>
      obtain ⟨hB', htb, htbb, hsb, hneb, _⟩ := good_tail hB
      have hfar : ∀ {c : Int × Int × List (Int × Int)} {C : List (Int × Int × List (Int × Int))}, Good (c :: C) → ∀ x y, y < c.1 → memR (c :: C) x y = false := by
        intro c C hC x y hy
        obtain ⟨_, htc, htbc, _⟩ := good_tail hC
        refine memR_far _ x y fun q hq => ?_
        rw [levels_cons] at hq
        simp at hq
        rcases hq with hq | hq | hq
        · omega
        · omega
        · have := htc q hq; omega
      have htop : a.1 = b.1 := by
        by_cases l1 : a.1 < b.1
        · obtain ⟨x, hx⟩ := some_point hsa hnea
          have := h x a.1
          rw [memR_in hA x a.1 (Int.le_refl _) htba, hx, hfar hB x a.1 l1] at this
          simp at this
        · by_cases l2 : b.1 < a.1
          · obtain ⟨x, hx⟩ := some_point hsb hneb
            have := h x b.1
            rw [memR_in hB x b.1 (Int.le_refl _) htbb, hx, hfar hA x b.1 l2] at this
            simp at this
          · omega
      have hsp : a.2.2 = b.2.2 := by
        refine spans_one hsa hsb fun x => ?_
        rw [← memR_in hA x a.1 (Int.le_refl _) htba, h x a.1, memR_in hB x a.1 (by omega) (by omega)]
      have hbot : a.2.1 = b.2.1 := by
        by_cases l1 : a.2.1 < b.2.1
        · exact (memR_below hA fun x => by rw [h x, memR_in hB x a.2.1 (by omega) l1, hsp]).elim
        · by_cases l2 : b.2.1 < a.2.1
          · exact (memR_below hB fun x => by rw [← h x, memR_in hA x b.2.1 (by omega) l2, hsp]).elim
          · omega
      have hab : a = b := Prod.ext htop (Prod.ext hbot hsp)
      subst hab
      congr 1
      refine ih hA' hB' fun x y => ?_
      have hxy := h x y
      rw [memR_cons, memR_cons] at hxy
      by_cases hy : y < a.2.1
      · rw [memR_far A x y fun e he => by have := hta e he; omega, memR_far B x y fun e he => by have := htb e he; omega]
      · have : ¬ (a.1 ≤ y ∧ y < a.2.1) := by omega
        simpa [this] using hxy

end Go.Proofs.YtofinpocigbbeaaGreat
