import Derived.KernelRfl
namespace Go.Proofs.YtofinpocigbbeaaGreat

/-- The greatest int: 'no edge left'. -/
def big : Int := 9223372036854775807

/-- How many of some numbers are at most x. -/
def cnt (E : List Int) (x : Int) : Nat := (E.filter fun e => decide (e ≤ x)).length

theorem cnt_nil (x : Int) : cnt [] x = 0 := rfl

theorem cnt_cons (e : Int) (E : List Int) (x : Int) : cnt (e :: E) x = (if e ≤ x then 1 else 0) + cnt E x := by
  unfold cnt
  by_cases h : e ≤ x <;> simp [h] <;> omega

theorem cnt_le (E : List Int) (x : Int) : cnt E x ≤ E.length := List.length_filter_le _ _

theorem cnt_zero (E : List Int) (x : Int) (h : ∀ e ∈ E, x < e) : cnt E x = 0 := by
  unfold cnt
  rw [List.length_eq_zero_iff, List.filter_eq_nil_iff]
  intro e he
  have := h e he
  simp; omega

theorem cnt_all (E : List Int) (x : Int) (h : ∀ e ∈ E, e ≤ x) : cnt E x = E.length := by
  unfold cnt
  rw [List.filter_eq_self.2]
  intro e he
  simpa using h e he

theorem weakly {E : List Int} (hs : E.Pairwise (· < ·)) : E.Pairwise (· ≤ ·) :=
  List.pairwise_iff_getElem.2 fun i j hi hj h => Int.le_of_lt (List.pairwise_iff_getElem.1 hs i j hi hj h)

/-- What a sorted list's count says of its places. -/
theorem cnt_spec (E : List Int) (hs : E.Pairwise (· ≤ ·)) (x : Int) : (∀ k (h : k < E.length), k < cnt E x → E[k] ≤ x) ∧ (∀ k (h : k < E.length), cnt E x ≤ k → x < E[k]) := by
  induction E with
  | nil => exact ⟨fun k h => by simp at h, fun k h => by simp at h⟩
  | cons e E ih =>
    obtain ⟨h1, h2⟩ := List.pairwise_cons.1 hs
    obtain ⟨i1, i2⟩ := ih h2
    rw [cnt_cons]
    by_cases he : e ≤ x
    · rw [if_pos he]
      refine ⟨fun k h hk => ?_, fun k h hk => ?_⟩
      · cases k with
        | zero => simpa using he
        | succ k => simp at h ⊢; exact i1 k h (by omega)
      · cases k with
        | zero => omega
        | succ k => simp at h ⊢; exact i2 k h (by omega)
    · rw [if_neg he]
      have hz : cnt E x = 0 := cnt_zero E x fun e' he' => by have := h1 e' he'; omega
      refine ⟨fun k h hk => by omega, fun k h hk => ?_⟩
      cases k with
      | zero => simp; omega
      | succ k => simp at h ⊢; exact i2 k h (by omega)

/-- A count is known by its places. -/
theorem cnt_eq (E : List Int) (hs : E.Pairwise (· ≤ ·)) (x : Int) (m : Nat) (hm : m ≤ E.length) (h1 : ∀ k (h : k < E.length), k < m → E[k] ≤ x) (h2 : ∀ k (h : k < E.length), m ≤ k → x < E[k]) : cnt E x = m := by
  obtain ⟨a, b⟩ := cnt_spec E hs x
  have hc := cnt_le E x
  by_cases h : cnt E x < m
  · have p := b (cnt E x) (by omega) (Nat.le_refl _)
    have q := h1 (cnt E x) (by omega) h
    omega
  · by_cases h' : m < cnt E x
    · have p := a m (by omega) h'
      have q := h2 m (by omega) (Nat.le_refl _)
      omega
    · omega

/-- The k-th edge; past the last: big. -/
def nth (E : List Int) (k : Nat) : Int := E.getD k big

theorem nth_lt (E : List Int) (k : Nat) (h : k < E.length) : nth E k = E[k] := by
  unfold nth; rw [List.getD_eq_getElem?_getD, List.getElem?_eq_getElem h]; rfl

theorem nth_ge (E : List Int) (k : Nat) (h : E.length ≤ k) : nth E k = big := by
  unfold nth; rw [List.getD_eq_getElem?_getD, List.getElem?_eq_none h]; rfl

/-- Between two edges nothing changes. -/
theorem cnt_const (E : List Int) (hs : E.Pairwise (· ≤ ·)) (c x : Int) (hc : c ≤ x) (hx : x < nth E (cnt E c)) : cnt E x = cnt E c := by
  obtain ⟨a, b⟩ := cnt_spec E hs c
  refine cnt_eq E hs x _ (cnt_le E c) (fun k h hk => by have := a k h hk; omega) (fun k h hk => ?_)
  have hl : cnt E c < E.length := by omega
  rw [nth_lt E _ hl] at hx
  have : E[cnt E c] ≤ E[k] := by
    by_cases e : cnt E c = k
    · subst e; exact Int.le_refl _
    · exact List.pairwise_iff_getElem.1 hs _ _ hl h (by omega)
  omega

theorem cnt_const_end (E : List Int) (hs : E.Pairwise (· ≤ ·)) (c x : Int) (hc : c ≤ x) (hx : E.length ≤ cnt E c) : cnt E x = cnt E c := by
  obtain ⟨a, b⟩ := cnt_spec E hs c
  exact cnt_eq E hs x _ (cnt_le E c) (fun k h hk => by have := a k h hk; omega) (fun k h hk => by omega)

/-- The next edge is passed. -/
theorem cnt_next (E : List Int) (hs : E.Pairwise (· < ·)) (c x : Int) (hc : c < x) (hx : x ≤ nth E (cnt E c)) (hxb : x < big) :
    cnt E x = if nth E (cnt E c) = x then cnt E c + 1 else cnt E c := by
  have hs' : E.Pairwise (· ≤ ·) := weakly hs
  obtain ⟨a, b⟩ := cnt_spec E hs' c
  by_cases he : nth E (cnt E c) = x
  · rw [if_pos he]
    have hl : cnt E c < E.length := by
      by_cases h : cnt E c < E.length
      · exact h
      · rw [nth_ge E _ (by omega)] at he; omega
    rw [nth_lt E _ hl] at he
    refine cnt_eq E hs' x _ hl (fun k h hk => ?_) (fun k h hk => ?_)
    · by_cases e : k = cnt E c
      · subst e; omega
      · have := a k h (by omega); omega
    · have : E[cnt E c] < E[k] := List.pairwise_iff_getElem.1 hs _ _ hl h (by omega)
      omega
  · rw [if_neg he]
    by_cases hl : cnt E c < E.length
    · exact cnt_const E hs' c x (by omega) (by omega)
    · exact cnt_const_end E hs' c x (by omega) (by omega)

/-- A rising list of ints between two numbers is no longer than what lies between. -/
theorem rising_len (E : List Int) (lo hi : Int) (hs : E.Pairwise (· < ·)) (hb : ∀ e ∈ E, lo ≤ e ∧ e ≤ hi) : (E.length : Int) ≤ max 0 (hi - lo + 1) := by
  induction E generalizing lo with
  | nil => simp; omega
  | cons e E ih =>
    obtain ⟨h1, h2⟩ := List.pairwise_cons.1 hs
    have he := hb e (by simp)
    have := ih (e + 1) h2 fun x hx => ⟨by have := h1 x hx; omega, (hb x (by simp [hx])).2⟩
    simp
    omega

/-! ### Spans -/

def edges (L : List (Int × Int)) : List Int := L.flatMap fun s => [s.1, s.2]

theorem edges_nil : edges [] = [] := rfl
theorem edges_cons (s : Int × Int) (L : List (Int × Int)) : edges (s :: L) = s.1 :: s.2 :: edges L := rfl
theorem edges_append (L M : List (Int × Int)) : edges (L ++ M) = edges L ++ edges M := by simp [edges]
theorem edges_len (L : List (Int × Int)) : (edges L).length = 2 * L.length := by
  induction L with
  | nil => rfl
  | cons s L ih => rw [edges_cons]; simp [ih]; omega

theorem edges_even (L : List (Int × Int)) (k : Nat) (h : k < L.length) : nth (edges L) (2 * k) = L[k].1 := by
  induction L generalizing k with
  | nil => simp at h
  | cons s L ih =>
    cases k with
    | zero => rfl
    | succ k => simp at h ⊢; rw [← ih k h]; rfl

theorem edges_odd (L : List (Int × Int)) (k : Nat) (h : k < L.length) : nth (edges L) (2 * k + 1) = L[k].2 := by
  induction L generalizing k with
  | nil => simp at h
  | cons s L ih =>
    cases k with
    | zero => rfl
    | succ k => simp at h ⊢; rw [← ih k h]; rfl

def memS (L : List (Int × Int)) (x : Int) : Bool := L.any fun s => decide (s.1 ≤ x ∧ x < s.2)

theorem memS_far (L : List (Int × Int)) (x : Int) (h : ∀ e ∈ edges L, x < e) : memS L x = false := by
  unfold memS
  rw [List.any_eq_false]
  intro s hs
  have := h s.1 (by unfold edges; simp; exact ⟨s.1, s.2, hs, Or.inl rfl⟩)
  simp; omega

theorem memS_cnt (L : List (Int × Int)) (hs : (edges L).Pairwise (· < ·)) (x : Int) : memS L x = decide (cnt (edges L) x % 2 = 1) := by
  induction L with
  | nil => rfl
  | cons s L ih =>
    rw [edges_cons] at hs
    obtain ⟨h1, h2⟩ := List.pairwise_cons.1 hs
    obtain ⟨h3, h4⟩ := List.pairwise_cons.1 h2
    rw [edges_cons, cnt_cons, cnt_cons]
    have ih := ih h4
    have hss : s.1 < s.2 := h1 s.2 (by simp)
    have hm : memS (s :: L) x = (decide (s.1 ≤ x ∧ x < s.2) || memS L x) := rfl
    rw [hm]
    by_cases a : s.1 ≤ x
    · by_cases b : s.2 ≤ x
      · rw [if_pos a, if_pos b, ih]
        have : ¬ x < s.2 := by omega
        simp [this]; omega
      · rw [if_pos a, if_neg b, memS_far L x fun e he => by have := h3 e he; omega]
        have hz : cnt (edges L) x = 0 := cnt_zero _ _ fun e he => by have := h3 e he; omega
        rw [hz]; simp; omega
    · rw [if_neg a, if_neg (by omega), memS_far L x fun e he => by have := h3 e he; omega]
      have hz : cnt (edges L) x = 0 := cnt_zero _ _ fun e he => by have := h3 e he; omega
      rw [hz]; simp; omega

/-! ### The kinds -/

def keepB (kind : Int) (p q : Bool) : Bool := if kind = 0 then p || q else if kind = 1 then p && q else if kind = 2 then p && !q else p != q

theorem keepB_none (kind : Int) : keepB kind false false = false := by
  unfold keepB
  by_cases h0 : kind = 0 <;> by_cases h1 : kind = 1 <;> by_cases h2 : kind = 2 <;> simp [h0, h1, h2]

def oddB (m : Nat) : Bool := decide (m % 2 = 1)

/-! ### The walk along a row -/

/-- The row so far: S, T the spans of the two, c the last edge passed, m and n how many of theirs, 'from', 'inside' and L what is at hand. -/
structure Row (kind : Int) (S T : List (Int × Int)) (c : Int) (m n : Nat) (frm : Int) (inside : Bool) (L : List (Int × Int)) : Prop where
  hm : m = cnt (edges S) c
  hn : n = cnt (edges T) c
  hin : inside = keepB kind (oddB m) (oddB n)
  rising : (edges L).Pairwise (· < ·)
  upto : ∀ e ∈ edges L, e ≤ c
  fresh : inside = true → (∀ e ∈ edges L, e < frm) ∧ frm ≤ c ∧ -2000 ≤ frm ∧ frm ≤ 2000
  bd : ∀ e ∈ edges L, -2000 ≤ e ∧ e ≤ 2000
  is : ∀ x, x ≤ c → keepB kind (memS S x) (memS T x) = (memS L x || (inside && decide (frm ≤ x)))

/-- Spans as a band has them. -/
structure Spans (S : List (Int × Int)) : Prop where
  rising : (edges S).Pairwise (· < ·)
  bd : ∀ e ∈ edges S, -2000 ≤ e ∧ e ≤ 2000

theorem Spans.weak {S : List (Int × Int)} (h : Spans S) : (edges S).Pairwise (· ≤ ·) := weakly h.rising
theorem Spans.far {S : List (Int × Int)} (h : Spans S) : ∀ e ∈ edges S, e < big := fun e he => by have := h.bd e he; unfold big; omega
theorem Spans.len {S : List (Int × Int)} (h : Spans S) : S.length ≤ 2001 := by
  have := rising_len (edges S) (-2000) 2000 h.rising h.bd
  rw [edges_len] at this
  omega
theorem spans_nil : Spans [] := ⟨List.Pairwise.nil, fun e he => by simp [edges] at he⟩

/-- The next edge of the two. -/
def nextE (E F : List Int) (m n : Nat) : Int := min (nth E m) (nth F n)

theorem nth_mem (E : List Int) (k : Nat) (h : nth E k ≠ big) : nth E k ∈ E := by
  by_cases hk : k < E.length
  · rw [nth_lt E k hk]; exact List.getElem_mem hk
  · exact absurd (nth_ge E k (by omega)) h

theorem nth_gt (E : List Int) (hs : E.Pairwise (· ≤ ·)) (c : Int) (hc : c < big) : c < nth E (cnt E c) := by
  by_cases hk : cnt E c < E.length
  · rw [nth_lt E _ hk]; exact (cnt_spec E hs c).2 _ hk (Nat.le_refl _)
  · rw [nth_ge E _ (by omega)]; exact hc

theorem row_start {kind : Int} {S T : List (Int × Int)} (hS : Spans S) (hT : Spans T) : Row kind S T (-3000) 0 0 0 false [] := by
  have zS : cnt (edges S) (-3000) = 0 := cnt_zero _ _ fun e he => by have := hS.bd e he; omega
  have zT : cnt (edges T) (-3000) = 0 := cnt_zero _ _ fun e he => by have := hT.bd e he; omega
  refine ⟨zS.symm, zT.symm, ?_, List.Pairwise.nil, fun e he => by simp [edges] at he, fun h => by simp at h, fun e he => by simp [edges] at he, fun x hx => ?_⟩
  · rw [show oddB 0 = false from rfl, keepB_none]
  · rw [memS_far S x fun e he => by have := hS.bd e he; omega, memS_far T x fun e he => by have := hT.bd e he; omega, keepB_none]
    rfl

/-- How many edges are passed at x. -/
def passed (E : List Int) (m : Nat) (x : Int) : Nat := if nth E m = x then m + 1 else m

theorem memS_past (L : List (Int × Int)) (hs : (edges L).Pairwise (· < ·)) (x : Int) (h : ∀ e ∈ edges L, e ≤ x) : memS L x = false := by
  rw [memS_cnt L hs, cnt_all _ _ h, edges_len]
  simp

/-- One edge further: what holds of all points up to it, before 'from', 'inside' and L are brought up to date. -/
theorem row_next {kind : Int} {S T L : List (Int × Int)} {c frm : Int} {m n : Nat} {inside : Bool} (hS : Spans S) (hT : Spans T) (h : Row kind S T c m n frm inside L)
    (x : Int) (hx : x = nextE (edges S) (edges T) m n) (hb : x ≠ big) (hcb : c < big) :
    c < x ∧ (-2000 ≤ x ∧ x ≤ 2000) ∧ passed (edges S) m x = cnt (edges S) x ∧ passed (edges T) n x = cnt (edges T) x ∧
    (∀ y, y < x → keepB kind (memS S y) (memS T y) = (memS L y || (inside && decide (frm ≤ y)))) ∧
    keepB kind (memS S x) (memS T x) = keepB kind (oddB (passed (edges S) m x)) (oddB (passed (edges T) n x)) := by
  have gS := nth_gt (edges S) hS.weak c hcb
  have gT := nth_gt (edges T) hT.weak c hcb
  rw [← h.hm] at gS
  rw [← h.hn] at gT
  unfold nextE at hx
  have hcx : c < x := by omega
  have hxS : x ≤ nth (edges S) m := by omega
  have hxT : x ≤ nth (edges T) n := by omega
  have hxb : -2000 ≤ x ∧ x ≤ 2000 := by
    by_cases e : x = nth (edges S) m
    · rw [e] at hb ⊢; exact hS.bd _ (nth_mem _ _ hb)
    · have e' : x = nth (edges T) n := by omega
      rw [e'] at hb ⊢; exact hT.bd _ (nth_mem _ _ hb)
  have hbig : x < big := by unfold big; omega
  have p1 : passed (edges S) m x = cnt (edges S) x := by
    rw [cnt_next (edges S) hS.rising c x hcx (by rw [← h.hm]; exact hxS) hbig, ← h.hm]; rfl
  have p2 : passed (edges T) n x = cnt (edges T) x := by
    rw [cnt_next (edges T) hT.rising c x hcx (by rw [← h.hn]; exact hxT) hbig, ← h.hn]; rfl
  refine ⟨hcx, hxb, p1, p2, fun y hy => ?_, ?_⟩
  · by_cases hyc : y ≤ c
    · exact h.is y hyc
    · rw [memS_cnt S hS.rising, memS_cnt T hT.rising, cnt_const _ hS.weak c y (by omega) (by rw [← h.hm]; omega), cnt_const _ hT.weak c y (by omega) (by rw [← h.hn]; omega), ← h.hm, ← h.hn]
      rw [memS_past L h.rising y fun e he => by have := h.upto e he; omega]
      have hin := h.hin
      unfold oddB at hin
      rw [← hin]
      cases inside with
      | false => rfl
      | true =>
        have := (h.fresh rfl).2.1
        simp; omega
  · rw [memS_cnt S hS.rising, memS_cnt T hT.rising, p1, p2]; rfl

/-- The row goes on as it was. -/
theorem row_same {kind : Int} {S T L : List (Int × Int)} {c frm : Int} {m n : Nat} {inside : Bool} (hS : Spans S) (hT : Spans T) (h : Row kind S T c m n frm inside L)
    (x : Int) (hx : x = nextE (edges S) (edges T) m n) (hb : x ≠ big) (hcb : c < big)
    (hnow : keepB kind (oddB (passed (edges S) m x)) (oddB (passed (edges T) n x)) = inside) : Row kind S T x (passed (edges S) m x) (passed (edges T) n x) frm inside L := by
  obtain ⟨hcx, hxb, p1, p2, hlt, hat⟩ := row_next hS hT h x hx hb hcb
  refine ⟨p1, p2, hnow.symm, h.rising, fun e he => by have := h.upto e he; omega, fun hi => ?_, h.bd, fun y hy => ?_⟩
  · obtain ⟨a, b, d⟩ := h.fresh hi
    exact ⟨a, by omega, d⟩
  · by_cases e : y = x
    · subst e
      rw [hat, hnow, memS_past L h.rising y fun e he => by have := h.upto e he; omega]
      cases inside with
      | false => rfl
      | true => have := (h.fresh rfl).2.1; simp; omega
    · exact hlt y (by omega)

/-- A span begins. -/
theorem row_begins {kind : Int} {S T L : List (Int × Int)} {c frm : Int} {m n : Nat} (hS : Spans S) (hT : Spans T) (h : Row kind S T c m n frm false L)
    (x : Int) (hx : x = nextE (edges S) (edges T) m n) (hb : x ≠ big) (hcb : c < big)
    (hnow : keepB kind (oddB (passed (edges S) m x)) (oddB (passed (edges T) n x)) = true) : Row kind S T x (passed (edges S) m x) (passed (edges T) n x) x true L := by
  obtain ⟨hcx, hxb, p1, p2, hlt, hat⟩ := row_next hS hT h x hx hb hcb
  refine ⟨p1, p2, hnow.symm, h.rising, fun e he => by have := h.upto e he; omega, fun _ => ⟨fun e he => by have := h.upto e he; omega, Int.le_refl _, hxb⟩, h.bd, fun y hy => ?_⟩
  by_cases e : y = x
  · subst e
    rw [hat, hnow]; simp
  · rw [hlt y (by omega)]
    have : ¬ x ≤ y := by omega
    simp [this]

/-- A span ends. -/
theorem row_ends {kind : Int} {S T L : List (Int × Int)} {c frm : Int} {m n : Nat} (hS : Spans S) (hT : Spans T) (h : Row kind S T c m n frm true L)
    (x : Int) (hx : x = nextE (edges S) (edges T) m n) (hb : x ≠ big) (hcb : c < big)
    (hnow : keepB kind (oddB (passed (edges S) m x)) (oddB (passed (edges T) n x)) = false) : Row kind S T x (passed (edges S) m x) (passed (edges T) n x) x false (L ++ [(frm, x)]) := by
  obtain ⟨hcx, hxb, p1, p2, hlt, hat⟩ := row_next hS hT h x hx hb hcb
  obtain ⟨f1, f2, f3⟩ := h.fresh rfl
  have hr : (edges (L ++ [(frm, x)])).Pairwise (· < ·) := by
    rw [edges_append, List.pairwise_append]
    refine ⟨h.rising, ?_, fun a ha b hb => ?_⟩
    · rw [edges_cons, edges_nil]; simp; omega
    · have := f1 a ha
      rw [edges_cons, edges_nil] at hb
      simp at hb
      omega
  refine ⟨p1, p2, hnow.symm, hr, fun e he => ?_, fun h => by simp at h, fun e he => ?_, fun y hy => ?_⟩
  · rw [edges_append, edges_cons, edges_nil] at he
    simp at he
    rcases he with he | he | he
    · have := h.upto e he; omega
    · omega
    · omega
  · rw [edges_append, edges_cons, edges_nil] at he
    simp at he
    rcases he with he | he | he
    · exact h.bd e he
    · subst he; exact f3
    · subst he; exact hxb
  · have hm : memS (L ++ [(frm, x)]) y = (memS L y || decide (frm ≤ y ∧ y < x)) := by unfold memS; simp
    rw [hm]
    by_cases e : y = x
    · subst e
      rw [hat, hnow, memS_past L h.rising y fun e he => by have := h.upto e he; omega]
      simp
    · rw [hlt y (by omega)]
      have : y < x := by omega
      simp [this]

/-- The row's end. -/
theorem row_done {kind : Int} {S T L : List (Int × Int)} {c frm : Int} {m n : Nat} {inside : Bool} (hS : Spans S) (hT : Spans T) (h : Row kind S T c m n frm inside L)
    (hx : nextE (edges S) (edges T) m n = big) : Spans L ∧ ∀ x, memS L x = keepB kind (memS S x) (memS T x) := by
  have aS : (edges S).length ≤ m := by
    by_cases e : m < (edges S).length
    · have := hS.far _ (List.getElem_mem e)
      rw [← nth_lt _ _ e] at this
      unfold nextE at hx; omega
    · omega
  have aT : (edges T).length ≤ n := by
    by_cases e : n < (edges T).length
    · have := hT.far _ (List.getElem_mem e)
      rw [← nth_lt _ _ e] at this
      unfold nextE at hx; omega
    · omega
  have eS : m = (edges S).length := Nat.le_antisymm (h.hm ▸ cnt_le _ _) aS
  have eT : n = (edges T).length := Nat.le_antisymm (h.hn ▸ cnt_le _ _) aT
  have oS : oddB m = false := by rw [eS, edges_len]; unfold oddB; simp
  have oT : oddB n = false := by rw [eT, edges_len]; unfold oddB; simp
  have hi : inside = false := by rw [h.hin, oS, oT, keepB_none]
  subst hi
  refine ⟨⟨h.rising, h.bd⟩, fun x => ?_⟩
  by_cases hc : x ≤ c
  · rw [h.is x hc]; simp
  · rw [memS_past L h.rising x fun e he => by have := h.upto e he; omega]
    rw [memS_cnt S hS.rising, memS_cnt T hT.rising, cnt_const_end _ hS.weak c x (by omega) (by rw [← h.hm]; exact aS), cnt_const_end _ hT.weak c x (by omega) (by rw [← h.hn]; exact aT), ← h.hm, ← h.hn]
    unfold oddB at oS oT
    rw [oS, oT, keepB_none]

end Go.Proofs.YtofinpocigbbeaaGreat
