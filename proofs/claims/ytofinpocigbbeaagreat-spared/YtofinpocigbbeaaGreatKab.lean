import Derived.KernelRfl
import Derived.Test.YtofinpocigbbeaaGreatRows
import Derived.WalkKit
import Derived.WalkSpells
import Derived.WalkLawsBesides
import Derived.Deep.AppendLies
import Derived.RegionTactic
import Derived.BigRegion
import Derived.BigQuiet
import Derived.Deep.QuietTactic
import Derived.OneCell
import Derived.Deep.RegionLaw
import Derived.Deep.RegionHeld3
namespace Go.Proofs.YtofinpocigbbeaaGreat

/-- The greatest int: 'no edge left'. -/
def big : Int := 9223372036854775807

/-- How many of some numbers are at most x. -/
def cnt (E : List Int) (x : Int) : Nat := (E.filter fun e => decide (e ≤ x)).length

theorem cnt_nil (x : Int) : cnt [] x = 0 := rfl

theorem cnt_cons (e : Int) (E : List Int) (x : Int) : cnt (e :: E) x = (if e ≤ x then 1 else 0) + cnt E x := by
  unfold cnt
  by_cases h : e ≤ x <;> simp [h] <;> omega

theorem cnt_le (E : List Int) (x : Int) : cnt E x ≤ E.length := List.length_filter_le _ _

theorem cnt_zero (E : List Int) (x : Int) (h : ∀ e ∈ E, x < e) : cnt E x = 0 := by
  unfold cnt
  rw [List.length_eq_zero_iff, List.filter_eq_nil_iff]
  intro e he
  have := h e he
  simp; omega

theorem cnt_all (E : List Int) (x : Int) (h : ∀ e ∈ E, e ≤ x) : cnt E x = E.length := by
  unfold cnt
  rw [List.filter_eq_self.2]
  intro e he
  simpa using h e he

theorem weakly {E : List Int} (hs : E.Pairwise (· < ·)) : E.Pairwise (· ≤ ·) :=
  List.pairwise_iff_getElem.2 fun i j hi hj h => Int.le_of_lt (List.pairwise_iff_getElem.1 hs i j hi hj h)

/-- What a sorted list's count says of its places. -/
theorem cnt_spec (E : List Int) (hs : E.Pairwise (· ≤ ·)) (x : Int) : (∀ k (h : k < E.length), k < cnt E x → E[k] ≤ x) ∧ (∀ k (h : k < E.length), cnt E x ≤ k → x < E[k]) := by
  induction E with
  | nil => exact ⟨fun k h => by simp at h, fun k h => by simp at h⟩
  | cons e E ih =>
    obtain ⟨h1, h2⟩ := List.pairwise_cons.1 hs
    obtain ⟨i1, i2⟩ := ih h2
    rw [cnt_cons]
    by_cases he : e ≤ x
    · rw [if_pos he]
      refine ⟨fun k h hk => ?_, fun k h hk => ?_⟩
      · cases k with
        | zero => simpa using he
        | succ k => simp at h ⊢; exact i1 k h (by omega)
      · cases k with
        | zero => omega
        | succ k => simp at h ⊢; exact i2 k h (by omega)
    · rw [if_neg he]
      have hz : cnt E x = 0 := cnt_zero E x fun e' he' => by have := h1 e' he'; omega
      refine ⟨fun k h hk => by omega, fun k h hk => ?_⟩
      cases k with
      | zero => simp; omega
      | succ k => simp at h ⊢; exact i2 k h (by omega)

/-- A count is known by its places. -/
theorem cnt_eq (E : List Int) (hs : E.Pairwise (· ≤ ·)) (x : Int) (m : Nat) (hm : m ≤ E.length) (h1 : ∀ k (h : k < E.length), k < m → E[k] ≤ x) (h2 : ∀ k (h : k < E.length), m ≤ k → x < E[k]) : cnt E x = m := by
  obtain ⟨a, b⟩ := cnt_spec E hs x
  have hc := cnt_le E x
  by_cases h : cnt E x < m
  · have p := b (cnt E x) (by omega) (Nat.le_refl _)
    have q := h1 (cnt E x) (by omega) h
    omega
  · by_cases h' : m < cnt E x
    · have p := a m (by omega) h'
      have q := h2 m (by omega) (Nat.le_refl _)
      omega
    · omega

/-- The k-th edge; past the last: big. -/
def nth (E : List Int) (k : Nat) : Int := E.getD k big

theorem nth_lt (E : List Int) (k : Nat) (h : k < E.length) : nth E k = E[k] := by
  unfold nth; rw [List.getD_eq_getElem?_getD, List.getElem?_eq_getElem h]; rfl

theorem nth_ge (E : List Int) (k : Nat) (h : E.length ≤ k) : nth E k = big := by
  unfold nth; rw [List.getD_eq_getElem?_getD, List.getElem?_eq_none h]; rfl

/-- Between two edges nothing changes. -/
theorem cnt_const (E : List Int) (hs : E.Pairwise (· ≤ ·)) (c x : Int) (hc : c ≤ x) (hx : x < nth E (cnt E c)) : cnt E x = cnt E c := by
  obtain ⟨a, b⟩ := cnt_spec E hs c
  refine cnt_eq E hs x _ (cnt_le E c) (fun k h hk => by have := a k h hk; omega) (fun k h hk => ?_)
  have hl : cnt E c < E.length := by omega
  rw [nth_lt E _ hl] at hx
  have : E[cnt E c] ≤ E[k] := by
    by_cases e : cnt E c = k
    · subst e; exact Int.le_refl _
    · exact List.pairwise_iff_getElem.1 hs _ _ hl h (by omega)
  omega

theorem cnt_const_end (E : List Int) (hs : E.Pairwise (· ≤ ·)) (c x : Int) (hc : c ≤ x) (hx : E.length ≤ cnt E c) : cnt E x = cnt E c := by
  obtain ⟨a, b⟩ := cnt_spec E hs c
  exact cnt_eq E hs x _ (cnt_le E c) (fun k h hk => by have := a k h hk; omega) (fun k h hk => by omega)

/-- The next edge is passed. -/
theorem cnt_next (E : List Int) (hs : E.Pairwise (· < ·)) (c x : Int) (hc : c < x) (hx : x ≤ nth E (cnt E c)) (hxb : x < big) :
    cnt E x = if nth E (cnt E c) = x then cnt E c + 1 else cnt E c := by
  have hs' : E.Pairwise (· ≤ ·) := weakly hs
  obtain ⟨a, b⟩ := cnt_spec E hs' c
  by_cases he : nth E (cnt E c) = x
  · rw [if_pos he]
    have hl : cnt E c < E.length := by
      by_cases h : cnt E c < E.length
      · exact h
      · rw [nth_ge E _ (by omega)] at he; omega
    rw [nth_lt E _ hl] at he
    refine cnt_eq E hs' x _ hl (fun k h hk => ?_) (fun k h hk => ?_)
    · by_cases e : k = cnt E c
      · subst e; omega
      · have := a k h (by omega); omega
    · have : E[cnt E c] < E[k] := List.pairwise_iff_getElem.1 hs _ _ hl h (by omega)
      omega
  · rw [if_neg he]
    by_cases hl : cnt E c < E.length
    · exact cnt_const E hs' c x (by omega) (by omega)
    · exact cnt_const_end E hs' c x (by omega) (by omega)

/-- A rising list of ints between two numbers is no longer than what lies between. -/
theorem rising_len (E : List Int) (lo hi : Int) (hs : E.Pairwise (· < ·)) (hb : ∀ e ∈ E, lo ≤ e ∧ e ≤ hi) : (E.length : Int) ≤ max 0 (hi - lo + 1) := by
  induction E generalizing lo with
  | nil => simp; omega
  | cons e E ih =>
    obtain ⟨h1, h2⟩ := List.pairwise_cons.1 hs
    have he := hb e (by simp)
    have := ih (e + 1) h2 fun x hx => ⟨by have := h1 x hx; omega, (hb x (by simp [hx])).2⟩
    simp
    omega

/-! ### Spans -/

def edges (L : List (Int × Int)) : List Int := L.flatMap fun s => [s.1, s.2]

theorem edges_nil : edges [] = [] := rfl
theorem edges_cons (s : Int × Int) (L : List (Int × Int)) : edges (s :: L) = s.1 :: s.2 :: edges L := rfl
theorem edges_append (L M : List (Int × Int)) : edges (L ++ M) = edges L ++ edges M := by simp [edges]
theorem edges_len (L : List (Int × Int)) : (edges L).length = 2 * L.length := by
  induction L with
  | nil => rfl
  | cons s L ih => rw [edges_cons]; simp [ih]; omega

theorem edges_even (L : List (Int × Int)) (k : Nat) (h : k < L.length) : nth (edges L) (2 * k) = L[k].1 := by
  induction L generalizing k with
  | nil => simp at h
  | cons s L ih =>
    cases k with
    | zero => rfl
    | succ k => simp at h ⊢; rw [← ih k h]; rfl

theorem edges_odd (L : List (Int × Int)) (k : Nat) (h : k < L.length) : nth (edges L) (2 * k + 1) = L[k].2 := by
  induction L generalizing k with
  | nil => simp at h
  | cons s L ih =>
    cases k with
    | zero => rfl
    | succ k => simp at h ⊢; rw [← ih k h]; rfl

def memS (L : List (Int × Int)) (x : Int) : Bool := L.any fun s => decide (s.1 ≤ x ∧ x < s.2)

theorem memS_far (L : List (Int × Int)) (x : Int) (h : ∀ e ∈ edges L, x < e) : memS L x = false := by
  unfold memS
  rw [List.any_eq_false]
  intro s hs
  have := h s.1 (by unfold edges; simp; exact ⟨s.1, s.2, hs, Or.inl rfl⟩)
  simp; omega

theorem memS_cnt (L : List (Int × Int)) (hs : (edges L).Pairwise (· < ·)) (x : Int) : memS L x = decide (cnt (edges L) x % 2 = 1) := by
  induction L with
  | nil => rfl
  | cons s L ih =>
    rw [edges_cons] at hs
    obtain ⟨h1, h2⟩ := List.pairwise_cons.1 hs
    obtain ⟨h3, h4⟩ := List.pairwise_cons.1 h2
    rw [edges_cons, cnt_cons, cnt_cons]
    have ih := ih h4
    have hss : s.1 < s.2 := h1 s.2 (by simp)
    have hm : memS (s :: L) x = (decide (s.1 ≤ x ∧ x < s.2) || memS L x) := rfl
    rw [hm]
    by_cases a : s.1 ≤ x
    · by_cases b : s.2 ≤ x
      · rw [if_pos a, if_pos b, ih]
        have : ¬ x < s.2 := by omega
        simp [this]; omega
      · rw [if_pos a, if_neg b, memS_far L x fun e he => by have := h3 e he; omega]
        have hz : cnt (edges L) x = 0 := cnt_zero _ _ fun e he => by have := h3 e he; omega
        rw [hz]; simp; omega
    · rw [if_neg a, if_neg (by omega), memS_far L x fun e he => by have := h3 e he; omega]
      have hz : cnt (edges L) x = 0 := cnt_zero _ _ fun e he => by have := h3 e he; omega
      rw [hz]; simp; omega

/-! ### The kinds -/

def keepB (kind : Int) (p q : Bool) : Bool := if kind = 0 then p || q else if kind = 1 then p && q else if kind = 2 then p && !q else p != q

theorem keepB_none (kind : Int) : keepB kind false false = false := by
  unfold keepB
  by_cases h0 : kind = 0 <;> by_cases h1 : kind = 1 <;> by_cases h2 : kind = 2 <;> simp [h0, h1, h2]

def oddB (m : Nat) : Bool := decide (m % 2 = 1)

/-! ### The walk along a row -/

/-- The row so far: S, T the spans of the two, c the last edge passed, m and n how many of theirs, 'from', 'inside' and L what is at hand. -/
structure Row (kind : Int) (S T : List (Int × Int)) (c : Int) (m n : Nat) (frm : Int) (inside : Bool) (L : List (Int × Int)) : Prop where
  hm : m = cnt (edges S) c
  hn : n = cnt (edges T) c
  hin : inside = keepB kind (oddB m) (oddB n)
  rising : (edges L).Pairwise (· < ·)
  upto : ∀ e ∈ edges L, e ≤ c
  fresh : inside = true → (∀ e ∈ edges L, e < frm) ∧ frm ≤ c ∧ -2000 ≤ frm ∧ frm ≤ 2000
  bd : ∀ e ∈ edges L, -2000 ≤ e ∧ e ≤ 2000
  is : ∀ x, x ≤ c → keepB kind (memS S x) (memS T x) = (memS L x || (inside && decide (frm ≤ x)))

/-- Spans as a band has them. -/
structure Spans (S : List (Int × Int)) : Prop where
  rising : (edges S).Pairwise (· < ·)
  bd : ∀ e ∈ edges S, -2000 ≤ e ∧ e ≤ 2000

theorem Spans.weak {S : List (Int × Int)} (h : Spans S) : (edges S).Pairwise (· ≤ ·) := weakly h.rising
theorem Spans.far {S : List (Int × Int)} (h : Spans S) : ∀ e ∈ edges S, e < big := fun e he => by have := h.bd e he; unfold big; omega
theorem Spans.len {S : List (Int × Int)} (h : Spans S) : S.length ≤ 2001 := by
  have := rising_len (edges S) (-2000) 2000 h.rising h.bd
  rw [edges_len] at this
  omega
theorem spans_nil : Spans [] := ⟨List.Pairwise.nil, fun e he => by simp [edges] at he⟩

/-- The next edge of the two. -/
def nextE (E F : List Int) (m n : Nat) : Int := min (nth E m) (nth F n)

theorem nth_mem (E : List Int) (k : Nat) (h : nth E k ≠ big) : nth E k ∈ E := by
  by_cases hk : k < E.length
  · rw [nth_lt E k hk]; exact List.getElem_mem hk
  · exact absurd (nth_ge E k (by omega)) h

theorem nth_gt (E : List Int) (hs : E.Pairwise (· ≤ ·)) (c : Int) (hc : c < big) : c < nth E (cnt E c) := by
  by_cases hk : cnt E c < E.length
  · rw [nth_lt E _ hk]; exact (cnt_spec E hs c).2 _ hk (Nat.le_refl _)
  · rw [nth_ge E _ (by omega)]; exact hc

theorem row_start {kind : Int} {S T : List (Int × Int)} (hS : Spans S) (hT : Spans T) : Row kind S T (-3000) 0 0 0 false [] := by
  have zS : cnt (edges S) (-3000) = 0 := cnt_zero _ _ fun e he => by have := hS.bd e he; omega
  have zT : cnt (edges T) (-3000) = 0 := cnt_zero _ _ fun e he => by have := hT.bd e he; omega
  refine ⟨zS.symm, zT.symm, ?_, List.Pairwise.nil, fun e he => by simp [edges] at he, fun h => by simp at h, fun e he => by simp [edges] at he, fun x hx => ?_⟩
  · rw [show oddB 0 = false from rfl, keepB_none]
  · rw [memS_far S x fun e he => by have := hS.bd e he; omega, memS_far T x fun e he => by have := hT.bd e he; omega, keepB_none]
    rfl

/-- How many edges are passed at x. -/
def passed (E : List Int) (m : Nat) (x : Int) : Nat := if nth E m = x then m + 1 else m

theorem memS_past (L : List (Int × Int)) (hs : (edges L).Pairwise (· < ·)) (x : Int) (h : ∀ e ∈ edges L, e ≤ x) : memS L x = false := by
  rw [memS_cnt L hs, cnt_all _ _ h, edges_len]
  simp

/-- One edge further: what holds of all points up to it, before 'from', 'inside' and L are brought up to date. -/
theorem row_next {kind : Int} {S T L : List (Int × Int)} {c frm : Int} {m n : Nat} {inside : Bool} (hS : Spans S) (hT : Spans T) (h : Row kind S T c m n frm inside L)
    (x : Int) (hx : x = nextE (edges S) (edges T) m n) (hb : x ≠ big) (hcb : c < big) :
    c < x ∧ (-2000 ≤ x ∧ x ≤ 2000) ∧ passed (edges S) m x = cnt (edges S) x ∧ passed (edges T) n x = cnt (edges T) x ∧
    (∀ y, y < x → keepB kind (memS S y) (memS T y) = (memS L y || (inside && decide (frm ≤ y)))) ∧
    keepB kind (memS S x) (memS T x) = keepB kind (oddB (passed (edges S) m x)) (oddB (passed (edges T) n x)) := by
  have gS := nth_gt (edges S) hS.weak c hcb
  have gT := nth_gt (edges T) hT.weak c hcb
  rw [← h.hm] at gS
  rw [← h.hn] at gT
  unfold nextE at hx
  have hcx : c < x := by omega
  have hxS : x ≤ nth (edges S) m := by omega
  have hxT : x ≤ nth (edges T) n := by omega
  have hxb : -2000 ≤ x ∧ x ≤ 2000 := by
    by_cases e : x = nth (edges S) m
    · rw [e] at hb ⊢; exact hS.bd _ (nth_mem _ _ hb)
    · have e' : x = nth (edges T) n := by omega
      rw [e'] at hb ⊢; exact hT.bd _ (nth_mem _ _ hb)
  have hbig : x < big := by unfold big; omega
  have p1 : passed (edges S) m x = cnt (edges S) x := by
    rw [cnt_next (edges S) hS.rising c x hcx (by rw [← h.hm]; exact hxS) hbig, ← h.hm]; rfl
  have p2 : passed (edges T) n x = cnt (edges T) x := by
    rw [cnt_next (edges T) hT.rising c x hcx (by rw [← h.hn]; exact hxT) hbig, ← h.hn]; rfl
  refine ⟨hcx, hxb, p1, p2, fun y hy => ?_, ?_⟩
  · by_cases hyc : y ≤ c
    · exact h.is y hyc
    · rw [memS_cnt S hS.rising, memS_cnt T hT.rising, cnt_const _ hS.weak c y (by omega) (by rw [← h.hm]; omega), cnt_const _ hT.weak c y (by omega) (by rw [← h.hn]; omega), ← h.hm, ← h.hn]
      rw [memS_past L h.rising y fun e he => by have := h.upto e he; omega]
      have hin := h.hin
      unfold oddB at hin
      rw [← hin]
      cases inside with
      | false => rfl
      | true =>
        have := (h.fresh rfl).2.1
        simp; omega
  · rw [memS_cnt S hS.rising, memS_cnt T hT.rising, p1, p2]; rfl

/-- The row goes on as it was. -/
theorem row_same {kind : Int} {S T L : List (Int × Int)} {c frm : Int} {m n : Nat} {inside : Bool} (hS : Spans S) (hT : Spans T) (h : Row kind S T c m n frm inside L)
    (x : Int) (hx : x = nextE (edges S) (edges T) m n) (hb : x ≠ big) (hcb : c < big)
    (hnow : keepB kind (oddB (passed (edges S) m x)) (oddB (passed (edges T) n x)) = inside) : Row kind S T x (passed (edges S) m x) (passed (edges T) n x) frm inside L := by
  obtain ⟨hcx, hxb, p1, p2, hlt, hat⟩ := row_next hS hT h x hx hb hcb
  refine ⟨p1, p2, hnow.symm, h.rising, fun e he => by have := h.upto e he; omega, fun hi => ?_, h.bd, fun y hy => ?_⟩
  · obtain ⟨a, b, d⟩ := h.fresh hi
    exact ⟨a, by omega, d⟩
  · by_cases e : y = x
    · subst e
      rw [hat, hnow, memS_past L h.rising y fun e he => by have := h.upto e he; omega]
      cases inside with
      | false => rfl
      | true => have := (h.fresh rfl).2.1; simp; omega
    · exact hlt y (by omega)

/-- A span begins. -/
theorem row_begins {kind : Int} {S T L : List (Int × Int)} {c frm : Int} {m n : Nat} (hS : Spans S) (hT : Spans T) (h : Row kind S T c m n frm false L)
    (x : Int) (hx : x = nextE (edges S) (edges T) m n) (hb : x ≠ big) (hcb : c < big)
    (hnow : keepB kind (oddB (passed (edges S) m x)) (oddB (passed (edges T) n x)) = true) : Row kind S T x (passed (edges S) m x) (passed (edges T) n x) x true L := by
  obtain ⟨hcx, hxb, p1, p2, hlt, hat⟩ := row_next hS hT h x hx hb hcb
  refine ⟨p1, p2, hnow.symm, h.rising, fun e he => by have := h.upto e he; omega, fun _ => ⟨fun e he => by have := h.upto e he; omega, Int.le_refl _, hxb⟩, h.bd, fun y hy => ?_⟩
  by_cases e : y = x
  · subst e
    rw [hat, hnow]; simp
  · rw [hlt y (by omega)]
    have : ¬ x ≤ y := by omega
    simp [this]

/-- A span ends. -/
theorem row_ends {kind : Int} {S T L : List (Int × Int)} {c frm : Int} {m n : Nat} (hS : Spans S) (hT : Spans T) (h : Row kind S T c m n frm true L)
    (x : Int) (hx : x = nextE (edges S) (edges T) m n) (hb : x ≠ big) (hcb : c < big)
    (hnow : keepB kind (oddB (passed (edges S) m x)) (oddB (passed (edges T) n x)) = false) : Row kind S T x (passed (edges S) m x) (passed (edges T) n x) x false (L ++ [(frm, x)]) := by
  obtain ⟨hcx, hxb, p1, p2, hlt, hat⟩ := row_next hS hT h x hx hb hcb
  obtain ⟨f1, f2, f3⟩ := h.fresh rfl
  have hr : (edges (L ++ [(frm, x)])).Pairwise (· < ·) := by
    rw [edges_append, List.pairwise_append]
    refine ⟨h.rising, ?_, fun a ha b hb => ?_⟩
    · rw [edges_cons, edges_nil]; simp; omega
    · have := f1 a ha
      rw [edges_cons, edges_nil] at hb
      simp at hb
      omega
  refine ⟨p1, p2, hnow.symm, hr, fun e he => ?_, fun h => by simp at h, fun e he => ?_, fun y hy => ?_⟩
  · rw [edges_append, edges_cons, edges_nil] at he
    simp at he
    rcases he with he | he | he
    · have := h.upto e he; omega
    · omega
    · omega
  · rw [edges_append, edges_cons, edges_nil] at he
    simp at he
    rcases he with he | he | he
    · exact h.bd e he
    · subst he; exact f3
    · subst he; exact hxb
  · have hm : memS (L ++ [(frm, x)]) y = (memS L y || decide (frm ≤ y ∧ y < x)) := by unfold memS; simp
    rw [hm]
    by_cases e : y = x
    · subst e
      rw [hat, hnow, memS_past L h.rising y fun e he => by have := h.upto e he; omega]
      simp
    · rw [hlt y (by omega)]
      have : y < x := by omega
      simp [this]

/-- The row's end. -/
theorem row_done {kind : Int} {S T L : List (Int × Int)} {c frm : Int} {m n : Nat} {inside : Bool} (hS : Spans S) (hT : Spans T) (h : Row kind S T c m n frm inside L)
    (hx : nextE (edges S) (edges T) m n = big) : Spans L ∧ ∀ x, memS L x = keepB kind (memS S x) (memS T x) := by
  have aS : (edges S).length ≤ m := by
    by_cases e : m < (edges S).length
    · have := hS.far _ (List.getElem_mem e)
      rw [← nth_lt _ _ e] at this
      unfold nextE at hx; omega
    · omega
  have aT : (edges T).length ≤ n := by
    by_cases e : n < (edges T).length
    · have := hT.far _ (List.getElem_mem e)
      rw [← nth_lt _ _ e] at this
      unfold nextE at hx; omega
    · omega
  have eS : m = (edges S).length := Nat.le_antisymm (h.hm ▸ cnt_le _ _) aS
  have eT : n = (edges T).length := Nat.le_antisymm (h.hn ▸ cnt_le _ _) aT
  have oS : oddB m = false := by rw [eS, edges_len]; unfold oddB; simp
  have oT : oddB n = false := by rw [eT, edges_len]; unfold oddB; simp
  have hi : inside = false := by rw [h.hin, oS, oT, keepB_none]
  subst hi
  refine ⟨⟨h.rising, h.bd⟩, fun x => ?_⟩
  by_cases hc : x ≤ c
  · rw [h.is x hc]; simp
  · rw [memS_past L h.rising x fun e he => by have := h.upto e he; omega]
    rw [memS_cnt S hS.rising, memS_cnt T hT.rising, cnt_const_end _ hS.weak c x (by omega) (by rw [← h.hm]; exact aS), cnt_const_end _ hT.weak c x (by omega) (by rw [← h.hn]; exact aT), ← h.hm, ← h.hn]
    unfold oddB at oS oT
    rw [oS, oT, keepB_none]

end Go.Proofs.YtofinpocigbbeaaGreat

namespace Go.Proofs.YtofinpocigbbeaaGreat

/-! ### Bands: top, bottom, spans -/

def levels (A : List (Int × Int × List (Int × Int))) : List Int := A.flatMap fun b => [b.1, b.2.1]

theorem levels_nil : levels [] = [] := rfl
theorem levels_cons (b : Int × Int × List (Int × Int)) (A : List (Int × Int × List (Int × Int))) : levels (b :: A) = b.1 :: b.2.1 :: levels A := rfl
theorem levels_append (A B : List (Int × Int × List (Int × Int))) : levels (A ++ B) = levels A ++ levels B := by simp [levels]
theorem levels_len (A : List (Int × Int × List (Int × Int))) : (levels A).length = 2 * A.length := by
  induction A with
  | nil => rfl
  | cons b A ih => rw [levels_cons]; simp [ih]; omega

theorem levels_even (A : List (Int × Int × List (Int × Int))) (k : Nat) (h : k < A.length) : nth (levels A) (2 * k) = A[k].1 := by
  induction A generalizing k with
  | nil => simp at h
  | cons s L ih =>
    cases k with
    | zero => rfl
    | succ k => simp at h ⊢; rw [← ih k h]; rfl

theorem levels_odd (A : List (Int × Int × List (Int × Int))) (k : Nat) (h : k < A.length) : nth (levels A) (2 * k + 1) = A[k].2.1 := by
  induction A generalizing k with
  | nil => simp at h
  | cons s L ih =>
    cases k with
    | zero => rfl
    | succ k => simp at h ⊢; rw [← ih k h]; rfl

theorem top_mem {A : List (Int × Int × List (Int × Int))} {b : Int × Int × List (Int × Int)} (h : b ∈ A) : b.1 ∈ levels A := by
  unfold levels; rw [List.mem_flatMap]; exact ⟨b, h, by simp⟩
theorem bot_mem {A : List (Int × Int × List (Int × Int))} {b : Int × Int × List (Int × Int)} (h : b ∈ A) : b.2.1 ∈ levels A := by
  unfold levels; rw [List.mem_flatMap]; exact ⟨b, h, by simp⟩

/-- A region in its plain form. -/
structure Good (A : List (Int × Int × List (Int × Int))) : Prop where
  lv : (levels A).Pairwise (· ≤ ·)
  tb : ∀ b ∈ A, b.1 < b.2.1
  bd : ∀ e ∈ levels A, -2000 ≤ e ∧ e ≤ 2000
  sp : ∀ b ∈ A, Spans b.2.2 ∧ b.2.2 ≠ []
  df : ∀ k (h : k + 1 < A.length), A[k].2.1 = A[k + 1].1 → A[k].2.2 ≠ A[k + 1].2.2

theorem good_nil : Good [] := ⟨List.Pairwise.nil, fun b hb => by simp at hb, fun e he => by simp [levels] at he, fun b hb => by simp at hb, fun k h => by simp at h⟩

def memR (A : List (Int × Int × List (Int × Int))) (x y : Int) : Bool := A.any fun b => decide (b.1 ≤ y ∧ y < b.2.1) && memS b.2.2 x

/-- The spans between the edges k - 1 and k. -/
def rowAt (A : List (Int × Int × List (Int × Int))) (k : Nat) : List (Int × Int) := if k % 2 = 0 then [] else ((A[k / 2]?).map fun b => b.2.2).getD []

theorem rowAt_even (A : List (Int × Int × List (Int × Int))) (k : Nat) : rowAt A (2 * k) = [] := by unfold rowAt; simp
theorem rowAt_odd (A : List (Int × Int × List (Int × Int))) (k : Nat) (h : k < A.length) : rowAt A (2 * k + 1) = A[k].2.2 := by
  unfold rowAt
  rw [if_neg (by omega), show (2 * k + 1) / 2 = k from by omega, List.getElem?_eq_getElem h]; rfl

theorem rowAt_spans {A : List (Int × Int × List (Int × Int))} (h : Good A) (k : Nat) : Spans (rowAt A k) := by
  unfold rowAt
  split
  · exact spans_nil
  · cases e : A[k / 2]? with
    | none => exact spans_nil
    | some b => exact (h.sp b (List.mem_of_getElem? e)).1

theorem memR_far (A : List (Int × Int × List (Int × Int))) (x y : Int) (h : ∀ e ∈ levels A, y < e) : memR A x y = false := by
  unfold memR
  rw [List.any_eq_false]
  intro b hb
  have := h b.1 (top_mem hb)
  have : ¬ (b.1 ≤ y ∧ y < b.2.1) := by omega
  simp [this]

theorem memR_past (A : List (Int × Int × List (Int × Int))) (x y : Int) (h : ∀ e ∈ levels A, e ≤ y) : memR A x y = false := by
  unfold memR
  rw [List.any_eq_false]
  intro b hb
  have := h b.2.1 (bot_mem hb)
  have : ¬ (b.1 ≤ y ∧ y < b.2.1) := by omega
  simp [this]

theorem memR_cons (b : Int × Int × List (Int × Int)) (A : List (Int × Int × List (Int × Int))) (x y : Int) : memR (b :: A) x y = ((decide (b.1 ≤ y ∧ y < b.2.1) && memS b.2.2 x) || memR A x y) := rfl
theorem memR_append (A B : List (Int × Int × List (Int × Int))) (x y : Int) : memR (A ++ B) x y = (memR A x y || memR B x y) := by unfold memR; rw [List.any_append]

theorem rowAt_cons2 (b : Int × Int × List (Int × Int)) (A : List (Int × Int × List (Int × Int))) (k : Nat) : rowAt (b :: A) (2 + k) = rowAt A k := by
  unfold rowAt
  rw [show (2 + k) % 2 = k % 2 from by omega, show (2 + k) / 2 = k / 2 + 1 from by omega]
  rfl

/-- A point is in by the row that the count of the edges above it says. -/
theorem memR_cnt (A : List (Int × Int × List (Int × Int))) (hl : (levels A).Pairwise (· ≤ ·)) (ht : ∀ b ∈ A, b.1 < b.2.1) (x y : Int) : memR A x y = memS (rowAt A (cnt (levels A) y)) x := by
  induction A with
  | nil => rfl
  | cons b A ih =>
    rw [levels_cons] at hl
    obtain ⟨h1, h2⟩ := List.pairwise_cons.1 hl
    obtain ⟨h3, h4⟩ := List.pairwise_cons.1 h2
    have ih := ih h4 fun b hb => ht b (by simp [hb])
    have htb := ht b (by simp)
    rw [levels_cons, cnt_cons, cnt_cons, memR_cons]
    by_cases a : b.1 ≤ y
    · by_cases c : b.2.1 ≤ y
      · rw [if_pos a, if_pos c, ih, show 1 + (1 + cnt (levels A) y) = 2 + cnt (levels A) y from by omega, rowAt_cons2]
        have : ¬ (b.1 ≤ y ∧ y < b.2.1) := by omega
        simp [this]
      · have hz : cnt (levels A) y = 0 := cnt_zero _ _ fun e he => by have := h3 e he; omega
        rw [if_pos a, if_neg c, hz, memR_far A x y fun e he => by have := h3 e he; omega]
        have : b.1 ≤ y ∧ y < b.2.1 := by omega
        simp [this, rowAt]
    · have hz : cnt (levels A) y = 0 := cnt_zero _ _ fun e he => by have := h3 e he; omega
      rw [if_neg a, if_neg (by omega), hz, memR_far A x y fun e he => by have := h3 e he; omega]
      have : ¬ (b.1 ≤ y ∧ y < b.2.1) := by omega
      simp [this, rowAt, memS]

/-- A band put below all others. -/
def addB (O : List (Int × Int × List (Int × Int))) (b : Int × Int × List (Int × Int)) : List (Int × Int × List (Int × Int)) :=
  if b.2.2 = [] then O else
    match O.getLast? with
    | some l => if l.2.1 = b.1 ∧ l.2.2 = b.2.2 then O.dropLast ++ [(l.1, b.2.1, l.2.2)] else O ++ [b]
    | none => [b]

/-- What is done so far: c is the last level passed. -/
structure Walk (kind : Int) (A B : List (Int × Int × List (Int × Int))) (c : Int) (i j : Nat) (O : List (Int × Int × List (Int × Int))) : Prop where
  hi : i = cnt (levels A) c
  hj : j = cnt (levels B) c
  good : Good O
  upto : ∀ e ∈ levels O, e ≤ nextE (levels A) (levels B) i j
  is : ∀ x y, y < nextE (levels A) (levels B) i j → memR O x y = keepB kind (memR A x y) (memR B x y)

theorem Good.far {A : List (Int × Int × List (Int × Int))} (h : Good A) : ∀ e ∈ levels A, e < big := fun e he => by have := h.bd e he; unfold big; omega

theorem walk_start {kind : Int} {A B : List (Int × Int × List (Int × Int))} (hA : Good A) (hB : Good B) : Walk kind A B (-3000) 0 0 [] := by
  have zA : cnt (levels A) (-3000) = 0 := cnt_zero _ _ fun e he => by have := hA.bd e he; omega
  have zB : cnt (levels B) (-3000) = 0 := cnt_zero _ _ fun e he => by have := hB.bd e he; omega
  refine ⟨zA.symm, zB.symm, good_nil, fun e he => by simp [levels] at he, fun x y hy => ?_⟩
  have kA : memR A x y = false := by
    refine memR_far A x y fun e he => ?_
    obtain ⟨k, hk, rfl⟩ := List.getElem_of_mem he
    have h0 : 0 < (levels A).length := by omega
    have : nth (levels A) 0 ≤ (levels A)[k] := by
      rw [nth_lt _ _ h0]
      by_cases e : k = 0
      · subst e; exact Int.le_refl _
      · exact List.pairwise_iff_getElem.1 hA.lv _ _ h0 hk (by omega)
    unfold nextE at hy; omega
  have kB : memR B x y = false := by
    refine memR_far B x y fun e he => ?_
    obtain ⟨k, hk, rfl⟩ := List.getElem_of_mem he
    have h0 : 0 < (levels B).length := by omega
    have : nth (levels B) 0 ≤ (levels B)[k] := by
      rw [nth_lt _ _ h0]
      by_cases e : k = 0
      · subst e; exact Int.le_refl _
      · exact List.pairwise_iff_getElem.1 hB.lv _ _ h0 hk (by omega)
    unfold nextE at hy; omega
  rw [kA, kB, keepB_none]; rfl

theorem getLast_split {α : Type} (O : List α) (l : α) (h : O.getLast? = some l) : O = O.dropLast ++ [l] := by
  cases O with
  | nil => simp at h
  | cons a O =>
    rw [List.getLast?_eq_some_getLast (by simp)] at h
    simp only [Option.some.injEq] at h
    rw [← h]
    exact (List.dropLast_concat_getLast (by simp)).symm

/-- The band becomes part of what there is: the plain form stays. -/
theorem good_add {O : List (Int × Int × List (Int × Int))} (h : Good O) {b : Int × Int × List (Int × Int)} (hup : ∀ e ∈ levels O, e ≤ b.1) (htb : b.1 < b.2.1) (h0 : -2000 ≤ b.1) (h1 : b.2.2 ≠ [] → b.2.1 ≤ 2000) (hs : Spans b.2.2) : Good (addB O b) := by
  unfold addB
  split
  · exact h
  · rename_i hne
    have h1 := h1 hne
    split
    · rename_i l hl
      have hO := getLast_split O l hl
      generalize hD : O.dropLast = D at hO
      subst hO
      have hlm : l ∈ D ++ [l] := by simp
      have hlv := h.lv
      rw [levels_append, levels_cons, levels_nil, List.pairwise_append] at hlv
      obtain ⟨v1, v2, v3⟩ := hlv
      have ltb := h.tb l hlm
      have lub := hup l.2.1 (bot_mem hlm)
      split
      · rename_i hc
        obtain ⟨c1, c2⟩ := hc
        refine ⟨?_, ?_, ?_, ?_, ?_⟩
        · rw [levels_append, levels_cons, levels_nil, List.pairwise_append]
          refine ⟨v1, ?_, fun a ha e he => ?_⟩
          · simp; omega
          · have q := v3 a ha l.1 (by simp)
            simp at he
            rcases he with he | he
            · omega
            · omega
        · intro b' hb'
          simp at hb'
          rcases hb' with hb' | hb'
          · exact h.tb b' (by simp [hb'])
          · subst hb'; show l.1 < b.2.1; omega
        · intro e he
          rw [levels_append, levels_cons, levels_nil] at he
          simp at he
          rcases he with he | he | he
          · exact h.bd e (by rw [levels_append]; simp [he])
          · subst he; exact h.bd _ (top_mem hlm)
          · subst he; omega
        · intro b' hb'
          simp at hb'
          rcases hb' with hb' | hb'
          · exact h.sp b' (by simp [hb'])
          · subst hb'; exact h.sp l hlm
        · intro k hk e
          simp at hk
          by_cases hkD : k + 1 < D.length
          · have := h.df k (by simp; omega)
            simp only [List.getElem_append_left (show k < D.length by omega), List.getElem_append_left hkD] at e this ⊢
            exact this e
          · have ek : k + 1 = D.length := by omega
            have := h.df k (by simp; omega)
            have a1 : (D ++ [l])[k + 1]'(by simp; omega) = l := by simp [ek]
            have a2 : (D ++ [(l.1, b.2.1, l.2.2)])[k + 1]'(by simp; omega) = (l.1, b.2.1, l.2.2) := by simp [ek]
            rw [a1] at this
            rw [a2] at e ⊢
            simp only [List.getElem_append_left (show k < D.length by omega)] at e this ⊢
            exact this e
      · rename_i hc
        refine ⟨?_, ?_, ?_, ?_, ?_⟩
        · rw [levels_append, List.pairwise_append]
          refine ⟨h.lv, ?_, fun a ha e he => ?_⟩
          · rw [levels_cons, levels_nil]; simp; omega
          · have := hup a ha
            rw [levels_cons, levels_nil] at he
            simp at he; omega
        · intro b' hb'
          rw [List.mem_append] at hb'
          rcases hb' with hb' | hb'
          · exact h.tb b' hb'
          · simp at hb'; subst hb'; exact htb
        · intro e he
          rw [levels_append, List.mem_append] at he
          rcases he with he | he
          · exact h.bd e he
          · rw [levels_cons, levels_nil] at he
            simp at he
            rcases he with he | he <;> subst he <;> omega
        · intro b' hb'
          rw [List.mem_append] at hb'
          rcases hb' with hb' | hb'
          · exact h.sp b' hb'
          · simp at hb'; subst hb'; exact ⟨hs, hne⟩
        · intro k hk e
          by_cases hkO : k + 1 < (D ++ [l]).length
          · have := h.df k hkO
            simp only [List.getElem_append_left (show k < (D ++ [l]).length by omega), List.getElem_append_left hkO] at e ⊢
            exact this e
          · have ek : k = D.length := by simp at hk hkO; omega
            subst ek
            have a1 : (D ++ [l] ++ [b])[D.length]'(by simp) = l := by simp
            have a2 : (D ++ [l] ++ [b])[D.length + 1]'(by simp) = b := by simp
            rw [a1, a2] at e ⊢
            exact fun q => hc ⟨e, q⟩
    · rename_i hl
      have hO : O = [] := by
        cases O with
        | nil => rfl
        | cons a O => rw [List.getLast?_eq_some_getLast (by simp)] at hl; simp at hl
      subst hO
      refine ⟨?_, ?_, ?_, ?_, ?_⟩
      · rw [levels_cons, levels_nil]; simp; omega
      · intro b' hb'; simp at hb'; subst hb'; exact htb
      · intro e he
        rw [levels_cons, levels_nil] at he
        simp at he
        rcases he with he | he <;> subst he <;> omega
      · intro b' hb'; simp at hb'; subst hb'; exact ⟨hs, hne⟩
      · intro k hk; simp at hk

theorem memR_add (O : List (Int × Int × List (Int × Int))) (b : Int × Int × List (Int × Int)) (x y : Int) (htb : b.1 < b.2.1) (hO : ∀ b ∈ O, b.1 < b.2.1) : memR (addB O b) x y = (memR O x y || (decide (b.1 ≤ y ∧ y < b.2.1) && memS b.2.2 x)) := by
  unfold addB
  split
  · rename_i h
    rw [h]; simp [memS]
  · split
    · rename_i l hl
      have hOe := getLast_split O l hl
      generalize O.dropLast = D at hOe
      subst hOe
      have hl := hO l (by simp)
      split
      · rename_i hc
        obtain ⟨c1, c2⟩ := hc
        have : ∀ (p : Int × Int × List (Int × Int)), memR [p] x y = (decide (p.1 ≤ y ∧ y < p.2.1) && memS p.2.2 x) := fun p => by unfold memR; simp
        rw [memR_append, memR_append, this, this, ← c2, Bool.or_assoc, ← Bool.and_or_distrib_right]
        congr 2
        rw [Bool.eq_iff_iff]
        simp
        omega
      · have : ∀ (p : Int × Int × List (Int × Int)), memR [p] x y = (decide (p.1 ≤ y ∧ y < p.2.1) && memS p.2.2 x) := fun p => by unfold memR; simp
        rw [memR_append, this]
    · rename_i hl
      have hO : O = [] := by
        cases O with
        | nil => rfl
        | cons a O => rw [List.getLast?_eq_some_getLast (by simp)] at hl; simp at hl
      subst hO
      unfold memR; simp

theorem levels_add (O : List (Int × Int × List (Int × Int))) (b : Int × Int × List (Int × Int)) (M : Int) (h : ∀ e ∈ levels O, e ≤ M) (h1 : b.1 ≤ M) (h2 : b.2.1 ≤ M) : ∀ e ∈ levels (addB O b), e ≤ M := by
  unfold addB
  split
  · exact h
  · split
    · rename_i l hl
      have hOe := getLast_split O l hl
      generalize O.dropLast = D at hOe
      subst hOe
      split
      · intro e he
        rw [levels_append, levels_cons, levels_nil] at he
        simp at he
        rcases he with he | he | he
        · exact h e (by rw [levels_append]; simp [he])
        · subst he; exact h _ (top_mem (by simp))
        · subst he; exact h2
      · intro e he
        rw [levels_append, List.mem_append] at he
        rcases he with he | he
        · exact h e he
        · rw [levels_cons, levels_nil] at he
          simp at he
          rcases he with he | he <;> subst he <;> assumption
    · intro e he
      rw [levels_cons, levels_nil] at he
      simp at he
      rcases he with he | he <;> subst he <;> assumption

theorem nextE_gt {A B : List (Int × Int × List (Int × Int))} (hA : Good A) (hB : Good B) (c : Int) (hc : c < big) : c < nextE (levels A) (levels B) (cnt (levels A) c) (cnt (levels B) c) := by
  have a := nth_gt (levels A) hA.lv c hc
  have b := nth_gt (levels B) hB.lv c hc
  unfold nextE; omega

/-- The levels at 'top' are passed, both times. -/
theorem walk_pass {kind : Int} {A B O : List (Int × Int × List (Int × Int))} {c : Int} {i j : Nat} (hA : Good A) (hB : Good B) (h : Walk kind A B c i j O) (hcb : c < big)
    (top : Int) (ht : top = nextE (levels A) (levels B) i j) (hb : top ≠ big) : c < top ∧ (-2000 ≤ top ∧ top ≤ 2000) := by
  have hc := nextE_gt hA hB c hcb
  rw [← h.hi, ← h.hj, ← ht] at hc
  refine ⟨hc, ?_⟩
  unfold nextE at ht
  by_cases e : top = nth (levels A) i
  · rw [e] at hb ⊢; exact hA.bd _ (nth_mem _ _ hb)
  · have e' : top = nth (levels B) j := by omega
    rw [e'] at hb ⊢; exact hB.bd _ (nth_mem _ _ hb)

theorem odd_nth {A : List (Int × Int × List (Int × Int))} (hA : Good A) (k : Nat) (hk : k ≤ (levels A).length) (ho : k % 2 = 1) : nth (levels A) k ≤ 2000 := by
  have hl : k < (levels A).length := by rw [levels_len] at hk ⊢; omega
  rw [nth_lt _ _ hl]
  exact (hA.bd _ (List.getElem_mem hl)).2

/-- A strip is done. -/
theorem walk_step {kind : Int} {A B O : List (Int × Int × List (Int × Int))} {c : Int} {i j : Nat} (hA : Good A) (hB : Good B) (h : Walk kind A B c i j O) (hcb : c < big)
    (top : Int) (ht : top = nextE (levels A) (levels B) i j) (hb : top ≠ big) (i' j' : Nat) (hi' : i' = cnt (levels A) top) (hj' : j' = cnt (levels B) top)
    (bottom : Int) (hbot : bottom = nextE (levels A) (levels B) i' j') (L : List (Int × Int)) (hL : Spans L)
    (hmem : ∀ x, memS L x = keepB kind (memS (rowAt A i') x) (memS (rowAt B j') x)) : Walk kind A B top i' j' (addB O (top, bottom, L)) := by
  obtain ⟨hct, ht1⟩ := walk_pass hA hB h hcb top ht hb
  have htb : top < big := by unfold big; omega
  have hgt := nextE_gt hA hB top htb
  rw [← hi', ← hj', ← hbot] at hgt
  have hfin : L ≠ [] → bottom ≤ 2000 := by
    intro hne
    by_cases ho : i' % 2 = 1
    · have := odd_nth hA i' (by rw [hi']; exact cnt_le _ _) ho
      rw [hbot]; unfold nextE; omega
    · by_cases ho' : j' % 2 = 1
      · have := odd_nth hB j' (by rw [hj']; exact cnt_le _ _) ho'
        rw [hbot]; unfold nextE; omega
      · cases L with
        | nil => exact absurd rfl hne
        | cons s L =>
          have hr := hL.rising
          rw [edges_cons] at hr
          have hlt : s.1 < s.2 := (List.pairwise_cons.1 hr).1 s.2 (by simp)
          have hm := hmem s.1
          have e1 : rowAt A i' = [] := by unfold rowAt; rw [if_pos (by omega)]
          have e2 : rowAt B j' = [] := by unfold rowAt; rw [if_pos (by omega)]
          rw [e1, e2] at hm
          have : memS (s :: L) s.1 = true := by unfold memS; simp; left; exact hlt
          rw [this] at hm
          have : memS [] s.1 = false := rfl
          rw [this, keepB_none] at hm
          simp at hm
  have hup : ∀ e ∈ levels O, e ≤ top := by rw [ht]; exact h.upto
  refine ⟨hi', hj', good_add h.good hup hgt ht1.1 hfin hL, ?_, fun x y hy => ?_⟩
  · rw [← hbot]
    exact levels_add O _ bottom (fun e he => by have := hup e he; omega) (by show top ≤ bottom; omega) (Int.le_refl _)
  · rw [← hbot] at hy
    rw [memR_add O _ x y hgt h.good.tb]
    show (memR O x y || (decide (top ≤ y ∧ y < bottom) && memS L x)) = _
    by_cases hyt : y < top
    · have : ¬ (top ≤ y ∧ y < bottom) := by omega
      simp only [this, decide_false, Bool.false_and, Bool.or_false]
      exact h.is x y (by rw [← ht]; exact hyt)
    · rw [memR_past O x y fun e he => by have := hup e he; omega]
      have e1 : memR A x y = memS (rowAt A i') x := by
        rw [memR_cnt A hA.lv hA.tb, cnt_const _ hA.lv top y (by omega) (by rw [← hi']; unfold nextE at hbot; omega), ← hi']
      have e2 : memR B x y = memS (rowAt B j') x := by
        rw [memR_cnt B hB.lv hB.tb, cnt_const _ hB.lv top y (by omega) (by rw [← hj']; unfold nextE at hbot; omega), ← hj']
      rw [e1, e2, ← hmem x]
      have : top ≤ y ∧ y < bottom := by omega
      simp [this]

theorem walk_done {kind : Int} {A B O : List (Int × Int × List (Int × Int))} {c : Int} {i j : Nat} (hA : Good A) (hB : Good B) (h : Walk kind A B c i j O)
    (hx : nextE (levels A) (levels B) i j = big) : ∀ x y, memR O x y = keepB kind (memR A x y) (memR B x y) := by
  intro x y
  by_cases hy : y < big
  · exact h.is x y (by rw [hx]; exact hy)
  · rw [memR_past A x y fun e he => by have := hA.far e he; omega, memR_past B x y fun e he => by have := hB.far e he; omega, memR_past O x y fun e he => by have := h.good.far e he; omega, keepB_none]

/-- Levels rise, and no more than so many bands are there. -/
theorem Good.len {A : List (Int × Int × List (Int × Int))} (h : Good A) : A.length ≤ 4001 := by
  have key : ∀ (A : List (Int × Int × List (Int × Int))) (lo : Int), (levels A).Pairwise (· ≤ ·) → (∀ b ∈ A, b.1 < b.2.1) → (∀ e ∈ levels A, lo ≤ e ∧ e ≤ 2000) → (A.length : Int) ≤ max 0 (2000 - lo + 1) := by
    intro A
    induction A with
    | nil => intro lo _ _ _; simp; omega
    | cons b A ih =>
      intro lo h1 h2 h3
      rw [levels_cons] at h1 h3
      obtain ⟨a1, a2⟩ := List.pairwise_cons.1 h1
      obtain ⟨a3, a4⟩ := List.pairwise_cons.1 a2
      have hb := h2 b (by simp)
      have g1 := h3 b.1 (by simp)
      have g2 := h3 b.2.1 (by simp)
      have := ih b.2.1 a4 (fun b hb => h2 b (by simp [hb])) fun e he => ⟨a3 e he, (h3 e (by simp [he])).2⟩
      simp
      omega
  have := key A (-2000) h.lv h.tb h.bd
  omega

theorem cnt_run (E : List Int) (hs : E.Pairwise (· ≤ ·)) (c x : Int) (hc : c < x) (k : Nat) (hk : cnt E c ≤ k) (hkl : k ≤ E.length) (hrun : ∀ j, cnt E c ≤ j → j < k → nth E j = x) (hx : k < E.length → x < nth E k) : cnt E x = k := by
  obtain ⟨a, b⟩ := cnt_spec E hs c
  refine cnt_eq E hs x k hkl (fun j hj h => ?_) (fun j hj h => ?_)
  · by_cases e : j < cnt E c
    · have := a j hj e; omega
    · have := hrun j (by omega) h
      rw [nth_lt E j hj] at this; omega
  · have h1 := hx (by omega)
    rw [nth_lt E k (by omega)] at h1
    by_cases e : j = k
    · subst e; exact h1
    · have := List.pairwise_iff_getElem.1 hs k j (by omega) hj (by omega)
      omega

end Go.Proofs.YtofinpocigbbeaaGreat

namespace Go.Proofs.YtofinpocigbbeaaGreat
open Go.RowKit

theorem block_lt {w : World} {b : Nat} {o : Obj} (h : w.heap[b]? = some o) : b < w.heap.size := by
  rcases Nat.lt_or_ge b w.heap.size with hlt | hge
  · exact hlt
  · rw [Array.getElem?_eq_none hge] at h; cases h

theorem cell_lt {w : World} {b off : Nat} {v : Value} (h : w.cell? ⟨b, off, none⟩ = some v) : b < w.heap.size := by
  rcases Nat.lt_or_ge b w.heap.size with hlt | hge
  · exact hlt
  · rw [World.cell?, Array.getElem?_eq_none hge] at h; simp at h

theorem cell_old (w : World) (o : Obj) (b off : Nat) (h : b < w.heap.size) : (w.alloc o).cell? ⟨b, off, none⟩ = w.cell? ⟨b, off, none⟩ :=
  World.cell?_of_block (a := ⟨b, off, none⟩) (Below.heap_alloc w o b h)

theorem heap_old (w : World) (o : Obj) (b : Nat) (h : b < w.heap.size) : (w.alloc o).heap[b]? = w.heap[b]? := Below.heap_alloc w o b h

/-- A list of spans in memory: nil, or a row of its own. -/
def SpansAt (w : World) (v : Value) (L : List (Int × Int)) : Prop :=
  (v = .slice none 0 0 ∧ L = []) ∨
  ∃ b c cur, v = .slice (some ⟨b, 0, none⟩) L.length c ∧ L ≠ [] ∧ w.heap[b]? = some (.cells cur 194 (0, 0)) ∧ ∀ j, j < 2 * L.length → cur[j]? = some (.int .i64 (nth (edges L) j))

theorem SpansAt.kept {w w' : World} {v : Value} {L : List (Int × Int)} (h : SpansAt w v L) (hk : ∀ (b : Nat) (cur : Array Value), w.heap[b]? = some (Obj.cells cur 194 (0, 0)) → w'.heap[b]? = w.heap[b]?) : SpansAt w' v L := by
  rcases h with h | ⟨b, c, cur, hv, hne, hb, hc⟩
  · exact .inl h
  · exact .inr ⟨b, c, cur, hv, hne, (hk b cur hb).trans hb, hc⟩

theorem SpansAt.below {w w' : World} {v : Value} {L : List (Int × Int)} (h : SpansAt w v L) (hb : Below w.heap.size w w') : SpansAt w' v L :=
  h.kept fun _ _ e => hb.block _ (block_lt e)

/-- A list of bands in memory. -/
def BandsAt (w : World) (v : Value) (A : List (Int × Int × List (Int × Int))) : Prop :=
  (v = .slice none 0 0 ∧ A = []) ∨
  ∃ b c, v = .slice (some ⟨b, 0, none⟩) A.length c ∧ A ≠ [] ∧ ∀ k (h : k < A.length), w.cell? ⟨b, k * 3, none⟩ = some (.int .i64 A[k].1) ∧ w.cell? ⟨b, k * 3 + 1, none⟩ = some (.int .i64 A[k].2.1) ∧
    ∃ u, w.cell? ⟨b, k * 3 + 2, none⟩ = some u ∧ SpansAt w u A[k].2.2

theorem BandsAt.below {w w' : World} {v : Value} {A : List (Int × Int × List (Int × Int))} (h : BandsAt w v A) (hb : Below w.heap.size w w') : BandsAt w' v A := by
  rcases h with h | ⟨b, c, hv, hne, hc⟩
  · exact .inl h
  · refine .inr ⟨b, c, hv, hne, fun k hk => ?_⟩
    obtain ⟨h1, h2, u, h3, h4⟩ := hc k hk
    have hl := cell_lt h1
    exact ⟨(hb.cell hl).trans h1, (hb.cell hl).trans h2, u, (hb.cell hl).trans h3, h4.below hb⟩

theorem big_eq : big = 9223372036854775807 := rfl

end Go.Proofs.YtofinpocigbbeaaGreat

namespace Go.Proofs.YtofinpocigbbeaaGreat
open Go.RowKit

theorem ret_int {k : IntKind} {a b : Int} (h : a = b) : Ending.returned (.int k a) = .returned (.int k b) := by rw [h]
theorem ret_b {a b : Bool} (h : a = b) : Ending.returned (.bool a) = .returned (.bool b) := by rw [h]

set_option maxHeartbeats 400000 in
theorem edge_any (L : List (Int × Int)) (v : Value) (k : Nat) (w : World) (h : SpansAt w v L) (hl : L.length ≤ 10000) (hk : k ≤ 2 * L.length) :
    Calls Tryz.prog 153 #[v, .int .i64 k] w fun e w' => e = .returned (.int .i64 (nth (edges L) k)) ∧ w' = w := by
  rcases h with ⟨rfl, rfl⟩ | ⟨b, c, cur, rfl, hne, hb, hc⟩
  · have hk0 : k = 0 := by simpa using hk
    subst hk0
    go_enter Tryz.func153, Tryz.ntmps153
    go_wp2
    go_ret
    exact ⟨rfl, rfl⟩
  · generalize hn : L.length = n at *
    by_cases e : k = 2 * n
    · have e1 : nth (edges L) k = big := nth_ge _ _ (by rw [edges_len]; omega)
      have E : Hid (nth (edges L) k = big) := e1
      subst e
      clear e1 hc hb hk hn
      go_enter Tryz.func153, Tryz.ntmps153
      go_wp2
      go_ret
      exact ⟨ret_int E.out.symm, rfl⟩
    · have hcell : w.cell? ⟨b, k, none⟩ = some (.int .i64 (nth (edges L) k)) := by
        rw [cell_of_row w b k cur _ _ hb]; exact hc k (by omega)
      generalize nth (edges L) k = p at *
      clear hc hb hn hne
      obtain ⟨q, r, hq, hr⟩ : ∃ q r : Nat, k = q * 2 + r ∧ (r = 0 ∨ r = 1) := ⟨k / 2, k % 2, by omega, by omega⟩
      have hd : (k : Int) / 2 = q := by omega
      have hqn : q < n := by omega
      have hlt : (k : Int) < 2 * (n : Int) := by omega
      have hlt2 : k < 2 * n := by omega
      rw [hq] at hcell
      rcases hr with rfl | rfl
      · have hm : (k : Int) % 2 = 0 := by omega
        simp only [Nat.add_zero] at hcell
        clear hq e hk
        go_enter Tryz.func153, Tryz.ntmps153
        go_wp2
        go_ret
        exact ⟨rfl, rfl⟩
      · have hm : (k : Int) % 2 = 1 := by omega
        clear hq e hk
        go_enter Tryz.func153, Tryz.ntmps153
        go_wp2
        go_ret
        exact ⟨rfl, rfl⟩

set_option maxHeartbeats 400000 in
theorem passEdge_any (L : List (Int × Int)) (v : Value) (k : Nat) (x : Int) (w : World) (h : SpansAt w v L) (hl : L.length ≤ 10000) (hk : k ≤ 2 * L.length) :
    Calls Tryz.prog 155 #[v, .int .i64 k, .int .i64 x] w fun e w' => e = .returned (.int .i64 (passed (edges L) k x : Nat)) ∧ w' = w := by
  have hE := edge_any L v k w h hl hk
  have hP : passed (edges L) k x = if nth (edges L) k = x then k + 1 else k := rfl
  generalize passed (edges L) k x = r at *
  generalize nth (edges L) k = p at *
  have HP : Hid (r = if p = x then k + 1 else k) := hP
  clear hP h
  by_cases e : (p == x) = true
  · go_enter Tryz.func155, Tryz.ntmps155
    go_wp2_with (go_at_call 153; refine hE.mono ?_; rintro x w' ⟨rfl, rfl⟩)
    go_ret
    refine ⟨ret_int ?_, rfl⟩
    rw [HP.out, if_pos (by simpa using e)]; rfl
  · have e : (p == x) = false := by simpa using e
    go_enter Tryz.func155, Tryz.ntmps155
    go_wp2_with (go_at_call 153; refine hE.mono ?_; rintro x w' ⟨rfl, rfl⟩)
    go_ret
    refine ⟨ret_int ?_, rfl⟩
    rw [HP.out, if_neg (by simpa using e)]

set_option maxHeartbeats 400000 in
theorem keeps_any (kind : Int) (p q : Bool) (w : World) :
    Calls Tryz.prog 156 #[.int .i64 kind, .bool p, .bool q] w fun e w' => e = .returned (.bool (keepB kind p q)) ∧ w' = w := by
  have HK : Hid (keepB kind p q = if kind = 0 then p || q else if kind = 1 then p && q else if kind = 2 then p && !q else p != q) := rfl
  generalize keepB kind p q = r at *
  have c0 : (kind == 0) = true ∨ (kind == 0) = false := by cases (kind == 0) <;> simp
  have c1 : (kind == 1) = true ∨ (kind == 1) = false := by cases (kind == 1) <;> simp
  have c2 : (kind == 2) = true ∨ (kind == 2) = false := by cases (kind == 2) <;> simp
  rcases c0 with c0 | c0
  · cases p <;> cases q <;>
    · go_enter Tryz.func156, Tryz.ntmps156
      go_wp2
      go_ret
      refine ⟨ret_b ?_, rfl⟩
      rw [HK.out]; simp at c0; simp [c0]
  · rcases c1 with c1 | c1
    · cases p <;> cases q <;>
      · go_enter Tryz.func156, Tryz.ntmps156
        go_wp2
        go_ret
        refine ⟨ret_b ?_, rfl⟩
        rw [HK.out]; simp at c1; simp [c1]
    · rcases c2 with c2 | c2
      · cases p <;> cases q <;>
        · go_enter Tryz.func156, Tryz.ntmps156
          go_wp2
          go_ret
          refine ⟨ret_b ?_, rfl⟩
          rw [HK.out]; simp at c2; simp [c2]
      · cases p <;> cases q <;>
        · go_enter Tryz.func156, Tryz.ntmps156
          go_wp2
          go_ret
          refine ⟨ret_b ?_, rfl⟩
          rw [HK.out]; simp at c0 c1 c2; simp [c0, c1, c2]

theorem two_of (k : Nat) : ∃ q r : Nat, k = q * 2 + r ∧ (r = 0 ∨ r = 1) := ⟨k / 2, k % 2, by omega, by omega⟩

set_option maxHeartbeats 400000 in
theorem level_any (A : List (Int × Int × List (Int × Int))) (v : Value) (k : Nat) (w : World) (h : BandsAt w v A) (hl : A.length ≤ 10000) (hk : k ≤ 2 * A.length) :
    Calls Tryz.prog 150 #[.agg #[v], .int .i64 k] w fun e w' => e = .returned (.int .i64 (nth (levels A) k)) ∧ w' = w.alloc (.cells #[v] 136) := by
  rcases h with ⟨rfl, rfl⟩ | ⟨b, c, rfl, hne, hc⟩
  · have hk0 : k = 0 := by simpa using hk
    subst hk0
    go_enter Tryz.func150, Tryz.ntmps150
    go_wp2
    go_ret
    exact ⟨rfl, rfl⟩
  · have hzero : 0 < A.length := by cases A with
      | nil => exact absurd rfl hne
      | cons a A => simp
    have hb : b < w.heap.size := cell_lt (hc 0 hzero).1
    have hEv := levels_even A
    have hOd := levels_odd A
    have hEnd := nth_ge (levels A) k
    rw [levels_len] at hEnd
    by_cases e : k = 2 * A.length
    · have E : Hid (nth (levels A) k = big) := hEnd (by omega)
      clear hEnd hEv hOd hc
      generalize A.length = n at *
      subst e
      clear hk
      go_enter Tryz.func150, Tryz.ntmps150
      go_wp2
      go_ret
      exact ⟨ret_int E.out.symm, rfl⟩
    · clear hEnd
      obtain ⟨q, r, hq, hr⟩ := two_of k
      have hd : (k : Int) / 2 = q := by omega
      have hqn : q < A.length := by omega
      have hlt : (k : Int) < 2 * (A.length : Int) := by omega
      have hlt2 : k < 2 * A.length := by omega
      obtain ⟨c1, c2, c9⟩ := hc q (by omega)
      clear c9
      rcases hr with rfl | rfl
      · have hm : (k : Int) % 2 = 0 := by omega
        have hv := hEv q (by omega)
        rw [← hv, show 2 * q = k by omega] at c1
        clear hq e hk hv hEv hOd hc c2
        generalize nth (levels A) k = p at *
        generalize A.length = n at *
        go_enter Tryz.func150, Tryz.ntmps150
        go_wp2
        go_ret
        exact ⟨rfl, rfl⟩
      · have hm : (k : Int) % 2 = 1 := by omega
        have hv := hOd q (by omega)
        rw [← hv, show 2 * q + 1 = k by omega] at c2
        clear hq e hk hv hEv hOd hc c1
        generalize nth (levels A) k = p at *
        generalize A.length = n at *
        go_enter Tryz.func150, Tryz.ntmps150
        go_wp2
        go_ret
        exact ⟨rfl, rfl⟩

set_option maxHeartbeats 400000 in
theorem row_any (A : List (Int × Int × List (Int × Int))) (v : Value) (k : Nat) (w : World) (h : BandsAt w v A) (hl : A.length ≤ 10000) (hk : k ≤ 2 * A.length) :
    Calls Tryz.prog 152 #[.agg #[v], .int .i64 k] w fun e w' => ∃ u, e = .returned u ∧ SpansAt w u (rowAt A k) ∧ w' = w.alloc (.cells #[v] 136) := by
  obtain ⟨q, r, hq, hr⟩ := two_of k
  rcases hr with rfl | rfl
  · have hm : (k : Int) % 2 = 0 := by omega
    have hR : rowAt A k = [] := by rw [show k = 2 * q by omega]; exact rowAt_even A q
    clear hq
    have HR : Hid (rowAt A k = []) := hR
    clear hR
    go_enter Tryz.func152, Tryz.ntmps152
    go_wp2
    go_ret
    exact ⟨_, rfl, .inl ⟨rfl, HR.out⟩, rfl⟩
  · have hm : (k : Int) % 2 = 1 := by omega
    have hd : (k : Int) / 2 = q := by omega
    have hqn : q < A.length := by omega
    rcases h with ⟨rfl, rfl⟩ | ⟨b, c, rfl, hne, hc⟩
    · simp at hqn
    · obtain ⟨c1, c2, u, c3, hsp⟩ := hc q hqn
      have hb : b < w.heap.size := cell_lt c1
      have hR : rowAt A k = A[q].2.2 := by rw [show k = 2 * q + 1 by omega]; exact rowAt_odd A q hqn
      rw [← hR] at hsp
      have HS : Hid (SpansAt w u (rowAt A k)) := hsp
      clear hq hsp hR hc c1 c2 hne
      generalize A.length = n at *
      go_enter Tryz.func152, Tryz.ntmps152
      go_wp2
      go_ret
      exact ⟨u, rfl, HS.out, rfl⟩

set_option maxHeartbeats 1000000 in
theorem passLevels_any (A : List (Int × Int × List (Int × Int))) (v : Value) (k : Nat) (c y : Int) (w : World) (h : BandsAt w v A) (hl : A.length ≤ 10000) (hs : (levels A).Pairwise (· ≤ ·)) (hc : c < y) (hk : k = cnt (levels A) c) (hy : y ≤ nth (levels A) k) :
    Calls Tryz.prog 151 #[.agg #[v], .int .i64 k, .int .i64 y] w fun e w' => e = .returned (.int .i64 (cnt (levels A) y : Nat)) ∧ Below w.heap.size w w' := by
  obtain ⟨a, n, cp, hv, hn⟩ : ∃ a n cp, v = .slice a n cp ∧ n = A.length := by
    rcases h with ⟨rfl, rfl⟩ | ⟨b, c, rfl, hne, _⟩
    · exact ⟨_, _, _, rfl, rfl⟩
    · exact ⟨_, _, _, rfl, rfl⟩
  have HV : Hid (v = .slice a n cp) := hv
  have HN : Hid (n = A.length) := hn
  have hn' : n ≤ 10000 := by omega
  have hkl : k ≤ 2 * n := by rw [hk, hn, ← levels_len]; exact cnt_le _ _
  have HB : Hid (BandsAt w v A) := h
  have HY : Hid (∀ q, (levels A).length = 2 * n → k ≤ q → q ≤ 2 * n → (∀ j, k ≤ j → j < q → nth (levels A) j = y) → (q < 2 * n → nth (levels A) q ≠ y) → cnt (levels A) y = q) := by
    intro q hlen h1 h2 h3 h4
    refine cnt_run (levels A) hs c y hc q (by omega) (by omega) (fun j hj1 hj2 => h3 j (by omega) hj2) (fun hq => ?_)
    have h5 := h4 (by omega)
    have hkq : nth (levels A) k ≤ nth (levels A) q := by
      rw [nth_lt _ _ (show k < (levels A).length by omega), nth_lt _ _ hq]
      by_cases e : k = q
      · subst e; exact Int.le_refl _
      · exact List.pairwise_iff_getElem.1 hs _ _ _ _ (by omega)
    omega
  clear h hl hs hc hk hy hn
  rw [hv]
  clear hv
  go_enter Tryz.func151, Tryz.ntmps151
  go_wp2
  go_loopw [1] (fun i wr => ∃ q : Nat, k ≤ q ∧ q ≤ 2 * n ∧ i = .int .i64 q ∧ (∀ j, k ≤ j → j < q → nth (levels A) j = y) ∧ w.heap.size < wr.heap.size ∧ wr.cell? ⟨w.heap.size, 0, none⟩ = some (.slice a n cp) ∧ Below w.heap.size w wr) (fun i _ => 2 * n - (intOf i).toNat)
  case atStart => exact ⟨k, Nat.le_refl _, hkl, rfl, fun j h1 h2 => absurd h1 (by omega), by simp, by simp, (Below.refl _ _).alloc (Nat.le_refl _) _⟩
  case round =>
    obtain ⟨q, hq1, hq2, rfl, hrun, hsz, hcell, hbel⟩ := hrel
    have HRun : Hid (∀ j, k ≤ j → j < q → nth (levels A) j = y) := hrun
    have HBel : Hid (Below w.heap.size w wr) := hbel
    have hL := level_any A (.slice a n cp) q wr (by have := HB.out; rw [HV.out] at this; exact this.below hbel) (by rw [← HN.out]; omega) (by rw [← HN.out]; omega)
    have HL : Hid (nth (levels A) q = nth (levels A) q) := rfl
    generalize hp : nth (levels A) q = p at hL
    have HP : Hid (nth (levels A) q = p) := hp
    clear hrun hbel hp HL
    by_cases hlt : q < 2 * n
    · have hlt' : (q : Int) < 2 * (n : Int) := by omega
      have cp' : (p == y) = true ∨ (p == y) = false := by cases (p == y) <;> simp
      rcases cp' with e | e
      · go_wp2_with (go_at_call 150; refine hL.mono ?_; rintro x w' ⟨rfl, rfl⟩)
        go_roundw
        case rel =>
          refine ⟨q + 1, by omega, by omega, by go_num, fun j h1 h2 => ?_, by simp; omega, (cell_old _ _ _ _ hsz).trans hcell, HBel.out.alloc (by omega) _⟩
          by_cases ej : j = q
          · subst ej; rw [HP.out]; simpa using e
          · exact HRun.out j h1 (by omega)
        case measure => simp [intOf]; omega
      · go_wp2_with (go_at_call 150; refine hL.mono ?_; rintro x w' ⟨rfl, rfl⟩)
        go_ret
        refine ⟨ret_int ?_, HBel.out.alloc (by omega) _⟩
        rw [HY.out q (by rw [levels_len, HN.out]) hq1 hq2 HRun.out (fun _ => by rw [HP.out]; simpa using e)]
    · have hlt' : ¬ (q : Int) < 2 * (n : Int) := by omega
      go_wp2
      go_ret
      refine ⟨ret_int ?_, HBel.out⟩
      rw [HY.out q (by rw [levels_len, HN.out]) hq1 hq2 HRun.out (fun h => absurd h hlt)]

theorem eqSpan (a b c d : Int) (w : World) : (Op.equalIn 10000 194 (.agg #[.int .i64 a, .int .i64 b]) (.agg #[.int .i64 c, .int .i64 d])).run Tryz.prog w = .ok (a == c && b == d) w := by
  have u3 := Tryz.underlying3
  have a3 := Tryz.isAgg3
  have z3 := Tryz.sizeOf3
  have hS : Tryz.prog.underlying 194 = some (.struct (Tryz.prog.fieldsOf 194)) := by kernel_rfl
  have hp : Tryz.prog.stoodInHeld 194 = false := by kernel_rfl
  rw [show (10000 : Nat) = 9999 + 1 from rfl, run_equalIn_agg w 9999 194 _ _ hS hp]
  simp only [Program.fieldsOf, Tryz.underlying194]
  go_simp
  by_cases h1 : a = c <;> by_cases h2 : b = d <;> simp [h1, h2]

theorem SpansAt.len {w : World} {v : Value} {L : List (Int × Int)} (h : SpansAt w v L) : ∃ a c, v = .slice a L.length c ∧ (0 < L.length → ∃ b, a = some ⟨b, 0, none⟩ ∧ ∀ j, j < L.length → w.cell? ⟨b, j * 2, none⟩ = some (.int .i64 (L.getD j (0, 0)).1) ∧ w.cell? ⟨b, j * 2 + 1, none⟩ = some (.int .i64 (L.getD j (0, 0)).2)) := by
  rcases h with ⟨rfl, rfl⟩ | ⟨b, c, cur, rfl, hne, hb, hc⟩
  · exact ⟨none, 0, rfl, fun h => by simp at h⟩
  · refine ⟨_, c, rfl, fun _ => ⟨b, rfl, fun j hj => ?_⟩⟩
    have e : L.getD j (0, 0) = L[j] := by rw [List.getD_eq_getElem?_getD, List.getElem?_eq_getElem hj]; rfl
    rw [e, cell_of_row w b _ cur _ _ hb, cell_of_row w b _ cur _ _ hb, hc _ (by omega), hc _ (by omega), ← edges_even L j hj, ← edges_odd L j hj, Nat.mul_comm j 2]
    exact ⟨rfl, rfl⟩

end Go.Proofs.YtofinpocigbbeaaGreat

namespace Go.Proofs.YtofinpocigbbeaaGreat
open Go.RowKit

set_option maxHeartbeats 1000000 in
theorem equal_any (L M : List (Int × Int)) (u v : Value) (w : World) (hu : SpansAt w u L) (hv : SpansAt w v M) (hl : L.length ≤ 10000) :
    Calls Tryz.prog 185 #[u, v] w fun e w' => e = .returned (.bool (decide (L = M))) ∧ ∃ nq, w' = w.drewN nq := by
  obtain ⟨a, ca, rfl, ha⟩ := hu.len
  obtain ⟨b, cb, rfl, hb⟩ := hv.len
  clear hu hv
  by_cases hne : L.length = M.length
  · have HE : Hid (L.length = M.length) := hne
    have hb' : 0 < L.length → ∃ b', b = some ⟨b', 0, none⟩ ∧ ∀ j, j < L.length → w.cell? ⟨b', j * 2, none⟩ = some (.int .i64 (M.getD j (0, 0)).1) ∧ w.cell? ⟨b', j * 2 + 1, none⟩ = some (.int .i64 (M.getD j (0, 0)).2) := by rw [hne]; exact hb
    rw [← hne]
    clear hb hne
    have hq := eqSpan
    have HQ : Hid (∀ (j : Nat) (a b : Int × Int), j < L.length → L.getD j (0, 0) = a → M.getD j (0, 0) = b → (!(a.1 == b.1 && a.2 == b.2)) = true → decide (L = M) = false) := by
      intro j a b hj h1 h2 h3
      rw [decide_eq_false_iff_not]
      intro h
      subst h
      rw [h1] at h2
      subst h2
      simp at h3
    have HF : Hid ((∀ j, j < L.length → L.getD j (0, 0) = M.getD j (0, 0)) → decide (L = M) = true) := by
      intro h
      rw [decide_eq_true_eq]
      refine List.ext_getElem HE.out fun i h1 h2 => ?_
      have := h i h1
      rw [List.getD_eq_getElem?_getD, List.getElem?_eq_getElem h1, List.getD_eq_getElem?_getD, List.getElem?_eq_getElem h2] at this
      simpa using this
    generalize decide (L = M) = r at *
    generalize hn : L.length = n at *
    go_enter Tryz.func185, Tryz.ntmps185
    go_wp2
    go_loopw [13] (fun i wr => ∃ q : Nat, q ≤ n ∧ i = .int .i64 q ∧ (∀ j, j < q → L.getD j (0, 0) = M.getD j (0, 0)) ∧ ∃ nq, wr = w.drewN nq) (fun i _ => n - (intOf i).toNat)
    case atStart => exact ⟨0, Nat.zero_le _, rfl, fun j h => absurd h (by omega), 0, rfl⟩
    case round =>
      obtain ⟨q, hq1, rfl, hrun, n0, rfl⟩ := hrel
      have HR : Hid (∀ j, j < q → L.getD j (0, 0) = M.getD j (0, 0)) := hrun
      clear hrun
      by_cases hlt : q < n
      · obtain ⟨a', rfl, ha'⟩ := ha (by omega)
        obtain ⟨b', rfl, hb''⟩ := hb' (by omega)
        obtain ⟨k1, k2⟩ := ha' q hlt
        obtain ⟨k3, k4⟩ := hb'' q hlt
        generalize hp1 : L.getD q (0, 0) = s1 at *
        generalize hp2 : M.getD q (0, 0) = s2 at *
        have HP1 : Hid (L.getD q (0, 0) = s1) := hp1
        have HP2 : Hid (M.getD q (0, 0) = s2) := hp2
        obtain ⟨f1, t1⟩ := s1
        obtain ⟨f2, t2⟩ := s2
        clear ha hb' ha' hb'' hp1 hp2
        have hqq := eqSpan f1 t1 f2 t2
        go_wp2
        go_quiet (fail)
        go_wp2
        · go_ret
          refine ⟨ret_b ?_, n0 + nq, by simp⟩
          have hh : (!f1 == f2) = true ∨ (!t1 == t2) = true := by assumption
          refine (HQ.out q _ _ hlt HP1.out HP2.out ?_).symm
          rcases hh with hh | hh <;> simp at hh <;> simp [hh]
        · have hh : (!f1 == f2) = false ∧ (!t1 == t2) = false := by assumption
          go_roundw
          case rel =>
            refine ⟨q + 1, by omega, by go_num, fun j hj => ?_, n0 + nq, rfl⟩
            by_cases e : j = q
            · subst e
              rw [HP1.out, HP2.out]
              simp at hh
              rw [hh.1, hh.2]
            · exact HR.out j (by omega)
          case measure => simp [intOf]; omega
      · clear ha hb'
        go_wp2
        go_ret
        refine ⟨ret_b (HF.out fun j hj => HR.out j (by omega)).symm, n0, rfl⟩
  · have HE : Hid (decide (L = M) = false) := by
      rw [Hid, decide_eq_false_iff_not]
      intro h
      exact hne (by rw [h])
    generalize decide (L = M) = r at *
    generalize L.length = n at *
    generalize M.length = m at *
    have hnm : ((n : Int) != (m : Int)) = true := by simp; omega
    clear ha hb
    go_enter Tryz.func185, Tryz.ntmps185
    go_wp2
    go_ret
    exact ⟨ret_b HE.out.symm, 0, rfl⟩

end Go.Proofs.YtofinpocigbbeaaGreat

namespace Go.Proofs.YtofinpocigbbeaaGreat
open Go.RowKit

theorem hide {p : Prop} (h : p) : Hid p := h

/-- The cells of bands, each with where its spans lie. -/
def bandCells (P : List ((Int × Int × List (Int × Int)) × Value)) : List Value := P.flatMap fun p => [.int .i64 p.1.1, .int .i64 p.1.2.1, p.2]

theorem bandCells_len (P : List ((Int × Int × List (Int × Int)) × Value)) : (bandCells P).length = P.length * 3 := by
  induction P with
  | nil => rfl
  | cons p P ih =>
    have : bandCells (p :: P) = .int .i64 p.1.1 :: .int .i64 p.1.2.1 :: p.2 :: bandCells P := rfl
    rw [this]; simp [ih]; omega

theorem bandCells_append (P Q : List ((Int × Int × List (Int × Int)) × Value)) : bandCells (P ++ Q) = bandCells P ++ bandCells Q := by simp [bandCells]

theorem bandCells_at (P : List ((Int × Int × List (Int × Int)) × Value)) (k : Nat) (h : k < P.length) :
    (bandCells P)[k * 3]? = some (.int .i64 P[k].1.1) ∧ (bandCells P)[k * 3 + 1]? = some (.int .i64 P[k].1.2.1) ∧ (bandCells P)[k * 3 + 2]? = some P[k].2 := by
  induction P generalizing k with
  | nil => simp at h
  | cons p P ih =>
    have e : bandCells (p :: P) = .int .i64 p.1.1 :: .int .i64 p.1.2.1 :: p.2 :: bandCells P := rfl
    cases k with
    | zero => rw [e]; simp
    | succ k =>
      have := ih k (by simpa using h)
      rw [e, show (k + 1) * 3 = k * 3 + 3 by omega]
      simpa using this

/-- A value's block, if it has one, is not below. -/
def SpB (base : Nat) (u : Value) : Prop := ∀ g, u.ownBlock = some g → base ≤ g

/-- A region that is being made: its bands are a row of the call's own, and so are their spans. -/
def OutAt (w : World) (base : Nat) (v : Value) (O : List (Int × Int × List (Int × Int))) : Prop :=
  ∃ P, P.map Prod.fst = O ∧ w.ownsRow base 192 3 v P.length (bandCells P) ∧ (∀ p ∈ P, SpansAt w p.2 p.1.2.2 ∧ SpB base p.2) ∧ (P = [] → v = .slice none 0 0)

theorem out_nil (w : World) (base : Nat) : OutAt w base (.slice none 0 0) [] :=
  ⟨[], rfl, World.ownsRow_nil _ _ _ _, fun p hp => by simp at hp, fun _ => rfl⟩

theorem add_at (g k : Nat) : (⟨g, 0, none⟩ : Addr).add k = ⟨g, k, none⟩ := by unfold Addr.add; split <;> simp_all

theorem OutAt.bands {w : World} {base : Nat} {v : Value} {O : List (Int × Int × List (Int × Int))} (h : OutAt w base v O) : BandsAt w v O := by
  obtain ⟨P, rfl, hown, hsp, hnil⟩ := h
  by_cases hP : P = []
  · subst hP; exact .inl ⟨hnil rfl, rfl⟩
  · have hpos : 0 < P.length := by cases P with
      | nil => exact absurd rfl hP
      | cons a P => simp
    obtain ⟨g, cap, rfl, _, _⟩ := hown.form hpos
    refine .inr ⟨g, cap, by simp, by simpa using hP, fun k hk => ?_⟩
    have hk' : k < P.length := by simpa using hk
    obtain ⟨c1, c2, c3⟩ := bandCells_at P k hk'
    have cs := hown.cells (g := g) rfl
    refine ⟨?_, ?_, P[k].2, ?_, ?_⟩
    · rw [← add_at]; simpa using cs _ _ c1
    · rw [← add_at]; simpa using cs _ _ c2
    · rw [← add_at]; simpa using cs _ _ c3
    · simpa using (hsp P[k] (List.getElem_mem hk')).1

/-- What stands if the spans and the row's own block do. -/
theorem OutAt.kept {w w' : World} {base : Nat} {v : Value} {O : List (Int × Int × List (Int × Int))} (h : OutAt w base v O) (hk : ∀ b, b < w.heap.size → base ≤ b ∨ True → w'.heap[b]? = w.heap[b]?) : OutAt w' base v O := by
  obtain ⟨P, hP, hown, hsp, hnil⟩ := h
  refine ⟨P, hP, ?_, fun p hp => ⟨(hsp p hp).1.kept fun b cur e => hk b (block_lt e) (.inr trivial), (hsp p hp).2⟩, hnil⟩
  obtain ⟨h1, h2⟩ := hown
  refine ⟨h1, ?_⟩
  rcases h2 with h2 | ⟨g, cap, cur, a1, a2, a3, a4⟩
  · exact .inl h2
  · exact .inr ⟨g, cap, cur, a1, a2, (hk g (block_lt a3) (.inr trivial)).trans a3, a4⟩

end Go.Proofs.YtofinpocigbbeaaGreat
