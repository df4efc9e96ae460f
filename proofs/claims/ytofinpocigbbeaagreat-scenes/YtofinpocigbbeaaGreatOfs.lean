import Derived.Test.YtofinpocigbbeaaGreatCmb
namespace Go.Proofs.YtofinpocigbbeaaGreat
open Go.RowKit
attribute [local go_sem ↓] Go.wp_at_zero Go.wp_at_succ

/-! ### Rectangles: X0, Y0, X1, Y1 -/

/-- A list of rectangles in memory. -/
def RectsAt (w : World) (v : Value) (l : List (Int × Int × Int × Int)) : Prop :=
  ∃ a c, v = .slice a l.length c ∧ (0 < l.length → ∃ b off, a = some ⟨b, off, none⟩ ∧ ∀ k (h : k < l.length), w.cell? ⟨b, off + k * 4, none⟩ = some (.int .i64 l[k].1) ∧ w.cell? ⟨b, off + k * 4 + 1, none⟩ = some (.int .i64 l[k].2.1) ∧ w.cell? ⟨b, off + k * 4 + 2, none⟩ = some (.int .i64 l[k].2.2.1) ∧ w.cell? ⟨b, off + k * 4 + 3, none⟩ = some (.int .i64 l[k].2.2.2))

theorem RectsAt.below {w w' : World} {v : Value} {l : List (Int × Int × Int × Int)} (h : RectsAt w v l) (hb : Below w.heap.size w w') : RectsAt w' v l := by
  obtain ⟨a, c, hv, hc⟩ := h
  refine ⟨a, c, hv, fun hl => ?_⟩
  obtain ⟨b, off, ha, hcs⟩ := hc hl
  refine ⟨b, off, ha, fun k hk => ?_⟩
  obtain ⟨h1, h2, h3, h4⟩ := hcs k hk
  have hlt := cell_lt h1
  exact ⟨(hb.cell hlt).trans h1, (hb.cell hlt).trans h2, (hb.cell hlt).trans h3, (hb.cell hlt).trans h4⟩

def fitR (r : Int × Int × Int × Int) : Bool := decide (-2000 ≤ r.1 ∧ r.1 ≤ r.2.2.1 ∧ r.2.2.1 ≤ 2000 ∧ -2000 ≤ r.2.1 ∧ r.2.1 ≤ r.2.2.2 ∧ r.2.2.2 ≤ 2000)

def inR (r : Int × Int × Int × Int) (x y : Int) : Bool := decide (r.1 ≤ x ∧ x < r.2.2.1 ∧ r.2.1 ≤ y ∧ y < r.2.2.2)
def hasB (l : List (Int × Int × Int × Int)) (x y : Int) : Bool := l.any fun r => inR r x y

set_option maxHeartbeats 400000 in
theorem mayBeR_any (a b c d : Int) (w : World) :
    Calls Tryz.prog 68 #[.agg #[.int .i64 a, .int .i64 b, .int .i64 c, .int .i64 d]] w fun e w' => e = .returned (.bool (fitR (a, b, c, d))) ∧ w' = w.alloc (.cells #[.int .i64 a, .int .i64 b, .int .i64 c, .int .i64 d] 53) := by
  go_enter Tryz.func68, Tryz.ntmps68
  go_wp2
  all_goals
    go_ret
    refine ⟨ret_b ?_, rfl⟩
    unfold fitR
    rw [Bool.eq_iff_iff]
    try rw [decide_eq_true_eq]
    try rw [decide_eq_true_eq]
    simp only [Bool.false_eq_true, false_iff, *]
    try simp
    try omega

/-- A rectangle's points, as a region. -/
def oneB (r : Int × Int × Int × Int) : List (Int × Int × List (Int × Int)) := if r.1 < r.2.2.1 ∧ r.2.1 < r.2.2.2 then [(r.2.1, r.2.2.2, [(r.1, r.2.2.1)])] else []

theorem oneB_good (r : Int × Int × Int × Int) (h : fitR r = true) : Good (oneB r) := by
  unfold fitR at h
  simp only [decide_eq_true_eq] at h
  unfold oneB
  split
  · rename_i hc
    refine ⟨?_, ?_, ?_, ?_, ?_⟩
    · rw [levels_cons, levels_nil]; simp; omega
    · intro b hb; simp at hb; subst hb; exact hc.2
    · intro e he
      rw [levels_cons, levels_nil] at he
      simp at he
      rcases he with he | he <;> subst he <;> omega
    · intro b hb
      simp at hb
      subst hb
      refine ⟨⟨?_, ?_⟩, by simp⟩
      · rw [edges_cons, edges_nil]; simp; omega
      · intro e he
        rw [edges_cons, edges_nil] at he
        simp at he
        rcases he with he | he <;> subst he <;> omega
    · intro k hk; simp at hk
  · exact good_nil

theorem oneB_mem (r : Int × Int × Int × Int) (x y : Int) : memR (oneB r) x y = inR r x y := by
  unfold oneB inR
  split
  · unfold memR memS
    simp
    rw [Bool.eq_iff_iff]
    simp
    omega
  · rename_i h
    unfold memR
    symm
    simp
    omega

theorem five_blocks (w : World) (o1 o2 o3 o4 o5 : Obj) : (((((w.alloc o1).alloc o2).alloc o3).alloc o4).alloc o5).heap[w.heap.size + 1 + 1 + 1]? = some o4 ∧ (((((w.alloc o1).alloc o2).alloc o3).alloc o4).alloc o5).heap[w.heap.size + 1 + 1 + 1 + 1]? = some o5 := by
  have n3 := heap_alloc_new (((w.alloc o1).alloc o2).alloc o3) o4
  have n4 := heap_alloc_new ((((w.alloc o1).alloc o2).alloc o3).alloc o4) o5
  rw [show (((w.alloc o1).alloc o2).alloc o3).heap.size = w.heap.size + 1 + 1 + 1 by simp] at n3
  rw [show ((((w.alloc o1).alloc o2).alloc o3).alloc o4).heap.size = w.heap.size + 1 + 1 + 1 + 1 by simp] at n4
  exact ⟨(heap_old _ _ _ (by simp)).trans n3, n4⟩

theorem four_blocks (w : World) (o1 o2 o3 o4 : Obj) : ((((w.alloc o1).alloc o2).alloc o3).alloc o4).heap[w.heap.size + 1 + 1]? = some o3 ∧ ((((w.alloc o1).alloc o2).alloc o3).alloc o4).heap[w.heap.size + 1 + 1 + 1]? = some o4 := by
  have n3 := heap_alloc_new ((w.alloc o1).alloc o2) o3
  have n4 := heap_alloc_new (((w.alloc o1).alloc o2).alloc o3) o4
  rw [show ((w.alloc o1).alloc o2).heap.size = w.heap.size + 1 + 1 by simp] at n3
  rw [show (((w.alloc o1).alloc o2).alloc o3).heap.size = w.heap.size + 1 + 1 + 1 by simp] at n4
  exact ⟨(heap_old _ _ _ (by simp)).trans n3, n4⟩

set_option maxHeartbeats 1000000 in
theorem one_any (a b c d : Int) (w : World) :
    Calls Tryz.prog 114 #[.agg #[.int .i64 a, .int .i64 b, .int .i64 c, .int .i64 d]] w fun e w' => ∃ v, e = .returned (.agg #[v]) ∧ BandsAt w' v (oneB (a, b, c, d)) ∧ Below w.heap.size w w' := by
  by_cases h : a < c ∧ b < d
  · obtain ⟨h1, h2⟩ := h
    have hO : Hid (oneB (a, b, c, d) = [(b, d, [(a, c)])]) := by rw [Hid]; unfold oneB; rw [if_pos ⟨h1, h2⟩]
    go_enter Tryz.func114, Tryz.ntmps114
    go_wp2
    refine bodyPost_ret (v := .agg #[.slice (some ⟨w.heap.size + 1 + 1 + 1 + 1, 0, none⟩) 1 1]) (by simp [results, Tryz.results114, go_sem]) rfl ⟨_, rfl, ?_, ?_⟩
    · rw [hO.out]
      refine .inr ⟨w.heap.size + 1 + 1 + 1 + 1, 1, rfl, by simp, fun k hk => ?_⟩
      have hk0 : k = 0 := by simpa using hk
      subst hk0
      obtain ⟨f3, f4⟩ := five_blocks w (.cells #[.int .i64 a, .int .i64 b, .int .i64 c, .int .i64 d] 53) (.cells #[.slice (some ⟨w.heap.size + 1 + 1 + 1 + 1, 0, none⟩) 1 1] 136) (.cells #[.int .i64 a, .int .i64 b, .int .i64 c, .int .i64 d] 53) (.cells #[.int .i64 a, .int .i64 c] 194) (.cells #[.int .i64 b, .int .i64 d, .slice (some ⟨w.heap.size + 1 + 1 + 1, 0, none⟩) 1 1] 192)
      refine ⟨cell_of_row _ _ 0 _ _ _ f4, cell_of_row _ _ 1 _ _ _ f4, .slice (some ⟨w.heap.size + 1 + 1 + 1, 0, none⟩) 1 1, cell_of_row _ _ 2 _ _ _ f4, .inr ⟨w.heap.size + 1 + 1 + 1, 1, #[.int .i64 a, .int .i64 c], rfl, by simp, ?_, fun j hj => ?_⟩⟩
      · exact f3
      · have hj2 : j = 0 ∨ j = 1 := by simp at hj; omega
        rcases hj2 with rfl | rfl <;> rfl
    · repeat (first | exact Below.refl _ _ | refine Below.setCell ?_ (by simp <;> omega) _ | refine Below.alloc ?_ (by simp <;> omega) _)
  · have hO : Hid (oneB (a, b, c, d) = []) := by rw [Hid]; unfold oneB; rw [if_neg h]
    by_cases h1 : a < c
    · have h2 : ¬ b < d := fun h2 => h ⟨h1, h2⟩
      clear h
      go_enter Tryz.func114, Tryz.ntmps114
      go_wp2
      refine bodyPost_ret (v := .agg #[.slice none 0 0]) (by simp [results, Tryz.results114, go_sem]) rfl ⟨_, rfl, .inl ⟨rfl, hO.out⟩, ?_⟩
      repeat (first | exact Below.refl _ _ | refine Below.setCell ?_ (by simp <;> omega) _ | refine Below.alloc ?_ (by simp <;> omega) _)
    · clear h
      go_enter Tryz.func114, Tryz.ntmps114
      go_wp2
      refine bodyPost_ret (v := .agg #[.slice none 0 0]) (by simp [results, Tryz.results114, go_sem]) rfl ⟨_, rfl, .inl ⟨rfl, hO.out⟩, ?_⟩
      repeat (first | exact Below.refl _ _ | refine Below.setCell ?_ (by simp <;> omega) _ | refine Below.alloc ?_ (by simp <;> omega) _)

end Go.Proofs.YtofinpocigbbeaaGreat
