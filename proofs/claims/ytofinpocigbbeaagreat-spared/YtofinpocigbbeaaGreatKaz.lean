import Derived.Test.YtofinpocigbbeaaGreatKar
import Derived.Deep.RegionHeld3
namespace Go.Proofs.YtofinpocigbbeaaGreat
open Go.RowKit
attribute [local go_sem ↓] Go.wp_at_zero Go.wp_at_succ

/-! ### What is seen -/

set_option maxRecDepth 100000 in
set_option maxHeartbeats 1000000 in
/-- region.Meet -/
theorem meetP_any (p q : R4) (w : World) : Calls Tryz.prog 173 #[.agg (r4C p), .agg (r4C q)] w fun e w' => e = .returned (.agg (r4C (meet p q))) ∧ ∃ o1 o2 o3, w' = ((w.alloc o1).alloc o2).alloc o3 := by
  unfold r4C meet
  go_enter Tryz.func173, Tryz.ntmps173
  go_wp2
  all_goals exact bodyPost_ret (v := .agg #[.int .i64 (max p.1 q.1), .int .i64 (max p.2.1 q.2.1), .int .i64 (min p.2.2.1 q.2.2.1), .int .i64 (min p.2.2.2 q.2.2.2)]) (by simp [results, Tryz.results173, go_sem]; omega) rfl ⟨rfl, _, _, _, rfl⟩

set_option maxRecDepth 100000 in
set_option maxHeartbeats 1000000 in
/-- region.Move -/
theorem moveP_any (r : R4) (x y : Int) (w : World) (h0 : -100000 ≤ r.1 ∧ r.1 ≤ 100000) (h1 : -100000 ≤ r.2.1 ∧ r.2.1 ≤ 100000) (h2 : -100000 ≤ r.2.2.1 ∧ r.2.2.1 ≤ 100000) (h3 : -100000 ≤ r.2.2.2 ∧ r.2.2.2 ≤ 100000) (hx : -100000 ≤ x ∧ x ≤ 100000) (hy : -100000 ≤ y ∧ y ≤ 100000) :
    Calls Tryz.prog 190 #[.agg (r4C r), .int .i64 x, .int .i64 y] w fun e w' => e = .returned (.agg (r4C (mv r x y))) ∧ ∃ o1 o2, w' = (w.alloc o1).alloc o2 := by
  unfold r4C mv
  go_enter Tryz.func190, Tryz.ntmps190
  go_wp2
  all_goals exact bodyPost_ret (v := .agg #[.int .i64 (r.1 + x), .int .i64 (r.2.1 + y), .int .i64 (r.2.2.1 + x), .int .i64 (r.2.2.2 + y)]) (by simp [results, Tryz.results190, go_sem]) rfl ⟨rfl, _, _, rfl⟩

set_option maxRecDepth 100000 in
set_option maxHeartbeats 1000000 in
/-- region.HasPoints -/
theorem hasPoints_any (r : R4) (w : World) : Calls Tryz.prog 119 #[.agg (r4C r)] w fun e w' => e = .returned (.bool (has4 r)) ∧ ∃ o1, w' = w.alloc o1 := by
  unfold r4C has4
  go_enter Tryz.func119, Tryz.ntmps119
  go_wp2
  all_goals
    go_ret
    refine ⟨ret_b ?_, _, rfl⟩
    first
      | (simp_all; done)
      | (simp_all; omega)

set_option maxRecDepth 100000 in
set_option maxHeartbeats 1000000 in
theorem width_any (a b : Int) (v : Value) (w : World) : Calls Tryz.prog 157 #[.agg #[.int .i64 a, .int .i64 b, v]] w fun e w' => e = .returned (.int .i64 a) ∧ w' = w.alloc (.cells #[.int .i64 a, .int .i64 b, v] 122) := by
  go_enter Tryz.func157, Tryz.ntmps157
  go_wp2
  go_ret
  exact ⟨rfl, rfl⟩

set_option maxRecDepth 100000 in
set_option maxHeartbeats 1000000 in
theorem height_any (a b : Int) (v : Value) (w : World) : Calls Tryz.prog 158 #[.agg #[.int .i64 a, .int .i64 b, v]] w fun e w' => e = .returned (.int .i64 b) ∧ w' = w.alloc (.cells #[.int .i64 a, .int .i64 b, v] 122) := by
  go_enter Tryz.func158, Tryz.ntmps158
  go_wp2
  go_ret
  exact ⟨rfl, rfl⟩

end Go.Proofs.YtofinpocigbbeaaGreat
