import Derived.Test.YtofinpocigbbeaaGreatRefA
namespace Go.Proofs.YtofinpocigbbeaaGreat
open Go.RowKit
attribute [local go_sem ↓] Go.wp_at_zero Go.wp_at_succ

set_option maxRecDepth 100000 in
set_option maxHeartbeats 4000000 in
theorem shared_any (a b c d e f g h : Int) (w : World) :
    Calls Tryz.prog 180 #[.agg #[.int .i64 a, .int .i64 b, .int .i64 c, .int .i64 d], .agg #[.int .i64 e, .int .i64 f, .int .i64 g, .int .i64 h]] w fun en w' => en = .returned (.agg #[.int .i64 (nrm (meet (a, b, c, d) (e, f, g, h))).1, .int .i64 (nrm (meet (a, b, c, d) (e, f, g, h))).2.1, .int .i64 (nrm (meet (a, b, c, d) (e, f, g, h))).2.2.1, .int .i64 (nrm (meet (a, b, c, d) (e, f, g, h))).2.2.2]) ∧ ∃ o1 o2 o3, w' = ((w.alloc o1).alloc o2).alloc o3 := by
  have HS : Hid (∀ x0 y0 x1 y1 : Int, x0 = max a e → y0 = max b f → x1 = min c g → y1 = min d h → x0 < x1 → y0 < y1 → nrm (meet (a, b, c, d) (e, f, g, h)) = (x0, y0, x1, y1)) := fun _ _ _ _ q0 q1 q2 q3 => shared_some q0 q1 q2 q3
  have HN : Hid (∀ x0 y0 x1 y1 : Int, x0 = max a e → y0 = max b f → x1 = min c g → y1 = min d h → x1 ≤ x0 ∨ y1 ≤ y0 → nrm (meet (a, b, c, d) (e, f, g, h)) = (0, 0, 0, 0)) := fun _ _ _ _ q0 q1 q2 q3 => shared_none q0 q1 q2 q3
  generalize nrm (meet (a, b, c, d) (e, f, g, h)) = p at *
  go_enter Tryz.func180, Tryz.ntmps180
  go_wp2
  all_goals
    go_returns
    first
      | exact ⟨ret_rect (HS.out _ _ _ _ (by omega) (by omega) (by omega) (by omega) (by omega) (by omega)), _, _, _, rfl⟩
      | exact ⟨ret_rect (HN.out (max a e) (max b f) (min c g) (min d h) rfl rfl rfl rfl (by omega)), _, _, _, rfl⟩

end Go.Proofs.YtofinpocigbbeaaGreat
