import Derived.Test.YtofinpocigbbeaaGreatRows
import Derived.WalkKit
import Derived.WalkSpells
import Derived.WalkLawsBesides
import Derived.RegionTactic
import Derived.BigRegion
namespace Go.Proofs.YtofinpocigbbeaaGreat
open Go.RowKit

/-- May a pixel be? -/
def fitB (a b c d : Int) : Bool := decide (a ≤ d ∧ b ≤ d ∧ c ≤ d)

theorem ret_bool {a b : Bool} (h : a = b) : Ending.returned (.bool a) = .returned (.bool b) := by rw [h]

set_option maxHeartbeats 400000 in
theorem mayBe_any (a b c d : Int) (w : World) :
    Calls Tryz.prog 101 #[.agg #[.int .u8 a, .int .u8 b, .int .u8 c, .int .u8 d]] w fun e w' =>
      e = .returned (.bool (fitB a b c d)) ∧ w' = w.alloc (.cells #[.int .u8 a, .int .u8 b, .int .u8 c, .int .u8 d] 51) := by
  go_enter Tryz.func101, Tryz.ntmps101
  go_wp2
  all_goals
    go_ret
    refine ⟨ret_bool ?_, rfl⟩
    unfold fitB
    rw [decide_eq_decide]
    omega

set_option maxHeartbeats 400000 in
theorem fits_any (a b c d : Int) (w : World) :
    Calls Tryz.prog 177 #[.agg #[.int .u8 a, .int .u8 b, .int .u8 c, .int .u8 d]] w fun e w' =>
      e = .returned (.bool (fitB a b c d)) ∧ w' = w.alloc (.cells #[.int .u8 a, .int .u8 b, .int .u8 c, .int .u8 d] 51) := by
  go_enter Tryz.func177, Tryz.ntmps177
  go_wp2
  all_goals
    go_ret
    refine ⟨ret_bool ?_, rfl⟩
    unfold fitB
    rw [Bool.eq_iff_iff]
    try rw [decide_eq_true_eq]
    try rw [decide_eq_true_eq]
    simp only [Bool.false_eq_true, false_iff, *]
    try simp
    try omega

/-- One of the four of a pixel s over a pixel d: 'a' is the alpha of s. -/
def mix (s d a : Int) : Int := (s + (d * (255 - a) + 127) / 255) % 256

theorem mul_bd (e d : Int) (he : 0 ≤ e ∧ e ≤ 255) (hd : 0 ≤ d ∧ d ≤ 255) : 0 ≤ e * (255 - d) ∧ e * (255 - d) ≤ 65025 := by
  refine ⟨Int.mul_nonneg he.1 (by omega), ?_⟩
  have h1 : e * (255 - d) ≤ 255 * (255 - d) := Int.mul_le_mul_of_nonneg_right he.2 (by omega)
  omega

set_option maxHeartbeats 1000000 in
theorem over_any (a b c d e f g h : Int) (w : World) (hd : 0 ≤ d ∧ d ≤ 255) (he : 0 ≤ e ∧ e ≤ 255) (hf : 0 ≤ f ∧ f ≤ 255) (hg : 0 ≤ g ∧ g ≤ 255) (hh : 0 ≤ h ∧ h ≤ 255) :
    Calls Tryz.prog 171 #[.agg #[.int .u8 a, .int .u8 b, .int .u8 c, .int .u8 d], .agg #[.int .u8 e, .int .u8 f, .int .u8 g, .int .u8 h]] w fun x w' =>
      x = .returned (.agg #[.int .u8 (mix a e d), .int .u8 (mix b f d), .int .u8 (mix c g d), .int .u8 (mix d h d)]) ∧ Below w.heap.size w w' := by
  have m0 := mul_bd e d he hd
  have m1 := mul_bd f d hf hd
  have m2 := mul_bd g d hg hd
  have m3 := mul_bd h d hh hd
  go_enter Tryz.func171, Tryz.ntmps171
  go_wp2
  refine wp_loop_rounds 5 ?_
  rw [rounds_succ]
  go_wp2
  go_region
  go_wp2
  rw [rounds_succ]
  go_wp2
  go_region
  go_wp2
  rw [rounds_succ]
  go_wp2
  go_region
  go_wp2
  rw [rounds_succ]
  go_wp2
  go_region
  go_wp2
  rw [rounds_succ]
  go_wp2
  refine bodyPost_ret (v := .agg #[.int .u8 (mix a e d), .int .u8 (mix b f d), .int .u8 (mix c g d), .int .u8 (mix d h d)]) (by simp [results, Tryz.results171, go_sem, mix]) rfl ⟨rfl, ?_⟩
  repeat (first | exact Below.refl _ _ | refine Below.drew ?_ | refine Below.setCell ?_ (by simp) _ | refine Below.alloc ?_ (by simp <;> omega) _)

set_option maxHeartbeats 1000000 in
theorem laid_any (a b c d e f g h : Int) (w : World) (ha : 0 ≤ a ∧ a ≤ 255) (hb : 0 ≤ b ∧ b ≤ 255) (hc : 0 ≤ c ∧ c ≤ 255) (hd : 0 ≤ d ∧ d ≤ 255) (he : 0 ≤ e ∧ e ≤ 255) (hf : 0 ≤ f ∧ f ≤ 255) (hg : 0 ≤ g ∧ g ≤ 255) (hh : 0 ≤ h ∧ h ≤ 255) :
    Calls Tryz.prog 178 #[.agg #[.int .u8 a, .int .u8 b, .int .u8 c, .int .u8 d], .agg #[.int .u8 e, .int .u8 f, .int .u8 g, .int .u8 h]] w fun x w' =>
      x = .returned (.agg #[.int .u8 (mix a e d), .int .u8 (mix b f d), .int .u8 (mix c g d), .int .u8 (mix d h d)]) ∧ Below w.heap.size w w' := by
  have m0 := mul_bd e d he hd
  have m1 := mul_bd f d hf hd
  have m2 := mul_bd g d hg hd
  have m3 := mul_bd h d hh hd
  go_enter Tryz.func178, Tryz.ntmps178
  go_wp2
  refine wp_loop_rounds 5 ?_
  rw [rounds_succ]
  go_wp2
  go_region
  go_wp2
  rw [rounds_succ]
  go_wp2
  go_region
  go_wp2
  rw [rounds_succ]
  go_wp2
  go_region
  go_wp2
  rw [rounds_succ]
  go_wp2
  go_region
  go_wp2
  rw [rounds_succ]
  go_wp2
  refine bodyPost_ret (v := .agg #[.int .u8 (mix a e d), .int .u8 (mix b f d), .int .u8 (mix c g d), .int .u8 (mix d h d)]) (by simp [results, Tryz.results178, go_sem, mix]) rfl ⟨rfl, ?_⟩
  repeat (first | exact Below.refl _ _ | refine Below.drew ?_ | refine Below.setCell ?_ (by simp) _ | refine Below.alloc ?_ (by simp <;> omega) _)


theorem bcell {W w1 : World} (hb : Below W.heap.size W w1) : (∀ b o, b < W.heap.size → w1.cell? ⟨b, o, none⟩ = W.cell? ⟨b, o, none⟩) ∧ (∀ b o, b < W.heap.size → w1.frozen? ⟨b, o, none⟩ = W.frozen? ⟨b, o, none⟩) :=
  ⟨fun b o h => hb.cell (p := ⟨b, o, none⟩) h, fun b o h => hb.frozen (p := ⟨b, o, none⟩) h⟩

end Go.Proofs.YtofinpocigbbeaaGreat
