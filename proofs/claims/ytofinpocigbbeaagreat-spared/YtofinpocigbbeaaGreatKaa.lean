import Derived.Test.YtofinpocigbbeaaGreatRows
import Derived.WalkKit
import Derived.WalkSpells
import Derived.WalkLawsBesides
import Derived.RegionTactic
import Derived.BigRegion
namespace Go.Proofs.YtofinpocigbbeaaGreat
open Go.RowKit

/-- Which of n things a raw number speaks of. -/
def pickI (c n : Int) : Int := (if c < 0 then -(c + 1) else c) % n

theorem pick_bd (c n : Int) (hn : 0 < n) : 0 ≤ pickI c n ∧ pickI c n < n := ⟨Int.emod_nonneg _ (by omega), Int.emod_lt_of_pos _ hn⟩

theorem ret_i64 {a b : Int} (h : a = b) : Ending.returned (.int .i64 a) = .returned (.int .i64 b) := by rw [h]

set_option maxHeartbeats 400000 in
theorem pick_any (c n : Int) (w : World) (h0 : -9223372036854775808 ≤ c) (h1 : c ≤ 9223372036854775807) (hn : 0 < n) (hn2 : n ≤ 1099511627776) :
    Calls Tryz.prog 15 #[.int .i64 c, .int .i64 n] w fun e w' => e = .returned (.int .i64 (pickI c n)) ∧ w' = w := by
  by_cases hc : c < 0
  · have hc1 : c + 1 ≤ 0 := by omega
    have hc2 : -9223372036854775807 ≤ c + 1 := by omega
    clear h0
    go_enter Tryz.func15, Tryz.ntmps15
    go_wp2
    go_ret
    refine ⟨ret_i64 ?_, rfl⟩
    unfold pickI
    rw [if_pos hc, ← Int.neg_tmod, Int.tmod_eq_emod_of_nonneg (by omega)]
  · have hc' : 0 ≤ c := by omega
    go_enter Tryz.func15, Tryz.ntmps15
    go_wp2
    go_ret
    refine ⟨ret_i64 ?_, rfl⟩
    unfold pickI
    rw [if_neg (by omega)]

theorem mod_bd (x m : Int) (h0 : 0 ≤ m) (h1 : m ≤ 255) : 0 ≤ x % (m + 1) % 256 ∧ x % (m + 1) % 256 ≤ m := by
  have a := Int.emod_nonneg x (show m + 1 ≠ 0 by omega)
  have b := Int.emod_lt_of_pos x (show 0 < m + 1 by omega)
  rw [Int.emod_eq_of_lt a (by omega)]
  omega

set_option maxHeartbeats 1000000 in
theorem pixel_any (r : Int) (w : World) (h0 : -9223372036854775808 ≤ r) (h1 : r ≤ 9223372036854775807)  :
    Calls Tryz.prog 67 #[.int .i64 r] w fun x w' => ∃ a b c d : Int, x = .returned (.agg #[.int .u8 a, .int .u8 b, .int .u8 c, .int .u8 d]) ∧ (0 ≤ a ∧ a ≤ d) ∧ (0 ≤ b ∧ b ≤ d) ∧ (0 ≤ c ∧ c ≤ d) ∧ d ≤ 255 ∧ Below w.heap.size w w' := by
  have hp := pick_bd r 1099511627776 (by omega)
  generalize hv : pickI r 1099511627776 = v at hp
  have HV : Hid (pickI r 1099511627776 = v) := hv
  clear hv
  have hcon : ∀ w, Calls Tryz.prog 15 #[.int .i64 r, .int .i64 1099511627776] w fun e w' => e = .returned (.int .i64 v) ∧ w' = w := by
    intro w
    have := pick_any r 1099511627776 w h0 h1 (by omega) (by omega)
    rw [HV.out] at this
    exact this
  clear h0 h1
  obtain ⟨hp0, hp1⟩ := hp
  have h6 : v % 6 = 0 ∨ v % 6 = 1 ∨ v % 6 = 2 ∨ v % 6 = 3 ∨ v % 6 = 4 ∨ v % 6 = 5 := by omega
  rcases h6 with h6 | h6 | h6 | h6 | h6 | h6
  · go_enter Tryz.func67, Tryz.ntmps67
    go_wp2_with (go_at_call 15; refine (hcon _).mono ?_; rintro x w' ⟨rfl, rfl⟩)
    go_region
    go_wp2
    refine bodyPost_ret (v := .agg #[.int .u8 (0), .int .u8 (0), .int .u8 (0), .int .u8 (0)]) (by simp [results, Tryz.results67, go_sem]) rfl ⟨_, _, _, _, rfl, ⟨by omega, by omega⟩, ⟨by omega, by omega⟩, ⟨by omega, by omega⟩, by omega, ?_⟩
    repeat (first | exact Below.refl _ _ | refine Below.drew ?_ | refine Below.alloc ?_ (by simp <;> omega) _)
  · go_enter Tryz.func67, Tryz.ntmps67
    go_wp2_with (go_at_call 15; refine (hcon _).mono ?_; rintro x w' ⟨rfl, rfl⟩)
    go_region
    go_wp2
    refine bodyPost_ret (v := .agg #[.int .u8 (v / 4096 % 256), .int .u8 (v / 65536 % 256), .int .u8 (v / 1048576 % 256), .int .u8 (255)]) (by simp [results, Tryz.results67, go_sem]) rfl ⟨_, _, _, _, rfl, ⟨by omega, by omega⟩, ⟨by omega, by omega⟩, ⟨by omega, by omega⟩, by omega, ?_⟩
    repeat (first | exact Below.refl _ _ | refine Below.drew ?_ | refine Below.alloc ?_ (by simp <;> omega) _)
  · go_enter Tryz.func67, Tryz.ntmps67
    go_wp2_with (go_at_call 15; refine (hcon _).mono ?_; rintro x w' ⟨rfl, rfl⟩)
    go_region
    go_wp2
    refine bodyPost_ret (v := .agg #[.int .u8 (v / 4096 % 256), .int .u8 (v / 65536 % 256), .int .u8 (v / 1048576 % 256), .int .u8 (255)]) (by simp [results, Tryz.results67, go_sem]) rfl ⟨_, _, _, _, rfl, ⟨by omega, by omega⟩, ⟨by omega, by omega⟩, ⟨by omega, by omega⟩, by omega, ?_⟩
    repeat (first | exact Below.refl _ _ | refine Below.drew ?_ | refine Below.alloc ?_ (by simp <;> omega) _)
  · go_enter Tryz.func67, Tryz.ntmps67
    go_wp2_with (go_at_call 15; refine (hcon _).mono ?_; rintro x w' ⟨rfl, rfl⟩)
    go_region
    go_wp2
    refine bodyPost_ret (v := .agg #[.int .u8 (v / 4096 % 2), .int .u8 (v / 65536 % 2), .int .u8 (v / 1048576 % 2), .int .u8 (1)]) (by simp [results, Tryz.results67, go_sem]) rfl ⟨_, _, _, _, rfl, ⟨by omega, by omega⟩, ⟨by omega, by omega⟩, ⟨by omega, by omega⟩, by omega, ?_⟩
    repeat (first | exact Below.refl _ _ | refine Below.drew ?_ | refine Below.alloc ?_ (by simp <;> omega) _)
  · go_enter Tryz.func67, Tryz.ntmps67
    go_wp2_with (go_at_call 15; refine (hcon _).mono ?_; rintro x w' ⟨rfl, rfl⟩)
    go_region
    go_wp2
    refine bodyPost_ret (v := .agg #[.int .u8 (v / 4096 % 129), .int .u8 (v / 65536 % 129), .int .u8 (v / 1048576 % 129), .int .u8 (128)]) (by simp [results, Tryz.results67, go_sem]) rfl ⟨_, _, _, _, rfl, ⟨by omega, by omega⟩, ⟨by omega, by omega⟩, ⟨by omega, by omega⟩, by omega, ?_⟩
    repeat (first | exact Below.refl _ _ | refine Below.drew ?_ | refine Below.alloc ?_ (by simp <;> omega) _)
  · go_enter Tryz.func67, Tryz.ntmps67
    go_wp2_with (go_at_call 15; refine (hcon _).mono ?_; rintro x w' ⟨rfl, rfl⟩)
    go_region
    go_wp2
    refine bodyPost_ret (v := .agg #[.int .u8 (v / 4096 % (v / 16 % 256 + 1) % 256), .int .u8 (v / 65536 % (v / 16 % 256 + 1) % 256), .int .u8 (v / 1048576 % (v / 16 % 256 + 1) % 256), .int .u8 (v / 16 % 256)]) (by simp [results, Tryz.results67, go_sem]) rfl ⟨_, _, _, _, rfl, mod_bd _ _ (by omega) (by omega), mod_bd _ _ (by omega) (by omega), mod_bd _ _ (by omega) (by omega), by omega, ?_⟩
    repeat (first | exact Below.refl _ _ | refine Below.drew ?_ | refine Below.alloc ?_ (by simp <;> omega) _)

end Go.Proofs.YtofinpocigbbeaaGreat
