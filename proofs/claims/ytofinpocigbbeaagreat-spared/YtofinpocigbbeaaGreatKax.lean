import Derived.Test.YtofinpocigbbeaaGreatKak
import Derived.Test.YtofinpocigbbeaaGreatKav
namespace Go.Proofs.YtofinpocigbbeaaGreat
open Go.RowKit

set_option maxHeartbeats 1000000 in
theorem povers_yes (a b c d e f g h : Int) (w : World) (hd : 0 ≤ d ∧ d ≤ 255) (he : 0 ≤ e ∧ e ≤ 255) (hf : 0 ≤ f ∧ f ≤ 255) (hg : 0 ≤ g ∧ g ≤ 255) (hh : 0 ≤ h ∧ h ≤ 255) (h1 : fitB a b c d = true) (h2 : fitB e f g h = true) :
    Calls Tryz.prog 125 #[.agg #[.int .u8 a, .int .u8 b, .int .u8 c, .int .u8 d], .agg #[.int .u8 e, .int .u8 f, .int .u8 g, .int .u8 h]] w fun x w' =>
      x = .returned (.tuple #[.agg #[.int .u8 (mix a e d), .int .u8 (mix b f d), .int .u8 (mix c g d), .int .u8 (mix d h d)], .int .i64 0]) ∧ Below w.heap.size w w' := by
  go_enter Tryz.func125, Tryz.ntmps125
  go_wp2_with (first
    | (go_at_call 101; refine (mayBe_any _ _ _ _ _).mono ?_; rintro x w' ⟨rfl, rfl⟩)
    | (go_at_call 171; refine (over_any a b c d e f g h _ hd he hf hg hh).mono ?_; rintro x w1 ⟨rfl, hbl⟩; obtain ⟨hcl, hfl⟩ := bcell hbl; have hz : w.heap.size + 2 < w1.heap.size := (by have := hbl.size; simp at this; omega)))
  refine bodyPost_ret (v := .tuple #[.agg #[.int .u8 (mix a e d), .int .u8 (mix b f d), .int .u8 (mix c g d), .int .u8 (mix d h d)], .int .i64 0]) (by simp [results, Tryz.results125, go_sem, hcl]) rfl ⟨rfl, ?_⟩
  repeat (first | refine Below.setCell ?_ (by simp <;> omega) _)
  refine Below.trans ?_ (hbl.mono (by simp; try omega))
  repeat (first | exact Below.refl _ _ | refine Below.drew ?_ | refine Below.setCell ?_ (by simp <;> omega) _ | refine Below.alloc ?_ (by simp <;> omega) _)

set_option maxHeartbeats 1000000 in
theorem povers_no1 (a b c d e f g h : Int) (w : World) (h1 : fitB a b c d = false) :
    Calls Tryz.prog 125 #[.agg #[.int .u8 a, .int .u8 b, .int .u8 c, .int .u8 d], .agg #[.int .u8 e, .int .u8 f, .int .u8 g, .int .u8 h]] w fun x w' =>
      x = .returned (.tuple #[.agg #[.int .u8 0, .int .u8 0, .int .u8 0, .int .u8 0], .int .i64 4]) ∧ Below w.heap.size w w' := by
  go_enter Tryz.func125, Tryz.ntmps125
  go_wp2_with (first
    | (go_at_call 101; refine (mayBe_any _ _ _ _ _).mono ?_; rintro x w' ⟨rfl, rfl⟩))
  refine bodyPost_ret (v := .tuple #[.agg #[.int .u8 0, .int .u8 0, .int .u8 0, .int .u8 0], .int .i64 4]) (by simp [results, Tryz.results125, go_sem]) rfl ⟨rfl, ?_⟩
  repeat (first | exact Below.refl _ _ | refine Below.drew ?_ | refine Below.setCell ?_ (by simp <;> omega) _ | refine Below.alloc ?_ (by simp <;> omega) _)

set_option maxHeartbeats 1000000 in
theorem povers_no2 (a b c d e f g h : Int) (w : World) (h1 : fitB a b c d = true) (h2 : fitB e f g h = false) :
    Calls Tryz.prog 125 #[.agg #[.int .u8 a, .int .u8 b, .int .u8 c, .int .u8 d], .agg #[.int .u8 e, .int .u8 f, .int .u8 g, .int .u8 h]] w fun x w' =>
      x = .returned (.tuple #[.agg #[.int .u8 0, .int .u8 0, .int .u8 0, .int .u8 0], .int .i64 4]) ∧ Below w.heap.size w w' := by
  go_enter Tryz.func125, Tryz.ntmps125
  go_wp2_with (first
    | (go_at_call 101; refine (mayBe_any _ _ _ _ _).mono ?_; rintro x w' ⟨rfl, rfl⟩))
  refine bodyPost_ret (v := .tuple #[.agg #[.int .u8 0, .int .u8 0, .int .u8 0, .int .u8 0], .int .i64 4]) (by simp [results, Tryz.results125, go_sem]) rfl ⟨rfl, ?_⟩
  repeat (first | exact Below.refl _ _ | refine Below.drew ?_ | refine Below.setCell ?_ (by simp <;> omega) _ | refine Below.alloc ?_ (by simp <;> omega) _)

set_option maxHeartbeats 1000000 in
theorem rovers_yes (a b c d e f g h : Int) (w : World) (ha : 0 ≤ a ∧ a ≤ 255) (hb : 0 ≤ b ∧ b ≤ 255) (hc : 0 ≤ c ∧ c ≤ 255) (hd : 0 ≤ d ∧ d ≤ 255) (he : 0 ≤ e ∧ e ≤ 255) (hf : 0 ≤ f ∧ f ≤ 255) (hg : 0 ≤ g ∧ g ≤ 255) (hh : 0 ≤ h ∧ h ≤ 255) (h1 : fitB a b c d = true) (h2 : fitB e f g h = true) :
    Calls Tryz.prog 126 #[.agg #[.int .u8 a, .int .u8 b, .int .u8 c, .int .u8 d], .agg #[.int .u8 e, .int .u8 f, .int .u8 g, .int .u8 h]] w fun x w' =>
      x = .returned (.tuple #[.agg #[.int .u8 (mix a e d), .int .u8 (mix b f d), .int .u8 (mix c g d), .int .u8 (mix d h d)], .int .i64 0]) ∧ Below w.heap.size w w' := by
  go_enter Tryz.func126, Tryz.ntmps126
  go_wp2_with (first
    | (go_at_call 177; refine (fits_any _ _ _ _ _).mono ?_; rintro x w' ⟨rfl, rfl⟩)
    | (go_at_call 178; refine (laid_any a b c d e f g h _ ha hb hc hd he hf hg hh).mono ?_; rintro x w1 ⟨rfl, hbl⟩; obtain ⟨hcl, hfl⟩ := bcell hbl; have hz : w.heap.size + 2 < w1.heap.size := (by have := hbl.size; simp at this; omega)))
  refine bodyPost_ret (v := .tuple #[.agg #[.int .u8 (mix a e d), .int .u8 (mix b f d), .int .u8 (mix c g d), .int .u8 (mix d h d)], .int .i64 0]) (by simp [results, Tryz.results126, go_sem, hcl]) rfl ⟨rfl, ?_⟩
  repeat (first | refine Below.setCell ?_ (by simp <;> omega) _)
  refine Below.trans ?_ (hbl.mono (by simp; try omega))
  repeat (first | exact Below.refl _ _ | refine Below.drew ?_ | refine Below.setCell ?_ (by simp <;> omega) _ | refine Below.alloc ?_ (by simp <;> omega) _)

set_option maxHeartbeats 1000000 in
theorem rovers_no1 (a b c d e f g h : Int) (w : World) (h1 : fitB a b c d = false) :
    Calls Tryz.prog 126 #[.agg #[.int .u8 a, .int .u8 b, .int .u8 c, .int .u8 d], .agg #[.int .u8 e, .int .u8 f, .int .u8 g, .int .u8 h]] w fun x w' =>
      x = .returned (.tuple #[.agg #[.int .u8 0, .int .u8 0, .int .u8 0, .int .u8 0], .int .i64 4]) ∧ Below w.heap.size w w' := by
  go_enter Tryz.func126, Tryz.ntmps126
  go_wp2_with (first
    | (go_at_call 177; refine (fits_any _ _ _ _ _).mono ?_; rintro x w' ⟨rfl, rfl⟩))
  refine bodyPost_ret (v := .tuple #[.agg #[.int .u8 0, .int .u8 0, .int .u8 0, .int .u8 0], .int .i64 4]) (by simp [results, Tryz.results126, go_sem]) rfl ⟨rfl, ?_⟩
  repeat (first | exact Below.refl _ _ | refine Below.drew ?_ | refine Below.setCell ?_ (by simp <;> omega) _ | refine Below.alloc ?_ (by simp <;> omega) _)

set_option maxHeartbeats 1000000 in
theorem rovers_no2 (a b c d e f g h : Int) (w : World) (h1 : fitB a b c d = true) (h2 : fitB e f g h = false) :
    Calls Tryz.prog 126 #[.agg #[.int .u8 a, .int .u8 b, .int .u8 c, .int .u8 d], .agg #[.int .u8 e, .int .u8 f, .int .u8 g, .int .u8 h]] w fun x w' =>
      x = .returned (.tuple #[.agg #[.int .u8 0, .int .u8 0, .int .u8 0, .int .u8 0], .int .i64 4]) ∧ Below w.heap.size w w' := by
  go_enter Tryz.func126, Tryz.ntmps126
  go_wp2_with (first
    | (go_at_call 177; refine (fits_any _ _ _ _ _).mono ?_; rintro x w' ⟨rfl, rfl⟩))
  refine bodyPost_ret (v := .tuple #[.agg #[.int .u8 0, .int .u8 0, .int .u8 0, .int .u8 0], .int .i64 4]) (by simp [results, Tryz.results126, go_sem]) rfl ⟨rfl, ?_⟩
  repeat (first | exact Below.refl _ _ | refine Below.drew ?_ | refine Below.setCell ?_ (by simp <;> omega) _ | refine Below.alloc ?_ (by simp <;> omega) _)

theorem eqPix (a b c d e f g h : Int) (w : World) : (Op.equalIn 10000 51 (.agg #[.int .u8 a, .int .u8 b, .int .u8 c, .int .u8 d]) (.agg #[.int .u8 e, .int .u8 f, .int .u8 g, .int .u8 h])).run Tryz.prog w = .ok (a == e && (b == f && (c == g && d == h))) w := by
  have u3 := Tryz.underlying5
  have a3 := Tryz.isAgg5
  have z3 := Tryz.sizeOf5
  rw [show (10000 : Nat) = 9999 + 1 from rfl, Op.equalIn]
  simp only [Sem.run_bind, run_underlying Tryz.underlying51, Result.andThen_ok]
  simp only [Std.Legacy.Range.forIn_eq_forIn_range', Std.Legacy.Range.size, Nat.sub_zero, Nat.add_sub_cancel, Nat.div_one, List.range'_succ, List.range'_zero, List.forIn_cons, List.forIn_nil]
  go_simp
  by_cases h1 : a = e <;> by_cases h2 : b = f <;> by_cases h3 : c = g <;> by_cases h4 : d = h <;> simp [h1, h2, h3, h4]

end Go.Proofs.YtofinpocigbbeaaGreat

namespace Go.Proofs.YtofinpocigbbeaaGreat
open Go.RowKit
attribute [local go_sem ↓] Go.wp_at_zero Go.wp_at_succ

def sameTo (A B : List R4) (k : Nat) : Prop := ∀ j, j < k → A[j]? = B[j]?

theorem same_of_all {A B : List R4} (hl : A.length = B.length) (h : sameTo A B A.length) : A = B := by
  apply List.ext_getElem?
  intro j
  by_cases e : j < A.length
  · exact h j e
  · rw [List.getElem?_eq_none (by omega), List.getElem?_eq_none (by omega)]

set_option maxRecDepth 100000 in
set_option maxHeartbeats 1000000 in
/-- same, where it is so -/
theorem same_yes (A : List R4) (va vb : Value) (w : World) (ha : PixAt w va A) (hb : PixAt w vb A) (hl : A.length ≤ 1000000) :
    Calls Tryz.prog 18 #[va, vb] w fun e w' => e = .returned (.bool true) ∧ Below w.heap.size w w' := by
  obtain ⟨aa, ac, rfl, hca⟩ := ha
  obtain ⟨ba, bc, rfl, hcb⟩ := hb
  obtain ⟨n, hn⟩ : ∃ n, A.length = n := ⟨_, rfl⟩
  rw [hn] at hl
  rw [hn]
  have HA := hide hca
  have HB := hide hcb
  clear hca hcb
  go_enter Tryz.func18, Tryz.ntmps18
  go_wp2_with fail
  go_loopg [5] n (fun gg s5 wr => ∃ k nq : Nat, s5 = .int .i64 k ∧ gg + k = n ∧ wr = w.drewN nq)
  case atStart => exact ⟨0, 0, rfl, by omega, rfl⟩
  case round =>
    obtain ⟨k, nq, rfl, hgk, rfl⟩ := hrel
    cases gk with
    | zero =>
      have hlt : ¬ (k : Int) < (n : Int) := by omega
      go_wp2_with fail
      go_ret
      exact ⟨rfl, Joins.below_draws _ _ _⟩
    | succ gk =>
      have hlt : (k : Int) < (n : Int) := by omega
      have hk0 : (0 : Int) ≤ (k : Int) := by omega
      have hkl : k < A.length := by omega
      obtain ⟨hac, b1, o1, e1, c1⟩ := HA.out (by omega)
      obtain ⟨hbc, b2, o2, e2, c2⟩ := HB.out (by omega)
      subst e1
      subst e2
      obtain ⟨p0, p1, p2, p3⟩ := c1 k hkl
      obtain ⟨q0, q1, q2, q3⟩ := c2 k hkl
      have hka : k < ac := by omega
      have hkb : k < bc := by omega
      clear c1 c2
      generalize A[k] = P at p0 p1 p2 p3 q0 q1 q2 q3
      have hq := eqPix
      go_upto_region 6 with fail
      go_region
      go_wp2_with fail
      go_roundg gk
      case measure => omega
      case rel => exact ⟨k + 1, _, by go_num, by omega, rfl⟩

end Go.Proofs.YtofinpocigbbeaaGreat
