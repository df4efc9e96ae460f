import Derived.Test.YtofinpocigbbeaaPix
namespace Go.Proofs.Ytofinpocigbbeaa
open Go.RowKit

set_option maxHeartbeats 1000000 in
theorem povers_yes (a b c d e f g h : Int) (w : World) (hd : 0 ≤ d ∧ d ≤ 255) (he : 0 ≤ e ∧ e ≤ 255) (hf : 0 ≤ f ∧ f ≤ 255) (hg : 0 ≤ g ∧ g ≤ 255) (hh : 0 ≤ h ∧ h ≤ 255) (h1 : fitB a b c d = true) (h2 : fitB e f g h = true) :
    Calls Try.prog 8 #[.agg #[.int .u8 a, .int .u8 b, .int .u8 c, .int .u8 d], .agg #[.int .u8 e, .int .u8 f, .int .u8 g, .int .u8 h]] w fun x w' =>
      x = .returned (.tuple #[.agg #[.int .u8 (mix a e d), .int .u8 (mix b f d), .int .u8 (mix c g d), .int .u8 (mix d h d)], .int .i64 0]) ∧ Below w.heap.size w w' := by
  go_enter Try.func8, Try.ntmps8
  go_wp2_with (first
    | (go_at_call 21; refine (mayBe_any _ _ _ _ _).mono ?_; rintro x w' ⟨rfl, rfl⟩)
    | (go_at_call 22; refine (over_any a b c d e f g h _ hd he hf hg hh).mono ?_; rintro x w1 ⟨rfl, hbl⟩; obtain ⟨hcl, hfl⟩ := bcell hbl; have hz : w.heap.size + 2 < w1.heap.size := (by have := hbl.size; simp at this; omega)))
  refine bodyPost_ret (v := .tuple #[.agg #[.int .u8 (mix a e d), .int .u8 (mix b f d), .int .u8 (mix c g d), .int .u8 (mix d h d)], .int .i64 0]) (by simp [results, Try.results8, go_sem, hcl]) rfl ⟨rfl, ?_⟩
  repeat (first | refine Below.setCell ?_ (by simp <;> omega) _)
  refine Below.trans ?_ (hbl.mono (by simp; try omega))
  repeat (first | exact Below.refl _ _ | refine Below.drew ?_ | refine Below.setCell ?_ (by simp <;> omega) _ | refine Below.alloc ?_ (by simp <;> omega) _)

set_option maxHeartbeats 1000000 in
theorem povers_no1 (a b c d e f g h : Int) (w : World) (h1 : fitB a b c d = false) :
    Calls Try.prog 8 #[.agg #[.int .u8 a, .int .u8 b, .int .u8 c, .int .u8 d], .agg #[.int .u8 e, .int .u8 f, .int .u8 g, .int .u8 h]] w fun x w' =>
      x = .returned (.tuple #[.agg #[.int .u8 0, .int .u8 0, .int .u8 0, .int .u8 0], .int .i64 4]) ∧ Below w.heap.size w w' := by
  go_enter Try.func8, Try.ntmps8
  go_wp2_with (first
    | (go_at_call 21; refine (mayBe_any _ _ _ _ _).mono ?_; rintro x w' ⟨rfl, rfl⟩))
  refine bodyPost_ret (v := .tuple #[.agg #[.int .u8 0, .int .u8 0, .int .u8 0, .int .u8 0], .int .i64 4]) (by simp [results, Try.results8, go_sem]) rfl ⟨rfl, ?_⟩
  repeat (first | exact Below.refl _ _ | refine Below.drew ?_ | refine Below.setCell ?_ (by simp <;> omega) _ | refine Below.alloc ?_ (by simp <;> omega) _)

set_option maxHeartbeats 1000000 in
theorem povers_no2 (a b c d e f g h : Int) (w : World) (h1 : fitB a b c d = true) (h2 : fitB e f g h = false) :
    Calls Try.prog 8 #[.agg #[.int .u8 a, .int .u8 b, .int .u8 c, .int .u8 d], .agg #[.int .u8 e, .int .u8 f, .int .u8 g, .int .u8 h]] w fun x w' =>
      x = .returned (.tuple #[.agg #[.int .u8 0, .int .u8 0, .int .u8 0, .int .u8 0], .int .i64 4]) ∧ Below w.heap.size w w' := by
  go_enter Try.func8, Try.ntmps8
  go_wp2_with (first
    | (go_at_call 21; refine (mayBe_any _ _ _ _ _).mono ?_; rintro x w' ⟨rfl, rfl⟩))
  refine bodyPost_ret (v := .tuple #[.agg #[.int .u8 0, .int .u8 0, .int .u8 0, .int .u8 0], .int .i64 4]) (by simp [results, Try.results8, go_sem]) rfl ⟨rfl, ?_⟩
  repeat (first | exact Below.refl _ _ | refine Below.drew ?_ | refine Below.setCell ?_ (by simp <;> omega) _ | refine Below.alloc ?_ (by simp <;> omega) _)

set_option maxHeartbeats 1000000 in
theorem rovers_yes (a b c d e f g h : Int) (w : World) (ha : 0 ≤ a ∧ a ≤ 255) (hb : 0 ≤ b ∧ b ≤ 255) (hc : 0 ≤ c ∧ c ≤ 255) (hd : 0 ≤ d ∧ d ≤ 255) (he : 0 ≤ e ∧ e ≤ 255) (hf : 0 ≤ f ∧ f ≤ 255) (hg : 0 ≤ g ∧ g ≤ 255) (hh : 0 ≤ h ∧ h ≤ 255) (h1 : fitB a b c d = true) (h2 : fitB e f g h = true) :
    Calls Try.prog 9 #[.agg #[.int .u8 a, .int .u8 b, .int .u8 c, .int .u8 d], .agg #[.int .u8 e, .int .u8 f, .int .u8 g, .int .u8 h]] w fun x w' =>
      x = .returned (.tuple #[.agg #[.int .u8 (mix a e d), .int .u8 (mix b f d), .int .u8 (mix c g d), .int .u8 (mix d h d)], .int .i64 0]) ∧ Below w.heap.size w w' := by
  go_enter Try.func9, Try.ntmps9
  go_wp2_with (first
    | (go_at_call 23; refine (fits_any _ _ _ _ _).mono ?_; rintro x w' ⟨rfl, rfl⟩)
    | (go_at_call 24; refine (laid_any a b c d e f g h _ ha hb hc hd he hf hg hh).mono ?_; rintro x w1 ⟨rfl, hbl⟩; obtain ⟨hcl, hfl⟩ := bcell hbl; have hz : w.heap.size + 2 < w1.heap.size := (by have := hbl.size; simp at this; omega)))
  refine bodyPost_ret (v := .tuple #[.agg #[.int .u8 (mix a e d), .int .u8 (mix b f d), .int .u8 (mix c g d), .int .u8 (mix d h d)], .int .i64 0]) (by simp [results, Try.results9, go_sem, hcl]) rfl ⟨rfl, ?_⟩
  repeat (first | refine Below.setCell ?_ (by simp <;> omega) _)
  refine Below.trans ?_ (hbl.mono (by simp; try omega))
  repeat (first | exact Below.refl _ _ | refine Below.drew ?_ | refine Below.setCell ?_ (by simp <;> omega) _ | refine Below.alloc ?_ (by simp <;> omega) _)

set_option maxHeartbeats 1000000 in
theorem rovers_no1 (a b c d e f g h : Int) (w : World) (h1 : fitB a b c d = false) :
    Calls Try.prog 9 #[.agg #[.int .u8 a, .int .u8 b, .int .u8 c, .int .u8 d], .agg #[.int .u8 e, .int .u8 f, .int .u8 g, .int .u8 h]] w fun x w' =>
      x = .returned (.tuple #[.agg #[.int .u8 0, .int .u8 0, .int .u8 0, .int .u8 0], .int .i64 4]) ∧ Below w.heap.size w w' := by
  go_enter Try.func9, Try.ntmps9
  go_wp2_with (first
    | (go_at_call 23; refine (fits_any _ _ _ _ _).mono ?_; rintro x w' ⟨rfl, rfl⟩))
  refine bodyPost_ret (v := .tuple #[.agg #[.int .u8 0, .int .u8 0, .int .u8 0, .int .u8 0], .int .i64 4]) (by simp [results, Try.results9, go_sem]) rfl ⟨rfl, ?_⟩
  repeat (first | exact Below.refl _ _ | refine Below.drew ?_ | refine Below.setCell ?_ (by simp <;> omega) _ | refine Below.alloc ?_ (by simp <;> omega) _)

set_option maxHeartbeats 1000000 in
theorem rovers_no2 (a b c d e f g h : Int) (w : World) (h1 : fitB a b c d = true) (h2 : fitB e f g h = false) :
    Calls Try.prog 9 #[.agg #[.int .u8 a, .int .u8 b, .int .u8 c, .int .u8 d], .agg #[.int .u8 e, .int .u8 f, .int .u8 g, .int .u8 h]] w fun x w' =>
      x = .returned (.tuple #[.agg #[.int .u8 0, .int .u8 0, .int .u8 0, .int .u8 0], .int .i64 4]) ∧ Below w.heap.size w w' := by
  go_enter Try.func9, Try.ntmps9
  go_wp2_with (first
    | (go_at_call 23; refine (fits_any _ _ _ _ _).mono ?_; rintro x w' ⟨rfl, rfl⟩))
  refine bodyPost_ret (v := .tuple #[.agg #[.int .u8 0, .int .u8 0, .int .u8 0, .int .u8 0], .int .i64 4]) (by simp [results, Try.results9, go_sem]) rfl ⟨rfl, ?_⟩
  repeat (first | exact Below.refl _ _ | refine Below.drew ?_ | refine Below.setCell ?_ (by simp <;> omega) _ | refine Below.alloc ?_ (by simp <;> omega) _)

theorem eqPix (a b c d e f g h : Int) (w : World) : (Op.equalIn 10000 34 (.agg #[.int .u8 a, .int .u8 b, .int .u8 c, .int .u8 d]) (.agg #[.int .u8 e, .int .u8 f, .int .u8 g, .int .u8 h])).run Try.prog w = .ok (a == e && (b == f && (c == g && d == h))) w := by
  have u3 := Try.underlying5
  have a3 := Try.isAgg5
  have z3 := Try.sizeOf5
  rw [show (10000 : Nat) = 9999 + 1 from rfl, Op.equalIn]
  simp only [Sem.run_bind, run_underlying Try.underlying34, Result.andThen_ok]
  simp only [Std.Legacy.Range.forIn_eq_forIn_range', Std.Legacy.Range.size, Nat.sub_zero, Nat.add_sub_cancel, Nat.div_one, List.range'_succ, List.range'_zero, List.forIn_cons, List.forIn_nil]
  go_simp
  by_cases h1 : a = e <;> by_cases h2 : b = f <;> by_cases h3 : c = g <;> by_cases h4 : d = h <;> simp [h1, h2, h3, h4]

end Go.Proofs.Ytofinpocigbbeaa
