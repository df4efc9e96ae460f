import Derived.Test.YtofinpocigbbeaaLntR
import Derived.Laws.StructEq
namespace Go.Proofs.Ytofinpocigbbeaa
open Go.RowKit
attribute [local go_sem ↓] Go.wp_at_zero Go.wp_at_succ

set_option maxRecDepth 100000 in
theorem eqRect (a b c d e f g h : Int) (w : World) : (Op.equalIn 10000 52 (.agg #[.int .i64 a, .int .i64 b, .int .i64 c, .int .i64 d]) (.agg #[.int .i64 e, .int .i64 f, .int .i64 g, .int .i64 h])).run Try.prog w = .ok (a == e && (b == f && (c == g && d == h))) w := by
  have u3 := Try.underlying3
  rw [show (10000 : Nat) = 9999 + 1 from rfl, run_equalIn_struct w 9999 52 _ _ (by kernel_rfl) (by kernel_rfl)]
  go_simp
  by_cases h1 : a = e <;> by_cases h2 : b = f <;> by_cases h3 : c = g <;> by_cases h4 : d = h <;> simp [h1, h2, h3, h4]

set_option maxRecDepth 100000 in
set_option maxHeartbeats 1000000 in
theorem same_any (l : List (Int × Int × Int × Int)) (u v : Value) (w : World) (hu : RectsAt w u l) (hv : RectsAt w v l) (hl : l.length ≤ 9000000) :
    Calls Try.prog 19 #[u, v] w fun e w' => e = .returned (.bool true) ∧ ∃ nq, w' = w.drewN nq := by
  have HU := hide (And.intro hu hv)
  obtain ⟨ua, uc, rfl⟩ := hu.form
  obtain ⟨va, vc, rfl⟩ := hv.form
  obtain ⟨n, hn⟩ : ∃ n, l.length = n := ⟨_, rfl⟩
  rw [hn] at hl HU
  rw [hn]
  have HN := hide hn
  clear hu hv hn
  have hq := eqRect
  go_enter Try.func19, Try.ntmps19
  go_wp2
  go_loopg [5] n (fun g s5 wr => ∃ i : Nat, s5 = .int .i64 i ∧ g + i = n ∧ ∃ nq, wr = w.drewN nq)
  case atStart => exact ⟨0, rfl, by omega, 0, rfl⟩
  case round =>
    obtain ⟨i, rfl, hgi, n0, rfl⟩ := hrel
    cases gk with
    | zero =>
      have hlt : ¬ (i : Int) < (n : Int) := by omega
      go_wp2
      go_ret
      exact ⟨rfl, n0, rfl⟩
    | succ g =>
      have hlt : (i : Int) < (n : Int) := by omega
      have hin : i < n := by omega
      have hil : i < l.length := by rw [HN.out]; exact hin
      obtain ⟨b1, o1, k1, e1, q1, q2, q3, q4⟩ := HU.out.1.at i hil
      obtain ⟨b2, o2, k2, e2, r1, r2, r3, r4⟩ := HU.out.2.at i hil
      injection e1 with e11 e12 e13
      injection e2 with e21 e22 e23
      clear e12 e22
      subst e11 e13 e21 e23
      obtain ⟨⟨a, b, c, d⟩, hr⟩ : ∃ r, l.getD i (0, 0, 0, 0) = r := ⟨_, rfl⟩
      rw [hr] at q1 q2 q3 q4 r1 r2 r3 r4
      simp only at q1 q2 q3 q4 r1 r2 r3 r4
      clear hr
      go_wp2
      go_quiet (fail)
      go_wp2
      go_roundg g
      case measure => omega
      case rel => exact ⟨i + 1, by go_num, by omega, _, rfl⟩

end Go.Proofs.Ytofinpocigbbeaa
