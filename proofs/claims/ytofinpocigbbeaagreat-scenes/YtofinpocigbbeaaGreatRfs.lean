import Derived.Test.YtofinpocigbbeaaGreatPcm
import Derived.Test.YtofinpocigbbeaaGreatUni
import Derived.Handy
namespace Go.Proofs.YtofinpocigbbeaaGreat
open Go.RowKit

set_option maxRecDepth 100000 in
set_option maxHeartbeats 1000000 in
theorem refHas_any (l : List (Int × Int × Int × Int)) (v : Value) (x y : Int) (w : World) (h : RectsAt w v l) (hl : l.length ≤ maxLen) :
    Calls Tryz.prog 122 #[v, .int .i64 x, .int .i64 y] w fun e w' => e = .returned (.bool (hasB l x y)) ∧ w' = w := by
  unfold maxLen at hl
  obtain ⟨a, c, rfl, hc⟩ := h
  obtain ⟨n, hn⟩ : ∃ n, l.length = n := ⟨_, rfl⟩
  rw [hn] at hl
  rw [hn]
  have HC := hide hc
  have HN := hide hn
  clear hc hn
  obtain ⟨res, hres⟩ : ∃ b, hasB l x y = b := ⟨_, rfl⟩
  rw [hres]
  have HR := hide hres
  clear hres
  go_enter Tryz.func122, Tryz.ntmps122
  go_wp2
  go_loopg [7] n (fun g s7 wr => ∃ k : Nat, s7 = .int .i64 k ∧ g + k = n ∧ (∀ j (h : j < l.length), j < k → inR l[j] x y = false) ∧ wr = w)
  case atStart => exact ⟨0, rfl, by omega, fun j _ h => absurd h (by omega), rfl⟩
  case round =>
    obtain ⟨k, rfl, hgk, hno, rfl⟩ := hrel
    have HNo := hide hno
    clear hno
    cases gk with
    | zero =>
      have hlt : ¬ (k : Int) < (n : Int) := by omega
      go_wp2
      go_ret
      refine ⟨ret_b ?_, rfl⟩
      rw [← HR.out]
      symm
      unfold hasB
      rw [List.any_eq_false]
      intro r hr
      obtain ⟨j, hj, rfl⟩ := List.getElem_of_mem hr
      rw [HNo.out j hj (by have := HN.out; omega)]
      simp
    | succ g =>
      have hlt : (k : Int) < (n : Int) := by omega
      have hltn : k < n := by omega
      have hkl : k < l.length := by have := HN.out; omega
      obtain ⟨b, off, rfl, hcs⟩ := HC.out (by omega)
      obtain ⟨c1, c2, c3, c4⟩ := hcs k hkl
      obtain ⟨⟨x0, y0, x1, y1⟩, hr⟩ : ∃ r, l[k] = r := ⟨_, rfl⟩
      rw [hr] at c1 c2 c3 c4
      simp only at c1 c2 c3 c4
      have HK := hide hr
      clear hr hcs
      by_cases hin : x0 ≤ x ∧ x < x1 ∧ y0 ≤ y ∧ y < y1
      · have HI : Hid (inR (x0, y0, x1, y1) x y = true) := by unfold Hid inR; simpa using hin
        obtain ⟨h1, h2, h3, h4⟩ := hin
        go_wp2
        go_ret
        refine ⟨ret_b ?_, rfl⟩
        rw [← HR.out]
        symm
        unfold hasB
        rw [List.any_eq_true]
        exact ⟨l[k], List.getElem_mem hkl, by rw [HK.out]; exact HI.out⟩
      · have HI : Hid (inR (x0, y0, x1, y1) x y = false) := by unfold Hid inR; simpa using hin
        have hcases : x < x0 ∨ (x0 ≤ x ∧ x1 ≤ x) ∨ (x0 ≤ x ∧ x < x1 ∧ y < y0) ∨ (x0 ≤ x ∧ x < x1 ∧ y0 ≤ y ∧ y1 ≤ y) := by omega
        clear hin
        rcases hcases with h1 | ⟨h1, h2⟩ | ⟨h1, h2, h3⟩ | ⟨h1, h2, h3, h4⟩
        all_goals
          go_wp2
          go_roundg g
          case measure => omega
          case rel =>
            refine ⟨k + 1, by go_num, by omega, fun j hj hjk => ?_, rfl⟩
            by_cases e : j = k
            · subst e; rw [HK.out]; exact HI.out
            · exact HNo.out j hj (by omega)


set_option maxHeartbeats 400000 in
theorem says_any (kind : Int) (p q : Bool) (w : World) :
    Calls Tryz.prog 123 #[.int .i64 kind, .bool p, .bool q] w fun e w' => e = .returned (.bool (keepB kind p q)) ∧ w' = w := by
  have HK : Hid (keepB kind p q = if kind = 0 then p || q else if kind = 1 then p && q else if kind = 2 then p && !q else p != q) := rfl
  generalize keepB kind p q = r at *
  have c0 : (kind == 0) = true ∨ (kind == 0) = false := by cases (kind == 0) <;> simp
  have c1 : (kind == 1) = true ∨ (kind == 1) = false := by cases (kind == 1) <;> simp
  have c2 : (kind == 2) = true ∨ (kind == 2) = false := by cases (kind == 2) <;> simp
  rcases c0 with c0 | c0
  · cases p <;> cases q <;>
    · go_enter Tryz.func123, Tryz.ntmps123
      go_wp2
      go_ret
      refine ⟨ret_b ?_, rfl⟩
      rw [HK.out]; simp at c0; simp [c0]
  · rcases c1 with c1 | c1
    · cases p <;> cases q <;>
      · go_enter Tryz.func123, Tryz.ntmps123
        go_wp2
        go_ret
        refine ⟨ret_b ?_, rfl⟩
        rw [HK.out]; simp at c1; simp [c1]
    · rcases c2 with c2 | c2
      · cases p <;> cases q <;>
        · go_enter Tryz.func123, Tryz.ntmps123
          go_wp2
          go_ret
          refine ⟨ret_b ?_, rfl⟩
          rw [HK.out]; simp at c2; simp [c2]
      · cases p <;> cases q <;>
        · go_enter Tryz.func123, Tryz.ntmps123
          go_wp2
          go_ret
          refine ⟨ret_b ?_, rfl⟩
          rw [HK.out]; simp at c0 c1 c2; simp [c0, c1, c2]


set_option maxRecDepth 100000 in
set_option maxHeartbeats 1000000 in
theorem refFits_any (a b c d : Int) (w : World) :
    Calls Tryz.prog 174 #[.agg #[.int .i64 a, .int .i64 b, .int .i64 c, .int .i64 d]] w fun e w' => e = .returned (.bool (fitR (a, b, c, d))) ∧ Below w.heap.size w w' := by
  have HF : Hid (∀ r, (r = true ↔ (-2000 ≤ a ∧ a ≤ c ∧ c ≤ 2000 ∧ -2000 ≤ b ∧ b ≤ d ∧ d ≤ 2000)) → r = fitR (a, b, c, d)) := by
    intro r hr
    unfold fitR
    rw [Bool.eq_iff_iff, hr]
    simp
  generalize fitR (a, b, c, d) = res at *
  have HB : Hid (Below w.heap.size w ((w.alloc (.cells #[.int .i64 a, .int .i64 b, .int .i64 c, .int .i64 d] 53)).alloc (.cells #[.int .i64 a, .int .i64 b, .int .i64 c, .int .i64 d] 3))) := ((Below.refl _ _).alloc (Nat.le_refl _) _).alloc (by simp) _
  go_enter Tryz.func174, Tryz.ntmps174
  go_wp2
  refine wp_loop_rounds 5 ?_
  repeat any_goals (rw [rounds_succ]; go_wp2)
  all_goals
    go_ret
    refine ⟨ret_b (HF.out _ ?_), HB.out⟩
    simp
    try omega

end Go.Proofs.YtofinpocigbbeaaGreat
