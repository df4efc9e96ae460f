import Derived.Test.YtofinpocigbbeaaPcm
namespace Go.Proofs.Ytofinpocigbbeaa
open Go.RowKit

set_option maxRecDepth 100000 in
set_option maxHeartbeats 1000000 in
theorem has_any (l : List (Int × Int × Int × Int)) (v : Value) (x y : Int) (w : World) (h : RectsAt w v l) (hl : l.length ≤ maxLen) :
    Calls Try.prog 14 #[v, .int .i64 x, .int .i64 y] w fun e w' => e = .returned (.bool (hasB l x y)) ∧ w' = w := by
  unfold maxLen at hl
  obtain ⟨a, c, rfl, hc⟩ := h
  obtain ⟨n, hn⟩ : ∃ n, l.length = n := ⟨_, rfl⟩
  rw [hn] at hl
  rw [hn]
  have HC := hide hc
  have HN := hide hn
  clear hc hn
  obtain ⟨res, hres⟩ : ∃ b, hasB l x y = b := ⟨_, rfl⟩
  rw [hres]
  have HR := hide hres
  clear hres
  go_enter Try.func14, Try.ntmps14
  go_wp2
  go_loopg [7] n (fun g s7 wr => ∃ k : Nat, s7 = .int .i64 k ∧ g + k = n ∧ (∀ j (h : j < l.length), j < k → inR l[j] x y = false) ∧ wr = w)
  case atStart => exact ⟨0, rfl, by omega, fun j _ h => absurd h (by omega), rfl⟩
  case round =>
    obtain ⟨k, rfl, hgk, hno, rfl⟩ := hrel
    have HNo := hide hno
    clear hno
    cases gk with
    | zero =>
      have hlt : ¬ (k : Int) < (n : Int) := by omega
      go_wp2
      go_ret
      refine ⟨ret_b ?_, rfl⟩
      rw [← HR.out]
      symm
      unfold hasB
      rw [List.any_eq_false]
      intro r hr
      obtain ⟨j, hj, rfl⟩ := List.getElem_of_mem hr
      rw [HNo.out j hj (by have := HN.out; omega)]
      simp
    | succ g =>
      have hlt : (k : Int) < (n : Int) := by omega
      have hltn : k < n := by omega
      have hkl : k < l.length := by have := HN.out; omega
      obtain ⟨b, off, rfl, hcs⟩ := HC.out (by omega)
      obtain ⟨c1, c2, c3, c4⟩ := hcs k hkl
      obtain ⟨⟨x0, y0, x1, y1⟩, hr⟩ : ∃ r, l[k] = r := ⟨_, rfl⟩
      rw [hr] at c1 c2 c3 c4
      simp only at c1 c2 c3 c4
      have HK := hide hr
      clear hr hcs
      by_cases hin : x0 ≤ x ∧ x < x1 ∧ y0 ≤ y ∧ y < y1
      · have HI : Hid (inR (x0, y0, x1, y1) x y = true) := by unfold Hid inR; simpa using hin
        obtain ⟨h1, h2, h3, h4⟩ := hin
        go_wp2
        go_ret
        refine ⟨ret_b ?_, rfl⟩
        rw [← HR.out]
        symm
        unfold hasB
        rw [List.any_eq_true]
        exact ⟨l[k], List.getElem_mem hkl, by rw [HK.out]; exact HI.out⟩
      · have HI : Hid (inR (x0, y0, x1, y1) x y = false) := by unfold Hid inR; simpa using hin
        have hcases : x < x0 ∨ (x0 ≤ x ∧ x1 ≤ x) ∨ (x0 ≤ x ∧ x < x1 ∧ y < y0) ∨ (x0 ≤ x ∧ x < x1 ∧ y0 ≤ y ∧ y1 ≤ y) := by omega
        clear hin
        rcases hcases with h1 | ⟨h1, h2⟩ | ⟨h1, h2, h3⟩ | ⟨h1, h2, h3, h4⟩
        all_goals
          go_wp2
          go_roundg g
          case measure => omega
          case rel =>
            refine ⟨k + 1, by go_num, by omega, fun j hj hjk => ?_, rfl⟩
            by_cases e : j = k
            · subst e; rw [HK.out]; exact HI.out
            · exact HNo.out j hj (by omega)

end Go.Proofs.Ytofinpocigbbeaa
