import Derived.Test.YtofinpocigbbeaaHas
namespace Go.Proofs.Ytofinpocigbbeaa
open Go.RowKit

/-- If alike says yes: what it has seen. -/
def AlikeSaw (l : List (Int × Int × Int × Int)) (a b c : Nat) : Prop :=
  b ≠ a ∧ b - a = c - b ∧ (l.getD (b - 1) (0, 0, 0, 0)).2.2.2 = (l.getD b (0, 0, 0, 0)).2.1 ∧ ∀ i, a ≤ i → i < b → (l.getD i (0, 0, 0, 0)).1 = (l.getD (i + b - a) (0, 0, 0, 0)).1 ∧ (l.getD i (0, 0, 0, 0)).2.2.1 = (l.getD (i + b - a) (0, 0, 0, 0)).2.2.1

def AlikePost (l : List (Int × Int × Int × Int)) (a b c : Nat) (w : World) (e : Ending) (w' : World) : Prop := ∃ r, e = .returned (.bool r) ∧ (r = true → AlikeSaw l a b c) ∧ ∃ nq, w' = w.drewN nq
theorem alike_no {l : List (Int × Int × Int × Int)} {a b c : Nat} {w : World} (nq : Nat) : AlikePost l a b c w (.returned (.bool false)) (w.drewN nq) := ⟨false, rfl, fun h => by simp at h, nq, rfl⟩
theorem alike_yes {l : List (Int × Int × Int × Int)} {a b c : Nat} {w : World} (nq : Nat) (h : AlikeSaw l a b c) : AlikePost l a b c w (.returned (.bool true)) (w.drewN nq) := ⟨true, rfl, fun _ => h, nq, rfl⟩

theorem RectsAt.at {w : World} {v : Value} {l : List (Int × Int × Int × Int)} (h : RectsAt w v l) (k : Nat) (hk : k < l.length) :
    ∃ b off c, v = .slice (some ⟨b, off, none⟩) l.length c ∧ w.cell? ⟨b, off + k * 4, none⟩ = some (.int .i64 (l.getD k (0, 0, 0, 0)).1) ∧ w.cell? ⟨b, off + k * 4 + 1, none⟩ = some (.int .i64 (l.getD k (0, 0, 0, 0)).2.1) ∧ w.cell? ⟨b, off + k * 4 + 2, none⟩ = some (.int .i64 (l.getD k (0, 0, 0, 0)).2.2.1) ∧ w.cell? ⟨b, off + k * 4 + 3, none⟩ = some (.int .i64 (l.getD k (0, 0, 0, 0)).2.2.2) := by
  obtain ⟨a, c, rfl, hc⟩ := h
  obtain ⟨b, off, rfl, hcs⟩ := hc (by omega)
  have e : l.getD k (0, 0, 0, 0) = l[k] := by rw [List.getD_eq_getElem?_getD, List.getElem?_eq_getElem hk]; rfl
  rw [e]
  exact ⟨b, off, c, rfl, hcs k hk⟩

set_option maxRecDepth 100000 in
set_option maxHeartbeats 2000000 in
theorem alike_any (l : List (Int × Int × Int × Int)) (v : Value) (a b c : Nat) (w : World) (h : RectsAt w v l) (hl : l.length ≤ 100000000) (hab : a ≤ b) (hbc : b ≤ c) (hc : c ≤ l.length) (hb1 : a < b → b < c) :
    Calls Try.prog 29 #[v, .int .i64 a, .int .i64 b, .int .i64 c] w (AlikePost l a b c w) := by
  obtain ⟨va, vc, hv⟩ := h.form
  by_cases h1 : b = a
  · subst h1
    subst hv
    have g1 : ((b : Int) == (b : Int)) = true := by simp
    go_enter Try.func29, Try.ntmps29
    go_wp2_with fail
    go_quiet (fail)
    go_wp2
    go_ret
    exact alike_no _
  · have g1 : ((b : Int) == (a : Int)) = false := by simp; omega
    by_cases h2 : b - a = c - b
    · have g2 : ((b : Int) - (a : Int) != (c : Int) - (b : Int)) = false := by simp; omega
      obtain ⟨bb, off, cc, hv2, _, _, _, c4⟩ := h.at (b - 1) (by omega)
      obtain ⟨bb', off', cc', hv3, _, c2, _, _⟩ := h.at b (by omega)
      rw [hv2] at hv3
      simp at hv3
      obtain ⟨⟨rfl, rfl⟩, rfl⟩ := hv3
      obtain ⟨Y1, hY1⟩ : ∃ x, (l.getD (b - 1) (0, 0, 0, 0)).2.2.2 = x := ⟨_, rfl⟩
      obtain ⟨Y0, hY0⟩ : ∃ x, (l.getD b (0, 0, 0, 0)).2.1 = x := ⟨_, rfl⟩
      rw [hY1] at c4
      rw [hY0] at c2
      obtain ⟨n, hn⟩ : ∃ n, l.length = n := ⟨_, rfl⟩
      rw [hn] at hv2 hl hc
      have HL := hide h
      have HN := hide hn
      have HY := hide (And.intro hY1 hY0)
      clear h hn hY1 hY0
      rw [hv2]
      have HV := hide hv2
      clear hv hv2
      obtain ⟨bm, hbm⟩ : ∃ m : Nat, b - 1 = m := ⟨_, rfl⟩
      rw [hbm] at c4
      have hsub : (b : Int) - 1 = (bm : Int) := by omega
      have hbmn : bm < n := by omega
      have hbn : b < n := by omega
      have HB := hide (And.intro hbm (And.intro h1 h2))
      clear hbm h1 h2
      by_cases h3 : Y1 = Y0
      · have g3 : (Y1 != Y0) = false := by simpa using h3
        have HE := hide h3
        clear h3
        go_enter Try.func29, Try.ntmps29
        go_wp2_with fail
        go_quiet (fail)
        go_wp2
        go_loopg [9] (b - a) (fun g s9 wr => ∃ i : Nat, s9 = .int .i64 i ∧ a ≤ i ∧ g + i = b ∧ (∀ k, a ≤ k → k < i → (l.getD k (0, 0, 0, 0)).1 = (l.getD (k + b - a) (0, 0, 0, 0)).1 ∧ (l.getD k (0, 0, 0, 0)).2.2.1 = (l.getD (k + b - a) (0, 0, 0, 0)).2.2.1) ∧ ∃ nq, wr = w.drewN nq)
        case atStart => exact ⟨a, rfl, Nat.le_refl _, by omega, fun k h1 h2 => by omega, _, rfl⟩
        case round =>
          obtain ⟨i, rfl, hai, hgi, hrun, n0, rfl⟩ := hrel
          have HRun := hide hrun
          clear hrun
          cases gk with
          | zero =>
            have hlt : ¬ (i : Int) < (b : Int) := by omega
            go_wp2
            go_ret
            refine alike_yes n0 ⟨HB.out.2.1, HB.out.2.2, ?_, fun k h1 h2 => HRun.out k h1 (by omega)⟩
            rw [HY.out.1, HY.out.2, HE.out]
          | succ g =>
            have hlt : (i : Int) < (b : Int) := by omega
            have hin : i < n := by omega
            obtain ⟨j, hj⟩ : ∃ j : Nat, i + b - a = j := ⟨_, rfl⟩
            have hji : (i : Int) + (b : Int) - (a : Int) = (j : Int) := by omega
            have hjn : j < n := by have := HB.out.2.2; omega
            obtain ⟨b1, o1, k1, e1, q1, _, q2, _⟩ := HL.out.at i (by have := HN.out; omega)
            obtain ⟨b2, o2, k2, e2, q3, _, q4, _⟩ := HL.out.at j (by have := HN.out; omega)
            rw [HV.out, HN.out] at e1 e2
            simp at e1 e2
            obtain ⟨⟨rfl, rfl⟩, rfl⟩ := e1
            obtain ⟨⟨rfl, rfl⟩, rfl⟩ := e2
            obtain ⟨p0, hp0⟩ : ∃ x, (l.getD i (0, 0, 0, 0)).1 = x := ⟨_, rfl⟩
            obtain ⟨p1, hp1⟩ : ∃ x, (l.getD i (0, 0, 0, 0)).2.2.1 = x := ⟨_, rfl⟩
            obtain ⟨r0, hr0⟩ : ∃ x, (l.getD j (0, 0, 0, 0)).1 = x := ⟨_, rfl⟩
            obtain ⟨r1, hr1⟩ : ∃ x, (l.getD j (0, 0, 0, 0)).2.2.1 = x := ⟨_, rfl⟩
            rw [hp0] at q1
            rw [hp1] at q2
            rw [hr0] at q3
            rw [hr1] at q4
            have HQ := hide (And.intro hp0 (And.intro hp1 (And.intro hr0 (And.intro hr1 hj))))
            clear hp0 hp1 hr0 hr1 hj
            by_cases t0 : p0 = r0
            · have u0 : (p0 != r0) = false := by simpa using t0
              have T0 := hide t0
              clear t0
              by_cases t1 : p1 = r1
              · have u1 : (p1 != r1) = false := by simpa using t1
                have T1 := hide t1
                clear t1
                go_wp2_with fail
                go_quiet (fail)
                go_wp2
                go_roundg g
                case measure => omega
                case rel =>
                  refine ⟨i + 1, by go_num, by omega, by omega, fun k h1 h2 => ?_, n0 + nq, by simp⟩
                  by_cases e : k = i
                  · subst e
                    obtain ⟨a0, a1, a2, a3, a4⟩ := HQ.out
                    rw [a4, a0, a1, a2, a3]
                    exact ⟨T0.out, T1.out⟩
                  · exact HRun.out k h1 (by omega)
              · have u1 : (p1 != r1) = true := by simpa using t1
                clear t1
                go_wp2_with fail
                go_quiet (fail)
                go_wp2
                go_ret
                rw [World.drewN_drewN]
                exact alike_no _
            · have u0 : (p0 != r0) = true := by simpa using t0
              clear t0
              go_wp2_with fail
              go_quiet (fail)
              go_wp2
              go_ret
              rw [World.drewN_drewN]
              exact alike_no _
      · have g3 : (Y1 != Y0) = true := by simpa using h3
        go_enter Try.func29, Try.ntmps29
        go_wp2_with fail
        go_quiet (fail)
        go_wp2
        go_ret
        exact alike_no _
    · have g2 : ((b : Int) - (a : Int) != (c : Int) - (b : Int)) = true := by simp; omega
      subst hv
      go_enter Try.func29, Try.ntmps29
      go_wp2_with fail
      go_quiet (fail)
      go_wp2
      go_ret
      exact alike_no _

end Go.Proofs.Ytofinpocigbbeaa
