import Derived.Test.YtofinpocigbbeaaRowW
import Derived.Test.YtofinpocigbbeaaPln
namespace Go.Proofs.Ytofinpocigbbeaa
open Go.RowKit

theorem spanRects_at (y0 y1 : Int) (L : List (Int × Int)) (i : Nat) (h : i < L.length) : (spanRects y0 y1 L).getD i (0, 0, 0, 0) = (L[i].1, y0, L[i].2, y1) := by
  unfold spanRects
  rw [List.getD_eq_getElem?_getD, List.getElem?_map, List.getElem?_eq_getElem h]
  rfl

theorem spanRects_len (y0 y1 : Int) (L : List (Int × Int)) : (spanRects y0 y1 L).length = L.length := by simp [spanRects]

set_option maxRecDepth 100000 in
set_option maxHeartbeats 2000000 in
theorem alikeR_any (y0 y1 z0 z1 : Int) (L M : List (Int × Int)) (u v : Value) (w : World) (hu : RectsAt w u (spanRects y0 y1 L)) (hv : RectsAt w v (spanRects z0 z1 M)) (hl : L.length ≤ 100000) :
    Calls Try.prog 46 #[u, v] w fun e w' => e = .returned (.bool (decide (L = M))) ∧ ∃ nq, w' = w.drewN nq := by
  obtain ⟨ua, uc, hfu⟩ := hu.form
  obtain ⟨va, vc, hfv⟩ := hv.form
  rw [spanRects_len] at hfu hfv
  subst hfu
  subst hfv
  obtain ⟨res, hres⟩ : ∃ b, decide (L = M) = b := ⟨_, rfl⟩
  rw [hres]
  by_cases hne : L.length = M.length
  · have HU := hide hu
    have HV := hide hv
    have HE := hide hne
    have HR := hide hres
    obtain ⟨n, hn⟩ : ∃ n, L.length = n := ⟨_, rfl⟩
    rw [← hne, hn]
    rw [hn] at hl
    have HN := hide hn
    clear hu hv hne hres hn
    go_enter Try.func46, Try.ntmps46
    go_wp2
    go_loopg [5] n (fun g s5 wr => ∃ i : Nat, s5 = .int .i64 i ∧ g + i = n ∧ (∀ j (h1 : j < L.length) (h2 : j < M.length), j < i → L[j] = M[j]) ∧ ∃ nq, wr = w.drewN nq)
    case atStart => exact ⟨0, rfl, by omega, fun j _ _ h => by omega, 0, rfl⟩
    case round =>
      obtain ⟨i, rfl, hgi, hrun, n0, rfl⟩ := hrel
      have HRun := hide hrun
      clear hrun
      cases gk with
      | zero =>
        have hlt : ¬ (i : Int) < (n : Int) := by omega
        go_wp2
        go_ret
        refine ⟨ret_b ?_, n0, rfl⟩
        rw [← HR.out]
        symm
        rw [decide_eq_true_eq]
        exact List.ext_getElem HE.out fun j h1 h2 => HRun.out j h1 h2 (by have := HN.out; omega)
      | succ g =>
        have hlt : (i : Int) < (n : Int) := by omega
        have hin : i < n := by omega
        have hiL : i < L.length := by rw [HN.out]; exact hin
        have hiM : i < M.length := by rw [← HE.out]; exact hiL
        obtain ⟨b1, o1, k1, e1, q1, _, q2, _⟩ := HU.out.at i (by rw [spanRects_len]; exact hiL)
        obtain ⟨b2, o2, k2, e2, q3, _, q4, _⟩ := HV.out.at i (by rw [spanRects_len]; exact hiM)
        rw [spanRects_len] at e1 e2
        simp at e1 e2
        obtain ⟨rfl, rfl⟩ := e1
        obtain ⟨rfl, rfl⟩ := e2
        rw [spanRects_at y0 y1 L i hiL] at q1 q2
        rw [spanRects_at z0 z1 M i hiM] at q3 q4
        simp only at q1 q2 q3 q4
        obtain ⟨⟨p0, p1⟩, hp⟩ : ∃ s, L[i] = s := ⟨_, rfl⟩
        obtain ⟨⟨r0, r1⟩, hr⟩ : ∃ s, M[i] = s := ⟨_, rfl⟩
        rw [hp] at q1 q2
        rw [hr] at q3 q4
        simp only at q1 q2 q3 q4
        have HQ := hide (And.intro hp hr)
        clear hp hr
        have hno : Hid (L[i] ≠ M[i] → res = false) := by
          intro h
          rw [← HR.out, decide_eq_false_iff_not]
          intro e
          subst e
          exact h rfl
        by_cases t0 : p0 = r0
        · have d0 : (p0 != r0) = false := by simpa using t0
          have T0 := hide t0
          clear t0
          by_cases t1 : p1 = r1
          · have d1 : (p1 != r1) = false := by simpa using t1
            have T1 := hide t1
            clear t1
            go_wp2_with fail
            go_quiet (fail)
            go_wp2
            go_roundg g
            case measure => omega
            case rel =>
              refine ⟨i + 1, by go_num, by omega, fun j h1 h2 hj => ?_, n0 + nq, by simp⟩
              by_cases e : j = i
              · subst e
                rw [HQ.out.1, HQ.out.2, T0.out, T1.out]
              · exact HRun.out j h1 h2 (by omega)
          · have d1 : (p1 != r1) = true := by simpa using t1
            have T1 := hide t1
            clear t1
            go_wp2_with fail
            go_quiet (fail)
            go_wp2
            go_ret
            refine ⟨ret_b (hno.out ?_).symm, n0 + nq, by simp⟩
            rw [HQ.out.1, HQ.out.2]
            intro h
            simp at h
            exact T1.out h.2
        · have d0 : (p0 != r0) = true := by simpa using t0
          have T0 := hide t0
          clear t0
          go_wp2_with fail
          go_quiet (fail)
          go_wp2
          go_ret
          refine ⟨ret_b (hno.out ?_).symm, n0 + nq, by simp⟩
          rw [HQ.out.1, HQ.out.2]
          intro h
          simp at h
          exact T0.out h.1
  · have HR : Hid (res = false) := by
      rw [Hid, ← hres, decide_eq_false_iff_not]
      intro e
      exact hne (by rw [e])
    generalize L.length = n at *
    generalize M.length = m at *
    have hnm : ((n : Int) != (m : Int)) = true := by simp; omega
    clear hu hv hres
    go_enter Try.func46, Try.ntmps46
    go_wp2
    go_ret
    exact ⟨ret_b HR.out.symm, 0, rfl⟩

end Go.Proofs.Ytofinpocigbbeaa
