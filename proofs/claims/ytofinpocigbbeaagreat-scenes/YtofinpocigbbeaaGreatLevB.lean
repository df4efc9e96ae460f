import Derived.Test.YtofinpocigbbeaaGreatLev
namespace Go.Proofs.YtofinpocigbbeaaGreat
open Go.RowKit

set_option maxHeartbeats 1000000 in
theorem equal_any (L M : List (Int × Int)) (u v : Value) (w : World) (hu : SpansAt w u L) (hv : SpansAt w v M) (hl : L.length ≤ 10000) :
    Calls Tryz.prog 185 #[u, v] w fun e w' => e = .returned (.bool (decide (L = M))) ∧ ∃ nq, w' = w.drewN nq := by
  obtain ⟨a, ca, rfl, ha⟩ := hu.len
  obtain ⟨b, cb, rfl, hb⟩ := hv.len
  clear hu hv
  by_cases hne : L.length = M.length
  · have HE : Hid (L.length = M.length) := hne
    have hb' : 0 < L.length → ∃ b', b = some ⟨b', 0, none⟩ ∧ ∀ j, j < L.length → w.cell? ⟨b', j * 2, none⟩ = some (.int .i64 (M.getD j (0, 0)).1) ∧ w.cell? ⟨b', j * 2 + 1, none⟩ = some (.int .i64 (M.getD j (0, 0)).2) := by rw [hne]; exact hb
    rw [← hne]
    clear hb hne
    have hq := eqSpan
    have HQ : Hid (∀ (j : Nat) (a b : Int × Int), j < L.length → L.getD j (0, 0) = a → M.getD j (0, 0) = b → (!(a.1 == b.1 && a.2 == b.2)) = true → decide (L = M) = false) := by
      intro j a b hj h1 h2 h3
      rw [decide_eq_false_iff_not]
      intro h
      subst h
      rw [h1] at h2
      subst h2
      simp at h3
    have HF : Hid ((∀ j, j < L.length → L.getD j (0, 0) = M.getD j (0, 0)) → decide (L = M) = true) := by
      intro h
      rw [decide_eq_true_eq]
      refine List.ext_getElem HE.out fun i h1 h2 => ?_
      have := h i h1
      rw [List.getD_eq_getElem?_getD, List.getElem?_eq_getElem h1, List.getD_eq_getElem?_getD, List.getElem?_eq_getElem h2] at this
      simpa using this
    generalize decide (L = M) = r at *
    generalize hn : L.length = n at *
    go_enter Tryz.func185, Tryz.ntmps185
    go_wp2
    go_loopw [13] (fun i wr => ∃ q : Nat, q ≤ n ∧ i = .int .i64 q ∧ (∀ j, j < q → L.getD j (0, 0) = M.getD j (0, 0)) ∧ ∃ nq, wr = w.drewN nq) (fun i _ => n - (intOf i).toNat)
    case atStart => exact ⟨0, Nat.zero_le _, rfl, fun j h => absurd h (by omega), 0, rfl⟩
    case round =>
      obtain ⟨q, hq1, rfl, hrun, n0, rfl⟩ := hrel
      have HR : Hid (∀ j, j < q → L.getD j (0, 0) = M.getD j (0, 0)) := hrun
      clear hrun
      by_cases hlt : q < n
      · obtain ⟨a', rfl, ha'⟩ := ha (by omega)
        obtain ⟨b', rfl, hb''⟩ := hb' (by omega)
        obtain ⟨k1, k2⟩ := ha' q hlt
        obtain ⟨k3, k4⟩ := hb'' q hlt
        generalize hp1 : L.getD q (0, 0) = s1 at *
        generalize hp2 : M.getD q (0, 0) = s2 at *
        have HP1 : Hid (L.getD q (0, 0) = s1) := hp1
        have HP2 : Hid (M.getD q (0, 0) = s2) := hp2
        obtain ⟨f1, t1⟩ := s1
        obtain ⟨f2, t2⟩ := s2
        clear ha hb' ha' hb'' hp1 hp2
        have hqq := eqSpan f1 t1 f2 t2
        go_wp2
        go_quiet (fail)
        go_wp2
        · go_ret
          refine ⟨ret_b ?_, n0 + nq, by simp⟩
          have hh : (!f1 == f2) = true ∨ (!t1 == t2) = true := by assumption
          refine (HQ.out q _ _ hlt HP1.out HP2.out ?_).symm
          rcases hh with hh | hh <;> simp at hh <;> simp [hh]
        · have hh : (!f1 == f2) = false ∧ (!t1 == t2) = false := by assumption
          go_roundw
          case rel =>
            refine ⟨q + 1, by omega, by go_num, fun j hj => ?_, n0 + nq, rfl⟩
            by_cases e : j = q
            · subst e
              rw [HP1.out, HP2.out]
              simp at hh
              rw [hh.1, hh.2]
            · exact HR.out j (by omega)
          case measure => simp [intOf]; omega
      · clear ha hb'
        go_wp2
        go_ret
        refine ⟨ret_b (HF.out fun j hj => HR.out j (by omega)).symm, n0, rfl⟩
  · have HE : Hid (decide (L = M) = false) := by
      rw [Hid, decide_eq_false_iff_not]
      intro h
      exact hne (by rw [h])
    generalize decide (L = M) = r at *
    generalize L.length = n at *
    generalize M.length = m at *
    have hnm : ((n : Int) != (m : Int)) = true := by simp; omega
    clear ha hb
    go_enter Tryz.func185, Tryz.ntmps185
    go_wp2
    go_ret
    exact ⟨ret_b HE.out.symm, 0, rfl⟩

end Go.Proofs.YtofinpocigbbeaaGreat
