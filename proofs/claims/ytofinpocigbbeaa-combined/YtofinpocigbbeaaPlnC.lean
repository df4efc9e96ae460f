import Derived.Test.YtofinpocigbbeaaPlnB
namespace Go.Proofs.Ytofinpocigbbeaa
open Go.RowKit

set_option maxRecDepth 100000 in
set_option maxHeartbeats 2000000 in
theorem plain_any (O : List (Int × Int × List (Int × Int))) (v : Value) (w : World) (hO : Good O) (h : RectsAt w v (rc O)) :
    Calls Try.prog 13 #[v] w fun e w' => e = .returned (.bool true) ∧ Below w.heap.size w w' := by
  have hlen : (rc O).length ≤ 10000000 := by
    have h1 := rc_len hO O.length
    rw [List.take_of_length_le (Nat.le_refl _)] at h1
    have h2 := hO.len
    have := Nat.mul_le_mul_right 2001 h2
    omega
  have HO := hide hO
  have HR := hide h
  obtain ⟨va, vc, hv⟩ := h.form
  obtain ⟨n, hn⟩ : ∃ n, (rc O).length = n := ⟨_, rfl⟩
  have HN := hide hn
  rw [hn] at hv hlen
  have HV := hide hv
  have hAl : ∀ (W : World) (a b c : Nat), Below w.heap.size w W → a ≤ b → b ≤ c → c ≤ n → (a < b → b < c) → ¬ AlikeSaw (rc O) a b c → Calls Try.prog 29 #[.slice va n vc, .int .i64 a, .int .i64 b, .int .i64 c] W fun e w' => e = .returned (.bool false) ∧ ∃ nq, w' = W.drewN nq := by
    intro W a b c hW h1 h2 h3 h4 h5
    have hW2 : RectsAt W (.slice va n vc) (rc O) := by rw [← hv]; exact h.below hW
    refine (alike_any (rc O) _ a b c W hW2 (by omega) h1 h2 (by omega) h4).mono fun e w' hp => ?_
    obtain ⟨r, he, hr, hw⟩ := hp
    refine ⟨?_, hw⟩
    cases r with
    | false => exact he
    | true => exact absurd (hr rfl) h5
  have HAl := hide hAl
  rw [hv]
  clear hO h hv hn hAl
  go_enter Try.func13, Try.ntmps13
  go_wp2
  go_loopg [3, 4, 5] n (fun g s3 s4 s5 wr => ∃ i f ab : Nat, s3 = .int .i64 f ∧ s4 = .int .i64 ab ∧ s5 = .int .i64 i ∧ g + i = n ∧ At O i f ab ∧ Below w.heap.size w wr)
  case atStart => exact ⟨0, 0, 0, rfl, rfl, rfl, by omega, .inl ⟨rfl, rfl, rfl⟩, Below.refl _ _⟩
  case round =>
    obtain ⟨i, f, ab, rfl, rfl, rfl, hgi, hat, hbel⟩ := hrel
    cases gk with
    | zero =>
      have hi : i = n := by omega
      subst hi
      have he := at_end HO.out (f := f) (ab := ab) (by rw [HN.out]; exact hat)
      rw [HN.out] at he
      have hA := HAl.out wr ab f i hbel he.1 he.2.1 (Nat.le_refl _) he.2.2.1 he.2.2.2
      have HB := hide hbel
      clear hat hbel he
      go_wp2_with (go_at_call 29; refine hA.mono ?_; rintro e w' ⟨rfl, nq, rfl⟩)
      go_ret
      exact ⟨rfl, below_drewN HB.out _⟩
    | succ g =>
      have hin : i < n := by omega
      have hlt : (i : Int) < (n : Int) := by omega
      obtain ⟨⟨hx, hy⟩, hcase⟩ := at_rect HO.out hat (by rw [HN.out]; exact hin)
      have hRw := HR.out.below hbel
      obtain ⟨b, off, c, e1, c1, c2, c3, c4⟩ := hRw.at i (by rw [HN.out]; exact hin)
      rw [HV.out, HN.out] at e1
      simp at e1
      obtain ⟨rfl, rfl⟩ := e1
      have hzb := cell_lt c1
      obtain ⟨⟨x0, y0, x1, y1⟩, hr⟩ : ∃ r, (rc O).getD i (0, 0, 0, 0) = r := ⟨_, rfl⟩
      rw [hr] at c1 c2 c3 c4 hx hy hcase
      simp only at c1 c2 c3 c4 hx hy hcase
      have hwr := hbel.size
      have HB := hide hbel
      rcases hcase with ⟨rfl, hat1, rfl, rfl⟩ | ⟨hpos, d1, d2, d3, hat1⟩ | ⟨hpos, d1, d2, hab, hfi, hna, hat1⟩
      · have HAt := hide hat1
        simp only [Nat.zero_mul, Nat.add_zero] at c1 c2 c3 c4
        clear hat hat1 hbel hRw hr
        go_wp2
        go_roundg g
        case measure => omega
        case rel => exact ⟨1, 0, 0, rfl, rfl, by go_num, by omega, HAt.out, HB.out.alloc hwr _⟩
      · have HAt := hide hat1
        obtain ⟨im, him⟩ : ∃ m, i - 1 = m := ⟨_, rfl⟩
        rw [him] at d1 d2 d3
        have hsub : (i : Int) - 1 = (im : Int) := by omega
        obtain ⟨b2, off2, k2, e2, p1, p2, p3, p4⟩ := hRw.at im (by rw [HN.out]; omega)
        rw [HV.out, HN.out] at e2
        simp at e2
        obtain ⟨⟨rfl, rfl⟩, rfl⟩ := e2
        obtain ⟨⟨a0, b0, a1, b1⟩, hp⟩ : ∃ r, (rc O).getD im (0, 0, 0, 0) = r := ⟨_, rfl⟩
        rw [hp] at p1 p2 p3 p4 d1 d2 d3
        simp only at p1 p2 p3 p4 d1 d2 d3
        have himn : im < n := by omega
        have i0 : ((i : Int) == 0) = false := by simp; omega
        have e1 : (b0 == y0) = true := by simpa using d1
        have e2 : (b1 != y1) = false := by simpa using d2
        have HD := hide (And.intro d1 d2)
        clear hat hat1 hbel hRw hr hp him d1 d2
        go_wp2
        go_roundg g
        case measure => omega
        case rel => exact ⟨i + 1, f, ab, rfl, rfl, by go_num, by omega, HAt.out, (HB.out.alloc hwr _).alloc (by simp; omega) _⟩
      · have HAt := hide hat1
        obtain ⟨im, him⟩ : ∃ m, i - 1 = m := ⟨_, rfl⟩
        rw [him] at d1 d2
        have hsub : (i : Int) - 1 = (im : Int) := by omega
        obtain ⟨b2, off2, k2, e2, p1, p2, p3, p4⟩ := hRw.at im (by rw [HN.out]; omega)
        rw [HV.out, HN.out] at e2
        simp at e2
        obtain ⟨⟨rfl, rfl⟩, rfl⟩ := e2
        obtain ⟨⟨a0, b0, a1, b1⟩, hp⟩ : ∃ r, (rc O).getD im (0, 0, 0, 0) = r := ⟨_, rfl⟩
        rw [hp] at p1 p2 p3 p4 d1 d2
        simp only at p1 p2 p3 p4 d1 d2
        have himn : im < n := by omega
        have i0 : ((i : Int) == 0) = false := by simp; omega
        have e1 : (b0 == y0) = false := by simpa using d1
        have hA := fun W hW => HAl.out W ab f i hW hab (by omega) (by omega) (fun _ => hfi) hna
        clear hat hat1 hbel hRw hr hp him d1 hna
        go_wp2_with (go_at_call 29; refine (hA _ ?_).mono ?_; exact (HB.out.alloc hwr _).alloc (by simp; omega) _; rintro e w' ⟨rfl, nq, rfl⟩)
        go_roundg g
        case measure => omega
        case rel => exact ⟨i + 1, i, f, rfl, rfl, by go_num, by omega, HAt.out, below_drewN ((HB.out.alloc hwr _).alloc (by simp; omega) _) _⟩

end Go.Proofs.Ytofinpocigbbeaa
