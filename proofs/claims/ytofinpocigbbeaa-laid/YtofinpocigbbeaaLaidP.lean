import Derived.Test.YtofinpocigbbeaaPixB
import Derived.Test.YtofinpocigbbeaaPick
import Derived.ProofKit
namespace Go.Proofs.Ytofinpocigbbeaa
open Go.RowKit

theorem mix_eq (s d a : Int) (hs : 0 ≤ s) (hsa : s ≤ a) (ha : a ≤ 255) (hd : 0 ≤ d ∧ d ≤ 255) : mix s d a = s + (d * (255 - a) + 127) / 255 ∧ (d * (255 - a) + 127) / 255 ≤ 255 - a ∧ 0 ≤ (d * (255 - a) + 127) / 255 := by
  have h1 : d * (255 - a) ≤ 255 * (255 - a) := Int.mul_le_mul_of_nonneg_right hd.2 (by omega)
  have h0 : 0 ≤ d * (255 - a) := Int.mul_nonneg hd.1 (by omega)
  unfold mix
  refine ⟨Int.emod_eq_of_lt ?_ ?_, ?_, ?_⟩ <;> omega

theorem mix_full (s d : Int) (hs : 0 ≤ s) (h : s ≤ 255) (hd : 0 ≤ d ∧ d ≤ 255) : mix s d 255 = s := by
  rw [(mix_eq s d 255 hs h (by omega) hd).1]; simp

theorem mix_none (d : Int) (hd : 0 ≤ d ∧ d ≤ 255) : mix 0 d 0 = d := by
  rw [(mix_eq 0 d 0 (by omega) (by omega) (by omega) hd).1]; omega

theorem mix_hides (d : Int) (h0 : 0 ≤ d) (h : d ≤ 255) : mix d 255 d = 255 := by
  rw [(mix_eq d 255 d h0 (by omega) h (by omega)).1]; omega

theorem mix_le (s d a e : Int) (hs : 0 ≤ s) (hsa : s ≤ a) (ha : a ≤ 255) (hd : 0 ≤ d ∧ d ≤ e) (he : e ≤ 255) : 0 ≤ mix s d a ∧ mix s d a ≤ mix a e a ∧ a ≤ mix a e a ∧ e ≤ mix a e a ∧ mix a e a ≤ 255 := by
  have h1 : d * (255 - a) ≤ e * (255 - a) := Int.mul_le_mul_of_nonneg_right hd.2 (by omega)
  have h3 : 0 ≤ a * (255 - e) := Int.mul_nonneg (by omega) (by omega)
  have e1 : a * (255 - e) = 255 * a - a * e := by rw [Int.mul_sub, Int.mul_comm a 255]
  have e2 : e * (255 - a) = 255 * e - a * e := by rw [Int.mul_sub, Int.mul_comm e 255, Int.mul_comm e a]
  obtain ⟨x1, x2, x3⟩ := mix_eq s d a hs hsa ha (by omega)
  obtain ⟨y1, y2, y3⟩ := mix_eq a e a (by omega) (by omega) ha (by omega)
  rw [x1, y1]
  refine ⟨?_, ?_, ?_, ?_, ?_⟩ <;> omega

theorem cell_alloc_old (w : World) (o : Obj) (b off : Nat) (h : b < w.heap.size) : (w.alloc o).cell? ⟨b, off, none⟩ = w.cell? ⟨b, off, none⟩ :=
  (bcell ((Below.refl _ w).alloc (Nat.le_refl _) o)).1 b off h

/-- The law, Over's answer given as numbers. -/
def Answers (a b c d e f g h A B C D : Int) : Prop :=
  ∀ w : World, Calls Try.prog 8 #[.agg #[.int .u8 a, .int .u8 b, .int .u8 c, .int .u8 d], .agg #[.int .u8 e, .int .u8 f, .int .u8 g, .int .u8 h]] w fun x w' =>
        x = .returned (.tuple #[.agg #[.int .u8 A, .int .u8 B, .int .u8 C, .int .u8 D], .int .i64 0]) ∧ Below w.heap.size w w'

theorem answers (a b c d e f g h : Int) (ha : 0 ≤ a ∧ a ≤ d) (hb : 0 ≤ b ∧ b ≤ d) (hc : 0 ≤ c ∧ c ≤ d) (hd : d ≤ 255) (he : 0 ≤ e ∧ e ≤ h) (hf : 0 ≤ f ∧ f ≤ h) (hg : 0 ≤ g ∧ g ≤ h) (hh : h ≤ 255) :
    ∃ A B C D : Int, Answers a b c d e f g h A B C D ∧ ((d == 255) = true → (A == a && (B == b && (C == c && D == d))) = true) ∧ ((d == 0) = true → (A == e && (B == f && (C == g && D == h))) = true) ∧ ((h == 255) = true → (D == 255) = true) ∧ A ≤ D ∧ B ≤ D ∧ C ≤ D ∧ d ≤ D ∧ h ≤ D := by
  have x1 := mix_le a e d h ha.1 ha.2 hd he hh
  have x2 := mix_le b f d h hb.1 hb.2 hd hf hh
  have x3 := mix_le c g d h hc.1 hc.2 hd hg hh
  refine ⟨mix a e d, mix b f d, mix c g d, mix d h d, fun w => povers_yes a b c d e f g h w (by omega) (by omega) (by omega) (by omega) (by omega) (by unfold fitB; simp; omega) (by unfold fitB; simp; omega), ?_, ?_, ?_, x1.2.1, x2.2.1, x3.2.1, x1.2.2.1, x1.2.2.2.1⟩
  · intro hd5
    simp at hd5
    subst hd5
    rw [mix_full a e ha.1 (by omega) (by omega), mix_full b f hb.1 (by omega) (by omega), mix_full c g hc.1 (by omega) (by omega), mix_full 255 h (by omega) (by omega) (by omega)]
    simp
  · intro hd0
    simp at hd0
    subst hd0
    obtain rfl : a = 0 := by omega
    obtain rfl : b = 0 := by omega
    obtain rfl : c = 0 := by omega
    rw [mix_none e (by omega), mix_none f (by omega), mix_none g (by omega), mix_none h (by omega)]
    simp
  · intro h5
    simp at h5
    subst h5
    rw [mix_hides d (by omega) hd]
    rfl

set_option maxRecDepth 100000 in
set_option maxHeartbeats 2000000 in
theorem laid_walk (s t : Int) (w : World) (s0 : -9223372036854775808 ≤ s) (s1 : s ≤ 9223372036854775807) (t0 : -9223372036854775808 ≤ t) (t1 : t ≤ 9223372036854775807) :
    Calls Try.prog 6 #[.int .i64 s, .int .i64 t] w fun x w' => x = .returned (.bool true) ∧ Below w.heap.size w w' := by
  have p1 := fun w => pixel_any s w s0 s1
  have p2 := fun w => pixel_any t w t0 t1
  clear s0 s1 t0 t1
  go_enter Try.func6, Try.ntmps6
  go_wp2_with fail
  refine (p1 _).mono ?_
  rintro x w1 ⟨a, b, c, d, rfl, ha, hb, hc, hd, hb1⟩
  have HB : Hid (Below w.heap.size w w1) := hb1
  have z1 := hb1.size
  clear hb1
  go_wp2_with fail
  refine (p2 _).mono ?_
  rintro x w2 ⟨e, f, g, h, rfl, he, hf, hg, hh, hbm⟩
  have z2 : w1.heap.size < w2.heap.size := by have := hbm.size; simp at this; omega
  obtain ⟨hcm, _⟩ := bcell hbm
  have m0 : w2.cell? ⟨w1.heap.size, 0, none⟩ = some (.int .u8 a) := (hcm _ _ (by simp <;> omega)).trans (by simp)
  have m1 : w2.cell? ⟨w1.heap.size, 1, none⟩ = some (.int .u8 b) := (hcm _ _ (by simp <;> omega)).trans (by simp)
  have m2 : w2.cell? ⟨w1.heap.size, 2, none⟩ = some (.int .u8 c) := (hcm _ _ (by simp <;> omega)).trans (by simp)
  have m3 : w2.cell? ⟨w1.heap.size, 3, none⟩ = some (.int .u8 d) := (hcm _ _ (by simp <;> omega)).trans (by simp)
  have HC : Hid (Below w.heap.size w w2) := Below.trans (HB.out.alloc (by omega) _) (hbm.mono (by simp <;> omega))
  obtain ⟨A, B, C, D, hO, E1, E2, E3, l1, l2, l3, l4, l5⟩ := answers a b c d e f g h ha hb hc hd he hf hg hh
  clear hcm hbm HB p1 p2 ha hb hc hd he hf hg hh
  go_wp2_with fail
  refine (hO _).mono ?_
  rintro x w3 ⟨rfl, hbo⟩
  have z3 : w2.heap.size < w3.heap.size := by have := hbo.size; simp at this; omega
  have z4 : w1.heap.size < w3.heap.size := by omega
  obtain ⟨hco, _⟩ := bcell hbo
  have k0 : w3.cell? ⟨w1.heap.size, 0, none⟩ = some (.int .u8 a) := (hco _ _ (by simp <;> omega)).trans ((cell_alloc_old _ _ _ _ z2).trans m0)
  have k1 : w3.cell? ⟨w1.heap.size, 1, none⟩ = some (.int .u8 b) := (hco _ _ (by simp <;> omega)).trans ((cell_alloc_old _ _ _ _ z2).trans m1)
  have k2 : w3.cell? ⟨w1.heap.size, 2, none⟩ = some (.int .u8 c) := (hco _ _ (by simp <;> omega)).trans ((cell_alloc_old _ _ _ _ z2).trans m2)
  have k3 : w3.cell? ⟨w1.heap.size, 3, none⟩ = some (.int .u8 d) := (hco _ _ (by simp <;> omega)).trans ((cell_alloc_old _ _ _ _ z2).trans m3)
  have n0 : w3.cell? ⟨w2.heap.size, 0, none⟩ = some (.int .u8 e) := (hco _ _ (by simp <;> omega)).trans (by simp)
  have n1 : w3.cell? ⟨w2.heap.size, 1, none⟩ = some (.int .u8 f) := (hco _ _ (by simp <;> omega)).trans (by simp)
  have n2 : w3.cell? ⟨w2.heap.size, 2, none⟩ = some (.int .u8 g) := (hco _ _ (by simp <;> omega)).trans (by simp)
  have n3 : w3.cell? ⟨w2.heap.size, 3, none⟩ = some (.int .u8 h) := (hco _ _ (by simp <;> omega)).trans (by simp)
  have HD : Hid (Below w.heap.size w w3) := Below.trans (HC.out.alloc (by omega) _) (hbo.mono (by simp <;> omega))
  clear hco hbo HC hO m0 m1 m2 m3
  have hq1 := eqPix A B C D a b c d
  have hq2 := eqPix A B C D e f g h
  have c1 : (d == 255) = true ∨ (d == 255) = false := by cases (d == 255) <;> simp
  have c2 : (d == 0) = true ∨ (d == 0) = false := by cases (d == 0) <;> simp
  have c3 : (h == 255) = true ∨ (h == 255) = false := by cases (h == 255) <;> simp
  rcases c1 with c1 | c1
  · have F1 := E1 c1
    rw [F1] at hq1
    have c2 : (d == 0) = false := by simp at c1 ⊢; omega
    clear E1 E2 hq2
    rcases c3 with c3 | c3
    · have F3 := E3 c3
      clear E3
      go_wp2
      go_ret
      exact ⟨rfl, HD.out.alloc (by omega) _⟩
    · clear E3
      go_wp2
      go_ret
      exact ⟨rfl, HD.out.alloc (by omega) _⟩
  · clear E1 hq1
    rcases c2 with c2 | c2
    · have F2 := E2 c2
      rw [F2] at hq2
      clear E2
      rcases c3 with c3 | c3
      · have F3 := E3 c3
        clear E3
        go_wp2
        go_ret
        exact ⟨rfl, HD.out.alloc (by omega) _⟩
      · clear E3
        go_wp2
        go_ret
        exact ⟨rfl, HD.out.alloc (by omega) _⟩
    · clear E2 hq2
      rcases c3 with c3 | c3
      · have F3 := E3 c3
        clear E3
        go_wp2
        go_ret
        exact ⟨rfl, HD.out.alloc (by omega) _⟩
      · clear E3
        go_wp2
        go_ret
        exact ⟨rfl, HD.out.alloc (by omega) _⟩

end Go.Proofs.Ytofinpocigbbeaa
