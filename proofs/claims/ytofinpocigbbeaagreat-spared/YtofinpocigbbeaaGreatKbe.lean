import Derived.Test.YtofinpocigbbeaaGreatKbd
import Derived.Test.YtofinpocigbbeaaGreatKav
namespace Go.Proofs.YtofinpocigbbeaaGreat
open Go.RowKit
attribute [local go_sem ↓] Go.wp_at_zero Go.wp_at_succ

set_option maxRecDepth 100000 in
set_option maxHeartbeats 1000000 in
/-- Grid.At of marks -/
theorem gridAtB_any (W H n g x y K : Nat) (hW : W ≤ 24) (hy : y < 24) (hK : y * W + x = K) (hKn : K < n) (hn : n ≤ 576) (f : Nat → Bool) (w : World) (h : BoolF w g n f) :
    Calls Tryz.prog 192 #[.agg #[.int .i64 W, .int .i64 H, .slice (some ⟨g, 0, none⟩) n n], .int .i64 x, .int .i64 y] w fun e w' => e = .returned (.bool (f K)) ∧ Below w.heap.size w w' := by
  obtain ⟨cur, h1, h2, h3⟩ := h
  have hl := block_lt h1
  have q0 := h3 K hKn
  have c0 : w.cell? ⟨g, K, none⟩ = some (.bool (f K)) := (cell_of_row w g K cur _ _ h1).trans q0
  have e1 : (y : Int) * (W : Int) = ((y * W : Nat) : Int) := by simp
  obtain ⟨M, hM⟩ : ∃ M, y * W = M := ⟨_, rfl⟩
  have hMb : M ≤ 576 := by rw [← hM]; exact Nat.le_trans (Nat.mul_le_mul (show y ≤ 24 by omega) hW) (by omega)
  rw [hM] at e1 hK
  have e2 : (M : Int) + (x : Int) = (K : Int) := by omega
  have hKn' : (K : Int) < (n : Int) := by omega
  have hK0 : (0 : Int) ≤ (K : Int) := by omega
  generalize f K = P at c0
  clear h1 h2 h3 q0 hM hK
  go_enter Tryz.func192, Tryz.ntmps192
  go_wp2_with fail
  go_ret
  exact ⟨rfl, Joins.below_alloc1 w _⟩

/-- A layer as a value. -/
def layV (z0 z1 z2 z3 z4 : Int) (R : R4) (z5 z6 : Int) (pa : Option Addr) (pm pk : Nat) (z7 z8 : Int) (ka : Option Addr) (km kk : Nat) : Array Value :=
  #[.int .i64 z0, .int .i64 z1, .int .i64 z2, .int .i64 z3, .int .i64 z4, .int .i64 R.1, .int .i64 R.2.1, .int .i64 R.2.2.1, .int .i64 R.2.2.2, .int .i64 z5, .int .i64 z6, .slice pa pm pk, .int .i64 z7, .int .i64 z8, .slice ka km kk]

set_option maxRecDepth 100000 in
set_option maxHeartbeats 1000000 in
/-- layer.has -/
theorem layHas_any (z0 z1 z2 z3 z4 : Int) (R : R4) (z5 z6 : Int) (pa : Option Addr) (pm pk : Nat) (z7 z8 : Int) (ka : Option Addr) (km kk : Nat) (x y : Int) (w : World) :
    Calls Tryz.prog 170 #[.agg (layV z0 z1 z2 z3 z4 R z5 z6 pa pm pk z7 z8 ka km kk), .int .i64 x, .int .i64 y] w fun e w' => e = .returned (.bool (inR R x y)) ∧ Below w.heap.size w w' := by
  have HR := hide (rHas_any R x y)
  have HA := hide (fun o => al1 (Nat.le_refl w.heap.size) o)
  unfold layV
  go_enter Tryz.func170, Tryz.ntmps170
  go_wp2_with (go_at_call 189; refine (HR.out _).mono ?_; rintro e w1 ⟨rfl, hb⟩; have HB := hide ((HA.out _).trans (hb.mono (by simp))); clear hb)
  go_ret
  exact ⟨rfl, HB.out⟩

set_option maxRecDepth 100000 in
set_option maxHeartbeats 1000000 in
/-- layer.hides -/
theorem layHides_any (z0 z1 z2 z3 z4 : Int) (R : R4) (z5 z6 : Int) (pa : Option Addr) (pm pk : Nat) (W H : Nat) (ka : Option Addr) (n : Nat) (x y : Int) (f : Nat → Bool) (w : World) (hW : W ≤ 24) (hH : H ≤ 24) (hn : W * H = n)
    (hx : -100000 ≤ x ∧ x ≤ 100000) (hy : -100000 ≤ y ∧ y ≤ 100000) (h1 : -100000 ≤ z1 ∧ z1 ≤ 100000) (h2 : -100000 ≤ z2 ∧ z2 ≤ 100000)
    (hin : inR R x y = true → 0 ≤ x - z1 ∧ x - z1 < W ∧ 0 ≤ y - z2 ∧ y - z2 < H) (hk : 0 < n → ∃ g, ka = some ⟨g, 0, none⟩ ∧ BoolF w g n f) :
    Calls Tryz.prog 188 #[.agg (layV z0 z1 z2 z3 z4 R z5 z6 pa pm pk W H ka n n), .int .i64 x, .int .i64 y] w fun e w' => e = .returned (.bool (inR R x y && f ((y - z2).toNat * W + (x - z1).toNat))) ∧ Below w.heap.size w w' := by
  have HR := hide (layHas_any z0 z1 z2 z3 z4 R z5 z6 pa pm pk W H ka n n x y)
  have HA := hide (fun o => al1 (Nat.le_refl w.heap.size) o)
  unfold layV at HR ⊢
  obtain ⟨t, ht⟩ : ∃ t, inR R x y = t := ⟨_, rfl⟩
  rw [ht] at HR hin ⊢
  cases t with
  | false =>
    go_enter Tryz.func188, Tryz.ntmps188
    go_wp2_with (go_at_call 170; refine (HR.out _).mono ?_; rintro e w1 ⟨rfl, hb⟩; have HB := hide ((HA.out _).trans (hb.mono (by simp))); clear hb)
    go_ret
    exact ⟨rfl, HB.out⟩
  | true =>
    obtain ⟨a1, a2, a3, a4⟩ := hin rfl
    obtain ⟨X, hX⟩ : ∃ X : Nat, x - z1 = (X : Int) := ⟨(x - z1).toNat, by omega⟩
    obtain ⟨Y, hY⟩ : ∃ Y : Nat, y - z2 = (Y : Int) := ⟨(y - z2).toNat, by omega⟩
    rw [hX, hY, Int.toNat_natCast, Int.toNat_natCast, Bool.true_and]
    rw [hX] at a1 a2
    rw [hY] at a3 a4
    have hKn : Y * W + X < n := by
      have e1 : (Y + 1) * W ≤ H * W := Nat.mul_le_mul_right W (by omega)
      have e2 : (Y + 1) * W = Y * W + W := Nat.succ_mul Y W
      have e3 : H * W = n := by rw [Nat.mul_comm]; exact hn
      omega
    have hn2 : n ≤ 576 := by rw [← hn]; exact Nat.le_trans (Nat.mul_le_mul hW hH) (by omega)
    obtain ⟨g, rfl, hg⟩ := hk (by omega)
    have HG : Hid (∀ V : World, Below w.heap.size w V → Calls Tryz.prog 192 #[.agg #[.int .i64 W, .int .i64 H, .slice (some ⟨g, 0, none⟩) n n], .int .i64 (x - z1), .int .i64 (y - z2)] V fun e w' => e = .returned (.bool (f (Y * W + X))) ∧ Below V.heap.size V w') := fun V hV => by
      obtain ⟨cur, q1, q2⟩ := hg
      rw [hX, hY]
      exact gridAtB_any W H n g X Y _ hW (by omega) rfl hKn hn2 f V ⟨cur, (hV.block g (block_lt q1)).trans q1, q2⟩
    generalize f (Y * W + X) = P at *
    have HC : Hid (∀ V : World, Below (w.alloc (.cells #[.int .i64 z0, .int .i64 z1, .int .i64 z2, .int .i64 z3, .int .i64 z4, .int .i64 R.1, .int .i64 R.2.1, .int .i64 R.2.2.1, .int .i64 R.2.2.2, .int .i64 z5, .int .i64 z6, .slice pa pm pk, .int .i64 W, .int .i64 H, .slice (some ⟨g, 0, none⟩) n n] 158)).heap.size (w.alloc (.cells #[.int .i64 z0, .int .i64 z1, .int .i64 z2, .int .i64 z3, .int .i64 z4, .int .i64 R.1, .int .i64 R.2.1, .int .i64 R.2.2.1, .int .i64 R.2.2.2, .int .i64 z5, .int .i64 z6, .slice pa pm pk, .int .i64 W, .int .i64 H, .slice (some ⟨g, 0, none⟩) n n] 158)) V → V.cell? ⟨w.heap.size, 1, none⟩ = some (.int .i64 z1) ∧ V.cell? ⟨w.heap.size, 2, none⟩ = some (.int .i64 z2) ∧ V.cell? ⟨w.heap.size, 12, none⟩ = some (.int .i64 W) ∧ V.cell? ⟨w.heap.size, 13, none⟩ = some (.int .i64 H) ∧ V.cell? ⟨w.heap.size, 14, none⟩ = some (.slice (some ⟨g, 0, none⟩) n n) ∧ w.heap.size < V.heap.size) := fun V hV => by
      have q := (hV.block w.heap.size (by simp)).trans (heap_alloc_new w _)
      exact ⟨cell_of_row _ _ 1 _ _ _ q, cell_of_row _ _ 2 _ _ _ q, cell_of_row _ _ 12 _ _ _ q, cell_of_row _ _ 13 _ _ _ q, cell_of_row _ _ 14 _ _ _ q, block_lt q⟩
    clear hg hk hin a1 a2 a3 a4 hKn ht hX hY
    go_enter Tryz.func188, Tryz.ntmps188
    go_wp2_with (first
      | (go_at_call 170; refine (HR.out _).mono ?_; rintro e w1 ⟨rfl, hb⟩; obtain ⟨d1, d2, d12, d13, d14, hwl⟩ := HC.out w1 hb; have HB := hide ((HA.out _).trans (hb.mono (by simp))); clear hb)
      | (go_at_call 192; refine (HG.out _ HB.out).mono ?_; rintro e w2 ⟨rfl, hb2⟩; have HB2 := hide (HB.out.trans (hb2.mono HB.out.size)); clear hb2))
    go_ret
    exact ⟨rfl, HB2.out⟩

end Go.Proofs.YtofinpocigbbeaaGreat
