import Derived.Test.YtofinpocigbbeaaGreatPanS
import Derived.Test.YtofinpocigbbeaaGreatSgC
import Derived.Test.YtofinpocigbbeaaGreatSgD
import Derived.Test.YtofinpocigbbeaaGreatSgP
import Derived.Test.YtofinpocigbbeaaGreatSgE
import Derived.Test.YtofinpocigbbeaaGreatPanE
import Derived.Deep.RegionLaw
/-! Hul -/
namespace Go.Proofs.YtofinpocigbbeaaGreat
open Go.RowKit
attribute [local go_sem ↓] Go.wp_at_zero Go.wp_at_succ

set_option maxRecDepth 100000 in
set_option maxHeartbeats 2000000 in
/-- region.Hull -/
theorem hull_any (p q : R4) (w : World) : Calls Tryz.prog 164 #[.agg (r4C p), .agg (r4C q)] w fun e w' => e = .returned (.agg (r4C (hull p q))) ∧ Below w.heap.size w w' := by
  have H1 : Hid (∀ V : World, Calls Tryz.prog 119 #[.agg #[.int .i64 p.1, .int .i64 p.2.1, .int .i64 p.2.2.1, .int .i64 p.2.2.2]] V fun e w' => e = .returned (.bool (pts p)) ∧ Below V.heap.size V w') := fun V => (hasPoints_any p V).mono fun e w' ⟨h1, o, h2⟩ => ⟨h1, by rw [h2]; exact al1 (Nat.le_refl _) _⟩
  have H2 : Hid (∀ V : World, Calls Tryz.prog 119 #[.agg #[.int .i64 q.1, .int .i64 q.2.1, .int .i64 q.2.2.1, .int .i64 q.2.2.2]] V fun e w' => e = .returned (.bool (pts q)) ∧ Below V.heap.size V w') := fun V => (hasPoints_any q V).mono fun e w' ⟨h1, o, h2⟩ => ⟨h1, by rw [h2]; exact al1 (Nat.le_refl _) _⟩
  obtain ⟨t1, ht1⟩ : ∃ t, pts p = t := ⟨_, rfl⟩
  obtain ⟨t2, ht2⟩ : ∃ t, pts q = t := ⟨_, rfl⟩
  unfold hull r4C
  rw [ht1] at H1 ⊢
  rw [ht2] at H2 ⊢
  clear ht1 ht2
  have HA := hide (al3 (Nat.le_refl w.heap.size) (.cells #[.int .i64 p.1, .int .i64 p.2.1, .int .i64 p.2.2.1, .int .i64 p.2.2.2] 53) (.cells #[.int .i64 q.1, .int .i64 q.2.1, .int .i64 q.2.2.1, .int .i64 q.2.2.2] 53) (.cells #[.int .i64 0, .int .i64 0, .int .i64 0, .int .i64 0] 53))
  have HB0 : Hid (((w.alloc (.cells #[.int .i64 p.1, .int .i64 p.2.1, .int .i64 p.2.2.1, .int .i64 p.2.2.2] 53)).alloc (.cells #[.int .i64 q.1, .int .i64 q.2.1, .int .i64 q.2.2.1, .int .i64 q.2.2.2] 53)).alloc (.cells #[.int .i64 0, .int .i64 0, .int .i64 0, .int .i64 0] 53) = ((w.alloc (.cells #[.int .i64 p.1, .int .i64 p.2.1, .int .i64 p.2.2.1, .int .i64 p.2.2.2] 53)).alloc (.cells #[.int .i64 q.1, .int .i64 q.2.1, .int .i64 q.2.2.1, .int .i64 q.2.2.2] 53)).alloc (.cells #[.int .i64 0, .int .i64 0, .int .i64 0, .int .i64 0] 53)) := rfl
  -- in any world behind the three boxes
  obtain ⟨V, hV⟩ : ∃ V, ((w.alloc (.cells #[.int .i64 p.1, .int .i64 p.2.1, .int .i64 p.2.2.1, .int .i64 p.2.2.2] 53)).alloc (.cells #[.int .i64 q.1, .int .i64 q.2.1, .int .i64 q.2.2.1, .int .i64 q.2.2.2] 53)).alloc (.cells #[.int .i64 0, .int .i64 0, .int .i64 0, .int .i64 0] 53) = V := ⟨_, rfl⟩
  have b1 : Blk V w.heap.size 53 #[.int .i64 p.1, .int .i64 p.2.1, .int .i64 p.2.2.1, .int .i64 p.2.2.2] := by
    rw [← hV]
    exact (heap_old _ _ _ (by simp; omega)).trans ((heap_old _ _ _ (by simp)).trans (heap_alloc_new w _))
  have b2 : Blk V (w.heap.size + 1) 53 #[.int .i64 q.1, .int .i64 q.2.1, .int .i64 q.2.2.1, .int .i64 q.2.2.2] := by
    rw [← hV]
    have := heap_alloc_new (w.alloc (.cells #[.int .i64 p.1, .int .i64 p.2.1, .int .i64 p.2.2.1, .int .i64 p.2.2.2] 53)) (.cells #[.int .i64 q.1, .int .i64 q.2.1, .int .i64 q.2.2.1, .int .i64 q.2.2.2] 53)
    refine (heap_old _ _ _ (by simp)).trans ?_
    simpa using this
  have b3 : HasB V (w.heap.size + 1 + 1) 53 4 := by
    rw [← hV]
    have := HasB.new ((w.alloc (.cells #[.int .i64 p.1, .int .i64 p.2.1, .int .i64 p.2.2.1, .int .i64 p.2.2.2] 53)).alloc (.cells #[.int .i64 q.1, .int .i64 q.2.1, .int .i64 q.2.2.1, .int .i64 q.2.2.2] 53)) #[.int .i64 0, .int .i64 0, .int .i64 0, .int .i64 0] 53
    simpa using this
  rw [hV] at HA
  have HC : Hid (∀ U : World, Below V.heap.size V U → U.cell? ⟨w.heap.size, 0, none⟩ = some (.int .i64 p.1) ∧ U.cell? ⟨w.heap.size, 1, none⟩ = some (.int .i64 p.2.1) ∧ U.cell? ⟨w.heap.size, 2, none⟩ = some (.int .i64 p.2.2.1) ∧ U.cell? ⟨w.heap.size, 3, none⟩ = some (.int .i64 p.2.2.2) ∧ U.cell? ⟨w.heap.size + 1, 0, none⟩ = some (.int .i64 q.1) ∧ U.cell? ⟨w.heap.size + 1, 1, none⟩ = some (.int .i64 q.2.1) ∧ U.cell? ⟨w.heap.size + 1, 2, none⟩ = some (.int .i64 q.2.2.1) ∧ U.cell? ⟨w.heap.size + 1, 3, none⟩ = some (.int .i64 q.2.2.2) ∧ (∃ z0, U.cell? ⟨w.heap.size + 1 + 1, 0, none⟩ = some z0) ∧ (∃ z1, U.cell? ⟨w.heap.size + 1 + 1, 1, none⟩ = some z1) ∧ (∃ z2, U.cell? ⟨w.heap.size + 1 + 1, 2, none⟩ = some z2) ∧ (∃ z3, U.cell? ⟨w.heap.size + 1 + 1, 3, none⟩ = some z3) ∧ (∀ j, U.frozen? ⟨w.heap.size + 1 + 1, j, none⟩ = false) ∧ (∀ u0 u1 u2 u3, Below w.heap.size w ((((U.setCell ⟨w.heap.size + 1 + 1, 0, none⟩ u0).setCell ⟨w.heap.size + 1 + 1, 1, none⟩ u1).setCell ⟨w.heap.size + 1 + 1, 2, none⟩ u2).setCell ⟨w.heap.size + 1 + 1, 3, none⟩ u3)) ∧ w.heap.size + 1 + 1 < U.heap.size) := fun U hU => by
    have d1 := b1.keep (hU.block _ (block_lt b1))
    have d2 := b2.keep (hU.block _ (block_lt b2))
    have d3 := b3.keep (hU.block _ b3.lt)
    have hb := HA.out.trans (hU.mono HA.out.size)
    exact ⟨d1.cell 0, d1.cell 1, d1.cell 2, d1.cell 3, d2.cell 0, d2.cell 1, d2.cell 2, d2.cell 3, d3.cell 0 (by omega), d3.cell 1 (by omega), d3.cell 2 (by omega), d3.cell 3 (by omega), fun j => d3.free j, fun u0 u1 u2 u3 => below_four hb (by omega) _ _ _ _, d3.lt⟩
  have HV := hide hV
  clear HB0 b1 b2 b3 hV
  cases t1 with
  | false =>
    simp only [Bool.false_eq_true, if_false]
    go_enter Tryz.func164, Tryz.ntmps164
    go_upto_region 1 with fail
    rw [HV.out]
    obtain ⟨a0, a1, a2, a3, e0, e1, e2, e3, _⟩ := HC.out V (Below.refl _ _)
    go_wp2_with (first
      | (go_at_call_of 119 (Value.agg #[.int .i64 p.1, .int .i64 p.2.1, .int .i64 p.2.2.1, .int .i64 p.2.2.2]); refine (H1.out _).mono ?_; rintro e w1 ⟨rfl, hb⟩; obtain ⟨m0, m1, m2, m3, n0, n1, n2, n3, ⟨z0, r0⟩, ⟨z1, r1⟩, ⟨z2, r2⟩, ⟨z3, r3⟩, fz, hbl, hl⟩ := HC.out w1 hb; have f0 := fz 0; have f1 := fz 1; have f2 := fz 2; have f3 := fz 3; have HBl := hide hbl; have HB1 := hide hb; clear hb fz hbl)
      | fail)
    exact bodyPost_ret (v := .agg #[.int .i64 q.1, .int .i64 q.2.1, .int .i64 q.2.2.1, .int .i64 q.2.2.2]) (by simp [results, Tryz.results164, go_sem, r0, r1, r2, r3]) rfl ⟨rfl, HBl.out _ _ _ _⟩
  | true =>
    cases t2 with
    | false =>
      simp only [Bool.false_eq_true, if_false, if_true]
      go_enter Tryz.func164, Tryz.ntmps164
      go_upto_region 1 with fail
      rw [HV.out]
      obtain ⟨a0, a1, a2, a3, e0, e1, e2, e3, _⟩ := HC.out V (Below.refl _ _)
      go_wp2_with (first
        | (go_at_call_of 119 (Value.agg #[.int .i64 p.1, .int .i64 p.2.1, .int .i64 p.2.2.1, .int .i64 p.2.2.2]); refine (H1.out _).mono ?_; rintro e w1 ⟨rfl, hb⟩; obtain ⟨m0, m1, m2, m3, n0, n1, n2, n3, ⟨z0, r0⟩, ⟨z1, r1⟩, ⟨z2, r2⟩, ⟨z3, r3⟩, fz, hbl, hl⟩ := HC.out w1 hb; have f0 := fz 0; have f1 := fz 1; have f2 := fz 2; have f3 := fz 3; have HBl := hide hbl; have HB1 := hide hb; clear hb fz hbl)
        | (go_at_call_of 119 (Value.agg #[.int .i64 q.1, .int .i64 q.2.1, .int .i64 q.2.2.1, .int .i64 q.2.2.2]); refine (H2.out _).mono ?_; rintro e w2 ⟨rfl, hb⟩; obtain ⟨m0', m1', m2', m3', n0', n1', n2', n3', ⟨z0', r0'⟩, ⟨z1', r1'⟩, ⟨z2', r2'⟩, ⟨z3', r3'⟩, fz, hbl, hl'⟩ := HC.out w2 (HB1.out.trans (hb.mono HB1.out.size)); have f0' := fz 0; have f1' := fz 1; have f2' := fz 2; have f3' := fz 3; have HBl2 := hide hbl; clear hb fz hbl)
        | fail)
      exact bodyPost_ret (v := .agg #[.int .i64 p.1, .int .i64 p.2.1, .int .i64 p.2.2.1, .int .i64 p.2.2.2]) (by simp [results, Tryz.results164, go_sem, r0', r1', r2', r3']) rfl ⟨rfl, HBl2.out _ _ _ _⟩
    | true =>
      simp only [if_true]
      go_enter Tryz.func164, Tryz.ntmps164
      go_upto_region 1 with fail
      rw [HV.out]
      obtain ⟨a0, a1, a2, a3, e0, e1, e2, e3, _⟩ := HC.out V (Below.refl _ _)
      go_wp2_with (first
        | (go_at_call_of 119 (Value.agg #[.int .i64 p.1, .int .i64 p.2.1, .int .i64 p.2.2.1, .int .i64 p.2.2.2]); refine (H1.out _).mono ?_; rintro e w1 ⟨rfl, hb⟩; obtain ⟨m0, m1, m2, m3, n0, n1, n2, n3, ⟨z0, r0⟩, ⟨z1, r1⟩, ⟨z2, r2⟩, ⟨z3, r3⟩, fz, hbl, hl⟩ := HC.out w1 hb; have f0 := fz 0; have f1 := fz 1; have f2 := fz 2; have f3 := fz 3; have HBl := hide hbl; have HB1 := hide hb; clear hb fz hbl)
        | (go_at_call_of 119 (Value.agg #[.int .i64 q.1, .int .i64 q.2.1, .int .i64 q.2.2.1, .int .i64 q.2.2.2]); refine (H2.out _).mono ?_; rintro e w2 ⟨rfl, hb⟩; obtain ⟨m0', m1', m2', m3', n0', n1', n2', n3', ⟨z0', r0'⟩, ⟨z1', r1'⟩, ⟨z2', r2'⟩, ⟨z3', r3'⟩, fz, hbl, hl'⟩ := HC.out w2 (HB1.out.trans (hb.mono HB1.out.size)); have f0' := fz 0; have f1' := fz 1; have f2' := fz 2; have f3' := fz 3; have HBl2 := hide hbl; clear hb fz hbl)
        | fail)
      all_goals exact bodyPost_ret (v := .agg #[.int .i64 (min p.1 q.1), .int .i64 (min p.2.1 q.2.1), .int .i64 (max p.2.2.1 q.2.2.1), .int .i64 (max p.2.2.2 q.2.2.2)]) (by simp [results, Tryz.results164, go_sem, r0', r1', r2', r3']; try omega) rfl ⟨rfl, HBl2.out _ _ _ _⟩

end Go.Proofs.YtofinpocigbbeaaGreat

/-! Lyr -/
namespace Go.Proofs.YtofinpocigbbeaaGreat
open Go.RowKit
attribute [local go_sem ↓] Go.wp_at_zero Go.wp_at_succ

set_option maxRecDepth 100000 in
set_option maxHeartbeats 1000000 in
/-- Grid.At of marks -/
theorem gridAtB_any (W H n g x y K : Nat) (hW : W ≤ 24) (hy : y < 24) (hK : y * W + x = K) (hKn : K < n) (hn : n ≤ 576) (f : Nat → Bool) (w : World) (h : BoolF w g n f) :
    Calls Tryz.prog 192 #[.agg #[.int .i64 W, .int .i64 H, .slice (some ⟨g, 0, none⟩) n n], .int .i64 x, .int .i64 y] w fun e w' => e = .returned (.bool (f K)) ∧ Below w.heap.size w w' := by
  obtain ⟨cur, h1, h2, h3⟩ := h
  have hl := block_lt h1
  have q0 := h3 K hKn
  have c0 : w.cell? ⟨g, K, none⟩ = some (.bool (f K)) := (cell_of_row w g K cur _ _ h1).trans q0
  have e1 : (y : Int) * (W : Int) = ((y * W : Nat) : Int) := by simp
  obtain ⟨M, hM⟩ : ∃ M, y * W = M := ⟨_, rfl⟩
  have hMb : M ≤ 576 := by rw [← hM]; exact Nat.le_trans (Nat.mul_le_mul (show y ≤ 24 by omega) hW) (by omega)
  rw [hM] at e1 hK
  have e2 : (M : Int) + (x : Int) = (K : Int) := by omega
  have hKn' : (K : Int) < (n : Int) := by omega
  have hK0 : (0 : Int) ≤ (K : Int) := by omega
  generalize f K = P at c0
  clear h1 h2 h3 q0 hM hK
  go_enter Tryz.func192, Tryz.ntmps192
  go_wp2_with fail
  go_ret
  exact ⟨rfl, Joins.below_alloc1 w _⟩

/-- A layer as a value. -/
def layV (z0 z1 z2 z3 z4 : Int) (R : R4) (z5 z6 : Int) (pa : Option Addr) (pm pk : Nat) (z7 z8 : Int) (ka : Option Addr) (km kk : Nat) : Array Value :=
  #[.int .i64 z0, .int .i64 z1, .int .i64 z2, .int .i64 z3, .int .i64 z4, .int .i64 R.1, .int .i64 R.2.1, .int .i64 R.2.2.1, .int .i64 R.2.2.2, .int .i64 z5, .int .i64 z6, .slice pa pm pk, .int .i64 z7, .int .i64 z8, .slice ka km kk]

set_option maxRecDepth 100000 in
set_option maxHeartbeats 1000000 in
/-- layer.has -/
theorem layHas_any (z0 z1 z2 z3 z4 : Int) (R : R4) (z5 z6 : Int) (pa : Option Addr) (pm pk : Nat) (z7 z8 : Int) (ka : Option Addr) (km kk : Nat) (x y : Int) (w : World) :
    Calls Tryz.prog 170 #[.agg (layV z0 z1 z2 z3 z4 R z5 z6 pa pm pk z7 z8 ka km kk), .int .i64 x, .int .i64 y] w fun e w' => e = .returned (.bool (inR R x y)) ∧ Below w.heap.size w w' := by
  have HR := hide (rHas_any R x y)
  have HA := hide (fun o => al1 (Nat.le_refl w.heap.size) o)
  unfold layV
  go_enter Tryz.func170, Tryz.ntmps170
  go_wp2_with (go_at_call 189; refine (HR.out _).mono ?_; rintro e w1 ⟨rfl, hb⟩; have HB := hide ((HA.out _).trans (hb.mono (by simp))); clear hb)
  go_ret
  exact ⟨rfl, HB.out⟩

set_option maxRecDepth 100000 in
set_option maxHeartbeats 1000000 in
/-- layer.hides -/
theorem layHides_any (z0 z1 z2 z3 z4 : Int) (R : R4) (z5 z6 : Int) (pa : Option Addr) (pm pk : Nat) (W H : Nat) (ka : Option Addr) (n : Nat) (x y : Int) (f : Nat → Bool) (w : World) (hW : W ≤ 24) (hH : H ≤ 24) (hn : W * H = n)
    (hx : -100000 ≤ x ∧ x ≤ 100000) (hy : -100000 ≤ y ∧ y ≤ 100000) (h1 : -100000 ≤ z1 ∧ z1 ≤ 100000) (h2 : -100000 ≤ z2 ∧ z2 ≤ 100000)
    (hin : inR R x y = true → 0 ≤ x - z1 ∧ x - z1 < W ∧ 0 ≤ y - z2 ∧ y - z2 < H) (hk : 0 < n → ∃ g, ka = some ⟨g, 0, none⟩ ∧ BoolF w g n f) :
    Calls Tryz.prog 188 #[.agg (layV z0 z1 z2 z3 z4 R z5 z6 pa pm pk W H ka n n), .int .i64 x, .int .i64 y] w fun e w' => e = .returned (.bool (inR R x y && f ((y - z2).toNat * W + (x - z1).toNat))) ∧ Below w.heap.size w w' := by
  have HR := hide (layHas_any z0 z1 z2 z3 z4 R z5 z6 pa pm pk W H ka n n x y)
  have HA := hide (fun o => al1 (Nat.le_refl w.heap.size) o)
  unfold layV at HR ⊢
  obtain ⟨t, ht⟩ : ∃ t, inR R x y = t := ⟨_, rfl⟩
  rw [ht] at HR hin ⊢
  cases t with
  | false =>
    go_enter Tryz.func188, Tryz.ntmps188
    go_wp2_with (go_at_call 170; refine (HR.out _).mono ?_; rintro e w1 ⟨rfl, hb⟩; have HB := hide ((HA.out _).trans (hb.mono (by simp))); clear hb)
    go_ret
    exact ⟨rfl, HB.out⟩
  | true =>
    obtain ⟨a1, a2, a3, a4⟩ := hin rfl
    obtain ⟨X, hX⟩ : ∃ X : Nat, x - z1 = (X : Int) := ⟨(x - z1).toNat, by omega⟩
    obtain ⟨Y, hY⟩ : ∃ Y : Nat, y - z2 = (Y : Int) := ⟨(y - z2).toNat, by omega⟩
    rw [hX, hY, Int.toNat_natCast, Int.toNat_natCast, Bool.true_and]
    rw [hX] at a1 a2
    rw [hY] at a3 a4
    have hKn : Y * W + X < n := by
      have e1 : (Y + 1) * W ≤ H * W := Nat.mul_le_mul_right W (by omega)
      have e2 : (Y + 1) * W = Y * W + W := Nat.succ_mul Y W
      have e3 : H * W = n := by rw [Nat.mul_comm]; exact hn
      omega
    have hn2 : n ≤ 576 := by rw [← hn]; exact Nat.le_trans (Nat.mul_le_mul hW hH) (by omega)
    obtain ⟨g, rfl, hg⟩ := hk (by omega)
    have HG : Hid (∀ V : World, Below w.heap.size w V → Calls Tryz.prog 192 #[.agg #[.int .i64 W, .int .i64 H, .slice (some ⟨g, 0, none⟩) n n], .int .i64 (x - z1), .int .i64 (y - z2)] V fun e w' => e = .returned (.bool (f (Y * W + X))) ∧ Below V.heap.size V w') := fun V hV => by
      obtain ⟨cur, q1, q2⟩ := hg
      rw [hX, hY]
      exact gridAtB_any W H n g X Y _ hW (by omega) rfl hKn hn2 f V ⟨cur, (hV.block g (block_lt q1)).trans q1, q2⟩
    generalize f (Y * W + X) = P at *
    have HC : Hid (∀ V : World, Below (w.alloc (.cells #[.int .i64 z0, .int .i64 z1, .int .i64 z2, .int .i64 z3, .int .i64 z4, .int .i64 R.1, .int .i64 R.2.1, .int .i64 R.2.2.1, .int .i64 R.2.2.2, .int .i64 z5, .int .i64 z6, .slice pa pm pk, .int .i64 W, .int .i64 H, .slice (some ⟨g, 0, none⟩) n n] 158)).heap.size (w.alloc (.cells #[.int .i64 z0, .int .i64 z1, .int .i64 z2, .int .i64 z3, .int .i64 z4, .int .i64 R.1, .int .i64 R.2.1, .int .i64 R.2.2.1, .int .i64 R.2.2.2, .int .i64 z5, .int .i64 z6, .slice pa pm pk, .int .i64 W, .int .i64 H, .slice (some ⟨g, 0, none⟩) n n] 158)) V → V.cell? ⟨w.heap.size, 1, none⟩ = some (.int .i64 z1) ∧ V.cell? ⟨w.heap.size, 2, none⟩ = some (.int .i64 z2) ∧ V.cell? ⟨w.heap.size, 12, none⟩ = some (.int .i64 W) ∧ V.cell? ⟨w.heap.size, 13, none⟩ = some (.int .i64 H) ∧ V.cell? ⟨w.heap.size, 14, none⟩ = some (.slice (some ⟨g, 0, none⟩) n n) ∧ w.heap.size < V.heap.size) := fun V hV => by
      have q := (hV.block w.heap.size (by simp)).trans (heap_alloc_new w _)
      exact ⟨cell_of_row _ _ 1 _ _ _ q, cell_of_row _ _ 2 _ _ _ q, cell_of_row _ _ 12 _ _ _ q, cell_of_row _ _ 13 _ _ _ q, cell_of_row _ _ 14 _ _ _ q, block_lt q⟩
    clear hg hk hin a1 a2 a3 a4 hKn ht hX hY
    go_enter Tryz.func188, Tryz.ntmps188
    go_wp2_with (first
      | (go_at_call 170; refine (HR.out _).mono ?_; rintro e w1 ⟨rfl, hb⟩; obtain ⟨d1, d2, d12, d13, d14, hwl⟩ := HC.out w1 hb; have HB := hide ((HA.out _).trans (hb.mono (by simp))); clear hb)
      | (go_at_call 192; refine (HG.out _ HB.out).mono ?_; rintro e w2 ⟨rfl, hb2⟩; have HB2 := hide (HB.out.trans (hb2.mono HB.out.size)); clear hb2))
    go_ret
    exact ⟨rfl, HB2.out⟩

end Go.Proofs.YtofinpocigbbeaaGreat

/-! Unh -/
namespace Go.Proofs.YtofinpocigbbeaaGreat
open Go.RowKit
attribute [local go_sem ↓] Go.wp_at_zero Go.wp_at_succ

/-! ### The picture -/

/-- Where in a surface's buffer a point of the screen lies. -/
def St.ixAt (st : St) (i : Nat) (x y : Int) : Nat := (y - st.py i).toNat * (st.sf i).now.w.toNat + (x - st.px i).toNat

def St.hidesAt (st : St) (x y : Int) (i : Nat) : Bool := inR (st.seen i) x y && (st.sf i).kept (st.ixAt i x y)

/-- From the front on: where the first one that hides stands, down to k; 0 if there is none. -/
def cutAt (p : Nat → Bool) (L : List Nat) : Nat → Nat
  | 0 => 0
  | k + 1 => if p (L.getD (k + 1) 0) = true then k + 1 else cutAt p L k

theorem cutAt_le (p : Nat → Bool) (L : List Nat) : ∀ k, cutAt p L k ≤ k
  | 0 => Nat.le_refl _
  | k + 1 => by
    unfold cutAt
    split
    · exact Nat.le_refl _
    · exact Nat.le_succ_of_le (cutAt_le p L k)

def St.unh (st : St) (L : List Nat) (x y : Int) : List Nat := L.drop (cutAt (st.hidesAt x y) L (L.length - 1))

theorem LayAt.drop {w : World} {st : St} {G : Int → Nat → Value} {L : List Nat} {b off n c : Nat} (h : LayAt w (.slice (some ⟨b, off, none⟩) n c) st G L) (k : Nat) (hk : k < n) : LayAt w (.slice (some ⟨b, off + k * 15, none⟩) (n - k) (c - k)) st G (L.drop k) := by
  obtain ⟨a', c', hv, hc⟩ := h
  injection hv with e1 e2 e3
  subst e1 e3
  obtain ⟨h1, b', off', ha, hcs⟩ := hc (by omega)
  injection ha with ha
  injection ha with ha1 ha2
  subst ha1 ha2
  refine ⟨_, _, by rw [List.length_drop, e2], fun _ => ⟨by rw [List.length_drop]; omega, b, off + k * 15, rfl, fun m hm j u hu => ?_⟩⟩
  rw [List.length_drop] at hm
  rw [List.getElem_drop] at hu
  have := hcs (k + m) (by omega) j u hu
  rw [show off + k * 15 + m * 15 + j = off + (k + m) * 15 + j by rw [Nat.add_mul]; omega]
  exact this

/-- What a layer's slices hold. -/
structure LayD (w : World) (st : St) (G : Int → Nat → Value) (i : Nat) : Prop where
  pix : PixV w (fun _ => True) (G i 5) (st.sf i).now.n (st.sf i).now.pix
  kept : BoolV w (fun _ => True) (G i 30) (st.sf i).now.n (st.sf i).kept

theorem LayD.below {w w' : World} {st : St} {G : Int → Nat → Value} {i : Nat} (h : LayD w st G i) (hb : Below w.heap.size w w') : LayD w' st G i :=
  ⟨h.pix.keepS (fun _ h => h) fun g _ _ e => hb.block g (block_lt e), h.kept.keepS (fun _ h => h) fun g _ _ e => hb.block g (block_lt e)⟩

theorem seen_in {st : St} {i : Nat} {x y : Int} (h : inR (st.seen i) x y = true) : 0 ≤ x - st.px i ∧ x - st.px i < (st.sf i).now.w ∧ 0 ≤ y - st.py i ∧ y - st.py i < (st.sf i).now.h := by
  unfold inR St.seen St.buf mv meet at h
  simp only [decide_eq_true_eq] at h
  omega

set_option maxRecDepth 100000 in
set_option maxHeartbeats 2000000 in
/-- Picture.unhidden -/
theorem unhidden_any {w : World} {st : St} (hw : Wf st) {G : Int → Nat → Value} {L : List Nat} {v : Value} (h : LayAt w v st G L) (hd : ∀ i ∈ L, i < st.sfs.length ∧ LayD w st G i) (hn : L.length ≤ 1000) (x y : Int) (hx : 0 ≤ x ∧ x ≤ 100) (hy : 0 ≤ y ∧ y ≤ 100) :
    Calls Tryz.prog 169 #[.agg #[v], .int .i64 x, .int .i64 y] w fun e w' => ∃ v', e = .returned v' ∧ LayAt w' v' st G (st.unh L x y) ∧ Below w.heap.size w w' := by
  have HL := hide h
  obtain ⟨la, lc, rfl, _⟩ := h
  obtain ⟨n, hln⟩ : ∃ n, L.length = n := ⟨_, rfl⟩
  have HN := hide hln
  have HH : Hid (∀ (k : Nat) (hk : k < L.length) (V : World), Below w.heap.size w V → ∃ (z0 z1 z2 z3 z4 : Int) (R : R4) (z5 z6 : Int) (pa : Option Addr) (pm pk : Nat) (z7 z8 : Int) (ka : Option Addr) (km kk : Nat), (layC st G L[k]).toArray = layV z0 z1 z2 z3 z4 R z5 z6 pa pm pk z7 z8 ka km kk ∧ Calls Tryz.prog 188 #[.agg (layV z0 z1 z2 z3 z4 R z5 z6 pa pm pk z7 z8 ka km kk), .int .i64 x, .int .i64 y] V fun e w' => e = .returned (.bool (st.hidesAt x y L[k])) ∧ Below V.heap.size V w') := fun k hk V hV => by
    obtain ⟨hil, hld⟩ := hd L[k] (List.getElem_mem hk)
    obtain ⟨i, hi⟩ : ∃ i, L[k] = i := ⟨_, rfl⟩
    rw [hi] at hil hld ⊢
    replace hld := hld.below hV
    obtain ⟨pa, e5, _⟩ := hld.pix
    obtain ⟨ka, e30, hkb⟩ := hld.kept
    have lk := (hw.lk i).1
    obtain ⟨W, hW⟩ : ∃ W : Nat, (st.sf i).now.w = (W : Int) := ⟨(st.sf i).now.w.toNat, by have := lk.w; omega⟩
    obtain ⟨H, hH⟩ : ∃ H : Nat, (st.sf i).now.h = (H : Int) := ⟨(st.sf i).now.h.toNat, by have := lk.h; omega⟩
    have hnn : (st.sf i).now.n = W * H := by unfold Look.n; rw [hW, hH, ← Int.natCast_mul, Int.toNat_natCast]
    have pl := px_lim hw (i : Int) (by omega)
    refine ⟨i, st.px i, st.py i, W, H, st.seen i, W, H, pa, (st.sf i).now.n, (st.sf i).now.n, W, H, ka, (st.sf i).now.n, (st.sf i).now.n, ?_, ?_⟩
    · unfold layC layV
      rw [e5, e30, hW, hH]
    · have := layHides_any i (st.px i) (st.py i) W H (st.seen i) W H pa (st.sf i).now.n (st.sf i).now.n W H ka (st.sf i).now.n x y (st.sf i).kept V (by have := lk.w; omega) (by have := lk.h; omega) hnn.symm (by omega) (by omega) (by omega) (by omega) (fun hin => by have := seen_in hin; omega) (fun hp => let ⟨g, g1, _, g3⟩ := hkb hp; ⟨g, g1, g3⟩)
      refine this.mono fun e w' ⟨q1, q2⟩ => ⟨?_, q2⟩
      rw [q1]
      unfold St.hidesAt St.ixAt
      rw [hW, Int.toNat_natCast]
  have HA := hide (fun o => al1 (Nat.le_refl w.heap.size) o)
  rw [hln] at hn ⊢
  clear hd hln
  go_enter Tryz.func169, Tryz.ntmps169
  go_wp2_with fail
  have HB0 : Hid (Below w.heap.size w (w.alloc (.cells #[.slice la n lc] 95)) ∧ Blk (w.alloc (.cells #[.slice la n lc] 95)) w.heap.size 95 #[.slice la n lc]) := ⟨HA.out _, heap_alloc_new w _⟩
  go_loopg [7] n (fun gg s7 wr => ∃ k : Int, s7 = .int .i64 k ∧ -1 ≤ k ∧ k < n ∧ k ≤ gg ∧ cutAt (st.hidesAt x y) L (n - 1) = cutAt (st.hidesAt x y) L k.toNat ∧ Below w.heap.size w wr ∧ Blk wr w.heap.size 95 #[.slice la n lc])
  case atStart => exact ⟨(n : Int) - 1, by go_num, by omega, by omega, by omega, by rw [show ((n : Int) - 1).toNat = n - 1 by omega], HB0.out⟩
  case round =>
    rename World => wr
    obtain ⟨k, rfl, hk1, hk2, hkg, hcut, hbel, hblk⟩ := hrel
    have p0 : wr.cell? ⟨w.heap.size, 0, none⟩ = some (.slice la n lc) := hblk.cell 0
    have hpl := cell_lt p0
    have HB := hide (And.intro hbel (And.intro hblk hcut))
    clear hbel hblk hcut
    by_cases hk0 : 0 < k
    · obtain ⟨m, rfl⟩ : ∃ m : Nat, k = ((m + 1 : Nat) : Int) := ⟨(k - 1).toNat, by omega⟩
      have hmn : m + 1 < L.length := by have := HN.out; omega
      obtain ⟨a', c', hv', hcs⟩ := HL.out.below HB.out.1
      injection hv' with e1 e2 e3
      subst e1 e3
      clear e2
      obtain ⟨hlc, b, off, ha, hcell⟩ := hcs (by omega)
      subst ha
      have hc := hcell (m + 1) hmn
      obtain ⟨z0, z1, z2, z3, z4, R, z5, z6, pa, pm, pk, z7, z8, ka, km, kk, hlv, hcall⟩ := HH.out (m + 1) hmn wr HB.out.1
      have hc2 : ∀ j u, (layV z0 z1 z2 z3 z4 R z5 z6 pa pm pk z7 z8 ka km kk)[j]? = some u → wr.cell? ⟨b, off + (m + 1) * 15 + j, none⟩ = some u := fun j u hu => hc j u (by rw [← hlv] at hu; simpa using hu)
      unfold layV at hc2 hcall
      have c0 := hc2 0 _ rfl
      have c1 := hc2 1 _ rfl
      have c2 := hc2 2 _ rfl
      have c3 := hc2 3 _ rfl
      have c4 := hc2 4 _ rfl
      have c5 := hc2 5 _ rfl
      have c6 := hc2 6 _ rfl
      have c7 := hc2 7 _ rfl
      have c8 := hc2 8 _ rfl
      have c9 := hc2 9 _ rfl
      have c10 := hc2 10 _ rfl
      have c11 := hc2 11 _ rfl
      have c12 := hc2 12 _ rfl
      have c13 := hc2 13 _ rfl
      have c14 := hc2 14 _ rfl
      rw [Nat.add_zero] at c0
      have hbl := cell_lt c0
      have hkc : m + 1 < lc := by have := HN.out; omega
      have hgd : L.getD (m + 1) 0 = L[m + 1] := by rw [List.getD_eq_getElem?_getD, List.getElem?_eq_getElem hmn]; rfl
      have hct : cutAt (st.hidesAt x y) L (n - 1) = if st.hidesAt x y L[m + 1] = true then m + 1 else cutAt (st.hidesAt x y) L m := by
        rw [HB.out.2.2, Int.toNat_natCast]
        conv => lhs; unfold cutAt
        rw [hgd]
      obtain ⟨t, ht⟩ : ∃ t, st.hidesAt x y L[m + 1] = t := ⟨_, rfl⟩
      rw [ht] at hcall hct
      have HC := hide hcall
      have HCt := hide hct
      obtain ⟨M, hM⟩ : ∃ M, m + 1 = M := ⟨_, rfl⟩
      rw [hM] at c0 c1 c2 c3 c4 c5 c6 c7 c8 c9 c10 c11 c12 c13 c14 hkc hk0 hk2 hk1 hkg HCt ⊢
      have hMn : M < n := by omega
      have hM0 : 0 ≤ (M : Int) := by omega
      clear hcs hcell hc hc2 hlv hcall hct hgd HH ht
      cases t with
      | true =>
        rw [if_pos rfl] at HCt
        go_wp2_with (go_at_call 188; refine HC.out.mono ?_; rintro e w2 ⟨rfl, hb2⟩; have p2 : w2.cell? ⟨w.heap.size, 0, none⟩ = some (.slice (some ⟨b, off, none⟩) n lc) := (hb2.cell (p := ⟨w.heap.size, 0, none⟩) hpl).trans p0; have hpl2 := cell_lt p2; have HB2 := hide hb2; clear hb2)
        go_ret
        refine ⟨_, rfl, ?_, HB.out.1.trans (HB2.out.mono HB.out.1.size)⟩
        unfold St.unh
        rw [HN.out, HCt.out]
        have hdr := (HL.out.below HB.out.1).below HB2.out
        rw [HN.out] at hdr
        exact hdr.drop M hMn
      | false =>
        rw [if_neg (by simp)] at HCt
        cases gk with
        | zero => omega
        | succ gk =>
          go_wp2_with (go_at_call 188; refine HC.out.mono ?_; rintro e w2 ⟨rfl, hb2⟩; have HB2 := hide hb2; clear hb2)
          go_roundg gk
          case measure => omega
          case rel =>
            refine ⟨(M : Int) - 1, by go_num, by omega, by omega, by omega, ?_, HB.out.1.trans (HB2.out.mono HB.out.1.size), HB.out.2.1.keep (HB2.out.block _ (block_lt HB.out.2.1))⟩
            rw [HCt.out, show ((M : Int) - 1).toNat = m by omega]
    · have hk0' : ¬ 0 < k := hk0
      go_wp2_with fail
      go_ret
      refine ⟨_, rfl, ?_, HB.out.1⟩
      unfold St.unh
      rw [HN.out, HB.out.2.2, show k.toNat = 0 by omega]
      show LayAt _ _ st G (L.drop 0)
      rw [List.drop_zero, ← HN.out]
      exact HL.out.below HB.out.1

end Go.Proofs.YtofinpocigbbeaaGreat

/-! Ixa -/
namespace Go.Proofs.YtofinpocigbbeaaGreat
open Go.RowKit

theorem ixAt_lt {st : St} (hw : Wf st) {i : Nat} {x y : Int} (h : inR (st.seen i) x y = true) : st.ixAt i x y < (st.sf i).now.n := by
  have h1 := seen_in h
  have lk := (hw.lk i).1
  obtain ⟨W, hW⟩ : ∃ W : Nat, (st.sf i).now.w = (W : Int) := ⟨(st.sf i).now.w.toNat, by have := lk.w; omega⟩
  obtain ⟨H, hH⟩ : ∃ H : Nat, (st.sf i).now.h = (H : Int) := ⟨(st.sf i).now.h.toNat, by have := lk.h; omega⟩
  unfold St.ixAt Look.n
  rw [hW, hH, ← Int.natCast_mul, Int.toNat_natCast, Int.toNat_natCast]
  rw [hW, hH] at h1
  obtain ⟨X, hX⟩ : ∃ X : Nat, x - st.px i = (X : Int) := ⟨(x - st.px i).toNat, by omega⟩
  obtain ⟨Y, hY⟩ : ∃ Y : Nat, y - st.py i = (Y : Int) := ⟨(y - st.py i).toNat, by omega⟩
  rw [hX, hY, Int.toNat_natCast, Int.toNat_natCast]
  have e1 : (Y + 1) * W ≤ H * W := Nat.mul_le_mul_right W (by omega)
  have e2 : (Y + 1) * W = Y * W + W := Nat.succ_mul Y W
  have e3 : H * W = W * H := Nat.mul_comm _ _
  omega

end Go.Proofs.YtofinpocigbbeaaGreat

/-! Otp -/
namespace Go.Proofs.YtofinpocigbbeaaGreat
open Go.RowKit
attribute [local go_sem ↓] Go.wp_at_zero Go.wp_at_succ

/-! ### The smallest rectangle with all points that have changed -/

def foldTo (step : Nat → R4 → R4) : Nat → R4 → R4
  | 0, h => h
  | m + 1, h => step m (foldTo step m h)

/-- A row. -/
def otherRow (p : Int → Int → Bool) (x0 y : Int) (m : Nat) (h : R4) : R4 := foldTo (fun a h => if p (x0 + a) y = true then hull h (x0 + a, y, x0 + a + 1, y + 1) else h) m h

/-- So many rows of a rectangle. -/
def otherTo (p : Int → Int → Bool) (R : R4) (m : Nat) : R4 := foldTo (fun b h => otherRow p R.1 (R.2.1 + b) (R.2.2.1 - R.1).toNat h) m (0, 0, 0, 0)

def otherIn (p : Int → Int → Bool) (R : R4) : R4 := otherTo p R (R.2.2.2 - R.2.1).toNat

def diffP (a b : R4) : Bool := !(a.1 == b.1 && (a.2.1 == b.2.1 && (a.2.2.1 == b.2.2.1 && a.2.2.2 == b.2.2.2)))

theorem diffP_iff (a b : R4) : diffP a b = true ↔ a ≠ b := by
  obtain ⟨a0, a1, a2, a3⟩ := a
  obtain ⟨b0, b1, b2, b3⟩ := b
  unfold diffP
  simp
  omega

/-- Where a surface's pixels are others than these. -/
def St.otherAt (st : St) (i : Nat) (old : Nat → R4) (x y : Int) : Bool := diffP (old (st.ixAt i x y)) ((st.sf i).now.pix (st.ixAt i x y))

theorem openL_scr (st : St) : ∀ l : List Nat, 0 ≤ (st.openL l).1 ∧ 0 ≤ (st.openL l).2.1 ∧ (st.openL l).2.2.1 ≤ st.w ∧ (st.openL l).2.2.2 ≤ st.h
  | [] => by unfold St.openL; simp
  | i :: l => by
    have h := openL_scr st l
    unfold St.openL St.cutBy
    split
    · unfold meet
      simp only
      omega
    · exact h

theorem seen_scr (st : St) (i : Nat) : 0 ≤ (st.seen i).1 ∧ 0 ≤ (st.seen i).2.1 ∧ (st.seen i).2.2.1 ≤ st.w ∧ (st.seen i).2.2.2 ≤ st.h := by
  have h := openL_scr st (st.chain i)
  unfold St.seen meet
  simp only
  omega

/-- What the loops have at hand. -/
structure OtM (w wr : World) (W H n : Nat) (oa : Option Addr) (vb : Nat) (vc : Array Value) (h : R4) : Prop where
  bel : Below w.heap.size w wr
  was : Blk wr w.heap.size 122 #[.int .i64 W, .int .i64 H, .slice oa n n]
  res : HasB wr (w.heap.size + 1) 53 4
  hul : Blk wr (w.heap.size + 1 + 1) 53 #[.int .i64 h.1, .int .i64 h.2.1, .int .i64 h.2.2.1, .int .i64 h.2.2.2]
  vw : Blk wr vb 59 vc
  vlo : w.heap.size + 1 + 1 < vb

theorem OtM.below {w wr wx : World} {W H n : Nat} {oa : Option Addr} {vb : Nat} {vc : Array Value} {h : R4} (k : OtM w wr W H n oa vb vc h) (hb : Below wr.heap.size wr wx) : OtM w wx W H n oa vb vc h :=
  ⟨k.bel.trans (hb.mono k.bel.size), k.was.keep (hb.block _ (block_lt k.was)), k.res.keep (hb.block _ k.res.lt), k.hul.keep (hb.block _ (block_lt k.hul)), k.vw.keep (hb.block _ (block_lt k.vw)), k.vlo⟩

theorem OtM.store {w wr : World} {W H n : Nat} {oa : Option Addr} {vb : Nat} {vc : Array Value} {h : R4} (k : OtM w wr W H n oa vb vc h) (q : R4) : OtM w ((((wr.setCell ⟨w.heap.size + 1 + 1, 0, none⟩ (.int .i64 q.1)).setCell ⟨w.heap.size + 1 + 1, 1, none⟩ (.int .i64 q.2.1)).setCell ⟨w.heap.size + 1 + 1, 2, none⟩ (.int .i64 q.2.2.1)).setCell ⟨w.heap.size + 1 + 1, 3, none⟩ (.int .i64 q.2.2.2)) W H n oa vb vc q := by
  have hl := k.vlo
  refine ⟨below_four k.bel (by omega) _ _ _ _, k.was.keep (other_four (by omega) _ _ _ _), k.res.keep (other_four (by omega) _ _ _ _), ?_, k.vw.keep (other_four (by omega) _ _ _ _), k.vlo⟩
  have := k.hul.has
  exact HasB.four (w := wr) (b := w.heap.size + 1 + 1) (T := 53) this _ _ _ _

set_option linter.unusedSimpArgs false in
set_option maxRecDepth 100000 in
set_option maxHeartbeats 4000000 in
/-- (*Surface).otherPixels -/
theorem otherPixels_any {w : World} {S : Nat → Prop} {x : Nat} {st : St} (hw : Wf st) {bv : Value} {sc mp : Nat} {blk : Int → Nat} {G : Int → Nat → Value} (h : PRaw w S x st bv sc mp blk G) (i : Nat) (hi : i ∈ st.order) (oa : Option Addr) (old : Nat → R4)
    (ho : 0 < (st.sf i).now.n → ∃ g, oa = some ⟨g, 0, none⟩ ∧ PixF w g (st.sf i).now.n old) :
    Calls Tryz.prog 109 #[.pointer (some ⟨blk i, 0, none⟩), .agg #[.int .i64 (st.sf i).now.w, .int .i64 (st.sf i).now.h, .slice oa (st.sf i).now.n (st.sf i).now.n]] w fun e w' => e = .returned (.agg (r4C (otherIn (st.otherAt i old) (st.seen i)))) ∧ Below w.heap.size w w' := by
  have hil := hw.lt hi
  obtain ⟨kc, kf, kl⟩ := h.at (live_nat hi)
  have q := (h.cells i (live_nat hi)).nat
  have d := h.data i hi
  have lk := (hw.lk i).1
  have lw := lk.w
  have lh := lk.h
  obtain ⟨W, hW⟩ : ∃ W : Nat, (st.sf i).now.w = (W : Int) := ⟨(st.sf i).now.w.toNat, by omega⟩
  obtain ⟨H, hH⟩ : ∃ H : Nat, (st.sf i).now.h = (H : Int) := ⟨(st.sf i).now.h.toNat, by omega⟩
  have hnn : (st.sf i).now.n = W * H := by unfold Look.n; rw [hW, hH, ← Int.natCast_mul, Int.toNat_natCast]
  obtain ⟨pa, e5, hpx⟩ := d.pix
  have pl := px_lim hw (i : Int) (by omega)
  have hscr := seen_scr st i
  have hww := hw.ww
  have hhh := hw.hh
  have HView := hide (fun V hV => view_any hw h (i : Int) (live_nat hi) V hV)
  have hvc : viewC st (i : Int) = #[.int .i64 (i : Int), .int .i64 (st.px i), .int .i64 (st.py i), .int .i64 W, .int .i64 H, .int .i64 (st.seen i).1, .int .i64 (st.seen i).2.1, .int .i64 (st.seen i).2.2.1, .int .i64 (st.seen i).2.2.2] := by
    rw [viewC_nat]
    unfold vCells
    rw [hW, hH]
  rw [hvc] at HView
  have hG : ∀ V : World, Below w.heap.size w V → V.cell? ⟨blk i, 3, none⟩ = some (.int .i64 W) ∧ V.cell? ⟨blk i, 4, none⟩ = some (.int .i64 H) ∧ V.cell? ⟨blk i, 5, none⟩ = some (.slice pa (st.sf i).now.n (st.sf i).now.n) ∧ blk i < V.heap.size := fun V hV => by
    have hc : ∀ o, o < 31 → V.cell? ⟨blk i, o, none⟩ = some (G i o) := fun o ho => (hV.cell (p := ⟨blk i, o, none⟩) kl).trans (kc o ho)
    exact ⟨by rw [hc 3 (by omega), show G i 3 = _ from q.now.w, hW], by rw [hc 4 (by omega), show G i 4 = _ from q.now.h, hH], by rw [hc 5 (by omega), e5], Nat.lt_of_lt_of_le kl hV.size⟩
  have HG := hide hG
  -- the two pixels at a point
  have HPx : Hid (∀ (X Y : Int), inR (st.seen i) X Y = true → ∃ (K xx yy : Nat) (og pg : Nat), X - st.px i = xx ∧ Y - st.py i = yy ∧ oa = some ⟨og, 0, none⟩ ∧ pa = some ⟨pg, 0, none⟩ ∧ st.ixAt i X Y = K ∧ (∀ V : World, Below w.heap.size w V → Calls Tryz.prog 162 #[.agg #[.int .i64 W, .int .i64 H, .slice (some ⟨og, 0, none⟩) (st.sf i).now.n (st.sf i).now.n], .int .i64 (X - st.px i), .int .i64 (Y - st.py i)] V fun e w' => e = .returned (.agg (pixC (old K))) ∧ Below V.heap.size V w') ∧ (∀ V : World, Below w.heap.size w V → Calls Tryz.prog 162 #[.agg #[.int .i64 W, .int .i64 H, .slice (some ⟨pg, 0, none⟩) (st.sf i).now.n (st.sf i).now.n], .int .i64 (X - st.px i), .int .i64 (Y - st.py i)] V fun e w' => e = .returned (.agg (pixC ((st.sf i).now.pix K))) ∧ Below V.heap.size V w')) := fun X Y hin => by
    have h1 := seen_in hin
    have hix := ixAt_lt hw hin
    obtain ⟨og, hog, hof⟩ := ho (by omega)
    obtain ⟨pg, hpg, _, hpf⟩ := hpx (by omega)
    rw [hW] at h1
    rw [hH] at h1
    have hn2 : (st.sf i).now.n ≤ 576 := by
      rw [hnn]
      exact Nat.le_trans (Nat.mul_le_mul (show W ≤ 24 by omega) (show H ≤ 24 by omega)) (by omega)
    have hK : (Y - st.py i).toNat * W + (X - st.px i).toNat = st.ixAt i X Y := by
      unfold St.ixAt
      rw [hW, Int.toNat_natCast]
    refine ⟨st.ixAt i X Y, (X - st.px i).toNat, (Y - st.py i).toNat, og, pg, by omega, by omega, hog, hpg, rfl, fun V hV => ?_, fun V hV => ?_⟩
    · rw [show X - st.px i = (((X - st.px i).toNat : Nat) : Int) by omega, show Y - st.py i = (((Y - st.py i).toNat : Nat) : Int) by omega]
      exact gridAt_any W H _ og _ _ _ (by omega) (by omega) hK hix hn2 old V (hof.keep (hV.block og hof.has.lt))
    · rw [show X - st.px i = (((X - st.px i).toNat : Nat) : Int) by omega, show Y - st.py i = (((Y - st.py i).toNat : Nat) : Int) by omega]
      exact gridAt_any W H _ pg _ _ _ (by omega) (by omega) hK hix hn2 _ V (hpf.keep (hV.block pg hpf.has.lt))
  have HH := hide (fun (a b : R4) (V : World) => hull_any a b V)
  unfold r4C at HH
  have hpd : ∀ (X Y : Int) (K : Nat), st.ixAt i X Y = K → st.otherAt i old X Y = diffP (old K) ((st.sf i).now.pix K) := fun X Y K e => by unfold St.otherAt; rw [e]
  have HPd := hide hpd
  obtain ⟨pd, hpdE⟩ : ∃ pd, st.otherAt i old = pd := ⟨_, rfl⟩
  rw [hpdE] at HPd ⊢
  obtain ⟨R, hR⟩ : ∃ R, st.seen i = R := ⟨_, rfl⟩
  rw [hR] at HView hscr HPx ⊢
  obtain ⟨zx, hzx⟩ : ∃ z, st.px (i : Int) = z := ⟨_, rfl⟩
  obtain ⟨zy, hzy⟩ : ∃ z, st.py (i : Int) = z := ⟨_, rfl⟩
  rw [hzx, hzy] at HView HPx pl
  obtain ⟨n, hnE⟩ : ∃ n, (st.sf i).now.n = n := ⟨_, rfl⟩
  rw [hnE] at HG HPx ⊢
  obtain ⟨N, hN⟩ : ∃ N, (st.sf i).now.pix = N := ⟨_, rfl⟩
  rw [hN] at HPx HPd
  obtain ⟨gb, hgb⟩ : ∃ gb, blk (i : Int) = gb := ⟨_, rfl⟩
  rw [hgb] at HView HG kl ⊢
  rw [hW, hH]
  obtain ⟨hs0, hs1, hs2, hs3⟩ := hscr
  have hX1 : R.2.2.1 ≤ 24 := by omega
  have hY1 : R.2.2.2 ≤ 24 := by omega
  clear h kc kf q d lk hpx e5 hvc hpd hpdE hR hzx hzy hnE hN hgb hG ho hw hww hhh hs2 hs3 hnn hil
  go_enter Tryz.func109, Tryz.ntmps109
  have HA0 : Hid (∀ w1 : World, Below (((w.alloc (.cells #[.int .i64 W, .int .i64 H, .slice oa n n] 122)).alloc (.cells #[.int .i64 0, .int .i64 0, .int .i64 0, .int .i64 0] 53)).alloc (.cells #[.int .i64 0, .int .i64 0, .int .i64 0, .int .i64 0] 53)).heap.size (((w.alloc (.cells #[.int .i64 W, .int .i64 H, .slice oa n n] 122)).alloc (.cells #[.int .i64 0, .int .i64 0, .int .i64 0, .int .i64 0] 53)).alloc (.cells #[.int .i64 0, .int .i64 0, .int .i64 0, .int .i64 0] 53)) w1 → ∀ vc : Array Value, OtM w (w1.alloc (.cells vc 59)) W H n oa w1.heap.size vc (0, 0, 0, 0)) := fun w1 hb vc => by
    have hs := hb.size
    simp at hs
    have q1 : Below w.heap.size w w1 := (al3 (Nat.le_refl _) _ _ _).trans (hb.mono (by simp; omega))
    refine ⟨q1.alloc q1.size _, ?_, ?_, ?_, heap_alloc_new w1 _, by omega⟩
    · refine (heap_old _ _ _ (by omega)).trans ((hb.block _ (by simp; omega)).trans ?_)
      exact (heap_old _ _ _ (by simp; omega)).trans ((heap_old _ _ _ (by simp)).trans (heap_alloc_new w _))
    · have := HasB.new (w.alloc (.cells #[.int .i64 W, .int .i64 H, .slice oa n n] 122)) #[.int .i64 0, .int .i64 0, .int .i64 0, .int .i64 0] 53
      rw [show (w.alloc (.cells #[.int .i64 W, .int .i64 H, .slice oa n n] 122)).heap.size = w.heap.size + 1 by simp] at this
      exact ((this.alloc _).keep (hb.block _ (by simp))).alloc _
    · refine (heap_old _ _ _ (by omega)).trans ((hb.block _ (by simp)).trans ?_)
      have := heap_alloc_new ((w.alloc (.cells #[.int .i64 W, .int .i64 H, .slice oa n n] 122)).alloc (.cells #[.int .i64 0, .int .i64 0, .int .i64 0, .int .i64 0] 53)) (.cells #[.int .i64 0, .int .i64 0, .int .i64 0, .int .i64 0] 53)
      rw [show ((w.alloc (.cells #[.int .i64 W, .int .i64 H, .slice oa n n] 122)).alloc (.cells #[.int .i64 0, .int .i64 0, .int .i64 0, .int .i64 0] 53)).heap.size = w.heap.size + 1 + 1 by simp] at this
      exact this
  have HA3 := hide (fun o1 o2 o3 => al3 (Nat.le_refl w.heap.size) o1 o2 o3)
  go_wp2_with (go_at_call 118; refine (HView.out _ (HA3.out _ _ _)).mono ?_; rintro e w1 ⟨rfl, hb⟩; have HM := hide (HA0.out w1 hb); have hw1 : w.heap.size + 1 + 1 < w1.heap.size := (by (have := hb.size; simp at this; omega)); clear hb)
  have HQ := hide eqPix
  go_loopg [7] (R.2.2.2 - R.2.1).toNat (fun gg s7 wr => ∃ (b : Nat) (Y : Int), s7 = .int .i64 Y ∧ Y = R.2.1 + b ∧ gg + b = (R.2.2.2 - R.2.1).toNat ∧ Hid (OtM w wr W H n oa w1.heap.size #[.int .i64 (i : Int), .int .i64 zx, .int .i64 zy, .int .i64 W, .int .i64 H, .int .i64 R.1, .int .i64 R.2.1, .int .i64 R.2.2.1, .int .i64 R.2.2.2] (otherTo pd R b)))
  case atStart => exact ⟨0, R.2.1, rfl, by simp, by omega, HM.out _⟩
  case round =>
    rename World => wm
    rename Nat => gm
    obtain ⟨b, Y, rfl, hY', hgb', HJ⟩ := hrel
    have HYe := hide hY'
    have v8 : wm.cell? ⟨w1.heap.size, 8, none⟩ = some (.int .i64 R.2.2.2) := HJ.out.vw.cell 8
    have v5 : wm.cell? ⟨w1.heap.size, 5, none⟩ = some (.int .i64 R.1) := HJ.out.vw.cell 5
    have hvl := cell_lt v8
    cases gm with
    | zero =>
      have hlt : ¬ Y < R.2.2.2 := by omega
      clear hY'
      have h0 : wm.cell? ⟨w.heap.size + 1 + 1, 0, none⟩ = some (.int .i64 (otherTo pd R b).1) := HJ.out.hul.cell 0
      have h1 : wm.cell? ⟨w.heap.size + 1 + 1, 1, none⟩ = some (.int .i64 (otherTo pd R b).2.1) := HJ.out.hul.cell 1
      have h2 : wm.cell? ⟨w.heap.size + 1 + 1, 2, none⟩ = some (.int .i64 (otherTo pd R b).2.2.1) := HJ.out.hul.cell 2
      have h3 : wm.cell? ⟨w.heap.size + 1 + 1, 3, none⟩ = some (.int .i64 (otherTo pd R b).2.2.2) := HJ.out.hul.cell 3
      have hhl := cell_lt h0
      obtain ⟨⟨q0, r0⟩, ⟨q1, r1⟩, ⟨q2, r2⟩, ⟨q3, r3⟩⟩ := And.intro (HJ.out.res.cell 0 (by omega)) (And.intro (HJ.out.res.cell 1 (by omega)) (And.intro (HJ.out.res.cell 2 (by omega)) (HJ.out.res.cell 3 (by omega))))
      have z0 := HJ.out.res.free 0
      have z1 := HJ.out.res.free 1
      have z2 := HJ.out.res.free 2
      have z3 := HJ.out.res.free 3
      have hbe : b = (R.2.2.2 - R.2.1).toNat := by omega
      have HE : Hid (otherTo pd R b = otherIn pd R) := by unfold Hid otherIn; rw [hbe]
      obtain ⟨T, hT⟩ : ∃ T, otherTo pd R b = T := ⟨_, rfl⟩
      rw [hT] at h0 h1 h2 h3 HE
      have HBl : Hid (∀ u0 u1 u2 u3, Below w.heap.size w ((((wm.setCell ⟨w.heap.size + 1, 0, none⟩ u0).setCell ⟨w.heap.size + 1, 1, none⟩ u1).setCell ⟨w.heap.size + 1, 2, none⟩ u2).setCell ⟨w.heap.size + 1, 3, none⟩ u3)) := fun u0 u1 u2 u3 => below_four HJ.out.bel (by omega) _ _ _ _
      clear hT hbe hgb'
      go_wp2_with fail
      refine bodyPost_ret (v := .agg #[.int .i64 T.1, .int .i64 T.2.1, .int .i64 T.2.2.1, .int .i64 T.2.2.2]) (by simp [results, Tryz.results109, go_sem, r0, r1, r2, r3]) rfl ⟨?_, HBl.out _ _ _ _⟩
      rw [← HE.out]
      rfl
    | succ gm =>
      have hlt : Y < R.2.2.2 := by omega
      have hYb : 0 ≤ Y ∧ Y < 24 ∧ R.2.1 ≤ Y := by omega
      clear hY'
      go_wp2_with fail
      go_loopg [8] (R.2.2.1 - R.1).toNat (fun gg s8 wr => ∃ (a : Nat) (X : Int), s8 = .int .i64 X ∧ X = R.1 + a ∧ gg + a = (R.2.2.1 - R.1).toNat ∧ Hid (OtM w wr W H n oa w1.heap.size #[.int .i64 (i : Int), .int .i64 zx, .int .i64 zy, .int .i64 W, .int .i64 H, .int .i64 R.1, .int .i64 R.2.1, .int .i64 R.2.2.1, .int .i64 R.2.2.2] (otherRow pd R.1 Y a (otherTo pd R b))))
      case atStart => exact ⟨0, R.1, rfl, by simp, by omega, HJ.out⟩
      case round =>
        rename World => wi
        rename Nat => gi
        obtain ⟨a, X, rfl, hX', hga, HX⟩ := hrel
        have HXe := hide hX'
        have u7 : wi.cell? ⟨w1.heap.size, 7, none⟩ = some (.int .i64 R.2.2.1) := HX.out.vw.cell 7
        have hul := cell_lt u7
        cases gi with
        | zero =>
          have hltX : ¬ X < R.2.2.1 := by omega
          clear hX'
          go_wp2_with fail
          go_roundg gm
          case measure => omega
          case rel =>
            refine ⟨b + 1, Y + 1, by go_num, by have := HYe.out; omega, by omega, ?_⟩
            have e : otherTo pd R (b + 1) = otherRow pd R.1 Y a (otherTo pd R b) := by
              show otherRow pd R.1 (R.2.1 + b) (R.2.2.1 - R.1).toNat (otherTo pd R b) = _
              rw [← HYe.out, show (R.2.2.1 - R.1).toNat = a by omega]
            rw [e]
            exact HX.out
        | succ gi =>
          have hltX : X < R.2.2.1 := by omega
          have hXb : 0 ≤ X ∧ X < 24 ∧ R.1 ≤ X := by omega
          clear hX'
          have hin : inR R X Y = true := by
            unfold inR
            simp only [decide_eq_true_eq]
            omega
          obtain ⟨K, xx, yy, og, pg, hxx, hyy, rfl, rfl, hK, hA1, hA2⟩ := HPx.out X Y hin
          have hwx : IntKind.i64.wrap (X - zx) = X - zx := by rw [IntKind.wrap_i64]; omega
          have hwy : IntKind.i64.wrap (Y - zy) = Y - zy := by rw [IntKind.wrap_i64]; omega
          have hdf := HPd.out X Y K hK
          have hnx : otherRow pd R.1 Y (a + 1) (otherTo pd R b) = if pd X Y = true then hull (otherRow pd R.1 Y a (otherTo pd R b)) (X, Y, X + 1, Y + 1) else otherRow pd R.1 Y a (otherTo pd R b) := by
            show (if pd (R.1 + a) Y = true then hull (otherRow pd R.1 Y a (otherTo pd R b)) (R.1 + a, Y, R.1 + a + 1, Y + 1) else otherRow pd R.1 Y a (otherTo pd R b)) = _
            rw [← HXe.out]
          obtain ⟨t, ht⟩ : ∃ t, pd X Y = t := ⟨_, rfl⟩
          rw [ht] at hnx hdf
          have HNx := hide hnx
          obtain ⟨Q1, hQ1⟩ : ∃ Q, old K = Q := ⟨_, rfl⟩
          obtain ⟨Q2, hQ2⟩ : ∃ Q, N K = Q := ⟨_, rfl⟩
          rw [hQ1] at hA1 hdf
          rw [hQ2] at hA2 hdf
          have hq : ∀ V : World, (Op.equalIn 10000 51 (.agg #[.int .u8 Q1.1, .int .u8 Q1.2.1, .int .u8 Q1.2.2.1, .int .u8 Q1.2.2.2]) (.agg #[.int .u8 Q2.1, .int .u8 Q2.2.1, .int .u8 Q2.2.2.1, .int .u8 Q2.2.2.2])).run Tryz.prog V = .ok (!t) V := fun V => by
            rw [HQ.out, hdf]
            unfold diffP
            rw [Bool.not_not]
          obtain ⟨hc3, hc4, hc5, hgl⟩ := HG.out wi HX.out.bel
          have FcS : Hid (∀ V : World, Below wi.heap.size wi V → V.cell? ⟨w.heap.size, 0, none⟩ = some (.int .i64 W) ∧ V.cell? ⟨w.heap.size, 1, none⟩ = some (.int .i64 H) ∧ V.cell? ⟨w.heap.size, 2, none⟩ = some (.slice (some ⟨og, 0, none⟩) n n) ∧ V.cell? ⟨w1.heap.size, 1, none⟩ = some (.int .i64 zx) ∧ V.cell? ⟨w1.heap.size, 2, none⟩ = some (.int .i64 zy) ∧ V.cell? ⟨gb, 3, none⟩ = some (.int .i64 W) ∧ V.cell? ⟨gb, 4, none⟩ = some (.int .i64 H) ∧ V.cell? ⟨gb, 5, none⟩ = some (.slice (some ⟨pg, 0, none⟩) n n)) := fun V hV => by
            have k := HX.out.below hV
            obtain ⟨y3, y4, y5, _⟩ := HG.out V k.bel
            exact ⟨k.was.cell 0, k.was.cell 1, k.was.cell 2, k.vw.cell 1, k.vw.cell 2, y3, y4, y5⟩
          obtain ⟨s0, s1, s2, s3, s4, s5, s6, s7⟩ := FcS.out wi (Below.refl _ _)
          have hl0 := cell_lt s0
          have HA1 : Hid (∀ V : World, Below wi.heap.size wi V → Calls Tryz.prog 162 #[.agg #[.int .i64 W, .int .i64 H, .slice (some ⟨og, 0, none⟩) n n], .int .i64 (X - zx), .int .i64 (Y - zy)] V fun e w' => e = .returned (.agg #[.int .u8 Q1.1, .int .u8 Q1.2.1, .int .u8 Q1.2.2.1, .int .u8 Q1.2.2.2]) ∧ Below wi.heap.size wi w') := fun V hV => (hA1 V (HX.out.below hV).bel).mono fun e w' ⟨h1, h2⟩ => ⟨h1, hV.trans (h2.mono hV.size)⟩
          have HA2 : Hid (∀ V : World, Below wi.heap.size wi V → Calls Tryz.prog 162 #[.agg #[.int .i64 W, .int .i64 H, .slice (some ⟨pg, 0, none⟩) n n], .int .i64 (X - zx), .int .i64 (Y - zy)] V fun e w' => e = .returned (.agg #[.int .u8 Q2.1, .int .u8 Q2.2.1, .int .u8 Q2.2.2.1, .int .u8 Q2.2.2.2]) ∧ Below wi.heap.size wi w') := fun V hV => (hA2 V (HX.out.below hV).bel).mono fun e w' ⟨h1, h2⟩ => ⟨h1, hV.trans (h2.mono hV.size)⟩
          obtain ⟨T, hT⟩ : ∃ T, otherRow pd R.1 Y a (otherTo pd R b) = T := ⟨_, rfl⟩
          rw [hT] at HX HNx
          clear hnx hA1 hA2 hK hdf hQ1 hQ2 ht hin hT hxx hyy
          go_upto_region 9 with fail
          go_cut [55] (fun s55 wx => s55 = .bool t ∧ Hid (Below wi.heap.size wi wx))
          case first =>
            go_region_held3 (fun w' => w'.cell? ⟨w.heap.size, 0, none⟩ = some (.int .i64 W) ∧ w'.cell? ⟨w.heap.size, 1, none⟩ = some (.int .i64 H) ∧ w'.cell? ⟨w.heap.size, 2, none⟩ = some (.slice (some ⟨og, 0, none⟩) n n) ∧ w'.cell? ⟨w1.heap.size, 1, none⟩ = some (.int .i64 zx) ∧ w'.cell? ⟨w1.heap.size, 2, none⟩ = some (.int .i64 zy) ∧ w'.cell? ⟨gb, 3, none⟩ = some (.int .i64 W) ∧ w'.cell? ⟨gb, 4, none⟩ = some (.int .i64 H) ∧ w'.cell? ⟨gb, 5, none⟩ = some (.slice (some ⟨pg, 0, none⟩) n n))
              (first
                | (refine FcS.out _ ?_; (repeat (first | with_reducible exact Below.refl _ _ | with_reducible exact HB5.out | with_reducible exact HB6.out | with_reducible refine Below.drew ?_)); done)
                | fail)
              (first
                | (go_at_call_of 162 (Value.agg #[.int .i64 (W : Int), .int .i64 (H : Int), .slice (some ⟨og, 0, none⟩) n n]); refine (HA1.out _ ?_).mono ?_; (repeat (first | with_reducible exact Below.refl _ _ | with_reducible exact HB6.out | with_reducible refine Below.drew ?_)); rintro e w5 ⟨rfl, hb⟩; have HB5 := hide hb; clear hb)
                | (go_at_call_of 162 (Value.agg #[.int .i64 (W : Int), .int .i64 (H : Int), .slice (some ⟨pg, 0, none⟩) n n]); refine (HA2.out _ ?_).mono ?_; (repeat (first | with_reducible exact Below.refl _ _ | with_reducible exact HB5.out | with_reducible refine Below.drew ?_)); rintro e w6 ⟨rfl, hb⟩; have HB6 := hide hb; clear hb)
                | fail)
            all_goals go_wp2_with fail
            all_goals go_meet
            all_goals first
              | exact ⟨by simp, HB6.out⟩
              | exact ⟨by simp, HB5.out⟩
          case rest =>
            obtain ⟨rfl, HZ⟩ := hcut
            have HM2 := hide (HX.out.below HZ.out)
            clear s0 s1 s2 s3 s4 s5 s6 s7 hc3 hc4 hc5 hgl hl0 HA1 HA2 FcS hq u7 hul
            cases t with
            | false =>
              rw [if_neg (by simp)] at HNx
              go_wp2_with fail
              go_roundg gi
              case measure => omega
              case rel =>
                refine ⟨a + 1, X + 1, by go_num, by have := HXe.out; omega, by omega, ?_⟩
                rw [HNx.out]
                exact HM2.out
            | true =>
              rw [if_pos rfl] at HNx
              have h0 := HM2.out.hul.cell 0
              have h1 := HM2.out.hul.cell 1
              have h2 := HM2.out.hul.cell 2
              have h3 := HM2.out.hul.cell 3
              simp only [List.getElem?_toArray, List.getElem?_cons_zero, List.getElem?_cons_succ] at h0 h1 h2 h3
              have hhl := cell_lt h0
              have HCe : Hid (∀ V : World, Below wc.heap.size wc V → V.cell? ⟨w.heap.size + 1 + 1, 0, none⟩ = some (.int .i64 T.1) ∧ V.cell? ⟨w.heap.size + 1 + 1, 1, none⟩ = some (.int .i64 T.2.1) ∧ V.cell? ⟨w.heap.size + 1 + 1, 2, none⟩ = some (.int .i64 T.2.2.1) ∧ V.cell? ⟨w.heap.size + 1 + 1, 3, none⟩ = some (.int .i64 T.2.2.2) ∧ (∀ j, V.frozen? ⟨w.heap.size + 1 + 1, j, none⟩ = false)) := fun V hV => by
                have k := (HM2.out.below hV).hul
                exact ⟨k.cell 0, k.cell 1, k.cell 2, k.cell 3, fun j => k.has.free j⟩
              have HH2 := hide (HH.out T (X, Y, X + 1, Y + 1))
              simp only at HH2
              obtain ⟨U, hU⟩ : ∃ U, hull T (X, Y, X + 1, Y + 1) = U := ⟨_, rfl⟩
              rw [hU] at HH2 HNx
              go_wp2_with (go_at_call 164; refine (HH2.out _).mono ?_; rintro e w8 ⟨rfl, hb8⟩; obtain ⟨m0, m1, m2, m3, mf⟩ := HCe.out w8 hb8; have f0 := mf 0; have f1 := mf 1; have f2 := mf 2; have f3 := mf 3; have HB8 := hide hb8; clear hb8 mf)
              go_roundg gi
              case measure => omega
              case rel =>
                refine ⟨a + 1, X + 1, by go_num, by have := HXe.out; omega, by omega, ?_⟩
                rw [HNx.out]
                exact (HM2.out.below HB8.out).store U

end Go.Proofs.YtofinpocigbbeaaGreat

/-! Gdb -/
namespace Go.Proofs.YtofinpocigbbeaaGreat
open Go.RowKit
attribute [local go_sem ↓] Go.wp_at_zero Go.wp_at_succ

theorem boolInfoG : (Tryz.prog.info? 4).map (fun i => (i.zero, i.size, i.bytes)) = some (some (.bool false), 1, 1) := by kernel_rfl

theorem BoolF.keep {w w' : World} {g n : Nat} {f : Nat → Bool} (h : BoolF w g n f) (hk : w'.heap[g]? = w.heap[g]?) : BoolF w' g n f := by
  obtain ⟨cur, h1, h2⟩ := h
  exact ⟨cur, hk.trans h1, h2⟩

theorem BoolF.congr {w : World} {g n : Nat} {f f' : Nat → Bool} (h : BoolF w g n f) (he : ∀ k, k < n → f k = f' k) : BoolF w g n f' := by
  obtain ⟨cur, h1, h2, h3⟩ := h
  exact ⟨cur, h1, h2, fun k hk => by rw [← he k hk]; exact h3 k hk⟩

theorem BoolF.has {w : World} {g n : Nat} {f : Nat → Bool} (h : BoolF w g n f) : HasB w g 4 n := let ⟨cur, h1, h2, _⟩ := h; ⟨cur, h1, h2⟩

theorem BoolF.set {w : World} {g n : Nat} {f : Nat → Bool} (h : BoolF w g n f) (k : Nat) (hk : k < n) (b : Bool) : BoolF (w.setCell ⟨g, k, none⟩ (.bool b)) g n (fun j => if j = k then b else f j) := by
  obtain ⟨cur, h1, h2, h3⟩ := h
  have b1 : Blk w g 4 cur := h1
  refine ⟨_, b1.set k (.bool b), by simpa using h2, fun j hj => ?_⟩
  rw [Array.getElem?_setIfInBounds]
  by_cases e : j = k
  · subst e
    rw [if_pos rfl, if_pos (by omega)]
    simp
  · rw [if_neg (fun h => e h.symm), h3 j hj]
    simp [e]

theorem made_bool (w : World) (K : Nat) : BoolF (w.alloc (.cells (madeCells #[.bool false] K) 4)) w.heap.size K (fun _ => false) := by
  refine ⟨_, heap_alloc_new w _, by rw [size_madeCells], fun k hk => ?_⟩
  unfold madeCells
  simp [hk, Nat.mod_one]

set_option maxRecDepth 100000 in
set_option maxHeartbeats 1000000 in
/-- grid.New of marks -/
theorem gridNewB_any (a b : Int) (K : Nat) (hK : a * b = (K : Int)) (hK2 : K ≤ 576) (w : World) :
    Calls Tryz.prog 159 #[.int .i64 a, .int .i64 b] w fun e w' => ∃ g, e = .returned (.agg #[.int .i64 a, .int .i64 b, .slice (some ⟨g, 0, none⟩) K K]) ∧ BoolF w' g K (fun _ => false) ∧ w.heap.size ≤ g ∧ Below w.heap.size w w' := by
  obtain ⟨j0, hj0, hy0, hy1, hy2⟩ := info_parts boolInfoG
  have hmk2 : ∀ w : World, (Instr.makeSlice 154 (.int .i64 (K : Int)) (.int .i64 (K : Int))).run Tryz.prog w = .ok (.slice (some ⟨w.heap.size, 0, none⟩) K K) (w.alloc (.cells (madeCells #[.bool false] K) 4)) := fun w => by
    have h9 := run_make (P := Tryz.prog) w 154 4 j0 _ Tryz.underlying154 hj0 hy0 .i64 .i64 K K (by omega) (Int.le_refl _) (by rw [hy2]; omega) (by omega)
    rw [hy1, Nat.mul_one] at h9
    exact h9
  have HM := hide (fun (W : World) => made_bool W K)
  have HA := hide (fun o1 o2 => al2 (Nat.le_refl w.heap.size) o1 o2)
  go_enter Tryz.func159, Tryz.ntmps159
  go_wp2_with fail
  refine bodyPost_ret (v := .agg #[.int .i64 a, .int .i64 b, .slice (some ⟨w.heap.size + 1, 0, none⟩) K K]) (by simp [results, Tryz.results159, go_sem]) rfl ⟨w.heap.size + 1, rfl, ?_, by omega, HA.out _ _⟩
  have h := HM.out (w.alloc (.cells #[.int .i64 a, .int .i64 b, .slice (some ⟨w.heap.size + 1, 0, none⟩) K K] 156))
  simpa using h

set_option maxRecDepth 100000 in
set_option maxHeartbeats 1000000 in
/-- Grid.Set of marks -/
theorem gridSetB_any (W H n g x y K : Nat) (hW : W ≤ 24) (hy : y < 24) (hK : y * W + x = K) (hKn : K < n) (hn : n ≤ 576) (p : Bool) (f : Nat → Bool) (w : World) (h : BoolF w g n f) :
    Calls Tryz.prog 160 #[.agg #[.int .i64 W, .int .i64 H, .slice (some ⟨g, 0, none⟩) n n], .int .i64 x, .int .i64 y, .bool p] w fun e w' => e = .returned (.tuple #[]) ∧ BoolF w' g n (fun j => if j = K then p else f j) ∧ Only (fun b => b = g) w w' := by
  have hl := h.has.lt
  obtain ⟨u0, c0⟩ := h.has.cell K (by omega)
  have f0 := h.has.free K
  have HE : Hid (∀ o1 : Obj, BoolF ((w.setCell ⟨g, K, none⟩ (.bool p)).alloc o1) g n (fun j => if j = K then p else f j) ∧ Only (fun b => b = g) w ((w.setCell ⟨g, K, none⟩ (.bool p)).alloc o1)) := fun o1 => ⟨(h.set K hKn p).keep (heap_old _ _ _ (by simpa using hl)), ((Only.refl (fun b => b = g) w).set (.inl rfl) _).alloc _⟩
  have e1 : (y : Int) * (W : Int) = ((y * W : Nat) : Int) := by simp
  obtain ⟨M, hM⟩ : ∃ M, y * W = M := ⟨_, rfl⟩
  have hMb : M ≤ 576 := by rw [← hM]; exact Nat.le_trans (Nat.mul_le_mul (show y ≤ 24 by omega) hW) (by omega)
  rw [hM] at e1 hK
  have e2 : (M : Int) + (x : Int) = (K : Int) := by omega
  have hKn' : (K : Int) < (n : Int) := by omega
  have hK0 : (0 : Int) ≤ (K : Int) := by omega
  clear h hM hK
  go_enter Tryz.func160, Tryz.ntmps160
  go_wp2_with fail
  refine bodyPost_end (v := .tuple #[]) (by simp [results, Tryz.results160]) rfl ⟨rfl, ?_⟩
  exact HE.out _

set_option maxRecDepth 100000 in
/-- pixel.Solid -/
theorem solid_any (p : R4) (w : World) : Calls Tryz.prog 161 #[.agg (pixC p)] w fun e w' => e = .returned (.bool (decide (p.2.2.2 = 255))) ∧ Below w.heap.size w w' := by
  have HA := hide (fun o => al1 (Nat.le_refl w.heap.size) o)
  unfold pixC
  by_cases h : p.2.2.2 = 255
  · have hd : (p.2.2.2 == 255) = true := by simpa using h
    rw [decide_eq_true h]
    go_enter Tryz.func161, Tryz.ntmps161
    go_wp2_with fail
    go_ret
    exact ⟨rfl, HA.out _⟩
  · have hd : (p.2.2.2 == 255) = false := by simpa using h
    rw [decide_eq_false h]
    go_enter Tryz.func161, Tryz.ntmps161
    go_wp2_with fail
    go_ret
    exact ⟨rfl, HA.out _⟩

end Go.Proofs.YtofinpocigbbeaaGreat

/-! Kph -/
namespace Go.Proofs.YtofinpocigbbeaaGreat
open Go.RowKit
attribute [local go_sem ↓] Go.wp_at_zero Go.wp_at_succ

/-- A mark as a pixel: so that what is known of painting serves for marking. -/
def bP (b : Bool) : R4 := (if b = true then 1 else 0, 0, 0, 0)
def pB (r : R4) : Bool := decide (r.1 = 1)
theorem pB_bP (b : Bool) : pB (bP b) = b := by cases b <;> rfl

/-- Marks so far. -/
def MkF (w : World) (g n : Nat) (F : Nat → R4) : Prop := BoolF w g n fun k => pB (F k)

def lookV (W H : Nat) (pv : Value) (x y : Int) (c : R4) (b : Bool) (hv : Value) : Array Value := #[.int .i64 W, .int .i64 H, pv, .int .i64 x, .int .i64 y, .int .i64 c.1, .int .i64 c.2.1, .int .i64 c.2.2.1, .int .i64 c.2.2.2, .bool b, hv]

theorem heap_at (u : World) (o : Obj) (n : Nat) (h : u.heap.size = n) : (u.alloc o).heap[n]? = some o := by subst h; exact heap_alloc_new u o

/-- What stands through the loops. -/
structure KpM (w V : World) (g n W H : Nat) (pa : Option Addr) (x y : Int) (c : R4) (b : Bool) (ha : Option Addr) (hm hk : Nat) (mb : Nat) (lv : Value) (l : List R4) (f : Nat → R4) : Prop where
  bel : Below w.heap.size w V
  box : Blk V w.heap.size 169 (lookV W H (.slice pa n n) x y c b (.slice ha hm hk))
  res : HasB V (w.heap.size + 1) 156 3
  mrk : Blk V mb 156 #[.int .i64 W, .int .i64 H, .slice (some ⟨g, 0, none⟩) n n]
  mlo : w.heap.size + 1 < mb
  rects : OwnR V w.heap.size lv l
  pix : 0 < n → ∃ pg, pa = some ⟨pg, 0, none⟩ ∧ PixF V pg n f
  glo : w.heap.size ≤ g ∧ g < V.heap.size

theorem KpM.keep {w V wr : World} {g n W H : Nat} {pa : Option Addr} {x y : Int} {c : R4} {b : Bool} {ha : Option Addr} {hm hk : Nat} {mb : Nat} {lv : Value} {l : List R4} {f : Nat → R4} (h : KpM w V g n W H pa x y c b ha hm hk mb lv l f) (hg : ∃ cur, V.heap[g]? = some (.cells cur 4 (0, 0))) (ho : Only (fun b => b = g) V wr) : KpM w wr g n W H pa x y c b ha hm hk mb lv l f := by
  obtain ⟨gc, hgc⟩ := hg
  have hne : ∀ (q : Nat) (cur : Array Value) (t : TypeId), t ≠ 4 → V.heap[q]? = some (.cells cur t (0, 0)) → wr.heap[q]? = V.heap[q]? := fun q cur t ht e => ho.block q (block_lt e) fun e2 => by
    subst e2
    have := hgc.symm.trans e
    simp at this
    exact ht this.2.symm
  refine ⟨⟨ho.os.trans h.bel.os, ho.tape.trans h.bel.tape, ho.output.trans h.bel.output, Nat.le_trans h.bel.size ho.size, fun q hq => (ho.block q (Nat.lt_of_lt_of_le hq h.bel.size) (by have := h.glo; omega)).trans (h.bel.block q hq)⟩, h.box.keep (hne _ _ 169 (by decide) h.box), ?_, h.mrk.keep (hne _ _ 156 (by decide) h.mrk), h.mlo, ⟨own_keep h.rects.1 fun q hq => ?_, h.rects.2⟩, fun hn => ?_, h.glo.1, Nat.lt_of_lt_of_le h.glo.2 ho.size⟩
  · obtain ⟨cur, q1, q2⟩ := h.res
    exact ⟨cur, (hne _ _ 156 (by decide) q1).trans q1, q2⟩
  · obtain ⟨cur, e⟩ := own_type h.rects.1 hq
    exact hne q cur 53 (by decide) e
  · obtain ⟨pg, e1, cur, e2, e3⟩ := h.pix hn
    exact ⟨pg, e1, cur, (hne pg cur 51 (by decide) e2).trans e2, e3⟩

set_option maxRecDepth 100000 in
set_option maxHeartbeats 4000000 in
/-- look.keptHint -/
theorem keptHint_any (W H n : Nat) (pa : Option Addr) (x y : Int) (c : R4) (b : Bool) (ha : Option Addr) (hm hk : Nat) (f : Nat → R4) (ht : Int → Int → Bool) (R : Rgn) (w : World) (hW : W ≤ 24) (hH : H ≤ 24) (hn : W * H = n) (hp : 0 < n → ∃ pg, pa = some ⟨pg, 0, none⟩ ∧ PixF w pg n f) (hR : BandsAt w (.slice ha hm hk) R) (hG : Good R) (hm2 : ∀ x y, memR R x y = ht x y) :
    Calls Tryz.prog 107 #[.agg (lookV W H (.slice pa n n) x y c b (.slice ha hm hk))] w fun e w' => ∃ g, e = .returned (.agg #[.int .i64 W, .int .i64 H, .slice (some ⟨g, 0, none⟩) n n]) ∧ BoolF w' g n (fun k => ht ((k : Int) % W) ((k : Int) / W) && decide ((f k).2.2.2 = 255)) ∧ w.heap.size ≤ g ∧ Below w.heap.size w w' := by
  have hn2 : n ≤ 576 := by rw [← hn]; exact Nat.le_trans (Nat.mul_le_mul hW hH) (by omega)
  have hWH : (W : Int) * (H : Int) = (n : Int) := by rw [← hn]; simp
  have HNw : Hid (∀ V : World, Calls Tryz.prog 159 #[.int .i64 W, .int .i64 H] V fun e w' => ∃ g, e = .returned (.agg #[.int .i64 W, .int .i64 H, .slice (some ⟨g, 0, none⟩) n n]) ∧ BoolF w' g n (fun _ => false) ∧ V.heap.size ≤ g ∧ Below V.heap.size V w') := fun V => gridNewB_any W H n hWH hn2 V
  have HOf : Hid (∀ (V : World) (B : Nat), V.heap[B]? = some (.cells #[.int .i64 0, .int .i64 0, .int .i64 W, .int .i64 H] 53 (0, 0)) → Calls Tryz.prog 73 #[.slice (some ⟨B, 0, none⟩) 1 1] V fun e w' => ∃ a m c' O, e = .returned (.agg #[.slice a m c']) ∧ BandsAt w' (.slice a m c') O ∧ Good O ∧ (∀ x y, memR O x y = inR (0, 0, (W : Int), (H : Int)) x y) ∧ Below V.heap.size V w') := fun V B hB => by
    refine (of_any [(0, 0, (W : Int), (H : Int))] _ V ⟨_, 1, rfl, fun _ => ⟨B, 0, rfl, fun k hk => ?_⟩⟩ (by simp) (fun r hr => ?_)).mono ?_
    · have hk0 : k = 0 := by simpa using hk
      subst hk0
      exact ⟨cell_of_row V B 0 _ _ _ hB, cell_of_row V B 1 _ _ _ hB, cell_of_row V B 2 _ _ _ hB, cell_of_row V B 3 _ _ _ hB⟩
    · simp at hr
      subst hr
      unfold fitR
      simp
      omega
    · rintro e w' ⟨u, O, rfl, q2, q3, q4, q5⟩
      obtain ⟨a, m, c', rfl⟩ := q2.form
      exact ⟨a, m, c', O, rfl, q2, q3, fun x y => by rw [q4]; simp [hasB], q5⟩
  have HCm : Hid (∀ (V : World) (u : Value) (O : Rgn), Below w.heap.size w V → BandsAt V u O → Good O → Calls Tryz.prog 103 #[.int .i64 1, .agg #[.slice ha hm hk], .agg #[u]] V fun e w' => ∃ a m c' O', e = .returned (.agg #[.slice a m c']) ∧ BandsAt w' (.slice a m c') O' ∧ Good O' ∧ (∀ x y, memR O' x y = (ht x y && memR O x y)) ∧ Below V.heap.size V w') := fun V u O hV hu hO => (combine_out 1 R O _ _ V hG hO (hR.below hV) hu).mono fun e w' ⟨v2, O', q1, q2, q3, q4, q5⟩ => by
    obtain ⟨a, m, c', rfl⟩ := q2.bands.form
    exact ⟨a, m, c', O', q1, q2.bands, q3, fun x y => by rw [q4, hm2]; rfl, q5⟩
  have HRc : Hid (∀ (V : World) (u : Value) (O : Rgn), BandsAt V u O → Good O → Calls Tryz.prog 77 #[.agg #[u]] V fun e w' => ∃ v, e = .returned v ∧ OwnR w' V.heap.size v (rc O) ∧ Below V.heap.size V w') := fun V u O hu hO => rects_any O u V hu hO
  have HP := hide hp
  clear hp hR hG hm2 hWH
  unfold lookV
  go_enter Tryz.func107, Tryz.ntmps107
  go_upto_region 1 with fail
  have HZ : Hid (Below w.heap.size w ((w.alloc (.cells #[.int .i64 W, .int .i64 H, .slice pa n n, .int .i64 x, .int .i64 y, .int .i64 c.1, .int .i64 c.2.1, .int .i64 c.2.2.1, .int .i64 c.2.2.2, .bool b, .slice ha hm hk] 169)).alloc (.cells #[.int .i64 0, .int .i64 0, .slice none 0 0] 156)) ∧ Blk ((w.alloc (.cells #[.int .i64 W, .int .i64 H, .slice pa n n, .int .i64 x, .int .i64 y, .int .i64 c.1, .int .i64 c.2.1, .int .i64 c.2.2.1, .int .i64 c.2.2.2, .bool b, .slice ha hm hk] 169)).alloc (.cells #[.int .i64 0, .int .i64 0, .slice none 0 0] 156)) w.heap.size 169 #[.int .i64 W, .int .i64 H, .slice pa n n, .int .i64 x, .int .i64 y, .int .i64 c.1, .int .i64 c.2.1, .int .i64 c.2.2.1, .int .i64 c.2.2.2, .bool b, .slice ha hm hk] ∧ HasB ((w.alloc (.cells #[.int .i64 W, .int .i64 H, .slice pa n n, .int .i64 x, .int .i64 y, .int .i64 c.1, .int .i64 c.2.1, .int .i64 c.2.2.1, .int .i64 c.2.2.2, .bool b, .slice ha hm hk] 169)).alloc (.cells #[.int .i64 0, .int .i64 0, .slice none 0 0] 156)) (w.heap.size + 1) 156 3) := by
    refine ⟨al2 (Nat.le_refl _) _ _, (heap_old _ _ _ (by simp)).trans (heap_alloc_new w _), ?_⟩
    have := HasB.new (w.alloc (.cells #[.int .i64 W, .int .i64 H, .slice pa n n, .int .i64 x, .int .i64 y, .int .i64 c.1, .int .i64 c.2.1, .int .i64 c.2.2.1, .int .i64 c.2.2.2, .bool b, .slice ha hm hk] 169)) #[.int .i64 0, .int .i64 0, .slice none 0 0] 156
    simpa using this
  generalize ((w.alloc (.cells #[.int .i64 W, .int .i64 H, .slice pa n n, .int .i64 x, .int .i64 y, .int .i64 c.1, .int .i64 c.2.1, .int .i64 c.2.2.1, .int .i64 c.2.2.2, .bool b, .slice ha hm hk] 169)).alloc (.cells #[.int .i64 0, .int .i64 0, .slice none 0 0] 156)) = V0 at *
  have HBX : Hid (∀ V : World, Below V0.heap.size V0 V → V.cell? ⟨w.heap.size, 0, none⟩ = some (.int .i64 W) ∧ V.cell? ⟨w.heap.size, 1, none⟩ = some (.int .i64 H) ∧ V.cell? ⟨w.heap.size, 2, none⟩ = some (.slice pa n n)) := fun V hV => by
    have q : Blk V w.heap.size 169 _ := HZ.out.2.1.keep (hV.block _ (block_lt HZ.out.2.1))
    exact ⟨q.cell 0, q.cell 1, q.cell 2⟩
  have HHN : Hid (∀ V : World, Below V0.heap.size V0 V → V.cell? ⟨w.heap.size, 10, none⟩ = some (.slice ha hm hk) ∧ w.heap.size < V.heap.size) := fun V hV => by
    have q : Blk V w.heap.size 169 _ := HZ.out.2.1.keep (hV.block _ (block_lt HZ.out.2.1))
    exact ⟨q.cell 10, block_lt q⟩
  have HW2 : Hid (∀ V : World, Below V0.heap.size V0 V → Calls Tryz.prog 157 #[.agg #[.int .i64 W, .int .i64 H, .slice pa n n]] V fun e w' => e = .returned (.int .i64 W) ∧ Below V0.heap.size V0 w') := fun V hV => (width_any _ _ _ V).mono fun e w' ⟨h1, h2⟩ => ⟨h1, by rw [h2]; exact hV.alloc hV.size _⟩
  have HH2 : Hid (∀ V : World, Below V0.heap.size V0 V → Calls Tryz.prog 158 #[.agg #[.int .i64 W, .int .i64 H, .slice pa n n]] V fun e w' => e = .returned (.int .i64 H) ∧ Below V0.heap.size V0 w') := fun V hV => (height_any _ _ _ V).mono fun e w' ⟨h1, h2⟩ => ⟨h1, by rw [h2]; exact hV.alloc hV.size _⟩
  obtain ⟨x0, x1, x2⟩ := HBX.out V0 (Below.refl _ _)
  go_cut [3, 4] (fun s3 s4 wx => s3 = .int .i64 W ∧ s4 = .int .i64 H ∧ Hid (Below V0.heap.size V0 wx))
  case first =>
    go_region_held3 (fun w' => w'.cell? ⟨w.heap.size, 0, none⟩ = some (.int .i64 W) ∧ w'.cell? ⟨w.heap.size, 1, none⟩ = some (.int .i64 H) ∧ w'.cell? ⟨w.heap.size, 2, none⟩ = some (.slice pa n n))
      (first
        | (refine HBX.out _ ?_; (repeat (first | with_reducible exact Below.refl _ _ | with_reducible exact HB2.out | with_reducible exact HB3.out | with_reducible refine Below.drew ?_)); done)
        | fail)
      (first
        | (go_at_call 157; refine (HW2.out _ ?_).mono ?_; (repeat (first | with_reducible exact Below.refl _ _ | with_reducible exact HB3.out | with_reducible refine Below.drew ?_)); rintro e w2 ⟨rfl, hb⟩; have HB2 := hide hb; clear hb)
        | (go_at_call 158; refine (HH2.out _ ?_).mono ?_; (repeat (first | with_reducible exact Below.refl _ _ | with_reducible exact HB2.out | with_reducible refine Below.drew ?_)); rintro e w3 ⟨rfl, hb⟩; have HB3 := hide hb; clear hb)
        | fail)
    all_goals go_wp2_with fail
    all_goals go_meet
    all_goals first
      | exact ⟨rfl, rfl, HB3.out⟩
      | exact ⟨rfl, rfl, HB2.out⟩
  case rest =>
    obtain ⟨rfl, rfl, HV1⟩ := hcut
    clear x0 x1 x2 HW2 HH2
    have HK : Hid (∀ (w1 w2 w3 w4 : World) (g : Nat) (rb : Obj) (gb : Value) (O O' : Rgn) (lv : Value), BoolF w1 g n (fun _ => false) → wc.heap.size ≤ g → Below wc.heap.size wc w1 → Below ((w1.alloc (.cells #[.int .i64 W, .int .i64 H, .slice (some ⟨g, 0, none⟩) n n] 156)).alloc rb).heap.size ((w1.alloc (.cells #[.int .i64 W, .int .i64 H, .slice (some ⟨g, 0, none⟩) n n] 156)).alloc rb) w2 → Below (w2.alloc (.cells #[gb] 136)).heap.size (w2.alloc (.cells #[gb] 136)) w3 → Below w3.heap.size w3 w4 → OwnR w4 w3.heap.size lv (rc O') → KpM w w4 g n W H pa x y c b ha hm hk w1.heap.size lv (rc O') f ∧ BoolF w4 g n (fun _ => false)) := fun w1 w2 w3 w4 g rb gb O O' lv hbf hgl b1 b2 b3 b4 ho => by
      have c1 : Below V0.heap.size V0 w1 := HV1.out.trans (b1.mono HV1.out.size)
      have a2 : Below w1.heap.size w1 w2 := (al2 (Nat.le_refl _) _ _).trans (b2.mono (by simp; omega))
      have a3 : Below w1.heap.size w1 w3 := (a2.alloc a2.size _).trans (b3.mono (by have := a2.size; simp; omega))
      have a4 : Below w1.heap.size w1 w4 := a3.trans (b4.mono a3.size)
      have c4 : Below V0.heap.size V0 w4 := c1.trans (a4.mono c1.size)
      have hV0 := HZ.out.1.size
      have hv1 := HV1.out.size
      have hb0 := block_lt HZ.out.2.1
      have hr0 := HZ.out.2.2.lt
      have hs1 := b1.size
      have hs3 := a3.size
      refine ⟨⟨HZ.out.1.trans (c4.mono HZ.out.1.size), HZ.out.2.1.keep (c4.block _ hb0), HZ.out.2.2.keep (c4.block _ hr0), ?_, by omega, ho.lower (by omega), fun hn0 => ?_, by omega, ?_⟩, hbf.keep (a4.block g hbf.has.lt)⟩
      · have q : ((w1.alloc (.cells #[.int .i64 W, .int .i64 H, .slice (some ⟨g, 0, none⟩) n n] 156)).alloc rb).heap[w1.heap.size]? = some (.cells #[.int .i64 W, .int .i64 H, .slice (some ⟨g, 0, none⟩) n n] 156 (0, 0)) := (heap_old _ _ _ (by simp)).trans (heap_alloc_new w1 _)
        have q2 := (b2.block _ (block_lt q)).trans q
        have q3 := (b3.block _ (Nat.lt_of_lt_of_le (block_lt q2) (by simp))).trans ((heap_old w2 _ _ (block_lt q2)).trans q2)
        exact (b4.block _ (block_lt q3)).trans q3
      · obtain ⟨pg, e1, e2⟩ := HP.out hn0
        exact ⟨pg, e1, e2.keep ((HZ.out.1.trans (c4.mono HZ.out.1.size)).block pg e2.has.lt)⟩
      · exact Nat.lt_of_lt_of_le hbf.has.lt a4.size
    have HHc := hide (HHN.out wc HV1.out)
    go_wp2_with (first
      | (go_at_call 159; refine (HNw.out _).mono ?_; rintro e w1 ⟨g, rfl, hg1, hg2, hb1⟩; have H1 := hide (And.intro hg1 (And.intro hg2 hb1)); clear hg1 hg2 hb1)
      | (go_at_call 73; refine (HOf.out _ _ (heap_at _ _ _ (by simp))).mono ?_; rintro e w2 ⟨ua, un, uc, O, rfl, q1, q2, q3, b2⟩; have hB2 := HV1.out.trans ((H1.out.2.2.trans ((al2 (Nat.le_refl _) _ _).trans (b2.mono (by simp; omega)) |>.mono H1.out.2.2.size)).mono HV1.out.size); obtain ⟨hc10, hwl2⟩ := HHN.out w2 hB2; have H2 := hide (And.intro q1 (And.intro q2 (And.intro q3 (And.intro b2 hB2)))); clear q1 q2 q3 b2 hB2)
      | (go_at_call 103; refine (HCm.out _ _ O (HZ.out.1.trans (((H2.out.2.2.2.2).alloc (H2.out.2.2.2.2).size _).mono HZ.out.1.size)) (H2.out.1.below (al1 (Nat.le_refl _) _)) H2.out.2.1).mono ?_; rintro e w3 ⟨va3, vn3, vc3, O', rfl, q1, q2, q3, b3⟩; have H3 := hide (And.intro q1 (And.intro q2 (And.intro q3 b3))); clear q1 q2 q3 b3)
      | (go_at_call 77; refine (HRc.out _ _ O' H3.out.1 H3.out.2.1).mono ?_; rintro e w4 ⟨lv, rfl, q1, b4⟩; obtain ⟨la, lc, hlf⟩ := q1.form; obtain ⟨m, hlm⟩ : ∃ m, (rc O').length = m := ⟨_, rfl⟩; rw [hlm] at hlf; subst hlf; have HLM0 := hide hlm; have H4 := hide (And.intro q1 b4); clear q1 b4 hlm))
    have hL := HK.out w1 w2 w3 w4 g _ _ O O' (.slice la m lc) H1.out.1 H1.out.2.1 H1.out.2.2 H2.out.2.2.2.1 H3.out.2.2.2 H4.out.2 H4.out.1
    have hG' := H3.out.2.1
    have hmem : ∀ x y, memR O' x y = (ht x y && inR (0, 0, (W : Int), (H : Int)) x y) := fun x y => by rw [H3.out.2.2.1, H2.out.2.2.1]
    obtain ⟨l, hl⟩ : ∃ l, rc O' = l := ⟨_, rfl⟩
    have hlm := HLM0.out
    rw [hl] at hL hlm
    have HOn : Hid (∀ r ∈ l, OnScr W H r) := fun r hr => by
      rw [← hl] at hr
      refine rc_on hG' (fun x y hxy => ?_) hr
      rw [hmem, Bool.and_eq_true] at hxy
      exact hxy.2
    have hlen : l.length ≤ 100000000 := by
      have := rc_len hG' O'.length
      rw [List.take_length, hl] at this
      have h2 := hG'.len
      have : O'.length * 2001 ≤ 9000 * 2001 := Nat.mul_le_mul_right _ (by omega)
      omega
    -- what the marks come to
    have HFin : Hid (∀ k, k < n → pB (paintL W l (fun x y => bP (decide ((f (y * W + x)).2.2.2 = 255))) (fun _ => bP false) k) = (ht ((k : Int) % W) ((k : Int) / W) && decide ((f k).2.2.2 = 255))) := fun k hk => by
      have hW0 : 0 < W := by
        rcases Nat.eq_zero_or_pos W with e | e
        · rw [e, Nat.zero_mul] at hn
          omega
        · exact e
      have hkm : k / W < H := by
        rw [Nat.div_lt_iff_lt_mul hW0, Nat.mul_comm]
        omega
      have hkw := Nat.mod_lt k hW0
      have e0 : k / W * W + k % W = k := by have := Nat.div_add_mod k W; rw [Nat.mul_comm] at this; exact this
      unfold paintL
      rw [← hl, hasB_rc', hmem]
      have hin : inR (0, 0, (W : Int), (H : Int)) ((k % W : Nat) : Int) ((k / W : Nat) : Int) = true := by
        unfold inR
        simp only [decide_eq_true_eq]
        generalize k / W = q1 at *
        generalize k % W = q2 at *
        omega
      rw [hin, Bool.and_true, show ((k % W : Nat) : Int) = (k : Int) % (W : Int) from rfl, show ((k / W : Nat) : Int) = (k : Int) / (W : Int) from rfl]
      cases ht ((k : Int) % W) ((k : Int) / W) with
      | true => simp [pB_bP, e0]
      | false => simp [pB_bP]
    rw [hlm] at hlen
    clear HLM0
    have HLM := hide hlm
    obtain ⟨pic, hpic⟩ : ∃ pic : Nat → Nat → R4, pic = fun x y => bP (decide ((f (y * W + x)).2.2.2 = 255)) := ⟨_, rfl⟩
    rw [← hpic] at HFin
    have HPic := hide hpic
    have hg4 : ∃ cur, w4.heap[g]? = some (.cells cur 4 (0, 0)) := let ⟨cur, e, _⟩ := hL.2; ⟨cur, e⟩
    have HS : Hid (∀ V : World, Only (fun b => b = g) w4 V → KpM w V g n W H pa x y c b ha hm hk w1.heap.size (.slice la m lc) l f) := fun V hV => hL.1.keep hg4 hV
    have HSt : Hid (MkF w4 g n (paintL W (l.take 0) pic fun _ => bP false)) := hL.2.congr fun k _ => by rw [paintL_zero, pB_bP]
    clear hL hl hmem hG' hlm hpic hg4 HK H1 H2 H3 H4 HRc HCm HOf HNw HBX HHN HZ HP HV1 HHc hc10 hwl2
    go_loopg [31] m (fun gg s31 wr => ∃ k : Nat, s31 = .int .i64 k ∧ gg + k = m ∧ Hid (MkF wr g n (paintL W (l.take k) pic fun _ => bP false) ∧ Only (fun b => b = g) w4 wr))
    case atStart => exact ⟨0, rfl, by omega, HSt.out, Only.refl _ _⟩
    case round =>
      rename World => wo
      rename Nat => gO
      obtain ⟨k, rfl, hgk, HI⟩ := hrel
      have hM := HS.out wo HI.out.2
      cases gO with
      | zero =>
        have hlt : ¬ (k : Int) < (m : Int) := by omega
        have k0 : wo.cell? ⟨w1.heap.size, 0, none⟩ = some (.int .i64 W) := hM.mrk.cell 0
        have k1 : wo.cell? ⟨w1.heap.size, 1, none⟩ = some (.int .i64 H) := hM.mrk.cell 1
        have k2 : wo.cell? ⟨w1.heap.size, 2, none⟩ = some (.slice (some ⟨g, 0, none⟩) n n) := hM.mrk.cell 2
        have hml := cell_lt k0
        obtain ⟨⟨q0, r0⟩, ⟨q1, r1⟩, ⟨q2, r2⟩⟩ := And.intro (hM.res.cell 0 (by omega)) (And.intro (hM.res.cell 1 (by omega)) (hM.res.cell 2 (by omega)))
        have z0 := hM.res.free 0
        have z1 := hM.res.free 1
        have z2 := hM.res.free 2
        have hne : g ≠ w.heap.size + 1 := fun e => by
          obtain ⟨cur, e1, _⟩ := HI.out.1
          obtain ⟨cur2, e2, _⟩ := hM.res
          rw [e] at e1
          have := e1.symm.trans e2
          simp at this
        have HE : Hid (∀ u0 u1 u2, BoolF (((wo.setCell ⟨w.heap.size + 1, 0, none⟩ u0).setCell ⟨w.heap.size + 1, 1, none⟩ u1).setCell ⟨w.heap.size + 1, 2, none⟩ u2) g n (fun k => ht ((k : Int) % W) ((k : Int) / W) && decide ((f k).2.2.2 = 255)) ∧ w.heap.size ≤ g ∧ Below w.heap.size w (((wo.setCell ⟨w.heap.size + 1, 0, none⟩ u0).setCell ⟨w.heap.size + 1, 1, none⟩ u1).setCell ⟨w.heap.size + 1, 2, none⟩ u2)) := fun u0 u1 u2 => by
          refine ⟨?_, hM.glo.1, ((hM.bel.setCell (by show w.heap.size ≤ w.heap.size + 1; omega) _).setCell (by show w.heap.size ≤ w.heap.size + 1; omega) _).setCell (by show w.heap.size ≤ w.heap.size + 1; omega) _⟩
          have hfull : l.take k = l := List.take_of_length_le (by have := HLM.out; omega)
          have h1 := HI.out.1
          rw [hfull] at h1
          refine BoolF.congr ?_ HFin.out
          refine BoolF.keep h1 ?_
          rw [heap_setCell_other _ ⟨w.heap.size + 1, 2, none⟩ g _ hne, heap_setCell_other _ ⟨w.heap.size + 1, 1, none⟩ g _ hne, heap_setCell_other _ ⟨w.heap.size + 1, 0, none⟩ g _ hne]
        clear hM
        go_wp2_with fail
        refine bodyPost_ret (v := .agg #[.int .i64 W, .int .i64 H, .slice (some ⟨g, 0, none⟩) n n]) (by simp [results, Tryz.results107, go_sem, r0, r1, r2]) rfl ⟨g, rfl, HE.out _ _ _⟩
      | succ gO =>
        have hlt : (k : Int) < (m : Int) := by omega
        have hkl : k < l.length := by have := HLM.out; omega
        obtain ⟨x0, y0, x1, y1, hr, hx1, hx2, hy1, hy2⟩ := (HOn.out l[k] (List.getElem_mem hkl)).nats
        obtain ⟨a', c', hv', hcs⟩ := hM.rects.rects
        injection hv' with e1 e2 e3
        subst e1 e3
        clear e2
        obtain ⟨rb, off, ha', hct⟩ := hcs (by omega)
        subst ha'
        obtain ⟨c1, c2, c3, c4⟩ := hct k hkl
        rw [hr] at c1 c2 c3 c4
        simp only at c1 c2 c3 c4
        have hrl := cell_lt c1
        have hcap : m ≤ lc := by
          have := hM.rects.1.2
          rcases this with ⟨e, _⟩ | ⟨g', cap', cur', e, _, _, e4, _⟩
          · cases e
          · injection e with _ _ e3
            have h2 := HLM.out
            omega
        have hklc : k < lc := by omega
        have HR := hide hr
        have HB2 : Hid (Only (fun b => b = g) w4 (wo.alloc (.cells #[.int .i64 x0, .int .i64 y0, .int .i64 x1, .int .i64 y1] 53)) ∧ Blk (wo.alloc (.cells #[.int .i64 x0, .int .i64 y0, .int .i64 x1, .int .i64 y1] 53)) wo.heap.size 53 #[.int .i64 x0, .int .i64 y0, .int .i64 x1, .int .i64 y1] ∧ MkF (wo.alloc (.cells #[.int .i64 x0, .int .i64 y0, .int .i64 x1, .int .i64 y1] 53)) g n (paintTo W x0 y0 x1 y1 pic (paintL W (l.take k) pic fun _ => bP false) y0 x0) ∧ g < wo.heap.size) := by
          refine ⟨HI.out.2.alloc _, heap_alloc_new wo _, ?_, hM.glo.2⟩
          refine BoolF.congr (BoolF.keep HI.out.1 (heap_old wo _ g hM.glo.2)) fun j _ => ?_
          rw [← paintTo_start]
        clear hM hcs hct hr
        go_wp2_with fail
        generalize hVR : wo.alloc (.cells #[.int .i64 x0, .int .i64 y0, .int .i64 x1, .int .i64 y1] 53) = V3 at *
        clear hVR c1 c2 c3 c4
        obtain ⟨qb, hqb⟩ : ∃ qb, wo.heap.size = qb := ⟨_, rfl⟩
        rw [hqb] at HB2 ⊢
        have hgq : g ≠ qb := by have := HB2.out.2.2.2; omega
        clear hqb
        obtain ⟨P0, hP0⟩ : ∃ P0, (paintL W (l.take k) pic fun _ => bP false) = P0 := ⟨_, rfl⟩
        rw [hP0] at HB2
        have HP0 := hide hP0
        clear hP0
        -- in any world of the loops
        have HQ : Hid (∀ V : World, Only (fun b => b = g) V3 V → Only (fun b => b = g) w4 V ∧ Blk V qb 53 #[.int .i64 x0, .int .i64 y0, .int .i64 x1, .int .i64 y1]) := fun V hV => ⟨HB2.out.1.trans (hV.mono fun b _ hb => .inl hb), HB2.out.2.1.keep (hV.block qb (block_lt HB2.out.2.1) fun e => hgq e.symm)⟩
        go_loopg [9] (y1 - y0) (fun gg s9 wr => ∃ (j Y : Nat), s9 = .int .i64 Y ∧ Y = y0 + j ∧ gg + j = y1 - y0 ∧ Hid (MkF wr g n (paintTo W x0 y0 x1 y1 pic P0 Y x0) ∧ Only (fun b => b = g) V3 wr))
        case atStart => exact ⟨0, y0, rfl, rfl, by omega, HB2.out.2.2.1, Only.refl _ _⟩
        case round =>
          rename World => wm
          rename Nat => gm
          obtain ⟨j, Y, rfl, hY', hgj, HJ⟩ := hrel
          have hYb : y0 ≤ Y ∧ Y ≤ y1 := by omega
          have HYe := hide hY'
          clear hY'
          have q3 : wm.cell? ⟨qb, 3, none⟩ = some (.int .i64 y1) := (HQ.out wm HJ.out.2).2.cell 3
          have q0 : wm.cell? ⟨qb, 0, none⟩ = some (.int .i64 x0) := (HQ.out wm HJ.out.2).2.cell 0
          have hql := cell_lt q3
          cases gm with
          | zero =>
            have hltY : ¬ (Y : Int) < (y1 : Int) := by have := HYe.out; omega
            go_wp2_with fail
            go_roundg gO
            case measure => omega
            case rel =>
              refine ⟨k + 1, by go_num, by omega, ?_, (HQ.out wm HJ.out.2).1⟩
              refine BoolF.congr HJ.out.1 fun q _ => ?_
              rw [paintTo_end W x0 y0 x1 y1 pic P0 Y x0 (by omega), ← HP0.out, paintL_succ W l pic _ k hkl x0 y0 x1 y1 HR.out]
          | succ gm =>
            have hltY : (Y : Int) < (y1 : Int) := by have := HYe.out; omega
            have hYy : Y < y1 := by omega
            go_wp2_with fail
            go_loopg [10] (x1 - x0) (fun gg s10 wr => ∃ (i X : Nat), s10 = .int .i64 X ∧ X = x0 + i ∧ gg + i = x1 - x0 ∧ Hid (MkF wr g n (paintTo W x0 y0 x1 y1 pic P0 Y X) ∧ Only (fun b => b = g) V3 wr))
            case atStart => exact ⟨0, x0, rfl, rfl, by omega, HJ.out⟩
            case round =>
              rename World => wi
              rename Nat => gi
              obtain ⟨i, X, rfl, hX', hgi, HX⟩ := hrel
              have hXb : x0 ≤ X ∧ X ≤ x1 := by omega
              have HXe := hide hX'
              clear hX'
              have p2 : wi.cell? ⟨qb, 2, none⟩ = some (.int .i64 x1) := (HQ.out wi HX.out.2).2.cell 2
              have hpl := cell_lt p2
              cases gi with
              | zero =>
                have hltX : ¬ (X : Int) < (x1 : Int) := by have := HXe.out; omega
                go_wp2_with fail
                go_roundg gm
                case measure => omega
                case rel =>
                  refine ⟨j + 1, Y + 1, by go_num, by have := HYe.out; omega, by omega, ?_, HX.out.2⟩
                  exact BoolF.congr HX.out.1 fun q _ => by rw [paintTo_row W x0 y0 x1 y1 pic P0 Y X (by omega)]
              | succ gi =>
                have hltX : (X : Int) < (x1 : Int) := by have := HXe.out; omega
                have hXx : X < x1 := by omega
                have hKn : Y * W + X < n := by
                  have e1 : (Y + 1) * W ≤ H * W := Nat.mul_le_mul_right W (by omega)
                  have e2 : (Y + 1) * W = Y * W + W := Nat.succ_mul Y W
                  have e3 : H * W = n := by rw [Nat.mul_comm]; exact hn
                  omega
                have hM := HS.out wi (HQ.out wi HX.out.2).1
                have FcS : Hid (∀ V : World, Only (fun b => b = g) wi V → V.cell? ⟨w1.heap.size, 0, none⟩ = some (.int .i64 W) ∧ V.cell? ⟨w1.heap.size, 1, none⟩ = some (.int .i64 H) ∧ V.cell? ⟨w1.heap.size, 2, none⟩ = some (.slice (some ⟨g, 0, none⟩) n n) ∧ V.cell? ⟨w.heap.size, 0, none⟩ = some (.int .i64 W) ∧ V.cell? ⟨w.heap.size, 1, none⟩ = some (.int .i64 H) ∧ V.cell? ⟨w.heap.size, 2, none⟩ = some (.slice pa n n)) := fun V hV => by
                  have hM := HS.out V ((HQ.out wi HX.out.2).1.trans (hV.mono fun b _ hb => .inl hb))
                  exact ⟨hM.mrk.cell 0, hM.mrk.cell 1, hM.mrk.cell 2, hM.box.cell 0, hM.box.cell 1, hM.box.cell 2⟩
                obtain ⟨s0, s1, s2, s3, s4, s5⟩ := FcS.out wi (Only.refl _ _)
                have hmb := cell_lt s0
                have hnb := cell_lt s3
                obtain ⟨pg, rfl, hpf⟩ := hM.pix (by omega)
                have HAt : Hid (∀ V : World, Below wi.heap.size wi V → Calls Tryz.prog 162 #[.agg #[.int .i64 W, .int .i64 H, .slice (some ⟨pg, 0, none⟩) n n], .int .i64 X, .int .i64 Y] V fun e w' => e = .returned (.agg (pixC (f (Y * W + X)))) ∧ Below wi.heap.size wi w') := fun V hV => (gridAt_any W H n pg X Y _ hW (by omega) rfl hKn hn2 f V (hpf.keep (hV.block pg hpf.has.lt))).mono fun e w' ⟨h1, h2⟩ => ⟨h1, hV.trans (h2.mono hV.size)⟩
                have HSo : Hid (∀ V : World, Below wi.heap.size wi V → Calls Tryz.prog 161 #[.agg (pixC (f (Y * W + X)))] V fun e w' => e = .returned (.bool (decide ((f (Y * W + X)).2.2.2 = 255))) ∧ Below wi.heap.size wi w') := fun V hV => (solid_any _ V).mono fun e w' ⟨h1, h2⟩ => ⟨h1, hV.trans (h2.mono hV.size)⟩
                have HSe : Hid (∀ V : World, Below wi.heap.size wi V → Calls Tryz.prog 160 #[.agg #[.int .i64 W, .int .i64 H, .slice (some ⟨g, 0, none⟩) n n], .int .i64 X, .int .i64 Y, .bool (decide ((f (Y * W + X)).2.2.2 = 255))] V fun e w' => e = .returned (.tuple #[]) ∧ Hid (MkF w' g n (paintTo W x0 y0 x1 y1 pic P0 Y (X + 1)) ∧ Only (fun b => b = g) V3 w') ∧ Only (fun b => b = g) wi w') := fun V hV => by
                  have hgl := hM.glo.2
                  have hk := BoolF.keep HX.out.1 (hV.block g hgl)
                  refine (gridSetB_any W H n g X Y (Y * W + X) hW (by omega) rfl hKn hn2 _ _ V hk).mono fun e w' ⟨h1, h2, h3⟩ => ⟨h1, ⟨h2.congr fun q _ => ?_, (HX.out.2.after hV).trans (h3.mono fun b _ hb => .inl hb)⟩, (Only.below hV).trans (h3.mono fun b _ hb => .inl hb)⟩
                  have := paintTo_set W x0 y0 x1 y1 pic P0 Y X (by omega) (by omega) (by omega) q
                  rw [← this]
                  by_cases e : q = Y * W + X
                  · rw [if_pos e, if_pos e, HPic.out, pB_bP]
                  · rw [if_neg e, if_neg e]
                unfold pixC at HAt HSo
                generalize f (Y * W + X) = Q at HAt HSo HSe
                generalize decide (Q.2.2.2 = 255) = tb at HSo HSe
                clear hM hpf
                go_upto_region 13 with fail
                go_region_held3 (fun w' => w'.cell? ⟨w1.heap.size, 0, none⟩ = some (.int .i64 W) ∧ w'.cell? ⟨w1.heap.size, 1, none⟩ = some (.int .i64 H) ∧ w'.cell? ⟨w1.heap.size, 2, none⟩ = some (.slice (some ⟨g, 0, none⟩) n n) ∧ w'.cell? ⟨w.heap.size, 0, none⟩ = some (.int .i64 W) ∧ w'.cell? ⟨w.heap.size, 1, none⟩ = some (.int .i64 H) ∧ w'.cell? ⟨w.heap.size, 2, none⟩ = some (.slice (some ⟨pg, 0, none⟩) n n))
                  (first
                    | with_reducible exact FcS.out _ H7.out.2
                    | with_reducible exact FcS.out _ (Only.below HB6.out)
                    | with_reducible exact FcS.out _ (Only.below HB5.out)
                    | with_reducible exact FcS.out _ (Only.refl _ _)
                    | with_reducible exact FcS.out _ (Only.refl _ _).drew
                    | fail)
                  (first
                    | (go_at_call 162; refine (HAt.out _ ?_).mono ?_; (repeat (first | exact Below.refl _ _ | refine Below.drew ?_)); rintro e w5 ⟨rfl, hb5⟩; have HB5 := hide hb5; clear hb5)
                    | (go_at_call 161; refine (HSo.out _ HB5.out).mono ?_; rintro e w6 ⟨rfl, hb6⟩; have HB6 := hide hb6; clear hb6)
                    | (go_at_call 160; refine (HSe.out _ HB6.out).mono ?_; rintro e w7 ⟨rfl, h7, h8⟩; have H7 := hide (And.intro h7 h8); clear h7 h8)
                    | fail)
                all_goals
                  clear s0 s1 s2 s3 s4 s5 q0 q3
                  go_wp2_with fail
                  go_roundg gi
                  case measure => omega
                  case rel => exact ⟨i + 1, X + 1, by go_num, by have := HXe.out; omega, by omega, H7.out.1.out⟩

end Go.Proofs.YtofinpocigbbeaaGreat

/-! Cmt -/
namespace Go.Proofs.YtofinpocigbbeaaGreat
open Go.RowKit
attribute [local go_sem ↓] Go.wp_at_zero Go.wp_at_succ

/-! ### What a Commit damages -/

def sfNowK (s : Sf) : Sf := { s with now := s.next, kept := keptOf s.next }

theorem cm_steps (st : St) (i : Nat) (o : List Nat) (ho : o = if st.puts i = true then rsL st.order i (st.sf i).sib.toNat (st.sf i).above else st.order) : reord (upd (upd st i sfNowK) i sfDone) o = cm st i := by
  subst ho
  unfold cm upd reord
  simp only [St.mk.injEq, true_and, and_true]
  rw [List.modify_modify_eq]
  rfl

/-- Is a surface's outline another one behind its Commit? -/
def St.moved (st : St) (i : Nat) : Bool := !olEq ((cm st i).sf i).now ((cm st i).pos i) (st.sf i).now (st.pos i)

/-- The damage of a Commit. -/
def St.cmDam (st : St) (i : Nat) : List R4 :=
  if st.moved i = true then (st.visAll i).map st.seen ++ ((cm st i).visAll i).map (cm st i).seen
  else [otherIn ((cm st i).otherAt i (st.sf i).now.pix) ((cm st i).seen i)]

/-- Eleven cells are written. -/
def elev (w : World) (b : Nat) (v3 v4 v5 v6 v7 v8 v9 v10 v11 v12 v13 : Value) : World :=
  ((((((((((w.setCell ⟨b, 3, none⟩ v3).setCell ⟨b, 4, none⟩ v4).setCell ⟨b, 5, none⟩ v5).setCell ⟨b, 6, none⟩ v6).setCell ⟨b, 7, none⟩ v7).setCell ⟨b, 8, none⟩ v8).setCell ⟨b, 9, none⟩ v9).setCell ⟨b, 10, none⟩ v10).setCell ⟨b, 11, none⟩ v11).setCell ⟨b, 12, none⟩ v12).setCell ⟨b, 13, none⟩ v13

theorem elev_other (w : World) (b g : Nat) (hg : g ≠ b) (v3 v4 v5 v6 v7 v8 v9 v10 v11 v12 v13 : Value) : (elev w b v3 v4 v5 v6 v7 v8 v9 v10 v11 v12 v13).heap[g]? = w.heap[g]? := by
  unfold elev
  rw [heap_setCell_other _ ⟨b, 13, none⟩ g _ hg, heap_setCell_other _ ⟨b, 12, none⟩ g _ hg, heap_setCell_other _ ⟨b, 11, none⟩ g _ hg, heap_setCell_other _ ⟨b, 10, none⟩ g _ hg, heap_setCell_other _ ⟨b, 9, none⟩ g _ hg, heap_setCell_other _ ⟨b, 8, none⟩ g _ hg, heap_setCell_other _ ⟨b, 7, none⟩ g _ hg, heap_setCell_other _ ⟨b, 6, none⟩ g _ hg, heap_setCell_other _ ⟨b, 5, none⟩ g _ hg, heap_setCell_other _ ⟨b, 4, none⟩ g _ hg, heap_setCell_other _ ⟨b, 3, none⟩ g _ hg]

theorem elev_only {S : Nat → Prop} (w : World) (b : Nat) (hb : S b) (v3 v4 v5 v6 v7 v8 v9 v10 v11 v12 v13 : Value) : Only S w (elev w b v3 v4 v5 v6 v7 v8 v9 v10 v11 v12 v13) :=
  (((((((((((Only.refl S w).set (.inl hb) _).set (.inl hb) _).set (.inl hb) _).set (.inl hb) _).set (.inl hb) _).set (.inl hb) _).set (.inl hb) _).set (.inl hb) _).set (.inl hb) _).set (.inl hb) _).set (.inl hb) _

def upEl (F : Nat → Value) (v3 v4 v5 v6 v7 v8 v9 v10 v11 v12 v13 : Value) : Nat → Value := upO (upO (upO (upO (upO (upO (upO (upO (upO (upO (upO F 3 v3) 4 v4) 5 v5) 6 v6) 7 v7) 8 v8) 9 v9) 10 v10) 11 v11) 12 v12) 13 v13

theorem elev_srf {w : World} {b : Nat} {F : Nat → Value} (h : SrfB w b F) (v3 v4 v5 v6 v7 v8 v9 v10 v11 v12 v13 : Value) : SrfB (elev w b v3 v4 v5 v6 v7 v8 v9 v10 v11 v12 v13) b (upEl F v3 v4 v5 v6 v7 v8 v9 v10 v11 v12 v13) :=
  ((((((((((h.set 3 v3).set 4 v4).set 5 v5).set 6 v6).set 7 v7).set 8 v8).set 9 v9).set 10 v10).set 11 v11).set 12 v12).set 13 v13

theorem elev_size (w : World) (b : Nat) (v3 v4 v5 v6 v7 v8 v9 v10 v11 v12 v13 : Value) : (elev w b v3 v4 v5 v6 v7 v8 v9 v10 v11 v12 v13).heap.size = w.heap.size := by
  unfold elev
  simp

/-- Behind what was asked for, and the kept hint of it: the surface is as it will be, but for its place among its siblings. -/
theorem PRaw.nowK {w W2 : World} {S : Nat → Prop} {x : Nat} {st : St} (hw : Wf st) {bv : Value} {sc mp : Nat} {blk : Int → Nat} {G : Int → Nat → Value} (h : PRaw w S x st bv sc mp blk G) {i : Nat} (hi : i ∈ st.order) (l : Look) (hl : (st.sf i).next = l) (pv hv : Value) (hpv : G i 16 = pv) (hhv : G i 24 = hv) (kg : Nat)
    (W1 : World) (hW1 : W1 = elev w (blk i) (.int .i64 l.w) (.int .i64 l.h) pv (.int .i64 l.x) (.int .i64 l.y) (.int .i64 l.clip.1) (.int .i64 l.clip.2.1) (.int .i64 l.clip.2.2.1) (.int .i64 l.clip.2.2.2) (.bool l.cut) hv) (hb : Below W1.heap.size W1 W2) (hkg : w.heap.size ≤ kg) (hbf : BoolF W2 kg l.n (keptOf l)) (S' : Nat → Prop) (hS : ∀ g, S g → S' g) (hS2 : S' kg) :
    ∃ G', PRaw (((W2.setCell ⟨blk i, 28, none⟩ (.int .i64 l.w)).setCell ⟨blk i, 29, none⟩ (.int .i64 l.h)).setCell ⟨blk i, 30, none⟩ (.slice (some ⟨kg, 0, none⟩) l.n l.n)) S' x (Go.Proofs.YtofinpocigbbeaaGreat.upd st i sfNowK) bv sc mp blk G' := by
  have hil := hw.lt hi
  obtain ⟨kc, kf, kl⟩ := h.at (live_nat hi)
  have q := (h.cells i (live_nat hi)).nat
  have d := h.data i hi
  have hs : SrfB w (blk i) (G i) := h.srf i (live_nat hi)
  have hsz : W1.heap.size = w.heap.size := by rw [hW1]; exact elev_size ..
  have hs1 : SrfB W1 (blk i) (upEl (G i) (.int .i64 l.w) (.int .i64 l.h) pv (.int .i64 l.x) (.int .i64 l.y) (.int .i64 l.clip.1) (.int .i64 l.clip.2.1) (.int .i64 l.clip.2.2.1) (.int .i64 l.clip.2.2.2) (.bool l.cut) hv) := by rw [hW1]; exact elev_srf hs ..
  have hs2 := hs1.keep (hb.block (blk i) (by omega))
  have hs3 := ((hs2.set 28 (.int .i64 l.w)).set 29 (.int .i64 l.h)).set 30 (.slice (some ⟨kg, 0, none⟩) l.n l.n)
  have hkb : kg ≠ blk i := by omega
  have hoth : ∀ g, g < w.heap.size → g ≠ blk i → (((W2.setCell ⟨blk i, 28, none⟩ (.int .i64 l.w)).setCell ⟨blk i, 29, none⟩ (.int .i64 l.h)).setCell ⟨blk i, 30, none⟩ (.slice (some ⟨kg, 0, none⟩) l.n l.n)).heap[g]? = w.heap[g]? := fun g hg hne => by
    rw [heap_setCell_other _ ⟨blk i, 30, none⟩ g _ hne, heap_setCell_other _ ⟨blk i, 29, none⟩ g _ hne, heap_setCell_other _ ⟨blk i, 28, none⟩ g _ hne, hb.block g (by omega), hW1, elev_other w _ g hne]
  obtain ⟨scur, hscur, _⟩ := hs
  have hkd : KeptD w (((W2.setCell ⟨blk i, 28, none⟩ (.int .i64 l.w)).setCell ⟨blk i, 29, none⟩ (.int .i64 l.h)).setCell ⟨blk i, 30, none⟩ (.slice (some ⟨kg, 0, none⟩) l.n l.n)) := fun g cur t ht e => hoth g (block_lt e) (neT e hscur (ht.ne (by unfold DataT; decide)))
  have d2 := (d.kd hkd).mono hS
  have dp := d2.npix
  have dh := d2.nhint
  rw [hl, hpv] at dp
  rw [hl, hhv] at dh
  have qn := q.next
  rw [hl] at qn
  have hnow : ((sfNowK) (st.sf i)).now = l := hl
  refine ⟨_, h.updS hS (gf := sfNowK) hi hil (fun _ => rfl) hoth hs3 rfl (NCells.upd hil ⟨q.num, q.par, ?_, ?_, q.stk, ⟨_, _, _, _, _, rfl, rfl, rfl⟩⟩) ?_⟩
  · rw [hnow]
    exact ⟨rfl, rfl, by rw [← hpv]; exact qn.pix, rfl, rfl, rfl, rfl, rfl, rfl, rfl, by rw [← hhv]; exact qn.hint⟩
  · exact ⟨q.next.w, q.next.h, q.next.pix, q.next.x, q.next.y, q.next.c0, q.next.c1, q.next.c2, q.next.c3, q.next.cut, q.next.hint⟩
  · refine ⟨?_, ?_, d2.npix, d2.nhint, ?_, ?_, ?_⟩
    · rw [hnow]; exact dp
    · rw [hnow]; exact dh
    · rw [hnow]; rfl
    · rw [hnow]; rfl
    · rw [hnow]
      refine ⟨some ⟨kg, 0, none⟩, rfl, fun _ => ⟨kg, rfl, hS2, ?_⟩⟩
      have hk : (sfNowK (st.sf i)).kept = keptOf l := by rw [← hl]; rfl
      rw [hk]
      refine hbf.keep ?_
      rw [heap_setCell_other _ ⟨blk i, 30, none⟩ kg _ hkb, heap_setCell_other _ ⟨blk i, 29, none⟩ kg _ hkb, heap_setCell_other _ ⟨blk i, 28, none⟩ kg _ hkb]

end Go.Proofs.YtofinpocigbbeaaGreat

/-! Cmu -/
namespace Go.Proofs.YtofinpocigbbeaaGreat
open Go.RowKit
attribute [local go_sem ↓] Go.wp_at_zero Go.wp_at_succ

/-! ### Commit's first statement: the calls come in their order, the variables are made whenever -/

def OlO (o : Obj) : Prop := ∃ cs : Array Value, o = .cells cs 181 (0, 0) ∧ cs.size = 10
def GrO (o : Obj) : Prop := ∃ cs : Array Value, o = .cells cs 122 (0, 0) ∧ cs.size = 3

theorem olO_new : OlO (.cells #[.int .i64 0, .int .i64 0, .int .i64 0, .int .i64 0, .int .i64 0, .int .i64 0, .int .i64 0, .int .i64 0, .bool false, .int .i64 0] 181) := ⟨_, rfl, rfl⟩
theorem grO_new : GrO (.cells #[.int .i64 0, .int .i64 0, .slice none 0 0] 122) := ⟨_, rfl, rfl⟩

theorem hasB_allocT {u : World} {n : Nat} {o : Obj} {T : TypeId} {k : Nat} : HasB (u.alloc o) n T k ↔ (n = u.heap.size ∧ ∃ cs : Array Value, o = .cells cs T (0, 0) ∧ cs.size = k) ∨ HasB u n T k := by
  constructor
  · intro h
    by_cases e : n = u.heap.size
    · subst e
      obtain ⟨cs, h1, h2⟩ := h
      rw [heap_alloc_new] at h1
      injection h1 with h1
      exact .inl ⟨rfl, cs, h1, h2⟩
    · have hl := h.lt
      simp at hl
      exact .inr (h.keep (heap_old u o n (by omega)).symm)
  · rintro (⟨rfl, cs, rfl, h2⟩ | h)
    · exact ⟨cs, heap_alloc_new u _, h2⟩
    · exact h.alloc o

theorem hasB_allocO {u : World} {n : Nat} {o : Obj} : HasB (u.alloc o) n 181 10 ↔ (n = u.heap.size ∧ OlO o) ∨ HasB u n 181 10 := hasB_allocT
theorem hasB_allocG {u : World} {n : Nat} {o : Obj} : HasB (u.alloc o) n 122 3 ↔ (n = u.heap.size ∧ GrO o) ∨ HasB u n 122 3 := hasB_allocT

theorem HasB.row' {u : World} {n m : Nat} {T : TypeId} {k : Nat} (h : HasB u n T k) (cs : Array Value) (hc : n = m → cs.size = k) : HasB (u.setRow m cs) n T k := by
  obtain ⟨cur, h1, h2⟩ := h
  by_cases e : n = m
  · subst e
    exact ⟨cs, setRow_heap u n _ _ _ _ h1, hc rfl⟩
  · exact ⟨cur, (setRow_other u m n _ e).trans h1, h2⟩

/-- Another block's row was written: a grid stays one. -/
theorem hasB_rowG {u : World} {n m : Nat} {a0 a1 a2 a3 a4 a5 a6 a7 : Int} {b : Bool} {a9 : Int} (hne : n ≠ m) : HasB (u.setRow m #[.int .i64 a0, .int .i64 a1, .int .i64 a2, .int .i64 a3, .int .i64 a4, .int .i64 a5, .int .i64 a6, .int .i64 a7, .bool b, .int .i64 a9]) n 122 3 ↔ HasB u n 122 3 := by
  constructor
  · exact fun h => h.keep (setRow_other u m n _ hne).symm
  · exact fun h => h.keep (setRow_other u m n _ hne)

theorem to_gr (ad : Addr) (a0 a1 : Int) (pa : Option Addr) (pn pk : Nat) : storeCells ad [.int .i64 a0, .int .i64 a1, .slice pa pn pk] 0 = St9 ad [.int .i64 a0, .int .i64 a1, .slice pa pn pk] := rfl

theorem run_gr {w : World} {g : Nat} (h : HasB w g 122 3) (a0 a1 : Int) (pa : Option Addr) (pn pk : Nat) : (St9 ⟨g, 0, none⟩ [.int .i64 a0, .int .i64 a1, .slice pa pn pk]).run Tryz.prog w = .ok () (w.setRow g #[.int .i64 a0, .int .i64 a1, .slice pa pn pk]) := h.row _ rfl (by simp [Value.oneCell'])

theorem Blk.sameRow {u : World} {n : Nat} {T : TypeId} {k : Nat} (h : HasB u n T k) (cs : Array Value) : Blk (u.setRow n cs) n T cs := by
  obtain ⟨cur, h1, _⟩ := h
  exact setRow_heap u n _ _ _ _ h1
theorem Blk.otherRow {u : World} {m n : Nat} {T : TypeId} {cs cs' : Array Value} (h : Blk u m T cs) (hne : m ≠ n) : Blk (u.setRow n cs') m T cs := (setRow_other u n m _ hne).trans h

theorem OwnR.rowT {u : World} {base n : Nat} {v : Value} {l : List R4} {T : TypeId} {k : Nat} (h : OwnR u base v l) (hb : HasB u n T k) (hT : T ≠ 53) (cs : Array Value) : OwnR (u.setRow n cs) base v l := by
  refine ⟨own_keep h.1 fun g hg => setRow_other u n g _ fun e => ?_, h.2⟩
  obtain ⟨cur, e1⟩ := own_type h.1 hg
  obtain ⟨cur2, e2, _⟩ := hb
  subst e
  have := e1.symm.trans e2
  simp at this
  exact hT this.2.symm

attribute [local go_sem high] to_ten run_ten to_gr run_gr
attribute [local go_sem] olO_new grO_new hasB_allocO hasB_allocG hasB_drew hasB_rowG

theorem rect_news {w : World} {base : Nat} {v : Value} {l : List R4} (h : OwnR w base v l) : (v = .slice none 0 0 ∧ l.length = 0) ∨ ∃ ad c, v = .slice (some ad) l.length c ∧ ∀ j u, (rectCells l)[j]? = some u → w.cell? (ad.add j) = some u := by
  by_cases hl : l = []
  · exact .inl ⟨h.2 hl, by rw [hl]; rfl⟩
  · have hpos : 0 < l.length := List.length_pos_iff.2 hl
    obtain ⟨g, cap, e1, e2, e3⟩ := World.ownsRow.form h.1 hpos
    exact .inr ⟨_, cap, e1, fun j u hu => World.ownsRow.cells h.1 (g := g) (by rw [e1]; rfl) j u hu⟩

theorem rectCells_one (l : List R4) : ∀ u ∈ rectCells l, u.oneCell' = true := by
  intro u hu
  unfold rectCells at hu
  rw [List.mem_flatMap] at hu
  obtain ⟨r, _, hu⟩ := hu
  simp at hu
  rcases hu with rfl | rfl | rfl | rfl <;> rfl

theorem OwnR.belowR {w w' : World} {base : Nat} {v : Value} {l : List R4} (h : OwnR w base v l) (hb : Below w.heap.size w w') : OwnR w' base v l := ⟨own_keep h.1 fun g hg => hb.block g (h.1.lt g hg).2, h.2⟩

/-- A list of one rectangle. -/
theorem ownR_one (w : World) (r : R4) : OwnR (w.alloc (.cells #[.int .i64 r.1, .int .i64 r.2.1, .int .i64 r.2.2.1, .int .i64 r.2.2.2] 53)) w.heap.size (.slice (some ⟨w.heap.size, 0, none⟩) 1 1) [r] :=
  ⟨⟨rfl, .inr ⟨w.heap.size, 1, _, rfl, Nat.le_refl _, heap_alloc_new w _, by simp, by unfold maxLen; omega, rfl, rfl⟩⟩, fun h => by cases h⟩

/-- Behind restack, as Commit goes on. -/
structure CmM (w W4 : World) (S : Nat → Prop) (x : Nat) (st : St) (i : Nat) (bv : Value) (sc mp : Nat) (blk : Int → Nat) (G4 : Int → Nat → Value) (kg : Nat) (ob gx : Nat) (OL GR : Array Value) (vv : Value) (parts : List R4) (opa : Option Addr) (on : Nat) (old : Nat → R4) : Prop where
  raw : PRaw W4 (fun g => S g ∨ g = kg) x (cm st i) bv sc mp blk G4
  only : Only S w W4
  kg1 : w.heap.size ≤ kg
  kg2 : ∃ cur, W4.heap[kg]? = some (.cells cur 4 (0, 0))
  ol : Blk W4 ob 181 OL
  gr : Blk W4 gx 122 GR
  row : OwnR W4 w.heap.size vv parts
  was : 0 < on → ∃ g, opa = some ⟨g, 0, none⟩ ∧ PixF W4 g on old
  sl : ∀ g, S g → g < w.heap.size

theorem CmM.below {w W4 W5 : World} {S : Nat → Prop} {x : Nat} {st : St} {i : Nat} {bv : Value} {sc mp : Nat} {blk : Int → Nat} {G4 : Int → Nat → Value} {kg ob gx : Nat} {OL GR : Array Value} {vv : Value} {parts : List R4} {opa : Option Addr} {on : Nat} {old : Nat → R4} (h : CmM w W4 S x st i bv sc mp blk G4 kg ob gx OL GR vv parts opa on old) (hb : Below W4.heap.size W4 W5) : CmM w W5 S x st i bv sc mp blk G4 kg ob gx OL GR vv parts opa on old :=
  ⟨h.raw.below hb, h.only.after hb, h.kg1, let ⟨cur, e⟩ := h.kg2; ⟨cur, (hb.block kg (block_lt e)).trans e⟩, h.ol.keep (hb.block _ (block_lt h.ol)), h.gr.keep (hb.block _ (block_lt h.gr)), h.row.belowR hb, fun hn => let ⟨g, e1, e2⟩ := h.was hn; ⟨g, e1, e2.keep (hb.block g e2.has.lt)⟩, h.sl⟩

/-- What Commit leaves. -/
def CmPost (S : Nat → Prop) (x : Nat) (st : St) (i : Nat) (bv : Value) (w : World) (e : Ending) (w' : World) : Prop := ∃ v, e = .returned v ∧ OwnR w' w.heap.size v (st.cmDam i) ∧ PaneOk w' (grow S w w') x (cm st i) bv ∧ Only S w w'

theorem CmM.pane {w W4 : World} {S : Nat → Prop} {x : Nat} {st : St} {i : Nat} {bv : Value} {sc mp : Nat} {blk : Int → Nat} {G4 : Int → Nat → Value} {kg ob gx : Nat} {OL GR : Array Value} {vv : Value} {parts : List R4} {opa : Option Addr} {on : Nat} {old : Nat → R4} (h : CmM w W4 S x st i bv sc mp blk G4 kg ob gx OL GR vv parts opa on old) : PaneOk W4 (grow S w W4) x (cm st i) bv :=
  ⟨sc, mp, blk, G4, h.raw.mono fun g hg => hg.elim (fun hs => .inl hs) fun e => .inr ⟨by rw [e]; exact h.kg1, by rw [e]; exact let ⟨cur, q⟩ := h.kg2; block_lt q⟩⟩

/-- Behind the append of what is seen now. -/
theorem CmM.moved {w W6 W7 : World} {S : Nat → Prop} {x : Nat} {st : St} {i : Nat} {bv : Value} {sc mp : Nat} {blk : Int → Nat} {G4 : Int → Nat → Value} {kg ob gx : Nat} {OL GR : Array Value} {vv v' : Value} {parts parts2 : List R4} {opa : Option Addr} {on : Nat} {old : Nat → R4} (h : CmM w W6 S x st i bv sc mp blk G4 kg ob gx OL GR vv parts opa on old)
    (hp : parts = (st.visAll i).map st.seen) (hp2 : parts2 = ((cm st i).visAll i).map (cm st i).seen) (hmv : st.moved i = true) (ho : W7.ownsRow w.heap.size 53 4 v' (parts.length + parts2.length) (rectCells parts ++ rectCells parts2)) (hg : W6.grownBy W7 vv.ownBlock) (hv : v' = .slice none 0 0 ↔ vv = .slice none 0 0 ∧ parts2.length = 0) : CmPost S x st i bv w (.returned v') W7 := by
  have hlo : ∀ b, vv.ownBlock = some b → w.heap.size ≤ b := fun b hb => (h.row.1.lt b hb).1
  have hne : ∀ g, (S g ∨ g = kg) → some g ≠ vv.ownBlock := fun g hg e => by
    rcases hg with hg | rfl
    · have := h.sl g hg
      have := hlo g e.symm
      omega
    · obtain ⟨cur, e1⟩ := h.kg2
      obtain ⟨cur2, e2⟩ := own_type h.row.1 e.symm
      have := e1.symm.trans e2
      simp at this
  have hraw := h.raw.keep (w' := W7) fun g hs hl => hg.block g hl (hne g hs)
  have hdam : st.cmDam i = parts ++ parts2 := by
    unfold St.cmDam
    rw [if_pos hmv, hp, hp2]
  refine ⟨v', rfl, ?_, ⟨sc, mp, blk, G4, hraw.mono fun g hs => ?_⟩, h.only.grown hg fun b hb => .inr (hlo b hb)⟩
  · rw [hdam]
    refine ⟨?_, fun hnil => ?_⟩
    · rw [List.length_append, rectCells_append]
      exact ho
    · rw [List.append_eq_nil_iff] at hnil
      exact hv.2 ⟨h.row.2 hnil.1, by rw [hnil.2]; rfl⟩
  · rcases hs with hs | rfl
    · exact .inl hs
    · exact .inr ⟨h.kg1, let ⟨cur, q⟩ := h.kg2; Nat.lt_of_lt_of_le (block_lt q) hg.size⟩

end Go.Proofs.YtofinpocigbbeaaGreat

/-! Cmv -/
namespace Go.Proofs.YtofinpocigbbeaaGreat
open Go.RowKit
attribute [local go_sem ↓] Go.wp_at_zero Go.wp_at_succ

/-- What is asked for has its hint's mark kept. -/
theorem cm_hint {wx : World} {S : Nat → Prop} {x : Nat} {st : St} (hw : Wf st) {bv : Value} {sc mp : Nat} {blk : Int → Nat} {G : Int → Nat → Value} (h : PRaw wx S x st bv sc mp blk G) {i : Nat} (hi : i ∈ st.order) (l : Look) (hl : (st.sf i).next = l) (W H : Nat) (hW : l.w = W) (hH : l.h = H) (pa ha : Option Addr) (hm hk : Nat) (hpv : G i 16 = .slice pa l.n l.n) (hhv : G i 24 = .slice ha hm hk) (V : World) (hV : KeptD wx V) :
    Calls Tryz.prog 107 #[.agg (lookV W H (.slice pa l.n l.n) l.x l.y l.clip l.cut (.slice ha hm hk))] V fun e w' => ∃ g, e = .returned (.agg #[.int .i64 W, .int .i64 H, .slice (some ⟨g, 0, none⟩) l.n l.n]) ∧ BoolF w' g l.n (keptOf l) ∧ V.heap.size ≤ g ∧ Below V.heap.size V w' := by
  have d := (h.data i hi).kd hV
  have lk := (hw.lk i).2
  rw [hl] at lk
  have lw := lk.w
  have lh := lk.h
  obtain ⟨pa', e, hp⟩ := d.npix
  rw [hl] at e hp
  rw [hpv] at e
  injection e with e
  subst e
  obtain ⟨R, hR, hG, hM⟩ := d.nhint
  rw [hhv] at hR
  rw [hl] at hM
  have hn : W * H = l.n := by unfold Look.n; rw [hW, hH, ← Int.natCast_mul, Int.toNat_natCast]
  refine (keptHint_any W H l.n pa l.x l.y l.clip l.cut ha hm hk l.pix l.hint R V (by omega) (by omega) hn (fun h0 => ?_) (OutAt.bands hR.out) hG hM).mono ?_
  · obtain ⟨g, e1, _, e2⟩ := hp h0
    exact ⟨g, e1, e2⟩
  · rintro e w' ⟨g, rfl, hb, hg, hB⟩
    refine ⟨g, rfl, ?_, hg, hB⟩
    have : (fun k : Nat => l.hint ((k : Int) % W) ((k : Int) / W) && decide ((l.pix k).2.2.2 = 255)) = keptOf l := by
      funext k
      unfold keptOf
      rw [hW]
    rw [← this]
    exact hb

theorem elev_kept {w : World} {b : Nat} {F : Nat → Value} (h : SrfB w b F) (v3 v4 v5 v6 v7 v8 v9 v10 v11 v12 v13 : Value) : KeptD w (elev w b v3 v4 v5 v6 v7 v8 v9 v10 v11 v12 v13) := fun g cur t ht e => by
  obtain ⟨scur, hscur, _⟩ := h
  exact elev_other w b g (neT e hscur (ht.ne (by unfold DataT; decide))) ..

theorem cm_st1 {st : St} {i : Nat} (hil : i < st.sfs.length) : (Go.Proofs.YtofinpocigbbeaaGreat.upd st i sfNowK).sf i = sfNowK (st.sf i) := by rw [upd_sf _ _ _ _ hil, if_pos rfl]

/-- The place among the siblings. -/
theorem cm_restack {w wx W2 : World} {S : Nat → Prop} {x : Nat} {st : St} (hf : Fine st) (hSl : ∀ g, S g → g < w.heap.size) {bv : Value} {sc mp : Nat} {blk : Int → Nat} {G : Int → Nat → Value} (h : PRaw w S x st bv sc mp blk G) {i : Nat} (hi : i ∈ st.order) (hbx : Below w.heap.size w wx) {ob gx : Nat} {OL GR : Array Value} {vv : Value} {parts : List R4}
    (hob : Blk wx ob 181 OL) (hgx : Blk wx gx 122 GR) (hrow : OwnR wx w.heap.size vv parts) (hob1 : w.heap.size ≤ ob) (hgx1 : w.heap.size ≤ gx) (l : Look) (hl : (st.sf i).next = l) (pv hv : Value) (hpv : G i 16 = pv) (hhv : G i 24 = hv) (kg : Nat)
    (W1 : World) (hW1 : W1 = elev wx (blk i) (.int .i64 l.w) (.int .i64 l.h) pv (.int .i64 l.x) (.int .i64 l.y) (.int .i64 l.clip.1) (.int .i64 l.clip.2.1) (.int .i64 l.clip.2.2.1) (.int .i64 l.clip.2.2.2) (.bool l.cut) hv) (hb : Below W1.heap.size W1 W2) (hkg : wx.heap.size ≤ kg) (hbf : BoolF W2 kg l.n (keptOf l)) (oa : Option Addr) (on : Nat) (hon : on = (st.sf i).now.n) (h5 : G i 5 = .slice oa on on) :
    Calls Tryz.prog 108 #[.pointer (some ⟨blk i, 0, none⟩)] (((W2.setCell ⟨blk i, 28, none⟩ (.int .i64 l.w)).setCell ⟨blk i, 29, none⟩ (.int .i64 l.h)).setCell ⟨blk i, 30, none⟩ (.slice (some ⟨kg, 0, none⟩) l.n l.n)) fun e w' => e = .returned (.tuple #[]) ∧ ∃ G4, CmM w w' S x st i bv sc mp blk G4 kg ob gx OL GR vv parts oa on (st.sf i).now.pix := by
  have hw := hf.wf
  have hil := hw.lt hi
  have hx := h.below hbx
  have hibS : S (blk i) := h.own.2.2.2 i (live_nat hi)
  have hibl := hSl _ hibS
  have hsx := hbx.size
  have hs : SrfB wx (blk i) (G i) := hx.srf i (live_nat hi)
  have hsz : W1.heap.size = wx.heap.size := by rw [hW1]; exact elev_size ..
  have hO1 : Only S w W1 := by
    rw [hW1]
    exact (Only.below hbx).trans ((elev_only (S := S) wx (blk i) hibS ..).mono fun g _ hg => .inl hg)
  obtain ⟨G3, h3⟩ := hx.nowK hw hi l hl pv hv hpv hhv kg W1 hW1 hb hkg hbf (fun g => S g ∨ g = kg) (fun g hg => .inl hg) (.inr rfl)
  have hO3 : Only S w (((W2.setCell ⟨blk i, 28, none⟩ (.int .i64 l.w)).setCell ⟨blk i, 29, none⟩ (.int .i64 l.h)).setCell ⟨blk i, 30, none⟩ (.slice (some ⟨kg, 0, none⟩) l.n l.n)) := (((hO1.after hb).set (.inl hibS) _).set (.inl hibS) _).set (.inl hibS) _
  have hoth : ∀ g, g < W2.heap.size → g ≠ blk i → (((W2.setCell ⟨blk i, 28, none⟩ (.int .i64 l.w)).setCell ⟨blk i, 29, none⟩ (.int .i64 l.h)).setCell ⟨blk i, 30, none⟩ (.slice (some ⟨kg, 0, none⟩) l.n l.n)).heap[g]? = W2.heap[g]? := fun g hg hne => by
    rw [heap_setCell_other _ ⟨blk i, 30, none⟩ g _ hne, heap_setCell_other _ ⟨blk i, 29, none⟩ g _ hne, heap_setCell_other _ ⟨blk i, 28, none⟩ g _ hne]
  have hs2 := hb.size
  have hold : ∀ g, g < wx.heap.size → g ≠ blk i → (((W2.setCell ⟨blk i, 28, none⟩ (.int .i64 l.w)).setCell ⟨blk i, 29, none⟩ (.int .i64 l.h)).setCell ⟨blk i, 30, none⟩ (.slice (some ⟨kg, 0, none⟩) l.n l.n)).heap[g]? = wx.heap[g]? := fun g hg hne => by
    rw [hoth g (by omega) hne, hb.block g (by omega), hW1, elev_other wx _ g hne]
  have hW3s : (((W2.setCell ⟨blk i, 28, none⟩ (.int .i64 l.w)).setCell ⟨blk i, 29, none⟩ (.int .i64 l.h)).setCell ⟨blk i, 30, none⟩ (.slice (some ⟨kg, 0, none⟩) l.n l.n)).heap.size = W2.heap.size := by simp
  obtain ⟨kcur, hkc, _⟩ := id hbf
  have hkl := block_lt hkc
  have hkd : KeptD wx (((W2.setCell ⟨blk i, 28, none⟩ (.int .i64 l.w)).setCell ⟨blk i, 29, none⟩ (.int .i64 l.h)).setCell ⟨blk i, 30, none⟩ (.slice (some ⟨kg, 0, none⟩) l.n l.n)) := fun g cur t ht e => by
    obtain ⟨scur, hscur, _⟩ := hs
    exact hold g (block_lt e) (neT e hscur (ht.ne (by unfold DataT; decide)))
  generalize (((W2.setCell ⟨blk i, 28, none⟩ (.int .i64 l.w)).setCell ⟨blk i, 29, none⟩ (.int .i64 l.h)).setCell ⟨blk i, 30, none⟩ (.slice (some ⟨kg, 0, none⟩) l.n l.n)) = W3 at h3 hO3 hoth hold hW3s hkd ⊢
  have hfw : Wf (Go.Proofs.YtofinpocigbbeaaGreat.upd st i sfNowK) := upd_wf hw hil (fun _ => rfl) (fun _ => rfl) ⟨(hw.lk i).2, (hw.lk i).2⟩
  have e1 := cm_st1 (st := st) hil
  have hpar : ∀ j, ((Go.Proofs.YtofinpocigbbeaaGreat.upd st i sfNowK).sf j).parent = (st.sf j).parent := (upd_alike hil (g := sfNowK) fun _ => rfl).par
  have hend : ∀ w' : World, ∀ e : Ending, (e = .returned (.tuple #[]) ∧ (∃ G4, PRaw w' (fun g => S g ∨ g = kg) x (cm st i) bv sc mp blk G4) ∧ Only (fun g => S g ∨ g = kg) W3 w' ∧ KeptD W3 w') → e = .returned (.tuple #[]) ∧ ∃ G4, CmM w w' S x st i bv sc mp blk G4 kg ob gx OL GR vv parts oa on (st.sf i).now.pix := by
    rintro w' e ⟨rfl, ⟨G4, h4⟩, r2, r3⟩
    have hnew : ∀ g, w.heap.size ≤ g → g < wx.heap.size → w'.heap[g]? = wx.heap[g]? := fun g h1 h2 => by
      rw [r2.block g (by omega) (fun hh => by
        rcases hh with hh | hh
        · have := hSl g hh; omega
        · omega), hold g h2 (by omega)]
    refine ⟨rfl, G4, h4, hO3.trans (r2.mono fun g _ hg => ?_), by omega, ⟨kcur, ?_⟩, hob.keep (hnew _ hob1 (block_lt hob)), hgx.keep (hnew _ hgx1 (block_lt hgx)), ⟨own_keep hrow.1 fun g hg => hnew g (hrow.1.lt g hg).1 (hrow.1.lt g hg).2, hrow.2⟩, fun hn => ?_, hSl⟩
    · rcases hg with hg | rfl
      · exact .inl hg
      · exact .inr ⟨by omega, by omega⟩
    · have hk3 : W3.heap[kg]? = some (.cells kcur 4 (0, 0)) := (hoth kg hkl (by omega)).trans hkc
      exact (r3 kg kcur 4 (.inr (.inl rfl)) hk3).trans hk3
    · obtain ⟨a, f1, f2⟩ := (((hx.data i hi).kd hkd).kd r3).pix
      rw [← hon] at f1 f2
      rw [h5] at f1
      injection f1 with f1
      subst f1
      obtain ⟨g, q1, _, q2⟩ := f2 hn
      exact ⟨g, q1, q2⟩
  by_cases hask : (st.sf i).ask = true
  · obtain ⟨s, s1, s2, s3, s4⟩ := hf.sib i hi hask
    by_cases hso : s ∈ st.order
    · have hputs : st.puts i = true := by
        unfold St.puts
        rw [hask, s1, (isB_iff hw _).2 ⟨s, rfl, hso⟩]
        rfl
      refine (restack_in hfw h3 i s hi hso s2 (by rw [hpar, hpar]; exact s4) (st.sf i).above (by rw [e1]; exact hask) (by rw [e1]; exact s1) (by rw [e1]; rfl)).mono ?_
      rintro e w' ⟨rfl, r1, r2, r3⟩
      refine hend w' _ ⟨rfl, ?_, r2, r3⟩
      have := cm_steps st i (rsL st.order i s (st.sf i).above) (by rw [if_pos hputs, s1, Int.toNat_natCast])
      rw [← this]
      exact r1
    · have hputs : ¬ st.puts i = true := by
        unfold St.puts
        rw [s1]
        intro hb
        rw [Bool.and_eq_true] at hb
        obtain ⟨j, j1, j2⟩ := (isB_iff hw _).1 hb.2
        have : s = j := by omega
        subst this
        exact hso j2
      refine (restack_out hfw h3 i s hi hso (by rw [e1]; exact hask) (by rw [e1]; exact s1)).mono ?_
      rintro e w' ⟨rfl, r1, r2, r3⟩
      refine hend w' _ ⟨rfl, ?_, r2, r3⟩
      have := cm_steps st i st.order (by rw [if_neg hputs])
      rw [← this]
      exact r1
  · have hask2 : (st.sf i).ask = false := by simpa using hask
    have hputs : ¬ st.puts i = true := by
      unfold St.puts
      rw [hask2]
      simp
    refine (restack_no hfw h3 i hi (by rw [e1]; exact hask2)).mono ?_
    rintro e w' ⟨rfl, r1, r2, r3⟩
    refine hend w' _ ⟨rfl, ?_, r2, r3⟩
    have := cm_steps st i st.order (by rw [if_neg hputs])
    rw [← this]
    exact r1

theorem SrfB.cell {w : World} {b : Nat} {F : Nat → Value} (h : SrfB w b F) (o : Nat) (ho : o < 31) : w.cell? ⟨b, o, none⟩ = some (F o) := by
  obtain ⟨cur, h1, h2, h3⟩ := h
  rw [← h3 o ho]
  have := cell_of_row w b o cur _ _ h1
  exact this

theorem SrfB.free {w : World} {b : Nat} {F : Nat → Value} (h : SrfB w b F) (o : Nat) : w.frozen? ⟨b, o, none⟩ = false := by
  obtain ⟨cur, h1, h2, h3⟩ := h
  exact HasB.free ⟨cur, h1, h2⟩ o

/-- The kept hint is stored. -/
theorem run_kept {V : World} {gb : Nat} {F : Nat → Value} (h : SrfB V gb F) (a b : Int) (p : Option Addr) (n m : Nat) : (St9 ⟨gb, 28, none⟩ [.int .i64 a, .int .i64 b, .slice p n m]).run Tryz.prog V = .ok () (((V.setCell ⟨gb, 28, none⟩ (.int .i64 a)).setCell ⟨gb, 29, none⟩ (.int .i64 b)).setCell ⟨gb, 30, none⟩ (.slice p n m)) := by
  have e28 := h.cell 28 (by omega)
  have e29 := h.cell 29 (by omega)
  have e30 := h.cell 30 (by omega)
  have g28 := h.free 28
  have g29 := h.free 29
  have g30 := h.free 30
  show (storeCells ⟨gb, 28, none⟩ [.int .i64 a, .int .i64 b, .slice p n m] 0).run Tryz.prog V = _
  go_simp

end Go.Proofs.YtofinpocigbbeaaGreat

/-! PanR -/
namespace Go.Proofs.YtofinpocigbbeaaGreat
open Go.RowKit
attribute [local go_sem ↓] Go.wp_at_zero Go.wp_at_succ
attribute [local go_sem high] to_ten run_ten to_gr run_gr
attribute [local go_sem] olO_new grO_new hasB_allocO hasB_allocG hasB_drew hasB_rowG

set_option linter.unusedSimpArgs false in
set_option maxRecDepth 100000 in
set_option maxHeartbeats 4000000 in
/-- (*Surface).Commit -/
theorem sfCommit_any {w : World} {S : Nat → Prop} {x : Nat} {st : St} (hf : Fine st) {bv : Value} {sc mp : Nat} {blk : Int → Nat} {G : Int → Nat → Value} (h : PRaw w S x st bv sc mp blk G) (hSl : ∀ g, S g → g < w.heap.size) (i : Nat) (hi : i ∈ st.order) :
    Calls Tryz.prog 64 #[.pointer (some ⟨blk i, 0, none⟩)] w (CmPost S x st i bv w) := by
  have hw := hf.wf
  have hwc := cm_wf hw hf.sib hi
  have hic : i ∈ (cm st i).order := (cm_perm hw hf.sib hi).mem_iff.2 hi
  obtain ⟨i0, hi0, hz0, hz1, hz2⟩ := info_parts rectInfo
  obtain ⟨gb, hgb⟩ : ∃ gb, blk i = gb := ⟨_, rfl⟩
  obtain ⟨N, hN⟩ : ∃ N, (st.sf i).now = N := ⟨_, rfl⟩
  obtain ⟨K, hK⟩ : ∃ K : Int, (st.pos i : Int) = K := ⟨_, rfl⟩
  obtain ⟨N2, hN2⟩ : ∃ N2, ((cm st i).sf i).now = N2 := ⟨_, rfl⟩
  obtain ⟨K2, hK2⟩ : ∃ K2 : Int, ((cm st i).pos i : Int) = K2 := ⟨_, rfl⟩
  obtain ⟨parts, hparts⟩ : ∃ parts, (st.visAll i).map st.seen = parts := ⟨_, rfl⟩
  obtain ⟨rn, hrn⟩ : ∃ rn, parts.length = rn := ⟨_, rfl⟩
  obtain ⟨parts2, hparts2⟩ : ∃ parts2, ((cm st i).visAll i).map (cm st i).seen = parts2 := ⟨_, rfl⟩
  obtain ⟨rn2, hrn2⟩ : ∃ rn2, parts2.length = rn2 := ⟨_, rfl⟩
  have hr13 : rn ≤ 13 := by rw [← hrn, ← hparts, List.length_map]; exact visAll_len hw (live_nat hi)
  have hr13' : rn2 ≤ 13 := by rw [← hrn2, ← hparts2, List.length_map]; exact visAll_len hwc (live_nat hic)
  obtain ⟨a, ha⟩ : ∃ a, N.w = a := ⟨_, rfl⟩
  obtain ⟨b, hb⟩ : ∃ b, N.h = b := ⟨_, rfl⟩
  obtain ⟨opa, e5, _⟩ := (h.data i hi).pix
  obtain ⟨on, hon⟩ : ∃ on, (st.sf i).now.n = on := ⟨_, rfl⟩
  rw [hon] at e5
  obtain ⟨mb, hmb⟩ : ∃ mb, st.moved i = mb := ⟨_, rfl⟩
  have FG : Hid (∀ V : World, Below w.heap.size w V → V.cell? ⟨gb, 3, none⟩ = some (.int .i64 a) ∧ V.cell? ⟨gb, 4, none⟩ = some (.int .i64 b) ∧ V.cell? ⟨gb, 5, none⟩ = some (.slice opa on on)) := fun V hV => by
    obtain ⟨kc, kf, kl⟩ := (h.below hV).at (live_nat hi)
    have q := (h.cells i (live_nat hi)).nat
    have qn := q.now
    rw [hN] at qn
    rw [← hgb]
    exact ⟨by rw [kc 3 (by omega), ← ha]; exact congrArg some qn.w, by rw [kc 4 (by omega), ← hb]; exact congrArg some qn.h, by rw [kc 5 (by omega), e5]⟩
  have HOl : Hid (∀ V : World, Below w.heap.size w V → Calls Tryz.prog 105 #[.pointer (some ⟨gb, 0, none⟩)] V fun e w1 => e = .returned (.agg #[.int .i64 a, .int .i64 b, .int .i64 N.x, .int .i64 N.y, .int .i64 N.clip.1, .int .i64 N.clip.2.1, .int .i64 N.clip.2.2.1, .int .i64 N.clip.2.2.2, .bool N.cut, .int .i64 K]) ∧ Below V.heap.size V w1 ∧ Below w.heap.size w w1) := fun V hV => by
    have := outline_any hw h i hi V hV
    rw [hgb, hN, hK] at this
    unfold olC at this
    rw [ha, hb] at this
    refine this.mono ?_
    rintro e w1 ⟨rfl, h1⟩
    exact ⟨rfl, h1, hV.trans (h1.mono hV.size)⟩
  have HSp : Hid (∀ V : World, Below w.heap.size w V → Calls Tryz.prog 106 #[.pointer (some ⟨gb, 0, none⟩)] V fun e w2 => ∃ v2 c2, e = .returned (.slice v2 rn c2) ∧ OwnR w2 w.heap.size (.slice v2 rn c2) parts ∧ Below V.heap.size V w2 ∧ Below w.heap.size w w2) := fun V hV => by
    have hr := h.below hV
    have := seenParts_any hw (live_nat hi) (hr.lays hw (live_nat hi)) (hr.sl hw (live_nat hi))
    rw [hgb, hparts] at this
    refine this.mono ?_
    rintro e w2 ⟨v, rfl, h1, h2⟩
    obtain ⟨va, vc, rfl⟩ := h1.form
    rw [hrn] at h1 ⊢
    exact ⟨va, vc, rfl, h1.lower hV.size, h2, hV.trans (h2.mono hV.size)⟩
  rw [hgb]
  have HRaw := hide h
  have HF := hide (And.intro hf (And.intro hSl (And.intro hi (And.intro hwc (And.intro hic (And.intro hw hmb))))))
  have HE := hide (And.intro hgb (And.intro hN (And.intro hK (And.intro hN2 (And.intro hK2 (And.intro hparts (And.intro hrn (And.intro hparts2 (And.intro hrn2 (And.intro ha (And.intro hb (And.intro e5 hon))))))))))))
  clear h hf hSl hi hwc hic hw hmb hgb hN hK hN2 hK2 hparts hrn hparts2 hrn2 ha hb e5 hon
  go_enter Tryz.func64, Tryz.ntmps64
  go_upto_region 1 with fail
  go_cut [3, 4, 5] (fun s3 s4 s5 wx => ∃ ob gx v c, s3 = .pointer (some ⟨ob, 0, none⟩) ∧ s4 = .pointer (some ⟨gx, 0, none⟩) ∧ s5 = .slice v rn c ∧ Hid (Below w.heap.size w wx ∧ Blk wx ob 181 #[.int .i64 a, .int .i64 b, .int .i64 N.x, .int .i64 N.y, .int .i64 N.clip.1, .int .i64 N.clip.2.1, .int .i64 N.clip.2.2.1, .int .i64 N.clip.2.2.2, .bool N.cut, .int .i64 K] ∧ Blk wx gx 122 #[.int .i64 a, .int .i64 b, .slice opa on on] ∧ OwnR wx w.heap.size (.slice v rn c) parts ∧ w.heap.size ≤ ob ∧ w.heap.size ≤ gx))
  case first =>
    clear HRaw HF HE
    go_region_held3 (fun w' => w'.cell? ⟨gb, 3, none⟩ = some (.int .i64 a) ∧ w'.cell? ⟨gb, 4, none⟩ = some (.int .i64 b) ∧ w'.cell? ⟨gb, 5, none⟩ = some (.slice opa on on))
      (first
        | (refine FG.out _ ?_; (repeat (first | with_reducible exact Below.refl _ _ | with_reducible exact HB1.out | with_reducible exact HB2.out.1 | with_reducible refine Below.drew ?_ | with_reducible refine Below.setRow ?_ (by first | omega | (simp <;> omega)) _ | with_reducible refine Below.alloc ?_ (by first | omega | (simp <;> omega)) _)); done)
        | fail)
      (first
        | (go_at_call 105; refine (HOl.out _ ?_).mono ?_; (repeat (first | with_reducible exact Below.refl _ _ | with_reducible refine Below.drew ?_ | with_reducible refine Below.alloc ?_ (by first | omega | (simp <;> omega)) _)); rintro e w1 ⟨rfl, hb, hb1⟩; have n1 := hb.size; (try simp at n1); (try have p1 : w1.heap.size ≠ w.heap.size := by omega); (try have p1' : w.heap.size ≠ w1.heap.size := by omega); have HB1 := hide hb1; (try (have q0 := HasB.under (n := w.heap.size) (T := 181) (k := 10) hb; simp [olO_new, hasB_allocO, hasB_drew] at q0)); (try (have q1 := HasB.under (n := w.heap.size + 1) (T := 181) (k := 10) hb; simp [olO_new, hasB_allocO, hasB_drew] at q1)); (try (have r0 := HasB.under (n := w.heap.size) (T := 122) (k := 3) hb; simp [grO_new, hasB_allocG, hasB_drew] at r0)); (try (have r1 := HasB.under (n := w.heap.size + 1) (T := 122) (k := 3) hb; simp [grO_new, hasB_allocG, hasB_drew] at r1)); clear hb1 hb)
        | (go_at_call 106; refine (HSp.out _ ?_).mono ?_; (repeat (first | with_reducible exact Below.refl _ _ | with_reducible exact HB1.out | with_reducible refine Below.drew ?_ | with_reducible refine Below.alloc ?_ (by first | omega | (simp <;> omega)) _)); rintro e w2 ⟨v2, c2, rfl, hr2, hb, hb2⟩; have n2 := hb.size; (try simp at n2); (try have p2 : w2.heap.size ≠ w.heap.size := by omega); (try have p2' : w.heap.size ≠ w2.heap.size := by omega); (try have p3 : w2.heap.size ≠ w1.heap.size := by omega); (try have p3' : w1.heap.size ≠ w2.heap.size := by omega); have HB2 := hide (And.intro hb2 hr2); (try (have q2 := HasB.under (n := w.heap.size) (T := 181) (k := 10) hb; simp [olO_new, hasB_allocO, hasB_drew, *] at q2)); (try (have q3 := HasB.under (n := w.heap.size + 1) (T := 181) (k := 10) hb; simp [olO_new, hasB_allocO, hasB_drew, *] at q3)); (try (have q4 := HasB.under (n := w1.heap.size) (T := 181) (k := 10) hb; simp [olO_new, hasB_allocO, hasB_drew] at q4)); (try (have q5 := HasB.under (n := w1.heap.size + 1) (T := 181) (k := 10) hb; simp [olO_new, hasB_allocO, hasB_drew] at q5)); (try (have r2 := HasB.under (n := w.heap.size) (T := 122) (k := 3) hb; simp [grO_new, hasB_allocG, hasB_drew, *] at r2)); (try (have r3 := HasB.under (n := w.heap.size + 1) (T := 122) (k := 3) hb; simp [grO_new, hasB_allocG, hasB_drew, *] at r3)); (try (have r4 := HasB.under (n := w1.heap.size) (T := 122) (k := 3) hb; simp [grO_new, hasB_allocG, hasB_drew] at r4)); (try (have r5 := HasB.under (n := w1.heap.size + 1) (T := 122) (k := 3) hb; simp [grO_new, hasB_allocG, hasB_drew] at r5)); clear hb2 hb hr2)
        | fail)
    all_goals go_wp2_with fail
    all_goals go_meet
    all_goals refine ⟨_, _, _, _, rfl, rfl, rfl, ?_⟩
    all_goals unfold Hid
    all_goals refine ⟨?_, ?_, ?_, ?_, ?_, ?_⟩
    all_goals first
      | ((repeat (first | with_reducible exact Below.refl _ _ | with_reducible exact HB2.out.1 | with_reducible refine Below.drew ?_ | with_reducible refine Below.setRow ?_ (by first | omega | (simp <;> omega)) _ | with_reducible refine Below.alloc ?_ (by first | omega | (simp <;> omega)) _)); done)
      | omega
      | (simp; omega)
      | ((repeat (first
          | with_reducible refine Blk.sameRow (T := 181) (k := 10) ?_ _
          | with_reducible refine Blk.sameRow (T := 122) (k := 3) ?_ _
          | with_reducible refine Blk.otherRow ?_ (by first | omega | (simp <;> omega))))
         simp [olO_new, grO_new, hasB_allocO, hasB_allocG, hasB_drew, hasB_rowG, *]; done)
      | (refine OwnR.rowT (T := 122) (k := 3) (OwnR.rowT (T := 181) (k := 10) ?_ ?_ (by decide) _) ?_ (by decide) _
         all_goals first
           | ((repeat (first | exact HB2.out.2 | refine OwnR.alloc ?_ _)); done)
           | (simp [olO_new, grO_new, hasB_allocO, hasB_allocG, hasB_drew, hasB_rowG, *]; done))
  case rest =>
    obtain ⟨ob, gx, va, vc, rfl, rfl, rfl, HC⟩ := hcut
    obtain ⟨hbx, hob, hgx, hrow, hob1, hgx1⟩ := HC.out
    obtain ⟨hf, hSl, hi, hwc, hic, hw, hmb⟩ := HF.out
    obtain ⟨hgb, hN, hK, hN2, hK2, hparts, hrn, hparts2, hrn2, ha, hb, e5, hon⟩ := HE.out
    have h := HRaw.out
    have hx := h.below hbx
    obtain ⟨kc, kf, kl⟩ := hx.at (live_nat hi)
    have q := (hx.cells i (live_nat hi)).nat
    obtain ⟨l, hl⟩ : ∃ l, (st.sf i).next = l := ⟨_, rfl⟩
    have lk := (hw.lk i).2
    rw [hl] at lk
    have lw := lk.w
    have lh := lk.h
    obtain ⟨W, hWl⟩ : ∃ W : Nat, l.w = (W : Int) := ⟨l.w.toNat, by omega⟩
    obtain ⟨H, hHl⟩ : ∃ H : Nat, l.h = (H : Int) := ⟨l.h.toNat, by omega⟩
    obtain ⟨n, hn⟩ : ∃ n, l.n = n := ⟨_, rfl⟩
    obtain ⟨pa, e16, _⟩ := (hx.data i hi).npix
    rw [hl, hn] at e16
    obtain ⟨ha', hm, hk, e24⟩ := q.next.hint
    have e24' : G i 24 = .slice ha' hm hk := e24
    have qn := q.next
    rw [hl] at qn
    obtain ⟨W1, hW1⟩ : ∃ W1, W1 = elev wc (blk i) (.int .i64 l.w) (.int .i64 l.h) (.slice pa n n) (.int .i64 l.x) (.int .i64 l.y) (.int .i64 l.clip.1) (.int .i64 l.clip.2.1) (.int .i64 l.clip.2.2.1) (.int .i64 l.clip.2.2.2) (.bool l.cut) (.slice ha' hm hk) := ⟨_, rfl⟩
    have hs1 : SrfB W1 (blk i) (upEl (G i) (.int .i64 l.w) (.int .i64 l.h) (.slice pa n n) (.int .i64 l.x) (.int .i64 l.y) (.int .i64 l.clip.1) (.int .i64 l.clip.2.1) (.int .i64 l.clip.2.2.1) (.int .i64 l.clip.2.2.2) (.bool l.cut) (.slice ha' hm hk)) := by rw [hW1]; exact elev_srf (hx.srf i (live_nat hi)) ..
    have hkd1 : KeptD wc W1 := by rw [hW1]; exact elev_kept (hx.srf i (live_nat hi)) _ _ _ _ _ _ _ _ _ _ _
    have hsz1 : W1.heap.size = wc.heap.size := by rw [hW1]; exact elev_size ..
    have HKh : Hid (Calls Tryz.prog 107 #[.agg #[.int .i64 W, .int .i64 H, .slice pa n n, .int .i64 l.x, .int .i64 l.y, .int .i64 l.clip.1, .int .i64 l.clip.2.1, .int .i64 l.clip.2.2.1, .int .i64 l.clip.2.2.2, .bool l.cut, .slice ha' hm hk]] W1 fun e w' => ∃ g, e = .returned (.agg #[.int .i64 W, .int .i64 H, .slice (some ⟨g, 0, none⟩) n n]) ∧ BoolF w' g n (keptOf l) ∧ W1.heap.size ≤ g ∧ Below W1.heap.size W1 w') := by
      have := cm_hint hw hx hi l hl W H hWl hHl pa ha' hm hk (by rw [hn]; exact e16) e24' W1 hkd1
      rw [hn] at this
      exact this
    have HSt : Hid (∀ (V : World) (kg : Nat), Below W1.heap.size W1 V → (St9 ⟨gb, 28, none⟩ [.int .i64 W, .int .i64 H, .slice (some ⟨kg, 0, none⟩) n n]).run Tryz.prog V = .ok () (((V.setCell ⟨gb, 28, none⟩ (.int .i64 W)).setCell ⟨gb, 29, none⟩ (.int .i64 H)).setCell ⟨gb, 30, none⟩ (.slice (some ⟨kg, 0, none⟩) n n))) := fun V kg hV => by
      rw [← hgb]
      exact run_kept (hs1.keep (hV.block (blk i) (by omega))) _ _ _ _ _
    have HRs : Hid (∀ (W2 : World) (kg : Nat), BoolF W2 kg n (keptOf l) → W1.heap.size ≤ kg → Below W1.heap.size W1 W2 → Calls Tryz.prog 108 #[.pointer (some ⟨gb, 0, none⟩)] (((W2.setCell ⟨gb, 28, none⟩ (.int .i64 W)).setCell ⟨gb, 29, none⟩ (.int .i64 H)).setCell ⟨gb, 30, none⟩ (.slice (some ⟨kg, 0, none⟩) n n)) fun e w' => e = .returned (.tuple #[]) ∧ ∃ G4, CmM w w' S x st i bv sc mp blk G4 kg ob gx #[.int .i64 a, .int .i64 b, .int .i64 N.x, .int .i64 N.y, .int .i64 N.clip.1, .int .i64 N.clip.2.1, .int .i64 N.clip.2.2.1, .int .i64 N.clip.2.2.2, .bool N.cut, .int .i64 K] #[.int .i64 a, .int .i64 b, .slice opa on on] (.slice va rn vc) parts opa on (st.sf i).now.pix) := fun W2 kg h1 h2 h3 => by
      have := cm_restack hf hSl h hi hbx hob hgx hrow hob1 hgx1 l hl _ _ e16 e24' kg W1 hW1 h3 (by omega) (by rw [hn]; exact h1) opa on hon.symm e5
      rw [hgb, hWl, hHl, hn] at this
      exact this
    have HD1 : Hid (W1.cell? ⟨gb, 3, none⟩ = some (.int .i64 W) ∧ W1.cell? ⟨gb, 4, none⟩ = some (.int .i64 H) ∧ W1.cell? ⟨gb, 5, none⟩ = some (.slice pa n n) ∧ W1.cell? ⟨gb, 6, none⟩ = some (.int .i64 l.x) ∧ W1.cell? ⟨gb, 7, none⟩ = some (.int .i64 l.y) ∧ W1.cell? ⟨gb, 8, none⟩ = some (.int .i64 l.clip.1) ∧ W1.cell? ⟨gb, 9, none⟩ = some (.int .i64 l.clip.2.1) ∧ W1.cell? ⟨gb, 10, none⟩ = some (.int .i64 l.clip.2.2.1) ∧ W1.cell? ⟨gb, 11, none⟩ = some (.int .i64 l.clip.2.2.2) ∧ W1.cell? ⟨gb, 12, none⟩ = some (.bool l.cut) ∧ W1.cell? ⟨gb, 13, none⟩ = some (.slice ha' hm hk)) := by
      rw [← hgb, ← hWl, ← hHl]
      exact ⟨hs1.cell 3 (by omega), hs1.cell 4 (by omega), hs1.cell 5 (by omega), hs1.cell 6 (by omega), hs1.cell 7 (by omega), hs1.cell 8 (by omega), hs1.cell 9 (by omega), hs1.cell 10 (by omega), hs1.cell 11 (by omega), hs1.cell 12 (by omega), hs1.cell 13 (by omega)⟩
    have c14 := (kc 14 (by omega)).trans (congrArg some qn.w)
    have c15 := (kc 15 (by omega)).trans (congrArg some qn.h)
    have c16 := (kc 16 (by omega)).trans (congrArg some e16)
    have c17 := (kc 17 (by omega)).trans (congrArg some qn.x)
    have c18 := (kc 18 (by omega)).trans (congrArg some qn.y)
    have c19 := (kc 19 (by omega)).trans (congrArg some qn.c0)
    have c20 := (kc 20 (by omega)).trans (congrArg some qn.c1)
    have c21 := (kc 21 (by omega)).trans (congrArg some qn.c2)
    have c22 := (kc 22 (by omega)).trans (congrArg some qn.c3)
    have c23 := (kc 23 (by omega)).trans (congrArg some qn.cut)
    have c24 := (kc 24 (by omega)).trans (congrArg some e24')
    have c3 := kc 3 (by omega)
    have c4 := kc 4 (by omega)
    have c5 := kc 5 (by omega)
    have c6 := kc 6 (by omega)
    have c7 := kc 7 (by omega)
    have c8 := kc 8 (by omega)
    have c9 := kc 9 (by omega)
    have c10 := kc 10 (by omega)
    have c11 := kc 11 (by omega)
    have c12 := kc 12 (by omega)
    have c13 := kc 13 (by omega)
    have f3 := kf 3
    have f4 := kf 4
    have f5 := kf 5
    have f6 := kf 6
    have f7 := kf 7
    have f8 := kf 8
    have f9 := kf 9
    have f10 := kf 10
    have f11 := kf 11
    have f12 := kf 12
    have f13 := kf 13
    rw [hWl] at c14 hW1
    rw [hHl] at c15 hW1
    rw [hgb] at c3 c4 c5 c6 c7 c8 c9 c10 c11 c12 c13 c14 c15 c16 c17 c18 c19 c20 c21 c22 c23 c24 f3 f4 f5 f6 f7 f8 f9 f10 f11 f12 f13 hW1
    have HW1 := hide hW1
    unfold elev at HW1
    have HL := hide hl
    clear HC hbx hob hgx hrow hob1 hgx1 hf hSl hi hwc hic hw hmb hgb hN hK hN2 hK2 hparts hrn hparts2 hrn2 ha hb e5 hon h hx kc kf kl q lk lw lh hWl hHl hn e16 e24 e24' qn hs1 hkd1 hsz1 hW1 hl FG HOl HSp
    go_upto_region 3 with fail
    rw [← HW1.out]
    clear c3 c4 c5 c6 c7 c8 c9 c10 c11 c12 c13 c14 c15 c16 c17 c18 c19 c20 c21 c22 c23 c24 f3 f4 f5 f6 f7 f8 f9 f10 f11 f12 f13
    obtain ⟨d3, d4, d5, d6, d7, d8, d9, d10, d11, d12, d13⟩ := HD1.out
    go_upto_region 4 with (go_at_call 107; refine HKh.out.mono ?_; rintro e W2 ⟨kg, rfl, hbf, hkg, hB2⟩; have eSt := HSt.out W2 kg hB2; have HB2 := hide (And.intro hbf (And.intro hkg hB2)); clear hbf hkg hB2)
    clear d3 d4 d5 d6 d7 d8 d9 d10 d11 d12 d13 eSt HSt
    go_upto_region 5 with (go_at_call 108; refine (HRs.out W2 kg HB2.out.1 HB2.out.2.1 HB2.out.2.2).mono ?_; rintro e W4 ⟨rfl, G4, hM⟩; have HM4 := hide hM; clear hM)
    clear HRs HKh HW1 HD1
    obtain ⟨hf, hSl, hi, hwc, hic, hw, hmb⟩ := HF.out
    obtain ⟨hgb, hN, hK, hN2, hK2, hparts, hrn, hparts2, hrn2, ha, hb, e5, hon⟩ := HE.out
    have hmq : olEq N2 K2 N K = !mb := by
      rw [← hmb]
      unfold St.moved
      rw [hN2, hK2, hN, hK]
      simp
    have HOl2 : Hid (∀ V : World, Below W4.heap.size W4 V → Calls Tryz.prog 105 #[.pointer (some ⟨gb, 0, none⟩)] V fun e w1 => e = .returned (.agg #[.int .i64 N2.w, .int .i64 N2.h, .int .i64 N2.x, .int .i64 N2.y, .int .i64 N2.clip.1, .int .i64 N2.clip.2.1, .int .i64 N2.clip.2.2.1, .int .i64 N2.clip.2.2.2, .bool N2.cut, .int .i64 K2]) ∧ Below W4.heap.size W4 w1) := fun V hV => by
      have := outline_any hwc HM4.out.raw i hic V hV
      rw [hgb, hN2, hK2] at this
      unfold olC at this
      refine this.mono ?_
      rintro e w1 ⟨rfl, h1⟩
      exact ⟨rfl, hV.trans (h1.mono hV.size)⟩
    have FcS : Hid (∀ V : World, Below W4.heap.size W4 V → V.cell? ⟨ob, 0, none⟩ = some (.int .i64 a) ∧ V.cell? ⟨ob, 1, none⟩ = some (.int .i64 b) ∧ V.cell? ⟨ob, 2, none⟩ = some (.int .i64 N.x) ∧ V.cell? ⟨ob, 3, none⟩ = some (.int .i64 N.y) ∧ V.cell? ⟨ob, 4, none⟩ = some (.int .i64 N.clip.1) ∧ V.cell? ⟨ob, 5, none⟩ = some (.int .i64 N.clip.2.1) ∧ V.cell? ⟨ob, 6, none⟩ = some (.int .i64 N.clip.2.2.1) ∧ V.cell? ⟨ob, 7, none⟩ = some (.int .i64 N.clip.2.2.2) ∧ V.cell? ⟨ob, 8, none⟩ = some (.bool N.cut) ∧ V.cell? ⟨ob, 9, none⟩ = some (.int .i64 K)) := fun V hV => by
      have k := (HM4.out.below hV).ol
      exact ⟨k.cell 0, k.cell 1, k.cell 2, k.cell 3, k.cell 4, k.cell 5, k.cell 6, k.cell 7, k.cell 8, k.cell 9⟩
    have HQe : Hid (∀ V : World, (Op.equalIn 10000 181 (.agg #[.int .i64 N2.w, .int .i64 N2.h, .int .i64 N2.x, .int .i64 N2.y, .int .i64 N2.clip.1, .int .i64 N2.clip.2.1, .int .i64 N2.clip.2.2.1, .int .i64 N2.clip.2.2.2, .bool N2.cut, .int .i64 K2]) (.agg #[.int .i64 a, .int .i64 b, .int .i64 N.x, .int .i64 N.y, .int .i64 N.clip.1, .int .i64 N.clip.2.1, .int .i64 N.clip.2.2.1, .int .i64 N.clip.2.2.2, .bool N.cut, .int .i64 K])).run Tryz.prog V = .ok (!mb) V) := fun V => by
      have := eqOl N2 K2 N K V
      unfold olC at this
      rw [ha, hb, hmq] at this
      exact this
    clear hf hSl hi hwc hic hw hmb hgb hN hK hN2 hK2 hparts hrn hparts2 hrn2 ha hb e5 hon hmq
    go_cut [35] (fun s35 wx => s35 = .bool mb ∧ Hid (Below W4.heap.size W4 wx))
    case first =>
      have eqs := HQe.out
      clear HQe HRaw HF HE
      go_region_held3 (fun w' => w'.cell? ⟨ob, 0, none⟩ = some (.int .i64 a) ∧ w'.cell? ⟨ob, 1, none⟩ = some (.int .i64 b) ∧ w'.cell? ⟨ob, 2, none⟩ = some (.int .i64 N.x) ∧ w'.cell? ⟨ob, 3, none⟩ = some (.int .i64 N.y) ∧ w'.cell? ⟨ob, 4, none⟩ = some (.int .i64 N.clip.1) ∧ w'.cell? ⟨ob, 5, none⟩ = some (.int .i64 N.clip.2.1) ∧ w'.cell? ⟨ob, 6, none⟩ = some (.int .i64 N.clip.2.2.1) ∧ w'.cell? ⟨ob, 7, none⟩ = some (.int .i64 N.clip.2.2.2) ∧ w'.cell? ⟨ob, 8, none⟩ = some (.bool N.cut) ∧ w'.cell? ⟨ob, 9, none⟩ = some (.int .i64 K))
        (first
          | (refine FcS.out _ ?_; (repeat (first | with_reducible exact Below.refl _ _ | with_reducible exact HB5.out | with_reducible refine Below.drew ?_)); done)
          | fail)
        (first
          | (go_at_call 105; refine (HOl2.out _ ?_).mono ?_; (repeat (first | with_reducible exact Below.refl _ _ | with_reducible refine Below.drew ?_)); rintro e w5 ⟨rfl, hb5⟩; have HB5 := hide hb5; clear hb5)
          | fail)
      all_goals go_wp2_with fail
      all_goals go_meet
      all_goals exact ⟨by simp, HB5.out⟩
    case rest =>
      obtain ⟨rfl, HZ⟩ := hcut
      have HM5 := hide (HM4.out.below HZ.out)
      clear HOl2 FcS HQe HM4 HZ
      cases mb with
      | true =>
        have HSp2 : Hid (Calls Tryz.prog 106 #[.pointer (some ⟨gb, 0, none⟩)] wc fun e w2 => ∃ v2 c2, e = .returned (.slice v2 rn2 c2) ∧ OwnR w2 wc.heap.size (.slice v2 rn2 c2) parts2 ∧ Below wc.heap.size wc w2) := by
          obtain ⟨hf, hSl, hi, hwc, hic, hw, hmb⟩ := HF.out
          obtain ⟨hgb, hN, hK, hN2, hK2, hparts, hrn, hparts2, hrn2, ha, hb, e5, hon⟩ := HE.out
          have hr := HM5.out.raw
          have := seenParts_any hwc (live_nat hic) (hr.lays hwc (live_nat hic)) (hr.sl hwc (live_nat hic))
          rw [hgb, hparts2] at this
          refine this.mono ?_
          rintro e w2 ⟨v, rfl, h1, h2⟩
          obtain ⟨va, vc, rfl⟩ := h1.form
          rw [hrn2] at h1 ⊢
          exact ⟨va, vc, rfl, h1, h2⟩
        have HAp : Hid (∀ (w6 : World) (v2 : Option Addr) (c2 : Nat), OwnR w6 wc.heap.size (.slice v2 rn2 c2) parts2 → Below wc.heap.size wc w6 → w6.ownsRow w.heap.size 53 4 (.slice va rn vc) rn (rectCells parts) ∧ (rectCells parts2).length = rn2 * 4 ∧ ((Value.slice v2 rn2 c2 = .slice none 0 0 ∧ rn2 = 0) ∨ ∃ ad c, Value.slice v2 rn2 c2 = .slice (some ad) rn2 c ∧ ∀ j u, (rectCells parts2)[j]? = some u → w6.cell? (ad.add j) = some u) ∧ w.heap.size ≤ w6.heap.size ∧ (∀ v9 w9, w9.ownsRow w.heap.size 53 4 v9 (rn + rn2) (rectCells parts ++ rectCells parts2) → w6.grownBy w9 (Value.slice va rn vc).ownBlock → (v9 = .slice none 0 0 ↔ Value.slice va rn vc = .slice none 0 0 ∧ rn2 = 0) → CmPost S x st i bv w (.returned v9) w9)) := fun w6 v2 c2 h1 h2 => by
          obtain ⟨hf, hSl, hi, hwc, hic, hw, hmb⟩ := HF.out
          obtain ⟨hgb, hN, hK, hN2, hK2, hparts, hrn, hparts2, hrn2, ha, hb, e5, hon⟩ := HE.out
          have hm6 := HM5.out.below h2
          have hr := hm6.row.1
          rw [hrn] at hr
          have hnw := rect_news h1
          rw [hrn2] at hnw
          refine ⟨hr, by rw [rectCells_len, hrn2], hnw, hm6.only.size, fun v9 w9 k1 k2 k3 => ?_⟩
          exact hm6.moved hparts.symm hparts2.symm hmb (by rw [hrn, hrn2]; exact k1) k2 (by rw [hrn2]; exact k3)
        clear HM5 HRaw HF HE
        go_wp2_with (first
          | (go_at_call 106; refine HSp2.out.mono ?_; rintro e w6 ⟨v2, c2, rfl, hr2, hb6⟩; have H6 := hide (HAp.out w6 v2 c2 hr2 hb6); clear hr2 hb6)
          | (at_builtin; refine wpList_append_row (P := Tryz.prog) rfl (.tmp 36) (.tmp 38) 33 rfl w.heap.size 53 i0 _ 4 32 Tryz.underlying33 hi0 hz0 hz1 hz2 rfl (by decide) (.slice va rn vc) rn (rectCells parts) rfl H6.out.1 (.slice v2 rn2 c2) rn2 (rectCells parts2) rfl H6.out.2.1 H6.out.2.2.1 (rectCells_one _) (by unfold maxLen; omega) (by omega) H6.out.2.2.2.1 ?_; intro v9 w9 ho9 hg9 hn9 ha9; have H9 := hide (H6.out.2.2.2.2 v9 w9 ho9 hg9 hn9); obtain ⟨ga, gc, hvf⟩ := row_form ho9; subst hvf; clear ho9 hg9 hn9 ha9))
        go_ret
        exact H9.out
      | false =>
        obtain ⟨Q, hQ⟩ : ∃ Q, otherIn ((cm st i).otherAt i (st.sf i).now.pix) ((cm st i).seen i) = Q := ⟨_, rfl⟩
        have HOt : Hid (Calls Tryz.prog 109 #[.pointer (some ⟨gb, 0, none⟩), .agg #[.int .i64 a, .int .i64 b, .slice opa on on]] wc fun e w' => e = .returned (.agg #[.int .i64 Q.1, .int .i64 Q.2.1, .int .i64 Q.2.2.1, .int .i64 Q.2.2.2]) ∧ Below wc.heap.size wc w') := by
          obtain ⟨hf, hSl, hi, hwc, hic, hw, hmb⟩ := HF.out
          obtain ⟨hgb, hN, hK, hN2, hK2, hparts, hrn, hparts2, hrn2, ha, hb, e5, hon⟩ := HE.out
          have hq : olEq N2 K2 N K = true := by
            unfold St.moved at hmb
            rw [hN2, hK2, hN, hK] at hmb
            simpa using hmb
          unfold olEq at hq
          simp only [Bool.and_eq_true, beq_iff_eq] at hq
          have q1 : N2.w = a := hq.1.trans ha
          have q2 : N2.h = b := hq.2.1.trans hb
          have q3 : N2.n = on := by
            rw [← hon, hN]
            unfold Look.n
            rw [hq.1, hq.2.1]
          have := otherPixels_any hwc HM5.out.raw i hic opa (st.sf i).now.pix (by
            rw [hN2, q3]
            exact HM5.out.was)
          rw [hgb, hN2, q1, q2, q3, hQ] at this
          exact this
        have HEn : Hid (∀ w6 : World, Below wc.heap.size wc w6 → CmPost S x st i bv w (.returned (.slice (some ⟨w6.heap.size, 0, none⟩) 1 1)) (w6.alloc (.cells #[.int .i64 Q.1, .int .i64 Q.2.1, .int .i64 Q.2.2.1, .int .i64 Q.2.2.2] 53))) := fun w6 h6 => by
          obtain ⟨hf, hSl, hi, hwc, hic, hw, hmb⟩ := HF.out
          have hm6 := HM5.out.below h6
          have hm7 := hm6.below ((Below.refl w6.heap.size w6).alloc (Nat.le_refl _) (.cells #[.int .i64 Q.1, .int .i64 Q.2.1, .int .i64 Q.2.2.1, .int .i64 Q.2.2.2] 53))
          refine ⟨_, rfl, ?_, hm7.pane, hm7.only⟩
          have : st.cmDam i = [Q] := by
            unfold St.cmDam
            rw [hmb, if_neg (by simp), hQ]
          rw [this]
          exact (ownR_one w6 Q).lower hm6.only.size
        have HGr : Hid (wc.cell? ⟨gx, 0, none⟩ = some (.int .i64 a) ∧ wc.cell? ⟨gx, 1, none⟩ = some (.int .i64 b) ∧ wc.cell? ⟨gx, 2, none⟩ = some (.slice opa on on)) := ⟨HM5.out.gr.cell 0, HM5.out.gr.cell 1, HM5.out.gr.cell 2⟩
        obtain ⟨g0, g1, g2⟩ := HGr.out
        clear HM5 HRaw HF HE hQ
        go_wp2_with (go_at_call 109; refine HOt.out.mono ?_; rintro e w6 ⟨rfl, hb6⟩; have H6 := hide (HEn.out w6 hb6); clear hb6)
        go_ret
        exact H6.out

end Go.Proofs.YtofinpocigbbeaaGreat

/-! PanY -/
namespace Go.Proofs.YtofinpocigbbeaaGreat
open Go.RowKit
attribute [local go_sem ↓] Go.wp_at_zero Go.wp_at_succ

set_option maxRecDepth 100000 in
set_option maxHeartbeats 1000000 in
/-- (*Surface).Attach -/
theorem sfAttach_any (g : Nat) (a b : Int) (pa : Option Addr) (pm pk : Nat) (F : Nat → Value) (w : World) (h : SrfB w g F) :
    Calls Tryz.prog 60 #[.pointer (some ⟨g, 0, none⟩), .agg #[.int .i64 a, .int .i64 b, .slice pa pm pk]] w fun e w' => e = .returned (.tuple #[]) ∧
      w' = (((w.setCell ⟨g, 14, none⟩ (.int .i64 a)).setCell ⟨g, 15, none⟩ (.int .i64 b)).setCell ⟨g, 16, none⟩ (.slice pa pm pk)).alloc (.cells #[.int .i64 a, .int .i64 b, .slice pa pm pk] 122) := by
  obtain ⟨cur, h1, h2, h3⟩ := h
  have hlt : g < w.heap.size := (Array.getElem?_eq_some_iff.1 h1).1
  have hc : ∀ j, j < 31 → w.cell? ⟨g, j, none⟩ = some (F j) := fun j hj => by
    rw [cell_of_row _ _ _ _ _ _ h1]
    exact h3 j hj
  have hf : ∀ j, w.frozen? ⟨g, j, none⟩ = false := fun j => by simp [World.frozen?, h1]
  have c13 := hc 14 (by omega)
  have c14 := hc 15 (by omega)
  have c15 := hc 16 (by omega)
  have f13 := hf 14
  have f14 := hf 15
  have f15 := hf 16
  have hgn : ¬ g = w.heap.size := by omega
  clear hc hf h1 h2 h3
  go_enter Tryz.func60, Tryz.ntmps60
  go_wp2_with fail
  exact bodyPost_end (v := .tuple #[]) (by simp [results, Tryz.results60]) rfl ⟨rfl, rfl⟩

set_option maxRecDepth 100000 in
set_option maxHeartbeats 1000000 in
/-- (*Screen).Attach -/
theorem paAttach_any {S : Nat → Prop} {x : Nat} {st : St} (hw : Wf st) (id a b : Int) (l : List R4) (v : Value) (w : World) {bv : Value} (h : PaneOk w S x st bv) (hv : PixAt w v l) (hlen : l.length ≤ maxLen) :
    Calls Tryz.prog 28 #[.pointer (some ⟨x, 0, none⟩), .int .i64 id, .int .i64 a, .int .i64 b, v] w (PPost S x bv (opAttach st id a b l.length (l.all fitP) fun k => l.getD k (0, 0, 0, 0)) w) := by
  have hB := isB_iff hw id
  have HE := hide (fun (er : Int) (W : World) (hW : Below w.heap.size w W) => PPost.same (er := er) h hW)
  have HAM := hide (allMayBe_any l v w hv hlen)
  have HV := hide hv
  obtain ⟨va, vc, hvf, _⟩ := hv
  obtain ⟨sc, mp, blk, G, h⟩ := h
  obtain ⟨x0, x1, xl⟩ := h.scrCells
  unfold opAttach
  obtain ⟨t, ht⟩ : ∃ t, st.isB id = t := ⟨_, rfl⟩
  rw [ht] at hB ⊢
  have hlen2 := hlen
  unfold maxLen at hlen2
  cases t with
  | false =>
    rw [if_neg (by simp)]
    have HS := hide (scSurface_no h id (isB_no hw ht))
    clear hB h hvf
    go_enter Tryz.func28, Tryz.ntmps28
    go_wp2_with (go_at_call 58; refine HS.out.mono ?_; rintro e w' ⟨rfl, hw'⟩; replace hw' := hw'.symm; subst hw')
    go_ret
    exact HE.out 6 _ (Below.refl _ _)
  | true =>
    rw [if_pos rfl]
    obtain ⟨i, rfl, hio⟩ := hB.1 rfl
    have hil := hw.lt hio
    rw [Int.toNat_natCast]
    have HS := hide (scSurface_ok h i hio)
    have kl := (h.at (live_nat hio)).2.2
    by_cases hab : 0 ≤ a ∧ a ≤ 24 ∧ 0 ≤ b ∧ b ≤ 24
    · rw [if_pos hab]
      obtain ⟨n, hn⟩ : ∃ n, l.length = n := ⟨_, rfl⟩
      have hb0 : 0 ≤ a * b := Int.mul_nonneg hab.1 hab.2.2.1
      have hb1 : a * b ≤ 576 := by
        have h1 : a * b ≤ 24 * b := Int.mul_le_mul_of_nonneg_right hab.2.1 hab.2.2.1
        omega
      obtain ⟨ok, hok⟩ : ∃ ok, l.all fitP = ok := ⟨_, rfl⟩
      obtain ⟨f, hf⟩ : ∃ f : Nat → R4, (fun k => l.getD k (0, 0, 0, 0)) = f := ⟨_, rfl⟩
      have HOk : Hid (∀ W : World, Below w.heap.size w W → ∀ g : Nat, w.heap.size ≤ g → PixF W g n f → (n : Int) = a * b → PPost S x bv (0, upd st i (sfBuf a b f)) w (.returned (.int .i64 0)) ((((W.setCell ⟨blk i, 14, none⟩ (.int .i64 a)).setCell ⟨blk i, 15, none⟩ (.int .i64 b)).setCell ⟨blk i, 16, none⟩ (.slice (some ⟨g, 0, none⟩) n n)).alloc (.cells #[.int .i64 a, .int .i64 b, .slice (some ⟨g, 0, none⟩) n n] 122))) := fun W hW g hgw hpf hnab => by
        have h := (h.below hW).mono (S' := grow S w W) fun _ hg => .inl hg
        have hs : SrfB W (blk i) (G i) := h.srf i (live_nat hio)
        have q := (h.cells i (live_nat hio)).nat
        have q2 := q.next
        have d := h.data i hio
        have ho : S (blk i) := by
          rcases h.own.2.2.2 i (live_nat hio) with ho | ho
          · exact ho
          · have := kl
            omega
        have hnn : n = ((sfBuf a b f) (st.sf i)).next.n := by
          show n = (a * b).toNat
          omega
        have hgl : g < W.heap.size := hpf.has.lt
        have hr := h.upd (w' := ((W.setCell ⟨blk i, 14, none⟩ (.int .i64 a)).setCell ⟨blk i, 15, none⟩ (.int .i64 b)).setCell ⟨blk i, 16, none⟩ (.slice (some ⟨g, 0, none⟩) n n)) (gf := sfBuf a b f) hio hil (fun _ => rfl) (fun g hg hne => by rw [setOther 16 _ g (by simpa using hg) hne, setOther 15 _ g (by simpa using hg) hne, setOther 14 _ g hg hne]) (((hs.set 14 _).set 15 _).set 16 _) rfl (NCells.upd hil ⟨q.num, q.par, ⟨q.now.w, q.now.h, q.now.pix, q.now.x, q.now.y, q.now.c0, q.now.c1, q.now.c2, q.now.c3, q.now.cut, q.now.hint⟩, ⟨rfl, rfl, ⟨_, _, _, rfl⟩, q2.x, q2.y, q2.c0, q2.c1, q2.c2, q2.c3, q2.cut, q2.hint⟩, q.stk, q.kep⟩) ⟨d.pix, d.hint, ⟨some ⟨g, 0, none⟩, by rw [← hnn]; rfl, fun _ => ⟨g, rfl, .inr ⟨hgw, hgl⟩, by rw [← hnn]; exact hpf⟩⟩, d.nhint, d.kw, d.kh, d.kept⟩
        refine ⟨rfl, ⟨sc, mp, blk, _, (hr.below (al1 (Nat.le_refl _) _)).mono fun g hg => ?_⟩, ((((Only.below hW).set (.inl ho) _).set (.inl ho) _).set (.inl ho) _).alloc _⟩
        rcases hg with hg | ⟨hg1, hg2⟩
        · exact .inl hg
        · exact .inr ⟨hg1, by simp; omega⟩
      have HAt : Hid (∀ W : World, Below w.heap.size w W → ∀ g : Nat, w.heap.size ≤ g → PixF W g n f → (n : Int) = a * b → Calls Tryz.prog 60 #[.pointer (some ⟨blk i, 0, none⟩), .agg #[.int .i64 a, .int .i64 b, .slice (some ⟨g, 0, none⟩) n n]] W fun e w' => e = .returned (.tuple #[]) ∧ PPost S x bv (0, upd st i (sfBuf a b f)) w (.returned (.int .i64 0)) w') := fun W hW g hgw hpf hnab => (sfAttach_any (blk i) a b (some ⟨g, 0, none⟩) n n (G i) W ((h.below hW).srf i (live_nat hio))).mono fun e w' ⟨h1, h2⟩ => ⟨h1, by rw [h2]; exact HOk.out W hW g hgw hpf hnab⟩
      have HOf : Hid ((n : Int) = a * b → ∀ W : World, Below w.heap.size w W → Calls Tryz.prog 61 #[.int .i64 a, .int .i64 b, v] W fun e w' => ∃ g : Nat, e = .returned (.agg #[.int .i64 a, .int .i64 b, .slice (some ⟨g, 0, none⟩) n n]) ∧ Below w.heap.size w w' ∧ w.heap.size ≤ g ∧ PixF w' g n f ∧ (n : Int) = a * b) := fun he W hW => (gridOf_pix a b n he.symm (by omega) v l hn W (HV.out.below hW)).mono fun e w' ⟨g, h1, h2, h3, h4⟩ => ⟨g, h1, hW.trans (h4.mono hW.size), Nat.le_trans hW.size h3, by rw [← hf]; exact h2, he⟩
      rw [hok] at HAM ⊢
      rw [hf]
      rw [hn] at hvf hlen2 ⊢
      obtain ⟨g, hg⟩ : ∃ g, blk i = g := ⟨_, rfl⟩
      rw [hg] at HS HAt
      clear HOk h hB hg HV hok hn hf kl
      obtain ⟨ha1, ha2, hb1', hb2'⟩ := hab
      obtain ⟨P, hP⟩ : ∃ P, a * b = P := ⟨_, rfl⟩
      rw [hP] at hb0 hb1 HOf HAt ⊢
      by_cases hnp : (n : Int) = P
      · have HOf2 := hide (HOf.out hnp)
        have hnp2 : ((n : Int) == P) = true := by simpa using hnp
        have hnp3 : ((n : Int) != P) = false := by simpa using hnp
        clear HOf
        subst hvf
        cases ok with
        | true =>
          rw [if_pos ⟨hnp, rfl⟩]
          go_enter Tryz.func28, Tryz.ntmps28
          go_wp2_with (first
            | (go_at_call 58; refine HS.out.mono ?_; rintro e w' ⟨rfl, hw'⟩; replace hw' := hw'.symm; subst hw')
            | (go_at_call 59; refine HAM.out.mono ?_; rintro e w1 ⟨rfl, hb⟩; have HB := hide hb; clear hb)
            | (go_at_call 61; refine (HOf2.out _ HB.out).mono ?_; rintro e w2 ⟨gg, rfl, hb⟩; have HB2 := hide hb; clear hb)
            | (go_at_call 60; refine (HAt.out _ HB2.out.1 _ HB2.out.2.1 HB2.out.2.2.1 HB2.out.2.2.2).mono ?_; rintro e w3 ⟨rfl, hb⟩; have HB3 := hide hb; clear hb)
            | go_in)
          go_ret
          exact HB3.out
        | false =>
          rw [if_neg (fun h => by cases h.2)]
          go_enter Tryz.func28, Tryz.ntmps28
          go_wp2_with (first
            | (go_at_call 58; refine HS.out.mono ?_; rintro e w' ⟨rfl, hw'⟩; replace hw' := hw'.symm; subst hw')
            | (go_at_call 59; refine HAM.out.mono ?_; rintro e w1 ⟨rfl, hb⟩; have HB := hide hb; clear hb)
            | go_in)
          go_ret
          exact HE.out 4 _ HB.out
      · rw [if_neg (fun h => hnp h.1)]
        have hnp3 : ((n : Int) != P) = true := by simpa using hnp
        clear HOf HAt HAM
        subst hvf
        go_enter Tryz.func28, Tryz.ntmps28
        go_wp2_with (first
          | (go_at_call 58; refine HS.out.mono ?_; rintro e w' ⟨rfl, hw'⟩; replace hw' := hw'.symm; subst hw')
          | go_in)
        go_ret
        exact HE.out 4 _ (Below.refl _ _)
    · rw [if_neg hab]
      have hcases : a < 0 ∨ (0 ≤ a ∧ 24 < a) ∨ (0 ≤ a ∧ a ≤ 24 ∧ b < 0) ∨ (0 ≤ a ∧ a ≤ 24 ∧ 0 ≤ b ∧ 24 < b) := by omega
      clear hab h hB hvf HAM HV kl
      rcases hcases with h1 | ⟨h1, h2⟩ | ⟨h1, h2, h3⟩ | ⟨h1, h2, h3, h4⟩
      all_goals
        try have hd : decide (b ≤ 24) = false := decide_eq_false (by omega)
        go_enter Tryz.func28, Tryz.ntmps28
        go_wp2_with (first
          | (go_at_call 58; refine HS.out.mono ?_; rintro e w' ⟨rfl, hw'⟩; replace hw' := hw'.symm; subst hw')
          | go_in)
        try go_ret
        exact HE.out 5 _ (Below.refl _ _)

end Go.Proofs.YtofinpocigbbeaaGreat

/-! Ful -/
namespace Go.Proofs.YtofinpocigbbeaaGreat
open Go.RowKit
attribute [local go_sem ↓] Go.wp_at_zero Go.wp_at_succ

/-! ### The whole screen: what keeps the surfaces, and the canvas -/

structure FullM (w : World) (A B : Nat → Prop) (x : Nat) (st : St) (d : Cv) (c : Nat) : Prop where
  pane : PaneOk w A x st (ptrV c)
  cv : ∃ bv rg dv, CvMem w B c d bv rg dv
  ok : CvOk d
  dw : (d.W : Int) = st.w
  dh : (d.H : Int) = st.h
  la : ∀ g, A g → g < w.heap.size
  lb : ∀ g, B g → g < w.heap.size
  ap : ∀ g, A g → ¬ B g

def FullC (w : World) (S : Nat → Prop) (x : Nat) (st : St) (d : Cv) : Prop := ∃ A B c, FullM w A B x st d c ∧ (∀ g, A g → S g) ∧ ∀ g, B g → S g

theorem FullC.mono {w : World} {S S' : Nat → Prop} {x : Nat} {st : St} {d : Cv} (h : FullC w S x st d) (hS : ∀ g, S g → S' g) : FullC w S' x st d := by
  obtain ⟨A, B, c, h1, h2, h3⟩ := h
  exact ⟨A, B, c, h1, fun g hg => hS g (h2 g hg), fun g hg => hS g (h3 g hg)⟩

theorem FullM.keep {w w' : World} {A B : Nat → Prop} {x : Nat} {st : St} {d : Cv} {c : Nat} (h : FullM w A B x st d c) (hs : w.heap.size ≤ w'.heap.size) (hk : ∀ g, A g ∨ B g → g < w.heap.size → w'.heap[g]? = w.heap[g]?) : FullM w' A B x st d c :=
  ⟨h.pane.keep fun g hg hl => hk g (.inl hg) hl, let ⟨bv, rg, dv, q⟩ := h.cv; ⟨bv, rg, dv, q.keep fun g hg hl => hk g (.inr hg) hl⟩, h.ok, h.dw, h.dh, fun g hg => Nat.lt_of_lt_of_le (h.la g hg) hs, fun g hg => Nat.lt_of_lt_of_le (h.lb g hg) hs, h.ap⟩

theorem FullC.keep {w w' : World} {S : Nat → Prop} {x : Nat} {st : St} {d : Cv} (h : FullC w S x st d) (hs : w.heap.size ≤ w'.heap.size) (hk : ∀ g, S g → g < w.heap.size → w'.heap[g]? = w.heap[g]?) : FullC w' S x st d := by
  obtain ⟨A, B, c, h1, h2, h3⟩ := h
  exact ⟨A, B, c, h1.keep hs fun g hg hl => hk g (hg.elim (h2 g) (h3 g)) hl, h2, h3⟩

theorem FullC.below {w w' : World} {S : Nat → Prop} {x : Nat} {st : St} {d : Cv} (h : FullC w S x st d) (hb : Below w.heap.size w w') : FullC w' S x st d := h.keep hb.size fun g _ hl => hb.block g hl

/-- Behind what turns the surfaces alone. -/
theorem FullM.scene {w w' : World} {A B : Nat → Prop} {x : Nat} {st st' : St} {d : Cv} {c : Nat} (h : FullM w A B x st d c) (hp : PaneOk w' (grow A w w') x st' (ptrV c)) (ho : Only A w w') (hw : st'.w = st.w) (hh : st'.h = st.h) : FullM w' (grow A w w') B x st' d c :=
  ⟨hp, let ⟨bv, rg, dv, q⟩ := h.cv; ⟨bv, rg, dv, q.keep fun g hg hl => ho.block g hl fun ha => h.ap g ha hg⟩, h.ok, by rw [hw]; exact h.dw, by rw [hh]; exact h.dh,
    fun g hg => hg.elim (fun ha => Nat.lt_of_lt_of_le (h.la g ha) ho.size) fun q => q.2, fun g hg => Nat.lt_of_lt_of_le (h.lb g hg) ho.size, fun g hg hb => hg.elim (fun ha => h.ap g ha hb) fun q => by have := h.lb g hb; omega⟩

theorem FullM.full {w w' : World} {S A B : Nat → Prop} {x : Nat} {st : St} {d : Cv} {c : Nat} (h : FullM w' (grow A w w') B x st d c) (hA : ∀ g, A g → S g) (hB : ∀ g, B g → S g) : FullC w' (grow S w w') x st d :=
  ⟨_, _, c, h, fun g hg => hg.elim (fun q => .inl (hA g q)) fun q => .inr q, fun g hg => .inl (hB g hg)⟩

def FPost (S : Nat → Prop) (x : Nat) (d : Cv) (p : Int × St) (w : World) (e : Ending) (w' : World) : Prop := e = .returned (.int .i64 p.1) ∧ FullC w' (grow S w w') x p.2 d ∧ Only S w w'

theorem FullM.post {w w' : World} {S A B : Nat → Prop} {x : Nat} {st : St} {d : Cv} {c : Nat} {p : Int × St} {e : Ending} (h : FullM w A B x st d c) (hA : ∀ g, A g → S g) (hB : ∀ g, B g → S g) (hw : p.2.w = st.w ∧ p.2.h = st.h) (hp : PPost A x (ptrV c) p w e w') : FPost S x d p w e w' :=
  ⟨hp.1, (h.scene hp.2.1 hp.2.2 hw.1 hw.2).full hA hB, hp.2.2.mono fun g _ hg => hA g hg⟩

theorem opOffset_wh (st : St) (id x y : Int) : (opOffset st id x y).2.w = st.w ∧ (opOffset st id x y).2.h = st.h := by
  unfold opOffset; (repeat' split) <;> exact ⟨rfl, rfl⟩
theorem opClip_wh (st : St) (id : Int) (r : R4) (ok : Bool) : (opClip st id r ok).2.w = st.w ∧ (opClip st id r ok).2.h = st.h := by
  unfold opClip; (repeat' split) <;> exact ⟨rfl, rfl⟩
theorem opUnclip_wh (st : St) (id : Int) : (opUnclip st id).2.w = st.w ∧ (opUnclip st id).2.h = st.h := by
  unfold opUnclip; split <;> exact ⟨rfl, rfl⟩
theorem opStack_wh (st : St) (id s : Int) (b : Bool) : (opStack st id s b).2.w = st.w ∧ (opStack st id s b).2.h = st.h := by
  unfold opStack; (repeat' split) <;> exact ⟨rfl, rfl⟩
theorem opAttach_wh (st : St) (id a b : Int) (n : Nat) (ok : Bool) (f : Nat → R4) : (opAttach st id a b n ok f).2.w = st.w ∧ (opAttach st id a b n ok f).2.h = st.h := by
  unfold opAttach; (repeat' split) <;> exact ⟨rfl, rfl⟩

theorem fuOffset_any {S : Nat → Prop} {x : Nat} {st : St} {d : Cv} (hw : Wf st) (id a b : Int) (w : World) (h : FullC w S x st d) :
    Calls Tryz.prog 29 #[.pointer (some ⟨x, 0, none⟩), .int .i64 id, .int .i64 a, .int .i64 b] w (FPost S x d (opOffset st id a b) w) := by
  obtain ⟨A, B, c, h1, h2, h3⟩ := h
  exact (paOffset_any hw id a b w h1.pane).mono fun e w' hp => h1.post h2 h3 (opOffset_wh ..) hp

theorem fuUnclip_any {S : Nat → Prop} {x : Nat} {st : St} {d : Cv} (hw : Wf st) (id : Int) (w : World) (h : FullC w S x st d) :
    Calls Tryz.prog 36 #[.pointer (some ⟨x, 0, none⟩), .int .i64 id] w (FPost S x d (opUnclip st id) w) := by
  obtain ⟨A, B, c, h1, h2, h3⟩ := h
  exact (paUnclip_any hw id w h1.pane).mono fun e w' hp => h1.post h2 h3 (opUnclip_wh ..) hp

theorem fuClip_any {S : Nat → Prop} {x : Nat} {st : St} {d : Cv} (hw : Wf st) (id a0 a1 a2 a3 : Int) (w : World) (h : FullC w S x st d) :
    Calls Tryz.prog 35 #[.pointer (some ⟨x, 0, none⟩), .int .i64 id, .agg #[.int .i64 a0, .int .i64 a1, .int .i64 a2, .int .i64 a3]] w (FPost S x d (opClip st id (a0, a1, a2, a3) (fitR (a0, a1, a2, a3))) w) := by
  obtain ⟨A, B, c, h1, h2, h3⟩ := h
  exact (paClip_any hw id a0 a1 a2 a3 w h1.pane).mono fun e w' hp => h1.post h2 h3 (opClip_wh ..) hp

theorem fuStack_any {S : Nat → Prop} {x : Nat} {st : St} {d : Cv} (hw : Wf st) (id sb : Int) (ab : Bool) (w : World) (h : FullC w S x st d) :
    Calls Tryz.prog 38 #[.pointer (some ⟨x, 0, none⟩), .int .i64 id, .int .i64 sb, .bool ab] w (FPost S x d (opStack st id sb ab) w) := by
  obtain ⟨A, B, c, h1, h2, h3⟩ := h
  exact (paStack_any hw id sb ab w h1.pane).mono fun e w' hp => h1.post h2 h3 (opStack_wh ..) hp

theorem fuAttach_any {S : Nat → Prop} {x : Nat} {st : St} {d : Cv} (hw : Wf st) (id a b : Int) (l : List R4) (v : Value) (w : World) (h : FullC w S x st d) (hv : PixAt w v l) (hlen : l.length ≤ maxLen) :
    Calls Tryz.prog 28 #[.pointer (some ⟨x, 0, none⟩), .int .i64 id, .int .i64 a, .int .i64 b, v] w (FPost S x d (opAttach st id a b l.length (l.all fitP) fun k => l.getD k (0, 0, 0, 0)) w) := by
  obtain ⟨A, B, c, h1, h2, h3⟩ := h
  exact (paAttach_any hw id a b l v w h1.pane hv hlen).mono fun e w' hp => h1.post h2 h3 (opAttach_wh ..) hp

def FMPost (S : Nat → Prop) (x : Nat) (d : Cv) (p : Int × Int × St) (w : World) (e : Ending) (w' : World) : Prop := e = .returned (.tuple #[.int .i64 p.1, .int .i64 p.2.1]) ∧ FullC w' (grow S w w') x p.2.2 d ∧ Only S w w'

theorem opMake_wh (st : St) (p : Int) : (opMake st p).2.2.w = st.w ∧ (opMake st p).2.2.h = st.h := by
  unfold opMake; (repeat' split) <;> exact ⟨rfl, rfl⟩

theorem fuMake_any {S : Nat → Prop} {x : Nat} {st : St} {d : Cv} (hw : Wf st) (p : Int) (w : World) (h : FullC w S x st d) :
    Calls Tryz.prog 27 #[.pointer (some ⟨x, 0, none⟩), .int .i64 p] w (FMPost S x d (opMake st p) w) := by
  obtain ⟨A, B, c, h1, h2, h3⟩ := h
  refine (paMake_any hw p w h1.pane).mono fun e w' hp => ?_
  exact ⟨hp.1, (h1.scene hp.2.1 hp.2.2 (opMake_wh ..).1 (opMake_wh ..).2).full h2 h3, hp.2.2.mono fun g _ hg => h2 g hg⟩

theorem fuViews_any {S : Nat → Prop} {x : Nat} {st : St} {d : Cv} (hw : Wf st) {w : World} (h : FullC w S x st d) :
    Calls Tryz.prog 23 #[.pointer (some ⟨x, 0, none⟩)] w (ViewsPost st w) := by
  obtain ⟨A, B, c, h1, h2, h3⟩ := h
  obtain ⟨sc, mp, blk, G, hr⟩ := h1.pane
  obtain ⟨x0, x1, xl⟩ := hr.scrCells
  have HV := hide (scViews_any hw (show w.cell? ⟨sc, 0, none⟩ = some (.pointer (some ⟨blk (-1), 0, none⟩)) from hr.sceCells.1) (hr.lays hw (live_top st)) (hr.sl hw (live_top st)))
  clear hr h1 h2 h3
  unfold ptrV at x0
  go_enter Tryz.func23, Tryz.ntmps23
  go_wp2_with (go_at_call 45; refine HV.out.mono ?_; rintro e w1 hp; have HP := hide hp; obtain ⟨v, rfl, hp2⟩ := hp; clear hp2)
  go_ret
  exact HP.out

/-! ### Damages -/

def DamBy (d d' : Cv) (l : List R4) : Prop := ∃ R, d' = { d with dam := d.dam.set d.nw R } ∧ Good R ∧ ∀ x y, memR R x y = (memR ((d.dam[d.nw]?).getD []) x y || hasB l x y)

/-- A rectangle on the screen, or an empty one. -/
def OnS (W H : Int) (r : R4) : Prop := r = (0, 0, 0, 0) ∨ (0 ≤ r.1 ∧ r.1 ≤ r.2.2.1 ∧ r.2.2.1 ≤ W ∧ 0 ≤ r.2.1 ∧ r.2.1 ≤ r.2.2.2 ∧ r.2.2.2 ≤ H)

theorem OnS.fit {W H : Int} (hW : W ≤ 24) (hH : H ≤ 24) {r : R4} (h : OnS W H r) : fitR r = true := by
  unfold fitR
  rcases h with rfl | h
  · rfl
  · exact decide_eq_true (by omega)

theorem OnS.inside {W H : Int} {r : R4} (h : OnS W H r) {x y : Int} (hx : inR r x y = true) : inR (0, 0, W, H) x y = true := by
  unfold inR at *
  have hx := of_decide_eq_true hx
  refine decide_eq_true ?_
  simp only
  rcases h with rfl | h
  · simp only at hx; omega
  · omega

theorem seen_on (st : St) (i : Nat) (h : has4 (st.seen i) = true) : OnS st.w st.h (st.seen i) := by
  have hs := seen_scr st i
  unfold has4 at h
  have h := of_decide_eq_true h
  exact .inr (by omega)

theorem vis_on (st : St) (p : Int) : ∀ r ∈ (st.visAll p).map st.seen, OnS st.w st.h r := by
  intro r hr
  obtain ⟨i, hi, rfl⟩ := List.mem_map.1 hr
  refine seen_on st i ?_
  unfold St.visAll St.visP at hi
  rcases List.mem_append.1 hi with hi | hi
  · split at hi
    · cases hi
    · exact (List.mem_filter.1 hi).2
  · exact (List.mem_filter.1 hi).2

theorem foldTo_keeps {P : R4 → Prop} {step : Nat → R4 → R4} : ∀ (m : Nat) (h : R4), P h → (∀ a h, a < m → P h → P (step a h)) → P (foldTo step m h)
  | 0, h, h0, _ => h0
  | m + 1, h, h0, hs => hs m _ (by omega) (foldTo_keeps m h h0 fun a h ha => hs a h (by omega))

theorem hull_on {W H : Int} {p q : R4} (hp : OnS W H p) (hq : OnS W H q) : OnS W H (hull p q) := by
  unfold hull
  split
  · split
    · rename_i h1 h2
      have e1 : p ≠ (0, 0, 0, 0) := fun e => by subst e; simp [pts] at h1
      have e2 : q ≠ (0, 0, 0, 0) := fun e => by subst e; simp [pts] at h2
      have a := hp.resolve_left e1
      have b := hq.resolve_left e2
      refine .inr ?_
      simp only
      omega
    · exact hp
  · exact hq

theorem other_on {W H : Int} (p : Int → Int → Bool) {R : R4} (h : 0 ≤ R.1 ∧ 0 ≤ R.2.1 ∧ R.2.2.1 ≤ W ∧ R.2.2.2 ≤ H) : OnS W H (otherIn p R) := by
  unfold otherIn otherTo
  refine foldTo_keeps (P := OnS W H) _ _ (.inl rfl) fun b q hb hq => ?_
  unfold otherRow
  refine foldTo_keeps (P := OnS W H) _ _ hq fun a q ha hq => ?_
  split
  · refine hull_on hq (.inr ?_)
    simp only
    omega
  · exact hq

theorem cmDam_on {st : St} {i : Nat} : ∀ r ∈ st.cmDam i, OnS st.w st.h r := by
  intro r hr
  unfold St.cmDam at hr
  split at hr
  · rcases List.mem_append.1 hr with hr | hr
    · exact vis_on st _ r hr
    · exact vis_on (cm st i) _ r hr
  · rw [List.mem_singleton] at hr
    subst hr
    exact other_on (W := st.w) (H := st.h) _ (seen_scr (cm st i) i)

theorem DamBy.ok {d d' : Cv} {l : List R4} (h : DamBy d d' l) (hd : CvOk d) (hl : ∀ r ∈ l, OnS d.W d.H r) : CvOk d' := by
  obtain ⟨R, rfl, hG, hm⟩ := h
  refine ⟨hd.w1, hd.h1, hd.n, hd.nw, by simp [hd.ln], fun Q hQ => ?_, hd.age, fun Q hQ x y hxy => ?_, hd.apart⟩
  · rcases List.mem_or_eq_of_mem_set hQ with hQ | rfl
    · exact hd.good Q hQ
    · exact hG
  · rcases List.mem_or_eq_of_mem_set hQ with hQ | rfl
    · exact hd.inside Q hQ x y hxy
    · rw [hm, Bool.or_eq_true] at hxy
      rcases hxy with hxy | hxy
      · have hlt : d.nw < d.dam.length := by rw [hd.ln]; exact hd.nw
        rw [List.getElem?_eq_getElem hlt] at hxy
        exact hd.inside _ (List.getElem_mem hlt) x y hxy
      · unfold hasB at hxy
        obtain ⟨r, hr, hx⟩ := List.any_eq_true.1 hxy
        exact (hl r hr).inside hx

end Go.Proofs.YtofinpocigbbeaaGreat

/-! FulA -/
namespace Go.Proofs.YtofinpocigbbeaaGreat
open Go.RowKit
attribute [local go_sem ↓] Go.wp_at_zero Go.wp_at_succ

/-- How the canvas is behind a call that damages so, or not at all. -/
def DamTo (d d' : Cv) : Option (List R4) → Prop
  | none => d' = d
  | some l => DamBy d d' l

def FDPost (S : Nat → Prop) (x : Nat) (d : Cv) (p : Int × St) (dm : Option (List R4)) (w : World) (e : Ending) (w' : World) : Prop := e = .returned (.int .i64 p.1) ∧ (∃ d', FullC w' (grow S w w') x p.2 d' ∧ DamTo d d' dm) ∧ Only S w w'

theorem FDPost.same {S : Nat → Prop} {x : Nat} {st : St} {d : Cv} {w : World} (h : FullC w S x st d) (er : Int) : FDPost S x d (er, st) none w (.returned (.int .i64 er)) w :=
  ⟨rfl, ⟨d, h.mono fun _ hg => .inl hg, rfl⟩, Only.refl _ _⟩

/-- The damage of a call is told to the canvas. -/
theorem FullM.damage {w w1 : World} {S A B : Nat → Prop} {x : Nat} {st st' : St} {d : Cv} {c : Nat} (h : FullM w A B x st d c) (hA : ∀ g, A g → S g) (hB : ∀ g, B g → S g) (hp : PaneOk w1 (grow A w w1) x st' (ptrV c)) (ho : Only A w w1) (hw : st'.w = st.w) (hh : st'.h = st.h) (l : List R4) (v : Value) (hv : OwnR w1 w.heap.size v l) (hl : ∀ r ∈ l, OnS st.w st.h r) (hn : l.length ≤ 1000) (V : World) (hV : Below w1.heap.size w1 V) :
    Calls Tryz.prog 63 #[.pointer (some ⟨c, 0, none⟩), v] V fun e w' => e = .returned (.tuple #[]) ∧ w'.heap[x]? = V.heap[x]? ∧ ∀ w2 : World, Below w'.heap.size w' w2 → FDPost S x d (0, st') (some l) w (.returned (.int .i64 0)) w2 := by
  have hm := h.scene hp ho hw hh
  have hd := h.ok
  have hW := hd.w1
  have hH := hd.h1
  have hl2 : ∀ r ∈ l, OnS d.W d.H r := fun r hr => by rw [h.dw, h.dh]; exact hl r hr
  have hmV := hm.keep hV.size fun g _ hg => hV.block g hg
  obtain ⟨bv, rg, dv, hc⟩ := hmV.cv
  have hvV : RectsAt V v l := (hv.belowR hV).rects
  refine (damage_any hc hd l v hvV hn fun r hr => (hl2 r hr).fit (by omega) (by omega)).mono ?_
  rintro e w' ⟨rfl, R, dv', hc', hG, hM, ho'⟩
  have hrgB : B rg := hc.rown
  have hs1 := ho.size
  have hs2 := hV.size
  have hs3 := ho'.size
  refine ⟨rfl, ?_, fun w2 h2 => ⟨rfl, ⟨{ d with dam := d.dam.set d.nw R }, ?_, R, rfl, hG, hM⟩, ?_⟩⟩
  · obtain ⟨sc', mp', blk', G', hr'⟩ := hmV.pane
    exact ho'.block x hr'.scrCells.2.2 fun e => hm.ap x hr'.own.1 (e ▸ hrgB)
  · have hs4 := h2.size
    have hnA : ∀ g, grow A w w1 g → g ≠ rg := fun g hg e => hm.ap g hg (e ▸ hrgB)
    have hfm : FullM w2 (grow A w w1) (grow B V w') x st' { d with dam := d.dam.set d.nw R } c := by
      refine ⟨?_, ⟨bv, rg, dv', hc'.below h2⟩, DamBy.ok ⟨R, rfl, hG, hM⟩ hd hl2, hm.dw, hm.dh, fun g hg => ?_, fun g hg => ?_, fun g hg hb => ?_⟩
      · exact (hmV.pane.keep fun g hg hl => ho'.block g hl (hnA g hg)).below h2
      · exact Nat.lt_of_lt_of_le (hm.la g hg) (by omega)
      · rcases hg with hg | hg
        · exact Nat.lt_of_lt_of_le (hm.lb g hg) (by omega)
        · omega
      · rcases hb with hb | hb
        · exact hm.ap g hg hb
        · have := hm.la g hg; omega
    exact ⟨_, _, c, hfm, fun g hg => hg.elim (fun q => .inl (hA g q)) fun q => .inr ⟨q.1, by omega⟩, fun g hg => hg.elim (fun q => .inl (hB g q)) fun q => .inr ⟨by omega, by omega⟩⟩
  · refine ((((ho.mono fun g _ hg => hA g hg).after hV).trans (ho'.mono fun g _ hg => ?_)).after h2)
    exact .inl (by rw [hg]; exact hB rg hrgB)

def St.dmDestroy (st : St) (id : Int) : Option (List R4) := if st.isB id = true then some ((st.visAll id.toNat).map st.seen) else none
def St.dmCommit (st : St) (id : Int) : Option (List R4) := if st.isB id = true then some (st.cmDam id.toNat) else none

set_option maxRecDepth 100000 in
set_option maxHeartbeats 1000000 in
theorem fuCommit_any {S : Nat → Prop} {x : Nat} {st : St} {d : Cv} (hf : Fine st) (id : Int) (w : World) (h : FullC w S x st d) :
    Calls Tryz.prog 30 #[.pointer (some ⟨x, 0, none⟩), .int .i64 id] w (FDPost S x d (opCommit st id) (st.dmCommit id) w) := by
  have hw := hf.wf
  have hB := isB_iff hw id
  have HE := hide (FDPost.same h 6)
  obtain ⟨A, B, c, h1, h2, h3⟩ := h
  obtain ⟨sc, mp, blk, G, hr⟩ := h1.pane
  obtain ⟨x0, x1, xl⟩ := hr.scrCells
  unfold opCommit St.dmCommit
  obtain ⟨t, ht⟩ : ∃ t, st.isB id = t := ⟨_, rfl⟩
  rw [ht] at hB ⊢
  cases t with
  | false =>
    rw [if_neg (by simp), if_neg (by simp)]
    have HS := hide (scSurface_no hr id (isB_no hw ht))
    unfold ptrV at x0
    clear hB hr h1 h2 h3 ht x1
    go_enter Tryz.func30, Tryz.ntmps30
    go_wp2_with (go_at_call 58; refine HS.out.mono ?_; rintro e w' ⟨rfl, hw'⟩; replace hw' := hw'.symm; subst hw')
    go_ret
    exact HE.out
  | true =>
    rw [if_pos rfl, if_pos rfl]
    obtain ⟨i, rfl, hio⟩ := hB.1 rfl
    rw [Int.toNat_natCast]
    have HS := hide (scSurface_ok hr i hio)
    have hic : i ∈ (cm st i).order := (cm_perm hw hf.sib hio).mem_iff.2 hio
    have hlen : (st.cmDam i).length ≤ 1000 := by
      have a1 := visAll_len hw (live_nat hio)
      have a2 := visAll_len (cm_wf hw hf.sib hio) (live_nat hic)
      unfold St.cmDam
      split
      · simp only [List.length_append, List.length_map]
        omega
      · simp
    obtain ⟨ib, hib⟩ : ∃ ib, blk i = ib := ⟨_, rfl⟩
    have HC : Hid (∀ V : World, Below w.heap.size w V → Calls Tryz.prog 64 #[.pointer (some ⟨ib, 0, none⟩)] V fun e w' => ∃ v, e = .returned v ∧ w'.cell? ⟨x, 1, none⟩ = some (.pointer (some ⟨c, 0, none⟩)) ∧ ∀ V2 : World, Below w'.heap.size w' V2 → Calls Tryz.prog 63 #[.pointer (some ⟨c, 0, none⟩), v] V2 fun e w3 => e = .returned (.tuple #[]) ∧ ∀ w2 : World, Below w3.heap.size w3 w2 → FDPost S x d (0, cm st i) (some (st.cmDam i)) w (.returned (.int .i64 0)) w2) := fun V hV => by
      rw [← hib]
      refine (sfCommit_any hf (hr.below hV) (fun g hg => Nat.lt_of_lt_of_le (h1.la g hg) hV.size) i hio).mono ?_
      rintro e w' ⟨v, rfl, r1, r2, r3⟩
      have hs := hV.size
      have r2' : PaneOk w' (grow A w w') x (cm st i) (ptrV c) := r2.mono fun g hg => hg.elim (fun q => .inl q) fun q => .inr ⟨by omega, q.2⟩
      refine ⟨v, rfl, ?_, fun V2 hV2 => ?_⟩
      · obtain ⟨sc', mp', blk', G', hr'⟩ := r2
        exact hr'.scrCells.2.1
      · exact (h1.damage h2 h3 r2' ((Only.below hV).trans (r3.mono fun g _ hg => .inl hg)) rfl rfl _ v (r1.lower hs) cmDam_on hlen V2 hV2).mono fun e w3 q => ⟨q.1, q.2.2⟩
    have HX : Hid (∀ V : World, Below w.heap.size w V → V.cell? ⟨x, 1, none⟩ = some (.pointer (some ⟨c, 0, none⟩))) := fun V hV => ((hr.below hV).scrCells).2.1
    unfold ptrV at x0 x1
    rw [hib] at HS
    clear hB hr h1 h2 h3 ht hlen hic hib HE hio hf hw
    go_enter Tryz.func30, Tryz.ntmps30
    go_upto_region 4 with (go_at_call 58; refine HS.out.mono ?_; rintro e w' ⟨rfl, hw'⟩; replace hw' := hw'.symm; subst hw')
    go_cut [] (fun wx => Hid (FDPost S x d (0, cm st i) (some (st.cmDam i)) w (.returned (.int .i64 0)) wx))
    case first =>
      clear x0
      go_region_with (first
        | (go_at_call 64; refine (HC.out _ ?_).mono ?_; (repeat (first | with_reducible exact Below.refl _ _ | with_reducible refine Below.drew ?_)); rintro e w1 ⟨v, rfl, hx1, hdm⟩; have HD := hide hdm; clear hdm)
        | (go_at_call 63; refine (HD.out _ ?_).mono ?_; (repeat (first | with_reducible exact Below.refl _ _ | with_reducible refine Below.drew ?_)); rintro e w2 ⟨rfl, hen⟩; have HN := hide hen; clear hen))
      all_goals go_wp2_with fail
      all_goals go_meet
      all_goals exact HN.out _ (by repeat (first | with_reducible exact Below.refl _ _ | with_reducible refine Below.drew ?_))
    case rest =>
      go_wp2_with fail
      go_ret
      exact hcut.out

set_option maxRecDepth 100000 in
set_option maxHeartbeats 1000000 in
theorem fuDestroy_any {S : Nat → Prop} {x : Nat} {st : St} {d : Cv} (hw : Wf st) (id : Int) (w : World) (h : FullC w S x st d) :
    Calls Tryz.prog 32 #[.pointer (some ⟨x, 0, none⟩), .int .i64 id] w (FDPost S x d (opDestroy st id) (st.dmDestroy id) w) := by
  have hB := isB_iff hw id
  have HE := hide (FDPost.same h 6)
  obtain ⟨A, B, c, h1, h2, h3⟩ := h
  obtain ⟨sc, mp, blk, G, hr⟩ := h1.pane
  obtain ⟨x0, x1, xl⟩ := hr.scrCells
  unfold opDestroy St.dmDestroy
  obtain ⟨t, ht⟩ : ∃ t, st.isB id = t := ⟨_, rfl⟩
  rw [ht] at hB ⊢
  cases t with
  | false =>
    rw [if_neg (by simp), if_neg (by simp)]
    have HS := hide (scSurface_no hr id (isB_no hw ht))
    unfold ptrV at x0
    clear hB hr h1 h2 h3 ht x1
    go_enter Tryz.func32, Tryz.ntmps32
    go_wp2_with (go_at_call 58; refine HS.out.mono ?_; rintro e w' ⟨rfl, hw'⟩; replace hw' := hw'.symm; subst hw')
    go_ret
    exact HE.out
  | true =>
    rw [if_pos rfl, if_pos rfl]
    obtain ⟨i, rfl, hio⟩ := hB.1 rfl
    rw [Int.toNat_natCast]
    have HS := hide (scSurface_ok hr i hio)
    have hlen : ((st.visAll i).map st.seen).length ≤ 1000 := by
      have a1 := visAll_len hw (live_nat hio)
      simp only [List.length_map]
      omega
    obtain ⟨ib, hib⟩ : ∃ ib, blk i = ib := ⟨_, rfl⟩
    have HC : Hid (∀ V : World, Below w.heap.size w V → Calls Tryz.prog 66 #[.pointer (some ⟨sc, 0, none⟩), .pointer (some ⟨ib, 0, none⟩)] V fun e w' => ∃ v, e = .returned v ∧ (∀ V2 : World, Below w'.heap.size w' V2 → V2.cell? ⟨x, 0, none⟩ = some (.pointer (some ⟨sc, 0, none⟩)) ∧ V2.cell? ⟨x, 1, none⟩ = some (.pointer (some ⟨c, 0, none⟩))) ∧ ∀ V2 : World, Below w'.heap.size w' V2 → Calls Tryz.prog 63 #[.pointer (some ⟨c, 0, none⟩), v] V2 fun e w3 => e = .returned (.tuple #[]) ∧ (w3.cell? ⟨x, 0, none⟩ = some (.pointer (some ⟨sc, 0, none⟩)) ∧ w3.cell? ⟨x, 1, none⟩ = some (.pointer (some ⟨c, 0, none⟩))) ∧ ∀ w2 : World, Below w3.heap.size w3 w2 → FDPost S x d (0, rm st i) (some ((st.visAll i).map st.seen)) w (.returned (.int .i64 0)) w2) := fun V hV => by
      rw [← hib]
      refine (scDestroy_any hw (hr.below hV) (fun g hg => Nat.lt_of_lt_of_le (h1.la g hg) hV.size) i hio).mono ?_
      rintro e w' ⟨v, rfl, r1, r2, r3⟩
      have hs := hV.size
      have r2' : PaneOk w' (grow A w w') x (rm st i) (ptrV c) := r2.ok.mono fun g hg => hg.elim (fun q => .inl q) fun q => .inr ⟨by omega, q.2⟩
      have hcl : ∀ V2 : World, Below w'.heap.size w' V2 → V2.cell? ⟨x, 0, none⟩ = some (.pointer (some ⟨sc, 0, none⟩)) ∧ V2.cell? ⟨x, 1, none⟩ = some (.pointer (some ⟨c, 0, none⟩)) := fun V2 hV2 => by
        obtain ⟨mp', blk', G', hr'⟩ := r2
        have := (hr'.below hV2).scrCells
        exact ⟨this.1, this.2.1⟩
      refine ⟨v, rfl, hcl, fun V2 hV2 => ?_⟩
      refine (h1.damage h2 h3 r2' ((Only.below hV).trans (r3.mono fun g _ hg => .inl hg)) rfl rfl _ v (r1.lower hs) (vis_on st _) hlen V2 hV2).mono fun e w3 q => ⟨q.1, ?_, q.2.2⟩
      have k := hcl V2 hV2
      rw [World.cell?_of_block (w := V2) (a := ⟨x, 0, none⟩) q.2.1, World.cell?_of_block (w := V2) (a := ⟨x, 1, none⟩) q.2.1]
      exact k
    have HX : Hid (∀ V : World, Below w.heap.size w V → V.cell? ⟨x, 0, none⟩ = some (.pointer (some ⟨sc, 0, none⟩)) ∧ V.cell? ⟨x, 1, none⟩ = some (.pointer (some ⟨c, 0, none⟩))) := fun V hV => let q := (hr.below hV).scrCells; ⟨q.1, q.2.1⟩
    unfold ptrV at x0 x1
    rw [hib] at HS
    clear hB hr h1 h2 h3 ht hlen hib HE hio hw
    go_enter Tryz.func32, Tryz.ntmps32
    go_upto_region 4 with (go_at_call 58; refine HS.out.mono ?_; rintro e w' ⟨rfl, hw'⟩; replace hw' := hw'.symm; subst hw')
    go_cut [] (fun wx => Hid (FDPost S x d (0, rm st i) (some ((st.visAll i).map st.seen)) w (.returned (.int .i64 0)) wx))
    case first =>
      clear x0 x1
      go_region_held3 (fun w' => w'.cell? ⟨x, 0, none⟩ = some (.pointer (some ⟨sc, 0, none⟩)) ∧ w'.cell? ⟨x, 1, none⟩ = some (.pointer (some ⟨c, 0, none⟩)))
        (first
          | (refine HX.out _ ?_; (repeat (first | with_reducible exact Below.refl _ _ | with_reducible refine Below.drew ?_)); done)
          | exact HZ.out
          | (refine HQ.out _ ?_; (repeat (first | with_reducible exact Below.refl _ _ | with_reducible refine Below.drew ?_)); done)
          | fail)
        (first
          | (go_at_call 66; refine (HC.out _ ?_).mono ?_; (repeat (first | with_reducible exact Below.refl _ _ | with_reducible refine Below.drew ?_)); rintro e w1 ⟨v, rfl, hq, hdm⟩; have HQ := hide hq; have HD := hide hdm; clear hdm hq)
          | (go_at_call 63; refine (HD.out _ ?_).mono ?_; (repeat (first | with_reducible exact Below.refl _ _ | with_reducible refine Below.drew ?_)); rintro e w2 ⟨rfl, hz, hen⟩; have HZ := hide hz; have HN := hide hen; clear hen hz)
          | fail)
      all_goals go_wp2_with fail
      all_goals go_meet
      all_goals exact HN.out _ (by repeat (first | with_reducible exact Below.refl _ _ | with_reducible refine Below.drew ?_))
    case rest =>
      go_wp2_with fail
      go_ret
      exact hcut.out

end Go.Proofs.YtofinpocigbbeaaGreat

/-! PanZ -/
namespace Go.Proofs.YtofinpocigbbeaaGreat
open Go.RowKit
attribute [local go_sem ↓] Go.wp_at_zero Go.wp_at_succ

def groundC (W H : Int) : Array Value := #[.int .i64 (-1), .pointer none, .slice none 0 0, .int .i64 0, .int .i64 0, .slice none 0 0, .int .i64 0, .int .i64 0, .int .i64 0, .int .i64 0, .int .i64 W, .int .i64 H, .bool true, .slice none 0 0, .int .i64 0, .int .i64 0, .slice none 0 0, .int .i64 0, .int .i64 0, .int .i64 0, .int .i64 0, .int .i64 0, .int .i64 0, .bool false, .slice none 0 0, .bool false, .int .i64 0, .bool false, .int .i64 0, .int .i64 0, .slice none 0 0]

set_option maxRecDepth 100000 in
set_option maxHeartbeats 1000000 in
/-- scene.New -/
theorem scNew_any (W H : Int) (w : World) : Calls Tryz.prog 53 #[.int .i64 W, .int .i64 H] w fun e w' => e = .returned (.pointer (some ⟨w.heap.size + 2, 0, none⟩)) ∧
      w' = ((w.alloc (.cells (groundC W H) 174)).alloc (.map #[] 0)).alloc (.cells #[.pointer (some ⟨w.heap.size, 0, none⟩), .map (some (w.heap.size + 1)), .int .i64 0] 152) := by
  have hmm : ∀ W : World, (Instr.makeMap 150 none).run Tryz.prog W = .ok (.map (some W.heap.size)) (W.alloc (.map #[] 0)) := fun W => run_makeMap _ W
  go_enter Tryz.func53, Tryz.ntmps53
  go_wp2_with fail
  go_ret
  exact ⟨rfl, rfl⟩

theorem heap_here (u : World) (o : Obj) (n : Nat) (h : u.heap.size = n) : (u.alloc o).heap[n]? = some o := by subst h; exact heap_alloc_new u o

/-- What scene.New leaves. -/
structure NewP (w wr : World) (W H : Int) : Prop where
  bel : Below w.heap.size w wr
  gnd : Blk wr w.heap.size 174 (groundC W H)
  map : wr.heap[w.heap.size + 1]? = some (.map #[] 0)
  sce : Blk wr (w.heap.size + 2) 152 #[.pointer (some ⟨w.heap.size, 0, none⟩), .map (some (w.heap.size + 1)), .int .i64 0]

theorem NewP.below {w wr wx : World} {W H : Int} (h : NewP w wr W H) (hb : Below wr.heap.size wr wx) : NewP w wx W H := by
  have h2 := h.sce.has.lt
  exact ⟨h.bel.trans (hb.mono h.bel.size), h.gnd.keep (hb.block _ (by omega)), (hb.block _ (by omega)).trans h.map, h.sce.keep (hb.block _ h2)⟩

theorem NewP.done {w wr : World} {W H : Int} (h : NewP w wr W H) {x : Nat} {bv : Value} (hx : Blk wr x 90 #[.pointer (some ⟨w.heap.size + 2, 0, none⟩), bv]) : PaneOk wr (fun g => g = x ∨ (w.heap.size ≤ g ∧ g < w.heap.size + 3)) x ⟨W, H, [], []⟩ bv := by
  have hs := h.sce.has.lt
  have hlive : ∀ p, Live ⟨W, H, [], []⟩ p → p = -1 := fun p hp => by
    rcases hp with hp | ⟨i, _, hi⟩
    · exact hp
    · cases hi
  refine ⟨w.heap.size + 2, w.heap.size + 1, fun _ => w.heap.size, fun _ o => (groundC W H).getD o undef, hx, h.sce, ⟨#[], 0, h.map, MapKept.stamped_empty 0, by simp⟩, fun p hp => ⟨_, h.gnd, rfl, fun o ho => ?_⟩, ⟨.inl rfl, .inr ⟨by omega, by omega⟩, .inr ⟨by omega, by omega⟩, fun p hp => .inr ⟨by omega, by omega⟩⟩, fun p p' hp hp' _ => by rw [hlive p hp, hlive p' hp'], fun p hp => ?_, fun p p' hp hp' hne => absurd (by rw [hlive p hp, hlive p' hp']) hne, fun p hp => ?_, fun i hi => by cases hi⟩
  · show _ = some ((groundC W H).getD o undef)
    rw [Array.getD_eq_getD_getElem?, Array.getElem?_eq_getElem (show o < (groundC W H).size from ho)]
    rfl
  · exact RowS.nil _ _ _ _
  · have := hlive p hp
    subst this
    exact ⟨rfl, rfl, ⟨rfl, rfl, ⟨_, _, _, rfl⟩, rfl, rfl, rfl, rfl, rfl, rfl, rfl, ⟨_, _, _, rfl⟩⟩, ⟨look0, ⟨rfl, rfl, ⟨_, _, _, rfl⟩, rfl, rfl, rfl, rfl, rfl, rfl, rfl, ⟨_, _, _, rfl⟩⟩, fun e => absurd rfl e⟩, ⟨_, _, _, rfl, rfl, rfl, fun e => absurd rfl e⟩, ⟨_, _, _, _, _, rfl, rfl, rfl⟩⟩

def NPostP (W H : Int) (n : Nat) (w : World) (e : Ending) (w' : World) : Prop := ∃ x L, e = .returned (.tuple #[.pointer (some ⟨x, 0, none⟩), .int .i64 0]) ∧ FullC w' (fun g => w.heap.size ≤ g ∧ g < w'.heap.size) x ⟨W, H, [], []⟩ (Cv.new W.toNat H.toNat L) ∧ L.length = n ∧ Below w.heap.size w w'

theorem new_full {w w1 w2 : World} {W H : Nat} (hW : 1 ≤ W ∧ W ≤ 24) (hH : 1 ≤ H ∧ H ≤ 24) {N c rg : Nat} {bv : Value} {L : List Nat} (hN : 1 ≤ N ∧ N ≤ 3) (h1 : NewP w w1 W H) (h2 : NewC w1 w2 c rg W H N bv L) (o : Obj) (ho : o = .cells #[.pointer (some ⟨w.heap.size + 2, 0, none⟩), .pointer (some ⟨c, 0, none⟩)] 90) :
    NPostP W H N w (.returned (.tuple #[.pointer (some ⟨w2.heap.size, 0, none⟩), .int .i64 0])) (w2.alloc o) := by
  subst ho
  have s1 := h1.bel.size
  have s2 := h2.bel.size
  have hs := h1.sce.has.lt
  have hb3 : Below w2.heap.size w2 (w2.alloc (.cells #[.pointer (some ⟨w.heap.size + 2, 0, none⟩), .pointer (some ⟨c, 0, none⟩)] 90)) := (Below.refl _ _).alloc (Nat.le_refl _) _
  refine ⟨_, L, rfl, ⟨_, _, c, ⟨((h1.below h2.bel).below hb3).done (x := w2.heap.size) (heap_alloc_new w2 _), ⟨bv, rg, _, h2.mem.below hb3⟩, Cv.new_ok h2 hW hH hN, rfl, rfl, fun g hg => ?_, fun g hg => ?_, fun g hg hb => ?_⟩, fun g hg => ?_, fun g hg => ?_⟩, h2.len, (h1.bel.trans (h2.bel.mono s1)).trans (hb3.mono (by omega))⟩
  · simp
    omega
  · simp
    omega
  · omega
  · simp
    omega
  · simp
    omega

set_option maxRecDepth 100000 in
set_option maxHeartbeats 1000000 in
/-- New, where it is not refused. -/
theorem paNew_ok (W H n : Int) (w : World) (hW : 1 ≤ W ∧ W ≤ 24) (hH : 1 ≤ H ∧ H ≤ 24) (hn : 1 ≤ n ∧ n ≤ 3) :
    Calls Tryz.prog 26 #[.int .i64 W, .int .i64 H, .int .i64 n] w (NPostP W H n.toNat w) := by
  obtain ⟨N, hN⟩ : ∃ N : Nat, n = N := ⟨n.toNat, by omega⟩
  obtain ⟨W', hW'⟩ : ∃ W' : Nat, W = W' := ⟨W.toNat, by omega⟩
  obtain ⟨H', hH'⟩ : ∃ H' : Nat, H = H' := ⟨H.toNat, by omega⟩
  subst hN hW' hH'
  rw [Int.toNat_natCast]
  obtain ⟨hW0, hW1⟩ := hW
  obtain ⟨hH0, hH1⟩ := hH
  obtain ⟨hn0, hn1⟩ := hn
  have HSc : Hid (Calls Tryz.prog 53 #[.int .i64 (W' : Int), .int .i64 (H' : Int)] w fun e w1 => e = .returned (.pointer (some ⟨w.heap.size + 2, 0, none⟩)) ∧ NewP w w1 W' H') := by
    refine (scNew_any W' H' w).mono ?_
    rintro e w1 ⟨rfl, rfl⟩
    refine ⟨rfl, (((al1 (Nat.le_refl _) _).alloc (by simp) _).alloc (by simp; omega) _), ?_, ?_, ?_⟩
    · unfold Blk
      rw [heap_old _ _ _ (by simp <;> omega), heap_old _ _ _ (by simp <;> omega)]
      exact heap_here _ _ _ rfl
    · rw [heap_old _ _ _ (by simp <;> omega)]
      exact heap_here _ _ _ (by simp)
    · exact heap_here _ _ _ (by simp)
  have HCv := hide (fun V : World => cvNew_any W' H' N V ⟨by omega, by omega⟩ ⟨by omega, by omega⟩ ⟨by omega, by omega⟩)
  have HEn : Hid (∀ (w1 w2 : World) (c rg : Nat) (bv : Value) (L : List Nat), NewP w w1 W' H' → NewC w1 w2 c rg W' H' N bv L → NPostP W' H' N w (.returned (.tuple #[.pointer (some ⟨w2.heap.size, 0, none⟩), .int .i64 0])) (w2.alloc (.cells #[.pointer (some ⟨w.heap.size + 2, 0, none⟩), .pointer (some ⟨c, 0, none⟩)] 90))) := fun w1 w2 c rg bv L h1 h2 => new_full ⟨by omega, by omega⟩ ⟨by omega, by omega⟩ ⟨by omega, by omega⟩ h1 h2 _ rfl
  go_enter Tryz.func26, Tryz.ntmps26
  go_wp2_with (first
    | (go_at_call 53; refine HSc.out.mono ?_; rintro e w1 ⟨rfl, h1⟩; have H1 := hide h1; clear h1)
    | (go_at_call 54; refine (HCv.out _).mono ?_; rintro e w2 ⟨c, rg, bv, L, rfl, h2⟩; have H2 := hide (HEn.out _ _ _ _ _ _ H1.out h2); clear h2)
    | go_in)
  go_ret2
  exact H2.out

end Go.Proofs.YtofinpocigbbeaaGreat

/-! Fok -/
namespace Go.Proofs.YtofinpocigbbeaaGreat
open Go.RowKit

theorem lt_keep {w w' : World} {g : Nat} (h : g < w.heap.size) (e : w'.heap[g]? = w.heap[g]?) : g < w'.heap.size := by
  rw [Array.getElem?_eq_getElem h] at e
  exact (Array.getElem?_eq_some_iff.1 e).1

theorem FullM.keepB {w w' : World} {A B : Nat → Prop} {x : Nat} {st : St} {d : Cv} {c : Nat} (h : FullM w A B x st d c) (hk : ∀ g, A g ∨ B g → g < w.heap.size → w'.heap[g]? = w.heap[g]?) : FullM w' A B x st d c :=
  ⟨h.pane.keep fun g hg hl => hk g (.inl hg) hl, let ⟨bv, rg, dv, q⟩ := h.cv; ⟨bv, rg, dv, q.keep fun g hg hl => hk g (.inr hg) hl⟩, h.ok, h.dw, h.dh, fun g hg => lt_keep (h.la g hg) (hk g (.inl hg) (h.la g hg)), fun g hg => lt_keep (h.lb g hg) (hk g (.inr hg) (h.lb g hg)), h.ap⟩

/-- A whole screen, whatever its canvas shows. -/
def FullOk (w : World) (S : Nat → Prop) (x : Nat) (st : St) : Prop := ∃ d, FullC w S x st d

theorem FullOk.keep {w w' : World} {S : Nat → Prop} {x : Nat} {st : St} (h : FullOk w S x st) (hk : ∀ g, S g → g < w.heap.size → w'.heap[g]? = w.heap[g]?) : FullOk w' S x st := by
  obtain ⟨d, A, B, c, h1, h2, h3⟩ := h
  exact ⟨d, A, B, c, h1.keepB fun g hg hl => hk g (hg.elim (h2 g) (h3 g)) hl, h2, h3⟩

def FOk (S : Nat → Prop) (x : Nat) (p : Int × St) (w : World) (e : Ending) (w' : World) : Prop := e = .returned (.int .i64 p.1) ∧ FullOk w' (grow S w w') x p.2 ∧ Only S w w'
def FMOk (S : Nat → Prop) (x : Nat) (p : Int × Int × St) (w : World) (e : Ending) (w' : World) : Prop := e = .returned (.tuple #[.int .i64 p.1, .int .i64 p.2.1]) ∧ FullOk w' (grow S w w') x p.2.2 ∧ Only S w w'

theorem FPost.ok {S : Nat → Prop} {x : Nat} {d : Cv} {p : Int × St} {w w' : World} {e : Ending} (h : FPost S x d p w e w') : FOk S x p w e w' := ⟨h.1, ⟨d, h.2.1⟩, h.2.2⟩
theorem FDPost.ok {S : Nat → Prop} {x : Nat} {d : Cv} {p : Int × St} {dm : Option (List R4)} {w w' : World} {e : Ending} (h : FDPost S x d p dm w e w') : FOk S x p w e w' := ⟨h.1, let ⟨d', q, _⟩ := h.2.1; ⟨d', q⟩, h.2.2⟩

section
variable {S : Nat → Prop} {x : Nat} {st : St}

theorem foOffset_any (hw : Wf st) (id a b : Int) (w : World) (h : FullOk w S x st) : Calls Tryz.prog 29 #[.pointer (some ⟨x, 0, none⟩), .int .i64 id, .int .i64 a, .int .i64 b] w (FOk S x (opOffset st id a b) w) := by
  obtain ⟨d, h⟩ := h
  exact (fuOffset_any hw id a b w h).mono fun e w' hp => hp.ok
theorem foUnclip_any (hw : Wf st) (id : Int) (w : World) (h : FullOk w S x st) : Calls Tryz.prog 36 #[.pointer (some ⟨x, 0, none⟩), .int .i64 id] w (FOk S x (opUnclip st id) w) := by
  obtain ⟨d, h⟩ := h
  exact (fuUnclip_any hw id w h).mono fun e w' hp => hp.ok
theorem foClip_any (hw : Wf st) (id a0 a1 a2 a3 : Int) (w : World) (h : FullOk w S x st) : Calls Tryz.prog 35 #[.pointer (some ⟨x, 0, none⟩), .int .i64 id, .agg #[.int .i64 a0, .int .i64 a1, .int .i64 a2, .int .i64 a3]] w (FOk S x (opClip st id (a0, a1, a2, a3) (fitR (a0, a1, a2, a3))) w) := by
  obtain ⟨d, h⟩ := h
  exact (fuClip_any hw id a0 a1 a2 a3 w h).mono fun e w' hp => hp.ok
theorem foStack_any (hw : Wf st) (id sb : Int) (ab : Bool) (w : World) (h : FullOk w S x st) : Calls Tryz.prog 38 #[.pointer (some ⟨x, 0, none⟩), .int .i64 id, .int .i64 sb, .bool ab] w (FOk S x (opStack st id sb ab) w) := by
  obtain ⟨d, h⟩ := h
  exact (fuStack_any hw id sb ab w h).mono fun e w' hp => hp.ok
theorem foAttach_any (hw : Wf st) (id a b : Int) (l : List R4) (v : Value) (w : World) (h : FullOk w S x st) (hv : PixAt w v l) (hlen : l.length ≤ maxLen) : Calls Tryz.prog 28 #[.pointer (some ⟨x, 0, none⟩), .int .i64 id, .int .i64 a, .int .i64 b, v] w (FOk S x (opAttach st id a b l.length (l.all fitP) fun k => l.getD k (0, 0, 0, 0)) w) := by
  obtain ⟨d, h⟩ := h
  exact (fuAttach_any hw id a b l v w h hv hlen).mono fun e w' hp => hp.ok
theorem foMake_any (hw : Wf st) (p : Int) (w : World) (h : FullOk w S x st) : Calls Tryz.prog 27 #[.pointer (some ⟨x, 0, none⟩), .int .i64 p] w (FMOk S x (opMake st p) w) := by
  obtain ⟨d, h⟩ := h
  exact (fuMake_any hw p w h).mono fun e w' hp => ⟨hp.1, ⟨d, hp.2.1⟩, hp.2.2⟩
theorem foDestroy_any (hw : Wf st) (id : Int) (w : World) (h : FullOk w S x st) : Calls Tryz.prog 32 #[.pointer (some ⟨x, 0, none⟩), .int .i64 id] w (FOk S x (opDestroy st id) w) := by
  obtain ⟨d, h⟩ := h
  exact (fuDestroy_any hw id w h).mono fun e w' hp => hp.ok
theorem foCommit_any (hf : Fine st) (id : Int) (w : World) (h : FullOk w S x st) : Calls Tryz.prog 30 #[.pointer (some ⟨x, 0, none⟩), .int .i64 id] w (FOk S x (opCommit st id) w) := by
  obtain ⟨d, h⟩ := h
  exact (fuCommit_any hf id w h).mono fun e w' hp => hp.ok
theorem foViews_any (hw : Wf st) {w : World} (h : FullOk w S x st) : Calls Tryz.prog 23 #[.pointer (some ⟨x, 0, none⟩)] w (ViewsPost st w) := by
  obtain ⟨d, h⟩ := h
  exact fuViews_any hw h
end

def NOk (W H : Int) (w : World) (e : Ending) (w' : World) : Prop := ∃ x, e = .returned (.tuple #[.pointer (some ⟨x, 0, none⟩), .int .i64 0]) ∧ FullOk w' (fun g => w.heap.size ≤ g ∧ g < w'.heap.size) x ⟨W, H, [], []⟩ ∧ Below w.heap.size w w'

theorem foNew_ok (W H n : Int) (w : World) (hW : 1 ≤ W ∧ W ≤ 24) (hH : 1 ≤ H ∧ H ≤ 24) (hn : 1 ≤ n ∧ n ≤ 3) :
    Calls Tryz.prog 26 #[.int .i64 W, .int .i64 H, .int .i64 n] w (NOk W H w) :=
  (paNew_ok W H n w hW hH hn).mono fun _ _ ⟨x, _, h1, h2, _, h4⟩ => ⟨x, h1, ⟨_, h2⟩, h4⟩

end Go.Proofs.YtofinpocigbbeaaGreat
