import Derived.Test.YtofinpocigbbeaaBokD
namespace Go.Proofs.Ytofinpocigbbeaa
open Go.RowKit
attribute [local go_sem ↓] Go.wp_at_zero Go.wp_at_succ

/-- Rows from B0 on may be written over, but for one; nothing else is. -/
structure Tur (B0 zb : Nat) (w w' : World) : Prop where
  os : w'.os = w.os
  tape : w'.tape = w.tape
  output : w'.output = w.output
  size : w.heap.size ≤ w'.heap.size
  block : ∀ g, g < w.heap.size → w'.heap[g]? = w.heap[g]? ∨ (B0 ≤ g ∧ g ≠ zb ∧ ∃ cur cur' : Array Value, w.heap[g]? = some (.cells cur 52 (0, 0)) ∧ w'.heap[g]? = some (.cells cur' 52 (0, 0)) ∧ cur'.size = cur.size)

theorem Tur.refl (B0 zb : Nat) (w : World) : Tur B0 zb w w := ⟨rfl, rfl, rfl, Nat.le_refl _, fun _ _ => .inl rfl⟩

theorem Tur.trans {B0 zb : Nat} {a b c : World} (h : Tur B0 zb a b) (k : Tur B0 zb b c) : Tur B0 zb a c := by
  refine ⟨k.os.trans h.os, k.tape.trans h.tape, k.output.trans h.output, Nat.le_trans h.size k.size, fun g hg => ?_⟩
  rcases h.block g hg with h1 | ⟨h1, h2, c1, c2, h3, h4, h5⟩
  · rcases k.block g (Nat.lt_of_lt_of_le hg h.size) with k1 | ⟨k1, k2, d1, d2, k3, k4, k5⟩
    · exact .inl (k1.trans h1)
    · exact .inr ⟨k1, k2, d1, d2, by rw [← h1]; exact k3, k4, k5⟩
  · rcases k.block g (Nat.lt_of_lt_of_le hg h.size) with k1 | ⟨k1, k2, d1, d2, k3, k4, k5⟩
    · exact .inr ⟨h1, h2, c1, c2, h3, by rw [k1]; exact h4, h5⟩
    · rw [h4] at k3
      injection k3 with k3
      injection k3 with k3
      subst k3
      exact .inr ⟨h1, h2, c1, d2, h3, k4, k5.trans h5⟩

theorem Tur.below {B0 zb : Nat} {w w' : World} (h : Tur B0 zb w w') (hB : B0 ≤ w.heap.size) : Below B0 w w' :=
  ⟨h.os, h.tape, h.output, h.size, fun k hk => by
    rcases h.block k (by omega) with h1 | ⟨h1, _⟩
    · exact h1
    · omega⟩

theorem Tur.drew {B0 zb : Nat} {w w' : World} (h : Tur B0 zb w w') (n : Nat) : Tur B0 zb w (w'.drewN n) := ⟨h.os, h.tape, h.output, h.size, h.block⟩

/-- What is no row of rectangles is as it was. -/
theorem Tur.other {B0 zb g : Nat} {w w' : World} {cur : Array Value} {t : TypeId} {q : Nat × Nat} (h : Tur B0 zb w w') (hg : w.heap[g]? = some (.cells cur t q)) (ht : t ≠ 52) : w'.heap[g]? = some (.cells cur t q) := by
  rcases h.block g (Array.getElem?_eq_some_iff.1 hg).1 with h1 | ⟨_, _, c1, c2, h3, _, _⟩
  · rw [h1]; exact hg
  · rw [hg] at h3
    injection h3 with h3
    injection h3 with _ h3
    exact absurd h3 ht

theorem Tur.keep {B0 zb : Nat} {w w' : World} (h : Tur B0 zb w w') (hg : zb < w.heap.size) : w'.heap[zb]? = w.heap[zb]? := by
  rcases h.block zb hg with h1 | ⟨_, h2, _⟩
  · exact h1
  · exact absurd rfl h2

theorem Tur.row {B0 zb m : Nat} {w w' : World} {s : Value} (h : Tur B0 zb w w') (hs : RowZ w B0 zb s m) : RowZ w' B0 zb s m := by
  refine ⟨?_, hs.2⟩
  obtain ⟨xs, h1, h2⟩ := hs.1
  rcases h2 with h2 | ⟨g, cap, cur, e1, e2, e3, e4, e5, e6, e7⟩
  · exact ⟨xs, h1, .inl h2⟩
  · have : ∃ cur' : Array Value, w'.heap[g]? = some (.cells cur' 52 (0, 0)) ∧ cur'.size = cur.size := by
      rcases h.block g (Array.getElem?_eq_some_iff.1 e3).1 with k | ⟨_, _, c1, c2, k3, k4, k5⟩
      · exact ⟨cur, by rw [k]; exact e3, rfl⟩
      · rw [e3] at k3
        injection k3 with k3
        injection k3 with k3
        subst k3
        exact ⟨c2, k4, k5⟩
    obtain ⟨cur', k1, k2⟩ := this
    refine ⟨cur'.toList.take (m * 4), ?_, .inr ⟨g, cap, cur', e1, e2, k1, e4, e5, by rw [k2, e6], rfl⟩⟩
    rw [List.length_take, Array.length_toList, k2, e6]
    have := Nat.mul_le_mul_right 4 e4
    omega

theorem Tur.set {B0 zb g : Nat} {w : World} {cur : Array Value} (hg : w.heap[g]? = some (.cells cur 52 (0, 0))) (h1 : B0 ≤ g) (h2 : g ≠ zb) (j : Nat) (u : Value) : Tur B0 zb w (w.setCell ⟨g, j, none⟩ u) ∧ ∃ cur' : Array Value, (w.setCell ⟨g, j, none⟩ u).heap[g]? = some (.cells cur' 52 (0, 0)) := by
  refine ⟨⟨rfl, rfl, rfl, by simp, fun k hk => ?_⟩, ⟨_, heap_setCell_same w g j cur _ u hg⟩⟩
  by_cases e : k = g
  · subst e
    exact .inr ⟨h1, h2, cur, _, hg, heap_setCell_same w k j cur _ u hg, by simp⟩
  · exact .inl (heap_setCell_other w ⟨g, j, none⟩ k u e)

theorem Tur.set4 {B0 zb g : Nat} {w : World} {cur : Array Value} (hg : w.heap[g]? = some (.cells cur 52 (0, 0))) (h1 : B0 ≤ g) (h2 : g ≠ zb) (j0 j1 j2 j3 : Nat) (u0 u1 u2 u3 : Value) : Tur B0 zb w ((((w.setCell ⟨g, j0, none⟩ u0).setCell ⟨g, j1, none⟩ u1).setCell ⟨g, j2, none⟩ u2).setCell ⟨g, j3, none⟩ u3) := by
  obtain ⟨t1, c1, k1⟩ := Tur.set hg h1 h2 j0 u0
  obtain ⟨t2, c2, k2⟩ := Tur.set k1 h1 h2 j1 u1
  obtain ⟨t3, c3, k3⟩ := Tur.set k2 h1 h2 j2 u2
  obtain ⟨t4, _⟩ := Tur.set k3 h1 h2 j3 u3
  exact ((t1.trans t2).trans t3).trans t4

/-- A row's cells, to be written. -/
theorem RowZ.open {w : World} {B0 zb m i : Nat} {s : Value} (h : RowZ w B0 zb s m) (hi : i < m) : ∃ g cap cur, s = .slice (some ⟨g, 0, none⟩) m cap ∧ B0 ≤ g ∧ g ≠ zb ∧ m ≤ cap ∧ g < w.heap.size ∧ w.heap[g]? = some (.cells cur 52 (0, 0)) ∧ (∃ q, w.cell? ⟨g, i * 4, none⟩ = some q) ∧ (∃ q, w.cell? ⟨g, i * 4 + 1, none⟩ = some q) ∧ (∃ q, w.cell? ⟨g, i * 4 + 2, none⟩ = some q) ∧ (∃ q, w.cell? ⟨g, i * 4 + 3, none⟩ = some q) ∧ (∀ j, w.frozen? ⟨g, j, none⟩ = false) := by
  obtain ⟨xs, h1, h2⟩ := h.1
  rcases h2 with ⟨_, h2⟩ | ⟨g, cap, cur, e1, e2, e3, e4, e5, e6, e7⟩
  · omega
  · subst e1
    have hc : ∀ j, j < cur.size → ∃ q, w.cell? ⟨g, j, none⟩ = some q := fun j hj => ⟨cur[j], by rw [cell_of_row w g j cur _ _ e3]; exact Array.getElem?_eq_getElem hj⟩
    have hsz : i * 4 + 3 < cur.size := by
      rw [e6]
      omega
    refine ⟨g, cap, cur, rfl, e2, fun e => h.2 (by rw [← e]; rfl), e4, (Array.getElem?_eq_some_iff.1 e3).1, e3, hc _ (by omega), hc _ (by omega), hc _ (by omega), hc _ hsz, fun j => by simp [World.frozen?, e3]⟩

theorem regInfo : (Try.prog.info? 69).map (fun i => (i.zero, i.size, i.bytes)) = some (some (.slice none 0 0), 1, 24) := by kernel_rfl

end Go.Proofs.Ytofinpocigbbeaa
