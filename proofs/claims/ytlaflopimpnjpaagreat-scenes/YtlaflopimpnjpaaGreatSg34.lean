import Derived.Test.YtlaflopimpnjpaaGreatSg33
import Derived.Test.YtlaflopimpnjpaaGreatSg21
import Derived.BigQuiet
/-! BovE -/
namespace Go.Proofs.YtlaflopimpnjpaaGreat
open Go.RowKit
attribute [local go_sem ↓] Go.wp_at_zero Go.wp_at_succ

/-- Rows from B0 on may be written over, but for one; nothing else is. -/
structure TurV (B0 zb : Nat) (w w' : World) : Prop where
  os : w'.os = w.os
  tape : w'.tape = w.tape
  output : w'.output = w.output
  size : w.heap.size ≤ w'.heap.size
  block : ∀ g, g < w.heap.size → w'.heap[g]? = w.heap[g]? ∨ (B0 ≤ g ∧ g ≠ zb ∧ ∃ cur cur' : Array Value, w.heap[g]? = some (.cells cur 63 (0, 0)) ∧ w'.heap[g]? = some (.cells cur' 63 (0, 0)) ∧ cur'.size = cur.size)

theorem TurV.refl (B0 zb : Nat) (w : World) : TurV B0 zb w w := ⟨rfl, rfl, rfl, Nat.le_refl _, fun _ _ => .inl rfl⟩

theorem TurV.trans {B0 zb : Nat} {a b c : World} (h : TurV B0 zb a b) (k : TurV B0 zb b c) : TurV B0 zb a c := by
  refine ⟨k.os.trans h.os, k.tape.trans h.tape, k.output.trans h.output, Nat.le_trans h.size k.size, fun g hg => ?_⟩
  rcases h.block g hg with h1 | ⟨h1, h2, c1, c2, h3, h4, h5⟩
  · rcases k.block g (Nat.lt_of_lt_of_le hg h.size) with k1 | ⟨k1, k2, d1, d2, k3, k4, k5⟩
    · exact .inl (k1.trans h1)
    · exact .inr ⟨k1, k2, d1, d2, by rw [← h1]; exact k3, k4, k5⟩
  · rcases k.block g (Nat.lt_of_lt_of_le hg h.size) with k1 | ⟨k1, k2, d1, d2, k3, k4, k5⟩
    · exact .inr ⟨h1, h2, c1, c2, h3, by rw [k1]; exact h4, h5⟩
    · rw [h4] at k3
      injection k3 with k3
      injection k3 with k3
      subst k3
      exact .inr ⟨h1, h2, c1, d2, h3, k4, k5.trans h5⟩

theorem TurV.below {B0 zb : Nat} {w w' : World} (h : TurV B0 zb w w') (hB : B0 ≤ w.heap.size) : Below B0 w w' :=
  ⟨h.os, h.tape, h.output, h.size, fun k hk => by
    rcases h.block k (by omega) with h1 | ⟨h1, _⟩
    · exact h1
    · omega⟩

theorem TurV.drew {B0 zb : Nat} {w w' : World} (h : TurV B0 zb w w') (n : Nat) : TurV B0 zb w (w'.drewN n) := ⟨h.os, h.tape, h.output, h.size, h.block⟩

/-- What is no row of views is as it was. -/
theorem TurV.other {B0 zb g : Nat} {w w' : World} {cur : Array Value} {t : TypeId} {q : Nat × Nat} (h : TurV B0 zb w w') (hg : w.heap[g]? = some (.cells cur t q)) (ht : t ≠ 63) : w'.heap[g]? = some (.cells cur t q) := by
  rcases h.block g (Array.getElem?_eq_some_iff.1 hg).1 with h1 | ⟨_, _, c1, c2, h3, _, _⟩
  · rw [h1]; exact hg
  · rw [hg] at h3
    injection h3 with h3
    injection h3 with _ h3
    exact absurd h3 ht

theorem TurV.keep {B0 zb : Nat} {w w' : World} (h : TurV B0 zb w w') (hg : zb < w.heap.size) : w'.heap[zb]? = w.heap[zb]? := by
  rcases h.block zb hg with h1 | ⟨_, h2, _⟩
  · exact h1
  · exact absurd rfl h2

theorem TurV.row {B0 zb m : Nat} {w w' : World} {s : Value} (h : TurV B0 zb w w') (hs : RowZV w B0 zb s m) : RowZV w' B0 zb s m := by
  refine ⟨?_, hs.2⟩
  obtain ⟨xs, h1, h2⟩ := hs.1
  rcases h2 with h2 | ⟨g, cap, cur, e1, e2, e3, e4, e5, e6, e7⟩
  · exact ⟨xs, h1, .inl h2⟩
  · have : ∃ cur' : Array Value, w'.heap[g]? = some (.cells cur' 63 (0, 0)) ∧ cur'.size = cur.size := by
      rcases h.block g (Array.getElem?_eq_some_iff.1 e3).1 with k | ⟨_, _, c1, c2, k3, k4, k5⟩
      · exact ⟨cur, by rw [k]; exact e3, rfl⟩
      · rw [e3] at k3
        injection k3 with k3
        injection k3 with k3
        subst k3
        exact ⟨c2, k4, k5⟩
    obtain ⟨cur', k1, k2⟩ := this
    refine ⟨cur'.toList.take (m * 9), ?_, .inr ⟨g, cap, cur', e1, e2, k1, e4, e5, by rw [k2, e6], rfl⟩⟩
    rw [List.length_take, Array.length_toList, k2, e6]
    have := Nat.mul_le_mul_right 9 e4
    omega

theorem TurV.set {B0 zb g : Nat} {w : World} {cur : Array Value} (hg : w.heap[g]? = some (.cells cur 63 (0, 0))) (h1 : B0 ≤ g) (h2 : g ≠ zb) (j : Nat) (u : Value) : TurV B0 zb w (w.setCell ⟨g, j, none⟩ u) ∧ ∃ cur' : Array Value, (w.setCell ⟨g, j, none⟩ u).heap[g]? = some (.cells cur' 63 (0, 0)) := by
  refine ⟨⟨rfl, rfl, rfl, by simp, fun k hk => ?_⟩, ⟨_, heap_setCell_same w g j cur _ u hg⟩⟩
  by_cases e : k = g
  · subst e
    exact .inr ⟨h1, h2, cur, _, hg, heap_setCell_same w k j cur _ u hg, by simp⟩
  · exact .inl (heap_setCell_other w ⟨g, j, none⟩ k u e)

theorem TurV.set9 {B0 zb g : Nat} {w : World} {cur : Array Value} (hg : w.heap[g]? = some (.cells cur 63 (0, 0))) (h1 : B0 ≤ g) (h2 : g ≠ zb) (j0 j1 j2 j3 j4 j5 j6 j7 j8 : Nat) (u0 u1 u2 u3 u4 u5 u6 u7 u8 : Value) : TurV B0 zb w (((((((((w.setCell ⟨g, j0, none⟩ u0).setCell ⟨g, j1, none⟩ u1).setCell ⟨g, j2, none⟩ u2).setCell ⟨g, j3, none⟩ u3).setCell ⟨g, j4, none⟩ u4).setCell ⟨g, j5, none⟩ u5).setCell ⟨g, j6, none⟩ u6).setCell ⟨g, j7, none⟩ u7).setCell ⟨g, j8, none⟩ u8) := by
  obtain ⟨t0, c0, k0⟩ := TurV.set hg h1 h2 j0 u0
  obtain ⟨t1, c1, k1⟩ := TurV.set k0 h1 h2 j1 u1
  obtain ⟨t2, c2, k2⟩ := TurV.set k1 h1 h2 j2 u2
  obtain ⟨t3, c3, k3⟩ := TurV.set k2 h1 h2 j3 u3
  obtain ⟨t4, c4, k4⟩ := TurV.set k3 h1 h2 j4 u4
  obtain ⟨t5, c5, k5⟩ := TurV.set k4 h1 h2 j5 u5
  obtain ⟨t6, c6, k6⟩ := TurV.set k5 h1 h2 j6 u6
  obtain ⟨t7, c7, k7⟩ := TurV.set k6 h1 h2 j7 u7
  obtain ⟨t8, c8, k8⟩ := TurV.set k7 h1 h2 j8 u8
  exact ((((((((t0.trans t1).trans t2).trans t3).trans t4).trans t5).trans t6).trans t7).trans t8)

/-- A row's cells, to be written. -/
theorem RowZV.open {w : World} {B0 zb m i : Nat} {s : Value} (h : RowZV w B0 zb s m) (hi : i < m) : ∃ g cap cur, s = .slice (some ⟨g, 0, none⟩) m cap ∧ B0 ≤ g ∧ g ≠ zb ∧ m ≤ cap ∧ g < w.heap.size ∧ w.heap[g]? = some (.cells cur 63 (0, 0)) ∧ (∃ q, w.cell? ⟨g, i * 9, none⟩ = some q) ∧ (∃ q, w.cell? ⟨g, i * 9 + 1, none⟩ = some q) ∧ (∃ q, w.cell? ⟨g, i * 9 + 2, none⟩ = some q) ∧ (∃ q, w.cell? ⟨g, i * 9 + 3, none⟩ = some q) ∧ (∃ q, w.cell? ⟨g, i * 9 + 4, none⟩ = some q) ∧ (∃ q, w.cell? ⟨g, i * 9 + 5, none⟩ = some q) ∧ (∃ q, w.cell? ⟨g, i * 9 + 6, none⟩ = some q) ∧ (∃ q, w.cell? ⟨g, i * 9 + 7, none⟩ = some q) ∧ (∃ q, w.cell? ⟨g, i * 9 + 8, none⟩ = some q) ∧ (∀ j, w.frozen? ⟨g, j, none⟩ = false) := by
  obtain ⟨xs, h1, h2⟩ := h.1
  rcases h2 with ⟨_, h2⟩ | ⟨g, cap, cur, e1, e2, e3, e4, e5, e6, e7⟩
  · omega
  · subst e1
    have hc : ∀ j, j < cur.size → ∃ q, w.cell? ⟨g, j, none⟩ = some q := fun j hj => ⟨cur[j], by rw [cell_of_row w g j cur _ _ e3]; exact Array.getElem?_eq_getElem hj⟩
    have hsz : i * 9 + 8 < cur.size := by
      rw [e6]
      omega
    exact ⟨g, cap, cur, rfl, e2, fun e => h.2 (by rw [← e]; rfl), e4, (Array.getElem?_eq_some_iff.1 e3).1, e3, hc _ (by omega), hc _ (by omega), hc _ (by omega), hc _ (by omega), hc _ (by omega), hc _ (by omega), hc _ (by omega), hc _ (by omega), hc _ (by omega), fun j => by simp [World.frozen?, e3]⟩

/-- View j of block g is the mark of list N. -/
def Done (N : Nat) (w : World) (g j : Nat) : Prop := ∀ o, o < 9 → w.cell? ⟨g, j * 9 + o, none⟩ = (zV N)[o]?

/-- The marks that are there stay. -/
def Stays (N : Nat) (w w' : World) : Prop := ∀ g j, Done N w g j → Done N w' g j

theorem Stays.refl (N : Nat) (w : World) : Stays N w w := fun _ _ h => h
theorem Stays.trans {N : Nat} {a b c : World} (h : Stays N a b) (k : Stays N b c) : Stays N a c := fun g j hd => k g j (h g j hd)
theorem Stays.drew {N : Nat} {w w' : World} (h : Stays N w w') : Stays N w w'.drew := h

/-- A mark is written. -/
theorem mark_set {N q i : Nat} {w : World} {cur : Array Value} (hq : w.heap[q]? = some (.cells cur 63 (0, 0))) (hsz : i * 9 + 8 < cur.size) :
    Stays N w (((((((((w.setCell ⟨q, i * 9, none⟩ (.int .i64 (-7070))).setCell ⟨q, i * 9 + 1, none⟩ (.int .i64 0)).setCell ⟨q, i * 9 + 2, none⟩ (.int .i64 0)).setCell ⟨q, i * 9 + 3, none⟩ (.int .i64 (N : Int))).setCell ⟨q, i * 9 + 4, none⟩ (.int .i64 0)).setCell ⟨q, i * 9 + 5, none⟩ (.int .i64 0)).setCell ⟨q, i * 9 + 6, none⟩ (.int .i64 0)).setCell ⟨q, i * 9 + 7, none⟩ (.int .i64 0)).setCell ⟨q, i * 9 + 8, none⟩ (.int .i64 0)) ∧ Done N (((((((((w.setCell ⟨q, i * 9, none⟩ (.int .i64 (-7070))).setCell ⟨q, i * 9 + 1, none⟩ (.int .i64 0)).setCell ⟨q, i * 9 + 2, none⟩ (.int .i64 0)).setCell ⟨q, i * 9 + 3, none⟩ (.int .i64 (N : Int))).setCell ⟨q, i * 9 + 4, none⟩ (.int .i64 0)).setCell ⟨q, i * 9 + 5, none⟩ (.int .i64 0)).setCell ⟨q, i * 9 + 6, none⟩ (.int .i64 0)).setCell ⟨q, i * 9 + 7, none⟩ (.int .i64 0)).setCell ⟨q, i * 9 + 8, none⟩ (.int .i64 0)) q i := by
  obtain ⟨W, hW⟩ : ∃ W, (((((((((w.setCell ⟨q, i * 9, none⟩ (.int .i64 (-7070))).setCell ⟨q, i * 9 + 1, none⟩ (.int .i64 0)).setCell ⟨q, i * 9 + 2, none⟩ (.int .i64 0)).setCell ⟨q, i * 9 + 3, none⟩ (.int .i64 (N : Int))).setCell ⟨q, i * 9 + 4, none⟩ (.int .i64 0)).setCell ⟨q, i * 9 + 5, none⟩ (.int .i64 0)).setCell ⟨q, i * 9 + 6, none⟩ (.int .i64 0)).setCell ⟨q, i * 9 + 7, none⟩ (.int .i64 0)).setCell ⟨q, i * 9 + 8, none⟩ (.int .i64 0)) = W := ⟨_, rfl⟩
  have hb : W.heap[q]? = some (.cells (((((((((cur.setIfInBounds (i * 9) (.int .i64 (-7070))).setIfInBounds (i * 9 + 1) (.int .i64 0)).setIfInBounds (i * 9 + 2) (.int .i64 0)).setIfInBounds (i * 9 + 3) (.int .i64 (N : Int))).setIfInBounds (i * 9 + 4) (.int .i64 0)).setIfInBounds (i * 9 + 5) (.int .i64 0)).setIfInBounds (i * 9 + 6) (.int .i64 0)).setIfInBounds (i * 9 + 7) (.int .i64 0)).setIfInBounds (i * 9 + 8) (.int .i64 0)) 63 (0, 0)) := by
    rw [← hW]
    exact (heap_setCell_same _ q (i * 9 + 8) _ _ _ (heap_setCell_same _ q (i * 9 + 7) _ _ _ (heap_setCell_same _ q (i * 9 + 6) _ _ _ (heap_setCell_same _ q (i * 9 + 5) _ _ _ (heap_setCell_same _ q (i * 9 + 4) _ _ _ (heap_setCell_same _ q (i * 9 + 3) _ _ _ (heap_setCell_same _ q (i * 9 + 2) _ _ _ (heap_setCell_same _ q (i * 9 + 1) _ _ _ (heap_setCell_same _ q (i * 9) _ _ _ hq)))))))))
  have ho : ∀ k, k ≠ q → W.heap[k]? = w.heap[k]? := fun k hk => by
    rw [← hW]
    rw [heap_setCell_other _ ⟨q, i * 9 + 8, none⟩ k _ hk, heap_setCell_other _ ⟨q, i * 9 + 7, none⟩ k _ hk, heap_setCell_other _ ⟨q, i * 9 + 6, none⟩ k _ hk, heap_setCell_other _ ⟨q, i * 9 + 5, none⟩ k _ hk, heap_setCell_other _ ⟨q, i * 9 + 4, none⟩ k _ hk, heap_setCell_other _ ⟨q, i * 9 + 3, none⟩ k _ hk, heap_setCell_other _ ⟨q, i * 9 + 2, none⟩ k _ hk, heap_setCell_other _ ⟨q, i * 9 + 1, none⟩ k _ hk, heap_setCell_other _ ⟨q, i * 9, none⟩ k _ hk]
  rw [hW]
  have hd : Done N W q i := fun o ho9 => by
    rw [cell_of_row W q _ _ _ _ hb]
    match o, ho9 with
    | 0, _ => simp [zV, Array.getElem?_setIfInBounds]; omega
    | 1, _ => simp [zV, Array.getElem?_setIfInBounds]; omega
    | 2, _ => simp [zV, Array.getElem?_setIfInBounds]; omega
    | 3, _ => simp [zV, Array.getElem?_setIfInBounds]; omega
    | 4, _ => simp [zV, Array.getElem?_setIfInBounds]; omega
    | 5, _ => simp [zV, Array.getElem?_setIfInBounds]; omega
    | 6, _ => simp [zV, Array.getElem?_setIfInBounds]; omega
    | 7, _ => simp [zV, Array.getElem?_setIfInBounds]; omega
    | 8, _ => simp [zV, Array.getElem?_setIfInBounds]; omega
  refine ⟨fun g j h => ?_, hd⟩
  by_cases e : g = q
  · subst e
    by_cases ej : j = i
    · subst ej
      exact hd
    · intro o ho9
      have h1 := h o ho9
      rw [cell_of_row w g _ _ _ _ hq] at h1
      rw [cell_of_row W g _ _ _ _ hb, ← h1]
      repeat rw [Array.getElem?_setIfInBounds_ne (by omega)]
  · intro o ho9
    rw [World.cell?_of_block (ho g e)]
    exact h o ho9

theorem scnInfo : (Tryz.prog.info? 60).map (fun i => (i.zero, i.size, i.bytes)) = some (some (.slice none 0 0), 1, 24) := by kernel_rfl

end Go.Proofs.YtlaflopimpnjpaaGreat

/-! Whl -/
namespace Go.Proofs.YtlaflopimpnjpaaGreat
open Go.RowKit
attribute [local go_sem ↓] Go.wp_at_zero Go.wp_at_succ

/-- The mark of list i, in memory. -/
def zC (i : Nat) : List Value := [.int .i64 (-7070), .int .i64 0, .int .i64 0, .int .i64 (i : Int), .int .i64 0, .int .i64 0, .int .i64 0, .int .i64 0, .int .i64 0]

/-- A list that reads full of the marks of list i. -/
def MarkV (w : World) (v : Value) (i : Nat) : Prop :=
  ∃ a m c, v = .slice a m c ∧ m ≤ 1152921504606846976 ∧ (0 < m → ∃ b, a = some ⟨b, 0, none⟩ ∧ ∀ j, j < m → ∀ o, o < 9 → w.cell? ⟨b, j * 9 + o, none⟩ = (zC i)[o]?)

/-- Such a list, four times. -/
def QuadV (w : World) (v : Value) (i : Nat) : Prop :=
  ∃ g c, v = .slice (some ⟨g, 0, none⟩) 4 c ∧ ∀ k, k < 4 → ∃ u, w.cell? ⟨g, k, none⟩ = some u ∧ MarkV w u i

/-- The book: no rectangles, no pixels, n lists of views. -/
def BookV (w : World) (B o n : Nat) : Prop :=
  w.cell? ⟨B, o, none⟩ = some (.slice none 0 0) ∧ w.cell? ⟨B, o + 1, none⟩ = some (.slice none 0 0) ∧ ∃ a c, w.cell? ⟨B, o + 2, none⟩ = some (.slice a n c) ∧ (0 < n → ∃ r, a = some ⟨r, 0, none⟩ ∧ ∀ i, i < n → ∃ v, w.cell? ⟨r, i, none⟩ = some v ∧ QuadV w v i)

theorem below_cell {w wr : World} (h : Below w.heap.size w wr) {b j : Nat} {v : Value} (hc : w.cell? ⟨b, j, none⟩ = some v) : wr.cell? ⟨b, j, none⟩ = some v :=
  (World.cell?_of_block (h.block b (cell_lt hc))).trans hc

set_option maxRecDepth 100000 in
set_option maxHeartbeats 2000000 in
/-- (*book).whole -/
theorem whole_any {B o n : Nat} (w : World) (h : BookV w B o n) (hn : n ≤ 1152921504606846976) :
    Calls Tryz.prog 6 #[.pointer (some ⟨B, o, none⟩)] w fun e w' => e = .returned (.bool true) ∧ Below w.heap.size w w' := by
  obtain ⟨c0, c1, a, c, c2, hq⟩ := h
  have HQ := hide hq
  clear hq
  go_enter Tryz.func6, Tryz.ntmps6
  go_wp2
  go_loopg [3] 0 (fun gg s wr => s = .int .i64 0 ∧ w = wr)
  case atStart => exact ⟨rfl, rfl⟩
  case round =>
  obtain ⟨rfl, rfl⟩ := hrel
  go_wp2
  go_loopg [7] 0 (fun gg s wr => s = .int .i64 0 ∧ w = wr)
  case atStart => exact ⟨rfl, rfl⟩
  case round =>
  obtain ⟨rfl, rfl⟩ := hrel
  go_wp2
  go_loopg [11] n (fun gg s wr => ∃ i : Nat, s = .int .i64 i ∧ gg + i = n ∧ Below w.heap.size w wr)
  case atStart => exact ⟨0, rfl, by omega, Below.refl _ _⟩
  case round =>
  rename World => wr
  obtain ⟨i, rfl, hgi, hb⟩ := hrel
  have d2 := below_cell hb c2
  have HB := hide hb
  clear hb
  cases gk with
  | zero =>
    have hlt : ¬ (i : Int) < (n : Int) := by omega
    go_wp2
    go_ret
    exact ⟨rfl, HB.out⟩
  | succ g1 =>
  have hlt : (i : Int) < (n : Int) := by omega
  obtain ⟨r, hr, hv⟩ := HQ.out (by omega)
  subst hr
  obtain ⟨v, cv, q, qc, rfl, hk⟩ := hv i (by omega)
  clear hv
  have HK := hide hk
  clear hk
  go_wp2
  clear d2
  go_loopg [12] 4 (fun gg s w1 => ∃ k : Nat, s = .int .i64 k ∧ gg + k = 4 ∧ Below w.heap.size w w1)
  case atStart => exact ⟨0, rfl, by omega, HB.out⟩
  case round =>
  rename World => w1
  obtain ⟨k, rfl, hgk, hb1⟩ := hrel
  have e2 := below_cell hb1 c2
  have e3 := below_cell hb1 cv
  have HB1 := hide hb1
  clear hb1
  cases gk with
  | zero =>
    have hlt1 : ¬ (k : Int) < 4 := by omega
    go_wp2
    go_roundg g1
    case measure => omega
    case rel => exact ⟨i + 1, by go_num, by omega, HB1.out⟩
  | succ g2 =>
  have hlt1 : (k : Int) < 4 := by omega
  obtain ⟨u, cu, ma, m, mc, rfl, hm64, hmc⟩ := HK.out k (by omega)
  have HM := hide hmc
  clear hmc
  have e4 := below_cell HB1.out cu
  go_wp2
  clear e2 e3 e4
  go_loopg [13] m (fun gg s w2 => ∃ j : Nat, s = .int .i64 j ∧ gg + j = m ∧ Below w.heap.size w w2)
  case atStart => exact ⟨0, rfl, by omega, HB1.out⟩
  case round =>
  rename World => w2
  obtain ⟨j, rfl, hgj, hb2⟩ := hrel
  have f2 := below_cell hb2 c2
  have f3 := below_cell hb2 cv
  have f4 := below_cell hb2 cu
  have HB2 := hide hb2
  clear hb2
  cases gk with
  | zero =>
    have hlt2 : ¬ (j : Int) < (m : Int) := by omega
    go_wp2
    go_roundg g2
    case measure => omega
    case rel => exact ⟨k + 1, by go_num, by omega, HB2.out⟩
  | succ g3 =>
  have hlt2 : (j : Int) < (m : Int) := by omega
  obtain ⟨b, hma, hz⟩ := HM.out (by omega)
  subst hma
  have z0 := below_cell HB2.out ((hz j (by omega) 0 (by omega)).trans rfl)
  have z1 := below_cell HB2.out ((hz j (by omega) 1 (by omega)).trans rfl)
  have z2 := below_cell HB2.out ((hz j (by omega) 2 (by omega)).trans rfl)
  have z3 := below_cell HB2.out ((hz j (by omega) 3 (by omega)).trans rfl)
  have z4 := below_cell HB2.out ((hz j (by omega) 4 (by omega)).trans rfl)
  have z5 := below_cell HB2.out ((hz j (by omega) 5 (by omega)).trans rfl)
  have z6 := below_cell HB2.out ((hz j (by omega) 6 (by omega)).trans rfl)
  have z7 := below_cell HB2.out ((hz j (by omega) 7 (by omega)).trans rfl)
  have z8 := below_cell HB2.out ((hz j (by omega) 8 (by omega)).trans rfl)
  simp only [Nat.add_zero] at z0
  have hs2 : w.heap.size ≤ w2.heap.size := HB2.out.size
  clear hz
  go_wp2
  go_roundg g3
  case measure => omega
  case rel => exact ⟨j + 1, by go_num, by omega, HB2.out.alloc hs2 _⟩

end Go.Proofs.YtlaflopimpnjpaaGreat
