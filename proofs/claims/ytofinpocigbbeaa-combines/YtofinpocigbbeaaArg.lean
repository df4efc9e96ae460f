import Derived.Test.YtofinpocigbbeaaOfs
import Derived.ProofKit
import Derived.OpenShut
import Derived.Deep.Slices
import Derived.Lib.SmallJoins
namespace Go.Proofs.Ytofinpocigbbeaa
open Go.RowKit Go.ChangeShapes Go.WideShapes Go.ChangeAt Go.Deep

theorem arg_own : ownKnob Try.prog.godebug = none := by kernel_rfl
theorem arg_laidOut : laidOutB Try.prog = true := by kernel_rfl
theorem cellsInt : Try.prog.cellsOf 3 = 1 := by kernel_rfl
theorem cellsRect : Try.prog.cellsOf 52 = 4 := by kernel_rfl

theorem int64 {x : Int} (h : (Lit.int .i64 x).wf = true) : -9223372036854775808 ≤ x ∧ x ≤ 9223372036854775807 := by
  have := bounds_i64 h
  omega

/-- A number that came in fits. -/
def fits64 (x : Int) : Prop := -9223372036854775808 ≤ x ∧ x ≤ 9223372036854775807

theorem add_off (b off o : Nat) : (⟨b, off, none⟩ : Addr).add o = ⟨b, off + o, none⟩ := by unfold Addr.add; split <;> simp_all

theorem choose_list (n : Nat) (Q : Nat → (Int × Int × Int × Int) → Prop) (h : ∀ i, i < n → ∃ r, Q i r) : ∃ l : List (Int × Int × Int × Int), l.length = n ∧ ∀ i (hi : i < l.length), Q i l[i] := by
  induction n with
  | zero => exact ⟨[], rfl, fun i hi => by simp at hi⟩
  | succ n ih =>
    obtain ⟨l, hl, hq⟩ := ih fun i hi => h i (by omega)
    obtain ⟨r, hr⟩ := h n (by omega)
    refine ⟨l ++ [r], by simp [hl], fun i hi => ?_⟩
    by_cases e : i < l.length
    · rw [List.getElem_append_left e]; exact hq i e
    · have : i = l.length := by simp at hi; omega
      subst this
      rw [List.getElem_append_right (by omega)]
      simp
      rw [hl]; exact hr

set_option maxRecDepth 100000 in
set_option maxHeartbeats 1000000 in
/-- A slice of rectangles that came in. -/
theorem open_rects {H : Type} {enc : TypeId × Value → H} {W : World} {base : Nat} {v : Value} {d : DataW H} {p : List MemPlace}
    (hv : Value.okWide Try.prog W .any base 22 v) (h : DataW.Trod enc Try.prog W 0 (fun _ => true) true 22 v d p) :
    ∃ l : List (Int × Int × Int × Int), RectsAt W v l ∧ l.length ≤ maxLen ∧ ∀ r ∈ l, fits64 r.1 ∧ fits64 r.2.1 ∧ fits64 r.2.2.1 ∧ fits64 r.2.2.2 := by
  obtain ⟨x, ln, cp, rfl⟩ := okWide_slice Try.underlying22 hv
  obtain ⟨fuel, hf⟩ := h
  rcases open_slice Try.underlying22 hf with ⟨hcs, _⟩ | ⟨a, len, cap, m, n, D, Pl, hcs, _, hl, hm, hmm, _, hx⟩
  · simp [Value.cells] at hcs
    obtain ⟨rfl, rfl, rfl⟩ := hcs
    exact ⟨[], ⟨none, 0, rfl, fun h => by simp at h⟩, by simp, fun r hr => by simp at hr⟩
  · simp [Value.cells] at hcs
    obtain ⟨rfl, rfl, rfl⟩ := hcs
    have hm' : m = cp := by simpa using hmm
    subst hm'
    obtain ⟨b, off, spot⟩ := a
    have each : ∀ i, i < ln → ∃ r : Int × Int × Int × Int, (W.cell? ((⟨b, off, spot⟩ : Addr).add (i * 4)) = some (.int .i64 r.1) ∧ W.cell? ((⟨b, off, spot⟩ : Addr).add (i * 4 + 1)) = some (.int .i64 r.2.1) ∧ W.cell? ((⟨b, off, spot⟩ : Addr).add (i * 4 + 2)) = some (.int .i64 r.2.2.1) ∧ W.cell? ((⟨b, off, spot⟩ : Addr).add (i * 4 + 3)) = some (.int .i64 r.2.2.2)) ∧ fits64 r.1 ∧ fits64 r.2.1 ∧ fits64 r.2.2.1 ∧ fits64 r.2.2.2 := by
      intro i hi
      obtain ⟨cs', h1, h2⟩ := hx i (by omega)
      rw [cellsRect] at h1
      obtain ⟨_, hlen, hcell⟩ := World.cells?_some h1
      obtain ⟨y0, y1, y2, y3, k, _, _, g0, g1, g2, g3⟩ := Go.Joins.trod_struct4 Try.underlying52 h2
      match cs', hlen with
      | [v0, v1, v2, v3], _ =>
        simp [cellsInt] at g0 g1 g2 g3
        obtain ⟨x0, e0, _, w0⟩ := DataW.trod_int Try.underlying3 g0
        obtain ⟨x1, e1, _, w1⟩ := DataW.trod_int Try.underlying3 g1
        obtain ⟨x2, e2, _, w2⟩ := DataW.trod_int Try.underlying3 g2
        obtain ⟨x3, e3, _, w3⟩ := DataW.trod_int Try.underlying3 g3
        simp at e0 e1 e2 e3
        subst e0 e1 e2 e3
        have q0 := hcell 0 (by omega)
        have q1 := hcell 1 (by omega)
        have q2 := hcell 2 (by omega)
        have q3 := hcell 3 (by omega)
        rw [add_add] at q0 q1 q2 q3
        exact ⟨(x0, x1, x2, x3), ⟨by simpa using q0, by simpa using q1, by simpa using q2, by simpa using q3⟩, int64 w0, int64 w1, int64 w2, int64 w3⟩
    obtain ⟨l, hll, hq⟩ := choose_list ln _ each
    subst hll
    refine ⟨l, ⟨_, m, rfl, fun hpos => ?_⟩, by omega, fun r hr => ?_⟩
    · have hs : spot = none := by
        have := (hq 0 hpos).1.1
        simpa [Addr.add] using World.cell?_spot this
      subst hs
      refine ⟨b, off, rfl, fun k hk => ?_⟩
      obtain ⟨⟨a1, a2, a3, a4⟩, _⟩ := hq k hk
      rw [add_off] at a1 a2 a3 a4
      exact ⟨a1, a2, a3, a4⟩
    · obtain ⟨i, hi, rfl⟩ := List.getElem_of_mem hr
      exact (hq i hi).2

end Go.Proofs.Ytofinpocigbbeaa
