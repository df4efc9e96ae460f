import Derived.Test.YtofinpocigbbeaaGreatKaf
import Derived.ProofKit
import Derived.OpenShut
import Derived.Deep.Slices
import Derived.Lib.SmallJoins
import Derived.Test.YtofinpocigbbeaaGreatKbs
namespace Go.Proofs.YtofinpocigbbeaaGreat
open Go.RowKit Go.ChangeShapes Go.WideShapes Go.ChangeAt Go.Deep

theorem arg_own : ownKnob Tryz.prog.godebug = none := by kernel_rfl
theorem arg_laidOut : laidOutB Tryz.prog = true := by kernel_rfl
theorem cellsInt : Tryz.prog.cellsOf 3 = 1 := by kernel_rfl
theorem cellsRect : Tryz.prog.cellsOf 53 = 4 := by kernel_rfl

theorem int64 {x : Int} (h : (Lit.int .i64 x).wf = true) : -9223372036854775808 ≤ x ∧ x ≤ 9223372036854775807 := by
  have := bounds_i64 h
  omega

/-- A number that came in fits. -/
def fits64 (x : Int) : Prop := -9223372036854775808 ≤ x ∧ x ≤ 9223372036854775807

theorem add_off (b off o : Nat) : (⟨b, off, none⟩ : Addr).add o = ⟨b, off + o, none⟩ := by unfold Addr.add; split <;> simp_all

theorem choose_list (n : Nat) (Q : Nat → (Int × Int × Int × Int) → Prop) (h : ∀ i, i < n → ∃ r, Q i r) : ∃ l : List (Int × Int × Int × Int), l.length = n ∧ ∀ i (hi : i < l.length), Q i l[i] := by
  induction n with
  | zero => exact ⟨[], rfl, fun i hi => by simp at hi⟩
  | succ n ih =>
    obtain ⟨l, hl, hq⟩ := ih fun i hi => h i (by omega)
    obtain ⟨r, hr⟩ := h n (by omega)
    refine ⟨l ++ [r], by simp [hl], fun i hi => ?_⟩
    by_cases e : i < l.length
    · rw [List.getElem_append_left e]; exact hq i e
    · have : i = l.length := by simp at hi; omega
      subst this
      rw [List.getElem_append_right (by omega)]
      simp
      rw [hl]; exact hr

set_option maxRecDepth 100000 in
set_option maxHeartbeats 1000000 in
/-- A slice of rectangles that came in. -/
theorem open_rects {H : Type} {enc : TypeId × Value → H} {W : World} {base : Nat} {v : Value} {d : DataW H} {p : List MemPlace}
    (hv : Value.okWide Tryz.prog W .any base 33 v) (h : DataW.Trod enc Tryz.prog W 0 (fun _ => true) true 33 v d p) :
    ∃ l : List (Int × Int × Int × Int), RectsAt W v l ∧ l.length ≤ maxLen ∧ ∀ r ∈ l, fits64 r.1 ∧ fits64 r.2.1 ∧ fits64 r.2.2.1 ∧ fits64 r.2.2.2 := by
  obtain ⟨x, ln, cp, rfl⟩ := okWide_slice Tryz.underlying33 hv
  obtain ⟨fuel, hf⟩ := h
  rcases open_slice Tryz.underlying33 hf with ⟨hcs, _⟩ | ⟨a, len, cap, m, n, D, Pl, hcs, _, hl, hm, hmm, _, hx⟩
  · simp [Value.cells] at hcs
    obtain ⟨rfl, rfl, rfl⟩ := hcs
    exact ⟨[], ⟨none, 0, rfl, fun h => by simp at h⟩, by simp, fun r hr => by simp at hr⟩
  · simp [Value.cells] at hcs
    obtain ⟨rfl, rfl, rfl⟩ := hcs
    have hm' : m = cp := by simpa using hmm
    subst hm'
    obtain ⟨b, off, spot⟩ := a
    have each : ∀ i, i < ln → ∃ r : Int × Int × Int × Int, (W.cell? ((⟨b, off, spot⟩ : Addr).add (i * 4)) = some (.int .i64 r.1) ∧ W.cell? ((⟨b, off, spot⟩ : Addr).add (i * 4 + 1)) = some (.int .i64 r.2.1) ∧ W.cell? ((⟨b, off, spot⟩ : Addr).add (i * 4 + 2)) = some (.int .i64 r.2.2.1) ∧ W.cell? ((⟨b, off, spot⟩ : Addr).add (i * 4 + 3)) = some (.int .i64 r.2.2.2)) ∧ fits64 r.1 ∧ fits64 r.2.1 ∧ fits64 r.2.2.1 ∧ fits64 r.2.2.2 := by
      intro i hi
      obtain ⟨cs', h1, h2⟩ := hx i (by omega)
      rw [cellsRect] at h1
      obtain ⟨_, hlen, hcell⟩ := World.cells?_some h1
      obtain ⟨y0, y1, y2, y3, k, _, _, g0, g1, g2, g3⟩ := Go.Joins.trod_struct4 Tryz.underlying53 h2
      match cs', hlen with
      | [v0, v1, v2, v3], _ =>
        simp [cellsInt] at g0 g1 g2 g3
        obtain ⟨x0, e0, _, w0⟩ := DataW.trod_int Tryz.underlying3 g0
        obtain ⟨x1, e1, _, w1⟩ := DataW.trod_int Tryz.underlying3 g1
        obtain ⟨x2, e2, _, w2⟩ := DataW.trod_int Tryz.underlying3 g2
        obtain ⟨x3, e3, _, w3⟩ := DataW.trod_int Tryz.underlying3 g3
        simp at e0 e1 e2 e3
        subst e0 e1 e2 e3
        have q0 := hcell 0 (by omega)
        have q1 := hcell 1 (by omega)
        have q2 := hcell 2 (by omega)
        have q3 := hcell 3 (by omega)
        rw [add_add] at q0 q1 q2 q3
        exact ⟨(x0, x1, x2, x3), ⟨by simpa using q0, by simpa using q1, by simpa using q2, by simpa using q3⟩, int64 w0, int64 w1, int64 w2, int64 w3⟩
    obtain ⟨l, hll, hq⟩ := choose_list ln _ each
    subst hll
    refine ⟨l, ⟨_, m, rfl, fun hpos => ?_⟩, by omega, fun r hr => ?_⟩
    · have hs : spot = none := by
        have := (hq 0 hpos).1.1
        simpa [Addr.add] using World.cell?_spot this
      subst hs
      refine ⟨b, off, rfl, fun k hk => ?_⟩
      obtain ⟨⟨a1, a2, a3, a4⟩, _⟩ := hq k hk
      rw [add_off] at a1 a2 a3 a4
      exact ⟨a1, a2, a3, a4⟩
    · obtain ⟨i, hi, rfl⟩ := List.getElem_of_mem hr
      exact (hq i hi).2

end Go.Proofs.YtofinpocigbbeaaGreat

namespace Go.Proofs.YtofinpocigbbeaaGreat
open Go.ChangeShapes Go.WideShapes Go.ChangeAt Go.RowKit Go.Deep

/-! ### Steps and numbers that came in -/

theorem cellsStep : Tryz.prog.cellsOf 32 = 6 := by kernel_rfl
theorem cellsBoolS : Tryz.prog.cellsOf 4 = 1 := by kernel_rfl

structure StepsAt (w : World) (v : Value) (D : List StepD) : Prop where
  form : ∃ a c, v = .slice a D.length c
  cells : ∀ a c, v = .slice a D.length c → ∀ i (hi : i < D.length), D.length ≤ c ∧ ∃ b off, a = some ⟨b, off, none⟩ ∧ b < w.heap.size ∧ ∀ o u, D[i].cells[o]? = some u → w.cell? ⟨b, off + i * 6 + o, none⟩ = some u
  ok : ∀ d ∈ D, StepOk d

structure IntsAt (w : World) (v : Value) (D : List Int) : Prop where
  form : ∃ a c, v = .slice a D.length c
  cells : ∀ a c, v = .slice a D.length c → ∀ i (hi : i < D.length), D.length ≤ c ∧ ∃ b off, a = some ⟨b, off, none⟩ ∧ b < w.heap.size ∧ w.cell? ⟨b, off + i, none⟩ = some (.int .i64 D[i])
  ok : ∀ d ∈ D, I64 d

theorem StepsAt.below {w w' : World} {v : Value} {D : List StepD} (h : StepsAt w v D) (hb : Below w.heap.size w w') : StepsAt w' v D :=
  ⟨h.form, fun a c e i hi => by
    obtain ⟨h1, b, off, h2, h3, h4⟩ := h.cells a c e i hi
    exact ⟨h1, b, off, h2, Nat.lt_of_lt_of_le h3 hb.size, fun o u hu => (hb.cell (p := ⟨b, off + i * 6 + o, none⟩) h3).trans (h4 o u hu)⟩, h.ok⟩

/-- A step's cells. -/
theorem StepsAt.at {w wr : World} {a : Option Addr} {n c : Nat} {D : List StepD} (h : StepsAt w (.slice a n c) D) (hn : D.length = n) (hb : Below w.heap.size w wr) (k : Nat) (hk : k < D.length) :
    n ≤ c ∧ ∃ b off, a = some ⟨b, off, none⟩ ∧ b < w.heap.size ∧ wr.cell? ⟨b, off + k * 6, none⟩ = some (.int .i64 D[k].k) ∧ wr.cell? ⟨b, off + k * 6 + 1, none⟩ = some (.int .i64 D[k].a) ∧ wr.cell? ⟨b, off + k * 6 + 2, none⟩ = some (.int .i64 D[k].b) ∧ wr.cell? ⟨b, off + k * 6 + 3, none⟩ = some (.int .i64 D[k].c) ∧ wr.cell? ⟨b, off + k * 6 + 4, none⟩ = some (.int .i64 D[k].d) ∧ wr.cell? ⟨b, off + k * 6 + 5, none⟩ = some (.bool D[k].y) := by
  obtain ⟨h1, b, off, h2, h3, h4⟩ := h.cells a c (by rw [hn]) k hk
  have key : ∀ o u, D[k].cells[o]? = some u → wr.cell? ⟨b, off + k * 6 + o, none⟩ = some u := fun o u hu => (hb.cell (p := ⟨b, off + k * 6 + o, none⟩) h3).trans (h4 o u hu)
  exact ⟨by omega, b, off, h2, h3, key 0 _ rfl, key 1 _ rfl, key 2 _ rfl, key 3 _ rfl, key 4 _ rfl, key 5 _ rfl⟩

theorem IntsAt.at {w wr : World} {a : Option Addr} {n c : Nat} {D : List Int} (h : IntsAt w (.slice a n c) D) (hn : D.length = n) (hb : Below w.heap.size w wr) (k : Nat) (hk : k < D.length) :
    n ≤ c ∧ ∃ b off, a = some ⟨b, off, none⟩ ∧ b < w.heap.size ∧ wr.cell? ⟨b, off + k, none⟩ = some (.int .i64 D[k]) := by
  obtain ⟨h1, b, off, h2, h3, h4⟩ := h.cells a c (by rw [hn]) k hk
  exact ⟨by omega, b, off, h2, h3, (hb.cell (p := ⟨b, off + k, none⟩) h3).trans h4⟩

theorem IntsAt.below {w w' : World} {v : Value} {D : List Int} (h : IntsAt w v D) (hb : Below w.heap.size w w') : IntsAt w' v D :=
  ⟨h.form, fun a c e i hi => by
    obtain ⟨h1, b, off, h2, h3, h4⟩ := h.cells a c e i hi
    exact ⟨h1, b, off, h2, Nat.lt_of_lt_of_le h3 hb.size, (hb.cell (p := ⟨b, off + i, none⟩) h3).trans h4⟩, h.ok⟩

theorem choose_all {α : Type} (n : Nat) (Q : Nat → α → Prop) (h : ∀ i, i < n → ∃ r, Q i r) : ∃ l : List α, l.length = n ∧ ∀ i (hi : i < l.length), Q i l[i] := by
  induction n with
  | zero => exact ⟨[], rfl, fun i hi => by simp at hi⟩
  | succ n ih =>
    obtain ⟨l, hl, hq⟩ := ih fun i hi => h i (by omega)
    obtain ⟨r, hr⟩ := h n (by omega)
    refine ⟨l ++ [r], by simp [hl], fun i hi => ?_⟩
    by_cases e : i < l.length
    · rw [List.getElem_append_left e]; exact hq i e
    · have : i = l.length := by simp at hi; omega
      subst this
      rw [List.getElem_append_right (by omega)]
      simp
      rw [hl]; exact hr

theorem list6 {α : Type} {cs : List α} (h : cs.length = 6) : ∃ c0 c1 c2 c3 c4 c5, cs = [c0, c1, c2, c3, c4, c5] := by
  match cs, h with
  | [c0, c1, c2, c3, c4, c5], _ => exact ⟨_, _, _, _, _, _, rfl⟩

set_option maxRecDepth 100000 in
set_option maxHeartbeats 1000000 in
theorem open_step {H : Type} {enc : TypeId × Value → H} {W : World} {fuel : Nat} {cs : List Value} {x : DataW H × List MemPlace}
    (hf : DataW.trod enc Tryz.prog W 0 (fun _ => true) true fuel 32 cs = some x) : ∃ d : StepD, cs = d.cells.toList ∧ StepOk d := by
  obtain ⟨xs, n, _, rfl, hlen, hxl, hfs⟩ := DataW.trod_struct Tryz.underlying32 hf
  rw [cellsStep] at hlen
  obtain ⟨c0, c1, c2, c3, c4, c5, rfl⟩ := list6 hlen
  have g0 := hfs 0 _ rfl
  have g1 := hfs 1 _ rfl
  have g2 := hfs 2 _ rfl
  have g3 := hfs 3 _ rfl
  have g4 := hfs 4 _ rfl
  have g5 := hfs 5 _ rfl
  have hxl' : xs.length = 6 := hxl
  rw [List.getElem?_eq_getElem (by omega)] at g0 g1 g2 g3 g4 g5
  simp [cellsInt, cellsBoolS] at g0 g1 g2 g3 g4 g5
  obtain ⟨x0, e0, _, w0⟩ := DataW.trod_int Tryz.underlying3 g0
  obtain ⟨x1, e1, _, w1⟩ := DataW.trod_int Tryz.underlying3 g1
  obtain ⟨x2, e2, _, w2⟩ := DataW.trod_int Tryz.underlying3 g2
  obtain ⟨x3, e3, _, w3⟩ := DataW.trod_int Tryz.underlying3 g3
  obtain ⟨x4, e4, _, w4⟩ := DataW.trod_int Tryz.underlying3 g4
  obtain ⟨x5, e5, _⟩ := DataW.trod_bool Tryz.underlying4 g5
  simp at e0 e1 e2 e3 e4 e5
  subst e0 e1 e2 e3 e4 e5
  exact ⟨⟨x0, x1, x2, x3, x4, x5⟩, rfl, ⟨int64 w0, int64 w1, int64 w2, int64 w3, int64 w4⟩⟩

set_option maxRecDepth 100000 in
set_option maxHeartbeats 1000000 in
theorem open_steps {H : Type} {enc : TypeId × Value → H} {W : World} {base : Nat} {v : Value} {d : DataW H} {p : List MemPlace}
    (hv : Value.okWide Tryz.prog W .any base 26 v) (h : DataW.Trod enc Tryz.prog W 0 (fun _ => true) true 26 v d p) : ∃ D : List StepD, StepsAt W v D ∧ D.length ≤ maxLen := by
  obtain ⟨x, ln, cp, rfl⟩ := okWide_slice Tryz.underlying26 hv
  obtain ⟨fuel, hf⟩ := h
  rcases open_slice Tryz.underlying26 hf with ⟨hcs, _⟩ | ⟨a, len, cap, m, n, D, Pl, hcs, _, hl, hm, hmm, hd, hx⟩
  · simp [Value.cells] at hcs
    obtain ⟨rfl, rfl, rfl⟩ := hcs
    exact ⟨[], ⟨⟨none, 0, rfl⟩, fun a c _ i hi => by simp at hi, fun d hd => by simp at hd⟩, by simp⟩
  · simp [Value.cells] at hcs
    obtain ⟨rfl, rfl, rfl⟩ := hcs
    have hm' : m = cp := by simpa using hmm
    subst hm'
    obtain ⟨b, off, spot⟩ := a
    have each : ∀ i, i < ln → ∃ o : StepD, (∀ k, k < 6 → W.cell? ((⟨b, off, spot⟩ : Addr).add (i * 6 + k)) = o.cells[k]?) ∧ StepOk o := by
      intro i hi
      obtain ⟨cs', h1, h2⟩ := hx i (by omega)
      rw [cellsStep] at h1
      obtain ⟨_, hlen, hcell⟩ := World.cells?_some h1
      obtain ⟨o, rfl, ho⟩ := open_step h2
      refine ⟨o, fun k hk => ?_, ho⟩
      have q := hcell k hk
      rw [add_add] at q
      simpa using q
    obtain ⟨l, hll, hq⟩ := choose_all ln _ each
    subst hll
    refine ⟨l, ⟨⟨_, m, rfl⟩, fun a c e i hi => ?_, fun d hd => ?_⟩, by omega⟩
    · simp only [Value.slice.injEq] at e
      obtain ⟨rfl, _, rfl⟩ := e
      have hc0 : ∀ o : StepD, ∃ u, o.cells[0]? = some u := fun o => ⟨_, rfl⟩
      have h00 := (hq 0 (by omega)).1 0 (by omega)
      obtain ⟨u0, hu0⟩ := hc0 (l[0]'(by omega))
      rw [hu0] at h00
      have hsp : spot = none := by simpa [Addr.add] using World.cell?_spot h00
      subst hsp
      have h0 := (hq i hi).1 0 (by omega)
      obtain ⟨u, hu⟩ := hc0 l[i]
      rw [hu] at h0
      rw [add_off] at h0
      refine ⟨hl, b, off, rfl, cell_lt h0, fun o u' hu' => ?_⟩
      have ho : o < 6 := by
        have := (Array.getElem?_eq_some_iff.1 hu').1
        exact this
      have := (hq i hi).1 o ho
      rw [add_off, hu'] at this
      rw [← this]
      congr 2
      omega
    · obtain ⟨i, hi, rfl⟩ := List.getElem_of_mem hd
      exact (hq i hi).2

set_option maxRecDepth 100000 in
set_option maxHeartbeats 1000000 in
theorem open_ints {H : Type} {enc : TypeId × Value → H} {W : World} {base : Nat} {v : Value} {d : DataW H} {p : List MemPlace}
    (hv : Value.okWide Tryz.prog W .any base 24 v) (h : DataW.Trod enc Tryz.prog W 0 (fun _ => true) true 24 v d p) : ∃ D : List Int, IntsAt W v D ∧ D.length ≤ maxLen := by
  obtain ⟨x, ln, cp, rfl⟩ := okWide_slice Tryz.underlying24 hv
  obtain ⟨fuel, hf⟩ := h
  rcases open_slice Tryz.underlying24 hf with ⟨hcs, _⟩ | ⟨a, len, cap, m, n, D, Pl, hcs, _, hl, hm, hmm, hd, hx⟩
  · simp [Value.cells] at hcs
    obtain ⟨rfl, rfl, rfl⟩ := hcs
    exact ⟨[], ⟨⟨none, 0, rfl⟩, fun a c _ i hi => by simp at hi, fun d hd => by simp at hd⟩, by simp⟩
  · simp [Value.cells] at hcs
    obtain ⟨rfl, rfl, rfl⟩ := hcs
    have hm' : m = cp := by simpa using hmm
    subst hm'
    obtain ⟨b, off, spot⟩ := a
    have each : ∀ i, i < ln → ∃ o : Int, W.cell? ((⟨b, off, spot⟩ : Addr).add i) = some (.int .i64 o) ∧ I64 o := by
      intro i hi
      obtain ⟨cs', h1, h2⟩ := hx i (by omega)
      rw [cellsInt] at h1
      obtain ⟨_, hlen, hcell⟩ := World.cells?_some h1
      match cs', hlen with
      | [v0], _ =>
        obtain ⟨x0, e0, _, w0⟩ := DataW.trod_int Tryz.underlying3 h2
        simp at e0
        subst e0
        have q := hcell 0 (by omega)
        rw [add_add] at q
        exact ⟨x0, by simpa using q, int64 w0⟩
    obtain ⟨l, hll, hq⟩ := choose_all ln _ each
    subst hll
    refine ⟨l, ⟨⟨_, m, rfl⟩, fun a c e i hi => ?_, fun d hd => ?_⟩, by omega⟩
    · simp only [Value.slice.injEq] at e
      obtain ⟨rfl, _, rfl⟩ := e
      have hsp : spot = none := by simpa [Addr.add] using World.cell?_spot (hq 0 (by omega)).1
      subst hsp
      have h0 := (hq i hi).1
      rw [add_off] at h0
      exact ⟨hl, b, off, rfl, cell_lt h0, h0⟩
    · obtain ⟨i, hi, rfl⟩ := List.getElem_of_mem hd
      exact (hq i hi).2

end Go.Proofs.YtofinpocigbbeaaGreat
