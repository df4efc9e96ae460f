import Derived.Test.YtofinpocigbbeaaPlnS
import Derived.Test.YtofinpocigbbeaaGrdM
import Derived.Test.YtofinpocigbbeaaPcm
namespace Go.Proofs.Ytofinpocigbbeaa
open Go.RowKit

theorem OwnI.keep {w w' : World} {base : Nat} {v : Value} {E : List Int} (h : OwnI w base v E) (hk : ∀ g, v.ownBlock = some g → w'.heap[g]? = w.heap[g]?) : OwnI w' base v E := by
  obtain ⟨⟨h1, h2⟩, h3⟩ := h
  refine ⟨⟨h1, ?_⟩, h3⟩
  rcases h2 with h2 | ⟨g, cap, cur, e1, e2, e3, e4⟩
  · exact .inl h2
  · exact .inr ⟨g, cap, cur, e1, e2, by rw [hk g (by rw [e1]; rfl)]; exact e3, e4⟩

theorem OwnI.stay {w w' : World} {base : Nat} {v : Value} {E : List Int} (h : OwnI w base v E) (hb : Below w.heap.size w w') : OwnI w' base v E :=
  h.keep fun g hg => hb.block g (h.1.lt g hg).2

theorem OwnI.form {w : World} {base : Nat} {v : Value} {E : List Int} (h : OwnI w base v E) : ∃ a c, v = .slice a E.length c := by
  rcases h.1.2 with ⟨h, h0⟩ | ⟨g, cap, cur, h, _⟩
  · exact ⟨none, 0, by rw [h, h0]⟩
  · exact ⟨_, _, h⟩

/-- What a rising list is behind two numbers more. -/
def Wid2 (E E2 : List Int) (x z : Int) : Prop := E2.Pairwise (· < ·) ∧ (∀ y, y ∈ E2 ↔ y ∈ E ∨ y = x ∨ y = z) ∧ E2.length ≤ E.length + 2 ∧ E2 ≠ []

theorem wid2 {E E1 E2 : List Int} {x z : Int} (h1 : Widened E E1 x) (h2 : Widened E1 E2 z) : Wid2 E E2 x z :=
  ⟨h2.1, fun y => by rw [h2.2.1, h1.2.1, or_assoc], by have := h1.2.2.1; have := h2.2.2.1; omega, h2.2.2.2⟩

/-- The edges of the first i rectangles. -/
structure Edges (l : List (Int × Int × Int × Int)) (i : Nat) (E F : List Int) : Prop where
  e : E.Pairwise (· < ·)
  f : F.Pairwise (· < ·)
  at' : Edged E F (l.take i)
  be : ∀ x ∈ E, -2000 ≤ x ∧ x ≤ 2000
  bf : ∀ x ∈ F, -2000 ≤ x ∧ x ≤ 2000
  le : E.length ≤ 2 * i
  lf : F.length ≤ 2 * i
  ne : 0 < i → E ≠ [] ∧ F ≠ []

theorem edges_start (l : List (Int × Int × Int × Int)) : Edges l 0 [] [] :=
  ⟨List.Pairwise.nil, List.Pairwise.nil, fun r hr => by simp at hr, fun x hx => by simp at hx, fun x hx => by simp at hx, by simp, by simp, fun h => by omega⟩

theorem edges_next {l : List (Int × Int × Int × Int)} {i : Nat} {E F E2 F2 : List Int} {a b c d : Int} (h : Edges l i E F) (hi : i < l.length) (hr : l.getD i (0, 0, 0, 0) = (a, b, c, d)) (hf : l.all fitR = true) (h1 : Wid2 E E2 a c) (h2 : Wid2 F F2 b d) : Edges l (i + 1) E2 F2 := by
  have hli : l[i] = (a, b, c, d) := by rw [← hr, List.getD_eq_getElem?_getD, List.getElem?_eq_getElem hi]; rfl
  have hfi := List.all_eq_true.1 hf _ (List.getElem_mem hi)
  rw [hli] at hfi
  unfold fitR at hfi
  rw [decide_eq_true_eq] at hfi
  simp only at hfi
  refine ⟨h1.1, h2.1, fun r hr => ?_, fun x hx => ?_, fun x hx => ?_, by have := h1.2.2.1; have := h.le; omega, by have := h2.2.2.1; have := h.lf; omega, fun _ => ⟨h1.2.2.2, h2.2.2.2⟩⟩
  · rw [List.take_succ_eq_append_getElem hi, List.mem_append, List.mem_singleton, hli] at hr
    rw [h1.2.1, h1.2.1, h2.2.1, h2.2.1]
    rcases hr with hr | hr
    · obtain ⟨q1, q2, q3, q4⟩ := h.at' r hr
      exact ⟨.inl q1, .inl q2, .inl q3, .inl q4⟩
    · subst hr
      exact ⟨.inr (.inl rfl), .inr (.inr rfl), .inr (.inl rfl), .inr (.inr rfl)⟩
  · rw [h1.2.1] at hx
    rcases hx with hx | hx | hx
    · exact h.be x hx
    · omega
    · omega
  · rw [h2.2.1] at hx
    rcases hx with hx | hx | hx
    · exact h.bf x hx
    · omega
    · omega

theorem edged_parts {E F : List Int} {la lb : List (Int × Int × Int × Int)} (h : Edged E F (la ++ lb)) : Edged E F la ∧ Edged E F lb :=
  ⟨fun r hr => h r (List.mem_append_left _ hr), fun r hr => h r (List.mem_append_right _ hr)⟩

/-- How a list's nil-ness is told. -/
def NilOk (v : Value) (l : List (Int × Int × Int × Int)) : Prop := l = [] → v = .slice none 0 0 ∨ ∃ ad c, v = .slice (some ad) 0 c

set_option maxRecDepth 100000 in
set_option maxHeartbeats 1000000 in
theorem refCombine_wrong (kind : Int) (la lb : List (Int × Int × Int × Int)) (va vb : Value) (w : World) (ha : RectsAt w va la) (hb : RectsAt w vb lb) (hk : ¬ (0 ≤ kind ∧ kind ≤ 3)) :
    Calls Try.prog 17 #[.int .i64 kind, va, vb] w (Answer kind la lb w) := by
  have HA : Hid (Answer kind la lb w (.returned (.tuple #[.slice none 0 0, .int .i64 1])) w) := ⟨Below.refl _ _, _, _, rfl, .inl ⟨hk, rfl, rfl⟩⟩
  obtain ⟨aa, ca, rfl⟩ := ha.form
  obtain ⟨ab, cb, rfl⟩ := hb.form
  clear ha hb
  by_cases h0 : kind < 0
  · clear hk
    go_enter Try.func17, Try.ntmps17
    go_wp2
    go_ret2
    exact HA.out
  · have h3 : 3 < kind := by omega
    clear hk
    go_enter Try.func17, Try.ntmps17
    go_wp2
    go_ret2
    exact HA.out

set_option maxRecDepth 100000 in
set_option maxHeartbeats 1000000 in
theorem refCombine_many (kind : Int) (la lb : List (Int × Int × Int × Int)) (va vb : Value) (w : World) (ha : RectsAt w va la) (hb : RectsAt w vb lb) (hla : la.length ≤ maxLen) (hlb : lb.length ≤ maxLen) (hk : 0 ≤ kind ∧ kind ≤ 3) (hm : 20 < la.length ∨ 20 < lb.length) :
    Calls Try.prog 17 #[.int .i64 kind, va, vb] w (Answer kind la lb w) := by
  have he : errB la lb = 2 := by unfold errB; rw [if_pos hm]
  have HA : Hid (Answer kind la lb w (.returned (.tuple #[.slice none 0 0, .int .i64 2])) w) := ⟨Below.refl _ _, _, _, rfl, .inr (.inl ⟨hk, by rw [he]; decide, rfl, he.symm⟩)⟩
  obtain ⟨aa, ca, rfl⟩ := ha.form
  obtain ⟨ab, cb, rfl⟩ := hb.form
  obtain ⟨na, hna⟩ : ∃ n, la.length = n := ⟨_, rfl⟩
  obtain ⟨nb, hnb⟩ : ∃ n, lb.length = n := ⟨_, rfl⟩
  rw [hna] at hm hla
  rw [hnb] at hm hlb
  rw [hna, hnb]
  unfold maxLen at hla hlb
  clear ha hb he hna hnb
  have k0 : ¬ kind < 0 := by omega
  have k3 : ¬ 3 < kind := by omega
  clear hk
  by_cases h1 : (20 : Int) < (na : Int)
  · go_enter Try.func17, Try.ntmps17
    go_wp2
    go_ret2
    exact HA.out
  · have h2 : (20 : Int) < (nb : Int) := by omega
    go_enter Try.func17, Try.ntmps17
    go_wp2
    go_ret2
    exact HA.out

set_option maxRecDepth 100000 in
set_option maxHeartbeats 1000000 in
theorem refCombine_rect (kind : Int) (la lb : List (Int × Int × Int × Int)) (va vb : Value) (w : World) (ha : RectsAt w va la) (hb : RectsAt w vb lb) (hla : la.length ≤ 20) (hlb : lb.length ≤ 20) (hk : 0 ≤ kind ∧ kind ≤ 3) (hm : ¬ (la.all fitR = true ∧ lb.all fitR = true)) :
    Calls Try.prog 17 #[.int .i64 kind, va, vb] w (Answer kind la lb w) := by
  have he : errB la lb = 3 := by unfold errB; rw [if_neg (by omega), if_neg hm]
  have HA : Hid (∀ w', Below w.heap.size w w' → Answer kind la lb w (.returned (.tuple #[.slice none 0 0, .int .i64 3])) w') := fun w' h => ⟨h, _, _, rfl, .inr (.inl ⟨hk, by rw [he]; decide, rfl, he.symm⟩)⟩
  have hca : Calls Try.prog 30 #[va] w fun e w' => e = .returned (.int .i64 (if la.all fitR = true then 0 else 3)) ∧ Below w.heap.size w w' := refAll_any la va w ha (by unfold maxLen; omega)
  have hcb : ∀ W, Below w.heap.size w W → Calls Try.prog 30 #[vb] W fun e w' => e = .returned (.int .i64 (if lb.all fitR = true then 0 else 3)) ∧ Below W.heap.size W w' := fun W hW => refAll_any lb vb W (hb.below hW) (by unfold maxLen; omega)
  obtain ⟨ea, hea⟩ : ∃ x : Int, (if la.all fitR = true then 0 else 3) = x := ⟨_, rfl⟩
  obtain ⟨eb, heb⟩ : ∃ x : Int, (if lb.all fitR = true then 0 else 3) = x := ⟨_, rfl⟩
  rw [hea] at hca
  rw [heb] at hcb
  have hor : (ea != 0) = true ∨ ((ea != 0) = false ∧ (eb != 0) = true) := by
    rw [← hea, ← heb]
    by_cases h1 : la.all fitR = true
    · by_cases h2 : lb.all fitR = true
      · exact absurd ⟨h1, h2⟩ hm
      · right; simp [h1, h2]
    · left; simp [h1]
  obtain ⟨aa, ca, rfl⟩ := ha.form
  obtain ⟨ab, cb, rfl⟩ := hb.form
  obtain ⟨na, hna⟩ : ∃ n, la.length = n := ⟨_, rfl⟩
  obtain ⟨nb, hnb⟩ : ∃ n, lb.length = n := ⟨_, rfl⟩
  rw [hna] at hla hca
  rw [hnb] at hlb hcb
  rw [hna, hnb]
  clear ha hb he hna hnb hea heb hm
  have k0 : ¬ kind < 0 := by omega
  have k3 : ¬ 3 < kind := by omega
  have n1 : ¬ (20 : Int) < (na : Int) := by omega
  have n2 : ¬ (20 : Int) < (nb : Int) := by omega
  clear hk
  rcases hor with h1 | ⟨h1, h2⟩
  · go_enter Try.func17, Try.ntmps17
    go_wp2_with (first
      | (go_at_call_of 30 (Value.slice aa na ca); refine hca.mono ?_; rintro e w1 ⟨rfl, hb1⟩; have HB1 := hide hb1; clear hb1)
      | (go_at_call_of 30 (Value.slice ab nb cb); refine (hcb _ HB1.out).mono ?_; rintro e w2 ⟨rfl, hb2⟩; have HB2 := hide hb2; clear hb2))
    go_ret2
    exact HA.out _ (HB1.out.trans (HB2.out.mono HB1.out.size))
  · go_enter Try.func17, Try.ntmps17
    go_wp2_with (first
      | (go_at_call_of 30 (Value.slice aa na ca); refine hca.mono ?_; rintro e w1 ⟨rfl, hb1⟩; have HB1 := hide hb1; clear hb1)
      | (go_at_call_of 30 (Value.slice ab nb cb); refine (hcb _ HB1.out).mono ?_; rintro e w2 ⟨rfl, hb2⟩; have HB2 := hide hb2; clear hb2))
    go_ret2
    exact HA.out _ (HB1.out.trans (HB2.out.mono HB1.out.size))

end Go.Proofs.Ytofinpocigbbeaa
