import Derived.Test.YtofinpocigbbeaaAlkR
import Derived.Test.YtofinpocigbbeaaPlnM
namespace Go.Proofs.Ytofinpocigbbeaa
open Go.RowKit
attribute [local go_sem ↓] Go.wp_at_zero Go.wp_at_succ

theorem rc_snoc (D : List (Int × Int × List (Int × Int))) (b : Int × Int × List (Int × Int)) : rc (D ++ [b]) = rc D ++ spanRects b.1 b.2.1 b.2.2 := by
  unfold rc spanRects
  rw [List.flatMap_append]
  simp

/-- What is at hand: the bands that are told (out), and the last one. -/
def PMem (base : Nat) (wr : World) (F : List Int) (i : Nat) (so sl : Value) (O : List (Int × Int × List (Int × Int))) : Prop :=
  ∃ D Ls z0 z1, OwnR wr base so (rc D) ∧ OwnR wr base sl (spanRects z0 z1 Ls) ∧ (∀ k, so.ownBlock = some k → sl.ownBlock ≠ some k) ∧ ((Ls = [] ∧ O = D ∧ ∀ e ∈ levels O, e < nth F i) ∨ (Ls ≠ [] ∧ O = D ++ [(z0, z1, Ls)]))

theorem add_merge {D : List (Int × Int × List (Int × Int))} {z0 z1 t : Int} {Ls : List (Int × Int)} (hne : Ls ≠ []) : addB (D ++ [(z0, z1, Ls)]) (z1, t, Ls) = D ++ [(z0, t, Ls)] := by
  unfold addB
  rw [if_neg hne]
  simp

theorem add_next {O D : List (Int × Int × List (Int × Int))} {z0 z1 y0 y1 : Int} {Ls L : List (Int × Int)} (h : (Ls = [] ∧ O = D ∧ ∀ e ∈ levels O, e < y0) ∨ (Ls ≠ [] ∧ O = D ++ [(z0, z1, Ls)])) (hn : ¬ (Ls ≠ [] ∧ L = Ls ∧ z1 = y0)) (hL : L ≠ []) : addB O (y0, y1, L) = O ++ [(y0, y1, L)] := by
  unfold addB
  rw [if_neg hL]
  rcases h with ⟨_, _, h3⟩ | ⟨h1, rfl⟩
  · cases hl : O.getLast? with
    | none =>
      have : O = [] := by
        cases O with
        | nil => rfl
        | cons a O => rw [List.getLast?_eq_some_getLast (by simp)] at hl; simp at hl
      subst this
      rfl
    | some l =>
      have hO := getLast_split O l hl
      have hlm : l ∈ O := by rw [hO]; simp
      have := h3 l.2.1 (bot_mem hlm)
      show (if l.2.1 = y0 ∧ l.2.2 = L then O.dropLast ++ [(l.1, y1, l.2.2)] else O ++ [(y0, y1, L)]) = _
      rw [if_neg]
      rintro ⟨a, _⟩
      omega
  · have : (D ++ [(z0, z1, Ls)]).getLast? = some (z0, z1, Ls) := by simp
    rw [this]
    simp only
    rw [if_neg]
    rintro ⟨a, b⟩
    exact hn ⟨h1, b.symm, a⟩

theorem rc_parts {O D : List (Int × Int × List (Int × Int))} {z0 z1 : Int} {Ls : List (Int × Int)} {P : Prop} (h : (Ls = [] ∧ O = D ∧ P) ∨ (Ls ≠ [] ∧ O = D ++ [(z0, z1, Ls)])) : rc O = rc D ++ spanRects z0 z1 Ls := by
  rcases h with ⟨rfl, rfl, _⟩ | ⟨_, rfl⟩
  · simp [spanRects]
  · rw [rc_snoc]

/-- The next strip's spans are the last ones' now; those go to the told ones. -/
theorem pmem_next {base : Nat} {w2 : World} {F : List Int} {i : Nat} {so sl : Value} {O D : List (Int × Int × List (Int × Int))} {z0 z1 : Int} {Ls L : List (Int × Int)} (hm : nth F i < nth F (i + 1)) (hup : ∀ e ∈ levels O, e ≤ nth F i)
    (h : (Ls = [] ∧ O = D ∧ ∀ e ∈ levels O, e < nth F i) ∨ (Ls ≠ [] ∧ O = D ++ [(z0, z1, Ls)])) (hn : ¬ (Ls ≠ [] ∧ L = Ls ∧ z1 = nth F i))
    (ho : OwnR w2 base so (rc D ++ spanRects z0 z1 Ls)) (hl : OwnR w2 base sl (spanRects (nth F i) (nth F (i + 1)) L)) (hd : ∀ k, so.ownBlock = some k → sl.ownBlock ≠ some k) : PMem base w2 F (i + 1) so sl (addB O (nth F i, nth F (i + 1), L)) := by
  rw [← rc_parts h] at ho
  refine ⟨O, L, nth F i, nth F (i + 1), ho, hl, hd, ?_⟩
  by_cases hL : L = []
  · subst hL
    left
    have : addB O (nth F i, nth F (i + 1), []) = O := by unfold addB; simp
    rw [this]
    exact ⟨rfl, rfl, fun e he => by have := hup e he; omega⟩
  · right
    exact ⟨hL, add_next h hn hL⟩

theorem rectCells_setY (A B : List (Int × Int × Int × Int)) (a b z d d' : Int) : (rectCells (A ++ (a, b, z, d) :: B)).set (A.length * 4 + 3) (.int .i64 d') = rectCells (A ++ (a, b, z, d') :: B) := by
  have e : ∀ q, rectCells (A ++ (a, b, z, q) :: B) = rectCells A ++ ([.int .i64 a, .int .i64 b, .int .i64 z, .int .i64 q] ++ rectCells B) := fun q => by rw [rectCells_append]; rfl
  rw [e, e, List.set_append, if_neg (by rw [rectCells_len]; omega), rectCells_len, show A.length * 4 + 3 - A.length * 4 = 3 by omega]
  rfl

theorem OwnR.keep {w w' : World} {base : Nat} {v : Value} {l : List (Int × Int × Int × Int)} (h : OwnR w base v l) (hk : ∀ g, v.ownBlock = some g → w'.heap[g]? = w.heap[g]?) : OwnR w' base v l := by
  obtain ⟨⟨h1, h2⟩, h3⟩ := h
  refine ⟨⟨h1, ?_⟩, h3⟩
  rcases h2 with h2 | ⟨g, cap, cur, e1, e2, e3, e4⟩
  · exact .inl h2
  · exact .inr ⟨g, cap, cur, e1, e2, by rw [hk g (by rw [e1]; rfl)]; exact e3, e4⟩

theorem OwnR.stay {w w' : World} {base : Nat} {v : Value} {l : List (Int × Int × Int × Int)} (h : OwnR w base v l) (hb : Below w.heap.size w w') : OwnR w' base v l :=
  h.keep fun g hg => hb.block g (h.1.lt g hg).2

theorem OwnR.low {w : World} {base base' : Nat} {v : Value} {l : List (Int × Int × Int × Int)} (h : OwnR w base v l) (hb : base' ≤ base) : OwnR w base' v l := ⟨⟨h.1.1, h.1.2.imp id fun ⟨g, c, cur, e1, e2, e3⟩ => ⟨g, c, cur, e1, Nat.le_trans hb e2, e3⟩⟩, h.2⟩

theorem rc_all {O : List (Int × Int × List (Int × Int))} (hO : Good O) : (rc O).length ≤ 4001 * 2001 := by
  have h1 := rc_len hO O.length
  rw [List.take_of_length_le (Nat.le_refl _)] at h1
  exact Nat.le_trans h1 (Nat.mul_le_mul_right _ hO.len)

/-- The last band goes to the told ones, and the new one is the last. -/
theorem plain_step {w wo wx w1 : World} {F : List Int} {i nD nL nq nr : Nat} {O D : List (Int × Int × List (Int × Int))} {z0 z1 : Int} {Ls L : List (Int × Int)} {so s11 v1 : Value} (hbel : Below w.heap.size w wo) (hbx : Below wo.heap.size wo wx)
    (hown : OwnR wo w.heap.size so (rc D)) (hrow : OwnR wx wo.heap.size s11 (spanRects (nth F i) (nth F (i + 1)) L)) (hnD : (rc D).length = nD) (hnL : (spanRects z0 z1 Ls).length = nL)
    (hm : nth F i < nth F (i + 1)) (hup : ∀ e ∈ levels O, e ≤ nth F i) (h : (Ls = [] ∧ O = D ∧ ∀ e ∈ levels O, e < nth F i) ∨ (Ls ≠ [] ∧ O = D ++ [(z0, z1, Ls)])) (hn : ¬ (Ls ≠ [] ∧ L = Ls ∧ z1 = nth F i))
    (ho1 : w1.ownsRow w.heap.size 52 4 v1 (nD + nL) (rectCells (rc D) ++ rectCells (spanRects z0 z1 Ls))) (hg : ((wx.drewN nq).drewN nr).grownBy w1 so.ownBlock) (hnil : v1 = .slice none 0 0 ↔ so = .slice none 0 0 ∧ nL = 0) (hat : v1.ownBlock = so.ownBlock ∨ v1.ownBlock = some wx.heap.size) :
    PMem w.heap.size w1 F (i + 1) v1 s11 (addB O (nth F i, nth F (i + 1), L)) ∧ Below w.heap.size w w1 := by
  have hz1 := hbel.size
  have hz2 := hbx.size
  have hne : ∀ g, s11.ownBlock = some g → some g ≠ so.ownBlock := fun g hg9 e => by
    have a1 := (hrow.1.lt g hg9).1
    have a2 := (hown.1.lt g e.symm).2
    omega
  refine ⟨pmem_next hm hup h hn ⟨?_, fun e => ?_⟩ ((hrow.low hz1).keep fun g hg9 => ?_) fun k hk e => ?_, ?_⟩
  · rw [List.length_append, hnD, hnL, rectCells_append]
    exact ho1
  · rw [hnil]
    have e2 := List.append_eq_nil_iff.1 e
    exact ⟨hown.2 e2.1, by rw [← hnL, e2.2]; rfl⟩
  · exact hg.block g (by have := (hrow.1.lt g hg9).2; simpa using this) (hne g hg9)
  · rcases hat with hat | hat
    · rw [hat] at hk
      exact hne k e hk.symm
    · rw [hat] at hk
      have := (hrow.1.lt k e).2
      simp at hk
      omega
  · have b1 : Below w.heap.size w ((wx.drewN nq).drewN nr) := below_drewN (below_drewN (hbel.trans (hbx.mono hz1)) nq) nr
    exact b1.grown hg (by simp; omega) fun k hk => (hown.1.lt k hk).1

theorem merge_cell {wr : World} {base g nL lc k : Nat} {z0 z1 Y1 : Int} {Ls : List (Int × Int)} (hk : k < Ls.length) (h : OwnR wr base (.slice (some ⟨g, 0, none⟩) nL lc) (spanRects z0 Y1 (Ls.take k) ++ spanRects z0 z1 (Ls.drop k))) :
    OwnR (wr.setCell ⟨g, k * 4 + 3, none⟩ (.int .i64 Y1)) base (.slice (some ⟨g, 0, none⟩) nL lc) (spanRects z0 Y1 (Ls.take (k + 1)) ++ spanRects z0 z1 (Ls.drop (k + 1))) := by
  have e1 : spanRects z0 z1 (Ls.drop k) = (Ls[k].1, z0, Ls[k].2, z1) :: spanRects z0 z1 (Ls.drop (k + 1)) := by rw [List.drop_eq_getElem_cons hk]; rfl
  have e2 : spanRects z0 Y1 (Ls.take (k + 1)) = spanRects z0 Y1 (Ls.take k) ++ [(Ls[k].1, z0, Ls[k].2, Y1)] := by rw [List.take_succ_eq_append_getElem hk, spanRects_append]; rfl
  have e3 : (spanRects z0 Y1 (Ls.take k)).length = k := by rw [spanRects_len, List.length_take]; omega
  have hl : (spanRects z0 Y1 (Ls.take k) ++ spanRects z0 z1 (Ls.drop k)).length = nL := by
    obtain ⟨a, c, e⟩ := h.form
    simp only [Value.slice.injEq] at e
    exact e.2.1.symm
  have hl2 : (spanRects z0 Y1 (Ls.take (k + 1)) ++ spanRects z0 z1 (Ls.drop (k + 1))).length = nL := by
    rw [← hl]
    simp only [List.length_append, spanRects_len, List.length_take, List.length_drop]
    omega
  refine ⟨?_, fun e => ?_⟩
  · have h1 := h.1
    rw [hl] at h1
    rw [hl2]
    have h2 := own_set (j := k * 4 + 3) h1 (.int .i64 Y1)
    have h3 := rectCells_setY (spanRects z0 Y1 (Ls.take k)) (spanRects z0 z1 (Ls.drop (k + 1))) Ls[k].1 z0 Ls[k].2 z1 Y1
    rw [e3, ← e1] at h3
    rw [h3] at h2
    rw [e2, List.append_assoc]
    exact h2
  · rw [e] at hl2
    rw [List.length_append, e3, e1] at hl
    simp at hl2 hl
    omega

/-- The last band grows. -/
theorem merge_done {w wo wx wr : World} {F : List Int} {i : Nat} {O D : List (Int × Int × List (Int × Int))} {z0 z1 : Int} {Ls L : List (Int × Int)} {so sl : Value} (hbx : Below wo.heap.size wo wx) (hown : OwnR wo w.heap.size so (rc D)) (hdis : ∀ k, so.ownBlock = some k → sl.ownBlock ≠ some k)
    (h : (Ls = [] ∧ O = D ∧ ∀ e ∈ levels O, e < nth F i) ∨ (Ls ≠ [] ∧ O = D ++ [(z0, z1, Ls)])) (hne : Ls ≠ []) (hL : L = Ls) (hz : z1 = nth F i) (hl : OwnR wr w.heap.size sl (spanRects z0 (nth F (i + 1)) Ls)) (hk : ∀ g, sl.ownBlock ≠ some g → wr.heap[g]? = wx.heap[g]?) :
    PMem w.heap.size wr F (i + 1) so sl (addB O (nth F i, nth F (i + 1), L)) := by
  refine ⟨D, Ls, z0, nth F (i + 1), (hown.stay hbx).keep fun g hg => hk g (hdis g hg), hl, hdis, .inr ⟨hne, ?_⟩⟩
  rcases h with ⟨h, _⟩ | ⟨_, rfl⟩
  · exact absurd h hne
  · rw [hL, ← hz]
    exact add_merge hne

end Go.Proofs.Ytofinpocigbbeaa
