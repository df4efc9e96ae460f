import Derived.Test.YtofinpocigbbeaaGreatKac
namespace Go.Proofs.YtofinpocigbbeaaGreat
open Go.RowKit

/-- What add does to the box, to what is made, and to all else. -/
def AddedTo (w w' : World) (base o : Nat) (O : List (Int × Int × List (Int × Int))) : Prop :=
  ∃ v', w'.heap[o]? = some (.cells #[v'] 136 (0, 0)) ∧ OutAt w' base v' O ∧ Below base w w' ∧
    ∀ (b : Nat) (cs : Array Value) (t : TypeId), b ≠ o → t ≠ 192 → w.heap[b]? = some (.cells cs t (0, 0)) → w'.heap[b]? = some (.cells cs t (0, 0))

theorem own_type {w : World} {base : Nat} {e : TypeId} {size : Nat} {v : Value} {n : Nat} {xs : List Value} (h : w.ownsRow base e size v n xs) {k : Nat} (hk : v.ownBlock = some k) : ∃ cur, w.heap[k]? = some (.cells cur e (0, 0)) := by
  rcases h.2 with ⟨rfl, _⟩ | ⟨g, cap, cur, rfl, _, hg, _⟩
  · simp [Value.ownBlock] at hk
  · simp [Value.ownBlock] at hk
    subst hk
    exact ⟨cur, hg⟩

theorem not_own {w : World} {base : Nat} {e : TypeId} {size : Nat} {v : Value} {n : Nat} {xs : List Value} (h : w.ownsRow base e size v n xs) {b : Nat} {cs : Array Value} {t : TypeId} (hb : w.heap[b]? = some (.cells cs t (0, 0))) (ht : t ≠ e) : some b ≠ v.ownBlock := by
  intro hk
  obtain ⟨cur, hc⟩ := own_type h hk.symm
  rw [hb] at hc
  simp at hc
  exact ht hc.2

theorem added_none {w : World} {base o : Nat} {v : Value} {O : List (Int × Int × List (Int × Int))} (hbox : w.heap[o]? = some (.cells #[v] 136 (0, 0))) (hout : OutAt w base v O) (hbase : base ≤ w.heap.size) (x : Obj) : AddedTo w (w.alloc x) base o O :=
  ⟨v, (heap_old w x o (block_lt hbox)).trans hbox, hout.kept fun b hb _ => heap_old w x b hb, (Below.refl _ _).alloc hbase _, fun b _ _ _ _ h => (heap_old w x b (block_lt h)).trans h⟩

/-- A band is appended. -/
theorem added_append {w w' : World} {base o : Nat} {v : Value} {P : List ((Int × Int × List (Int × Int)) × Value)} {q : (Int × Int × List (Int × Int)) × Value}
    (hbox : w.heap[o]? = some (.cells #[v] 136 (0, 0))) (hbo : base ≤ o) (hown : w.ownsRow base 192 3 v P.length (bandCells P)) (hsp : ∀ p ∈ P, SpansAt w p.2 p.1.2.2 ∧ SpB base p.2) (hq : SpansAt w q.2 q.1.2.2 ∧ SpB base q.2)
    (h : Appended w w' base o v P.length (bandCells P) (bandCells [q])) : AddedTo w w' base o ((P ++ [q]).map Prod.fst) := by
  obtain ⟨g, cap, w1, hown1, hbel, hgr, hlt, hat, nq, rfl⟩ := h
  have ol := block_lt hbox
  have hno : some o ≠ v.ownBlock := not_own hown hbox (by decide)
  have hgo : g ≠ o := by
    rcases hat with h | h
    · intro e; subst e; exact hno h.symm
    · omega
  have hkeep : ∀ (b : Nat) (cs : Array Value) (t : TypeId), b ≠ o → t ≠ 192 → w.heap[b]? = some (.cells cs t (0, 0)) → ((w1.setCell ⟨o, 0, none⟩ (.slice (some ⟨g, 0, none⟩) (P.length + 1) cap)).drewN nq).heap[b]? = some (.cells cs t (0, 0)) := by
    intro b cs t hbo ht hb
    show (w1.setCell ⟨o, 0, none⟩ (.slice (some ⟨g, 0, none⟩) (P.length + 1) cap)).heap[b]? = _
    rw [Below.heap_setCell _ _ _ _ hbo, hgr.block b (block_lt hb) (not_own hown hb ht)]
    exact hb
  refine ⟨.slice (some ⟨g, 0, none⟩) (P.length + 1) cap, ?_, ⟨P ++ [q], rfl, ?_, fun p hp => ?_, fun h => by simp at h⟩, ?_, hkeep⟩
  · have h1 : w1.heap[o]? = some (.cells #[v] 136 (0, 0)) := (hgr.block o ol hno).trans hbox
    exact one_setCell h1
  · rw [bandCells_append, List.length_append]
    exact ownsRow_setCell_other hown1 (by simp [Value.ownBlock]; exact hgo) _
  · have hpq : SpansAt w p.2 p.1.2.2 ∧ SpB base p.2 := by
      simp at hp
      rcases hp with hp | hp
      · exact hsp p hp
      · subst hp; exact hq
    refine ⟨hpq.1.kept fun b cur e => ?_, hpq.2⟩
    have hne : b ≠ o := by
      intro h; subst h; rw [hbox] at e; simp at e
    rw [hkeep b cur _ hne (by decide) e, e]
  · exact below_drewN (hbel.setCell hbo _) nq

theorem bandCells_set (D : List ((Int × Int × List (Int × Int)) × Value)) (l : Int × Int × List (Int × Int)) (ul : Value) (x : Int) : (bandCells (D ++ [(l, ul)])).set (D.length * 3 + 1) (.int .i64 x) = bandCells (D ++ [((l.1, x, l.2.2), ul)]) := by
  rw [bandCells_append, bandCells_append, List.set_append, if_neg (by rw [bandCells_len]; omega), bandCells_len, show D.length * 3 + 1 - D.length * 3 = 1 by omega]
  rfl

/-- The last band carries on. -/
theorem added_carry {w : World} {base o g cap : Nat} {D : List ((Int × Int × List (Int × Int)) × Value)} {l : Int × Int × List (Int × Int)} {ul : Value} (bottom : Int) (x : Obj) (nq : Nat)
    (hbox : w.heap[o]? = some (.cells #[.slice (some ⟨g, 0, none⟩) (D.length + 1) cap] 136 (0, 0))) (hbase : base ≤ w.heap.size) (hgb : base ≤ g)
    (hown : w.ownsRow base 192 3 (.slice (some ⟨g, 0, none⟩) (D.length + 1) cap) (D.length + 1) (bandCells (D ++ [(l, ul)]))) (hsp : ∀ p ∈ D ++ [(l, ul)], SpansAt w p.2 p.1.2.2 ∧ SpB base p.2) :
    AddedTo w (((w.alloc x).setCell ⟨g, D.length * 3 + 1, none⟩ (.int .i64 bottom)).drewN nq) base o ((D ++ [((l.1, bottom, l.2.2), ul)]).map Prod.fst) := by
  have ol := block_lt hbox
  have hno : some o ≠ (Value.slice (some ⟨g, 0, none⟩) (D.length + 1) cap).ownBlock := not_own hown hbox (by decide)
  have hog : o ≠ g := fun e => hno (by simp [Value.ownBlock, e])
  have hkeep : ∀ (b : Nat) (cs : Array Value) (t : TypeId), t ≠ 192 → w.heap[b]? = some (.cells cs t (0, 0)) → (((w.alloc x).setCell ⟨g, D.length * 3 + 1, none⟩ (.int .i64 bottom)).drewN nq).heap[b]? = some (.cells cs t (0, 0)) := by
    intro b cs t ht hb
    have hne : b ≠ g := fun e => not_own hown hb ht (by simp [Value.ownBlock, e])
    show ((w.alloc x).setCell ⟨g, D.length * 3 + 1, none⟩ (.int .i64 bottom)).heap[b]? = _
    rw [Below.heap_setCell _ _ _ _ hne, heap_old w x b (block_lt hb)]
    exact hb
  refine ⟨.slice (some ⟨g, 0, none⟩) (D.length + 1) cap, hkeep o _ _ (by decide) hbox, ⟨D ++ [((l.1, bottom, l.2.2), ul)], rfl, ?_, fun p hp => ?_, fun h => by simp at h⟩, ?_, fun b cs t _ ht hb => hkeep b cs t ht hb⟩
  · obtain ⟨e1, e2⟩ := hown
    rcases e2 with ⟨e2, _⟩ | ⟨g', cap', cur, e3, e4, e5, e6, e7, e8, e9⟩
    · simp at e2
    · simp at e3
      obtain ⟨rfl, rfl⟩ := e3
      refine ⟨by rw [bandCells_len], .inr ⟨g, cap, cur.setIfInBounds (D.length * 3 + 1) (.int .i64 bottom), by simp, e4, ?_, by simpa using e6, e7, by simpa using e8, ?_⟩⟩
      · show ((w.alloc x).setCell ⟨g, D.length * 3 + 1, none⟩ (.int .i64 bottom)).heap[g]? = _
        exact heap_setCell_same (w.alloc x) g (D.length * 3 + 1) cur 192 (.int .i64 bottom) ((heap_old w x g (block_lt e5)).trans e5)
      · rw [← bandCells_set, ← e9, Array.toList_setIfInBounds, List.take_set]
        simp
  · have hpq : ∃ p0 ∈ D ++ [(l, ul)], p0.2 = p.2 ∧ p0.1.2.2 = p.1.2.2 := by
      simp at hp
      rcases hp with hp | hp
      · exact ⟨p, by simp [hp], rfl, rfl⟩
      · subst hp; exact ⟨(l, ul), by simp, rfl, rfl⟩
    obtain ⟨p0, hp0, q1, q2⟩ := hpq
    have := hsp p0 hp0
    rw [q1, q2] at this
    exact ⟨this.1.kept fun b cur e => by rw [hkeep b cur _ (by decide) e, e], this.2⟩
  · exact below_drewN ((((Below.refl _ _).alloc hbase _)).setCell hgb _) nq

theorem add_any (base o : Nat) (v u : Value) (O : List (Int × Int × List (Int × Int))) (top bottom : Int) (L : List (Int × Int)) (w : World) (hbox : w.heap[o]? = some (.cells #[v] 136 (0, 0))) (hout : OutAt w base v O) (hu : SpansAt w u L) (hub : SpB base u)
    (hbase : base ≤ w.heap.size) (hbo : base ≤ o) (hO : O.length ≤ 9000) (hL : L.length ≤ 10000) (hO2 : ∀ b ∈ O, b.2.2.length ≤ 10000) :
    Calls Tryz.prog 154 #[.pointer (some ⟨o, 0, none⟩), .agg #[.int .i64 top, .int .i64 bottom, u]] w fun e w' => e = .returned (.tuple #[]) ∧ AddedTo w w' base o (addB O (top, bottom, L)) := by
  have ho := cell_of_one hbox
  have hfo := free_of_one hbox
  rcases hu with ⟨rfl, rfl⟩ | ⟨ub, c, cur, rfl, hne, hb, hc⟩
  · refine (add_none o top bottom w).mono fun e w' ⟨he, hw⟩ => ⟨he, ?_⟩
    subst hw
    have : addB O (top, bottom, []) = O := by unfold addB; simp
    rw [this]
    exact added_none hbox hout hbase _
  · have hu : SpansAt w (.slice (some ⟨ub, 0, none⟩) L.length c) L := .inr ⟨ub, c, cur, rfl, hne, hb, hc⟩
    have hpos : 0 < L.length := by cases L with
      | nil => exact absurd rfl hne
      | cons a L => simp
    obtain ⟨P, rfl, hown, hsp, hnil⟩ := hout
    by_cases hP : P = []
    · subst hP
      obtain rfl := hnil rfl
      refine (add_first base o c ub top bottom L.length [] w hpos ho hfo hown hbase).mono fun e w' ⟨he, hw⟩ => ⟨he, ?_⟩
      have : addB (List.map Prod.fst ([] : List ((Int × Int × List (Int × Int)) × Value))) (top, bottom, L) = (([] ++ [((top, bottom, L), Value.slice (some ⟨ub, 0, none⟩) L.length c)]).map Prod.fst) := by unfold addB; simp [hne]
      rw [this]
      exact added_append (q := ((top, bottom, L), .slice (some ⟨ub, 0, none⟩) L.length c)) hbox hbo hown hsp ⟨hu, hub⟩ hw
    · obtain ⟨D, l, ul, rfl⟩ : ∃ D l ul, P = D ++ [(l, ul)] := ⟨P.dropLast, (P.getLast hP).1, (P.getLast hP).2, (List.dropLast_concat_getLast hP).symm⟩
      rw [List.length_append] at hown
      obtain ⟨g, cap, rfl, hgb, hgl⟩ := hown.form (by simp)
      simp only [List.length_cons, List.length_nil, Nat.zero_add] at hown ho hbox
      have hm : D.length ≤ 10000 := by simp at hO; omega
      obtain ⟨_, c2, c3⟩ := bandCells_at (D ++ [(l, ul)]) D.length (by simp)
      have cs := hown.cells (g := g) rfl
      have k2 : w.cell? ⟨g, D.length * 3 + 1, none⟩ = some (.int .i64 l.2.1) := by rw [← add_at]; simpa using cs _ _ c2
      have k3 : w.cell? ⟨g, D.length * 3 + 2, none⟩ = some ul := by rw [← add_at]; simpa using cs _ _ c3
      have hog : o ≠ g := fun e => not_own hown hbox (by decide) (by simp [Value.ownBlock, e])
      have hul : SpansAt w ul l.2.2 := by simpa using (hsp (l, ul) (by simp)).1
      have hll : l.2.2.length ≤ 10000 := hO2 l (by simp)
      have hfz : w.frozen? ⟨g, D.length * 3 + 1, none⟩ = false := by
        obtain ⟨cur', hcur'⟩ := own_type hown (k := g) rfl
        simp [World.frozen?, hcur']
      have hlast : ((D ++ [(l, ul)]).map Prod.fst).getLast? = some l := by simp
      have hdrop : ((D ++ [(l, ul)]).map Prod.fst).dropLast = D.map Prod.fst := by simp
      have hq : SpansAt w ((top, bottom, L), Value.slice (some ⟨ub, 0, none⟩) L.length c).2 ((top, bottom, L), Value.slice (some ⟨ub, 0, none⟩) L.length c).1.2.2 ∧ SpB base ((top, bottom, L), Value.slice (some ⟨ub, 0, none⟩) L.length c).2 := ⟨hu, hub⟩
      have hown' : w.ownsRow base 192 3 (.slice (some ⟨g, 0, none⟩) (D.length + 1) cap) (D ++ [(l, ul)]).length (bandCells (D ++ [(l, ul)])) := by simpa using hown
      by_cases et : l.2.1 = top
      · subst et
        by_cases es : l.2.2 = L
        · refine (add_carries o g D.length cap c ub ul l.2.1 bottom L.length w hm hpos ho k2 k3 hfz fun w1 hw1 => ?_).mono fun e w' ⟨he, nq, hw⟩ => ⟨he, ?_⟩
          · refine (equal_any l.2.2 L ul _ w1 (hul.below hw1) (hu.below hw1) hll).mono fun e w' ⟨he, hw⟩ => ⟨?_, hw⟩
            rw [he, es]; simp
          · subst hw
            have : addB ((D ++ [(l, ul)]).map Prod.fst) (l.2.1, bottom, L) = (D ++ [((l.1, bottom, l.2.2), ul)]).map Prod.fst := by
              unfold addB
              rw [if_neg hne, hlast, hdrop]
              simp [es]
            rw [this]
            exact added_carry bottom _ nq hbox hbase hgb hown hsp
        · refine (add_other base o c ub l.2.1 bottom L.length (bandCells (D ++ [(l, ul)])) w hpos g D.length cap hm ho hfo hown hog hgb k2 ul k3 (fun w1 hw1 => ?_) hbase).mono fun e w' ⟨he, hw⟩ => ⟨he, ?_⟩
          · refine (equal_any l.2.2 L ul _ w1 (hul.below hw1) (hu.below hw1) hll).mono fun e w' ⟨he, hw⟩ => ⟨?_, hw⟩
            rw [he]; simp [es]
          · have : addB ((D ++ [(l, ul)]).map Prod.fst) (l.2.1, bottom, L) = (D ++ [(l, ul)] ++ [((l.2.1, bottom, L), Value.slice (some ⟨ub, 0, none⟩) L.length c)]).map Prod.fst := by
              unfold addB
              rw [if_neg hne, hlast]
              simp [es]
            rw [this]
            refine added_append hbox hbo hown' hsp hq ?_
            rw [List.length_append]
            exact hw
      · refine (add_apart base o c ub top bottom L.length (bandCells (D ++ [(l, ul)])) w hpos g D.length cap hm ho hfo hown hog hgb l.2.1 k2 (by simpa using et) hbase).mono fun e w' ⟨he, hw⟩ => ⟨he, ?_⟩
        have : addB ((D ++ [(l, ul)]).map Prod.fst) (top, bottom, L) = (D ++ [(l, ul)] ++ [((top, bottom, L), Value.slice (some ⟨ub, 0, none⟩) L.length c)]).map Prod.fst := by
          unfold addB
          rw [if_neg hne, hlast]
          simp [et]
        rw [this]
        refine added_append hbox hbo hown' hsp hq ?_
        rw [List.length_append]
        exact hw

end Go.Proofs.YtofinpocigbbeaaGreat
