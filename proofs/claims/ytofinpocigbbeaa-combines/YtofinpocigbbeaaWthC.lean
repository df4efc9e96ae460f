import Derived.Test.YtofinpocigbbeaaWthB
namespace Go.Proofs.Ytofinpocigbbeaa
open Go.RowKit

/-- A rising list, with one number more. -/
def Widened (E E2 : List Int) (x : Int) : Prop := E2.Pairwise (· < ·) ∧ (∀ y, y ∈ E2 ↔ y ∈ E ∨ y = x) ∧ E2.length ≤ E.length + 1 ∧ E2 ≠ []

theorem widened_empty (x : Int) : Widened [] [x] x := ⟨by simp, fun y => by simp, by simp, by simp⟩

theorem widened_same {E : List Int} {x : Int} (hs : E.Pairwise (· < ·)) (h : x ∈ E) : Widened E E x :=
  ⟨hs, fun y => ⟨fun hy => .inl hy, fun hy => by rcases hy with hy | hy; exact hy; subst hy; exact h⟩, by omega, fun e => by rw [e] at h; simp at h⟩

theorem widened_more {E : List Int} {x : Int} {k : Nat} (hs : E.Pairwise (· < ·)) (h1 : ∀ j (hj : j < E.length), j < k → E[j] < x) (h2 : ∀ j (hj : j < E.length), k ≤ j → x < E[j]) : Widened E (E.take k ++ [x] ++ E.drop k) x := by
  have a : ∀ y ∈ E.take k, y < x := by
    intro y hy
    obtain ⟨j, hj, rfl⟩ := List.getElem_of_mem hy
    rw [List.getElem_take]
    rw [List.length_take] at hj
    exact h1 j (by omega) (by omega)
  have b : ∀ y ∈ E.drop k, x < y := by
    intro y hy
    obtain ⟨j, hj, rfl⟩ := List.getElem_of_mem hy
    rw [List.getElem_drop]
    rw [List.length_drop] at hj
    exact h2 (k + j) (by omega) (by omega)
  refine ⟨?_, fun y => ?_, ?_, by simp⟩
  · rw [List.pairwise_append, List.pairwise_append]
    refine ⟨⟨hs.sublist (List.take_sublist k E), by simp, fun p hp q hq => ?_⟩, hs.sublist (List.drop_sublist k E), fun p hp q hq => ?_⟩
    · simp at hq; subst hq; exact a p hp
    · have hb := b q hq
      simp at hp
      rcases hp with hp | hp
      · have := a p hp; omega
      · omega
  · rw [List.mem_append, List.mem_append, List.mem_singleton]
    constructor
    · rintro ((h | h) | h)
      · exact .inl (List.mem_of_mem_take h)
      · exact .inr h
      · exact .inl (List.mem_of_mem_drop h)
    · rintro (h | h)
      · rw [← List.take_append_drop k E, List.mem_append] at h
        rcases h with h | h
        · exact .inl (.inl h)
        · exact .inr h
      · exact .inl (.inr h)
  · simp [List.length_take, List.length_drop]; omega

/-- What 'with' leaves. -/
def WithPost (base : Nat) (E : List Int) (x : Int) (w : World) (e : Ending) (w' : World) : Prop := ∃ u E2, e = .returned u ∧ OwnI w' base u E2 ∧ Widened E E2 x ∧ Below w.heap.size w w'

/-- Some numbers of a row, to be appended. -/
theorem ints_news {W : World} {g : Nat} {E : List Int} (hc : ∀ j (hj : j < E.length), W.cell? ⟨g, j, none⟩ = some (.int .i64 E[j])) (off m : Nat) (h : off + m ≤ E.length) :
    ((((E.drop off).take m).map (Value.int .i64)).length = m * 1) ∧ ∀ j u, (((E.drop off).take m).map (Value.int .i64))[j]? = some u → W.cell? ((⟨g, off, none⟩ : Addr).add j) = some u := by
  refine ⟨by rw [List.length_map, List.length_take, List.length_drop]; omega, fun j u hu => ?_⟩
  rw [List.getElem?_map] at hu
  have hadd : (⟨g, off, none⟩ : Addr).add j = ⟨g, off + j, none⟩ := by unfold Addr.add; split <;> simp_all
  by_cases hj : j < m
  · rw [List.getElem?_take_of_lt hj, List.getElem?_drop, List.getElem?_eq_getElem (by omega)] at hu
    simp at hu
    rw [hadd, ← hu]
    exact hc (off + j) (by omega)
  · rw [List.getElem?_eq_none (by simp; omega)] at hu
    simp at hu

theorem int_oneCell (L : List Int) : ∀ u ∈ L.map (Value.int .i64), u.oneCell' = true := by
  intro u hu
  rw [List.mem_map] at hu
  obtain ⟨x, _, rfl⟩ := hu
  rfl

/-- The old row's cells, behind two appends elsewhere. -/
theorem with_cells {wr w1 w2 : World} {g : Nat} {E : List Int} {v1 : Value} {o : Obj} (hc : ∀ j (hj : j < E.length), wr.cell? ⟨g, j, none⟩ = some (.int .i64 E[j])) (hgl : g < wr.heap.size) (h1 : wr.grownBy w1 (Value.slice none 0 0).ownBlock)
    (ha : v1.ownBlock = (Value.slice none 0 0).ownBlock ∨ v1.ownBlock = some wr.heap.size) (hz : wr.heap.size ≤ w1.heap.size) (h2 : (w1.alloc o).grownBy w2 v1.ownBlock) : ∀ j (hj : j < E.length), w2.cell? ⟨g, j, none⟩ = some (.int .i64 E[j]) := by
  intro j hj
  have a1 : w1.cell? ⟨g, j, none⟩ = wr.cell? ⟨g, j, none⟩ := h1.cell_far ⟨g, j, none⟩ hgl (by simp [Value.ownBlock])
  have a2 : (w1.alloc o).cell? ⟨g, j, none⟩ = w1.cell? ⟨g, j, none⟩ := cell_old w1 o g j (by omega)
  have a3 : w2.cell? ⟨g, j, none⟩ = (w1.alloc o).cell? ⟨g, j, none⟩ := h2.cell_far ⟨g, j, none⟩ (by simp; omega) (by
    intro e
    rcases ha with ha | ha
    · rw [ha] at e; simp [Value.ownBlock] at e
    · rw [ha] at e; simp at e; omega)
  rw [a3, a2, a1]
  exact hc j hj

theorem with_done {base n k : Nat} {E : List Int} {x : Int} {wr w1 w2 w3 : World} {v1 v2 u : Value} {o : Obj} (hn : E.length = n) (hk : k ≤ n) (hb : base ≤ wr.heap.size) (hwd : Widened E (E.take k ++ [x] ++ E.drop k) x)
    (o1 : w1.ownsRow wr.heap.size 3 1 v1 k ((E.take k).map (Value.int .i64))) (g1 : wr.grownBy w1 (Value.slice none 0 0).ownBlock) (g2 : (w1.alloc o).grownBy w2 v1.ownBlock)
    (o2 : w2.ownsRow wr.heap.size 3 1 v2 (k + 1) ((E.take k).map (Value.int .i64) ++ [.int .i64 x])) (g3 : w2.grownBy w3 v2.ownBlock)
    (o3 : w3.ownsRow wr.heap.size 3 1 u (k + 1 + (n - k)) ((E.take k).map (Value.int .i64) ++ [.int .i64 x] ++ ((E.drop k).take (n - k)).map (Value.int .i64))) : WithPost base E x wr (.returned u) w3 := by
  refine ⟨u, _, rfl, ⟨?_, fun h => by simp at h⟩, hwd, ?_⟩
  · have e1 : (E.take k ++ [x] ++ E.drop k).length = k + 1 + (n - k) := by simp [List.length_take, List.length_drop]; omega
    have e2 : (E.take k ++ [x] ++ E.drop k).map (Value.int .i64) = (E.take k).map (Value.int .i64) ++ [.int .i64 x] ++ ((E.drop k).take (n - k)).map (Value.int .i64) := by
      rw [List.map_append, List.map_append, List.take_of_length_le (l := E.drop k) (by rw [List.length_drop]; omega)]
      rfl
    rw [e1, e2]
    exact ⟨o3.1, o3.2.imp id fun ⟨g, c, cur, e1, e2, e3⟩ => ⟨g, c, cur, e1, Nat.le_trans hb e2, e3⟩⟩
  · have b1 : Below wr.heap.size wr w1 := (Below.refl wr.heap.size wr).grown g1 (Nat.le_refl _) fun k hk => by simp [Value.ownBlock] at hk
    have z1 := g1.size
    have b2 : Below wr.heap.size wr w2 := (b1.alloc (by omega) o).grown g2 (by simp; omega) fun k hk => (o1.lt k hk).1
    have z2 := g2.size
    simp at z2
    exact b2.grown g3 (by omega) fun k hk => (o2.lt k hk).1

set_option maxRecDepth 100000 in
set_option maxHeartbeats 1000000 in
theorem with_more (E : List Int) (v : Value) (x : Int) (base : Nat) (w : World) (h : OwnI w base v E) (hs : E.Pairwise (· < ·)) (hne : E ≠ []) (hl : E.length ≤ 1000) (hb : base ≤ w.heap.size) :
    Calls Try.prog 31 #[v, .int .i64 x] w (WithPost base E x w) := by
  obtain ⟨i0, hi0, hz0, hz1, hz2⟩ := info_parts intInfo
  have HO := hide h
  obtain ⟨g, cp, hv, hbg, hgl, hcap, hcs⟩ := h.at hne
  subst hv
  have HS := hide hs
  have HC := hide hcs
  obtain ⟨n, hn⟩ : ∃ n, E.length = n := ⟨_, rfl⟩
  rw [hn] at hcap hl
  rw [hn]
  have HN := hide hn
  clear h hs hcs hn hne
  go_enter Try.func31, Try.ntmps31
  go_wp2
  go_loopg [5] n (fun gg s5 wr => ∃ k : Nat, s5 = .int .i64 k ∧ gg + k = n ∧ (∀ j (hj : j < E.length), j < k → E[j] < x) ∧ wr = w)
  case atStart => exact ⟨0, rfl, by omega, fun j _ h => by omega, rfl⟩
  case round =>
    obtain ⟨k, rfl, hgk, hrun, hw⟩ := hrel
    subst hw
    have HRun := hide hrun
    clear hrun
    by_cases hkn : k < n
    · have hkE : k < E.length := by rw [HN.out]; exact hkn
      have c1 := HC.out k hkE
      obtain ⟨e, he⟩ : ∃ e, E[k] = e := ⟨_, rfl⟩
      rw [he] at c1
      have HE := hide he
      clear he
      have hlt : (k : Int) < (n : Int) := by omega
      by_cases h1 : e < x
      · go_wp2
        go_roundg (gk - 1)
        case measure => omega
        case rel =>
          refine ⟨k + 1, by go_num, by omega, fun j hj hjk => ?_, rfl⟩
          by_cases ej : j = k
          · subst ej; rw [HE.out]; exact h1
          · exact HRun.out j hj (by omega)
      · by_cases h2 : e = x
        · have h2b : (e == x) = true := by simpa using h2
          have H2 := hide h2
          clear h2
          go_wp2
          go_ret
          refine ⟨_, E, rfl, ?_, widened_same HS.out ?_, Below.refl _ _⟩
          · have := HO.out
            rw [HN.out] at this
            exact this
          · rw [← H2.out, ← HE.out]; exact List.getElem_mem hkE
        · have h2b : (e == x) = false := by simpa using h2
          have hwd : Hid (Widened E (E.take k ++ [x] ++ E.drop k) x) := widened_more HS.out HRun.out fun j hj hkj => by
            have h3 : x < E[k] := by rw [HE.out]; omega
            by_cases ej : j = k
            · subst ej; exact h3
            · have := List.pairwise_iff_getElem.1 HS.out k j hkE hj (by omega)
              omega
          have hkc : (k : Int) ≤ (cp : Int) := by omega
          have hkn2 : (k : Int) ≤ (n : Int) := by omega
          have HT1 := hide (ints_news HC.out 0 k (by rw [HN.out]; omega))
          go_wp2_with (first
            | (at_builtin; refine wpList_append_own_at _ rfl (.tmp 34) (.tmp 37) 61 rfl wr.heap.size 3 i0 (.int .i64 0) 1 8 Try.underlying61 hi0 hz0 hz1 hz2 rfl (by decide) (.slice none 0 0) 0 [] rfl (World.ownsRow_nil _ _ _ _) ⟨g, 0, none⟩ k cp (((E.drop 0).take k).map (Value.int .i64)) rfl HT1.out.1 HT1.out.2 (int_oneCell _) (by unfold maxLen; omega) (by omega) (by omega) ?_; intro v1 w1 hown1 hgrow1 hnil1 hat1; simp only [Nat.zero_add, List.nil_append, List.drop_zero] at hown1; have HO1 := hide hown1; have HG1 := hide hgrow1; have HA1 := hide hat1; have hz1s : wr.heap.size ≤ w1.heap.size := hgrow1.size; clear hown1 hgrow1 hnil1 hat1)
            | (at_builtin; refine wpList_append_lies _ rfl (.tmp 39) (.tmp 41) 61 rfl wr.heap.size 3 i0 (.int .i64 0) 1 8 Try.underlying61 hi0 hz0 hz1 hz2 rfl (by decide) v1 k ((E.take k).map (Value.int .i64)) rfl (HO1.out.alloc _) ⟨w1.heap.size, 0, none⟩ 1 1 [.int .i64 x] rfl rfl (World.news_of_block (cs := #[.int .i64 x]) (t := 3) (fr := (0, 0)) (heap_alloc_new w1 _)) (by simp [Value.oneCell']) (by omega) (by unfold maxLen; omega) (by omega) (by simp; omega) _ rfl ?_; intro g2 cp2 w2 hown2 hgrow2 hat2 hlt2; have HO2 := hide hown2; have hcp2 : k + 1 ≤ cp2 := own_cap hown2; have HG2 := hide hgrow2; have HC2 := hide (with_cells HC.out hgl HG1.out HA1.out hz1s hgrow2); have hz2s : w1.heap.size ≤ w2.heap.size := (by have := hgrow2.size; simp at this; omega); clear hown2 hgrow2 hat2)
            | (at_builtin; refine wpList_append_lies _ rfl (.tmp 43) (.tmp 46) 61 rfl wr.heap.size 3 i0 (.int .i64 0) 1 8 Try.underlying61 hi0 hz0 hz1 hz2 rfl (by decide) (.slice (some ⟨g2, 0, none⟩) (k + 1) cp2) (k + 1) ((E.take k).map (Value.int .i64) ++ [.int .i64 x]) rfl HO2.out ⟨g, k, none⟩ (n - k) (cp - k) (((E.drop k).take (n - k)).map (Value.int .i64)) rfl (ints_news HC2.out k (n - k) (by rw [HN.out]; omega)).1 (ints_news HC2.out k (n - k) (by rw [HN.out]; omega)).2 (int_oneCell _) (by omega) (by unfold maxLen; omega) (by omega) (by omega) _ rfl ?_; intro g3 cp3 w3 hown3 hgrow3 hat3 hlt3; have HO3 := hide hown3; have HG3 := hide hgrow3; clear hown3 hgrow3 hat3))
          go_ret
          exact with_done HN.out (by omega) hb hwd.out HO1.out HG1.out HG2.out HO2.out HG3.out HO3.out
    · have hk : k = n := by omega
      subst hk
      have hlt : ¬ (k : Int) < (k : Int) := by omega
      have hwd : Hid (Widened E (E.take k ++ [x] ++ E.drop k) x) := widened_more HS.out HRun.out fun j hj hkj => by have := HN.out; omega
      have hkc : (k : Int) ≤ (cp : Int) := by omega
      have HT1 := hide (ints_news HC.out 0 k (by rw [HN.out]; omega))
      go_wp2_with (first
        | (at_builtin; refine wpList_append_own_at _ rfl (.tmp 34) (.tmp 37) 61 rfl wr.heap.size 3 i0 (.int .i64 0) 1 8 Try.underlying61 hi0 hz0 hz1 hz2 rfl (by decide) (.slice none 0 0) 0 [] rfl (World.ownsRow_nil _ _ _ _) ⟨g, 0, none⟩ k cp (((E.drop 0).take k).map (Value.int .i64)) rfl HT1.out.1 HT1.out.2 (int_oneCell _) (by unfold maxLen; omega) (by omega) (by omega) ?_; intro v1 w1 hown1 hgrow1 hnil1 hat1; simp only [Nat.zero_add, List.nil_append, List.drop_zero] at hown1; have HO1 := hide hown1; have HG1 := hide hgrow1; have HA1 := hide hat1; have hz1s : wr.heap.size ≤ w1.heap.size := hgrow1.size; clear hown1 hgrow1 hnil1 hat1)
        | (at_builtin; refine wpList_append_lies _ rfl (.tmp 39) (.tmp 41) 61 rfl wr.heap.size 3 i0 (.int .i64 0) 1 8 Try.underlying61 hi0 hz0 hz1 hz2 rfl (by decide) v1 k ((E.take k).map (Value.int .i64)) rfl (HO1.out.alloc _) ⟨w1.heap.size, 0, none⟩ 1 1 [.int .i64 x] rfl rfl (World.news_of_block (cs := #[.int .i64 x]) (t := 3) (fr := (0, 0)) (heap_alloc_new w1 _)) (by simp [Value.oneCell']) (by omega) (by unfold maxLen; omega) (by omega) (by simp; omega) _ rfl ?_; intro g2 cp2 w2 hown2 hgrow2 hat2 hlt2; have HO2 := hide hown2; have hcp2 : k + 1 ≤ cp2 := own_cap hown2; have HG2 := hide hgrow2; have HC2 := hide (with_cells HC.out hgl HG1.out HA1.out hz1s hgrow2); have hz2s : w1.heap.size ≤ w2.heap.size := (by have := hgrow2.size; simp at this; omega); clear hown2 hgrow2 hat2))
      all_goals
        go_ret
        have e0 : k + 1 + (k - k) = k + 1 := by omega
        have e1 : (E.take k).map (Value.int .i64) ++ [.int .i64 x] ++ ((E.drop k).take (k - k)).map (Value.int .i64) = (E.take k).map (Value.int .i64) ++ [.int .i64 x] := by simp
        exact with_done HN.out (Nat.le_refl _) hb hwd.out HO1.out HG1.out HG2.out HO2.out ⟨rfl, rfl, rfl, Nat.le_refl _, fun _ _ _ => rfl⟩ (by rw [e0, e1]; exact HO2.out)

theorem with_any (E : List Int) (v : Value) (x : Int) (base : Nat) (w : World) (h : OwnI w base v E) (hs : E.Pairwise (· < ·)) (hl : E.length ≤ 1000) (hb : base ≤ w.heap.size) :
    Calls Try.prog 31 #[v, .int .i64 x] w (WithPost base E x w) := by
  by_cases hne : E = []
  · subst hne
    have hv := h.2 rfl
    subst hv
    refine (with_empty x w.heap.size w (Nat.le_refl _)).mono fun e w' ⟨u, he, ho, hbl⟩ => ⟨u, [x], he, ⟨⟨ho.1.1, ho.1.2.imp id fun ⟨g, c, cur, e1, e2, e3⟩ => ⟨g, c, cur, e1, Nat.le_trans hb e2, e3⟩⟩, ho.2⟩, widened_empty x, hbl⟩
  · exact with_more E v x base w h hs hne hl hb

end Go.Proofs.Ytofinpocigbbeaa
