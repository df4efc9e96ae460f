import Derived.Test.YtofinpocigbbeaaGreatWthB
namespace Go.Proofs.YtofinpocigbbeaaGreat
open Go.RowKit

/-- One cell of an owned row is written. -/
theorem own_set {w : World} {base : Nat} {e : TypeId} {size g c n j : Nat} {xs : List Value} (h : w.ownsRow base e size (.slice (some ⟨g, 0, none⟩) n c) n xs) (u : Value) : (w.setCell ⟨g, j, none⟩ u).ownsRow base e size (.slice (some ⟨g, 0, none⟩) n c) n (xs.set j u) := by
  obtain ⟨e1, e2⟩ := h
  rcases e2 with ⟨e2, _⟩ | ⟨g', cap', cur, e3, e4, e5, e6, e7, e8, e9⟩
  · simp at e2
  · simp at e3
    obtain ⟨rfl, rfl⟩ := e3
    refine ⟨by rw [List.length_set]; exact e1, .inr ⟨g, c, cur.setIfInBounds j u, rfl, e4, heap_setCell_same w g j cur e u e5, e6, e7, by simpa using e8, ?_⟩⟩
    rw [← e9, Array.toList_setIfInBounds, List.take_set]

theorem own_free {w : World} {base : Nat} {e : TypeId} {size g c n : Nat} {xs : List Value} (h : w.ownsRow base e size (.slice (some ⟨g, 0, none⟩) n c) n xs) (j : Nat) : w.frozen? ⟨g, j, none⟩ = false := by
  obtain ⟨cur, hc⟩ := own_type h (k := g) rfl
  simp [World.frozen?, hc]

/-- append(s, x...), whatever x is: a nil slice, or a row in memory. -/
theorem wpList_append_row {P : Program} {w : World} {ops : Array Oper} {rest : List Oper} {o : Oper} {a : Act} {Q : Exit → Act → World → Prop} (hgd : o.guard = none) (s x : Operand) (t : TypeId)
    (ho : o.op = .call { callee := .builtin .append, args := #[s, x], argTypes := #[t, t] })
    (base : Nat) (e : TypeId) (i : TypeInfo) (z : Value) (size bytes : Nat) (ht : P.underlying t = some (.slice e)) (hi : P.info? e = some i) (hz : i.zero = some z)
    (hsize : i.size = size) (hby : i.bytes = bytes) (hzs : z.cells.size = size) (hsz : 0 < size)
    (v : Value) (n : Nat) (xs : List Value) (hs : a.eval s = v) (hown : w.ownsRow base e size v n xs)
    (vx : Value) (m : Nat) (news : List Value) (hx : a.eval x = vx) (hl : news.length = m * size) (hvx : (vx = .slice none 0 0 ∧ m = 0) ∨ ∃ ad c, vx = .slice (some ad) m c ∧ ∀ j u, news[j]? = some u → w.cell? (ad.add j) = some u) (h1 : ∀ u ∈ news, u.oneCell' = true)
    (h63 : n + m ≤ maxLen) (hbytes : (n + m) * bytes ≤ 140737488355328) (hbase : base ≤ w.heap.size)
    (h : ∀ v' w', w'.ownsRow base e size v' (n + m) (xs ++ news) → w.grownBy w' v.ownBlock → (v' = .slice none 0 0 ↔ v = .slice none 0 0 ∧ m = 0) → (v'.ownBlock = v.ownBlock ∨ v'.ownBlock = some w.heap.size) → wpList P ops Q rest (a.put o.dst v') w') :
    wpList P ops Q (o :: rest) a w := by
  rcases hvx with ⟨hv, hm⟩ | ⟨ad, c, hv, hnews⟩
  · subst hv hm
    refine wpList_plain hgd fun K hK => ?_
    have hr := run_append_owned_none (P := P) (w := w) base t o.type e i size ht hi v n xs hown
    unfold Oper.wp execOp
    simp only [ho, resolve, invoke, builtin, Sem.run_bind, Sem.run_pure, Result.andThen_ok, List.map_toArray, List.map_cons, List.map_nil, hs, hx, hr]
    have hn0 : news = [] := List.length_eq_zero_iff.mp (by rw [hl, Nat.zero_mul])
    subst hn0
    refine hK _ _ (h v w (by rw [List.append_nil, Nat.add_zero]; exact hown) ⟨rfl, rfl, rfl, Nat.le_refl _, fun _ _ _ => rfl⟩ (by simp) (.inl rfl))
  · exact wpList_append_own_at w hgd s x t ho base e i z size bytes ht hi hz hsize hby hzs hsz v n xs hs hown ad m c news (hx.trans hv) hl hnews h1 h63 hbytes hbase h

theorem addr_off (b off j : Nat) : (⟨b, off, none⟩ : Addr).add j = ⟨b, off + j, none⟩ := by unfold Addr.add; split <;> simp_all

/-- A list of rectangles as append's second argument. -/
theorem rects_news {w : World} {v : Value} {l : List (Int × Int × Int × Int)} (h : RectsAt w v l) (hn : l = [] → v = .slice none 0 0 ∨ ∃ ad c, v = .slice (some ad) 0 c) : (v = .slice none 0 0 ∧ l.length = 0) ∨ ∃ ad c, v = .slice (some ad) l.length c ∧ ∀ j u, (rectCells l)[j]? = some u → w.cell? (ad.add j) = some u := by
  by_cases hl : l = []
  · rcases hn hl with hn | ⟨ad, c, hn⟩
    · exact .inl ⟨hn, by rw [hl]; rfl⟩
    · exact .inr ⟨ad, c, by rw [hl]; exact hn, fun j u hu => by rw [hl] at hu; simp [rectCells] at hu⟩
  · right
    have hpos : 0 < l.length := by cases l with
      | nil => exact absurd rfl hl
      | cons a l => simp
    obtain ⟨a, c, rfl, hc⟩ := h
    obtain ⟨b, off, rfl, hcs⟩ := hc hpos
    refine ⟨_, c, rfl, fun j u hu => ?_⟩
    have hj : j < l.length * 4 := by
      rw [← rectCells_len]
      exact (List.getElem?_eq_some_iff.1 hu).1
    obtain ⟨k, hk⟩ : ∃ k, j / 4 = k := ⟨_, rfl⟩
    have hkl : k < l.length := by omega
    obtain ⟨q1, q2, q3, q4⟩ := rectCells_at l k hkl
    obtain ⟨c1, c2, c3, c4⟩ := hcs k hkl
    rw [addr_off]
    have hcase : j = k * 4 ∨ j = k * 4 + 1 ∨ j = k * 4 + 2 ∨ j = k * 4 + 3 := by omega
    clear hk hj
    rcases hcase with rfl | rfl | rfl | rfl
    · rw [q1] at hu; rw [← hu]; exact c1
    · rw [q2] at hu; rw [← hu]; exact c2
    · rw [q3] at hu; rw [← hu]; exact c3
    · rw [q4] at hu; rw [← hu]; exact c4

theorem rect_oneCell (l : List (Int × Int × Int × Int)) : ∀ u ∈ rectCells l, u.oneCell' = true := by
  intro u hu
  unfold rectCells at hu
  rw [List.mem_flatMap] at hu
  obtain ⟨r, _, hu⟩ := hu
  simp at hu
  rcases hu with rfl | rfl | rfl | rfl <;> rfl

theorem row_form {w : World} {base : Nat} {e : TypeId} {size n : Nat} {v : Value} {xs : List Value} (h : w.ownsRow base e size v n xs) : ∃ a c, v = .slice a n c := by
  rcases h.2 with ⟨h, h0⟩ | ⟨g, cap, cur, h, _⟩
  · exact ⟨none, 0, by rw [h, h0]⟩
  · exact ⟨_, _, h⟩

end Go.Proofs.YtofinpocigbbeaaGreat
