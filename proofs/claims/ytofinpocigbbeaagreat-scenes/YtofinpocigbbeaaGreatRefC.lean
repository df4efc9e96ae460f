import Derived.Test.YtofinpocigbbeaaGreatRefY
namespace Go.Proofs.YtofinpocigbbeaaGreat
open Go.RowKit
attribute [local go_sem ↓] Go.wp_at_zero Go.wp_at_succ

set_option maxRecDepth 100000 in
theorem eqPx (a b c d e f g h : Int) (w : World) : (Op.equalIn 10000 51 (.agg #[.int .u8 a, .int .u8 b, .int .u8 c, .int .u8 d]) (.agg #[.int .u8 e, .int .u8 f, .int .u8 g, .int .u8 h])).run Tryz.prog w = .ok (a == e && (b == f && (c == g && d == h))) w := by
  have u3 := Tryz.underlying5
  have a3 := Tryz.isAgg5
  have z3 := Tryz.sizeOf5
  rw [show (10000 : Nat) = 9999 + 1 from rfl, Op.equalIn]
  simp only [Sem.run_bind, run_underlying Tryz.underlying51, Result.andThen_ok]
  simp only [Std.Legacy.Range.forIn_eq_forIn_range', Std.Legacy.Range.size, Nat.sub_zero, Nat.add_sub_cancel, Nat.div_one, List.range'_succ, List.range'_zero, List.forIn_cons, List.forIn_nil]
  go_simp
  by_cases h1 : a = e <;> by_cases h2 : b = f <;> by_cases h3 : c = g <;> by_cases h4 : d = h <;> simp [h1, h2, h3, h4]

/-- A block of so many numbers. -/
def IntB (w : World) (b : Nat) (T : TypeId) (k : Nat) : Prop := ∃ cur : Array Value, w.heap[b]? = some (.cells cur T (0, 0)) ∧ cur.size = k ∧ ∀ j, j < k → ∃ z : Int, cur[j]? = some (.int .i64 z)

theorem IntB.has {w : World} {b : Nat} {T : TypeId} {k : Nat} (h : IntB w b T k) : HasB w b T k := by
  obtain ⟨cur, h1, h2, _⟩ := h
  exact ⟨cur, h1, h2⟩

theorem IntB.at {w : World} {b : Nat} {T : TypeId} {k : Nat} (h : IntB w b T k) (j : Nat) (hj : j < k) : ∃ z : Int, w.cell? ⟨b, j, none⟩ = some (.int .i64 z) := by
  obtain ⟨cur, h1, h2, h3⟩ := h
  obtain ⟨z, hz⟩ := h3 j hj
  exact ⟨z, by rw [cell_of_row w b j cur _ _ h1]; exact hz⟩

theorem IntB.set {w : World} {b : Nat} {T : TypeId} {k : Nat} (h : IntB w b T k) (i : Nat) (x : Int) : IntB (w.setCell ⟨b, i, none⟩ (.int .i64 x)) b T k := by
  obtain ⟨cur, h1, h2, h3⟩ := h
  refine ⟨_, heap_setCell_same w b i cur _ _ h1, by simpa using h2, fun j hj => ?_⟩
  by_cases e : i = j
  · subst e
    exact ⟨x, by rw [Array.getElem?_setIfInBounds_self_of_lt (by omega)]⟩
  · rw [Array.getElem?_setIfInBounds_ne e]
    exact h3 j hj

theorem IntB.keep {w w' : World} {b : Nat} {T : TypeId} {k : Nat} (h : IntB w b T k) (hk : w'.heap[b]? = w.heap[b]?) : IntB w' b T k := by
  obtain ⟨cur, h1, h2⟩ := h
  exact ⟨cur, by rw [hk]; exact h1, h2⟩

theorem IntB.alloc {w : World} {b : Nat} {T : TypeId} {k : Nat} (h : IntB w b T k) (o : Obj) : IntB (w.alloc o) b T k := h.keep (heap_old w o b h.has.lt)

theorem Blk.ints4 {w : World} {b : Nat} {T : TypeId} {r : R4} (h : Blk w b T (r4C r)) : IntB w b T 4 :=
  ⟨_, h, rfl, fun j hj => by
    match j, hj with
    | 0, _ => exact ⟨_, rfl⟩
    | 1, _ => exact ⟨_, rfl⟩
    | 2, _ => exact ⟨_, rfl⟩
    | 3, _ => exact ⟨_, rfl⟩⟩


theorem seen_box {st : St} {id : Nat} {r : R4} (h : nrm (st.seen id) = r) : (r = (0, 0, 0, 0)) ∨ (r.1 < r.2.2.1 ∧ r.2.1 < r.2.2.2 ∧ st.px id ≤ r.1 ∧ r.2.2.1 ≤ st.px id + (st.sf id).now.w ∧ st.py id ≤ r.2.1 ∧ r.2.2.2 ≤ st.py id + (st.sf id).now.h) := by
  unfold nrm at h
  split at h
  · rename_i hc
    right
    subst h
    unfold has4 at hc
    simp only [decide_eq_true_eq] at hc
    refine ⟨hc.1, hc.2, ?_⟩
    unfold St.seen meet St.buf mv
    simp only
    omega
  · exact .inl h.symm

theorem pix_at {W H x y : Int} (hx : 0 ≤ x ∧ x < W) (hy : 0 ≤ y ∧ y < H) : 0 ≤ y * W + x ∧ y * W + x < W * H := by
  have h1 : (y + 1) * W ≤ H * W := Int.mul_le_mul_of_nonneg_right (by omega) (by omega)
  have h2 : 0 ≤ y * W := Int.mul_nonneg (by omega) (by omega)
  rw [Int.add_mul, Int.one_mul, Int.mul_comm H W] at h1
  omega

/-- A pixel of a row. -/
theorem PixRow.at {w : World} {S : Nat → Prop} {v : Value} {n : Int} (h : PixRow w S v n) {k : Nat} (hk : (k : Int) < n) : ∃ g cap m, v = .slice (some ⟨g, 0, none⟩) m cap ∧ (m : Int) = n ∧ m ≤ cap ∧ g < w.heap.size ∧ ∃ a b c d : Int, w.cell? ⟨g, k * 4, none⟩ = some (.int .u8 a) ∧ w.cell? ⟨g, k * 4 + 1, none⟩ = some (.int .u8 b) ∧ w.cell? ⟨g, k * 4 + 2, none⟩ = some (.int .u8 c) ∧ w.cell? ⟨g, k * 4 + 3, none⟩ = some (.int .u8 d) := by
  obtain ⟨m, xs, h1, h2, h3⟩ := h
  obtain ⟨g, cap, e1, e2, e3, e4, e5, _⟩ := h2.open (by omega)
  have hl := h2.len
  have q : ∀ j, j < 4 → ∃ a : Int, w.cell? ⟨g, k * 4 + j, none⟩ = some (.int .u8 a) := fun j hj => by
    have hj2 : k * 4 + j < xs.length := by omega
    obtain ⟨a, ha⟩ := h3 _ (List.getElem_mem hj2)
    exact ⟨a, e5 _ _ (by rw [List.getElem?_eq_getElem hj2, ha])⟩
  obtain ⟨a, ha⟩ := q 0 (by omega)
  obtain ⟨b, hb⟩ := q 1 (by omega)
  obtain ⟨c, hc⟩ := q 2 (by omega)
  obtain ⟨d, hd⟩ := q 3 (by omega)
  exact ⟨g, cap, m, e1, h1, e3, e4, a, b, c, d, ha, hb, hc, hd⟩

end Go.Proofs.YtofinpocigbbeaaGreat
