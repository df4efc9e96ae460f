import Derived.Test.YtofinpocigbbeaaGreatFrm
import Derived.Test.YtofinpocigbbeaaGreatSceB
namespace Go.Proofs.YtofinpocigbbeaaGreat
open Go.RowKit

/-- A block of so many cells, of whatever content. -/
def HasB (w : World) (b : Nat) (T : TypeId) (k : Nat) : Prop := ∃ cur : Array Value, w.heap[b]? = some (.cells cur T (0, 0)) ∧ cur.size = k

theorem HasB.lt {w : World} {b : Nat} {T : TypeId} {k : Nat} (h : HasB w b T k) : b < w.heap.size := by
  obtain ⟨cur, h1, _⟩ := h
  exact (Array.getElem?_eq_some_iff.1 h1).1

theorem HasB.set {w : World} {b : Nat} {T : TypeId} {k : Nat} (h : HasB w b T k) (g j : Nat) (u : Value) : HasB (w.setCell ⟨g, j, none⟩ u) b T k := by
  obtain ⟨cur, h1, h2⟩ := h
  by_cases e : b = g
  · subst e
    exact ⟨_, heap_setCell_same w b j cur _ u h1, by simpa using h2⟩
  · exact ⟨cur, by rw [heap_setCell_other w ⟨g, j, none⟩ b u e]; exact h1, h2⟩

theorem HasB.alloc {w : World} {b : Nat} {T : TypeId} {k : Nat} (h : HasB w b T k) (o : Obj) : HasB (w.alloc o) b T k := by
  obtain ⟨cur, h1, h2⟩ := h
  exact ⟨cur, by rw [heap_old w o b (Array.getElem?_eq_some_iff.1 h1).1]; exact h1, h2⟩

theorem HasB.drew {w : World} {b : Nat} {T : TypeId} {k : Nat} (h : HasB w b T k) : HasB w.drew b T k := h

theorem HasB.new (w : World) (cur : Array Value) (T : TypeId) : HasB (w.alloc (.cells cur T)) w.heap.size T cur.size := ⟨cur, heap_alloc_new w _, rfl⟩

theorem HasB.keep {w w' : World} {b : Nat} {T : TypeId} {k : Nat} (h : HasB w b T k) (hk : w'.heap[b]? = w.heap[b]?) : HasB w' b T k := by
  obtain ⟨cur, h1, h2⟩ := h
  exact ⟨cur, by rw [hk]; exact h1, h2⟩

theorem HasB.cell {w : World} {b : Nat} {T : TypeId} {k : Nat} (h : HasB w b T k) (j : Nat) (hj : j < k) : ∃ q, w.cell? ⟨b, j, none⟩ = some q := by
  obtain ⟨cur, h1, h2⟩ := h
  exact ⟨cur[j]'(by omega), by rw [cell_of_row w b j cur _ _ h1]; exact Array.getElem?_eq_getElem (by omega)⟩

theorem HasB.free {w : World} {b : Nat} {T : TypeId} {k : Nat} (h : HasB w b T k) (j : Nat) : w.frozen? ⟨b, j, none⟩ = false := by
  obtain ⟨cur, h1, h2⟩ := h
  simp [World.frozen?, h1]

/-- A block of known content. -/
def Blk (w : World) (b : Nat) (T : TypeId) (cs : Array Value) : Prop := w.heap[b]? = some (.cells cs T (0, 0))

theorem Blk.set {w : World} {b : Nat} {T : TypeId} {cs : Array Value} (h : Blk w b T cs) (j : Nat) (u : Value) : Blk (w.setCell ⟨b, j, none⟩ u) b T (cs.setIfInBounds j u) := heap_setCell_same w b j cs _ u h
theorem Blk.other {w : World} {b : Nat} {T : TypeId} {cs : Array Value} (h : Blk w b T cs) {g : Nat} (hg : b ≠ g) (j : Nat) (u : Value) : Blk (w.setCell ⟨g, j, none⟩ u) b T cs := by
  unfold Blk
  rw [heap_setCell_other w ⟨g, j, none⟩ b u hg]
  exact h
theorem Blk.alloc {w : World} {b : Nat} {T : TypeId} {cs : Array Value} (h : Blk w b T cs) (o : Obj) : Blk (w.alloc o) b T cs := by
  unfold Blk
  rw [heap_old w o b (Array.getElem?_eq_some_iff.1 h).1]
  exact h
theorem Blk.has {w : World} {b : Nat} {T : TypeId} {cs : Array Value} (h : Blk w b T cs) : HasB w b T cs.size := ⟨cs, h, rfl⟩
theorem Blk.cell {w : World} {b : Nat} {T : TypeId} {cs : Array Value} (h : Blk w b T cs) (j : Nat) : w.cell? ⟨b, j, none⟩ = cs[j]? := cell_of_row w b j cs _ _ h

def r4C (r : R4) : Array Value := #[.int .i64 r.1, .int .i64 r.2.1, .int .i64 r.2.2.1, .int .i64 r.2.2.2]

/-- Four cells are written. -/
theorem HasB.four {w : World} {b : Nat} {T : TypeId} (h : HasB w b T 4) (u0 u1 u2 u3 : Value) : Blk ((((w.setCell ⟨b, 0, none⟩ u0).setCell ⟨b, 1, none⟩ u1).setCell ⟨b, 2, none⟩ u2).setCell ⟨b, 3, none⟩ u3) b T #[u0, u1, u2, u3] := by
  obtain ⟨cur, h1, h2⟩ := h
  have h3 : Blk w b T cur := h1
  have h4 := (((h3.set 0 u0).set 1 u1).set 2 u2).set 3 u3
  have e : (((cur.setIfInBounds 0 u0).setIfInBounds 1 u1).setIfInBounds 2 u2).setIfInBounds 3 u3 = #[u0, u1, u2, u3] := by
    apply Array.ext_getElem?
    intro j
    match j with
    | 0 => simp [h2]
    | 1 => simp [h2]
    | 2 => simp [h2]
    | 3 => simp [h2]
    | j + 4 =>
      rw [Array.getElem?_eq_none (by simp; omega), Array.getElem?_eq_none (by simp)]
  rw [e] at h4
  exact h4

theorem al1 {B : Nat} {w : World} (h : B ≤ w.heap.size) (o1 : Obj) : Below B w (w.alloc o1) := (Below.refl B w).alloc h o1
theorem al2 {B : Nat} {w : World} (h : B ≤ w.heap.size) (o1 o2 : Obj) : Below B w ((w.alloc o1).alloc o2) := (al1 h o1).alloc (by simp; omega) o2
theorem al2d {B : Nat} {w : World} (h : B ≤ w.heap.size) (o1 o2 : Obj) : Below B w ((w.drew.alloc o1).alloc o2) := ((Below.refl B w).drew.alloc h o1).alloc (by simp; omega) o2
theorem al3 {B : Nat} {w : World} (h : B ≤ w.heap.size) (o1 o2 o3 : Obj) : Below B w (((w.alloc o1).alloc o2).alloc o3) := (al2 h o1 o2).alloc (by simp; omega) o3
theorem al5 {B : Nat} {w : World} (h : B ≤ w.heap.size) (o1 o2 o3 o4 o5 : Obj) : Below B w (((((w.alloc o1).alloc o2).alloc o3).alloc o4).alloc o5) := ((al3 h o1 o2 o3).alloc (by simp; omega) o4).alloc (by simp; omega) o5

theorem below_four {B : Nat} {w wr : World} (h : Below B w wr) {b : Nat} (hb : B ≤ b) (u0 u1 u2 u3 : Value) : Below B w ((((wr.setCell ⟨b, 0, none⟩ u0).setCell ⟨b, 1, none⟩ u1).setCell ⟨b, 2, none⟩ u2).setCell ⟨b, 3, none⟩ u3) := (((h.setCell hb _).setCell hb _).setCell hb _).setCell hb _

theorem other_four {w : World} {b k : Nat} (hk : k ≠ b) (u0 u1 u2 u3 : Value) : ((((w.setCell ⟨b, 0, none⟩ u0).setCell ⟨b, 1, none⟩ u1).setCell ⟨b, 2, none⟩ u2).setCell ⟨b, 3, none⟩ u3).heap[k]? = w.heap[k]? := by
  rw [heap_setCell_other _ ⟨b, 3, none⟩ k _ hk, heap_setCell_other _ ⟨b, 2, none⟩ k _ hk, heap_setCell_other _ ⟨b, 1, none⟩ k _ hk, heap_setCell_other _ ⟨b, 0, none⟩ k _ hk]

/-- Eleven cells are written. -/
theorem HasB.eleven {w : World} {b : Nat} {T : TypeId} (h : HasB w b T 11) (u0 u1 u2 u3 u4 u5 u6 u7 u8 u9 u10 : Value) : Blk (((((((((((w.setCell ⟨b, 0, none⟩ u0).setCell ⟨b, 1, none⟩ u1).setCell ⟨b, 2, none⟩ u2).setCell ⟨b, 3, none⟩ u3).setCell ⟨b, 4, none⟩ u4).setCell ⟨b, 5, none⟩ u5).setCell ⟨b, 6, none⟩ u6).setCell ⟨b, 7, none⟩ u7).setCell ⟨b, 8, none⟩ u8).setCell ⟨b, 9, none⟩ u9).setCell ⟨b, 10, none⟩ u10) b T #[u0, u1, u2, u3, u4, u5, u6, u7, u8, u9, u10] := by
  obtain ⟨cur, h1, h2⟩ := h
  have h3 : Blk w b T cur := h1
  have h4 := ((((((((((h3.set 0 u0).set 1 u1).set 2 u2).set 3 u3).set 4 u4).set 5 u5).set 6 u6).set 7 u7).set 8 u8).set 9 u9).set 10 u10
  have e : ((((((((((cur.setIfInBounds 0 u0).setIfInBounds 1 u1).setIfInBounds 2 u2).setIfInBounds 3 u3).setIfInBounds 4 u4).setIfInBounds 5 u5).setIfInBounds 6 u6).setIfInBounds 7 u7).setIfInBounds 8 u8).setIfInBounds 9 u9).setIfInBounds 10 u10 = #[u0, u1, u2, u3, u4, u5, u6, u7, u8, u9, u10] := by
    apply Array.ext_getElem?
    intro j
    match j with
    | 0 => simp [h2]
    | 1 => simp [h2]
    | 2 => simp [h2]
    | 3 => simp [h2]
    | 4 => simp [h2]
    | 5 => simp [h2]
    | 6 => simp [h2]
    | 7 => simp [h2]
    | 8 => simp [h2]
    | 9 => simp [h2]
    | 10 => simp [h2]
    | j + 11 => rw [Array.getElem?_eq_none (by simp; omega), Array.getElem?_eq_none (by simp)]
  rw [e] at h4
  exact h4

theorem below_eleven {B : Nat} {w wr : World} (h : Below B w wr) {b : Nat} (hb : B ≤ b) (u0 u1 u2 u3 u4 u5 u6 u7 u8 u9 u10 : Value) : Below B w (((((((((((wr.setCell ⟨b, 0, none⟩ u0).setCell ⟨b, 1, none⟩ u1).setCell ⟨b, 2, none⟩ u2).setCell ⟨b, 3, none⟩ u3).setCell ⟨b, 4, none⟩ u4).setCell ⟨b, 5, none⟩ u5).setCell ⟨b, 6, none⟩ u6).setCell ⟨b, 7, none⟩ u7).setCell ⟨b, 8, none⟩ u8).setCell ⟨b, 9, none⟩ u9).setCell ⟨b, 10, none⟩ u10) := ((((((((((h.setCell hb _).setCell hb _).setCell hb _).setCell hb _).setCell hb _).setCell hb _).setCell hb _).setCell hb _).setCell hb _).setCell hb _).setCell hb _

theorem other_eleven {w : World} {b k : Nat} (hk : k ≠ b) (u0 u1 u2 u3 u4 u5 u6 u7 u8 u9 u10 : Value) : (((((((((((w.setCell ⟨b, 0, none⟩ u0).setCell ⟨b, 1, none⟩ u1).setCell ⟨b, 2, none⟩ u2).setCell ⟨b, 3, none⟩ u3).setCell ⟨b, 4, none⟩ u4).setCell ⟨b, 5, none⟩ u5).setCell ⟨b, 6, none⟩ u6).setCell ⟨b, 7, none⟩ u7).setCell ⟨b, 8, none⟩ u8).setCell ⟨b, 9, none⟩ u9).setCell ⟨b, 10, none⟩ u10).heap[k]? = w.heap[k]? := by
  rw [heap_setCell_other _ ⟨b, 10, none⟩ k _ hk, heap_setCell_other _ ⟨b, 9, none⟩ k _ hk, heap_setCell_other _ ⟨b, 8, none⟩ k _ hk, heap_setCell_other _ ⟨b, 7, none⟩ k _ hk, heap_setCell_other _ ⟨b, 6, none⟩ k _ hk, heap_setCell_other _ ⟨b, 5, none⟩ k _ hk, heap_setCell_other _ ⟨b, 4, none⟩ k _ hk, heap_setCell_other _ ⟨b, 3, none⟩ k _ hk, heap_setCell_other _ ⟨b, 2, none⟩ k _ hk, heap_setCell_other _ ⟨b, 1, none⟩ k _ hk, heap_setCell_other _ ⟨b, 0, none⟩ k _ hk]

end Go.Proofs.YtofinpocigbbeaaGreat
