import Derived.Test.YtofinpocigbbeaaGreatOwnS
namespace Go.Proofs.YtofinpocigbbeaaGreat
open Go.RowKit

/-! ### Who owns what: a call turns its own blocks alone, and makes new ones -/

structure Only (S : Nat → Prop) (w w' : World) : Prop where
  os : w'.os = w.os
  tape : w'.tape = w.tape
  output : w'.output = w.output
  size : w.heap.size ≤ w'.heap.size
  block : ∀ g, g < w.heap.size → ¬ S g → w'.heap[g]? = w.heap[g]?

/-- Its blocks, and all that are new. -/
def grow (S : Nat → Prop) (w w' : World) : Nat → Prop := fun g => S g ∨ (w.heap.size ≤ g ∧ g < w'.heap.size)

theorem Only.refl (S : Nat → Prop) (w : World) : Only S w w := ⟨rfl, rfl, rfl, Nat.le_refl _, fun _ _ _ => rfl⟩

theorem Only.below {S : Nat → Prop} {w w' : World} (h : Below w.heap.size w w') : Only S w w' := ⟨h.os, h.tape, h.output, h.size, fun g hg _ => h.block g hg⟩

theorem Only.to_below {S : Nat → Prop} {w w' : World} {B : Nat} (h : Only S w w') (hS : ∀ g, S g → B ≤ g) (hB : B ≤ w.heap.size) : Below B w w' :=
  ⟨h.os, h.tape, h.output, h.size, fun g hg => h.block g (by omega) fun hs => by have := hS g hs; omega⟩

theorem Only.trans {S : Nat → Prop} {a b c : World} (h : Only S a b) (k : Only (grow S a b) b c) : Only S a c :=
  ⟨k.os.trans h.os, k.tape.trans h.tape, k.output.trans h.output, Nat.le_trans h.size k.size, fun g hg hs => by
    have h1 := h.size
    rw [k.block g (by omega) (fun hh => by rcases hh with hh | hh; exact hs hh; omega), h.block g hg hs]⟩

theorem Only.mono {S S' : Nat → Prop} {a b : World} (h : Only S a b) (hS : ∀ g, g < a.heap.size → S g → S' g) : Only S' a b :=
  ⟨h.os, h.tape, h.output, h.size, fun g hg hs => h.block g hg fun hh => hs (hS g hg hh)⟩

/-- A step that turns a block of one's own, or a new one. -/
theorem Only.grown {S : Nat → Prop} {a b c : World} {u : Option Nat} (h : Only S a b) (k : b.grownBy c u) (hu : ∀ g, u = some g → S g ∨ a.heap.size ≤ g) : Only S a c :=
  ⟨k.os.trans h.os, k.tape.trans h.tape, k.output.trans h.output, Nat.le_trans h.size k.size, fun g hg hs => by
    have h1 := h.size
    rw [k.block g (by omega) (fun e => by rcases hu g e.symm with hh | hh; exact hs hh; omega), h.block g hg hs]⟩

theorem Only.after {S : Nat → Prop} {a b c : World} (h : Only S a b) (k : Below b.heap.size b c) : Only S a c :=
  ⟨k.os.trans h.os, k.tape.trans h.tape, k.output.trans h.output, Nat.le_trans h.size k.size, fun g hg hs => by
    have h1 := h.size
    rw [k.block g (by omega), h.block g hg hs]⟩

theorem Only.alloc {S : Nat → Prop} {a b : World} (h : Only S a b) (o : Obj) : Only S a (b.alloc o) :=
  h.grown (World.grownBy_alloc b o none) (fun g e => by cases e)

theorem Only.set {S : Nat → Prop} {a b : World} (h : Only S a b) {p : Addr} (hp : S p.block ∨ a.heap.size ≤ p.block) (u : Value) : Only S a (b.setCell p u) :=
  ⟨h.os, h.tape, h.output, by have := h.size; simpa using this, fun g hg hs => by
    rw [heap_setCell_other b p g u (fun e => by subst e; rcases hp with hp | hp; exact hs hp; omega)]
    exact h.block g hg hs⟩

theorem Only.drewN {S : Nat → Prop} {a b : World} (h : Only S a b) (n : Nat) : Only S a (b.drewN n) := ⟨h.os, h.tape, h.output, h.size, h.block⟩
theorem Only.drew {S : Nat → Prop} {a b : World} (h : Only S a b) : Only S a b.drew := ⟨h.os, h.tape, h.output, h.size, h.block⟩

theorem grow_self {S : Nat → Prop} {w w' : World} {g : Nat} (h : S g) : grow S w w' g := .inl h

/-! ### A row: its block is one's own -/

def RowS (w : World) (S : Nat → Prop) (T : TypeId) (k : Nat) (v : Value) (n : Nat) (xs : List Value) : Prop := w.ownsRow 0 T k v n xs ∧ ∀ g, v.ownBlock = some g → S g

theorem RowS.mono {w : World} {S S' : Nat → Prop} {T : TypeId} {k : Nat} {v : Value} {n : Nat} {xs : List Value} (h : RowS w S T k v n xs) (hS : ∀ g, S g → S' g) : RowS w S' T k v n xs := ⟨h.1, fun g hg => hS g (h.2 g hg)⟩

theorem own_keep {w w' : World} {base : Nat} {e : TypeId} {size : Nat} {v : Value} {n : Nat} {xs : List Value} (h : w.ownsRow base e size v n xs) (hk : ∀ g, v.ownBlock = some g → w'.heap[g]? = w.heap[g]?) : w'.ownsRow base e size v n xs := by
  obtain ⟨h1, h2⟩ := h
  refine ⟨h1, ?_⟩
  rcases h2 with h2 | ⟨g, cap, cur, e1, e2, e3, e4⟩
  · exact .inl h2
  · exact .inr ⟨g, cap, cur, e1, e2, by rw [hk g (by rw [e1]; rfl)]; exact e3, e4⟩

theorem RowS.keep {w w' : World} {S : Nat → Prop} {T : TypeId} {k : Nat} {v : Value} {n : Nat} {xs : List Value} (h : RowS w S T k v n xs) (hk : ∀ g, S g → g < w.heap.size → w'.heap[g]? = w.heap[g]?) : RowS w' S T k v n xs :=
  ⟨own_keep h.1 fun g hg => hk g (h.2 g hg) (h.1.lt g hg).2, h.2⟩

theorem RowS.nil (w : World) (S : Nat → Prop) (T : TypeId) (k : Nat) : RowS w S T k (.slice none 0 0) 0 [] := ⟨World.ownsRow_nil _ _ _ _, fun g hg => by simp [Value.ownBlock] at hg⟩

/-- The block of a row bears its type. -/
theorem RowS.type {w : World} {S : Nat → Prop} {T : TypeId} {k : Nat} {v : Value} {n : Nat} {xs : List Value} (h : RowS w S T k v n xs) {g : Nat} (hg : v.ownBlock = some g) : ∃ cur, w.heap[g]? = some (.cells cur T (0, 0)) := own_type h.1 hg

/-- Kept where its block's type is not the one that is turned. -/
theorem RowS.other {w w' : World} {S : Nat → Prop} {T : TypeId} {k : Nat} {v : Value} {n : Nat} {xs : List Value} (h : RowS w S T k v n xs) (hk : ∀ (g : Nat) (cur : Array Value), w.heap[g]? = some (.cells cur T (0, 0)) → w'.heap[g]? = w.heap[g]?) : RowS w' S T k v n xs :=
  ⟨own_keep h.1 fun g hg => by
    obtain ⟨cur, hc⟩ := h.type hg
    exact hk g cur hc, h.2⟩

theorem RowS.form {w : World} {S : Nat → Prop} {T : TypeId} {k : Nat} {v : Value} {n : Nat} {xs : List Value} (h : RowS w S T k v n xs) : ∃ a c, v = .slice a n c := row_form h.1

/-- A row with places: its block, its cells. -/
theorem RowS.open {w : World} {S : Nat → Prop} {T : TypeId} {k : Nat} {v : Value} {n : Nat} {xs : List Value} (h : RowS w S T k v n xs) (hn : 0 < n) : ∃ g cap, v = .slice (some ⟨g, 0, none⟩) n cap ∧ S g ∧ n ≤ cap ∧ g < w.heap.size ∧ (∀ j u, xs[j]? = some u → w.cell? ⟨g, j, none⟩ = some u) ∧ ∀ j, w.frozen? ⟨g, j, none⟩ = false := by
  obtain ⟨g, cap, rfl, hb, hl⟩ := h.1.form hn
  have cs := h.1.cells (g := g) rfl
  exact ⟨g, cap, rfl, h.2 g rfl, own_cap h.1, hl, fun j u hu => by have := cs j u hu; rw [add_at] at this; exact this, fun j => own_free h.1 j⟩

theorem RowS.set {w : World} {S : Nat → Prop} {T : TypeId} {k g n c : Nat} {xs : List Value} (h : RowS w S T k (.slice (some ⟨g, 0, none⟩) n c) n xs) (j : Nat) (u : Value) : RowS (w.setCell ⟨g, j, none⟩ u) S T k (.slice (some ⟨g, 0, none⟩) n c) n (xs.set j u) := ⟨own_set h.1 u, h.2⟩

theorem RowS.len {w : World} {S : Nat → Prop} {T : TypeId} {k : Nat} {v : Value} {n : Nat} {xs : List Value} (h : RowS w S T k v n xs) : xs.length = n * k := h.1.1

/-! ### Rows of one type are turned, in place -/

structure TurT (S : Nat → Prop) (T : TypeId) (w w' : World) : Prop where
  os : w'.os = w.os
  tape : w'.tape = w.tape
  output : w'.output = w.output
  size : w.heap.size ≤ w'.heap.size
  block : ∀ g, g < w.heap.size → w'.heap[g]? = w.heap[g]? ∨ (S g ∧ ∃ cur cur' : Array Value, w.heap[g]? = some (.cells cur T (0, 0)) ∧ w'.heap[g]? = some (.cells cur' T (0, 0)) ∧ cur'.size = cur.size)

theorem TurT.refl (S : Nat → Prop) (T : TypeId) (w : World) : TurT S T w w := ⟨rfl, rfl, rfl, Nat.le_refl _, fun _ _ => .inl rfl⟩

theorem TurT.trans {S : Nat → Prop} {T : TypeId} {a b c : World} (h : TurT S T a b) (k : TurT S T b c) : TurT S T a c := by
  refine ⟨k.os.trans h.os, k.tape.trans h.tape, k.output.trans h.output, Nat.le_trans h.size k.size, fun g hg => ?_⟩
  rcases h.block g hg with h1 | ⟨h1, c1, c2, h3, h4, h5⟩
  · rcases k.block g (Nat.lt_of_lt_of_le hg h.size) with k1 | ⟨k1, d1, d2, k3, k4, k5⟩
    · exact .inl (k1.trans h1)
    · exact .inr ⟨k1, d1, d2, by rw [← h1]; exact k3, k4, k5⟩
  · rcases k.block g (Nat.lt_of_lt_of_le hg h.size) with k1 | ⟨k1, d1, d2, k3, k4, k5⟩
    · exact .inr ⟨h1, c1, c2, h3, by rw [k1]; exact h4, h5⟩
    · rw [h4] at k3
      injection k3 with k3
      injection k3 with k3
      subst k3
      exact .inr ⟨h1, c1, d2, h3, k4, k5.trans h5⟩

theorem TurT.below {S : Nat → Prop} {T : TypeId} {w w' : World} (h : Below w.heap.size w w') : TurT S T w w' := ⟨h.os, h.tape, h.output, h.size, fun g hg => .inl (h.block g hg)⟩

theorem TurT.only {S : Nat → Prop} {T : TypeId} {w w' : World} (h : TurT S T w w') : Only S w w' := ⟨h.os, h.tape, h.output, h.size, fun g hg hs => by
  rcases h.block g hg with h1 | ⟨h1, _⟩
  · exact h1
  · exact absurd h1 hs⟩

theorem TurT.drewN {S : Nat → Prop} {T : TypeId} {w w' : World} (h : TurT S T w w') (n : Nat) : TurT S T w (w'.drewN n) := ⟨h.os, h.tape, h.output, h.size, h.block⟩
theorem TurT.drew {S : Nat → Prop} {T : TypeId} {w w' : World} (h : TurT S T w w') : TurT S T w w'.drew := ⟨h.os, h.tape, h.output, h.size, h.block⟩

/-- What is no such row is as it was. -/
theorem TurT.other {S : Nat → Prop} {T t : TypeId} {g : Nat} {w w' : World} {cur : Array Value} {q : Nat × Nat} (h : TurT S T w w') (hg : w.heap[g]? = some (.cells cur t q)) (ht : t ≠ T) : w'.heap[g]? = w.heap[g]? := by
  rcases h.block g (Array.getElem?_eq_some_iff.1 hg).1 with h1 | ⟨_, c1, c2, h3, _, _⟩
  · exact h1
  · rw [hg] at h3
    injection h3 with h3
    injection h3 with _ h3
    exact absurd h3 ht

theorem TurT.row {S S' : Nat → Prop} {T t : TypeId} {k : Nat} {v : Value} {n : Nat} {xs : List Value} {w w' : World} (h : TurT S T w w') (ht : t ≠ T) (hr : RowS w S' t k v n xs) : RowS w' S' t k v n xs := hr.other fun _ _ hc => h.other hc ht

/-- A row of whatever content stays one. -/
theorem TurT.any {S S' : Nat → Prop} {T : TypeId} {k : Nat} {v : Value} {n : Nat} {w w' : World} (h : TurT S T w w') (hr : ∃ xs, RowS w S' T k v n xs) : ∃ xs, RowS w' S' T k v n xs := by
  obtain ⟨xs, ⟨h1, h2⟩, hS⟩ := hr
  rcases h2 with h2 | ⟨g, cap, cur, e1, e2, e3, e4, e5, e6, e7⟩
  · exact ⟨xs, ⟨h1, .inl h2⟩, hS⟩
  · have : ∃ cur' : Array Value, w'.heap[g]? = some (.cells cur' T (0, 0)) ∧ cur'.size = cur.size := by
      rcases h.block g (Array.getElem?_eq_some_iff.1 e3).1 with q | ⟨_, c1, c2, k3, k4, k5⟩
      · exact ⟨cur, by rw [q]; exact e3, rfl⟩
      · rw [e3] at k3
        injection k3 with k3
        injection k3 with k3
        subst k3
        exact ⟨c2, k4, k5⟩
    obtain ⟨cur', k1, k2⟩ := this
    refine ⟨cur'.toList.take (n * k), ⟨?_, .inr ⟨g, cap, cur', e1, e2, k1, e4, e5, by rw [k2, e6], rfl⟩⟩, hS⟩
    rw [List.length_take, Array.length_toList, k2, e6]
    have := Nat.mul_le_mul_right k e4
    omega

theorem TurT.set {S : Nat → Prop} {T : TypeId} {g : Nat} {w : World} {cur : Array Value} (hg : w.heap[g]? = some (.cells cur T (0, 0))) (h1 : S g) (j : Nat) (u : Value) : TurT S T w (w.setCell ⟨g, j, none⟩ u) := by
  refine ⟨rfl, rfl, rfl, by simp, fun k hk => ?_⟩
  by_cases e : k = g
  · subst e
    exact .inr ⟨h1, cur, _, hg, heap_setCell_same w k j cur _ u hg, by simp⟩
  · exact .inl (heap_setCell_other w ⟨g, j, none⟩ k u e)

end Go.Proofs.YtofinpocigbbeaaGreat
