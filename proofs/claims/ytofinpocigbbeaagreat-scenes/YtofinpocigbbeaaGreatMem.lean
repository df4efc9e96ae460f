import Derived.Test.YtofinpocigbbeaaGreatRows
import Derived.Test.YtofinpocigbbeaaGreatRegB
import Derived.WalkKit
import Derived.WalkSpells
import Derived.WalkLawsBesides
import Derived.Deep.AppendLies
namespace Go.Proofs.YtofinpocigbbeaaGreat
open Go.RowKit

theorem block_lt {w : World} {b : Nat} {o : Obj} (h : w.heap[b]? = some o) : b < w.heap.size := by
  rcases Nat.lt_or_ge b w.heap.size with hlt | hge
  · exact hlt
  · rw [Array.getElem?_eq_none hge] at h; cases h

theorem cell_lt {w : World} {b off : Nat} {v : Value} (h : w.cell? ⟨b, off, none⟩ = some v) : b < w.heap.size := by
  rcases Nat.lt_or_ge b w.heap.size with hlt | hge
  · exact hlt
  · rw [World.cell?, Array.getElem?_eq_none hge] at h; simp at h

theorem cell_old (w : World) (o : Obj) (b off : Nat) (h : b < w.heap.size) : (w.alloc o).cell? ⟨b, off, none⟩ = w.cell? ⟨b, off, none⟩ :=
  World.cell?_of_block (a := ⟨b, off, none⟩) (Below.heap_alloc w o b h)

theorem heap_old (w : World) (o : Obj) (b : Nat) (h : b < w.heap.size) : (w.alloc o).heap[b]? = w.heap[b]? := Below.heap_alloc w o b h

/-- A list of spans in memory: nil, or a row of its own. -/
def SpansAt (w : World) (v : Value) (L : List (Int × Int)) : Prop :=
  (v = .slice none 0 0 ∧ L = []) ∨
  ∃ b c cur, v = .slice (some ⟨b, 0, none⟩) L.length c ∧ L ≠ [] ∧ w.heap[b]? = some (.cells cur 194 (0, 0)) ∧ ∀ j, j < 2 * L.length → cur[j]? = some (.int .i64 (nth (edges L) j))

theorem SpansAt.kept {w w' : World} {v : Value} {L : List (Int × Int)} (h : SpansAt w v L) (hk : ∀ (b : Nat) (cur : Array Value), w.heap[b]? = some (Obj.cells cur 194 (0, 0)) → w'.heap[b]? = w.heap[b]?) : SpansAt w' v L := by
  rcases h with h | ⟨b, c, cur, hv, hne, hb, hc⟩
  · exact .inl h
  · exact .inr ⟨b, c, cur, hv, hne, (hk b cur hb).trans hb, hc⟩

theorem SpansAt.below {w w' : World} {v : Value} {L : List (Int × Int)} (h : SpansAt w v L) (hb : Below w.heap.size w w') : SpansAt w' v L :=
  h.kept fun _ _ e => hb.block _ (block_lt e)

/-- A list of bands in memory. -/
def BandsAt (w : World) (v : Value) (A : List (Int × Int × List (Int × Int))) : Prop :=
  (v = .slice none 0 0 ∧ A = []) ∨
  ∃ b c, v = .slice (some ⟨b, 0, none⟩) A.length c ∧ A ≠ [] ∧ ∀ k (h : k < A.length), w.cell? ⟨b, k * 3, none⟩ = some (.int .i64 A[k].1) ∧ w.cell? ⟨b, k * 3 + 1, none⟩ = some (.int .i64 A[k].2.1) ∧
    ∃ u, w.cell? ⟨b, k * 3 + 2, none⟩ = some u ∧ SpansAt w u A[k].2.2

theorem BandsAt.below {w w' : World} {v : Value} {A : List (Int × Int × List (Int × Int))} (h : BandsAt w v A) (hb : Below w.heap.size w w') : BandsAt w' v A := by
  rcases h with h | ⟨b, c, hv, hne, hc⟩
  · exact .inl h
  · refine .inr ⟨b, c, hv, hne, fun k hk => ?_⟩
    obtain ⟨h1, h2, u, h3, h4⟩ := hc k hk
    have hl := cell_lt h1
    exact ⟨(hb.cell hl).trans h1, (hb.cell hl).trans h2, u, (hb.cell hl).trans h3, h4.below hb⟩

theorem big_eq : big = 9223372036854775807 := rfl

end Go.Proofs.YtofinpocigbbeaaGreat
