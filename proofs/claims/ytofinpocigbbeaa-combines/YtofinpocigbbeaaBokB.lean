import Derived.Test.YtofinpocigbbeaaBokA
import Derived.Test.YtofinpocigbbeaaRcs
import Derived.ArgAppend
import Derived.Maps.AppendAt
namespace Go.Proofs.Ytofinpocigbbeaa
open Go.RowKit

/-- A row of rectangles of the call's own, whatever it holds. -/
def RowO (w : World) (B0 : Nat) (s : Value) (m : Nat) : Prop := ∃ xs, w.ownsRow B0 52 4 s m xs

/-- One step: but for one block all are as they were; and rows of rectangles stay rows as long as they were. -/
structure Stp (u : Option Nat) (w w' : World) : Prop where
  grown : w.grownBy w' u
  rows : ∀ (g : Nat) (cur : Array Value), w.heap[g]? = some (.cells cur 52 (0, 0)) → ∃ cur' : Array Value, w'.heap[g]? = some (.cells cur' 52 (0, 0)) ∧ cur'.size = cur.size

theorem RowO.step {w w' : World} {B0 m : Nat} {s : Value} {u : Option Nat} (h : RowO w B0 s m) (hs : Stp u w w') : RowO w' B0 s m := by
  obtain ⟨xs, h1, h2⟩ := h
  rcases h2 with h2 | ⟨g, cap, cur, e1, e2, e3, e4, e5, e6, e7⟩
  · exact ⟨xs, h1, .inl h2⟩
  · obtain ⟨cur', k1, k2⟩ := hs.rows g cur e3
    refine ⟨cur'.toList.take (m * 4), ?_, .inr ⟨g, cap, cur', e1, e2, k1, e4, e5, by rw [k2, e6], rfl⟩⟩
    rw [List.length_take, Array.length_toList, k2, e6]
    have := Nat.mul_le_mul_right 4 e4
    omega

theorem Stp.refl (u : Option Nat) (w : World) : Stp u w w := ⟨⟨rfl, rfl, rfl, Nat.le_refl _, fun _ _ _ => rfl⟩, fun _ cur h => ⟨cur, h, rfl⟩⟩

theorem Stp.alloc (u : Option Nat) (w : World) (o : Obj) : Stp u w (w.alloc o) :=
  ⟨World.grownBy_alloc w o u, fun g cur h => ⟨cur, by rw [heap_old w o g (Array.getElem?_eq_some_iff.1 h).1]; exact h, rfl⟩⟩

theorem Stp.trans {u : Option Nat} {a b c : World} (h : Stp u a b) (k : Stp u b c) : Stp u a c :=
  ⟨h.grown.trans k.grown, fun g cur hg => by
    obtain ⟨c1, e1, e2⟩ := h.rows g cur hg
    obtain ⟨c2, e3, e4⟩ := k.rows g c1 e1
    exact ⟨c2, e3, e4.trans e2⟩⟩

theorem Stp.of_none {u : Option Nat} {a b : World} (h : a.grownBy b none) : Stp u a b :=
  ⟨⟨h.os, h.tape, h.output, h.size, fun k hk _ => h.block k hk (by simp)⟩, fun g cur hg => ⟨cur, by rw [h.block g (Array.getElem?_eq_some_iff.1 hg).1 (by simp)]; exact hg, rfl⟩⟩

/-- append to such a row. -/
theorem row_append {w : World} {B0 n : Nat} {v : Value} (hv : RowO w B0 v n) (ty : TypeId) (ad : Addr) (m c : Nat) (news : List Value) (hl : news.length = m * 4) (hnews : ∀ j u, news[j]? = some u → w.cell? (ad.add j) = some u) (h1 : ∀ u ∈ news, u.oneCell' = true)
    (h63 : n + m ≤ maxLen) (hbytes : (n + m) * 32 ≤ 140737488355328) (hB : B0 ≤ w.heap.size) :
    ∃ v' w', (Builtin.append_ #[22, 22] ty #[v, .slice (some ad) m c]).run Try.prog w = .ok v' w' ∧ RowO w' B0 v' (n + m) ∧ Stp v.ownBlock w w' ∧ (v'.ownBlock = v.ownBlock ∨ v'.ownBlock = some w.heap.size) := by
  obtain ⟨i0, hi0, hz0, hz1, hz2⟩ := info_parts rectInfo
  obtain ⟨xs, hown⟩ := hv
  obtain ⟨v', w', hr, ho, hg, _, hat⟩ := run_append_own_at (P := Try.prog) w B0 22 ty 52 i0 _ 4 32 Try.underlying22 hi0 hz0 hz1 hz2 rfl (by decide) v n xs hown ad m c news hl hnews h1 h63 hbytes hB
  refine ⟨v', w', hr, ⟨_, ho⟩, ⟨hg, fun k cur hk => ?_⟩, hat⟩
  have hkl := (Array.getElem?_eq_some_iff.1 hk).1
  by_cases hkv : some k = v.ownBlock
  · rcases hown.2 with ⟨e, _⟩ | ⟨g, cap, cu, e1, e2, e3, e4, e5, e6, e7⟩
    · rw [e] at hkv
      cases hkv
    · subst e1
      have hkg : k = g := by
        have : some k = some g := hkv
        injection this
      subst hkg
      rw [hk] at e3
      injection e3 with e3
      injection e3 with e3
      subst e3
      by_cases hroom : n + m ≤ cap
      · have hlen : news.length = m * i0.size := by rw [hz1]; exact hl
        have hfit : n * i0.size + news.length ≤ cur.size := by rw [hz1, hl, e6, ← Nat.add_mul]; exact Nat.mul_le_mul_right _ hroom
        have h9 := run_append_room (P := Try.prog) w 22 ty 52 i0 Try.underlying22 hi0 k n cap cur hk ad m c news hlen hnews h1 hroom hfit
        rw [hr] at h9
        injection h9 with _ h9
        subst h9
        refine ⟨_, setRow_heap w k cur _ 52 _ hk, ?_⟩
        simp only [List.size_toArray, List.length_append, List.length_take, List.length_drop, Array.length_toList]
        omega
      · obtain ⟨v2, w2, h9, _, h8⟩ := run_append_arg_grows (P := Try.prog) w 22 ty 52 i0 _ 4 32 Try.underlying22 hi0 hz0 hz1 hz2 rfl (by decide) ⟨k, 0, none⟩ n cap xs hown.1 (hown.cells (g := k) rfl) ad m c news hl hnews (by omega) h63 hbytes
        rw [hr] at h9
        injection h9 with _ h9
        subst h9
        exact (Stp.of_none (u := none) h8).rows k cur hk
  · exact ⟨cur, by rw [hg.block k hkl hkv]; exact hk, rfl⟩

end Go.Proofs.Ytofinpocigbbeaa
