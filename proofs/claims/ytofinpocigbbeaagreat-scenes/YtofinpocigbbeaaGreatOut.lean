import Derived.Test.YtofinpocigbbeaaGreatLevB
import Derived.OneCell
import Derived.Deep.RegionLaw
import Derived.Deep.RegionHeld3
namespace Go.Proofs.YtofinpocigbbeaaGreat
open Go.RowKit

theorem hide {p : Prop} (h : p) : Hid p := h

/-- The cells of bands, each with where its spans lie. -/
def bandCells (P : List ((Int × Int × List (Int × Int)) × Value)) : List Value := P.flatMap fun p => [.int .i64 p.1.1, .int .i64 p.1.2.1, p.2]

theorem bandCells_len (P : List ((Int × Int × List (Int × Int)) × Value)) : (bandCells P).length = P.length * 3 := by
  induction P with
  | nil => rfl
  | cons p P ih =>
    have : bandCells (p :: P) = .int .i64 p.1.1 :: .int .i64 p.1.2.1 :: p.2 :: bandCells P := rfl
    rw [this]; simp [ih]; omega

theorem bandCells_append (P Q : List ((Int × Int × List (Int × Int)) × Value)) : bandCells (P ++ Q) = bandCells P ++ bandCells Q := by simp [bandCells]

theorem bandCells_at (P : List ((Int × Int × List (Int × Int)) × Value)) (k : Nat) (h : k < P.length) :
    (bandCells P)[k * 3]? = some (.int .i64 P[k].1.1) ∧ (bandCells P)[k * 3 + 1]? = some (.int .i64 P[k].1.2.1) ∧ (bandCells P)[k * 3 + 2]? = some P[k].2 := by
  induction P generalizing k with
  | nil => simp at h
  | cons p P ih =>
    have e : bandCells (p :: P) = .int .i64 p.1.1 :: .int .i64 p.1.2.1 :: p.2 :: bandCells P := rfl
    cases k with
    | zero => rw [e]; simp
    | succ k =>
      have := ih k (by simpa using h)
      rw [e, show (k + 1) * 3 = k * 3 + 3 by omega]
      simpa using this

/-- A value's block, if it has one, is not below. -/
def SpB (base : Nat) (u : Value) : Prop := ∀ g, u.ownBlock = some g → base ≤ g

/-- A region that is being made: its bands are a row of the call's own, and so are their spans. -/
def OutAt (w : World) (base : Nat) (v : Value) (O : List (Int × Int × List (Int × Int))) : Prop :=
  ∃ P, P.map Prod.fst = O ∧ w.ownsRow base 192 3 v P.length (bandCells P) ∧ (∀ p ∈ P, SpansAt w p.2 p.1.2.2 ∧ SpB base p.2) ∧ (P = [] → v = .slice none 0 0)

theorem out_nil (w : World) (base : Nat) : OutAt w base (.slice none 0 0) [] :=
  ⟨[], rfl, World.ownsRow_nil _ _ _ _, fun p hp => by simp at hp, fun _ => rfl⟩

theorem add_at (g k : Nat) : (⟨g, 0, none⟩ : Addr).add k = ⟨g, k, none⟩ := by unfold Addr.add; split <;> simp_all

theorem OutAt.bands {w : World} {base : Nat} {v : Value} {O : List (Int × Int × List (Int × Int))} (h : OutAt w base v O) : BandsAt w v O := by
  obtain ⟨P, rfl, hown, hsp, hnil⟩ := h
  by_cases hP : P = []
  · subst hP; exact .inl ⟨hnil rfl, rfl⟩
  · have hpos : 0 < P.length := by cases P with
      | nil => exact absurd rfl hP
      | cons a P => simp
    obtain ⟨g, cap, rfl, _, _⟩ := hown.form hpos
    refine .inr ⟨g, cap, by simp, by simpa using hP, fun k hk => ?_⟩
    have hk' : k < P.length := by simpa using hk
    obtain ⟨c1, c2, c3⟩ := bandCells_at P k hk'
    have cs := hown.cells (g := g) rfl
    refine ⟨?_, ?_, P[k].2, ?_, ?_⟩
    · rw [← add_at]; simpa using cs _ _ c1
    · rw [← add_at]; simpa using cs _ _ c2
    · rw [← add_at]; simpa using cs _ _ c3
    · simpa using (hsp P[k] (List.getElem_mem hk')).1

/-- What stands if the spans and the row's own block do. -/
theorem OutAt.kept {w w' : World} {base : Nat} {v : Value} {O : List (Int × Int × List (Int × Int))} (h : OutAt w base v O) (hk : ∀ b, b < w.heap.size → base ≤ b ∨ True → w'.heap[b]? = w.heap[b]?) : OutAt w' base v O := by
  obtain ⟨P, hP, hown, hsp, hnil⟩ := h
  refine ⟨P, hP, ?_, fun p hp => ⟨(hsp p hp).1.kept fun b cur e => hk b (block_lt e) (.inr trivial), (hsp p hp).2⟩, hnil⟩
  obtain ⟨h1, h2⟩ := hown
  refine ⟨h1, ?_⟩
  rcases h2 with h2 | ⟨g, cap, cur, a1, a2, a3, a4⟩
  · exact .inl h2
  · exact .inr ⟨g, cap, cur, a1, a2, (hk g (block_lt a3) (.inr trivial)).trans a3, a4⟩

end Go.Proofs.YtofinpocigbbeaaGreat
