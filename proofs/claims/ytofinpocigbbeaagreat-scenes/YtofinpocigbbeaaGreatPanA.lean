import Derived.Test.YtofinpocigbbeaaGreatPanM
import Derived.BigQuiet
namespace Go.Proofs.YtofinpocigbbeaaGreat
open Go.RowKit

/-- Where a number stands among some, or -1. -/
def IdxIs (L : List Nat) (n r : Int) : Prop := (r = -1 ∧ ∀ i ∈ L, (i : Int) ≠ n) ∨ ∃ (k : Nat) (i : Nat), r = k ∧ L[k]? = some i ∧ (i : Int) = n

set_option maxRecDepth 100000 in
set_option maxHeartbeats 1000000 in
/-- find's closure -/
theorem isNum_any (g B : Nat) (m n : Int) (w : World) (hg : w.cell? ⟨g, 0, none⟩ = some (.int .i64 m)) (hB : w.cell? ⟨B, 0, none⟩ = some (.int .i64 n)) :
    Calls Tryz.prog 167 #[.pointer (some ⟨g, 0, none⟩), .pointer (some ⟨B, 0, none⟩)] w fun e w' => e = .returned (.bool (decide (m = n))) ∧ ∃ k, w' = w.drewN k := by
  go_enter Tryz.func167, Tryz.ntmps167
  go_wp2
  go_quiet (fail)
  go_wp2
  go_ret
  exact ⟨rfl, _, rfl⟩

/-- A row of pointers to surfaces, each with its number. -/
structure Ptrs (w : World) (v : Value) (L : List Nat) (q : Nat → Nat) : Prop where
  form : ∃ a c, v = .slice a L.length c ∧ ∀ k (h : k < L.length), ∃ g, a = some ⟨g, 0, none⟩ ∧ g < w.heap.size ∧ w.cell? ⟨g, k, none⟩ = some (.pointer (some ⟨q L[k], 0, none⟩))
  num : ∀ i ∈ L, w.cell? ⟨q i, 0, none⟩ = some (.int .i64 (i : Int)) ∧ q i < w.heap.size

theorem Ptrs.below {w w' : World} {v : Value} {L : List Nat} {q : Nat → Nat} (h : Ptrs w v L q) (hb : Below w.heap.size w w') : Ptrs w' v L q := by
  obtain ⟨⟨a, c, rfl, h1⟩, h2⟩ := h
  refine ⟨⟨a, c, rfl, fun k hk => ?_⟩, fun i hi => ?_⟩
  · obtain ⟨g, e1, e2, e3⟩ := h1 k hk
    exact ⟨g, e1, Nat.lt_of_lt_of_le e2 hb.size, (hb.cell (p := ⟨g, k, none⟩) e2).trans e3⟩
  · obtain ⟨e1, e2⟩ := h2 i hi
    exact ⟨(hb.cell (p := ⟨q i, 0, none⟩) e2).trans e1, Nat.lt_of_lt_of_le e2 hb.size⟩

set_option maxRecDepth 100000 in
set_option maxHeartbeats 1000000 in
theorem idxF_any (L : List Nat) (q : Nat → Nat) (n : Int) (v : Value) (B : Nat) (w : World) (hv : Ptrs w v L q) (hB : w.cell? ⟨B, 0, none⟩ = some (.int .i64 n)) (hL : L.length ≤ 1000) :
    Calls Tryz.prog 166 #[v, .func (.func 167) #[] #[.pointer (some ⟨B, 0, none⟩)]] w fun e w' => ∃ r, e = .returned (.int .i64 r) ∧ IdxIs L n r ∧ ∃ k, w' = w.drewN k := by
  obtain ⟨⟨a, c, rfl, h1⟩, h2⟩ := hv
  obtain ⟨m, hm⟩ : ∃ m, L.length = m := ⟨_, rfl⟩
  rw [hm] at hL ⊢
  have H1 := hide h1
  have H2 := hide h2
  have HM := hide hm
  clear h1 h2 hm
  go_enter Tryz.func166, Tryz.ntmps166
  go_wp2_with fail
  go_loopg [8] m (fun g s8 wr => ∃ (k z : Nat), s8 = .int .i64 (k : Int) ∧ g + k = m ∧ (∀ j (h : j < L.length), j < k → (L[j] : Int) ≠ n) ∧ wr = w.drewN z)
  case atStart => exact ⟨0, 0, rfl, by omega, fun j _ h => absurd h (by omega), rfl⟩
  case round =>
    obtain ⟨k, z, rfl, hgk, hno, rfl⟩ := hrel
    have HNo := hide hno
    clear hno
    cases gk with
    | zero =>
      have hlt : ¬ (k : Int) < (m : Int) := by omega
      go_wp2_with fail
      go_ret
      refine ⟨_, rfl, .inl ⟨rfl, fun i hi => ?_⟩, _, rfl⟩
      obtain ⟨j, hj, rfl⟩ := List.getElem_of_mem hi
      exact HNo.out j hj (by have := HM.out; omega)
    | succ g =>
      have hlt : (k : Int) < (m : Int) := by omega
      have hltn : k < m := by omega
      have hkl : k < L.length := by have := HM.out; omega
      obtain ⟨gb, rfl, gl, gc⟩ := H1.out k hkl
      obtain ⟨e1, e2⟩ := H2.out L[k] (List.getElem_mem hkl)
      have HK : Hid (L[k]? = some L[k]) := List.getElem?_eq_getElem hkl
      obtain ⟨i, hi⟩ : ∃ i, L[k] = i := ⟨_, rfl⟩
      rw [hi] at gc e1 e2 HK
      have HI := hide hi
      clear hi
      have HN := hide (isNum_any (q i) B (i : Int) n (w.drewN z) (by simpa using e1) (by simpa using hB))
      by_cases hin : (i : Int) = n
      · go_wp2_with (go_at_call 167; refine HN.out.mono ?_; rintro e w' ⟨rfl, zz, rfl⟩; rw [decide_eq_true hin])
        go_ret
        exact ⟨_, rfl, .inr ⟨k, i, rfl, HK.out, hin⟩, _, rfl⟩
      · go_wp2_with (go_at_call 167; refine HN.out.mono ?_; rintro e w' ⟨rfl, zz, rfl⟩; rw [decide_eq_false hin])
        go_roundg g
        case measure => omega
        case rel =>
          refine ⟨k + 1, _, by go_num, by omega, fun j hj hjk => ?_, rfl⟩
          by_cases e : j = k
          · subst e; rw [HI.out]; exact hin
          · exact HNo.out j hj (by omega)

set_option maxRecDepth 100000 in
set_option maxHeartbeats 1000000 in
/-- (*Surface).find: the parent's block p, its row of pointers v. -/
theorem find_any (L : List Nat) (q : Nat → Nat) (n : Int) (v : Value) (p : Nat) (w : World) (hp : w.cell? ⟨p, 2, none⟩ = some v) (hpl : p < w.heap.size) (hv : Ptrs w v L q) (hL : L.length ≤ 1000) :
    Calls Tryz.prog 111 #[.pointer (some ⟨p, 0, none⟩), .int .i64 n] w fun e w' => ∃ r, e = .returned (.int .i64 r) ∧ IdxIs L n r ∧ Below w.heap.size w w' := by
  have hb := (Below.refl w.heap.size w).alloc (Nat.le_refl _) (.cells #[.int .i64 n] 3)
  have HB := hide hb
  have HI := hide (idxF_any L q n v w.heap.size (w.alloc (.cells #[.int .i64 n] 3)) (hv.below hb) (by simp) hL)
  have hmf : ∀ (fn : Fn) (first cap : Array Value) (w : World), (Instr.makeFunc fn first cap).run Tryz.prog w = .ok (.func fn first cap) w := fun _ _ _ _ => rfl
  have hne : p ≠ w.heap.size := by omega
  obtain ⟨⟨va, vc, rfl, _⟩, _⟩ := hv
  clear hb
  go_enter Tryz.func111, Tryz.ntmps111
  go_wp2_with (go_at_call 166; refine HI.out.mono ?_; rintro e w' ⟨r, rfl, hr, zz, rfl⟩)
  go_ret
  exact ⟨r, rfl, hr, HB.out.trans (below_drewN (Below.refl _ _) _)⟩

end Go.Proofs.YtofinpocigbbeaaGreat
