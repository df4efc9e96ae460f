import Derived.Test.YtlaflopimpnjpaaGreatSg11
import Derived.Deep.RegionHeld3
/-! PanS -/
namespace Go.Proofs.YtlaflopimpnjpaaGreat
open Go.RowKit
attribute [local go_sem ↓] Go.wp_at_zero Go.wp_at_succ

set_option maxRecDepth 100000 in
set_option maxHeartbeats 1000000 in
/-- (*Screen).Commit -/
theorem paCommit_any {S : Nat → Prop} {x : Nat} {st : St} (hf : Fine st) (id : Int) (w : World) (h : PaneOk w S x st) :
    Calls Tryz.prog 26 #[.pointer (some ⟨x, 0, none⟩), .int .i64 id] w (PPost S x (opCommit st id) w) := by
  have hw := hf.wf
  have hB := isB_iff hw id
  have HE6 := hide (PPost.same (er := 6) h (Below.refl _ _))
  obtain ⟨bv, sc, mp, blk, G, h⟩ := h
  obtain ⟨x0, x1, xl⟩ := h.scrCells
  unfold opCommit
  obtain ⟨t, ht⟩ : ∃ t, st.isB id = t := ⟨_, rfl⟩
  rw [ht] at hB ⊢
  cases t with
  | false =>
    rw [if_neg (by simp)]
    have HS := hide (scSurface_no h id (isB_no hw ht))
    clear hB h
    go_enter Tryz.func26, Tryz.ntmps26
    go_wp2_with (go_at_call 52; refine HS.out.mono ?_; rintro e w' ⟨rfl, hw'⟩; replace hw' := hw'.symm; subst hw')
    go_ret
    exact HE6.out
  | true =>
    rw [if_pos rfl]
    obtain ⟨i, rfl, hio⟩ := hB.1 rfl
    rw [Int.toNat_natCast]
    have HS := hide (scSurface_ok h i hio)
    have HD := hide (sfCommit_any hf h i hio)
    obtain ⟨g, hg⟩ : ∃ g, blk i = g := ⟨_, rfl⟩
    rw [hg] at HS HD
    clear h hB hg HE6
    go_enter Tryz.func26, Tryz.ntmps26
    go_wp2_with (first
      | (go_at_call 52; refine HS.out.mono ?_; rintro e w' ⟨rfl, hw'⟩; replace hw' := hw'.symm; subst hw')
      | (go_at_call 57; refine HD.out.mono ?_; rintro e w' ⟨rfl, r1⟩; have HR := hide r1; clear r1))
    go_ret
    obtain ⟨⟨G', hG⟩, hO⟩ := HR.out
    exact ⟨rfl, ⟨bv, sc, mp, blk, G', hG.mono fun _ hg => grow_self hg⟩, hO⟩

/-! ### What is seen -/

set_option maxRecDepth 100000 in
set_option maxHeartbeats 1000000 in
/-- region.Meet -/
theorem meetP_any (p q : R4) (w : World) : Calls Tryz.prog 134 #[.agg (r4C p), .agg (r4C q)] w fun e w' => e = .returned (.agg (r4C (meet p q))) ∧ ∃ o1 o2 o3, w' = ((w.alloc o1).alloc o2).alloc o3 := by
  unfold r4C meet
  go_enter Tryz.func134, Tryz.ntmps134
  go_wp2
  all_goals exact bodyPost_ret (v := .agg #[.int .i64 (max p.1 q.1), .int .i64 (max p.2.1 q.2.1), .int .i64 (min p.2.2.1 q.2.2.1), .int .i64 (min p.2.2.2 q.2.2.2)]) (by simp [results, Tryz.results134, go_sem]; omega) rfl ⟨rfl, _, _, _, rfl⟩

set_option maxRecDepth 100000 in
set_option maxHeartbeats 1000000 in
/-- region.Move -/
theorem moveP_any (r : R4) (x y : Int) (w : World) (h0 : -100000 ≤ r.1 ∧ r.1 ≤ 100000) (h1 : -100000 ≤ r.2.1 ∧ r.2.1 ≤ 100000) (h2 : -100000 ≤ r.2.2.1 ∧ r.2.2.1 ≤ 100000) (h3 : -100000 ≤ r.2.2.2 ∧ r.2.2.2 ≤ 100000) (hx : -100000 ≤ x ∧ x ≤ 100000) (hy : -100000 ≤ y ∧ y ≤ 100000) :
    Calls Tryz.prog 137 #[.agg (r4C r), .int .i64 x, .int .i64 y] w fun e w' => e = .returned (.agg (r4C (mv r x y))) ∧ ∃ o1 o2, w' = (w.alloc o1).alloc o2 := by
  unfold r4C mv
  go_enter Tryz.func137, Tryz.ntmps137
  go_wp2
  all_goals exact bodyPost_ret (v := .agg #[.int .i64 (r.1 + x), .int .i64 (r.2.1 + y), .int .i64 (r.2.2.1 + x), .int .i64 (r.2.2.2 + y)]) (by simp [results, Tryz.results137, go_sem]) rfl ⟨rfl, _, _, rfl⟩

set_option maxRecDepth 100000 in
set_option maxHeartbeats 1000000 in
/-- region.HasPoints -/
theorem hasPoints_any (r : R4) (w : World) : Calls Tryz.prog 122 #[.agg (r4C r)] w fun e w' => e = .returned (.bool (has4 r)) ∧ ∃ o1, w' = w.alloc o1 := by
  unfold r4C has4
  go_enter Tryz.func122, Tryz.ntmps122
  go_wp2
  all_goals
    go_ret
    refine ⟨ret_b ?_, _, rfl⟩
    first
      | (simp_all; done)
      | (simp_all; omega)

set_option maxRecDepth 100000 in
set_option maxHeartbeats 1000000 in
theorem width_any (a b : Int) (v : Value) (w : World) : Calls Tryz.prog 132 #[.agg #[.int .i64 a, .int .i64 b, v]] w fun e w' => e = .returned (.int .i64 a) ∧ w' = w.alloc (.cells #[.int .i64 a, .int .i64 b, v] 88) := by
  go_enter Tryz.func132, Tryz.ntmps132
  go_wp2
  go_ret
  exact ⟨rfl, rfl⟩

set_option maxRecDepth 100000 in
set_option maxHeartbeats 1000000 in
theorem height_any (a b : Int) (v : Value) (w : World) : Calls Tryz.prog 133 #[.agg #[.int .i64 a, .int .i64 b, v]] w fun e w' => e = .returned (.int .i64 b) ∧ w' = w.alloc (.cells #[.int .i64 a, .int .i64 b, v] 88) := by
  go_enter Tryz.func133, Tryz.ntmps133
  go_wp2
  go_ret
  exact ⟨rfl, rfl⟩

end Go.Proofs.YtlaflopimpnjpaaGreat
