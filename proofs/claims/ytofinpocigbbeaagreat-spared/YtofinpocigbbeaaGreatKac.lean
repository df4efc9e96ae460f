import Derived.Test.YtofinpocigbbeaaGreatKab
namespace Go.Proofs.YtofinpocigbbeaaGreat
open Go.RowKit

set_option maxHeartbeats 1000000 in
theorem add_none (o : Nat) (top bottom : Int) (w : World) :
    Calls Tryz.prog 154 #[.pointer (some ⟨o, 0, none⟩), .agg #[.int .i64 top, .int .i64 bottom, .slice none 0 0]] w fun e w' => e = .returned (.tuple #[]) ∧ w' = w.alloc (.cells #[.int .i64 top, .int .i64 bottom, .slice none 0 0] 192) := by
  go_enter Tryz.func154, Tryz.ntmps154
  go_wp2
  exact bodyPost_ret (v := .tuple #[]) (by simp [results, Tryz.results154]) rfl ⟨rfl, rfl⟩

set_option maxHeartbeats 1000000 in
/-- The last band carries on. -/
theorem add_carries (o g m cap c ub : Nat) (ul : Value) (top bottom : Int) (ln : Nat) (w : World) (hm : m ≤ 10000) (hln : 0 < ln)
    (ho : w.cell? ⟨o, 0, none⟩ = some (.slice (some ⟨g, 0, none⟩) (m + 1) cap))
    (h1 : w.cell? ⟨g, m * 3 + 1, none⟩ = some (.int .i64 top)) (h2 : w.cell? ⟨g, m * 3 + 2, none⟩ = some ul) (hf : w.frozen? ⟨g, m * 3 + 1, none⟩ = false)
    (hE : ∀ w1, Below w.heap.size w w1 → Calls Tryz.prog 185 #[ul, .slice (some ⟨ub, 0, none⟩) ln c] w1 fun e w' => e = .returned (.bool true) ∧ ∃ nq, w' = w1.drewN nq) :
    Calls Tryz.prog 154 #[.pointer (some ⟨o, 0, none⟩), .agg #[.int .i64 top, .int .i64 bottom, .slice (some ⟨ub, 0, none⟩) ln c]] w fun e w' => e = .returned (.tuple #[]) ∧
      ∃ nq, w' = ((w.alloc (.cells #[.int .i64 top, .int .i64 bottom, .slice (some ⟨ub, 0, none⟩) ln c] 192)).setCell ⟨g, m * 3 + 1, none⟩ (.int .i64 bottom)).drewN nq := by
  have ol := cell_lt ho
  have gl := cell_lt h1
  have hln' : ((ln : Int) == 0) = false := by simp; omega
  go_enter Tryz.func154, Tryz.ntmps154
  go_wp2_with fail
  go_quiet ((go_at_call 185; exact Calls.quiet_of (hE _ (below_drewN ((Below.refl _ _).alloc (Nat.le_refl _) _) _))))
  go_wp2
  go_region
  go_wp2
  exact bodyPost_ret (v := .tuple #[]) (by simp [results, Tryz.results154]) rfl ⟨rfl, nq + 1, rfl⟩

theorem bandInfo : (Tryz.prog.info? 192).map (fun i => (i.zero, i.size, i.bytes)) = some (some (.agg #[.int .i64 0, .int .i64 0, .slice none 0 0]), 3, 40) := by kernel_rfl

/-- What an append of a band leaves: the new row, in the box; all else as it was. -/
def Appended (w w' : World) (base o : Nat) (v : Value) (n : Nat) (xs : List Value) (news : List Value) : Prop :=
  ∃ g cap w1, w1.ownsRow base 192 3 (.slice (some ⟨g, 0, none⟩) (n + 1) cap) (n + 1) (xs ++ news) ∧ Below base w w1 ∧ w.grownBy w1 v.ownBlock ∧ g < w1.heap.size ∧ (v.ownBlock = some g ∨ w.heap.size ≤ g) ∧ ∃ nq, w' = (w1.setCell ⟨o, 0, none⟩ (.slice (some ⟨g, 0, none⟩) (n + 1) cap)).drewN nq

theorem after_append {w W w1 : World} {v : Value} {o : Nat} (hW : ∀ b, b < w.heap.size → W.heap[b]? = w.heap[b]?) (hs : w.heap.size ≤ W.heap.size) (hg : W.grownBy w1 v.ownBlock) (ol : o < w.heap.size) (hne : some o ≠ v.ownBlock) :
    w1.cell? ⟨o, 0, none⟩ = w.cell? ⟨o, 0, none⟩ ∧ w1.frozen? ⟨o, 0, none⟩ = w.frozen? ⟨o, 0, none⟩ :=
  ⟨(hg.cell_far ⟨o, 0, none⟩ (by show o < _; omega) hne).trans (World.cell?_of_block (a := ⟨o, 0, none⟩) (hW o ol)), (hg.frozen_far ⟨o, 0, none⟩ (by show o < _; omega) hne).trans (World.frozen?_of_block (a := ⟨o, 0, none⟩) (hW o ol))⟩

theorem row_at {a : Option Nat} {g x y : Nat} (h : a = some g ∨ g = x) (hx : y ≤ x) : a = some g ∨ y ≤ g := by
  rcases h with h | h
  · exact .inl h
  · exact .inr (by omega)

theorem boxed_old (w : World) (o1 o2 : Obj) (n : Nat) : ∀ b, b < w.heap.size → (((w.alloc o1).drewN n).alloc o2).heap[b]? = w.heap[b]? := fun b hb =>
  (heap_old ((w.alloc o1).drewN n) o2 b (by simp; omega)).trans (heap_old w o1 b hb)

theorem boxed_new (w : World) (o1 o2 : Obj) (n : Nat) : (((w.alloc o1).drewN n).alloc o2).heap[w.heap.size + 1]? = some o2 := by
  have h := heap_alloc_new ((w.alloc o1).drewN n) o2
  rw [show ((w.alloc o1).drewN n).heap.size = w.heap.size + 1 from by simp] at h
  exact h

theorem boxed_size (w : World) (o1 o2 : Obj) (n : Nat) : (((w.alloc o1).drewN n).alloc o2).heap.size = w.heap.size + 2 := by simp

theorem boxed_below (w : World) (o1 o2 : Obj) (n base : Nat) (hb : base ≤ w.heap.size) : Below base w (((w.alloc o1).drewN n).alloc o2) :=
  (below_drewN ((Below.refl base w).alloc hb _) n).alloc (by simp; omega) _

theorem grown_from {w W w1 : World} {row : Option Nat} (hW : ∀ b, b < w.heap.size → W.heap[b]? = w.heap[b]?) (hs : w.heap.size ≤ W.heap.size) (h1 : W.os = w.os) (h2 : W.tape = w.tape) (h3 : W.output = w.output) (hg : W.grownBy w1 row) : w.grownBy w1 row :=
  ⟨hg.os.trans h1, hg.tape.trans h2, hg.output.trans h3, Nat.le_trans hs hg.size, fun k hk hne => (hg.block k (by omega) hne).trans (hW k hk)⟩

set_option maxRecDepth 100000 in
set_option maxHeartbeats 2000000 in
theorem add_first (base o c ub : Nat) (top bottom : Int) (ln : Nat) (xs : List Value) (w : World) (hln : 0 < ln) (ho : w.cell? ⟨o, 0, none⟩ = some (.slice none 0 0)) (hfo : w.frozen? ⟨o, 0, none⟩ = false) (hown : w.ownsRow base 192 3 (.slice none 0 0) 0 xs)
    (hbase : base ≤ w.heap.size) :
    Calls Tryz.prog 154 #[.pointer (some ⟨o, 0, none⟩), .agg #[.int .i64 top, .int .i64 bottom, .slice (some ⟨ub, 0, none⟩) ln c]] w fun e w' => e = .returned (.tuple #[]) ∧
      Appended w w' base o (.slice none 0 0) (0) xs [.int .i64 top, .int .i64 bottom, .slice (some ⟨ub, 0, none⟩) ln c] := by
  obtain ⟨i0, hi0, hz0, hz1, hz2⟩ := info_parts bandInfo
  have ol := cell_lt ho
  have hln' : ((ln : Int) == 0) = false := by simp; omega
  have HO : Hid (∀ n, (((w.alloc (.cells #[.int .i64 top, .int .i64 bottom, .slice (some ⟨ub, 0, none⟩) ln c] 192)).drewN n).alloc (.cells #[.int .i64 top, .int .i64 bottom, .slice (some ⟨ub, 0, none⟩) ln c] 192)).ownsRow base 192 3 (.slice none 0 0) (0) xs) := fun n => World.ownsRow.alloc (show ((w.alloc (.cells #[.int .i64 top, .int .i64 bottom, .slice (some ⟨ub, 0, none⟩) ln c] 192)).drewN n).ownsRow base 192 3 (.slice none 0 0) (0) xs from hown.alloc _) _
  have HN : Hid (∀ n, ∀ j u, [Value.int .i64 top, .int .i64 bottom, .slice (some ⟨ub, 0, none⟩) ln c][j]? = some u → (((w.alloc (.cells #[.int .i64 top, .int .i64 bottom, .slice (some ⟨ub, 0, none⟩) ln c] 192)).drewN n).alloc (.cells #[.int .i64 top, .int .i64 bottom, .slice (some ⟨ub, 0, none⟩) ln c] 192)).cell? ((⟨w.heap.size + 1, 0, none⟩ : Addr).add j) = some u) := fun n => World.news_of_block (cs := #[.int .i64 top, .int .i64 bottom, .slice (some ⟨ub, 0, none⟩) ln c]) (t := 192) (fr := (0, 0)) (boxed_new w _ _ n)
  have HNE : Hid (some o ≠ (.slice none 0 0 : Value).ownBlock) := by simp [Hid, Value.ownBlock]
  have HRow : Hid (∀ k, (.slice none 0 0 : Value).ownBlock = some k → base ≤ k) := fun k h => by simp [Value.ownBlock] at h
  clear hown
  go_enter Tryz.func154, Tryz.ntmps154
  go_wp2_with fail
  go_quiet (fail)
  go_wp2
  go_region_law (refine step_append_lies _ (by rfl) (.tmp 56) (.tmp 58) 134 (by rfl) base 192 i0 _ 3 40 Tryz.underlying134 hi0 hz0 hz1 hz2 rfl (by omega) (.slice none 0 0) (0) xs (by rfl) (by exact HO.out _) ⟨w.heap.size + 1, 0, none⟩ 1 1 [.int .i64 top, .int .i64 bottom, .slice (some ⟨ub, 0, none⟩) ln c] (by rfl) (by rfl) (by exact HN.out _) (by simp [Value.oneCell']) (by omega) (by unfold maxLen; omega) (by omega) (by rw [boxed_size]; omega) _ rfl ?_; intro gg cp w1 hown1 hgrow hat hlt; obtain ⟨ko, kf⟩ := after_append (boxed_old w _ _ _) (by rw [boxed_size]; omega) hgrow ol HNE.out; rw [ho] at ko; rw [hfo] at kf; have HOwn := hide hown1; have HGrow := hide hgrow; have HAt := hide hat; clear hown1 hgrow hat)
  all_goals
    go_wp2
    exact bodyPost_end (v := .tuple #[]) (by simp [results, Tryz.results154]) rfl ⟨rfl, gg, cp, w1, HOwn.out, (boxed_below w _ _ _ base hbase).grown HGrow.out (by rw [boxed_size]; omega) HRow.out, grown_from (boxed_old w _ _ _) (by rw [boxed_size]; omega) rfl rfl rfl HGrow.out, hlt, row_at HAt.out (by rw [boxed_size]; omega), 0, rfl⟩

set_option maxRecDepth 100000 in
set_option maxHeartbeats 2000000 in
theorem add_apart (base o c ub : Nat) (top bottom : Int) (ln : Nat) (xs : List Value) (w : World) (hln : 0 < ln) (g m cap : Nat) (hm : m ≤ 10000) (ho : w.cell? ⟨o, 0, none⟩ = some (.slice (some ⟨g, 0, none⟩) (m + 1) cap)) (hfo : w.frozen? ⟨o, 0, none⟩ = false) (hown : w.ownsRow base 192 3 (.slice (some ⟨g, 0, none⟩) (m + 1) cap) (m + 1) xs) (hog : o ≠ g) (hgb : base ≤ g) (bot : Int) (h1 : w.cell? ⟨g, m * 3 + 1, none⟩ = some (.int .i64 bot)) (hbt : (bot == top) = false)
    (hbase : base ≤ w.heap.size) :
    Calls Tryz.prog 154 #[.pointer (some ⟨o, 0, none⟩), .agg #[.int .i64 top, .int .i64 bottom, .slice (some ⟨ub, 0, none⟩) ln c]] w fun e w' => e = .returned (.tuple #[]) ∧
      Appended w w' base o (.slice (some ⟨g, 0, none⟩) (m + 1) cap) (m + 1) xs [.int .i64 top, .int .i64 bottom, .slice (some ⟨ub, 0, none⟩) ln c] := by
  obtain ⟨i0, hi0, hz0, hz1, hz2⟩ := info_parts bandInfo
  have ol := cell_lt ho
  have hln' : ((ln : Int) == 0) = false := by simp; omega
  have gl := cell_lt h1
  have HO : Hid (∀ n, (((w.alloc (.cells #[.int .i64 top, .int .i64 bottom, .slice (some ⟨ub, 0, none⟩) ln c] 192)).drewN n).alloc (.cells #[.int .i64 top, .int .i64 bottom, .slice (some ⟨ub, 0, none⟩) ln c] 192)).ownsRow base 192 3 (.slice (some ⟨g, 0, none⟩) (m + 1) cap) (m + 1) xs) := fun n => World.ownsRow.alloc (show ((w.alloc (.cells #[.int .i64 top, .int .i64 bottom, .slice (some ⟨ub, 0, none⟩) ln c] 192)).drewN n).ownsRow base 192 3 (.slice (some ⟨g, 0, none⟩) (m + 1) cap) (m + 1) xs from hown.alloc _) _
  have HN : Hid (∀ n, ∀ j u, [Value.int .i64 top, .int .i64 bottom, .slice (some ⟨ub, 0, none⟩) ln c][j]? = some u → (((w.alloc (.cells #[.int .i64 top, .int .i64 bottom, .slice (some ⟨ub, 0, none⟩) ln c] 192)).drewN n).alloc (.cells #[.int .i64 top, .int .i64 bottom, .slice (some ⟨ub, 0, none⟩) ln c] 192)).cell? ((⟨w.heap.size + 1, 0, none⟩ : Addr).add j) = some u) := fun n => World.news_of_block (cs := #[.int .i64 top, .int .i64 bottom, .slice (some ⟨ub, 0, none⟩) ln c]) (t := 192) (fr := (0, 0)) (boxed_new w _ _ n)
  have HNE : Hid (some o ≠ (.slice (some ⟨g, 0, none⟩) (m + 1) cap : Value).ownBlock) := fun h => hog (by simpa [Value.ownBlock] using h)
  have HRow : Hid (∀ k, (.slice (some ⟨g, 0, none⟩) (m + 1) cap : Value).ownBlock = some k → base ≤ k) := fun k h => by simp [Value.ownBlock] at h; omega
  clear hown
  go_enter Tryz.func154, Tryz.ntmps154
  go_wp2_with fail
  go_quiet (fail)
  go_wp2
  go_region_law (refine step_append_lies _ (by rfl) (.tmp 56) (.tmp 58) 134 (by rfl) base 192 i0 _ 3 40 Tryz.underlying134 hi0 hz0 hz1 hz2 rfl (by omega) (.slice (some ⟨g, 0, none⟩) (m + 1) cap) (m + 1) xs (by rfl) (by exact HO.out _) ⟨w.heap.size + 1, 0, none⟩ 1 1 [.int .i64 top, .int .i64 bottom, .slice (some ⟨ub, 0, none⟩) ln c] (by rfl) (by rfl) (by exact HN.out _) (by simp [Value.oneCell']) (by omega) (by unfold maxLen; omega) (by omega) (by rw [boxed_size]; omega) _ rfl ?_; intro gg cp w1 hown1 hgrow hat hlt; obtain ⟨ko, kf⟩ := after_append (boxed_old w _ _ _) (by rw [boxed_size]; omega) hgrow ol HNE.out; rw [ho] at ko; rw [hfo] at kf; have HOwn := hide hown1; have HGrow := hide hgrow; have HAt := hide hat; clear hown1 hgrow hat)
  all_goals
    go_wp2
    exact bodyPost_end (v := .tuple #[]) (by simp [results, Tryz.results154]) rfl ⟨rfl, gg, cp, w1, HOwn.out, (boxed_below w _ _ _ base hbase).grown HGrow.out (by rw [boxed_size]; omega) HRow.out, grown_from (boxed_old w _ _ _) (by rw [boxed_size]; omega) rfl rfl rfl HGrow.out, hlt, row_at HAt.out (by rw [boxed_size]; omega), 0, rfl⟩

set_option maxRecDepth 100000 in
set_option maxHeartbeats 2000000 in
theorem add_other (base o c ub : Nat) (top bottom : Int) (ln : Nat) (xs : List Value) (w : World) (hln : 0 < ln) (g m cap : Nat) (hm : m ≤ 10000) (ho : w.cell? ⟨o, 0, none⟩ = some (.slice (some ⟨g, 0, none⟩) (m + 1) cap)) (hfo : w.frozen? ⟨o, 0, none⟩ = false) (hown : w.ownsRow base 192 3 (.slice (some ⟨g, 0, none⟩) (m + 1) cap) (m + 1) xs) (hog : o ≠ g) (hgb : base ≤ g) (h1 : w.cell? ⟨g, m * 3 + 1, none⟩ = some (.int .i64 top)) (ul : Value) (h2 : w.cell? ⟨g, m * 3 + 2, none⟩ = some ul) (hE : ∀ w1, Below w.heap.size w w1 → Calls Tryz.prog 185 #[ul, .slice (some ⟨ub, 0, none⟩) ln c] w1 fun e w' => e = .returned (.bool false) ∧ ∃ nq, w' = w1.drewN nq)
    (hbase : base ≤ w.heap.size) :
    Calls Tryz.prog 154 #[.pointer (some ⟨o, 0, none⟩), .agg #[.int .i64 top, .int .i64 bottom, .slice (some ⟨ub, 0, none⟩) ln c]] w fun e w' => e = .returned (.tuple #[]) ∧
      Appended w w' base o (.slice (some ⟨g, 0, none⟩) (m + 1) cap) (m + 1) xs [.int .i64 top, .int .i64 bottom, .slice (some ⟨ub, 0, none⟩) ln c] := by
  obtain ⟨i0, hi0, hz0, hz1, hz2⟩ := info_parts bandInfo
  have ol := cell_lt ho
  have hln' : ((ln : Int) == 0) = false := by simp; omega
  have gl := cell_lt h1
  have HO : Hid (∀ n, (((w.alloc (.cells #[.int .i64 top, .int .i64 bottom, .slice (some ⟨ub, 0, none⟩) ln c] 192)).drewN n).alloc (.cells #[.int .i64 top, .int .i64 bottom, .slice (some ⟨ub, 0, none⟩) ln c] 192)).ownsRow base 192 3 (.slice (some ⟨g, 0, none⟩) (m + 1) cap) (m + 1) xs) := fun n => World.ownsRow.alloc (show ((w.alloc (.cells #[.int .i64 top, .int .i64 bottom, .slice (some ⟨ub, 0, none⟩) ln c] 192)).drewN n).ownsRow base 192 3 (.slice (some ⟨g, 0, none⟩) (m + 1) cap) (m + 1) xs from hown.alloc _) _
  have HN : Hid (∀ n, ∀ j u, [Value.int .i64 top, .int .i64 bottom, .slice (some ⟨ub, 0, none⟩) ln c][j]? = some u → (((w.alloc (.cells #[.int .i64 top, .int .i64 bottom, .slice (some ⟨ub, 0, none⟩) ln c] 192)).drewN n).alloc (.cells #[.int .i64 top, .int .i64 bottom, .slice (some ⟨ub, 0, none⟩) ln c] 192)).cell? ((⟨w.heap.size + 1, 0, none⟩ : Addr).add j) = some u) := fun n => World.news_of_block (cs := #[.int .i64 top, .int .i64 bottom, .slice (some ⟨ub, 0, none⟩) ln c]) (t := 192) (fr := (0, 0)) (boxed_new w _ _ n)
  have HNE : Hid (some o ≠ (.slice (some ⟨g, 0, none⟩) (m + 1) cap : Value).ownBlock) := fun h => hog (by simpa [Value.ownBlock] using h)
  have HRow : Hid (∀ k, (.slice (some ⟨g, 0, none⟩) (m + 1) cap : Value).ownBlock = some k → base ≤ k) := fun k h => by simp [Value.ownBlock] at h; omega
  clear hown
  go_enter Tryz.func154, Tryz.ntmps154
  go_wp2_with fail
  go_quiet ((go_at_call 185; exact Calls.quiet_of (hE _ (below_drewN ((Below.refl _ _).alloc (Nat.le_refl _) _) _))))
  go_wp2
  go_region_law (refine step_append_lies _ (by rfl) (.tmp 56) (.tmp 58) 134 (by rfl) base 192 i0 _ 3 40 Tryz.underlying134 hi0 hz0 hz1 hz2 rfl (by omega) (.slice (some ⟨g, 0, none⟩) (m + 1) cap) (m + 1) xs (by rfl) (by exact HO.out _) ⟨w.heap.size + 1, 0, none⟩ 1 1 [.int .i64 top, .int .i64 bottom, .slice (some ⟨ub, 0, none⟩) ln c] (by rfl) (by rfl) (by exact HN.out _) (by simp [Value.oneCell']) (by omega) (by unfold maxLen; omega) (by omega) (by rw [boxed_size]; omega) _ rfl ?_; intro gg cp w1 hown1 hgrow hat hlt; obtain ⟨ko, kf⟩ := after_append (boxed_old w _ _ _) (by rw [boxed_size]; omega) hgrow ol HNE.out; rw [ho] at ko; rw [hfo] at kf; have HOwn := hide hown1; have HGrow := hide hgrow; have HAt := hide hat; clear hown1 hgrow hat)
  all_goals
    go_wp2
    exact bodyPost_end (v := .tuple #[]) (by simp [results, Tryz.results154]) rfl ⟨rfl, gg, cp, w1, HOwn.out, (boxed_below w _ _ _ base hbase).grown HGrow.out (by rw [boxed_size]; omega) HRow.out, grown_from (boxed_old w _ _ _) (by rw [boxed_size]; omega) rfl rfl rfl HGrow.out, hlt, row_at HAt.out (by rw [boxed_size]; omega), 0, rfl⟩


end Go.Proofs.YtofinpocigbbeaaGreat
