import Derived.Test.YtlaflopimpnjpaaGreatSg30
import Derived.Deep.RegionLaw
/-! RefN -/
namespace Go.Proofs.YtlaflopimpnjpaaGreat
open Go.RowKit
attribute [local go_sem ↓] Go.wp_at_zero Go.wp_at_succ

theorem bufInfo : (Tryz.prog.info? 96).map (fun i => (i.zero, i.size, i.bytes)) = some (some (.agg #[.slice none 0 0, .int .i64 0, .slice none 0 0]), 3, 56) := by kernel_rfl

/-- The screen's buffers so far. -/
structure NewM (w wr : World) (W H : Int) (k : Nat) (bv : Value) (xs : List Value) : Prop where
  bel : Below w.heap.size w wr
  scr : Blk wr w.heap.size 93 #[.int .i64 W, .int .i64 H, bv, .slice none 0 0, .slice none 0 0]
  row : wr.ownsRow (w.heap.size + 1) 96 3 bv k xs
  drt : ∀ j, j < k → ∃ (dv : Value) (m : Nat), xs[j * 3 + 2]? = some dv ∧ (m : Int) = W * H ∧ ∃ ys, RowS wr (fun g => w.heap.size ≤ g ∧ g < wr.heap.size) 4 1 dv m ys

def NPost (W H : Int) (w : World) (e : Ending) (w' : World) : Prop := ∃ c, e = .returned (.tuple #[.pointer (some ⟨c, 0, none⟩), .int .i64 0]) ∧ RefOk w' (fun g => w.heap.size ≤ g ∧ g < w'.heap.size) c ⟨W, H, [], []⟩ ∧ Below w.heap.size w w'

theorem NewM.done {w wr : World} {W H : Int} {k : Nat} {bv : Value} {xs : List Value} (h : NewM w wr W H k bv xs) (hk : k ≤ 3) : RefOk wr (fun g => w.heap.size ≤ g ∧ g < wr.heap.size) w.heap.size ⟨W, H, [], []⟩ := by
  refine ⟨bv, .slice none 0 0, .slice none 0 0, fun _ _ => undef, ⟨h.scr, ⟨Nat.le_refl _, h.scr.has.lt⟩, ⟨[], RowS.nil _ _ _ _, fun i hi => by simp at hi⟩, RowS.nil _ _ _ _, k, xs, hk, ⟨⟨h.row.1, h.row.2.imp (fun h => h) fun ⟨g, c, cur, e1, _, e3⟩ => ⟨g, c, cur, e1, Nat.zero_le _, e3⟩⟩, fun g hg => ⟨by have := (h.row.lt g hg).1; omega, (h.row.lt g hg).2⟩⟩, h.drt⟩, ⟨fun i hi => by simp at hi, fun i hi => by simp at hi, fun i hi => by simp at hi⟩⟩

theorem third_block (w : World) (a b x : Obj) : (((w.alloc a).alloc b).alloc x).heap[w.heap.size + 1 + 1]? = some x := by
  have h9 := heap_alloc_new ((w.alloc a).alloc b) x
  simpa using h9
theorem second_block (w : World) (a b x : Obj) : (((w.alloc a).alloc b).alloc x).heap[w.heap.size + 1]? = some b := by
  have h9 := heap_alloc_new (w.alloc a) b
  rw [heap_old _ x _ (by simp)]
  simpa using h9
theorem first_block (w : World) (a b x : Obj) : (((w.alloc a).alloc b).alloc x).heap[w.heap.size]? = some a := by
  rw [heap_old _ x _ (by simp; omega), heap_old _ b _ (by simp)]
  exact heap_alloc_new w a

/-- What the screen's block says behind the append. -/
theorem NewM.cell {w wr w5 w6 : World} {W H : Int} {k : Nat} {bv : Value} {xs : List Value} (h : NewM w wr W H k bv xs) (h5 : ∀ b, b < wr.heap.size → w5.heap[b]? = wr.heap[b]?) (hg : w5.grownBy w6 bv.ownBlock) :
    Blk w6 w.heap.size 93 #[.int .i64 W, .int .i64 H, bv, .slice none 0 0, .slice none 0 0] := by
  have hc := h.scr.has.lt
  have e5 := h5 _ hc
  have hne : some w.heap.size ≠ bv.ownBlock := fun e => by have := (h.row.lt _ e.symm).1; omega
  have e6 := hg.block w.heap.size (block_lt (e5.trans h.scr)) hne
  exact e6.trans (e5.trans h.scr)

theorem NewM.step {w wr w5 w6 : World} {W H : Int} {k : Nat} {bv : Value} {xs : List Value} (h : NewM w wr W H k bv xs) {K d g cap : Nat} {u0 u1 : Value} (hK : (K : Int) = W * H) (hK1 : K ≤ 1000)
    (hb5 : Below w.heap.size w w5) (h5 : ∀ b, b < wr.heap.size → w5.heap[b]? = wr.heap[b]?) (hs5 : wr.heap.size ≤ w5.heap.size) (hgrow : w5.grownBy w6 bv.ownBlock)
    (hd0 : wr.heap.size ≤ d) (hd : w5.heap[d]? = some (.cells (madeCells #[.bool false] K) 4))
    (hown : w6.ownsRow (w.heap.size + 1) 96 3 (.slice (some ⟨g, 0, none⟩) (k + 1) cap) (k + 1) (xs ++ [u0, u1, .slice (some ⟨d, 0, none⟩) K K])) :
    NewM w (w6.setCell ⟨w.heap.size, 2, none⟩ (.slice (some ⟨g, 0, none⟩) (k + 1) cap)) W H (k + 1) (.slice (some ⟨g, 0, none⟩) (k + 1) cap) (xs ++ [u0, u1, .slice (some ⟨d, 0, none⟩) K K]) := by
  have hB := h.cell h5 hgrow
  have hsz := h.bel.size
  have hlen := h.row.1
  have hown5 : w5.ownsRow (w.heap.size + 1) 96 3 bv k xs := own_keep h.row fun g hg => h5 g (h.row.lt g hg).2
  have hk := grown_other (T := 96) hgrow fun g hg => own_type hown5 hg
  have hs6 : w5.heap.size ≤ w6.heap.size := hgrow.size
  have hstay : ∀ (b : Nat) (cur : Array Value), w5.heap[b]? = some (.cells cur 4 (0, 0)) → (w6.setCell ⟨w.heap.size, 2, none⟩ (.slice (some ⟨g, 0, none⟩) (k + 1) cap)).heap[b]? = w5.heap[b]? := fun b cur hb => by
    have e6 := hk _ (by decide) b cur hb
    rw [heap_setCell_other w6 ⟨w.heap.size, 2, none⟩ b _ (ne_of_type (e6.trans hb) hB (by decide)), e6]
  refine ⟨((hb5.grown hgrow (by omega) fun k hk => by have := (h.row.lt k hk).1; omega).setCell (Nat.le_refl _) _), hB.set 2 _, own_keep hown fun b hb => ?_, fun j hj => ?_⟩
  · have h1 := (hown.lt b hb).1
    exact heap_setCell_other w6 ⟨w.heap.size, 2, none⟩ b _ (show b ≠ w.heap.size by omega)
  · by_cases e : j = k
    · subst e
      refine ⟨.slice (some ⟨d, 0, none⟩) K K, K, ?_, hK, (madeCells #[.bool false] K).toList, ⟨⟨by simp [size_madeCells], .inr ⟨d, K, _, rfl, Nat.zero_le _, (hstay d _ hd).trans hd, Nat.le_refl _, by unfold maxLen; omega, by simp [size_madeCells], List.take_of_length_le (by simp [size_madeCells])⟩⟩, fun b hb => ?_⟩⟩
      · rw [List.getElem?_append_right (by omega), hlen, show j * 3 + 2 - j * 3 = 2 by omega]
        rfl
      · have hb' : d = b := by simpa [Value.ownBlock] using hb
        subst hb'
        have := block_lt hd
        exact ⟨by omega, by simp; omega⟩
    · obtain ⟨dv, m, a1, a2, ys, a3⟩ := h.drt j (by omega)
      have a4 : RowS w5 _ 4 1 dv m ys := a3.keep fun g _ hg => h5 g hg
      refine ⟨dv, m, ?_, a2, ys, (a4.other hstay).mono fun b hb => ⟨hb.1, by simp; omega⟩⟩
      rw [List.getElem?_append_left (by omega)]
      exact a1

set_option maxRecDepth 100000 in
set_option maxHeartbeats 1000000 in
/-- New, where it is not refused. -/
theorem refNew_ok (W H n : Int) (w : World) (hW : 1 ≤ W ∧ W ≤ 24) (hH : 1 ≤ H ∧ H ≤ 24) (hn : 1 ≤ n ∧ n ≤ 3) :
    Calls Tryz.prog 14 #[.int .i64 W, .int .i64 H, .int .i64 n] w (NPost W H w) := by
  obtain ⟨i0, hi0, hz0, hz1, hz2⟩ := info_parts bufInfo
  obtain ⟨j0, hj0, hy0, hy1, hy2⟩ := info_parts pixInfo
  obtain ⟨N, hN⟩ : ∃ N : Nat, n = N := ⟨n.toNat, by omega⟩
  subst hN
  obtain ⟨hW0, hW1⟩ := hW
  obtain ⟨hH0, hH1⟩ := hH
  obtain ⟨hn0, hn1⟩ := hn
  have hWH : 0 ≤ W * H ∧ W * H ≤ 24 * 24 := ⟨Int.mul_nonneg (by omega) (by omega), Int.mul_le_mul hW1 hH1 (by omega) (by omega)⟩
  obtain ⟨K, hK⟩ : ∃ K : Nat, (K : Int) = W * H := ⟨(W * H).toNat, by omega⟩
  have m1 : IntKind.i64.wrap (W * H) = (K : Int) := by rw [IntKind.wrap_i64]; omega
  have m2 : wrap64 (W * H) = (K : Int) := by unfold wrap64; omega
  have hmk1 : ∀ w : World, (Instr.makeSlice 94 (.int .i64 (K : Int)) (.int .i64 (K : Int))).run Tryz.prog w = .ok (.slice (some ⟨w.heap.size, 0, none⟩) K K) (w.alloc (.cells (madeCells #[.bool false] K) 4)) := fun w => run_make_row' 94 4 (.bool false) 1 Tryz.underlying94 boolInfo rfl .i64 .i64 K (by omega) (by omega) w
  have hmk2 : ∀ w : World, (Instr.makeSlice 39 (.int .i64 (K : Int)) (.int .i64 (K : Int))).run Tryz.prog w = .ok (.slice (some ⟨w.heap.size, 0, none⟩) K K) (w.alloc (.cells (madeCells #[.int .u8 0, .int .u8 0, .int .u8 0, .int .u8 0] (K * 4)) 55)) := fun w => by
    have h9 := run_make (P := Tryz.prog) w 39 55 j0 _ Tryz.underlying39 hj0 hy0 .i64 .i64 K K (by omega) (Int.le_refl _) (by rw [hy2]; omega) (by omega)
    simp only [Int.toNat_natCast, hy1] at h9
    exact h9
  have hK1 : K ≤ 1000 := by omega
  have HK := hide hK
  clear hWH hK
  go_enter Tryz.func14, Tryz.ntmps14
  go_wp2
  go_loopg [9] N (fun gg s9 wr => ∃ (k : Nat) (bv : Value) (xs : List Value), s9 = .int .i64 k ∧ gg + k = N ∧ NewM w wr W H k bv xs)
  case atStart => exact ⟨0, .slice none 0 0, [], rfl, by omega, ⟨(Below.refl _ _).alloc (Nat.le_refl _) _, heap_alloc_new w _, World.ownsRow_nil _ _ _ _, fun j hj => by omega⟩⟩
  case round =>
    rename World => wr
    obtain ⟨k, bv, xs, rfl, hgk, hM⟩ := hrel
    cases gk with
    | zero =>
      have hlt : ¬ (k : Int) < (N : Int) := by omega
      have HM := hide hM
      clear hM
      go_wp2
      go_ret2
      exact ⟨_, rfl, HM.out.done (by omega), HM.out.bel⟩
    | succ gk =>
      have hlt : (k : Int) < (N : Int) := by omega
      obtain ⟨ba, bc, hbf⟩ := row_form hM.row
      subst hbf
      have c2 : wr.cell? ⟨w.heap.size, 2, none⟩ = some (.slice ba k bc) := hM.scr.cell 2
      have f2 := hM.scr.has.free 2
      have hcl := hM.scr.has.lt
      have HM := hide hM
      clear hM
      have HB0 : Hid (∀ (w6 : World) (o1 o2 o3 : Obj), (((wr.alloc o1).alloc o2).alloc o3).drew.grownBy w6 (Value.slice ba k bc).ownBlock → Blk w6 w.heap.size 93 #[.int .i64 W, .int .i64 H, .slice ba k bc, .slice none 0 0, .slice none 0 0]) := fun w6 o1 o2 o3 hg => HM.out.cell (fun b hb => (((al1 (Nat.le_refl wr.heap.size) o1).alloc (by simp) o2).alloc (by simp; omega) o3).drew.block b hb) hg
      have HS : Hid (∀ (w6 : World) (o1 o2 o3 : Obj) (g cap : Nat) (u0 u1 : Value) (d : Nat), wr.heap.size ≤ d → (((wr.alloc o1).alloc o2).alloc o3).heap[d]? = some (.cells (madeCells #[.bool false] K) 4) → (((wr.alloc o1).alloc o2).alloc o3).drew.grownBy w6 (Value.slice ba k bc).ownBlock → w6.ownsRow (w.heap.size + 1) 96 3 (.slice (some ⟨g, 0, none⟩) (k + 1) cap) (k + 1) (xs ++ [u0, u1, .slice (some ⟨d, 0, none⟩) K K]) → ∃ bv xs', bv = (Value.slice (some ⟨g, 0, none⟩) (k + 1) cap) ∧ NewM w (w6.setCell ⟨w.heap.size, 2, none⟩ (.slice (some ⟨g, 0, none⟩) (k + 1) cap)) W H (k + 1) bv xs') := fun w6 o1 o2 o3 g cap u0 u1 d h1 h2 h3 h4 => by
        have hz := HM.out.bel.size
        exact ⟨_, _, rfl, HM.out.step HK.out hK1 ((((HM.out.bel.alloc hz o1).alloc (by simp; omega) o2).alloc (by simp; omega) o3).drew) (fun b hb => (((al1 (Nat.le_refl wr.heap.size) o1).alloc (by simp) o2).alloc (by simp; omega) o3).drew.block b hb) (by show wr.heap.size ≤ (((wr.alloc o1).alloc o2).alloc o3).heap.size; simp; omega) h3 h1 h2 h4⟩
      have g1 : ∀ o1, (wr.alloc o1).cell? ⟨w.heap.size, 2, none⟩ = some (.slice ba k bc) := fun o1 => by rw [cell_old _ _ _ _ hcl]; exact c2
      have g2 : ∀ o1 o2, ((wr.alloc o1).alloc o2).cell? ⟨w.heap.size, 2, none⟩ = some (.slice ba k bc) := fun o1 o2 => by rw [cell_old _ _ _ _ (by simp; omega)]; exact g1 o1
      have g3 : ∀ o1 o2 o3, (((wr.alloc o1).alloc o2).alloc o3).cell? ⟨w.heap.size, 2, none⟩ = some (.slice ba k bc) := fun o1 o2 o3 => by rw [cell_old _ _ _ _ (by simp; omega)]; exact g2 o1 o2
      go_upto_region 9 with fail
      go_region_law (first | (refine step_append_lies _ (by rfl) (.tmp 43) (.tmp 53) _ (by rfl) (w.heap.size + 1) 96 i0 _ 3 56 Tryz.underlying90 hi0 hz0 hz1 hz2 rfl (by omega) (.slice ba k bc) k xs (by rfl) ((((HM.out.row.alloc _).alloc _).alloc _).drew) ⟨wr.heap.size + 1 + 1, 0, none⟩ 1 1 [.slice (some ⟨wr.heap.size, 0, none⟩) K K, .int .i64 0, .slice (some ⟨wr.heap.size + 1, 0, none⟩) K K] (by rfl) (by rfl) (World.news_of_block (cs := #[.slice (some ⟨wr.heap.size, 0, none⟩) K K, .int .i64 0, .slice (some ⟨wr.heap.size + 1, 0, none⟩) K K]) (t := 96) (fr := (0, 0)) (third_block wr _ _ _)) (by simp [Value.oneCell']) (by omega) (by unfold maxLen; omega) (by omega) (by simp; omega) (wr.heap.size + 1 + 1 + 1) (by simp) ?_; intro gg cp w6 hown6 hgrow hat hlt10; have HB := HB0.out w6 _ _ _ hgrow; have c26 := HB.cell 2; have f26 := HB.has.free 2; have H6 := hide (HS.out w6 _ _ _ gg cp _ _ (wr.heap.size + 1) (by omega) (by first | exact first_block wr _ _ _ | exact second_block wr _ _ _) hgrow hown6); clear hown6 hgrow hat HB) | (refine step_append_lies _ (by rfl) (.tmp 43) (.tmp 53) _ (by rfl) (w.heap.size + 1) 96 i0 _ 3 56 Tryz.underlying90 hi0 hz0 hz1 hz2 rfl (by omega) (.slice ba k bc) k xs (by rfl) ((((HM.out.row.alloc _).alloc _).alloc _).drew) ⟨wr.heap.size + 1 + 1, 0, none⟩ 1 1 [.slice (some ⟨wr.heap.size + 1, 0, none⟩) K K, .int .i64 0, .slice (some ⟨wr.heap.size, 0, none⟩) K K] (by rfl) (by rfl) (World.news_of_block (cs := #[.slice (some ⟨wr.heap.size + 1, 0, none⟩) K K, .int .i64 0, .slice (some ⟨wr.heap.size, 0, none⟩) K K]) (t := 96) (fr := (0, 0)) (third_block wr _ _ _)) (by simp [Value.oneCell']) (by omega) (by unfold maxLen; omega) (by omega) (by simp; omega) (wr.heap.size + 1 + 1 + 1) (by simp) ?_; intro gg cp w6 hown6 hgrow hat hlt10; have HB := HB0.out w6 _ _ _ hgrow; have c26 := HB.cell 2; have f26 := HB.has.free 2; have H6 := hide (HS.out w6 _ _ _ gg cp _ _ (wr.heap.size) (by omega) (by first | exact first_block wr _ _ _ | exact second_block wr _ _ _) hgrow hown6); clear hown6 hgrow hat HB))
      all_goals
        go_wp2
        go_roundg gk
        case measure => omega
        case rel =>
          obtain ⟨bv', xs', _, hN⟩ := H6.out
          exact ⟨k + 1, bv', xs', by go_num, by omega, hN⟩

/-- New refuses. -/
def NRef (n : Int) (w : World) (e : Ending) (w' : World) : Prop := e = .returned (.tuple #[.pointer none, .int .i64 n]) ∧ Below w.heap.size w w'

set_option maxRecDepth 100000 in
set_option maxHeartbeats 1000000 in
theorem refNew_size (W H n : Int) (w : World) (h : W < 1 ∨ 24 < W ∨ H < 1 ∨ 24 < H) :
    Calls Tryz.prog 14 #[.int .i64 W, .int .i64 H, .int .i64 n] w (NRef 5 w) := by
  by_cases h1 : W < 1
  · go_enter Tryz.func14, Tryz.ntmps14
    go_wp2
    go_ret2
    exact ⟨rfl, Below.refl _ _⟩
  by_cases h2 : 24 < W
  · go_enter Tryz.func14, Tryz.ntmps14
    go_wp2
    go_ret2
    exact ⟨rfl, Below.refl _ _⟩
  by_cases h3 : H < 1
  · go_enter Tryz.func14, Tryz.ntmps14
    go_wp2
    go_ret2
    exact ⟨rfl, Below.refl _ _⟩
  have h4 : 24 < H := by omega
  go_enter Tryz.func14, Tryz.ntmps14
  go_wp2
  go_ret2
  exact ⟨rfl, Below.refl _ _⟩

set_option maxRecDepth 100000 in
set_option maxHeartbeats 1000000 in
theorem refNew_buf (W H n : Int) (w : World) (hW : 1 ≤ W ∧ W ≤ 24) (hH : 1 ≤ H ∧ H ≤ 24) (h : n < 1 ∨ 3 < n) :
    Calls Tryz.prog 14 #[.int .i64 W, .int .i64 H, .int .i64 n] w (NRef 10 w) := by
  obtain ⟨hW0, hW1⟩ := hW
  obtain ⟨hH0, hH1⟩ := hH
  have n1 : ¬ W < 1 := by omega
  have n2 : ¬ 24 < W := by omega
  have n3 : ¬ H < 1 := by omega
  have n4 : ¬ 24 < H := by omega
  by_cases h1 : n < 1
  · go_enter Tryz.func14, Tryz.ntmps14
    go_wp2
    go_ret2
    exact ⟨rfl, Below.refl _ _⟩
  have h4 : 3 < n := by omega
  go_enter Tryz.func14, Tryz.ntmps14
  go_wp2
  go_ret2
  exact ⟨rfl, Below.refl _ _⟩

end Go.Proofs.YtlaflopimpnjpaaGreat
