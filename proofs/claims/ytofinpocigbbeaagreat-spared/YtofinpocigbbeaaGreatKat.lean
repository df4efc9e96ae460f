import Derived.Test.YtofinpocigbbeaaGreatKai
import Derived.Test.YtofinpocigbbeaaGreatKah
import Derived.Test.YtofinpocigbbeaaGreatKap
import Derived.Test.YtofinpocigbbeaaGreatKal
import Derived.Test.YtofinpocigbbeaaGreatKab
import Derived.Test.YtofinpocigbbeaaGreatKas
import Derived.Test.YtofinpocigbbeaaGreatKaf
namespace Go.Proofs.YtofinpocigbbeaaGreat
open Go.RowKit

/-- A list of pixels in memory. -/
def PixAt (w : World) (v : Value) (l : List R4) : Prop :=
  ∃ a c, v = .slice a l.length c ∧ (0 < l.length → l.length ≤ c ∧ ∃ b off, a = some ⟨b, off, none⟩ ∧ ∀ k (h : k < l.length), w.cell? ⟨b, off + k * 4, none⟩ = some (.int .u8 l[k].1) ∧ w.cell? ⟨b, off + k * 4 + 1, none⟩ = some (.int .u8 l[k].2.1) ∧ w.cell? ⟨b, off + k * 4 + 2, none⟩ = some (.int .u8 l[k].2.2.1) ∧ w.cell? ⟨b, off + k * 4 + 3, none⟩ = some (.int .u8 l[k].2.2.2))

theorem PixAt.keep {w w' : World} {v : Value} {l : List R4} (h : PixAt w v l) (hk : ∀ b, v.ownBlock = some b → b < w.heap.size → w'.heap[b]? = w.heap[b]?) : PixAt w' v l := by
  obtain ⟨a, c, hv, hc⟩ := h
  refine ⟨a, c, hv, fun hl => ?_⟩
  obtain ⟨hlc, b, off, ha, hcs⟩ := hc hl
  refine ⟨hlc, b, off, ha, fun k hk2 => ?_⟩
  obtain ⟨h1, h2, h3, h4⟩ := hcs k hk2
  have hlt := cell_lt h1
  have hbl := hk b (by rw [hv, ha]; rfl) hlt
  exact ⟨(World.cell?_of_block hbl).trans h1, (World.cell?_of_block hbl).trans h2, (World.cell?_of_block hbl).trans h3, (World.cell?_of_block hbl).trans h4⟩

theorem PixAt.below {w w' : World} {v : Value} {l : List R4} (h : PixAt w v l) (hb : Below w.heap.size w w') : PixAt w' v l := h.keep fun b _ hl => hb.block b hl

def pixCells (l : List R4) : List Value := l.flatMap fun r => [.int .u8 r.1, .int .u8 r.2.1, .int .u8 r.2.2.1, .int .u8 r.2.2.2]

theorem pixCells_len (l : List R4) : (pixCells l).length = l.length * 4 := by
  unfold pixCells
  induction l with
  | nil => rfl
  | cons a l ih => rw [List.flatMap_cons, List.length_append, ih]; simp; omega

theorem pixCells_append (l m : List R4) : pixCells (l ++ m) = pixCells l ++ pixCells m := by unfold pixCells; rw [List.flatMap_append]

theorem pixCells_u8 (l : List R4) : ∀ x ∈ pixCells l, ∃ a : Int, x = .int .u8 a := by
  intro x hx
  unfold pixCells at hx
  rw [List.mem_flatMap] at hx
  obtain ⟨r, _, hx⟩ := hx
  simp at hx
  rcases hx with rfl | rfl | rfl | rfl <;> exact ⟨_, rfl⟩

theorem pixInfo : (Tryz.prog.info? 51).map (fun i => (i.zero, i.size, i.bytes)) = some (some (.agg #[.int .u8 0, .int .u8 0, .int .u8 0, .int .u8 0]), 4, 4) := by kernel_rfl

theorem pixCells_at (l : List R4) (i : Nat) (hi : i < l.length) :
    (pixCells l)[i * 4]? = some (.int .u8 l[i].1) ∧ (pixCells l)[i * 4 + 1]? = some (.int .u8 l[i].2.1) ∧ (pixCells l)[i * 4 + 2]? = some (.int .u8 l[i].2.2.1) ∧ (pixCells l)[i * 4 + 3]? = some (.int .u8 l[i].2.2.2) := by
  induction l generalizing i with
  | nil => simp at hi
  | cons a l ih =>
    unfold pixCells
    rw [List.flatMap_cons]
    cases i with
    | zero => exact ⟨rfl, rfl, rfl, rfl⟩
    | succ i =>
      have h9 := ih i (by simpa using hi)
      unfold pixCells at h9
      refine ⟨?_, ?_, ?_, ?_⟩
      · rw [List.getElem?_append_right (by simp; omega), show (i + 1) * 4 - _ = i * 4 by simp; omega]; exact h9.1
      · rw [List.getElem?_append_right (by simp; omega), show (i + 1) * 4 + 1 - _ = i * 4 + 1 by simp; omega]; exact h9.2.1
      · rw [List.getElem?_append_right (by simp; omega), show (i + 1) * 4 + 2 - _ = i * 4 + 2 by simp; omega]; exact h9.2.2.1
      · rw [List.getElem?_append_right (by simp; omega), show (i + 1) * 4 + 3 - _ = i * 4 + 3 by simp; omega]; exact h9.2.2.2

theorem pix_oneCell (l : List R4) : ∀ u ∈ pixCells l, u.oneCell' = true := by
  intro u hu
  obtain ⟨a, rfl⟩ := pixCells_u8 l u hu
  rfl

theorem pix_news {w : World} {v : Value} {l : List R4} (h : PixAt w v l) (hn : l = [] → v = .slice none 0 0 ∨ ∃ ad c, v = .slice (some ad) 0 c) : (v = .slice none 0 0 ∧ l.length = 0) ∨ ∃ ad c, v = .slice (some ad) l.length c ∧ ∀ j u, (pixCells l)[j]? = some u → w.cell? (ad.add j) = some u := by
  by_cases hl : l = []
  · rcases hn hl with hn | ⟨ad, c, hn⟩
    · exact .inl ⟨hn, by rw [hl]; rfl⟩
    · exact .inr ⟨ad, c, by rw [hl]; exact hn, fun j u hu => by rw [hl] at hu; simp [pixCells] at hu⟩
  · right
    have hpos : 0 < l.length := by cases l with
      | nil => exact absurd rfl hl
      | cons a l => simp
    obtain ⟨a, c, rfl, hc⟩ := h
    obtain ⟨_, b, off, rfl, hcs⟩ := hc hpos
    refine ⟨_, c, rfl, fun j u hu => ?_⟩
    have hj : j < l.length * 4 := by
      rw [← pixCells_len]
      exact (List.getElem?_eq_some_iff.1 hu).1
    obtain ⟨k, hk⟩ : ∃ k, j / 4 = k := ⟨_, rfl⟩
    have hkl : k < l.length := by omega
    obtain ⟨q1, q2, q3, q4⟩ := pixCells_at l k hkl
    obtain ⟨c1, c2, c3, c4⟩ := hcs k hkl
    rw [addr_off]
    have hcase : j = k * 4 ∨ j = k * 4 + 1 ∨ j = k * 4 + 2 ∨ j = k * 4 + 3 := by omega
    clear hk hj
    rcases hcase with rfl | rfl | rfl | rfl
    · rw [q1] at hu; rw [← hu]; exact c1
    · rw [q2] at hu; rw [← hu]; exact c2
    · rw [q3] at hu; rw [← hu]; exact c3
    · rw [q4] at hu; rw [← hu]; exact c4

set_option maxRecDepth 100000 in
theorem eqP_nil_nil (w : World) : (binOp .eql 44 (.slice none 0 0) (.slice none 0 0)).run Tryz.prog w = .ok (.bool true) w := rfl
set_option maxRecDepth 100000 in
theorem eqP_some_nil (ad : Addr) (n c : Nat) (w : World) : (binOp .eql 44 (.slice (some ad) n c) (.slice none 0 0)).run Tryz.prog w = .ok (.bool false) w := rfl

end Go.Proofs.YtofinpocigbbeaaGreat

namespace Go.Proofs.YtofinpocigbbeaaGreat
open Go.RowKit
attribute [local go_sem ↓] Go.wp_at_zero Go.wp_at_succ

/-- The pixels as a list. -/
def pxL (f : Nat → R4) (n : Nat) : List R4 := (List.range n).map f

theorem pxL_len (f : Nat → R4) (n : Nat) : (pxL f n).length = n := by simp [pxL]

theorem PixF.at' {w : World} {g n : Nat} {f : Nat → R4} (h : PixF w g n f) (c : Nat) (hn : n ≤ c) : PixAt w (.slice (some ⟨g, 0, none⟩) n c) (pxL f n) := by
  obtain ⟨cur, h1, h2, h3⟩ := h
  refine ⟨some ⟨g, 0, none⟩, c, by rw [pxL_len], fun _ => ⟨by rw [pxL_len]; exact hn, g, 0, rfl, fun k hk => ?_⟩⟩
  rw [pxL_len] at hk
  have q := h3 k hk
  have e : (pxL f n)[k]'(by rw [pxL_len]; exact hk) = f k := by simp [pxL]
  rw [e]
  have ec := fun o => cell_of_row w g (0 + k * 4 + o) cur _ _ h1
  refine ⟨?_, ?_, ?_, ?_⟩
  · have := ec 0; simp only [Nat.zero_add, Nat.add_zero] at this ⊢; rw [this]; exact q.1
  · have := ec 1; simp only [Nat.zero_add] at this ⊢; rw [this]; exact q.2.1
  · have := ec 2; simp only [Nat.zero_add] at this ⊢; rw [this]; exact q.2.2.1
  · have := ec 3; simp only [Nat.zero_add] at this ⊢; rw [this]; exact q.2.2.2

set_option maxRecDepth 100000 in
set_option maxHeartbeats 1000000 in
/-- slices.Clone of pixels -/
theorem clone_any (g n c : Nat) (hc : n ≤ c) (hn : n ≤ 576) (f : Nat → R4) (w : World) (h : PixF w g n f) :
    Calls Tryz.prog 165 #[.slice (some ⟨g, 0, none⟩) n c] w fun e w' => ∃ v, e = .returned v ∧ w'.ownsRow w.heap.size 51 4 v n (pixCells (pxL f n)) ∧ v ≠ .slice none 0 0 ∧ Below w.heap.size w w' := by
  obtain ⟨i0, hi0, hz0, hz1, hz2⟩ := info_parts pixInfo
  have hl := h.has.lt
  have hnews := pix_news ((h.keep (heap_old w (.cells #[] 51) g hl)).at' c hc) fun e => .inr ⟨⟨g, 0, none⟩, c, by have := congrArg List.length e; rw [pxL_len] at this; simp at this; rw [this]⟩
  rw [pxL_len] at hnews
  have HNw := hide hnews
  clear hnews h
  have HOw : Hid ((w.alloc (.cells #[] 51)).ownsRow w.heap.size 51 4 (.slice (some ⟨w.heap.size, 0, none⟩) 0 0) 0 []) := ⟨rfl, .inr ⟨w.heap.size, 0, #[], rfl, Nat.le_refl _, heap_alloc_new w _, by simp, by simp⟩⟩
  have hq := eqP_some_nil
  go_enter Tryz.func165, Tryz.ntmps165
  go_wp2_with (at_builtin; refine wpList_append_row (P := Tryz.prog) rfl (.tmp 5) (.tmp 6) 44 rfl w.heap.size 51 i0 _ 4 4 Tryz.underlying44 hi0 hz0 hz1 hz2 rfl (by decide) (.slice (some ⟨w.heap.size, 0, none⟩) 0 0) 0 [] rfl ?_ (.slice (some ⟨g, 0, none⟩) n c) n (pixCells (pxL f n)) rfl ?_ HNw.out (pix_oneCell _) (by unfold maxLen; omega) (by omega) (by simp) ?_; exact HOw.out; (rw [pixCells_len, pxL_len]); intro v3 w3 ho3 hg3 hn3 ha3; have HB3 := hide (((Below.refl w.heap.size w).alloc (Nat.le_refl _) _).grown hg3 (by simp) (fun k hk => by simp [Value.ownBlock] at hk; omega)); have HO3 := hide (And.intro ho3 hn3); clear ho3 hg3 hn3 ha3)
  go_ret
  refine ⟨_, rfl, ?_, ?_, HB3.out⟩
  · have q := HO3.out.1
    rw [Nat.zero_add, List.nil_append] at q
    exact q
  · intro e
    have q := HO3.out.2.1 e
    simp at q

set_option maxRecDepth 100000 in
set_option maxHeartbeats 1000000 in
/-- Grid.Cells -/
theorem cells_any (W H g n : Nat) (hn : n ≤ 576) (f : Nat → R4) (w : World) (h : PixF w g n f) :
    Calls Tryz.prog 110 #[.agg #[.int .i64 W, .int .i64 H, .slice (some ⟨g, 0, none⟩) n n]] w fun e w' => ∃ v, e = .returned v ∧ w'.ownsRow w.heap.size 51 4 v n (pixCells (pxL f n)) ∧ v ≠ .slice none 0 0 ∧ Below w.heap.size w w' := by
  have hl := h.has.lt
  have HC := hide (clone_any g n n (Nat.le_refl _) hn f _ (h.keep (heap_old w (.cells #[.int .i64 W, .int .i64 H, .slice (some ⟨g, 0, none⟩) n n] 122) g hl)))
  clear h
  go_enter Tryz.func110, Tryz.ntmps110
  go_wp2_with (go_at_call 165; refine HC.out.mono ?_; rintro e w1 ⟨v, rfl, q1, q2, q3⟩; have H1 := hide (And.intro q1 (And.intro q2 q3)); clear q1 q2 q3)
  go_ret
  obtain ⟨q1, q2, q3⟩ := H1.out
  refine ⟨_, rfl, ⟨q1.1, q1.2.imp id fun ⟨g, cap, cur, a1, a2, a3⟩ => ⟨g, cap, cur, a1, Nat.le_trans (by simp) a2, a3⟩⟩, q2, (Joins.below_alloc1 w _).trans (q3.mono (by simp))⟩

set_option maxRecDepth 100000 in
set_option maxHeartbeats 1000000 in
/-- Has -/
theorem has_any {w : World} {S : Nat → Prop} {c : Nat} {d : Cv} {bg cap : Nat} {rg : Nat} {dv : Array Value} (h : CvMem w S c d (.slice (some ⟨bg, 0, none⟩) d.bufs.length cap) rg dv) (i : Int) :
    Calls Tryz.prog 39 #[.pointer (some ⟨c, 0, none⟩), .int .i64 i] w fun e w' => e = .returned (.bool (decide (0 ≤ i ∧ i < d.bufs.length))) ∧ w' = w := by
  have c4 : w.cell? ⟨c, 4, none⟩ = some (.slice (some ⟨bg, 0, none⟩) d.bufs.length cap) := h.blk.cell 4
  have hcl := cell_lt c4
  obtain ⟨n, hn⟩ : ∃ n, d.bufs.length = n := ⟨_, rfl⟩
  rw [hn] at c4
  rw [hn]
  clear h hn
  by_cases h0 : 0 ≤ i
  · by_cases h1 : i < n
    · have e : decide (0 ≤ i ∧ i < (n : Int)) = true := decide_eq_true ⟨h0, h1⟩
      rw [e]
      go_enter Tryz.func39, Tryz.ntmps39
      go_wp2_with fail
      go_ret
      exact ⟨rfl, rfl⟩
    · have e : decide (0 ≤ i ∧ i < (n : Int)) = false := decide_eq_false fun q => h1 q.2
      rw [e]
      go_enter Tryz.func39, Tryz.ntmps39
      go_wp2_with fail
      go_ret
      exact ⟨rfl, rfl⟩
  · have e : decide (0 ≤ i ∧ i < (n : Int)) = false := decide_eq_false fun q => h0 q.1
    rw [e]
    go_enter Tryz.func39, Tryz.ntmps39
    go_wp2_with fail
    go_ret
    exact ⟨rfl, rfl⟩

end Go.Proofs.YtofinpocigbbeaaGreat

namespace Go.Proofs.YtofinpocigbbeaaGreat
open Go.RowKit
attribute [local go_sem ↓] Go.wp_at_zero Go.wp_at_succ

theorem made_pix (w : World) (K : Nat) : PixF (w.alloc (.cells (madeCells #[.int .u8 0, .int .u8 0, .int .u8 0, .int .u8 0] (K * 4)) 51)) w.heap.size K (fun _ => (0, 0, 0, 0)) := by
  refine ⟨_, heap_alloc_new w _, size_madeCells _ _, fun k hk => ?_⟩
  have key : ∀ o, o < 4 → (madeCells #[.int .u8 0, .int .u8 0, .int .u8 0, .int .u8 0] (K * 4))[k * 4 + o]? = some (Value.int .u8 0) := fun o ho => by
    unfold madeCells
    rw [Array.getElem?_map, Array.getElem?_eq_getElem (by simp; omega)]
    simp only [Array.getElem_range, Option.map_some]
    have e : (k * 4 + o) % (#[Value.int .u8 0, .int .u8 0, .int .u8 0, .int .u8 0] : Array Value).size = o := by simp; omega
    rw [e]
    match o, ho with
    | 0, _ | 1, _ | 2, _ | 3, _ => rfl
  exact ⟨key 0 (by omega), key 1 (by omega), key 2 (by omega), key 3 (by omega)⟩

set_option maxRecDepth 100000 in
set_option maxHeartbeats 1000000 in
/-- grid.New -/
theorem gridNew_pix (a b : Int) (K : Nat) (hK : a * b = (K : Int)) (hK2 : K ≤ 576) (w : World) :
    Calls Tryz.prog 98 #[.int .i64 a, .int .i64 b] w fun e w' => ∃ g, e = .returned (.agg #[.int .i64 a, .int .i64 b, .slice (some ⟨g, 0, none⟩) K K]) ∧ PixF w' g K (fun _ => (0, 0, 0, 0)) ∧ w.heap.size ≤ g ∧ Below w.heap.size w w' := by
  obtain ⟨j0, hj0, hy0, hy1, hy2⟩ := info_parts pixInfo
  have hmk2 : ∀ w : World, (Instr.makeSlice 44 (.int .i64 (K : Int)) (.int .i64 (K : Int))).run Tryz.prog w = .ok (.slice (some ⟨w.heap.size, 0, none⟩) K K) (w.alloc (.cells (madeCells #[.int .u8 0, .int .u8 0, .int .u8 0, .int .u8 0] (K * 4)) 51)) := fun w => by
    have h9 := run_make (P := Tryz.prog) w 44 51 j0 _ Tryz.underlying44 hj0 hy0 .i64 .i64 K K (by omega) (Int.le_refl _) (by rw [hy2]; omega) (by omega)
    rw [hy1] at h9
    exact h9
  have HN := hide (fun (W : World) => made_pix W K)
  have HA := hide (fun o1 o2 => al2 (Nat.le_refl w.heap.size) o1 o2)
  go_enter Tryz.func98, Tryz.ntmps98
  go_wp2_with fail
  refine bodyPost_ret (v := .agg #[.int .i64 a, .int .i64 b, .slice (some ⟨w.heap.size + 1, 0, none⟩) K K]) (by simp [results, Tryz.results98, go_sem]) rfl ⟨w.heap.size + 1, rfl, ?_, by omega, HA.out _ _⟩
  have h := HN.out (w.alloc (.cells #[.int .i64 a, .int .i64 b, .slice (some ⟨w.heap.size + 1, 0, none⟩) K K] 122))
  simpa using h

/-- copy of pixels into a row of as many. -/
theorem run_copy_pixF (w : World) (ty : TypeId) (g K : Nat) (v : Value) (l : List R4) (hg : HasB w g 51 (K * 4)) (hv : PixAt w v l) (hl : l.length = K) :
    ∃ w', (Builtin.copy_ #[44, 44] ty #[.slice (some ⟨g, 0, none⟩) K K, v]).run Tryz.prog w = .ok (goInt K) w' ∧ w.grownBy w' (some g) ∧ w'.heap.size = w.heap.size ∧ PixF w' g K (fun k => l.getD k (0, 0, 0, 0)) := by
  obtain ⟨j0, hj0, hy0, hy1, hy2⟩ := info_parts pixInfo
  obtain ⟨cur, hc1, hc2⟩ := hg
  obtain ⟨a, c, rfl, hcs⟩ := hv
  rw [hl]
  by_cases h0 : K = 0
  · subst h0
    refine ⟨w, ?_, ⟨rfl, rfl, rfl, Nat.le_refl _, fun _ _ _ => rfl⟩, rfl, ⟨cur, hc1, hc2, fun k hk => by omega⟩⟩
    cases a with
    | none => simp [Builtin.copy_, run_underlying (P := Tryz.prog) Tryz.underlying44, Builtin.lenOf, Builtin.firstCells, sizeOf, typeInfo, hj0, storeCells]
    | some ad => simp [Builtin.copy_, run_underlying (P := Tryz.prog) Tryz.underlying44, Builtin.lenOf, Builtin.firstCells, sizeOf, typeInfo, hj0, storeCells, loadCells, loadCellsFrom]
  · obtain ⟨_, b, off, rfl, hcells⟩ := hcs (by omega)
    have hpl : (pixCells l).length = K * 4 := by rw [pixCells_len, hl]
    have hsrc : ∀ j u, (pixCells l)[j]? = some u → w.cell? ((⟨b, off, none⟩ : Addr).add j) = some u := fun j u hu => by
      rw [addr_off]
      have hj : j < l.length * 4 := by
        have := (List.getElem?_eq_some_iff.1 hu).1
        rw [pixCells_len] at this
        exact this
      obtain ⟨q, r, hq, hr⟩ : ∃ q r, j = q * 4 + r ∧ r < 4 := ⟨j / 4, j % 4, by omega, by omega⟩
      subst hq
      have hql : q < l.length := by omega
      obtain ⟨p0, p1, p2, p3⟩ := pixCells_at l q hql
      obtain ⟨k0, k1, k2, k3⟩ := hcells q hql
      match r, hr with
      | 0, _ =>
        rw [Nat.add_zero] at hu ⊢
        rw [p0] at hu
        rw [k0, hu]
      | 1, _ =>
        rw [p1] at hu
        rw [← Nat.add_assoc, k1, hu]
      | 2, _ =>
        rw [p2] at hu
        rw [← Nat.add_assoc, k2, hu]
      | 3, _ =>
        rw [p3] at hu
        rw [← Nat.add_assoc, k3, hu]
    have hf := run_firstCells_some (P := Tryz.prog) w 4 K ⟨b, off, none⟩ K c (pixCells l) hpl hsrc
    have hst := run_storeCells_at Tryz.prog g 0 51 (pixCells l) 0 cur w hc1 (by rw [hpl]; omega) (fun u hu => by obtain ⟨x, rfl⟩ := pixCells_u8 l u hu; rfl)
    rw [Nat.add_zero] at hst
    obtain ⟨W', hW'⟩ : ∃ W', W' = w.setRow g (cur.toList.take 0 ++ pixCells l ++ cur.toList.drop (0 + (pixCells l).length)).toArray := ⟨_, rfl⟩
    rw [← hW'] at hst
    refine ⟨W', ?_, ?_, ?_, ?_⟩
    · simp [Builtin.copy_, run_underlying (P := Tryz.prog) Tryz.underlying44, Builtin.lenOf, sizeOf, typeInfo, hj0, hy1, hf, hst]
    · rw [hW']
      exact ⟨rfl, rfl, rfl, by simp, fun k _ hk => setRow_other w g k _ (fun e => hk (by rw [e]))⟩
    · rw [hW']
      simp
    · rw [hW']
      refine ⟨_, setRow_heap w g _ _ _ _ hc1, ?_, fun k hk => ?_⟩
      · simp [hpl, hc2]
      · have hkl : k < l.length := by omega
        obtain ⟨p0, p1, p2, p3⟩ := pixCells_at l k hkl
        have e : l.getD k (0, 0, 0, 0) = l[k] := by rw [List.getD_eq_getElem?_getD, List.getElem?_eq_getElem hkl]; rfl
        have hd : cur.toList.drop (0 + (pixCells l).length) = [] := List.drop_eq_nil_of_le (by simp [hpl, hc2])
        dsimp only
        rw [e, hd, List.append_nil, List.take_zero, List.nil_append]
        simp only [List.getElem?_toArray]
        exact ⟨p0, p1, p2, p3⟩

set_option maxRecDepth 100000 in
set_option maxHeartbeats 1000000 in
/-- grid.Of -/
theorem gridOf_pix (a b : Int) (K : Nat) (hK : a * b = (K : Int)) (hK2 : K ≤ 576) (v : Value) (l : List R4) (hl : l.length = K) (w : World) (hv : PixAt w v l) :
    Calls Tryz.prog 61 #[.int .i64 a, .int .i64 b, v] w fun e w' => ∃ g, e = .returned (.agg #[.int .i64 a, .int .i64 b, .slice (some ⟨g, 0, none⟩) K K]) ∧ PixF w' g K (fun k => l.getD k (0, 0, 0, 0)) ∧ w.heap.size ≤ g ∧ Below w.heap.size w w' := by
  have HN := hide (gridNew_pix a b K hK hK2)
  have hb0 := fun o => al1 (Nat.le_refl w.heap.size) o
  have HV := hide hv
  have HB0 := hide hb0
  obtain ⟨va, vc, hvf, _⟩ := hv
  rw [hl] at hvf
  have HCp : Hid (∀ (w1 : World) (g : Nat), HasB w1 g 51 (K * 4) → w.heap.size + 1 ≤ g → Below (w.heap.size + 1) (w.alloc (.cells #[.int .i64 0, .int .i64 0, .slice none 0 0] 122)) w1 → w.heap.size + 1 ≤ w1.heap.size ∧
      ∃ w2, (Builtin.copy_ #[44, 44] 3 #[.slice (some ⟨g, 0, none⟩) K K, .slice va K vc]).run Tryz.prog (w1.alloc (.cells #[.int .i64 a, .int .i64 b, .slice (some ⟨g, 0, none⟩) K K] 122)) = .ok (goInt K) w2 ∧ HasB w2 w.heap.size 122 3 ∧ Blk w2 w1.heap.size 122 #[.int .i64 a, .int .i64 b, .slice (some ⟨g, 0, none⟩) K K] ∧ Below w.heap.size w w2 ∧ PixF w2 g K (fun k => l.getD k (0, 0, 0, 0))) := fun w1 g hg hge hb => by
    have hs1 := hb.size
    simp only [World.size_alloc] at hs1
    have hbw : Below w.heap.size w w1 := (hb0 _).trans (hb.mono (by omega))
    have hba := hbw.alloc (by omega) (.cells #[.int .i64 a, .int .i64 b, .slice (some ⟨g, 0, none⟩) K K] 122)
    have hgl := hg.lt
    obtain ⟨w2, h1, h2, h3, h4⟩ := run_copy_pixF (w1.alloc (.cells #[.int .i64 a, .int .i64 b, .slice (some ⟨g, 0, none⟩) K K] 122)) 3 g K v l (hg.alloc _) (HV.out.below hba) hl
    rw [hvf] at h1
    refine ⟨by omega, w2, h1, ?_, ?_, ⟨h2.os.trans hba.os, h2.tape.trans hba.tape, h2.output.trans hba.output, Nat.le_trans hba.size h2.size, fun k hk => by rw [h2.block k (by simp; omega) (fun e => by injection e with e; omega), hba.block k hk]⟩, h4⟩
    · refine HasB.keep (HasB.alloc (HasB.keep (HasB.new w #[.int .i64 0, .int .i64 0, .slice none 0 0] 122) (hb.block _ (by omega))) _) (h2.block _ (by simp; omega) (fun e => by injection e with e; omega))
    · show w2.heap[w1.heap.size]? = _
      rw [h2.block w1.heap.size (by simp) (fun e => by injection e with e; omega)]
      exact heap_alloc_new w1 _
  subst hvf
  clear hb0 HV hl
  go_enter Tryz.func61, Tryz.ntmps61
  go_upto_region 2 with (go_at_call 98; refine (HN.out _).mono ?_; rintro e w1 ⟨g, rfl, hg, hge, hb⟩; simp only [World.size_alloc] at hge hb; obtain ⟨hs1, w2, hrun, k1, k2, k3, k4⟩ := HCp.out w1 g hg.has hge hb; have HK := hide (And.intro k1 (And.intro k2 k3)); have HK4 := hide k4; have hgw : w.heap.size < g := (by omega); clear k1 k2 k3 k4 hg hb hge)
  have x0 : w2.cell? ⟨w1.heap.size, 0, none⟩ = some (.int .i64 a) := by rw [HK.out.2.1.cell]; rfl
  have x1 : w2.cell? ⟨w1.heap.size, 1, none⟩ = some (.int .i64 b) := by rw [HK.out.2.1.cell]; rfl
  have x2 : w2.cell? ⟨w1.heap.size, 2, none⟩ = some (.slice (some ⟨g, 0, none⟩) K K) := by rw [HK.out.2.1.cell]; rfl
  obtain ⟨q0, p0⟩ := HK.out.1.cell 0 (by omega)
  obtain ⟨q1, p1⟩ := HK.out.1.cell 1 (by omega)
  obtain ⟨q2, p2⟩ := HK.out.1.cell 2 (by omega)
  have z0 := HK.out.1.free 0
  have z1 := HK.out.1.free 1
  have z2 := HK.out.1.free 2
  have HK6 : Hid (PixF (((w2.setCell ⟨w.heap.size, 0, none⟩ (.int .i64 a)).setCell ⟨w.heap.size, 1, none⟩ (.int .i64 b)).setCell ⟨w.heap.size, 2, none⟩ (.slice (some ⟨g, 0, none⟩) K K)) g K (fun k => l.getD k (0, 0, 0, 0))) := ((HK4.out.keep (heap_setCell_other _ _ _ _ (show g ≠ w.heap.size by omega))).keep (heap_setCell_other _ _ _ _ (show g ≠ w.heap.size by omega))).keep (heap_setCell_other _ _ _ _ (show g ≠ w.heap.size by omega))
  have HB5 : Hid (Below w.heap.size w (((w2.setCell ⟨w.heap.size, 0, none⟩ (.int .i64 a)).setCell ⟨w.heap.size, 1, none⟩ (.int .i64 b)).setCell ⟨w.heap.size, 2, none⟩ (.slice (some ⟨g, 0, none⟩) K K))) := ((HK.out.2.2.setCell (Nat.le_refl _) _).setCell (Nat.le_refl _) _).setCell (Nat.le_refl _) _
  go_wp2_with fail
  exact bodyPost_ret (v := .agg #[.int .i64 a, .int .i64 b, .slice (some ⟨g, 0, none⟩) K K]) (by simp [results, Tryz.results61, go_sem, p0, p1, p2]) rfl ⟨g, rfl, HK6.out, Nat.le_of_lt hgw, HB5.out⟩

end Go.Proofs.YtofinpocigbbeaaGreat

namespace Go.Proofs.YtofinpocigbbeaaGreat
open Go.RowKit
attribute [local go_sem ↓] Go.wp_at_zero Go.wp_at_succ

set_option maxRecDepth 100000 in
set_option maxHeartbeats 1000000 in
/-- allMayBe's closure -/
theorem notMayBe_any (r : R4) (w : World) : Calls Tryz.prog 100 #[.agg #[.int .u8 r.1, .int .u8 r.2.1, .int .u8 r.2.2.1, .int .u8 r.2.2.2]] w fun e w' => e = .returned (.bool (!fitP r)) ∧ Below w.heap.size w w' := by
  have HM := hide (mayBe_any r.1 r.2.1 r.2.2.1 r.2.2.2)
  have HA := hide (fun o1 o2 => al2 (Nat.le_refl w.heap.size) o1 o2)
  go_enter Tryz.func100, Tryz.ntmps100
  go_wp2_with (go_at_call 101; refine (HM.out _).mono ?_; rintro e w' ⟨rfl, rfl⟩)
  go_ret
  exact ⟨rfl, HA.out _ _⟩

set_option maxRecDepth 100000 in
set_option maxHeartbeats 1000000 in
theorem idxP_any (l : List R4) (v : Value) (w : World) (hv : PixAt w v l) (hlen : l.length ≤ maxLen) :
    Calls Tryz.prog 149 #[v, .func (.func 100) #[] #[]] w fun e w' => ∃ r : Int, e = .returned (.int .i64 r) ∧ ((r = -1 ∧ l.all fitP = true) ∨ (0 ≤ r ∧ l.all fitP = false)) ∧ Below w.heap.size w w' := by
  unfold maxLen at hlen
  obtain ⟨res, hres⟩ : ∃ b, l.all fitP = b := ⟨_, rfl⟩
  rw [hres]
  have HRes := hide hres
  clear hres
  obtain ⟨a, c, rfl, hc⟩ := hv
  obtain ⟨m, hm⟩ : ∃ m, l.length = m := ⟨_, rfl⟩
  rw [hm] at hlen ⊢
  have H1 := hide hc
  have HM := hide hm
  clear hc hm
  go_enter Tryz.func149, Tryz.ntmps149
  go_wp2_with fail
  go_loopg [8] m (fun g s8 wr => ∃ (k : Nat), s8 = .int .i64 (k : Int) ∧ g + k = m ∧ (∀ j (h : j < l.length), j < k → fitP l[j] = true) ∧ Hid (Below w.heap.size w wr))
  case atStart => exact ⟨0, rfl, by omega, fun j _ h => absurd h (by omega), Below.refl _ _⟩
  case round =>
    obtain ⟨k, rfl, hgk, hno, HB⟩ := hrel
    have HNo := hide hno
    clear hno
    cases gk with
    | zero =>
      have hlt : ¬ (k : Int) < (m : Int) := by omega
      go_wp2_with fail
      go_ret
      refine ⟨_, rfl, .inl ⟨rfl, ?_⟩, HB.out⟩
      rw [← HRes.out, List.all_eq_true]
      intro r hr
      obtain ⟨j, hj, rfl⟩ := List.getElem_of_mem hr
      exact HNo.out j hj (by have := HM.out; omega)
    | succ g =>
      have hlt : (k : Int) < (m : Int) := by omega
      have hltn : k < m := by omega
      have hkl : k < l.length := by have := HM.out; omega
      obtain ⟨hlc, b, off, rfl, hcs⟩ := H1.out (by omega)
      obtain ⟨e1, e2, e3, e4⟩ := hcs k hkl
      have hbl := cell_lt e1
      have c1 := (HB.out.cell (p := ⟨b, off + k * 4, none⟩) hbl).trans e1
      have c2 := (HB.out.cell (p := ⟨b, off + k * 4 + 1, none⟩) hbl).trans e2
      have c3 := (HB.out.cell (p := ⟨b, off + k * 4 + 2, none⟩) hbl).trans e3
      have c4 := (HB.out.cell (p := ⟨b, off + k * 4 + 3, none⟩) hbl).trans e4
      obtain ⟨r, hr⟩ : ∃ r, l[k] = r := ⟨_, rfl⟩
      rw [hr] at c1 c2 c3 c4
      have HK := hide hr
      clear e1 e2 e3 e4 hcs hr
      have HN := hide (fun W => notMayBe_any r W)
      by_cases hin : fitP r = true
      · rw [hin] at HN
        go_wp2_with (go_at_call 100; refine (HN.out _).mono ?_; rintro e w' ⟨rfl, hb⟩; have HB2 := hide (HB.out.trans (hb.mono HB.out.size)); clear hb)
        go_roundg g
        case measure => omega
        case rel =>
          refine ⟨k + 1, by go_num, by omega, fun j hj hjk => ?_, HB2.out⟩
          by_cases e : j = k
          · subst e; rw [HK.out]; exact hin
          · exact HNo.out j hj (by omega)
      · have hin2 : fitP r = false := by simpa using hin
        rw [hin2] at HN
        go_wp2_with (go_at_call 100; refine (HN.out _).mono ?_; rintro e w' ⟨rfl, hb⟩; have HB2 := hide (HB.out.trans (hb.mono HB.out.size)); clear hb)
        go_ret
        refine ⟨_, rfl, .inr ⟨by omega, ?_⟩, HB2.out⟩
        rw [← HRes.out, List.all_eq_false]
        exact ⟨l[k], List.getElem_mem hkl, by rw [HK.out, hin2]; simp⟩

set_option maxRecDepth 100000 in
set_option maxHeartbeats 1000000 in
theorem allMayBe_any (l : List R4) (v : Value) (w : World) (hv : PixAt w v l) (hlen : l.length ≤ maxLen) :
    Calls Tryz.prog 59 #[v] w fun e w' => e = .returned (.bool (l.all fitP)) ∧ Below w.heap.size w w' := by
  have HI := hide (idxP_any l v w hv hlen)
  have HC : Hid (Calls Tryz.prog 99 #[v, .func (.func 100) #[] #[]] w fun e w' => e = .returned (.bool (!l.all fitP)) ∧ Below w.heap.size w w') := by
    go_enter Tryz.func99, Tryz.ntmps99
    go_wp2_with (go_at_call 149; refine HI.out.mono ?_; rintro e w' ⟨r, rfl, hr, hb⟩; have HB := hide (And.intro hr hb); clear hr hb)
    go_ret
    refine ⟨ret_b ?_, HB.out.2⟩
    rcases HB.out.1 with ⟨rfl, h2⟩ | ⟨h1, h2⟩
    · rw [h2]; rfl
    · rw [h2]; simpa using h1
  clear HI hv
  go_enter Tryz.func59, Tryz.ntmps59
  go_wp2_with (go_at_call 99; refine HC.out.mono ?_; rintro e w' ⟨rfl, hb⟩; have HB := hide hb; clear hb)
  go_ret
  exact ⟨ret_b (by simp), HB.out⟩

end Go.Proofs.YtofinpocigbbeaaGreat

namespace Go.Proofs.YtofinpocigbbeaaGreat
open Go.RowKit
attribute [local go_sem ↓] Go.wp_at_zero Go.wp_at_succ

set_option maxRecDepth 100000 in
set_option maxHeartbeats 1000000 in
/-- (*Surface).Attach -/
theorem sfAttach_any (g : Nat) (a b : Int) (pa : Option Addr) (pm pk : Nat) (F : Nat → Value) (w : World) (h : SrfB w g F) :
    Calls Tryz.prog 60 #[.pointer (some ⟨g, 0, none⟩), .agg #[.int .i64 a, .int .i64 b, .slice pa pm pk]] w fun e w' => e = .returned (.tuple #[]) ∧
      w' = (((w.setCell ⟨g, 14, none⟩ (.int .i64 a)).setCell ⟨g, 15, none⟩ (.int .i64 b)).setCell ⟨g, 16, none⟩ (.slice pa pm pk)).alloc (.cells #[.int .i64 a, .int .i64 b, .slice pa pm pk] 122) := by
  obtain ⟨cur, h1, h2, h3⟩ := h
  have hlt : g < w.heap.size := (Array.getElem?_eq_some_iff.1 h1).1
  have hc : ∀ j, j < 31 → w.cell? ⟨g, j, none⟩ = some (F j) := fun j hj => by
    rw [cell_of_row _ _ _ _ _ _ h1]
    exact h3 j hj
  have hf : ∀ j, w.frozen? ⟨g, j, none⟩ = false := fun j => by simp [World.frozen?, h1]
  have c13 := hc 14 (by omega)
  have c14 := hc 15 (by omega)
  have c15 := hc 16 (by omega)
  have f13 := hf 14
  have f14 := hf 15
  have f15 := hf 16
  have hgn : ¬ g = w.heap.size := by omega
  clear hc hf h1 h2 h3
  go_enter Tryz.func60, Tryz.ntmps60
  go_wp2_with fail
  exact bodyPost_end (v := .tuple #[]) (by simp [results, Tryz.results60]) rfl ⟨rfl, rfl⟩

set_option maxRecDepth 100000 in
set_option maxHeartbeats 1000000 in
/-- (*Screen).Attach -/
theorem paAttach_any {S : Nat → Prop} {x : Nat} {st : St} (hw : Wf st) (id a b : Int) (l : List R4) (v : Value) (w : World) {bv : Value} (h : PaneOk w S x st bv) (hv : PixAt w v l) (hlen : l.length ≤ maxLen) :
    Calls Tryz.prog 28 #[.pointer (some ⟨x, 0, none⟩), .int .i64 id, .int .i64 a, .int .i64 b, v] w (PPost S x bv (opAttach st id a b l.length (l.all fitP) fun k => l.getD k (0, 0, 0, 0)) w) := by
  have hB := isB_iff hw id
  have HE := hide (fun (er : Int) (W : World) (hW : Below w.heap.size w W) => PPost.same (er := er) h hW)
  have HAM := hide (allMayBe_any l v w hv hlen)
  have HV := hide hv
  obtain ⟨va, vc, hvf, _⟩ := hv
  obtain ⟨sc, mp, blk, G, h⟩ := h
  obtain ⟨x0, x1, xl⟩ := h.scrCells
  unfold opAttach
  obtain ⟨t, ht⟩ : ∃ t, st.isB id = t := ⟨_, rfl⟩
  rw [ht] at hB ⊢
  have hlen2 := hlen
  unfold maxLen at hlen2
  cases t with
  | false =>
    rw [if_neg (by simp)]
    have HS := hide (scSurface_no h id (isB_no hw ht))
    clear hB h hvf
    go_enter Tryz.func28, Tryz.ntmps28
    go_wp2_with (go_at_call 58; refine HS.out.mono ?_; rintro e w' ⟨rfl, hw'⟩; replace hw' := hw'.symm; subst hw')
    go_ret
    exact HE.out 6 _ (Below.refl _ _)
  | true =>
    rw [if_pos rfl]
    obtain ⟨i, rfl, hio⟩ := hB.1 rfl
    have hil := hw.lt hio
    rw [Int.toNat_natCast]
    have HS := hide (scSurface_ok h i hio)
    have kl := (h.at (live_nat hio)).2.2
    by_cases hab : 0 ≤ a ∧ a ≤ 24 ∧ 0 ≤ b ∧ b ≤ 24
    · rw [if_pos hab]
      obtain ⟨n, hn⟩ : ∃ n, l.length = n := ⟨_, rfl⟩
      have hb0 : 0 ≤ a * b := Int.mul_nonneg hab.1 hab.2.2.1
      have hb1 : a * b ≤ 576 := by
        have h1 : a * b ≤ 24 * b := Int.mul_le_mul_of_nonneg_right hab.2.1 hab.2.2.1
        omega
      obtain ⟨ok, hok⟩ : ∃ ok, l.all fitP = ok := ⟨_, rfl⟩
      obtain ⟨f, hf⟩ : ∃ f : Nat → R4, (fun k => l.getD k (0, 0, 0, 0)) = f := ⟨_, rfl⟩
      have HOk : Hid (∀ W : World, Below w.heap.size w W → ∀ g : Nat, w.heap.size ≤ g → PixF W g n f → (n : Int) = a * b → PPost S x bv (0, upd st i (sfBuf a b f)) w (.returned (.int .i64 0)) ((((W.setCell ⟨blk i, 14, none⟩ (.int .i64 a)).setCell ⟨blk i, 15, none⟩ (.int .i64 b)).setCell ⟨blk i, 16, none⟩ (.slice (some ⟨g, 0, none⟩) n n)).alloc (.cells #[.int .i64 a, .int .i64 b, .slice (some ⟨g, 0, none⟩) n n] 122))) := fun W hW g hgw hpf hnab => by
        have h := (h.below hW).mono (S' := grow S w W) fun _ hg => .inl hg
        have hs : SrfB W (blk i) (G i) := h.srf i (live_nat hio)
        have q := (h.cells i (live_nat hio)).nat
        have q2 := q.next
        have d := h.data i hio
        have ho : S (blk i) := by
          rcases h.own.2.2.2 i (live_nat hio) with ho | ho
          · exact ho
          · have := kl
            omega
        have hnn : n = ((sfBuf a b f) (st.sf i)).next.n := by
          show n = (a * b).toNat
          omega
        have hgl : g < W.heap.size := hpf.has.lt
        have hr := h.upd (w' := ((W.setCell ⟨blk i, 14, none⟩ (.int .i64 a)).setCell ⟨blk i, 15, none⟩ (.int .i64 b)).setCell ⟨blk i, 16, none⟩ (.slice (some ⟨g, 0, none⟩) n n)) (gf := sfBuf a b f) hio hil (fun _ => rfl) (fun g hg hne => by rw [setOther 16 _ g (by simpa using hg) hne, setOther 15 _ g (by simpa using hg) hne, setOther 14 _ g hg hne]) (((hs.set 14 _).set 15 _).set 16 _) rfl (NCells.upd hil ⟨q.num, q.par, ⟨q.now.w, q.now.h, q.now.pix, q.now.x, q.now.y, q.now.c0, q.now.c1, q.now.c2, q.now.c3, q.now.cut, q.now.hint⟩, ⟨rfl, rfl, ⟨_, _, _, rfl⟩, q2.x, q2.y, q2.c0, q2.c1, q2.c2, q2.c3, q2.cut, q2.hint⟩, q.stk, q.kep⟩) ⟨d.pix, d.hint, ⟨some ⟨g, 0, none⟩, by rw [← hnn]; rfl, fun _ => ⟨g, rfl, .inr ⟨hgw, hgl⟩, by rw [← hnn]; exact hpf⟩⟩, d.nhint, d.kw, d.kh, d.kept⟩
        refine ⟨rfl, ⟨sc, mp, blk, _, (hr.below (al1 (Nat.le_refl _) _)).mono fun g hg => ?_⟩, ((((Only.below hW).set (.inl ho) _).set (.inl ho) _).set (.inl ho) _).alloc _⟩
        rcases hg with hg | ⟨hg1, hg2⟩
        · exact .inl hg
        · exact .inr ⟨hg1, by simp; omega⟩
      have HAt : Hid (∀ W : World, Below w.heap.size w W → ∀ g : Nat, w.heap.size ≤ g → PixF W g n f → (n : Int) = a * b → Calls Tryz.prog 60 #[.pointer (some ⟨blk i, 0, none⟩), .agg #[.int .i64 a, .int .i64 b, .slice (some ⟨g, 0, none⟩) n n]] W fun e w' => e = .returned (.tuple #[]) ∧ PPost S x bv (0, upd st i (sfBuf a b f)) w (.returned (.int .i64 0)) w') := fun W hW g hgw hpf hnab => (sfAttach_any (blk i) a b (some ⟨g, 0, none⟩) n n (G i) W ((h.below hW).srf i (live_nat hio))).mono fun e w' ⟨h1, h2⟩ => ⟨h1, by rw [h2]; exact HOk.out W hW g hgw hpf hnab⟩
      have HOf : Hid ((n : Int) = a * b → ∀ W : World, Below w.heap.size w W → Calls Tryz.prog 61 #[.int .i64 a, .int .i64 b, v] W fun e w' => ∃ g : Nat, e = .returned (.agg #[.int .i64 a, .int .i64 b, .slice (some ⟨g, 0, none⟩) n n]) ∧ Below w.heap.size w w' ∧ w.heap.size ≤ g ∧ PixF w' g n f ∧ (n : Int) = a * b) := fun he W hW => (gridOf_pix a b n he.symm (by omega) v l hn W (HV.out.below hW)).mono fun e w' ⟨g, h1, h2, h3, h4⟩ => ⟨g, h1, hW.trans (h4.mono hW.size), Nat.le_trans hW.size h3, by rw [← hf]; exact h2, he⟩
      rw [hok] at HAM ⊢
      rw [hf]
      rw [hn] at hvf hlen2 ⊢
      obtain ⟨g, hg⟩ : ∃ g, blk i = g := ⟨_, rfl⟩
      rw [hg] at HS HAt
      clear HOk h hB hg HV hok hn hf kl
      obtain ⟨ha1, ha2, hb1', hb2'⟩ := hab
      obtain ⟨P, hP⟩ : ∃ P, a * b = P := ⟨_, rfl⟩
      rw [hP] at hb0 hb1 HOf HAt ⊢
      by_cases hnp : (n : Int) = P
      · have HOf2 := hide (HOf.out hnp)
        have hnp2 : ((n : Int) == P) = true := by simpa using hnp
        have hnp3 : ((n : Int) != P) = false := by simpa using hnp
        clear HOf
        subst hvf
        cases ok with
        | true =>
          rw [if_pos ⟨hnp, rfl⟩]
          go_enter Tryz.func28, Tryz.ntmps28
          go_wp2_with (first
            | (go_at_call 58; refine HS.out.mono ?_; rintro e w' ⟨rfl, hw'⟩; replace hw' := hw'.symm; subst hw')
            | (go_at_call 59; refine HAM.out.mono ?_; rintro e w1 ⟨rfl, hb⟩; have HB := hide hb; clear hb)
            | (go_at_call 61; refine (HOf2.out _ HB.out).mono ?_; rintro e w2 ⟨gg, rfl, hb⟩; have HB2 := hide hb; clear hb)
            | (go_at_call 60; refine (HAt.out _ HB2.out.1 _ HB2.out.2.1 HB2.out.2.2.1 HB2.out.2.2.2).mono ?_; rintro e w3 ⟨rfl, hb⟩; have HB3 := hide hb; clear hb)
            | go_in)
          go_ret
          exact HB3.out
        | false =>
          rw [if_neg (fun h => by cases h.2)]
          go_enter Tryz.func28, Tryz.ntmps28
          go_wp2_with (first
            | (go_at_call 58; refine HS.out.mono ?_; rintro e w' ⟨rfl, hw'⟩; replace hw' := hw'.symm; subst hw')
            | (go_at_call 59; refine HAM.out.mono ?_; rintro e w1 ⟨rfl, hb⟩; have HB := hide hb; clear hb)
            | go_in)
          go_ret
          exact HE.out 4 _ HB.out
      · rw [if_neg (fun h => hnp h.1)]
        have hnp3 : ((n : Int) != P) = true := by simpa using hnp
        clear HOf HAt HAM
        subst hvf
        go_enter Tryz.func28, Tryz.ntmps28
        go_wp2_with (first
          | (go_at_call 58; refine HS.out.mono ?_; rintro e w' ⟨rfl, hw'⟩; replace hw' := hw'.symm; subst hw')
          | go_in)
        go_ret
        exact HE.out 4 _ (Below.refl _ _)
    · rw [if_neg hab]
      have hcases : a < 0 ∨ (0 ≤ a ∧ 24 < a) ∨ (0 ≤ a ∧ a ≤ 24 ∧ b < 0) ∨ (0 ≤ a ∧ a ≤ 24 ∧ 0 ≤ b ∧ 24 < b) := by omega
      clear hab h hB hvf HAM HV kl
      rcases hcases with h1 | ⟨h1, h2⟩ | ⟨h1, h2, h3⟩ | ⟨h1, h2, h3, h4⟩
      all_goals
        try have hd : decide (b ≤ 24) = false := decide_eq_false (by omega)
        go_enter Tryz.func28, Tryz.ntmps28
        go_wp2_with (first
          | (go_at_call 58; refine HS.out.mono ?_; rintro e w' ⟨rfl, hw'⟩; replace hw' := hw'.symm; subst hw')
          | go_in)
        try go_ret
        exact HE.out 5 _ (Below.refl _ _)

end Go.Proofs.YtofinpocigbbeaaGreat

namespace Go.Proofs.YtofinpocigbbeaaGreat
open Go.RowKit

set_option maxRecDepth 100000 in
set_option maxHeartbeats 1000000 in
theorem check1_many (B na ca : Nat) (aa : Option Addr) (w : World) (h0 : w.cell? ⟨B, 0, none⟩ = some (.slice aa na ca)) (hna : na ≤ maxLen) (h : 20 < na) :
    Calls Tryz.prog 71 #[.slice (some ⟨B, 0, none⟩) 1 1] w fun e w' => e = .returned (.int .i64 2) ∧ w' = w := by
  unfold maxLen at hna
  have g1 : (20 : Int) < (na : Int) := by omega
  go_enter Tryz.func71, Tryz.ntmps71
  go_wp2
  refine wp_loop_rounds 2 ?_
  rw [rounds_succ]
  go_wp2
  go_ret
  exact ⟨rfl, rfl⟩

set_option maxRecDepth 100000 in
set_option maxHeartbeats 2000000 in
theorem check1_few (B : Nat) (la : List (Int × Int × Int × Int)) (va : Value) (w : World) (h0 : w.cell? ⟨B, 0, none⟩ = some va) (ha : RectsAt w va la) (hla : la.length ≤ 20) :
    Calls Tryz.prog 71 #[.slice (some ⟨B, 0, none⟩) 1 1] w fun e w' => e = .returned (.int .i64 (if la.all fitR = true then 0 else 3)) ∧ Below w.heap.size w w' := by
  have HA := hide ha
  obtain ⟨aa, ca, rfl, _⟩ := ha
  obtain ⟨res, hres⟩ : ∃ r : Int, (if la.all fitR = true then 0 else 3) = r := ⟨_, rfl⟩
  rw [hres]
  have HRes := hide hres
  clear hres
  have hB := cell_lt h0
  obtain ⟨na, hna⟩ : ∃ n, la.length = n := ⟨_, rfl⟩
  rw [hna] at h0 hla
  have HN := hide hna
  clear hna
  have g0 : ¬ (20 : Int) < (na : Int) := by omega
  go_enter Tryz.func71, Tryz.ntmps71
  go_wp2
  refine wp_loop_rounds 2 ?_
  rw [rounds_succ]
  go_wp2
  rw [rounds_succ]
  go_wp2
  go_loopg [21] 1 (fun g s21 wr => ∃ k : Nat, s21 = .int .i64 k ∧ g + k = 1 ∧ (1 ≤ k → la.all fitR = true) ∧ Below w.heap.size w wr)
  case atStart => exact ⟨0, rfl, by omega, fun h => by omega, Below.refl _ _⟩
  case round =>
    rename World => wo
    rename Nat => gO
    obtain ⟨k, rfl, hgk, ok1, hbel⟩ := hrel
    cases gO with
    | zero =>
      have hk : k = 1 := by omega
      subst hk
      have HE := hide (And.intro (ok1 (by omega)) hbel)
      clear ok1 hbel
      go_wp2
      go_ret
      refine ⟨ret_int ?_, HE.out.2⟩
      rw [← HRes.out, if_pos HE.out.1]
    | succ g =>
      have hk0 : k = 0 := by omega
      subst hk0
      obtain ⟨l, n, x, c, hcell, hl, hn, hn20, hsel, hno⟩ : ∃ (l : List (Int × Int × Int × Int)) (n : Nat) (x : Option Addr) (c : Nat), wo.cell? ⟨B, 0, none⟩ = some (.slice x n c) ∧ RectsAt w (.slice x n c) l ∧ l.length = n ∧ n ≤ 20 ∧ (l.all fitR = true → la.all fitR = true) ∧ (l.all fitR = false → res = 3) := by
        refine ⟨la, na, aa, ca, (hbel.cell hB).trans h0, by rw [← HN.out]; exact HA.out, HN.out, hla, fun h => h, fun h => ?_⟩
        rw [← HRes.out, if_neg]
        rw [h]; simp
      have hzB := cell_lt hcell
      have HX := hide (And.intro hl (And.intro hn (And.intro hsel (And.intro hno hbel))))
      clear hl hn hsel hno hbel ok1
      go_wp2
      go_loopg [27] n (fun gg s27 wr => ∃ q : Nat, s27 = .int .i64 q ∧ gg + q = n ∧ (∀ r ∈ l.take q, fitR r = true) ∧ Below w.heap.size w wr)
      case atStart => exact ⟨0, rfl, by omega, fun r hr => by simp at hr, HX.out.2.2.2.2⟩
      case round =>
        obtain ⟨q, rfl, hgq, hfit, hbr⟩ := hrel
        cases gk with
        | zero =>
          have hq : ¬ (q : Int) < (n : Int) := by omega
          have HY := hide (And.intro hfit hbr)
          clear hfit hbr
          go_wp2
          go_roundg g
          case measure => omega
          case rel =>
            have hall : l.all fitR = true := by
              rw [List.all_eq_true]
              have := HY.out.1
              rw [List.take_of_length_le (by have := HX.out.2.1; omega)] at this
              exact this
            have hs := HX.out.2.2.1 hall
            exact ⟨1, by go_num, by omega, fun _ => hs, HY.out.2⟩
        | succ gq =>
          have hq : (q : Int) < (n : Int) := by omega
          have hqn : q < n := by omega
          have hql : q < l.length := by have := HX.out.2.1; omega
          obtain ⟨x', c', hx', hcs⟩ := HX.out.1
          have hx2 : x = x' := by simp at hx'; exact hx'.1
          subst hx2
          obtain ⟨b, off, rfl, hct⟩ := hcs (by omega)
          obtain ⟨c1, c2, c3, c4⟩ := hct q hql
          have hbl := cell_lt c1
          obtain ⟨⟨x0, y0, x1, y1⟩, hr⟩ : ∃ r, l[q] = r := ⟨_, rfl⟩
          rw [hr] at c1 c2 c3 c4
          simp only at c1 c2 c3 c4
          replace c1 := (hbr.cell hbl).trans c1
          replace c2 := (hbr.cell hbl).trans c2
          replace c3 := (hbr.cell hbl).trans c3
          replace c4 := (hbr.cell hbl).trans c4
          have hzb := cell_lt c1
          have hwr := hbr.size
          have hM := fun W => mayBeR_any x0 y0 x1 y1 W
          obtain ⟨p, hp⟩ : ∃ p, fitR (x0, y0, x1, y1) = p := ⟨_, rfl⟩
          rw [hp] at hM
          have HY := hide (And.intro hfit (And.intro hbr (And.intro hr hp)))
          clear hfit hbr hr hp hcs hct hx'
          cases p with
          | true =>
            go_wp2_with (go_at_call 68; refine (hM _).mono ?_; rintro e w' ⟨rfl, rfl⟩)
            go_roundg gq
            case measure => omega
            case rel =>
              obtain ⟨hfit, hbr, hr, hp⟩ := HY.out
              refine ⟨q + 1, by go_num, by omega, fun r hr' => ?_, (hbr.alloc hwr _).alloc (by simp; omega) _⟩
              rw [List.take_succ_eq_append_getElem hql, hr] at hr'
              simp at hr'
              rcases hr' with h | h
              · exact hfit r h
              · subst h; exact hp
          | false =>
            go_wp2_with (go_at_call 68; refine (hM _).mono ?_; rintro e w' ⟨rfl, rfl⟩)
            go_ret
            obtain ⟨hfit, hbr, hr, hp⟩ := HY.out
            refine ⟨ret_int ?_, (hbr.alloc hwr _).alloc (by simp; omega) _⟩
            refine (HX.out.2.2.2.1 ?_).symm
            rw [List.all_eq_false]
            exact ⟨l[q], List.getElem_mem hql, by rw [hr, hp]; simp⟩


end Go.Proofs.YtofinpocigbbeaaGreat
