import Derived.Test.YtlaflopimpnjpaaGreatSg34
import Derived.Test.YtlaflopimpnjpaaGreatSg30
import Derived.Test.YtlaflopimpnjpaaGreatSg28
/-! BovR -/
namespace Go.Proofs.YtlaflopimpnjpaaGreat
open Go.RowKit
attribute [local go_sem ↓] Go.wp_at_zero Go.wp_at_succ

theorem zV_zC (N : Nat) : (zV N).toList = zC N := rfl

/-- MarkV, and where it lies. -/
def MarkT (w : World) (v : Value) (i : Nat) : Prop :=
  ∃ a m c, v = .slice a m c ∧ m ≤ 1152921504606846976 ∧ (0 < m → ∃ b cur, a = some ⟨b, 0, none⟩ ∧ w.heap[b]? = some (.cells cur 63 (0, 0)) ∧ ∀ j, j < m → Done i w b j)

def QuadT (w : World) (v : Value) (i : Nat) : Prop :=
  ∃ g c cur, v = .slice (some ⟨g, 0, none⟩) 4 c ∧ w.heap[g]? = some (.cells cur 61 (0, 0)) ∧ ∀ k, k < 4 → ∃ u, cur[k]? = some u ∧ MarkT w u i

theorem MarkT.mark {w : World} {v : Value} {i : Nat} (h : MarkT w v i) : MarkV w v i := by
  obtain ⟨a, m, c, h1, h2, h3⟩ := h
  refine ⟨a, m, c, h1, h2, fun hm => ?_⟩
  obtain ⟨b, cur, h4, _, h6⟩ := h3 hm
  refine ⟨b, h4, fun j hj o ho => ?_⟩
  rw [h6 j hj o ho, ← zV_zC, Array.getElem?_toList]

theorem QuadT.quad {w : World} {v : Value} {i : Nat} (h : QuadT w v i) : QuadV w v i := by
  obtain ⟨g, c, cur, h1, h2, h3⟩ := h
  refine ⟨g, c, h1, fun k hk => ?_⟩
  obtain ⟨u, h4, h5⟩ := h3 k hk
  exact ⟨u, (cell_of_row w g k cur _ _ h2).trans h4, h5.mark⟩

theorem QuadT.keep {w w' : World} {v : Value} {i : Nat} (h : QuadT w v i) (hk : ∀ (b : Nat) (cur : Array Value) (t : TypeId), t = 63 ∨ t = 61 → w.heap[b]? = some (.cells cur t (0, 0)) → w'.heap[b]? = w.heap[b]?) : QuadT w' v i := by
  obtain ⟨g, c, cur, h1, h2, h3⟩ := h
  refine ⟨g, c, cur, h1, (hk g cur _ (.inr rfl) h2).trans h2, fun k hk4 => ?_⟩
  obtain ⟨u, h4, a, m, c, h5, h6, h7⟩ := h3 k hk4
  refine ⟨u, h4, a, m, c, h5, h6, fun hm => ?_⟩
  obtain ⟨b, cur, h8, h9, h10⟩ := h7 hm
  have e := hk b cur _ (.inl rfl) h9
  exact ⟨b, cur, h8, e.trans h9, fun j hj o ho => (World.cell?_of_block e).trans (h10 j hj o ho)⟩

/-- The book in the Play's block pb: no rectangles, no pixels, N lists of views. -/
structure BookO (w : World) (pb N : Nat) (pc : Array Value) (cv : Value) (xs : List Value) : Prop where
  blk : w.heap[pb]? = some (.cells pc 34 (0, 0))
  p1 : pc[1]? = some (.slice none 0 0)
  p2 : pc[2]? = some (.slice none 0 0)
  p3 : pc[3]? = some cv
  row : w.ownsRow 0 60 1 cv N xs
  all : ∀ i, i < N → ∃ v, xs[i]? = some v ∧ QuadT w v i

theorem BookO.book {w : World} {pb N : Nat} {pc : Array Value} {cv : Value} {xs : List Value} (h : BookO w pb N pc cv xs) : BookV w pb 1 N := by
  obtain ⟨a, c, hf⟩ := row_form h.row
  refine ⟨(cell_of_row w pb 1 pc _ _ h.blk).trans h.p1, (cell_of_row w pb 2 pc _ _ h.blk).trans h.p2, a, c, (cell_of_row w pb 3 pc _ _ h.blk).trans (h.p3.trans (by rw [hf])), fun hN => ?_⟩
  obtain ⟨g, cap, e, _, _, _, q, _⟩ := RowS.open (S := fun _ => True) ⟨h.row, fun _ _ => trivial⟩ hN
  rw [hf] at e
  injection e with e1 e2 e3
  subst e1
  refine ⟨g, rfl, fun i hi => ?_⟩
  obtain ⟨v, h1, h2⟩ := h.all i hi
  exact ⟨v, q i v h1, h2.quad⟩

end Go.Proofs.YtlaflopimpnjpaaGreat

/-! BovS -/
namespace Go.Proofs.YtlaflopimpnjpaaGreat
open Go.RowKit
attribute [local go_sem ↓] Go.wp_at_zero Go.wp_at_succ

theorem TurV.drew1 {B0 zb : Nat} {w w' : World} (h : TurV B0 zb w w') : TurV B0 zb w w'.drew := ⟨h.os, h.tape, h.output, h.size, h.block⟩

/-- A list that is written full. -/
def Full (N : Nat) (w : World) (s : Value) : Prop := ∀ b m c, s = .slice (some ⟨b, 0, none⟩) m c → ∀ j, j < m → Done N w b j

theorem Full.stays {N : Nat} {w w' : World} {s : Value} (h : Full N w s) (hs : Stays N w w') : Full N w' s := fun b m c e j hj => hs b j (h b m c e j hj)

theorem Done.drew {N g j : Nat} {w : World} (h : Done N w g j) : Done N w.drew g j := h

set_option maxRecDepth 100000 in
set_option maxHeartbeats 1000000 in
/-- (*book).views: the list is its owner's. -/
theorem views_any {w0 w : World} {pb N n : Nat} {pc : Array Value} {cv : Value} {xs : List Value} {v : Value} (hb : Below w0.heap.size w0 w) (h : BookO w0 pb N pc cv xs) (hN : N ≤ 1000000000000) (hn : n ≤ 9000000) (hv : RowOV w w0.heap.size v n) :
    Calls Tryz.prog 31 #[.pointer (some ⟨pb, 1, none⟩), v] w fun e w' => e = .returned (.tuple #[]) ∧ (∃ cv' xs', BookO w' pb (N + 1) (pc.setIfInBounds 3 cv') cv' xs' ∧ (cv'.ownBlock = cv.ownBlock ∨ ∃ g, cv'.ownBlock = some g ∧ w0.heap.size ≤ g)) ∧ Only (fun g => g = pb ∨ cv.ownBlock = some g ∨ w0.heap.size ≤ g) w w' := by
  obtain ⟨i9, hi9, hy0, hy1, hy2⟩ := info_parts scnInfo
  obtain ⟨B0, hB0⟩ : ∃ B0, w0.heap.size = B0 := ⟨_, rfl⟩
  have hB : B0 ≤ w.heap.size := by rw [← hB0]; exact hb.size
  have hpl0 : pb < B0 := by rw [← hB0]; exact block_lt h.blk
  have hpl : pb < w.heap.size := by omega
  have hpb : w.heap[pb]? = some (.cells pc 34 (0, 0)) := (hb.block pb (by omega)).trans h.blk
  obtain ⟨ca, cc, hcf⟩ := row_form h.row
  subst hcf
  have hp : w.cell? ⟨pb, 3, none⟩ = some (.slice ca N cc) := by rw [cell_of_row w pb 3 pc _ _ hpb]; exact h.p3
  rw [hB0] at hv
  have hvz : v.ownBlock ≠ some w.heap.size := fun e => by
    obtain ⟨xs, h⟩ := hv
    have := (h.lt _ e).2
    omega
  have HV := hide (And.intro hv hvz)
  have HP := hide (And.intro hpb (And.intro h (And.intro hb hB0)))
  clear hv hvz hpb h hb
  rw [hB0]
  clear hB0
  go_enter Tryz.func31, Tryz.ntmps31
  go_wp2
  rename_i Qp K hK
  refine book_r1V (N := N) (cv := .slice ca N cc) (n := n) (B0 := B0) (pb := pb) (zb := w.heap.size) (v := v) (f := fun _ => undef) hn (by simp; omega) (HV.out.1.step (StpV.alloc none _ _)) (heap_alloc_new w _) HV.out.2 ?_
  intro f w1 hs hr
  refine hK _ _ ?_
  clear hK K
  obtain ⟨g5, r1, r2, r3, e5, hg5, hc5, R1, R2, R3⟩ := hr
  have hz1 : w1.heap[w.heap.size]? = some (.cells (zV N) 63 (0, 0)) := by rw [hs.grown.block _ (by simp) (fun e => HV.out.2 e.symm)]; exact heap_alloc_new w _
  have hBel : Below B0 w w1 := ((Below.refl B0 w).alloc hB _).grown hs.grown (by simp; omega) fun k hk => by
    obtain ⟨xs, h⟩ := HV.out.1
    exact (h.lt k hk).1
  have hP1 : w1.heap[pb]? = some (.cells pc 34 (0, 0)) := (hBel.block pb hpl0).trans HP.out.1
  have hS1 : w.heap.size < w1.heap.size := by have := hs.grown.size; simp at this; omega
  have hR0 : RowZV w1 B0 w.heap.size v n := ⟨(HV.out.1.step (StpV.alloc none _ _)).step hs, HV.out.2⟩
  have hRk : ∀ k, k < 4 → ∃ s, #[v, r1, r2, r3][k]? = some s ∧ RowZV w1 B0 w.heap.size s (n + k) := by
    intro k hk
    match k, hk with
    | 0, _ => exact ⟨v, rfl, hR0⟩
    | 1, _ => exact ⟨r1, rfl, R1⟩
    | 2, _ => exact ⟨r2, rfl, R2⟩
    | 3, _ => exact ⟨r3, rfl, R3⟩
  have HRk := hide hRk
  have HBel := hide hBel
  have HZ := hide (And.intro hz1 hP1)
  have HC := hide hc5
  have hgl := (Array.getElem?_eq_some_iff.1 hc5).1
  clear hRk hBel hz1 hP1 hc5 R1 R2 R3 hR0 hs hg5
  unfold frV
  rw [e5]
  clear e5
  generalize f 14 = x14
  generalize f 15 = x15
  generalize f 16 = x16
  generalize f 17 = x17
  generalize f 18 = x18
  generalize f 19 = x19
  generalize f 20 = x20
  generalize f 21 = x21
  generalize f 22 = x22
  generalize f 23 = x23
  generalize f 24 = x24
  generalize f 25 = x25
  generalize f 26 = x26
  generalize f 27 = x27
  generalize f 28 = x28
  generalize f 29 = x29
  generalize f 30 = x30
  clear f
  go_wp2
  have hzb : zV N = #[.int .i64 (-7070), .int .i64 0, .int .i64 0, .int .i64 (N : Int), .int .i64 0, .int .i64 0, .int .i64 0, .int .i64 0, .int .i64 0] := rfl
  go_loopg [6] 4 (fun g s6 wr => ∃ k : Nat, s6 = .int .i64 k ∧ g + k = 4 ∧ TurV B0 w.heap.size w1 wr ∧ ∀ k' s, k' < k → #[v, r1, r2, r3][k']? = some s → Full N wr s)
  case atStart => exact ⟨0, rfl, rfl, TurV.refl _ _ _, fun k' s hk => by omega⟩
  case round =>
    rename World => wo
    rename Nat => gO
    obtain ⟨k, rfl, hgk, hT, hF⟩ := hrel
    have HT := hide hT
    have HF := hide hF
    have hwl := hT.size
    have hBz := HBel.out.size
    clear hT hF
    cases gO with
    | zero =>
      have hlt : ¬ (k : Int) < 4 := by omega
      have hPo := HT.out.other HZ.out.2 (by decide)
      have hBw := HT.out.below (show B0 ≤ w1.heap.size by omega)
      have hpo : wo.cell? ⟨pb, 3, none⟩ = some (.slice ca N cc) := by rw [cell_of_row wo pb 3 pc _ _ hPo]; exact HP.out.2.1.p3
      have hfo : wo.frozen? ⟨pb, 3, none⟩ = false := by simp [World.frozen?, hPo]
      have hpl2 : pb < wo.heap.size := by omega
      have hb3 : Below B0 w0 wo := by
        have h9 := HP.out.2.2.1
        rw [HP.out.2.2.2] at h9
        exact (h9.trans HBel.out).trans hBw
      have hrow : wo.ownsRow 0 60 1 (.slice ca N cc) N xs := own_keep HP.out.2.1.row fun g hg => hb3.block g (by have := (HP.out.2.1.row.lt g hg).2; rw [HP.out.2.2.2] at this; exact this)
      have HRo := hide (And.intro hrow (And.intro hb3 (And.intro hPo hBw)))
      have hgr : ∀ (o : Obj) (w4 : World), (wo.alloc o).grownBy w4 (Value.slice ca N cc).ownBlock → w4.cell? ⟨pb, 3, none⟩ = some (.slice ca N cc) ∧ w4.frozen? ⟨pb, 3, none⟩ = false ∧ pb < w4.heap.size := fun o w4 hg => by
        have hk := grown_other (T := 60) hg fun g hg => own_type (HRo.out.1.alloc o) hg
        have h9 : (wo.alloc o).heap[pb]? = some (.cells pc 34 (0, 0)) := (heap_old wo o pb hpl2).trans HRo.out.2.2.1
        have h8 := (hk _ (by decide) pb pc h9).trans h9
        exact ⟨by rw [cell_of_row w4 pb 3 pc _ _ h8]; exact HP.out.2.1.p3, by simp [World.frozen?, h8], block_lt h8⟩
      have HGr := hide hgr
      clear hPo hb3 hrow hgr hBw
      go_wp2_with (first
        | (at_builtin; refine wpList_append_row (P := Tryz.prog) rfl (.tmp 57) (.tmp 59) 30 rfl 0 60 i9 _ 1 24 Tryz.underlying30 hi9 hy0 hy1 hy2 rfl (by decide) (.slice ca N cc) N xs rfl (HRo.out.1.alloc _) (.slice (some ⟨wo.heap.size, 0, none⟩) 1 1) 1 [.slice (some ⟨g5, 0, none⟩) 4 4] rfl rfl (.inr ⟨_, _, rfl, cell_one_new _ _ _⟩) (by simp [Value.oneCell']) (by unfold maxLen; omega) (by omega) (by omega) ?_; intro v4 w4 ho4 hg4 hn4 ha4; obtain ⟨va, vc, hvf⟩ := row_form ho4; subst hvf; obtain ⟨m3, m4, m5⟩ := HGr.out _ w4 hg4; have H4 := hide (And.intro ho4 (And.intro hg4 ha4)); clear ho4 hg4 hn4 ha4))
      obtain ⟨ho4, hg4, ha4⟩ := H4.out
      obtain ⟨hrow, hb3, hPo, hBw⟩ := HRo.out
      have hk := grown_other (T := 60) hg4 fun g hg => own_type (hrow.alloc _) hg
      have h9 : (wo.alloc (.cells #[.slice (some ⟨g5, 0, none⟩) 4 4] 60)).heap[pb]? = some (.cells pc 34 (0, 0)) := (heap_old wo _ pb hpl2).trans hPo
      have h8 : w4.heap[pb]? = some (.cells pc 34 (0, 0)) := (hk _ (by decide) pb pc h9).trans h9
      have fwd : ∀ (b : Nat) (cur : Array Value) (t : TypeId), t = 63 ∨ t = 61 → wo.heap[b]? = some (.cells cur t (0, 0)) → (w4.setCell ⟨pb, 3, none⟩ (.slice va (N + 1) vc)).heap[b]? = wo.heap[b]? := fun b cur t ht hbb => by
        have hn1 : t ≠ 60 := by rcases ht with rfl | rfl <;> decide
        have hn2 : t ≠ 34 := by rcases ht with rfl | rfl <;> decide
        have e1 := heap_old wo (.cells #[.slice (some ⟨g5, 0, none⟩) 4 4] 60) b (block_lt hbb)
        have e2 := hk t hn1 b cur (e1.trans hbb)
        rw [heap_setCell_other w4 ⟨pb, 3, none⟩ b _ (ne_of_type (e2.trans (e1.trans hbb)) h8 hn2), e2, e1]
      have hB := HP.out.2.1
      have hp3l : 3 < pc.size := (Array.getElem?_eq_some_iff.1 hB.p3).1
      have hxl := hB.row.1
      refine bodyPost_end (v := .tuple #[]) (by simp [results, Tryz.results31]) rfl ⟨rfl, ⟨_, ⟨xs ++ [.slice (some ⟨g5, 0, none⟩) 4 4], ⟨heap_setCell_same w4 pb 3 pc _ _ h8, ?_, ?_, ?_, own_keep ho4 fun g hg => ?_, fun i hi => ?_⟩⟩, ?_⟩, ?_⟩
      · rw [Array.getElem?_setIfInBounds_ne (by decide)]; exact hB.p1
      · rw [Array.getElem?_setIfInBounds_ne (by decide)]; exact hB.p2
      · rw [Array.getElem?_setIfInBounds, if_pos rfl, if_pos hp3l]
      · obtain ⟨cur, hcur⟩ := own_type ho4 hg
        exact heap_setCell_other w4 ⟨pb, 3, none⟩ g _ (ne_of_type hcur h8 (by decide))
      · by_cases e : i = N
        · subst e
          refine ⟨.slice (some ⟨g5, 0, none⟩) 4 4, by rw [List.getElem?_append_right (by omega), hxl]; simp, g5, 4, #[v, r1, r2, r3], rfl, ?_, fun k hk4 => ?_⟩
          · have h7 := HT.out.other HC.out (by decide)
            exact (fwd g5 _ _ (.inr rfl) h7).trans h7
          · obtain ⟨s, hs, hrw⟩ := HRk.out k hk4
            refine ⟨s, hs, ?_⟩
            have hfull := HF.out k s (by omega) hs
            obtain ⟨ys, y1, y2⟩ := (HT.out.row hrw).1
            rcases y2 with ⟨y2, y3⟩ | ⟨g, cap, cur, z1, z2, z3, z4, z5, z6, z7⟩
            · exact ⟨none, 0, 0, y2, by omega, fun h => by omega⟩
            · refine ⟨some ⟨g, 0, none⟩, n + k, cap, z1, by omega, fun _ => ⟨g, cur, rfl, (fwd g cur _ (.inl rfl) z3).trans z3, fun j hj o ho => ?_⟩⟩
              exact (World.cell?_of_block (fwd g cur _ (.inl rfl) z3)).trans (hfull g _ _ z1 j hj o ho)
        · obtain ⟨u, hu, hQ⟩ := hB.all i (by omega)
          refine ⟨u, by rw [List.getElem?_append_left (by omega)]; exact hu, hQ.keep fun b cur t ht hbb => ?_⟩
          have e0 := hb3.block b (by have := block_lt hbb; rw [HP.out.2.2.2] at this; exact this)
          exact (fwd b cur t ht (e0.trans hbb)).trans e0
      · rcases ha4 with ha4 | ha4
        · exact .inl ha4
        · exact .inr ⟨_, ha4, by simp; omega⟩
      · have hBx := HBel.out.trans hBw
        have o1 : Only (fun g => g = pb ∨ (Value.slice ca N cc).ownBlock = some g ∨ B0 ≤ g) w wo := ⟨hBx.os, hBx.tape, hBx.output, hBx.size, fun g hg hs => hBx.block g (by
          by_cases h7 : B0 ≤ g
          · exact absurd (Or.inr (Or.inr h7)) hs
          · omega)⟩
        exact ((o1.alloc _).grown hg4 fun g hg => .inl (.inr (.inl hg))).set (p := ⟨pb, 3, none⟩) (.inl (.inl rfl)) _
    | succ g =>
      have hlt : (k : Int) < 4 := by omega
      have hk4 : k < 4 := by omega
      obtain ⟨s, hs, hrow⟩ := HRk.out k hk4
      obtain ⟨m, hm⟩ : ∃ m, n + k = m := ⟨_, rfl⟩
      rw [hm] at hrow
      obtain ⟨xs, hxs⟩ := hrow.1
      obtain ⟨sa, sc, rfl⟩ := row_form hxs
      have hc5 : wo.cell? ⟨g5, k, none⟩ = some (.slice sa m sc) := by rw [cell_of_row wo g5 k _ _ _ (HT.out.other HC.out (by decide))]; exact hs
      have hm9 : m ≤ 9000004 := by omega
      have HRw := hide hrow
      have HS := hide hs
      clear hs hrow hxs hm
      go_wp2
      go_loopg [7] m (fun gg s7 wr => ∃ i : Nat, s7 = .int .i64 i ∧ gg + i = m ∧ TurV B0 w.heap.size w1 wr ∧ Stays N wo wr ∧ ∀ j, j < i → ∀ b, sa = some ⟨b, 0, none⟩ → Done N wr b j)
      case atStart => exact ⟨0, rfl, by omega, HT.out, Stays.refl _ _, fun j hj => by omega⟩
      case round =>
        rename World => wi
        obtain ⟨i, rfl, hgi, hT, hSt, hD⟩ := hrel
        have hc6 : wi.cell? ⟨g5, k, none⟩ = some (.slice sa m sc) := by rw [cell_of_row wi g5 k _ _ _ (hT.other HC.out (by decide))]; exact HS.out
        have HTi := hide hT
        have HDi := hide (And.intro hSt hD)
        have hwi := hT.size
        clear hT hc5 hSt hD
        cases gk with
        | zero =>
          have hlti : ¬ (i : Int) < (m : Int) := by omega
          go_wp2
          go_roundg g
          case measure => omega
          case rel =>
            refine ⟨k + 1, by go_num, by omega, HTi.out, fun k' s hk' hs' => ?_⟩
            by_cases e : k' = k
            · subst e
              rw [HS.out] at hs'
              injection hs' with hs'
              subst hs'
              intro b m' c' e9 j hj
              injection e9 with e1 e2 e3
              subst e2
              exact HDi.out.2 j (by omega) b e1
            · exact (HF.out k' s (by omega) hs').stays HDi.out.1
        | succ g2 =>
          have hlti : (i : Int) < (m : Int) := by omega
          have him : i < m := by omega
          obtain ⟨q, cap, cur, e1, hq1, hq2, hq3, hq4, hq5, ⟨y0, c0⟩, ⟨y1, c1⟩, ⟨y2, c2⟩, ⟨y3, c3⟩, ⟨y4, c4⟩, ⟨y5, c5⟩, ⟨y6, c6⟩, ⟨y7, c7⟩, ⟨y8, c8⟩, hfr⟩ := (HTi.out.row HRw.out).open him
          injection e1 with e11 e12 e13
          clear e12
          subst e11 e13
          have hic : i < sc := by omega
          have hzw : wi.heap[w.heap.size]? = some (.cells (zV N) 63 (0, 0)) := by rw [HTi.out.keep hS1]; exact HZ.out.1
          have z0 : wi.cell? ⟨w.heap.size, 0, none⟩ = some (.int .i64 (-7070)) := by rw [cell_of_row wi _ 0 (zV N) _ _ hzw]; rfl
          have z1 : wi.cell? ⟨w.heap.size, 1, none⟩ = some (.int .i64 0) := by rw [cell_of_row wi _ 1 (zV N) _ _ hzw]; rfl
          have z2 : wi.cell? ⟨w.heap.size, 2, none⟩ = some (.int .i64 0) := by rw [cell_of_row wi _ 2 (zV N) _ _ hzw]; rfl
          have z3 : wi.cell? ⟨w.heap.size, 3, none⟩ = some (.int .i64 (N : Int)) := by rw [cell_of_row wi _ 3 (zV N) _ _ hzw]; rfl
          have z4 : wi.cell? ⟨w.heap.size, 4, none⟩ = some (.int .i64 0) := by rw [cell_of_row wi _ 4 (zV N) _ _ hzw]; rfl
          have z5 : wi.cell? ⟨w.heap.size, 5, none⟩ = some (.int .i64 0) := by rw [cell_of_row wi _ 5 (zV N) _ _ hzw]; rfl
          have z6 : wi.cell? ⟨w.heap.size, 6, none⟩ = some (.int .i64 0) := by rw [cell_of_row wi _ 6 (zV N) _ _ hzw]; rfl
          have z7 : wi.cell? ⟨w.heap.size, 7, none⟩ = some (.int .i64 0) := by rw [cell_of_row wi _ 7 (zV N) _ _ hzw]; rfl
          have z8 : wi.cell? ⟨w.heap.size, 8, none⟩ = some (.int .i64 0) := by rw [cell_of_row wi _ 8 (zV N) _ _ hzw]; rfl
          have f0 := hfr (i * 9)
          have f1 := hfr (i * 9 + 1)
          have f2 := hfr (i * 9 + 2)
          have f3 := hfr (i * 9 + 3)
          have f4 := hfr (i * 9 + 4)
          have f5 := hfr (i * 9 + 5)
          have f6 := hfr (i * 9 + 6)
          have f7 := hfr (i * 9 + 7)
          have f8 := hfr (i * 9 + 8)
          have hne : ¬ g5 = q := fun e => by
            have h9 := HTi.out.other HC.out (by decide)
            rw [e, hq5] at h9
            injection h9 with h9
            injection h9 with _ h9
            exact absurd h9 (by decide)
          have hne2 : q ≠ g5 := fun e => hne e.symm
          have hcz : i * 9 + 8 < cur.size := by
            rw [cell_of_row wi q _ cur _ _ hq5] at c8
            exact (Array.getElem?_eq_some_iff.1 c8).1
          have HQ := hide (And.intro hq5 hcz)
          clear hfr hzw hq5 hcz
          have hk0 : (0 : Int) ≤ (k : Int) := by omega
          have hi0 : (0 : Int) ≤ (i : Int) := by omega
          go_wp2
          go_region_held3 (fun w' => w'.cell? ⟨w.heap.size, 0, none⟩ = some (.int .i64 (-7070)) ∧ w'.cell? ⟨w.heap.size, 1, none⟩ = some (.int .i64 0) ∧ w'.cell? ⟨w.heap.size, 2, none⟩ = some (.int .i64 0) ∧ w'.cell? ⟨w.heap.size, 3, none⟩ = some (.int .i64 (N : Int)) ∧ w'.cell? ⟨w.heap.size, 4, none⟩ = some (.int .i64 0) ∧ w'.cell? ⟨w.heap.size, 5, none⟩ = some (.int .i64 0) ∧ w'.cell? ⟨w.heap.size, 6, none⟩ = some (.int .i64 0) ∧ w'.cell? ⟨w.heap.size, 7, none⟩ = some (.int .i64 0) ∧ w'.cell? ⟨w.heap.size, 8, none⟩ = some (.int .i64 0) ∧ w'.cell? ⟨g5, k, none⟩ = some (.slice (some ⟨q, 0, none⟩) m sc)) (go_keep) (fail)
          all_goals go_wp2
          go_roundg g2
          case measure => omega
          case rel =>
            have hms := mark_set (N := N) (i := i) HQ.out.1 HQ.out.2
            refine ⟨i + 1, by go_num, by omega, (HTi.out.trans (TurV.set9 HQ.out.1 hq1 hq2 _ _ _ _ _ _ _ _ _ _ _ _ _ _ _ _ _ _)).drew1, HDi.out.1.trans hms.1.drew, fun j hj b hb => ?_⟩
            injection hb with hb
            injection hb with hb
            subst hb
            by_cases e : j = i
            · subst e
              exact hms.2.drew
            · exact (hms.1 _ _ (HDi.out.2 j (by omega) _ rfl)).drew

end Go.Proofs.YtlaflopimpnjpaaGreat

/-! PixB -/
namespace Go.Proofs.YtlaflopimpnjpaaGreat
open Go.RowKit

set_option maxHeartbeats 1000000 in
theorem povers_yes (a b c d e f g h : Int) (w : World) (hd : 0 ≤ d ∧ d ≤ 255) (he : 0 ≤ e ∧ e ≤ 255) (hf : 0 ≤ f ∧ f ≤ 255) (hg : 0 ≤ g ∧ g ≤ 255) (hh : 0 ≤ h ∧ h ≤ 255) (h1 : fitB a b c d = true) (h2 : fitB e f g h = true) :
    Calls Tryz.prog 46 #[.agg #[.int .u8 a, .int .u8 b, .int .u8 c, .int .u8 d], .agg #[.int .u8 e, .int .u8 f, .int .u8 g, .int .u8 h]] w fun x w' =>
      x = .returned (.tuple #[.agg #[.int .u8 (mix a e d), .int .u8 (mix b f d), .int .u8 (mix c g d), .int .u8 (mix d h d)], .int .i64 0]) ∧ Below w.heap.size w w' := by
  go_enter Tryz.func46, Tryz.ntmps46
  go_wp2_with (first
    | (go_at_call 98; refine (mayBe_any _ _ _ _ _).mono ?_; rintro x w' ⟨rfl, rfl⟩)
    | (go_at_call 99; refine (over_any a b c d e f g h _ hd he hf hg hh).mono ?_; rintro x w1 ⟨rfl, hbl⟩; obtain ⟨hcl, hfl⟩ := bcell hbl; have hz : w.heap.size + 2 < w1.heap.size := (by have := hbl.size; simp at this; omega)))
  refine bodyPost_ret (v := .tuple #[.agg #[.int .u8 (mix a e d), .int .u8 (mix b f d), .int .u8 (mix c g d), .int .u8 (mix d h d)], .int .i64 0]) (by simp [results, Tryz.results46, go_sem, hcl]) rfl ⟨rfl, ?_⟩
  repeat (first | refine Below.setCell ?_ (by simp <;> omega) _)
  refine Below.trans ?_ (hbl.mono (by simp; try omega))
  repeat (first | exact Below.refl _ _ | refine Below.drew ?_ | refine Below.setCell ?_ (by simp <;> omega) _ | refine Below.alloc ?_ (by simp <;> omega) _)

set_option maxHeartbeats 1000000 in
theorem povers_no1 (a b c d e f g h : Int) (w : World) (h1 : fitB a b c d = false) :
    Calls Tryz.prog 46 #[.agg #[.int .u8 a, .int .u8 b, .int .u8 c, .int .u8 d], .agg #[.int .u8 e, .int .u8 f, .int .u8 g, .int .u8 h]] w fun x w' =>
      x = .returned (.tuple #[.agg #[.int .u8 0, .int .u8 0, .int .u8 0, .int .u8 0], .int .i64 4]) ∧ Below w.heap.size w w' := by
  go_enter Tryz.func46, Tryz.ntmps46
  go_wp2_with (first
    | (go_at_call 98; refine (mayBe_any _ _ _ _ _).mono ?_; rintro x w' ⟨rfl, rfl⟩))
  refine bodyPost_ret (v := .tuple #[.agg #[.int .u8 0, .int .u8 0, .int .u8 0, .int .u8 0], .int .i64 4]) (by simp [results, Tryz.results46, go_sem]) rfl ⟨rfl, ?_⟩
  repeat (first | exact Below.refl _ _ | refine Below.drew ?_ | refine Below.setCell ?_ (by simp <;> omega) _ | refine Below.alloc ?_ (by simp <;> omega) _)

set_option maxHeartbeats 1000000 in
theorem povers_no2 (a b c d e f g h : Int) (w : World) (h1 : fitB a b c d = true) (h2 : fitB e f g h = false) :
    Calls Tryz.prog 46 #[.agg #[.int .u8 a, .int .u8 b, .int .u8 c, .int .u8 d], .agg #[.int .u8 e, .int .u8 f, .int .u8 g, .int .u8 h]] w fun x w' =>
      x = .returned (.tuple #[.agg #[.int .u8 0, .int .u8 0, .int .u8 0, .int .u8 0], .int .i64 4]) ∧ Below w.heap.size w w' := by
  go_enter Tryz.func46, Tryz.ntmps46
  go_wp2_with (first
    | (go_at_call 98; refine (mayBe_any _ _ _ _ _).mono ?_; rintro x w' ⟨rfl, rfl⟩))
  refine bodyPost_ret (v := .tuple #[.agg #[.int .u8 0, .int .u8 0, .int .u8 0, .int .u8 0], .int .i64 4]) (by simp [results, Tryz.results46, go_sem]) rfl ⟨rfl, ?_⟩
  repeat (first | exact Below.refl _ _ | refine Below.drew ?_ | refine Below.setCell ?_ (by simp <;> omega) _ | refine Below.alloc ?_ (by simp <;> omega) _)

set_option maxHeartbeats 1000000 in
theorem rovers_yes (a b c d e f g h : Int) (w : World) (ha : 0 ≤ a ∧ a ≤ 255) (hb : 0 ≤ b ∧ b ≤ 255) (hc : 0 ≤ c ∧ c ≤ 255) (hd : 0 ≤ d ∧ d ≤ 255) (he : 0 ≤ e ∧ e ≤ 255) (hf : 0 ≤ f ∧ f ≤ 255) (hg : 0 ≤ g ∧ g ≤ 255) (hh : 0 ≤ h ∧ h ≤ 255) (h1 : fitB a b c d = true) (h2 : fitB e f g h = true) :
    Calls Tryz.prog 47 #[.agg #[.int .u8 a, .int .u8 b, .int .u8 c, .int .u8 d], .agg #[.int .u8 e, .int .u8 f, .int .u8 g, .int .u8 h]] w fun x w' =>
      x = .returned (.tuple #[.agg #[.int .u8 (mix a e d), .int .u8 (mix b f d), .int .u8 (mix c g d), .int .u8 (mix d h d)], .int .i64 0]) ∧ Below w.heap.size w w' := by
  go_enter Tryz.func47, Tryz.ntmps47
  go_wp2_with (first
    | (go_at_call 100; refine (fits_any _ _ _ _ _).mono ?_; rintro x w' ⟨rfl, rfl⟩)
    | (go_at_call 101; refine (laid_any a b c d e f g h _ ha hb hc hd he hf hg hh).mono ?_; rintro x w1 ⟨rfl, hbl⟩; obtain ⟨hcl, hfl⟩ := bcell hbl; have hz : w.heap.size + 2 < w1.heap.size := (by have := hbl.size; simp at this; omega)))
  refine bodyPost_ret (v := .tuple #[.agg #[.int .u8 (mix a e d), .int .u8 (mix b f d), .int .u8 (mix c g d), .int .u8 (mix d h d)], .int .i64 0]) (by simp [results, Tryz.results47, go_sem, hcl]) rfl ⟨rfl, ?_⟩
  repeat (first | refine Below.setCell ?_ (by simp <;> omega) _)
  refine Below.trans ?_ (hbl.mono (by simp; try omega))
  repeat (first | exact Below.refl _ _ | refine Below.drew ?_ | refine Below.setCell ?_ (by simp <;> omega) _ | refine Below.alloc ?_ (by simp <;> omega) _)

set_option maxHeartbeats 1000000 in
theorem rovers_no1 (a b c d e f g h : Int) (w : World) (h1 : fitB a b c d = false) :
    Calls Tryz.prog 47 #[.agg #[.int .u8 a, .int .u8 b, .int .u8 c, .int .u8 d], .agg #[.int .u8 e, .int .u8 f, .int .u8 g, .int .u8 h]] w fun x w' =>
      x = .returned (.tuple #[.agg #[.int .u8 0, .int .u8 0, .int .u8 0, .int .u8 0], .int .i64 4]) ∧ Below w.heap.size w w' := by
  go_enter Tryz.func47, Tryz.ntmps47
  go_wp2_with (first
    | (go_at_call 100; refine (fits_any _ _ _ _ _).mono ?_; rintro x w' ⟨rfl, rfl⟩))
  refine bodyPost_ret (v := .tuple #[.agg #[.int .u8 0, .int .u8 0, .int .u8 0, .int .u8 0], .int .i64 4]) (by simp [results, Tryz.results47, go_sem]) rfl ⟨rfl, ?_⟩
  repeat (first | exact Below.refl _ _ | refine Below.drew ?_ | refine Below.setCell ?_ (by simp <;> omega) _ | refine Below.alloc ?_ (by simp <;> omega) _)

set_option maxHeartbeats 1000000 in
theorem rovers_no2 (a b c d e f g h : Int) (w : World) (h1 : fitB a b c d = true) (h2 : fitB e f g h = false) :
    Calls Tryz.prog 47 #[.agg #[.int .u8 a, .int .u8 b, .int .u8 c, .int .u8 d], .agg #[.int .u8 e, .int .u8 f, .int .u8 g, .int .u8 h]] w fun x w' =>
      x = .returned (.tuple #[.agg #[.int .u8 0, .int .u8 0, .int .u8 0, .int .u8 0], .int .i64 4]) ∧ Below w.heap.size w w' := by
  go_enter Tryz.func47, Tryz.ntmps47
  go_wp2_with (first
    | (go_at_call 100; refine (fits_any _ _ _ _ _).mono ?_; rintro x w' ⟨rfl, rfl⟩))
  refine bodyPost_ret (v := .tuple #[.agg #[.int .u8 0, .int .u8 0, .int .u8 0, .int .u8 0], .int .i64 4]) (by simp [results, Tryz.results47, go_sem]) rfl ⟨rfl, ?_⟩
  repeat (first | exact Below.refl _ _ | refine Below.drew ?_ | refine Below.setCell ?_ (by simp <;> omega) _ | refine Below.alloc ?_ (by simp <;> omega) _)

theorem eqPix (a b c d e f g h : Int) (w : World) : (Op.equalIn 10000 55 (.agg #[.int .u8 a, .int .u8 b, .int .u8 c, .int .u8 d]) (.agg #[.int .u8 e, .int .u8 f, .int .u8 g, .int .u8 h])).run Tryz.prog w = .ok (a == e && (b == f && (c == g && d == h))) w := by
  have u3 := Tryz.underlying5
  have a3 := Tryz.isAgg5
  have z3 := Tryz.sizeOf5
  rw [show (10000 : Nat) = 9999 + 1 from rfl, Op.equalIn]
  simp only [Sem.run_bind, run_underlying Tryz.underlying55, Result.andThen_ok]
  simp only [Std.Legacy.Range.forIn_eq_forIn_range', Std.Legacy.Range.size, Nat.sub_zero, Nat.add_sub_cancel, Nat.div_one, List.range'_succ, List.range'_zero, List.forIn_cons, List.forIn_nil]
  go_simp
  by_cases h1 : a = e <;> by_cases h2 : b = f <;> by_cases h3 : c = g <;> by_cases h4 : d = h <;> simp [h1, h2, h3, h4]

end Go.Proofs.YtlaflopimpnjpaaGreat
