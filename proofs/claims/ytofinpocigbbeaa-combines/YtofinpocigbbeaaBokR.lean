import Derived.Test.YtofinpocigbbeaaBokE
namespace Go.Proofs.Ytofinpocigbbeaa
open Go.RowKit
attribute [local go_sem ↓] Go.wp_at_zero Go.wp_at_succ

theorem Tur.drew1 {B0 zb : Nat} {w w' : World} (h : Tur B0 zb w w') : Tur B0 zb w w'.drew := ⟨h.os, h.tape, h.output, h.size, h.block⟩

set_option maxRecDepth 100000 in
set_option maxHeartbeats 1000000 in
/-- (*book).rects: the list is its owner's; nothing else is touched. -/
theorem book_any (v : Value) (n B0 pb : Nat) (pc : Array Value) (w : World) (hn : n ≤ 9000000) (hB : B0 ≤ w.heap.size) (hB1 : B0 ≤ pb) (hpb : w.heap[pb]? = some (.cells pc 31 (0, 0))) (hp1 : pc[1]? = some (.slice none 0 0)) (hv : RowO w B0 v n) :
    Calls Try.prog 20 #[.pointer (some ⟨pb, 1, none⟩), v] w fun e w' => e = .returned (.tuple #[]) ∧ Below B0 w w' := by
  obtain ⟨i9, hi9, hy0, hy1, hy2⟩ := info_parts regInfo
  have hpl := (Array.getElem?_eq_some_iff.1 hpb).1
  have hp : w.cell? ⟨pb, 1, none⟩ = some (.slice none 0 0) := by rw [cell_of_row w pb 1 pc _ _ hpb]; exact hp1
  have hvz : v.ownBlock ≠ some w.heap.size := fun e => by
    obtain ⟨xs, h⟩ := hv
    have := (h.lt _ e).2
    omega
  have HV := hide (And.intro hv hvz)
  have HP := hide (And.intro hpb hp1)
  clear hv hvz hpb hp1
  go_enter Try.func20, Try.ntmps20
  go_wp2
  rename_i Qp K hK
  refine book_r1 (n := n) (B0 := B0) (pb := pb) (zb := w.heap.size) (v := v) (f := fun _ => undef) hn (by simp; omega) (HV.out.1.step (Stp.alloc none _ _)) (heap_alloc_new w _) HV.out.2 ?_
  intro f w1 hs hr
  refine hK _ _ ?_
  clear hK K
  obtain ⟨g5, r1, r2, r3, e5, hg5, hc5, R1, R2, R3⟩ := hr
  have hz1 : w1.heap[w.heap.size]? = some (.cells zC 52 (0, 0)) := by rw [hs.grown.block _ (by simp) (fun e => HV.out.2 e.symm)]; exact heap_alloc_new w _
  have hP1 : w1.heap[pb]? = some (.cells pc 31 (0, 0)) := by
    rw [hs.grown.block pb (by simp; omega) ?_]
    · rw [heap_old w _ pb hpl]; exact HP.out.1
    · intro e
      obtain ⟨xs, h⟩ := HV.out.1
      rcases h.2 with ⟨h1, _⟩ | ⟨g, cap, cur, h1, _, h3, _⟩
      · rw [h1] at e; cases e
      · rw [h1] at e
        injection e with e
        subst e
        have h4 : w.heap[pb]? = some (.cells cur 52 (0, 0)) := h3
        rw [HP.out.1] at h4
        injection h4 with h4
        injection h4 with _ h4
        exact absurd h4 (by decide)
  have hS1 : w.heap.size < w1.heap.size := by have := hs.grown.size; simp at this; omega
  have hR0 : RowZ w1 B0 w.heap.size v n := ⟨(HV.out.1.step (Stp.alloc none _ _)).step hs, HV.out.2⟩
  have hBel : Below B0 w w1 := ((Below.refl B0 w).alloc hB _).grown hs.grown (by simp; omega) fun k hk => by
    obtain ⟨xs, h⟩ := HV.out.1
    exact (h.lt k hk).1
  have hRk : ∀ k, k < 4 → ∃ s, #[v, r1, r2, r3][k]? = some s ∧ RowZ w1 B0 w.heap.size s (n + k) := by
    intro k hk
    match k, hk with
    | 0, _ => exact ⟨v, rfl, hR0⟩
    | 1, _ => exact ⟨r1, rfl, R1⟩
    | 2, _ => exact ⟨r2, rfl, R2⟩
    | 3, _ => exact ⟨r3, rfl, R3⟩
  have HRk := hide hRk
  have HBel := hide hBel
  have HZ := hide (And.intro hz1 hP1)
  have HC := hide hc5
  have hgl := (Array.getElem?_eq_some_iff.1 hc5).1
  clear hRk hBel hz1 hP1 hc5 R1 R2 R3 hR0 hs hg5
  unfold fr
  rw [e5]
  clear e5
  generalize f 14 = x14
  generalize f 15 = x15
  generalize f 16 = x16
  generalize f 17 = x17
  generalize f 18 = x18
  generalize f 19 = x19
  generalize f 20 = x20
  generalize f 21 = x21
  generalize f 22 = x22
  generalize f 23 = x23
  generalize f 24 = x24
  generalize f 25 = x25
  generalize f 26 = x26
  generalize f 27 = x27
  generalize f 28 = x28
  generalize f 29 = x29
  generalize f 30 = x30
  clear f
  go_wp2
  have hzb : zC = #[.int .i64 (-7070), .int .i64 0, .int .i64 0, .int .i64 0] := rfl
  go_loopg [6] 4 (fun g s6 wr => ∃ k : Nat, s6 = .int .i64 k ∧ g + k = 4 ∧ Tur B0 w.heap.size w1 wr)
  case atStart => exact ⟨0, rfl, rfl, Tur.refl _ _ _⟩
  case round =>
    rename World => wo
    rename Nat => gO
    obtain ⟨k, rfl, hgk, hT⟩ := hrel
    have HT := hide hT
    have hwl := hT.size
    have hBz := HBel.out.size
    clear hT
    cases gO with
    | zero =>
      have hlt : ¬ (k : Int) < 4 := by omega
      have hPo := HT.out.other HZ.out.2 (by decide)
      have hpo : wo.cell? ⟨pb, 1, none⟩ = some (.slice none 0 0) := by rw [cell_of_row wo pb 1 pc _ _ hPo]; exact HP.out.2
      have hfo : wo.frozen? ⟨pb, 1, none⟩ = false := by simp [World.frozen?, hPo]
      have hpl2 : pb < wo.heap.size := by omega
      clear hPo
      go_wp2_with (first
        | (at_builtin; refine wpList_append_lies _ rfl (.tmp 57) (.tmp 59) 25 rfl B0 69 i9 _ 1 24 Try.underlying25 hi9 hy0 hy1 hy2 rfl (by decide) (.slice none 0 0) 0 [] rfl (World.ownsRow_nil _ _ _ _) ⟨wo.heap.size, 0, none⟩ 1 1 [.slice (some ⟨g5, 0, none⟩) 4 4] rfl rfl (cell_one_new _ _ _) (by simp [Value.oneCell']) (by omega) (by decide) (by omega) (by simp; omega) _ rfl ?_; intro g4 c4 w4 ho4 hg4 ha4 hl4; have HB4 := hide (((HT.out.below (by omega)).alloc (by omega) (.cells #[.slice (some ⟨g5, 0, none⟩) 4 4] 69)).grown hg4 (by simp; omega) (fun k hk => by simp [Value.ownBlock] at hk)); have hp4 := (hg4.cell_far ⟨pb, 1, none⟩ (by simp; omega) (by simp [Value.ownBlock])).trans ((cell_old wo _ pb 1 hpl2).trans hpo); have hf4 := (hg4.frozen_far ⟨pb, 1, none⟩ (by simp; omega) (by simp [Value.ownBlock])).trans ((World.frozen?_of_block (heap_old wo _ pb hpl2)).trans hfo); clear ho4 hg4 ha4 hl4))
      exact bodyPost_end (v := .tuple #[]) (by simp [results, Try.results20]) rfl ⟨rfl, HBel.out.trans (HB4.out.setCell hB1 _)⟩
    | succ g =>
      have hlt : (k : Int) < 4 := by omega
      have hk4 : k < 4 := by omega
      obtain ⟨s, hs, hrow⟩ := HRk.out k hk4
      obtain ⟨m, hm⟩ : ∃ m, n + k = m := ⟨_, rfl⟩
      rw [hm] at hrow
      obtain ⟨xs, hxs⟩ := hrow.1
      obtain ⟨sa, sc, rfl⟩ := row_form hxs
      have hc5 : wo.cell? ⟨g5, k, none⟩ = some (.slice sa m sc) := by rw [cell_of_row wo g5 k _ _ _ (HT.out.other HC.out (by decide))]; exact hs
      have hm9 : m ≤ 9000004 := by omega
      have HRw := hide hrow
      have HS := hide hs
      clear hs hrow hxs hm
      go_wp2
      go_loopg [7] m (fun gg s7 wr => ∃ i : Nat, s7 = .int .i64 i ∧ gg + i = m ∧ Tur B0 w.heap.size w1 wr)
      case atStart => exact ⟨0, rfl, by omega, HT.out⟩
      case round =>
        rename World => wi
        obtain ⟨i, rfl, hgi, hT⟩ := hrel
        have hc6 : wi.cell? ⟨g5, k, none⟩ = some (.slice sa m sc) := by rw [cell_of_row wi g5 k _ _ _ (hT.other HC.out (by decide))]; exact HS.out
        have HTi := hide hT
        have hwi := hT.size
        clear hT hc5
        cases gk with
        | zero =>
          have hlti : ¬ (i : Int) < (m : Int) := by omega
          go_wp2
          go_roundg g
          case measure => omega
          case rel => exact ⟨k + 1, by go_num, by omega, HTi.out⟩
        | succ g2 =>
          have hlti : (i : Int) < (m : Int) := by omega
          have him : i < m := by omega
          obtain ⟨q, cap, cur, e1, hq1, hq2, hq3, hq4, hq5, ⟨y0, c0⟩, ⟨y1, c1⟩, ⟨y2, c2⟩, ⟨y3, c3⟩, hfr⟩ := (HTi.out.row HRw.out).open him
          injection e1 with e11 e12 e13
          clear e12
          subst e11 e13
          have hic : i < sc := by omega
          have hzw : wi.heap[w.heap.size]? = some (.cells zC 52 (0, 0)) := by rw [HTi.out.keep hS1]; exact HZ.out.1
          have z0 : wi.cell? ⟨w.heap.size, 0, none⟩ = some (.int .i64 (-7070)) := by rw [cell_of_row wi _ 0 zC _ _ hzw]; rfl
          have z1 : wi.cell? ⟨w.heap.size, 1, none⟩ = some (.int .i64 0) := by rw [cell_of_row wi _ 1 zC _ _ hzw]; rfl
          have z2 : wi.cell? ⟨w.heap.size, 2, none⟩ = some (.int .i64 0) := by rw [cell_of_row wi _ 2 zC _ _ hzw]; rfl
          have z3 : wi.cell? ⟨w.heap.size, 3, none⟩ = some (.int .i64 0) := by rw [cell_of_row wi _ 3 zC _ _ hzw]; rfl
          have f0 := hfr (i * 4)
          have f1 := hfr (i * 4 + 1)
          have f2 := hfr (i * 4 + 2)
          have f3 := hfr (i * 4 + 3)
          have hne : ¬ g5 = q := fun e => by
            have h9 := HTi.out.other HC.out (by decide)
            rw [e, hq5] at h9
            injection h9 with h9
            injection h9 with _ h9
            exact absurd h9 (by decide)
          have hne2 : q ≠ g5 := fun e => hne e.symm
          have HQ := hide hq5
          clear hfr hzw hq5
          have hk0 : (0 : Int) ≤ (k : Int) := by omega
          have hi0 : (0 : Int) ≤ (i : Int) := by omega
          go_wp2
          go_region_held3 (fun w' => w'.cell? ⟨w.heap.size, 0, none⟩ = some (.int .i64 (-7070)) ∧ w'.cell? ⟨w.heap.size, 1, none⟩ = some (.int .i64 0) ∧ w'.cell? ⟨w.heap.size, 2, none⟩ = some (.int .i64 0) ∧ w'.cell? ⟨w.heap.size, 3, none⟩ = some (.int .i64 0) ∧ w'.cell? ⟨g5, k, none⟩ = some (.slice (some ⟨q, 0, none⟩) m sc)) (go_keep) (fail)
          all_goals go_wp2
          go_roundg g2
          case measure => omega
          case rel => exact ⟨i + 1, by go_num, by omega, (HTi.out.trans (Tur.set4 HQ.out hq1 hq2 _ _ _ _ _ _ _ _)).drew1⟩

end Go.Proofs.Ytofinpocigbbeaa
