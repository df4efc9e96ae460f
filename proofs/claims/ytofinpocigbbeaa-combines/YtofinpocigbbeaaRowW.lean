import Derived.Test.YtofinpocigbbeaaWthC
import Derived.Test.YtofinpocigbbeaaRowM
import Derived.Test.YtofinpocigbbeaaOwnS
import Derived.Deep.RegionHeld3
namespace Go.Proofs.Ytofinpocigbbeaa
open Go.RowKit
attribute [local go_sem ↓] Go.wp_at_zero Go.wp_at_succ

/-- Marks in memory. -/
def BoolsAt (w : World) (v : Value) (I : List Bool) : Prop :=
  ∃ a c, v = .slice a I.length c ∧ (0 < I.length → ∃ b off, a = some ⟨b, off, none⟩ ∧ ∀ j, j < I.length → w.cell? ⟨b, off + j, none⟩ = some (.bool (I.getD j false)))

theorem BoolsAt.below {w w' : World} {v : Value} {I : List Bool} (h : BoolsAt w v I) (hb : Below w.heap.size w w') : BoolsAt w' v I := by
  obtain ⟨a, c, hv, hc⟩ := h
  refine ⟨a, c, hv, fun hl => ?_⟩
  obtain ⟨b, off, ha, hcs⟩ := hc hl
  exact ⟨b, off, ha, fun j hj => (hb.cell (p := ⟨b, off + j, none⟩) (cell_lt (hcs j hj))).trans (hcs j hj)⟩

/-- Numbers in memory. -/
def IntsIn (w : World) (g : Nat) (E : List Int) : Prop := ∀ j, j < E.length → w.cell? ⟨g, j, none⟩ = some (.int .i64 (nth E j))

theorem IntsIn.below {w w' : World} {g : Nat} {E : List Int} (h : IntsIn w g E) (hb : Below w.heap.size w w') : IntsIn w' g E := fun j hj =>
  (hb.cell (p := ⟨g, j, none⟩) (cell_lt (h j hj))).trans (h j hj)

theorem OwnI.ints {w : World} {base : Nat} {v : Value} {E : List Int} (h : OwnI w base v E) (hne : E ≠ []) : ∃ g c, v = .slice (some ⟨g, 0, none⟩) E.length c ∧ IntsIn w g E := by
  obtain ⟨g, c, hv, _, _, _, hc⟩ := h.at hne
  exact ⟨g, c, hv, fun j hj => by rw [nth_lt E j hj]; exact hc j hj⟩

def spanRects (y0 y1 : Int) (L : List (Int × Int)) : List (Int × Int × Int × Int) := L.map fun s => (s.1, y0, s.2, y1)

theorem spanRects_append (y0 y1 : Int) (L M : List (Int × Int)) : spanRects y0 y1 (L ++ M) = spanRects y0 y1 L ++ spanRects y0 y1 M := by simp [spanRects]

theorem rectCells_setX (M : List (Int × Int × Int × Int)) (a b z d z' : Int) : (rectCells (M ++ [(a, b, z, d)])).set (M.length * 4 + 2) (.int .i64 z') = rectCells (M ++ [(a, b, z', d)]) := by
  rw [rectCells_append, rectCells_append, List.set_append, if_neg (by rw [rectCells_len]; omega), rectCells_len, show M.length * 4 + 2 - M.length * 4 = 2 by omega]
  rfl

def RowPost (E : List Int) (I : List Bool) (y0 y1 : Int) (w : World) (e : Ending) (w' : World) : Prop := ∃ u L, e = .returned u ∧ OwnR w' w.heap.size u (spanRects y0 y1 L) ∧ RowR E I I.length L ∧ Below w.heap.size w w'

set_option maxRecDepth 100000 in
set_option maxHeartbeats 2000000 in
theorem row_ref (E : List Int) (I : List Bool) (gx cx : Nat) (vI : Value) (y0 y1 : Int) (w : World) (hE : IntsIn w gx E) (hI : BoolsAt w vI I) (hs : E.Pairwise (· < ·)) (hl : I.length + 1 = E.length) (hl2 : E.length ≤ 1000) :
    Calls Try.prog 45 #[.slice (some ⟨gx, 0, none⟩) E.length cx, vI, .int .i64 y0, .int .i64 y1] w (RowPost E I y0 y1 w) := by
  obtain ⟨i0, hi0, hz0, hz1, hz2⟩ := info_parts rectInfo
  have HE := hide hE
  have HI := hide hI
  have HS := hide hs
  have HL := hide hl
  obtain ⟨ia, ic, hv⟩ : ∃ a c, vI = .slice a I.length c := by obtain ⟨a, c, h, _⟩ := hI; exact ⟨a, c, h⟩
  obtain ⟨n, hn⟩ : ∃ n, I.length = n := ⟨_, rfl⟩
  have HN := hide hn
  rw [hn] at hv
  have HV := hide hv
  have hEn : E.length = n + 1 := by omega
  rw [hv, hEn]
  have HEn := hide hEn
  rw [hEn] at hl2
  clear hE hI hs hl hn hv hEn
  go_enter Try.func45, Try.ntmps45
  go_wp2
  go_loopg [9, 10] n (fun g s9 s10 wr => ∃ (i : Nat) (L : List (Int × Int)), s10 = .int .i64 i ∧ g + i = n ∧ RowR E I i L ∧ OwnR wr w.heap.size s9 (spanRects y0 y1 L) ∧ L.length ≤ i ∧ Below w.heap.size w wr)
  case atStart => exact ⟨0, [], rfl, by omega, rowR_start HS.out HL.out, ⟨World.ownsRow_nil _ _ _ _, fun _ => rfl⟩, by simp, Below.refl _ _⟩
  case round =>
    obtain ⟨i, L, rfl, hgi, hR, hown, hLi, hbel⟩ := hrel
    obtain ⟨ra, rcp, rfl⟩ := hown.form
    obtain ⟨m, hm⟩ : ∃ m, (spanRects y0 y1 L).length = m := ⟨_, rfl⟩
    have hmL : m = L.length := by rw [← hm]; simp [spanRects]
    rw [hm]
    have HM := hide (And.intro hm hmL)
    have hm1 : m ≤ 1000 := by omega
    cases gk with
    | zero =>
      have hlt : ¬ (i : Int) + 1 < ((n + 1 : Nat) : Int) := by omega
      have HX := hide (And.intro hR (And.intro hown hbel))
      clear hR hown hbel hm hmL
      go_wp2
      go_ret
      refine ⟨_, L, rfl, ?_, ?_, HX.out.2.2⟩
      · have := HX.out.2.1
        rw [HM.out.1] at this
        exact this
      · have : I.length = i := by rw [HN.out]; omega
        rw [this]; exact HX.out.1
    | succ g =>
      have hlt : (i : Int) + 1 < ((n + 1 : Nat) : Int) := by omega
      have hin : i < n := by omega
      have hiI : i < I.length := by rw [HN.out]; exact hin
      obtain ⟨ia', ic', hv', hcs⟩ := HI.out.below hbel
      rw [HV.out, HN.out] at hv'
      simp at hv'
      obtain ⟨rfl, rfl⟩ := hv'
      obtain ⟨ib, ioff, rfl, hct⟩ := hcs (by omega)
      have c1 := hct i hiI
      have hEb := HE.out.below hbel
      have e1 := hEb i (by rw [HEn.out]; omega)
      have e2 := hEb (i + 1) (by rw [HEn.out]; omega)
      have hzi := cell_lt c1
      have hze := cell_lt e1
      have hwr := hbel.size
      obtain ⟨bi, hbi⟩ : ∃ b, I.getD i false = b := ⟨_, rfl⟩
      rw [hbi] at c1
      cases bi with
      | false =>
        have HX := hide (And.intro (rowR_skip HS.out HL.out hR hiI hbi) (And.intro hown hbel))
        clear hR hown hbel hm hmL hcs hct hEb hbi
        go_wp2
        go_roundg g
        case measure => omega
        case rel =>
          have := HX.out.2.1
          rw [HM.out.1] at this
          exact ⟨i + 1, L, by go_num, by omega, HX.out.1, this, by omega, HX.out.2.2⟩
      | true =>
        by_cases hprev : 0 < i ∧ I.getD (i - 1) false = true
        · -- the last span grows
          obtain ⟨hi0', hIp⟩ := hprev
          obtain ⟨D, f, rfl⟩ := hR.grows hi0' hIp
          have HX := hide (And.intro (rowR_grow HS.out HL.out hR hiI hbi) hbel)
          obtain ⟨d, hd⟩ : ∃ d, D.length = d := ⟨_, rfl⟩
          have hmd : m = d + 1 := by rw [hmL, List.length_append, hd]; rfl
          subst hmd
          have hown2 := hown
          rw [hm] at hown2
          have ho1 := hown2.1
          rw [hm] at ho1
          obtain ⟨gr, cr, hvr, hgb, hgl⟩ := ho1.form (by omega)
          simp at hvr
          obtain ⟨rfl, rfl⟩ := hvr
          have cs := ho1.cells (g := gr) rfl
          have hk2 : wr.cell? ⟨gr, d * 4 + 2, none⟩ = some (.int .i64 (nth E i)) := by
            obtain ⟨_, _, q3, _⟩ := rectCells_at (spanRects y0 y1 (D ++ [(f, nth E i)])) d (by rw [hm]; omega)
            have := cs _ _ q3
            rw [add_at] at this
            rw [this]
            simp [spanRects, hd]
          have hfz := own_free ho1 (d * 4 + 2)
          obtain ⟨im, him⟩ : ∃ k, i - 1 = k := ⟨_, rfl⟩
          have hsub : (i : Int) - 1 = (im : Int) := by omega
          have hc2 := hct im (by omega)
          rw [← him, hIp, him] at hc2
          have hi0b : (0 : Int) < (i : Int) := by omega
          have himn : im < n := by omega
          have HO := hide ho1
          have HD := hide hd
          clear hR hown hown2 hbel hm hmL hcs hct hEb hbi hIp him hd cs ho1
          go_wp2
          go_roundg g
          case measure => omega
          case rel =>
            refine ⟨i + 1, D ++ [(f, nth E (i + 1))], by go_num, by omega, HX.out.1, ?_, by simp at hLi ⊢; omega, HX.out.2.setCell hgb _⟩
            have hset := own_set (j := d * 4 + 2) HO.out (.int .i64 (nth E (i + 1)))
            have e3 : rectCells (spanRects y0 y1 (D ++ [(f, nth E i)])) = rectCells (spanRects y0 y1 D ++ [(f, y0, nth E i, y1)]) := by rw [spanRects_append]; rfl
            have e4 : (spanRects y0 y1 D).length = d := by rw [← HD.out]; simp [spanRects]
            rw [e3, ← e4, rectCells_setX] at hset
            have e5 : spanRects y0 y1 (D ++ [(f, nth E (i + 1))]) = spanRects y0 y1 D ++ [(f, y0, nth E (i + 1), y1)] := by rw [spanRects_append]; rfl
            rw [e5]
            refine ⟨?_, fun h => by simp at h⟩
            rw [List.length_append, e4]
            rw [e4] at hset
            exact hset
        · -- a new one
          have hp : i = 0 ∨ I.getD (i - 1) false = false := by
            by_cases h0 : i = 0
            · exact .inl h0
            · right
              cases hq : I.getD (i - 1) false with
              | false => rfl
              | true => exact absurd ⟨by omega, hq⟩ hprev
          have HX := hide (And.intro (rowR_new HS.out HL.out hR hiI hbi hp) hbel)
          have hown2 := hown
          rw [hm] at hown2
          have ho1 := hown2.1
          rw [hm] at ho1
          have HO2 := hide ho1
          have HNE : Hid (some gx ≠ (Value.slice ra m rcp).ownBlock) := by
            intro e
            have := (HO2.out.lt gx e.symm).1
            have := cell_lt (HE.out 0 (by rw [HEn.out]; omega))
            omega
          obtain ⟨X0, hX0⟩ : ∃ x, nth E i = x := ⟨_, rfl⟩
          obtain ⟨X1, hX1⟩ : ∃ x, nth E (i + 1) = x := ⟨_, rfl⟩
          rw [hX0] at e1
          rw [hX1] at e2
          have HXX := hide (And.intro hX0 hX1)
          have hi0c : (0 : Int) ≤ (i : Int) := by omega
          have hi1c : (0 : Int) ≤ (i : Int) + 1 := by omega
          have hi2c : (i : Int) + 1 < ((n : Int) + 1) := by omega
          have hi3c : (i : Int) < ((n : Int) + 1) := by omega
          have hi4c : i < n + 1 := by omega
          have hi5c : i + 1 < n + 1 := by omega
          have hwrap : IntKind.i64.wrap ((i : Int) + 1) = (i : Int) + 1 := by rw [IntKind.wrap_i64]; omega
          by_cases hz : 0 < i
          · have hp : I.getD (i - 1) false = false := by
              rcases hp with hp | hp
              · omega
              · exact hp
            obtain ⟨im, him⟩ : ∃ k, i - 1 = k := ⟨_, rfl⟩
            have hsub : (i : Int) - 1 = (im : Int) := by omega
            have hc2 := hct im (by omega)
            rw [← him, hp, him] at hc2
            have hi0b : (0 : Int) < (i : Int) := by omega
            have himn : im < n := by omega
            clear hR hown hown2 hbel hm hmL hcs hct hEb hbi ho1 hX0 hX1 hprev hp him
            go_wp2
            go_region_held3 (fun w' => w'.cell? ⟨gx, i, none⟩ = some (.int .i64 X0) ∧ w'.cell? ⟨gx, i + 1, none⟩ = some (.int .i64 X1))
              (first
                | go_keep
                | (go_split_ands
                   have hne : some gx ≠ (Value.slice ra m rcp).ownBlock := HNE.out
                   refine ⟨?_, ?_⟩
                   · (rw [HG1.out.cell_far _ (by simp; omega) hne]; assumption)
                   · (rw [HG1.out.cell_far _ (by simp; omega) hne]; assumption)))
              (first
                | (refine step_append_lies _ (by rfl) (.tmp 43) (.tmp 56) _ (by rfl) w.heap.size 52 i0 _ 4 32 Try.underlying22 hi0 hz0 hz1 hz2 rfl (by omega) (.slice ra m rcp) m (rectCells (spanRects y0 y1 L)) (by rfl) ((HO2.out.alloc _).drew) ⟨wr.heap.size, 0, none⟩ 1 1 [.int .i64 X0, .int .i64 y0, .int .i64 X1, .int .i64 y1] (by rfl) (by rfl) (World.news_of_block (cs := #[.int .i64 X0, .int .i64 y0, .int .i64 X1, .int .i64 y1]) (t := 52) (fr := (0, 0)) (heap_alloc_new wr _)) (by simp [Value.oneCell']) (by omega) (by unfold maxLen; omega) (by omega) (by simp; omega) (wr.heap.size + 1) (by simp) ?_; intro gg cp w1 hown1 hgrow hat hlt9; have HO1 := hide hown1; have HG1 := hide hgrow; clear hown1 hgrow hat)
                | fail)
            go_wp2
            go_roundg g
            case measure => omega
            case rel =>
              refine ⟨i + 1, L ++ [(nth E i, nth E (i + 1))], by go_num, by omega, HX.out.1, ?_, by simp; omega, ?_⟩
              · have e5 : spanRects y0 y1 (L ++ [(nth E i, nth E (i + 1))]) = spanRects y0 y1 L ++ [(nth E i, y0, nth E (i + 1), y1)] := by rw [spanRects_append]; rfl
                rw [e5]
                refine ⟨?_, fun h => by simp at h⟩
                rw [List.length_append, HM.out.1, rectCells_append, HXX.out.1, HXX.out.2]
                exact HO1.out
              · exact ((HX.out.2.alloc hwr _).drew).grown HG1.out (by simp; omega) fun k hk => (HO2.out.lt k hk).1
          · have hz : ¬ (0 : Int) < (i : Int) := by omega
            clear hR hown hown2 hbel hm hmL hcs hct hEb hbi ho1 hX0 hX1 hprev hp
            go_wp2
            go_region_held3 (fun w' => w'.cell? ⟨gx, i, none⟩ = some (.int .i64 X0) ∧ w'.cell? ⟨gx, i + 1, none⟩ = some (.int .i64 X1))
              (first
                | go_keep
                | (go_split_ands
                   have hne : some gx ≠ (Value.slice ra m rcp).ownBlock := HNE.out
                   refine ⟨?_, ?_⟩
                   · (rw [HG1.out.cell_far _ (by simp; omega) hne]; assumption)
                   · (rw [HG1.out.cell_far _ (by simp; omega) hne]; assumption)))
              (first
                | (refine step_append_lies _ (by rfl) (.tmp 43) (.tmp 56) _ (by rfl) w.heap.size 52 i0 _ 4 32 Try.underlying22 hi0 hz0 hz1 hz2 rfl (by omega) (.slice ra m rcp) m (rectCells (spanRects y0 y1 L)) (by rfl) ((HO2.out.alloc _).drew) ⟨wr.heap.size, 0, none⟩ 1 1 [.int .i64 X0, .int .i64 y0, .int .i64 X1, .int .i64 y1] (by rfl) (by rfl) (World.news_of_block (cs := #[.int .i64 X0, .int .i64 y0, .int .i64 X1, .int .i64 y1]) (t := 52) (fr := (0, 0)) (heap_alloc_new wr _)) (by simp [Value.oneCell']) (by omega) (by unfold maxLen; omega) (by omega) (by simp; omega) (wr.heap.size + 1) (by simp) ?_; intro gg cp w1 hown1 hgrow hat hlt9; have HO1 := hide hown1; have HG1 := hide hgrow; clear hown1 hgrow hat)
                | fail)
            go_wp2
            go_roundg g
            case measure => omega
            case rel =>
              refine ⟨i + 1, L ++ [(nth E i, nth E (i + 1))], by go_num, by omega, HX.out.1, ?_, by simp; omega, ?_⟩
              · have e5 : spanRects y0 y1 (L ++ [(nth E i, nth E (i + 1))]) = spanRects y0 y1 L ++ [(nth E i, y0, nth E (i + 1), y1)] := by rw [spanRects_append]; rfl
                rw [e5]
                refine ⟨?_, fun h => by simp at h⟩
                rw [List.length_append, HM.out.1, rectCells_append, HXX.out.1, HXX.out.2]
                exact HO1.out
              · exact ((HX.out.2.alloc hwr _).drew).grown HG1.out (by simp; omega) fun k hk => (HO2.out.lt k hk).1

end Go.Proofs.Ytofinpocigbbeaa
