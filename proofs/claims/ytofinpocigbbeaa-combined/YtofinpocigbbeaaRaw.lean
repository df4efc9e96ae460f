import Derived.Test.YtofinpocigbbeaaPlnC
import Derived.Test.YtofinpocigbbeaaArg
import Derived.Test.YtofinpocigbbeaaPick
namespace Go.Proofs.Ytofinpocigbbeaa
open Go.RowKit
attribute [local go_sem ↓] Go.wp_at_zero Go.wp_at_succ

/-- A rectangle that may be, out of a raw one. -/
def mkR (r : Int × Int × Int × Int) : Int × Int × Int × Int := (pickI r.1 20 - 12, pickI r.2.1 20 - 12, pickI r.1 20 - 12 + pickI r.2.2.1 6, pickI r.2.1 20 - 12 + pickI r.2.2.2 6)

theorem mkR_fit (r : Int × Int × Int × Int) : fitR (mkR r) = true := by
  have a := pick_bd r.1 20 (by omega)
  have b := pick_bd r.2.1 20 (by omega)
  have c := pick_bd r.2.2.1 6 (by omega)
  have d := pick_bd r.2.2.2 6 (by omega)
  unfold fitR mkR
  simp only [decide_eq_true_eq]
  omega

theorem mkR_near (r : Int × Int × Int × Int) : -12 ≤ (mkR r).1 ∧ (mkR r).2.2.1 ≤ 12 ∧ -12 ≤ (mkR r).2.1 ∧ (mkR r).2.2.2 ≤ 12 := by
  have a := pick_bd r.1 20 (by omega)
  have b := pick_bd r.2.1 20 (by omega)
  have c := pick_bd r.2.2.1 6 (by omega)
  have d := pick_bd r.2.2.2 6 (by omega)
  unfold mkR
  simp only
  omega

def rawR (l : List (Int × Int × Int × Int)) : List (Int × Int × Int × Int) := (l.take 20).map mkR

set_option maxRecDepth 100000 in
set_option maxHeartbeats 2000000 in
theorem raw_any (l : List (Int × Int × Int × Int)) (v : Value) (w : World) (h : RectsAt w v l) (hl : l.length ≤ maxLen) (hf : ∀ r ∈ l, fits64 r.1 ∧ fits64 r.2.1 ∧ fits64 r.2.2.1 ∧ fits64 r.2.2.2) :
    Calls Try.prog 10 #[v] w fun e w' => ∃ u, e = .returned u ∧ OwnR w' w.heap.size u (rawR l) ∧ Below w.heap.size w w' := by
  unfold maxLen at hl
  have HR := hide h
  have HF := hide hf
  obtain ⟨va, vc, hv⟩ := h.form
  obtain ⟨n, hn⟩ : ∃ n, l.length = n := ⟨_, rfl⟩
  have HN := hide hn
  rw [hn] at hv hl
  have HV := hide hv
  rw [hv]
  clear h hv hn hf
  obtain ⟨i0, hi0, hz0, hz1, hz2⟩ := info_parts rectInfo
  go_enter Try.func10, Try.ntmps10
  go_wp2
  go_loopg [3, 4] (min n 20) (fun g s3 s4 wr => ∃ i : Nat, s4 = .int .i64 i ∧ g + i = min n 20 ∧ OwnR wr w.heap.size s3 ((l.take i).map mkR) ∧ Below w.heap.size w wr)
  case atStart => exact ⟨0, rfl, by omega, ⟨World.ownsRow_nil _ _ _ _, fun _ => rfl⟩, Below.refl _ _⟩
  case round =>
    obtain ⟨i, rfl, hgi, hown, hbel⟩ := hrel
    obtain ⟨ra, rcp, rfl⟩ := hown.form
    obtain ⟨m, hm⟩ : ∃ m, ((l.take i).map mkR).length = m := ⟨_, rfl⟩
    have hmi : m = i := by
      rw [← hm, List.length_map, List.length_take, HN.out]
      omega
    subst hmi
    rw [hm]
    have HM := hide hm
    cases gk with
    | zero =>
      have HE := hide (And.intro hown hbel)
      clear hown hbel hm
      have hfin : Hid (l.take m = l.take 20) := by
        rw [Hid]
        by_cases e : n ≤ 20
        · rw [List.take_of_length_le (by rw [HN.out]; omega), List.take_of_length_le (by rw [HN.out]; omega)]
        · have : m = 20 := by omega
          rw [this]
      by_cases h20 : (m : Int) < (n : Int)
      · have h21 : ¬ (m : Int) < 20 := by omega
        go_wp2
        go_ret
        refine ⟨_, rfl, ?_, HE.out.2⟩
        have := HE.out.1
        rw [HM.out, hfin.out] at this
        exact this
      · go_wp2
        go_ret
        refine ⟨_, rfl, ?_, HE.out.2⟩
        have := HE.out.1
        rw [HM.out, hfin.out] at this
        exact this
    | succ g =>
      have h20 : (m : Int) < (n : Int) := by omega
      have h21 : (m : Int) < 20 := by omega
      have hmn : m < n := by omega
      have hml : m < l.length := by rw [HN.out]; exact hmn
      have hRw := HR.out.below hbel
      obtain ⟨b, off, c, e1, c1, c2, c3, c4⟩ := hRw.at m hml
      have HC1 : Hid (∃ x, w.cell? ⟨b, off + m * 4, none⟩ = some x) := by
        obtain ⟨b', off', c', e', d1, _⟩ := HR.out.at m hml
        rw [e'] at e1
        simp at e1
        obtain ⟨⟨rfl, rfl⟩, _⟩ := e1
        exact ⟨_, d1⟩
      rw [HV.out, HN.out] at e1
      simp at e1
      obtain ⟨rfl, rfl⟩ := e1
      have hzb := cell_lt c1
      have hgd : l.getD m (0, 0, 0, 0) = l[m] := by rw [List.getD_eq_getElem?_getD, List.getElem?_eq_getElem hml]; rfl
      have hfm := HF.out l[m] (List.getElem_mem hml)
      rw [hgd] at c1 c2 c3 c4
      obtain ⟨⟨x0, y0, x1, y1⟩, hr⟩ : ∃ r, l[m] = r := ⟨_, rfl⟩
      rw [hr] at c1 c2 c3 c4 hfm
      simp only at c1 c2 c3 c4 hfm
      have hq0 := fun W => pick_any x0 20 W hfm.1.1 hfm.1.2 (by omega) (by omega)
      have hq1 := fun W => pick_any y0 20 W hfm.2.1.1 hfm.2.1.2 (by omega) (by omega)
      have hq2 := fun W => pick_any x1 6 W hfm.2.2.1.1 hfm.2.2.1.2 (by omega) (by omega)
      have hq3 := fun W => pick_any y1 6 W hfm.2.2.2.1 hfm.2.2.2.2 (by omega) (by omega)
      have k0 := pick_bd x0 20 (by omega)
      have k1 := pick_bd y0 20 (by omega)
      have k2 := pick_bd x1 6 (by omega)
      have k3 := pick_bd y1 6 (by omega)
      have HMk : Hid (mkR l[m] = (pickI x0 20 - 12, pickI y0 20 - 12, pickI x0 20 - 12 + pickI x1 6, pickI y0 20 - 12 + pickI y1 6)) := by rw [Hid, hr]; rfl
      generalize pickI x0 20 = P0 at *
      generalize pickI y0 20 = P1 at *
      generalize pickI x1 6 = P2 at *
      generalize pickI y1 6 = P3 at *
      have hwr := hbel.size
      have HX := hide (And.intro hown hbel)
      have hown2 := hown.1
      rw [hm] at hown2
      have HO2 := hide hown2
      clear hown hbel hRw hgd hr hfm hm hown2
      have hm0 : (0 : Int) ≤ (m : Int) := by omega
      have HNE : Hid (some b ≠ (Value.slice ra m rcp).ownBlock) := by
        intro e
        have := (HO2.out.lt b e.symm).1
        obtain ⟨x, hx⟩ := HC1.out
        have := cell_lt hx
        omega
      go_wp2_with (first
        | (go_at_call_of 11 (Value.int .i64 x0); refine (hq0 _).mono ?_; rintro e w' ⟨rfl, hw⟩; replace hw := hw.symm; subst hw)
        | (go_at_call_of 11 (Value.int .i64 y0); refine (hq1 _).mono ?_; rintro e w' ⟨rfl, hw⟩; replace hw := hw.symm; subst hw))
      have hw2 : IntKind.i64.wrap (P0 - 12 + P2) = P0 - 12 + P2 := by rw [IntKind.wrap_i64]; omega
      have hw3 : IntKind.i64.wrap (P1 - 12 + P3) = P1 - 12 + P3 := by rw [IntKind.wrap_i64]; omega
      go_region_held3 (fun w' => w'.cell? ⟨b, off + m * 4 + 2, none⟩ = some (.int .i64 x1) ∧ w'.cell? ⟨b, off + m * 4 + 3, none⟩ = some (.int .i64 y1))
        (first
          | go_keep
          | (go_split_ands
             have hne : some b ≠ (Value.slice ra m rcp).ownBlock := HNE.out
             refine ⟨?_, ?_⟩
             · (rw [HG1.out.cell_far _ (by simp; omega) hne]; assumption)
             · (rw [HG1.out.cell_far _ (by simp; omega) hne]; assumption)))
        (first
          | (go_at_call_of 11 (Value.int .i64 x1); refine (hq2 _).mono ?_; rintro e w' ⟨rfl, hw⟩; replace hw := hw.symm; subst hw)
          | (go_at_call_of 11 (Value.int .i64 y1); refine (hq3 _).mono ?_; rintro e w' ⟨rfl, hw⟩; replace hw := hw.symm; subst hw)
          | (refine step_append_lies _ (by rfl) (.tmp 31) (.tmp 51) _ (by rfl) w.heap.size 52 i0 _ 4 32 Try.underlying22 hi0 hz0 hz1 hz2 rfl (by omega) (.slice ra m rcp) m (rectCells ((l.take m).map mkR)) (by rfl) ((HO2.out.alloc _).drew) ⟨wr.heap.size, 0, none⟩ 1 1 [.int .i64 (P0 - 12), .int .i64 (P1 - 12), .int .i64 (P0 - 12 + P2), .int .i64 (P1 - 12 + P3)] (by rfl) (by rfl) (World.news_of_block (cs := #[.int .i64 (P0 - 12), .int .i64 (P1 - 12), .int .i64 (P0 - 12 + P2), .int .i64 (P1 - 12 + P3)]) (t := 52) (fr := (0, 0)) (heap_alloc_new wr _)) (by simp [Value.oneCell']) (by omega) (by unfold maxLen; omega) (by omega) (by simp; omega) (wr.heap.size + 1) (by simp) ?_; intro gg cp w1 hown1 hgrow hat hlt; have HO1 := hide hown1; have HG1 := hide hgrow; clear hown1 hgrow hat)
          | fail)
      go_wp2
      go_roundg g
      case measure => omega
      case rel =>
        obtain ⟨hown, hbel⟩ := HX.out
        refine ⟨m + 1, by go_num, by omega, ?_, ?_⟩
        · have e : (l.take (m + 1)).map mkR = (l.take m).map mkR ++ [mkR l[m]] := by rw [List.take_succ_eq_append_getElem hml, List.map_append]; rfl
          rw [e]
          refine ⟨?_, fun h => by simp at h⟩
          rw [List.length_append, HM.out, rectCells_append, HMk.out]
          exact HO1.out
        · exact ((hbel.alloc hwr _).drew).grown HG1.out (by simp; omega) fun k hk => (HO2.out.lt k hk).1

end Go.Proofs.Ytofinpocigbbeaa
