import Derived.Test.YtofinpocigbbeaaPlnR
namespace Go.Proofs.Ytofinpocigbbeaa
open Go.RowKit
attribute [local go_sem ↓] Go.wp_at_zero Go.wp_at_succ

/-- Marks that the call has made. -/
def OwnB (w : World) (base : Nat) (v : Value) (I : List Bool) : Prop := w.ownsRow base 4 1 v I.length (I.map Value.bool) ∧ (I = [] → v = .slice none 0 0)

theorem OwnB.at {w : World} {base : Nat} {v : Value} {I : List Bool} (h : OwnB w base v I) (hne : I ≠ []) : ∃ g c, v = .slice (some ⟨g, 0, none⟩) I.length c ∧ I.length ≤ c ∧ ∀ j (hj : j < I.length), w.cell? ⟨g, j, none⟩ = some (.bool I[j]) := by
  have hpos : 0 < I.length := by cases I with
    | nil => exact absurd rfl hne
    | cons a I => simp
  obtain ⟨h1, h2⟩ := h
  obtain ⟨g, c, rfl, hb, hl⟩ := h1.form hpos
  have cs := h1.cells (g := g) rfl
  refine ⟨g, c, rfl, own_cap h1, fun j hj => ?_⟩
  have := cs j (.bool I[j]) (by rw [List.getElem?_map, List.getElem?_eq_getElem hj]; rfl)
  rw [add_at] at this
  exact this

/-- What Plain leaves. -/
def PlainPost (E F : List Int) (I : List Bool) (w : World) (e : Ending) (w' : World) : Prop := ∃ u O, e = .returned u ∧ OwnR w' w.heap.size u (rc O) ∧ GridR E F I (F.length - 1) O ∧ Below w.heap.size w w'

set_option maxRecDepth 100000 in
set_option maxHeartbeats 2000000 in
theorem plainR_any (E F : List Int) (I : List Bool) (gx cx gy cy : Nat) (vI : Value) (w : World) (hE : IntsIn w gx E) (hF : IntsIn w gy F) (hI : OwnB w 0 vI I) (sE : E.Pairwise (· < ·)) (sF : F.Pairwise (· < ·)) (bE : ∀ e ∈ E, -2000 ≤ e ∧ e ≤ 2000) (bF : ∀ e ∈ F, -2000 ≤ e ∧ e ≤ 2000)
    (lE : E.length ≤ 100) (lF : F.length ≤ 100) (nE : 0 < E.length) (nF : 0 < F.length) (hl : I.length = (F.length - 1) * (E.length - 1)) :
    Calls Try.prog 34 #[.slice (some ⟨gx, 0, none⟩) E.length cx, .slice (some ⟨gy, 0, none⟩) F.length cy, vI] w (PlainPost E F I w) := by
  obtain ⟨i0, hi0, hz0, hz1, hz2⟩ := info_parts rectInfo
  have HE := hide hE
  have HF := hide hF
  have HI := hide hI
  have HS := hide (And.intro sE (And.intro sF (And.intro bE bF)))
  have HL := hide hl
  obtain ⟨n, hn⟩ : ∃ n, E.length = n + 1 := ⟨E.length - 1, by omega⟩
  obtain ⟨m, hm⟩ : ∃ m, F.length = m + 1 := ⟨F.length - 1, by omega⟩
  have HNM := hide (And.intro hn hm)
  rw [hn, hm]
  rw [hn] at lE
  rw [hm] at lF
  obtain ⟨tot, htot⟩ : ∃ t, I.length = t := ⟨_, rfl⟩
  obtain ⟨va, vc, hvI⟩ : ∃ a c, vI = .slice a tot c := by
    by_cases h : I = []
    · refine ⟨none, 0, ?_⟩
      rw [← htot, h]
      exact hI.2 h
    · obtain ⟨g, c, h1, _⟩ := hI.at h
      exact ⟨_, _, by rw [← htot]; exact h1⟩
  subst hvI
  have HT := hide htot
  clear hE hF hI sE sF bE bF hl nE nF hn hm htot
  go_enter Try.func34, Try.ntmps34
  go_wp2
  go_loopg [7, 8, 10] m (fun g s7 s8 s10 wr => ∃ (i : Nat) (O : List (Int × Int × List (Int × Int))), s10 = .int .i64 i ∧ g + i = m ∧ GridR E F I i O ∧ PMem w.heap.size wr F i s7 s8 O ∧ Below w.heap.size w wr)
  case atStart => exact ⟨0, [], rfl, by omega, gridR_start HS.out.2.1, ⟨[], [], 0, 0, ⟨World.ownsRow_nil _ _ _ _, fun _ => rfl⟩, ⟨World.ownsRow_nil _ _ _ _, fun _ => rfl⟩, fun k hk => by simp [Value.ownBlock] at hk, .inl ⟨rfl, rfl, fun e he => by simp [levels] at he⟩⟩, Below.refl _ _⟩
  case round =>
    rename World => wo
    rename Nat => gO
    obtain ⟨i, O, rfl, hgi, hG, ⟨D, Ls, z0, z1, hown, hlast, hdis, hOD⟩, hbel⟩ := hrel
    obtain ⟨oa, oc, rfl⟩ := hown.form
    obtain ⟨la, lc, rfl⟩ := hlast.form
    cases gO with
    | zero =>
      have hlt : ¬ (i : Int) + 1 < ((m + 1 : Nat) : Int) := by omega
      have hwo := hbel.size
      have hGl := rc_all hG.good
      obtain ⟨nD, hnD⟩ : ∃ k, (rc D).length = k := ⟨_, rfl⟩
      obtain ⟨nL, hnL⟩ : ∃ k, (spanRects z0 z1 Ls).length = k := ⟨_, rfl⟩
      rw [rc_parts hOD, List.length_append, hnD, hnL] at hGl
      have h9 := rects_news hlast.rects fun h => .inl (hlast.2 h)
      rw [hnL] at h9
      have h8 := hown.1
      rw [hnD] at h8
      have HX := hide (And.intro hG (And.intro hown (And.intro hlast (And.intro hdis (And.intro hOD hbel)))))
      have HNx := hide (And.intro h8 h9)
      have HND := hide (And.intro hnD hnL)
      rw [hnD, hnL]
      clear hG hown hlast hdis hOD hbel hnD hnL h8 h9
      go_wp2_with (first
        | (at_builtin; refine wpList_append_row (P := Try.prog) rfl (.tmp 83) (.tmp 84) 22 rfl w.heap.size 52 i0 _ 4 32 Try.underlying22 hi0 hz0 hz1 hz2 rfl (by decide) (.slice oa nD oc) nD (rectCells (rc D)) rfl ?_ (.slice la nL lc) nL (rectCells (spanRects z0 z1 Ls)) rfl ?_ ?_ (rect_oneCell _) (by unfold maxLen; omega) (by omega) hwo ?_; exact HNx.out.1; (rw [rectCells_len, HND.out.2]); exact HNx.out.2; intro v9 w9 ho9 hg9 hn9 ha9; have HO9 := hide ho9; have HG9 := hide hg9; have HN9 := hide (And.intro hn9 ha9); clear ho9 hg9 hn9 ha9))
      go_ret
      refine ⟨_, O, rfl, ⟨?_, fun h => ?_⟩, ?_, ?_⟩
      · rw [rc_parts HX.out.2.2.2.2.1, List.length_append, HND.out.1, HND.out.2, rectCells_append]
        exact HO9.out
      · rw [rc_parts HX.out.2.2.2.2.1] at h
        have h2 := List.append_eq_nil_iff.1 h
        have h3 := HX.out.2.1.2 h2.1
        rw [HND.out.1] at h3
        exact HN9.out.1.2 ⟨h3, by rw [← HND.out.2, h2.2]; rfl⟩
      · have : F.length - 1 = i := by rw [HNM.out.2]; omega
        rw [this]
        exact HX.out.1
      · exact HX.out.2.2.2.2.2.grown HG9.out hwo fun k hk => (HNx.out.1.lt k hk).1
    | succ g =>
      have hlt : (i : Int) + 1 < ((m + 1 : Nat) : Int) := by omega
      have him : i < m := by omega
      have hFb := HF.out.below hbel
      have e1 := hFb i (by rw [HNM.out.2]; omega)
      have e2 := hFb (i + 1) (by rw [HNM.out.2]; omega)
      obtain ⟨Y0, hY0⟩ : ∃ x, nth F i = x := ⟨_, rfl⟩
      obtain ⟨Y1, hY1⟩ : ∃ x, nth F (i + 1) = x := ⟨_, rfl⟩
      rw [hY0] at e1
      rw [hY1] at e2
      have HY := hide (And.intro hY0 hY1)
      obtain ⟨p, hp⟩ : ∃ p : Nat, i * n = p := ⟨_, rfl⟩
      have hpq : (i + 1) * n = p + n := by rw [Nat.add_mul, Nat.one_mul, hp]
      have hp1 : (i : Int) * (n : Int) = (p : Int) := by rw [← hp]; simp
      have hq1 : ((i : Int) + 1) * (n : Int) = (p : Int) + (n : Int) := by have : (((i + 1) * n : Nat) : Int) = ((p + n : Nat) : Int) := by rw [hpq]
                                                                           simpa using this
      have hpb : p ≤ 10000 := by
        rw [← hp]
        have := Nat.mul_le_mul (show i ≤ 100 by omega) (show n ≤ 100 by omega)
        omega
      have hzy := cell_lt e1
      have hwo := hbel.size
      have HX := hide (And.intro hG (And.intro hown (And.intro hlast (And.intro hdis (And.intro hOD hbel)))))
      have HP := hide (And.intro hp hpq)
      clear hG hown hlast hdis hOD hbel hFb hY0 hY1 hp hpq
      obtain ⟨nD, hnD⟩ : ∃ k, (rc D).length = k := ⟨_, rfl⟩
      obtain ⟨nL, hnL⟩ : ∃ k, (spanRects z0 z1 Ls).length = k := ⟨_, rfl⟩
      rw [hnD, hnL]
      have HND := hide (And.intro hnD hnL)
      clear hnD hnL
      have hn0 : (0 : Int) ≤ (n : Int) := by omega
      have hi0c : (0 : Int) ≤ (i : Int) := by omega
      have hi1c : (0 : Int) ≤ (i : Int) + 1 := by omega
      have hi2c : (i : Int) + 1 < ((m : Int) + 1) := by omega
      have hi3c : (i : Int) < ((m : Int) + 1) := by omega
      have hi4c : i < m + 1 := by omega
      have hi5c : i + 1 < m + 1 := by omega
      have w1c : IntKind.i64.wrap ((i : Int) + 1) = (i : Int) + 1 := by rw [IntKind.wrap_i64]; omega
      have w2c : IntKind.i64.wrap (p : Int) = (p : Int) := by rw [IntKind.wrap_i64]; omega
      have w3c : IntKind.i64.wrap ((p : Int) + (n : Int)) = (p : Int) + (n : Int) := by rw [IntKind.wrap_i64]; omega
      go_upto_region 7 with fail
      go_cut [11] (fun s11 wx => ∃ L, OwnR wx wo.heap.size s11 (spanRects Y0 Y1 L) ∧ RowR E (rowI I n i) (rowI I n i).length L ∧ Below wo.heap.size wo wx)
      case first =>
        have hrl : (rowI I n i).length = n := rowI_len (m := m) (by have := HL.out; rw [HNM.out.1, HNM.out.2] at this; simpa using this) him
        by_cases hI0 : I = []
        · have hv0 := HI.out.2 hI0
          have ht0 : tot = 0 := by rw [← HT.out, hI0]; rfl
          injection hv0 with hv1 hv9 hv2
          clear hv9
          have hnm : m * n = 0 := by have := HL.out; rw [HNM.out.1, HNM.out.2, hI0] at this; simpa using this.symm
          have hnz : n = 0 := by
            rcases Nat.mul_eq_zero.mp hnm with h | h
            · omega
            · exact h
          have hpz : p = 0 := by rw [← HP.out.1, hnz, Nat.mul_zero]
          clear hnm
          subst hv1 hv2 ht0 hnz hpz
          clear hp1 hq1 w2c w3c hn0 hpb
          have q1 : IntKind.i64.wrap 0 = 0 := by decide
          have hRow : ∀ W, Below wo.heap.size wo W → Calls Try.prog 45 #[.slice (some ⟨gx, 0, none⟩) (0 + 1) cx, .slice none 0 0, .int .i64 Y0, .int .i64 Y1] W (RowPost E (rowI I 0 i) Y0 Y1 W) := by
            intro W hW
            have hbw := HX.out.2.2.2.2.2.trans (hW.mono HX.out.2.2.2.2.2.size)
            have := row_ref E (rowI I 0 i) gx cx (.slice none 0 0) Y0 Y1 W (HE.out.below hbw) ?_ HS.out.1 (by rw [hrl, HNM.out.1]) (by rw [HNM.out.1]; omega)
            · rw [HNM.out.1] at this; exact this
            · exact ⟨_, 0, by rw [hrl], fun hpos => by omega⟩
          go_region_held3 (fun w' => w'.cell? ⟨gy, i, none⟩ = some (.int .i64 Y0) ∧ w'.cell? ⟨gy, i + 1, none⟩ = some (.int .i64 Y1))
              (first
                | go_keep
                | (go_split_ands
                   refine ⟨?_, ?_⟩
                   · ((refine (HB1.out.cell (p := ⟨gy, i, none⟩) (by simp; omega)).trans ?_); assumption)
                   · ((refine (HB1.out.cell (p := ⟨gy, i + 1, none⟩) (by simp; omega)).trans ?_); assumption)))
              (first
                | (go_at_call 45; refine (hRow _ ?_).mono ?_; exact (Below.refl _ _).drew; rintro e w1 ⟨u1, L, rfl, hu, hR, hb1⟩; have HU := hide (And.intro hu hR); have HB1 := hide hb1; clear hu hR hb1)
                | fail)
          go_wp2_with fail
          go_meet
          exact ⟨L, HU.out.1, HU.out.2, (Below.refl _ _).drew.trans HB1.out⟩
        · obtain ⟨ib, icap, hvI, hic, hics⟩ := HI.out.at hI0
          injection hvI with hv1 hv9 hv2
          clear hv9
          subst hv1 hv2
          have hIl : I.length = m * n := by have := HL.out; rw [HNM.out.1, HNM.out.2] at this; simpa using this
          have hpn : p + n ≤ I.length := by
            rw [hIl, ← HP.out.2]
            exact Nat.mul_le_mul_right n him
          rw [HT.out] at hpn hic
          have hq0 : (p : Int) ≤ (p : Int) + (n : Int) := by omega
          have hq2 : (p : Int) + (n : Int) ≤ (vc : Int) := by omega
          have hp0 : (0 : Int) ≤ (p : Int) := by omega
          have hRow : ∀ W (ad : Option Addr) (cc : Nat), Below wo.heap.size wo W → (0 < n → ad = some ⟨ib, p, none⟩) → Calls Try.prog 45 #[.slice (some ⟨gx, 0, none⟩) (n + 1) cx, .slice ad (((p : Int) + (n : Int)).toNat - p) cc, .int .i64 Y0, .int .i64 Y1] W (RowPost E (rowI I n i) Y0 Y1 W) := by
            intro W ad cc hW had
            have hlen9 : ((p : Int) + (n : Int)).toNat - p = n := by omega
            rw [hlen9]
            have hbw := HX.out.2.2.2.2.2.trans (hW.mono HX.out.2.2.2.2.2.size)
            have := row_ref E (rowI I n i) gx cx (.slice ad n cc) Y0 Y1 W (HE.out.below hbw) ?_ HS.out.1 (by rw [hrl, HNM.out.1]) (by rw [HNM.out.1]; omega)
            · rw [HNM.out.1] at this; exact this
            · refine ⟨_, cc, by rw [hrl], fun hpos => ⟨ib, p, ?_, fun j hj => ?_⟩⟩
              · rw [hrl] at hpos
                exact had hpos
              rw [hrl] at hj
              have hc := hics (p + j) (by rw [HT.out]; omega)
              refine (hbw.cell (p := ⟨ib, p + j, none⟩) (cell_lt hc)).trans ?_
              rw [hc]
              unfold rowI
              rw [HP.out.1, List.getD_eq_getElem?_getD, List.getElem?_take_of_lt hj, List.getElem?_drop, List.getElem?_eq_getElem (by rw [HT.out]; omega)]
              rfl
          have hnp : 0 < n := by
            rcases Nat.eq_zero_or_pos n with h | h
            · exfalso
              have h9 := hIl
              rw [h, Nat.mul_zero] at h9
              exact hI0 (List.length_eq_zero_iff.mp h9)
            · exact h
          have hcp : ¬ vc = p := by omega
          clear hics hIl
          go_region_held3 (fun w' => w'.cell? ⟨gy, i, none⟩ = some (.int .i64 Y0) ∧ w'.cell? ⟨gy, i + 1, none⟩ = some (.int .i64 Y1))
              (first
                | go_keep
                | (go_split_ands
                   refine ⟨?_, ?_⟩
                   · ((refine (HB1.out.cell (p := ⟨gy, i, none⟩) (by simp; omega)).trans ?_); assumption)
                   · ((refine (HB1.out.cell (p := ⟨gy, i + 1, none⟩) (by simp; omega)).trans ?_); assumption)))
              (first
                | (go_at_call 45; refine (hRow _ _ _ ?_ ?_).mono ?_; exact (Below.refl _ _).drew; (exact fun _ => rfl); rintro e w1 ⟨u1, L, rfl, hu, hR, hb1⟩; have HU := hide (And.intro hu hR); have HB1 := hide hb1; clear hu hR hb1)
                | fail)
          go_wp2_with fail
          go_meet
          exact ⟨L, HU.out.1, HU.out.2, (Below.refl _ _).drew.trans HB1.out⟩
      case rest =>
        obtain ⟨L, hrow, hR, hbx⟩ := hcut
        rename World => wx
        obtain ⟨ra, rcp, rfl⟩ := hrow.form
        obtain ⟨nR, hnR⟩ : ∃ k, (spanRects Y0 Y1 L).length = k := ⟨_, rfl⟩
        rw [hnR]
        have hG := HX.out.1
        have hrl : (rowI I n i).length = n := rowI_len (m := m) (by have := HL.out; rw [HNM.out.1, HNM.out.2] at this; simpa using this) him
        obtain ⟨hS, _⟩ := rowR_done HS.out.1 (by rw [hrl, HNM.out.1]) HS.out.2.2.1 hR
        have hSl := hS.len
        have hGl := rc_all hG.good
        rw [rc_parts HX.out.2.2.2.2.1, List.length_append, HND.out.1, HND.out.2] at hGl
        have hFm : nth F i < nth F (i + 1) := nth_mono HS.out.2.1 (by omega) (by rw [HNM.out.2]; omega)
        have hGn := gridR_next (I := I) (L := L) HS.out.1 HS.out.2.1 HS.out.2.2.1 HS.out.2.2.2 (by rw [HNM.out.1]; simp only [Nat.add_sub_cancel]; rw [hrl]) (by rw [HNM.out.2]; omega) hG (by rw [HNM.out.1]; exact hR)
        have hlx := HX.out.2.2.1.stay hbx
        have hrr := hrow.rects
        have hlr := hlx.rects
        rw [hnR] at hrr
        rw [HND.out.2] at hlr
        have e1x := (hbx.cell (p := ⟨gy, i, none⟩) hzy).trans e1
        have e2x := (hbx.cell (p := ⟨gy, i + 1, none⟩) (cell_lt e2)).trans e2
        have hzx := hbx.size
        have HR2 := hide (And.intro hrow (And.intro hbx (And.intro hnR (And.intro hGn hFm))))
        have HA : Hid (Calls Try.prog 46 #[.slice ra nR rcp, .slice la nL lc] wx fun e w' => e = .returned (.bool (decide (L = Ls))) ∧ ∃ nq, w' = wx.drewN nq) := alikeR_any Y0 Y1 z0 z1 L Ls _ _ wx hrr hlr (by omega)
        obtain ⟨sm, hsm⟩ : ∃ b, decide (L = Ls) = b := ⟨_, rfl⟩
        rw [hsm] at HA
        have HSm := hide hsm
        have HLx := hide hlx
        clear hrow hR hbx hnR hS hG hGn hFm hrr hlr hsm e1 e2 hlx
        have HOx : Hid ((wx).ownsRow w.heap.size 52 4 (.slice oa nD oc) nD (rectCells (rc D)) ∧ nD ≤ 10000000) := by
          have := (HX.out.2.1.stay HR2.out.2.1).1
          rw [HND.out.1] at this
          exact ⟨this, by omega⟩
        have HNx : Hid ((rectCells (spanRects z0 z1 Ls)).length = nL * 4 ∧ ((.slice la nL lc = Value.slice none 0 0 ∧ nL = 0) ∨ ∃ ad c, Value.slice la nL lc = .slice (some ad) nL c ∧ ∀ j u, (rectCells (spanRects z0 z1 Ls))[j]? = some u → wx.cell? (ad.add j) = some u)) := by
          refine ⟨by rw [rectCells_len, HND.out.2], ?_⟩
          have h9 := rects_news HLx.out.rects fun h => .inl (HLx.out.2 h)
          rw [HND.out.2] at h9
          exact h9
        rcases Nat.eq_zero_or_pos nL with hL0 | hL0
        · -- no band so far
          have hls : Ls = [] := by
            have := HND.out.2
            rw [spanRects_len, hL0] at this
            exact List.length_eq_zero_iff.mp this
          have hv0 := HX.out.2.2.1.2 (by rw [hls]; rfl)
          rw [HND.out.2] at hv0
          injection hv0 with hv1 hv9 hv2
          clear hv9
          subst hv1 hv2 hL0
          have HNM9 : Hid (¬ (Ls ≠ [] ∧ L = Ls ∧ z1 = nth F i)) := fun h => h.1 hls
          clear hls
          go_wp2_with (first
            | (go_at_call 46; refine HA.out.mono ?_; rintro e w1 ⟨rfl, nq, rfl⟩))
          go_quiet (fail)
          go_wp2_with (first
            | (at_builtin; refine wpList_append_row (P := Try.prog) rfl (.tmp 79) (.tmp 80) 22 rfl w.heap.size 52 i0 _ 4 32 Try.underlying22 hi0 hz0 hz1 hz2 rfl (by decide) (.slice oa nD oc) nD (rectCells (rc D)) rfl ?_ (.slice none 0 0) 0 (rectCells (spanRects z0 z1 Ls)) rfl ?_ ?_ (rect_oneCell _) (by unfold maxLen; omega) (by omega) (by simp; omega) ?_; exact HOx.out.1; exact HNx.out.1; exact .inl ⟨rfl, rfl⟩; intro v9 w9 ho9 hg9 hn9 ha9; have HO9 := hide ho9; have HG9 := hide hg9; have HN9 := hide (And.intro hn9 ha9); obtain ⟨ga, gc, hvf⟩ := row_form ho9; subst hvf; clear ho9 hg9 hn9 ha9))
          go_roundg g
          case measure => omega
          case rel =>
            refine ⟨i + 1, addB O (nth F i, nth F (i + 1), L), by go_num, by omega, HR2.out.2.2.2.1, ?_⟩
            have hx9 := HR2.out.1
            rw [HR2.out.2.2.1, ← HY.out.1, ← HY.out.2] at hx9
            have ho9 := HX.out.2.1
            rw [HND.out.1] at ho9
            exact plain_step HX.out.2.2.2.2.2 HR2.out.2.1 ho9 hx9 HND.out.1 HND.out.2 HR2.out.2.2.2.2 HX.out.1.upto HX.out.2.2.2.2.1 HNM9.out HO9.out HG9.out (by have := HN9.out.1; simpa using this) HN9.out.2
        · -- a band
          have ho1 := HLx.out.1
          rw [HND.out.2] at ho1
          obtain ⟨gl, lc', hvl, hglb, hgll⟩ := ho1.form hL0
          injection hvl with hv1 hv9 hv2
          clear hv9
          subst hv1 hv2
          have hlsl : Ls.length = nL := by have := HND.out.2; rw [spanRects_len] at this; exact this
          have cz : wx.cell? ⟨gl, 3, none⟩ = some (.int .i64 z1) := by
            obtain ⟨_, _, _, q4⟩ := rectCells_at (spanRects z0 z1 Ls) 0 (by rw [HND.out.2]; exact hL0)
            have := ho1.cells (g := gl) rfl _ _ q4
            rw [add_at] at this
            simpa [spanRects] using this
          have HLn := hide hlsl
          clear ho1 hlsl
          have hL0i : (0 : Int) < (nL : Int) := by omega
          have hls : Hid (Ls ≠ []) := by intro h; have := HLn.out; rw [h] at this; simp at this; omega
          cases sm with
          | false =>
            have HNM9 : Hid (¬ (Ls ≠ [] ∧ L = Ls ∧ z1 = nth F i)) := fun h => by have := HSm.out; rw [decide_eq_false_iff_not] at this; exact this h.2.1
            go_wp2_with (first
              | (go_at_call 46; refine HA.out.mono ?_; rintro e w1 ⟨rfl, nq, rfl⟩))
            go_quiet (fail)
            go_wp2_with (first
              | (at_builtin; refine wpList_append_row (P := Try.prog) rfl (.tmp 79) (.tmp 80) 22 rfl w.heap.size 52 i0 _ 4 32 Try.underlying22 hi0 hz0 hz1 hz2 rfl (by decide) (.slice oa nD oc) nD (rectCells (rc D)) rfl ?_ (.slice (some ⟨gl, 0, none⟩) nL lc) nL (rectCells (spanRects z0 z1 Ls)) rfl ?_ ?_ (rect_oneCell _) (by unfold maxLen; omega) (by omega) (by simp; omega) ?_; exact HOx.out.1; exact HNx.out.1; exact HNx.out.2; intro v9 w9 ho9 hg9 hn9 ha9; have HO9 := hide ho9; have HG9 := hide hg9; have HN9 := hide (And.intro hn9 ha9); obtain ⟨ga, gc, hvf⟩ := row_form ho9; subst hvf; clear ho9 hg9 hn9 ha9))
            go_roundg g
            case measure => omega
            case rel =>
              refine ⟨i + 1, addB O (nth F i, nth F (i + 1), L), by go_num, by omega, HR2.out.2.2.2.1, ?_⟩
              have hx9 := HR2.out.1
              rw [HR2.out.2.2.1, ← HY.out.1, ← HY.out.2] at hx9
              have ho9 := HX.out.2.1
              rw [HND.out.1] at ho9
              exact plain_step HX.out.2.2.2.2.2 HR2.out.2.1 ho9 hx9 HND.out.1 HND.out.2 HR2.out.2.2.2.2 HX.out.1.upto HX.out.2.2.2.2.1 HNM9.out HO9.out HG9.out (by have := HN9.out.1; simpa using this) HN9.out.2
          | true =>
            by_cases hzz : z1 = Y0
            · have hLL : Hid (L = Ls) := hide (by have := HSm.out; simpa using this)
              have hzb : (z1 == Y0) = true := by simpa using hzz
              have HZ : Hid (z1 = nth F i) := by rw [HY.out.1]; exact hzz
              clear hzz
              go_wp2_with (first
                | (go_at_call 46; refine HA.out.mono ?_; rintro e w1 ⟨rfl, nq, rfl⟩))
              go_quiet (fail)
              go_wp2
              go_loopg [13] nL (fun gg s13 wr => ∃ k : Nat, s13 = .int .i64 k ∧ gg + k = nL ∧ OwnR wr w.heap.size (.slice (some ⟨gl, 0, none⟩) nL lc) (spanRects z0 Y1 (Ls.take k) ++ spanRects z0 z1 (Ls.drop k)) ∧ (∀ g, (Value.slice (some ⟨gl, 0, none⟩) nL lc).ownBlock ≠ some g → wr.heap[g]? = wx.heap[g]?) ∧ Below w.heap.size w wr)
              case atStart =>
                refine ⟨0, rfl, by omega, ?_, fun _ _ => rfl, below_drewN (below_drewN (HX.out.2.2.2.2.2.trans (HR2.out.2.1.mono hwo)) _) _⟩
                have h9 := HLx.out
                rw [HND.out.2] at h9
                exact h9
              case round =>
                obtain ⟨k, rfl, hgk, hok, hkk, hbk⟩ := hrel
                cases gk with
                | zero =>
                  have hlt : ¬ (k : Int) < (nL : Int) := by omega
                  have HK := hide (And.intro hok (And.intro hkk hbk))
                  clear hok hkk hbk
                  go_wp2
                  go_roundg g
                  case measure => omega
                  case rel =>
                    refine ⟨i + 1, addB O (nth F i, nth F (i + 1), L), by go_num, by omega, HR2.out.2.2.2.1, ?_, HK.out.2.2⟩
                    have hk9 := HK.out.1
                    have hln := HLn.out
                    rw [List.take_of_length_le (by omega), List.drop_eq_nil_of_le (by omega), ← HY.out.2] at hk9
                    have hk8 : OwnR wr w.heap.size (.slice (some ⟨gl, 0, none⟩) nL lc) (spanRects z0 (nth F (i + 1)) Ls) := by
                      have e9 : spanRects z0 (nth F (i + 1)) Ls ++ spanRects z0 z1 [] = spanRects z0 (nth F (i + 1)) Ls := by simp [spanRects]
                      rw [e9] at hk9
                      exact hk9
                    have ho9 := HX.out.2.1
                    rw [HND.out.1] at ho9
                    have hd9 := HX.out.2.2.2.1
                    rw [HND.out.1, HND.out.2] at hd9
                    exact merge_done HR2.out.2.1 ho9 hd9 HX.out.2.2.2.2.1 hls.out hLL.out HZ.out hk8 HK.out.2.1
                | succ g2 =>
                  have hlt : (k : Int) < (nL : Int) := by omega
                  have hkn : k < nL := by omega
                  have hkl : k < Ls.length := by rw [HLn.out]; exact hkn
                  have e2k := HF.out.below hbk (i + 1) (by rw [HNM.out.2]; omega)
                  rw [HY.out.2] at e2k
                  obtain ⟨zv, hzv⟩ : ∃ v, wr.cell? ⟨gl, k * 4 + 3, none⟩ = some v := by
                    have hlen9 : k < (spanRects z0 Y1 (Ls.take k) ++ spanRects z0 z1 (Ls.drop k)).length := by
                      rw [List.length_append, spanRects_len, spanRects_len, List.length_take, List.length_drop]; omega
                    obtain ⟨_, _, _, q4⟩ := rectCells_at _ k hlen9
                    have := hok.1.cells (g := gl) rfl _ _ q4
                    rw [add_at] at this
                    exact ⟨_, this⟩
                  have hfz : wr.frozen? ⟨gl, k * 4 + 3, none⟩ = false := by
                    have h8 := hok.1
                    obtain ⟨_, _, e9⟩ := hok.form
                    injection e9 with _ e9 _
                    rw [← e9] at h8
                    exact own_free h8 _
                  have HK := hide (And.intro hok (And.intro hkk hbk))
                  clear hok hkk hbk
                  go_wp2
                  go_roundg g2
                  case measure => omega
                  case rel =>
                    refine ⟨k + 1, by go_num, by omega, merge_cell hkl HK.out.1, fun q hq => ?_, HK.out.2.2.setCell hglb _⟩
                    rw [← HK.out.2.1 q hq]
                    exact heap_setCell_other wr _ q _ (fun e => hq (by simp [Value.ownBlock, e]))
            · have HNM9 : Hid (¬ (Ls ≠ [] ∧ L = Ls ∧ z1 = nth F i)) := fun h => by have h9 := h.2.2; rw [HY.out.1] at h9; exact hzz h9
              have hzb : (z1 == Y0) = false := by simpa using hzz
              go_wp2_with (first
                | (go_at_call 46; refine HA.out.mono ?_; rintro e w1 ⟨rfl, nq, rfl⟩))
              go_quiet (fail)
              go_wp2_with (first
                | (at_builtin; refine wpList_append_row (P := Try.prog) rfl (.tmp 79) (.tmp 80) 22 rfl w.heap.size 52 i0 _ 4 32 Try.underlying22 hi0 hz0 hz1 hz2 rfl (by decide) (.slice oa nD oc) nD (rectCells (rc D)) rfl ?_ (.slice (some ⟨gl, 0, none⟩) nL lc) nL (rectCells (spanRects z0 z1 Ls)) rfl ?_ ?_ (rect_oneCell _) (by unfold maxLen; omega) (by omega) (by simp; omega) ?_; exact HOx.out.1; exact HNx.out.1; exact HNx.out.2; intro v9 w9 ho9 hg9 hn9 ha9; have HO9 := hide ho9; have HG9 := hide hg9; have HN9 := hide (And.intro hn9 ha9); obtain ⟨ga, gc, hvf⟩ := row_form ho9; subst hvf; clear ho9 hg9 hn9 ha9))
              go_roundg g
              case measure => omega
              case rel =>
                refine ⟨i + 1, addB O (nth F i, nth F (i + 1), L), by go_num, by omega, HR2.out.2.2.2.1, ?_⟩
                have hx9 := HR2.out.1
                rw [HR2.out.2.2.1, ← HY.out.1, ← HY.out.2] at hx9
                have ho9 := HX.out.2.1
                rw [HND.out.1] at ho9
                exact plain_step HX.out.2.2.2.2.2 HR2.out.2.1 ho9 hx9 HND.out.1 HND.out.2 HR2.out.2.2.2.2 HX.out.1.upto HX.out.2.2.2.2.1 HNM9.out HO9.out HG9.out (by have := HN9.out.1; simpa using this) HN9.out.2

end Go.Proofs.Ytofinpocigbbeaa
