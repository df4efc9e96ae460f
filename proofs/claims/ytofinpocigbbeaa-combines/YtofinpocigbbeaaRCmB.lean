import Derived.Test.YtofinpocigbbeaaRCmA
namespace Go.Proofs.Ytofinpocigbbeaa
open Go.RowKit
attribute [local go_sem ↓] Go.wp_at_zero Go.wp_at_succ

theorem boolInfo : (Try.prog.info? 4).map (fun i => (i.zero, i.size, i.bytes)) = some (some (.bool false), 1, 1) := by kernel_rfl

theorem OwnB.low {w : World} {base base' : Nat} {v : Value} {I : List Bool} (h : OwnB w base v I) (hb : base' ≤ base) : OwnB w base' v I := ⟨⟨h.1.1, h.1.2.imp id fun ⟨g, c, cur, e1, e2, e3⟩ => ⟨g, c, cur, e1, Nat.le_trans hb e2, e3⟩⟩, h.2⟩

theorem both_own {w4 : World} {base na nb : Nat} {v3 v4 : Value} {la lb : List (Int × Int × Int × Int)} (hna : la.length = na) (hnb : lb.length = nb) (ho : w4.ownsRow base 52 4 v4 (0 + na + nb) ([] ++ rectCells la ++ rectCells lb)) (h3 : v3 = .slice none 0 0 ↔ na = 0) (h4 : v4 = .slice none 0 0 ↔ v3 = .slice none 0 0 ∧ nb = 0) : OwnR w4 base v4 (la ++ lb) := by
  refine ⟨?_, fun h => ?_⟩
  · rw [List.length_append, hna, hnb, rectCells_append]
    rw [Nat.zero_add, List.nil_append] at ho
    exact ho
  · have h2 := List.append_eq_nil_iff.1 h
    rw [h4, h3]
    exact ⟨by rw [← hna, h2.1]; rfl, by rw [← hnb, h2.2]; rfl⟩

set_option maxRecDepth 100000 in
set_option maxHeartbeats 2000000 in
theorem refCombine_good (kind : Int) (la lb : List (Int × Int × Int × Int)) (va vb : Value) (w : World) (ha : RectsAt w va la) (hb : RectsAt w vb lb) (na' : NilOk va la) (nb' : NilOk vb lb) (hla : la.length ≤ 20) (hlb : lb.length ≤ 20) (hk : 0 ≤ kind ∧ kind ≤ 3) (hfa : la.all fitR = true) (hfb : lb.all fitR = true) :
    Calls Try.prog 17 #[.int .i64 kind, va, vb] w (Answer kind la lb w) := by
  have he : errB la lb = 0 := by unfold errB; rw [if_neg (by omega), if_pos ⟨hfa, hfb⟩]
  have HAns : Hid (∀ v w' O, Below w.heap.size w w' → OwnR w' w.heap.size v (rc O) → Good O → (∀ x y, memR O x y = keepB kind (hasB la x y) (hasB lb x y)) → Answer kind la lb w (.returned (.tuple #[v, .int .i64 0])) w') := fun v w' O h1 h2 h3 h4 => ⟨h1, _, _, rfl, .inr (.inr ⟨hk, he, rfl, O, h2, h3, h4⟩)⟩
  have hca : Calls Try.prog 30 #[va] w fun e w' => e = .returned (.int .i64 (if la.all fitR = true then 0 else 3)) ∧ Below w.heap.size w w' := refAll_any la va w ha (by unfold maxLen; omega)
  have hcb : ∀ W, Below w.heap.size w W → Calls Try.prog 30 #[vb] W fun e w' => e = .returned (.int .i64 (if lb.all fitR = true then 0 else 3)) ∧ Below W.heap.size W w' := fun W hW => refAll_any lb vb W (hb.below hW) (by unfold maxLen; omega)
  rw [if_pos hfa] at hca
  rw [if_pos hfb] at hcb
  obtain ⟨i0, hi0, hz0, hz1, hz2⟩ := info_parts rectInfo
  have HNA : Hid (∀ W, Below w.heap.size w W → (va = .slice none 0 0 ∧ la.length = 0) ∨ ∃ ad c, va = .slice (some ad) la.length c ∧ ∀ j u, (rectCells la)[j]? = some u → W.cell? (ad.add j) = some u) := fun W hW => rects_news (ha.below hW) na'
  have HNB : Hid (∀ W, Below w.heap.size w W → (vb = .slice none 0 0 ∧ lb.length = 0) ∨ ∃ ad c, vb = .slice (some ad) lb.length c ∧ ∀ j u, (rectCells lb)[j]? = some u → W.cell? (ad.add j) = some u) := fun W hW => rects_news (hb.below hW) nb'
  have HF := hide (And.intro hfa hfb)
  have HAB := hide (And.intro ha hb)
  obtain ⟨aa, ca, rfl⟩ := ha.form
  obtain ⟨ab, cb, rfl⟩ := hb.form
  obtain ⟨na, hna⟩ : ∃ n, la.length = n := ⟨_, rfl⟩
  obtain ⟨nb, hnb⟩ : ∃ n, lb.length = n := ⟨_, rfl⟩
  rw [hna] at hla hca HNA
  rw [hnb] at hlb hcb HNB
  rw [hna, hnb] at HAB
  rw [hna, hnb]
  have HN := hide (And.intro hna hnb)
  clear ha hb na' nb' he hna hnb hfa hfb
  have k0 : ¬ kind < 0 := by omega
  have k3 : ¬ 3 < kind := by omega
  have n1 : ¬ (20 : Int) < (na : Int) := by omega
  have n2 : ¬ (20 : Int) < (nb : Int) := by omega
  clear hk
  go_enter Try.func17, Try.ntmps17
  go_wp2_with (first
    | (go_at_call_of 30 (Value.slice aa na ca); refine hca.mono ?_; rintro e w1 ⟨rfl, hb1⟩; have HB1 := hide hb1; have hs1 := hb1.size; clear hb1)
    | (go_at_call_of 30 (Value.slice ab nb cb); refine (hcb _ HB1.out).mono ?_; rintro e w2 ⟨rfl, hb2⟩; have HB2 := hide (HB1.out.trans (hb2.mono HB1.out.size)); have hs2 : w.heap.size ≤ w2.heap.size := (HB1.out.trans (hb2.mono HB1.out.size)).size; clear hb2)
    | (at_builtin; refine wpList_append_row (P := Try.prog) rfl (.tmp 45) (.tmp 46) 22 rfl w.heap.size 52 i0 _ 4 32 Try.underlying22 hi0 hz0 hz1 hz2 rfl (by decide) (.slice none 0 0) 0 [] rfl ?_ (.slice aa na ca) na (rectCells la) rfl ?_ ?_ (rect_oneCell _) (by unfold maxLen; omega) (by omega) hs2 ?_; exact World.ownsRow_nil _ _ _ _; (rw [rectCells_len, HN.out.1]); exact HNA.out _ HB2.out; intro v3 w3 ho3 hg3 hn3 ha3; have HB3 := hide (HB2.out.grown hg3 hs2 (fun k hk => by simp [Value.ownBlock] at hk)); have hs3 : w.heap.size ≤ w3.heap.size := HB3.out.size; have HO3 := hide (And.intro ho3 hn3); clear ho3 hg3 hn3 ha3)
    | (at_builtin; refine wpList_append_row (P := Try.prog) rfl (.tmp 48) (.tmp 49) 22 rfl w.heap.size 52 i0 _ 4 32 Try.underlying22 hi0 hz0 hz1 hz2 rfl (by decide) v3 (0 + na) ([] ++ rectCells la) rfl ?_ (.slice ab nb cb) nb (rectCells lb) rfl ?_ ?_ (rect_oneCell _) (by unfold maxLen; omega) (by omega) hs3 ?_; exact HO3.out.1; (rw [rectCells_len, HN.out.2]); exact HNB.out _ HB3.out; intro v4 w4 ho4 hg4 hn4 ha4; have HB4 := hide (HB3.out.grown hg4 hs3 (fun k hk => (HO3.out.1.lt k hk).1)); have hs4 : w.heap.size ≤ w4.heap.size := HB4.out.size; have ho4r := both_own HN.out.1 HN.out.2 ho4 (by have := HO3.out.2; simpa using this) hn4; obtain ⟨N, hN⟩ : ∃ n, 0 + na + nb = n := ⟨_, rfl⟩; rw [hN] at ho4; have hN2 : na + nb = N := (by omega); obtain ⟨ga, gc, hvf⟩ := row_form ho4; subst hvf; have HO4 := hide ho4r; clear ho4 hg4 hn4 ha4 ho4r hN))
  go_loopg [11, 12, 13] N (fun g s11 s12 s13 wr => ∃ (i : Nat) (E F : List Int), s13 = .int .i64 i ∧ g + i = N ∧ OwnI wr w4.heap.size s11 E ∧ OwnI wr w4.heap.size s12 F ∧ Edges (la ++ lb) i E F ∧ Below w4.heap.size w4 wr)
  case atStart => exact ⟨0, [], [], rfl, by omega, ⟨World.ownsRow_nil _ _ _ _, fun _ => rfl⟩, ⟨World.ownsRow_nil _ _ _ _, fun _ => rfl⟩, edges_start _, Below.refl _ _⟩
  case round =>
    rename World => wo
    rename Nat => gO
    obtain ⟨i, E, F, rfl, hgi, hE, hF, hEd, hbel⟩ := hrel
    obtain ⟨ea, ec, hfe⟩ := hE.form
    obtain ⟨fa, fc, hff⟩ := hF.form
    obtain ⟨nE, hnE⟩ : ∃ n, E.length = n := ⟨_, rfl⟩
    obtain ⟨nF, hnF⟩ : ∃ n, F.length = n := ⟨_, rfl⟩
    rw [hnE] at hfe
    rw [hnF] at hff
    subst hfe hff
    have HNE := hide (And.intro hnE hnF)
    have hle := hEd.le
    have hlf := hEd.lf
    rw [hnE] at hle
    rw [hnF] at hlf
    have hlen : (la ++ lb).length = N := by rw [List.length_append, HN.out.1, HN.out.2]; exact hN2
    have HLen := hide hlen
    clear hnE hnF hlen
    cases gO with
    | zero =>
      have hlt : ¬ (i : Int) < (N : Int) := by omega
      have hiN : i = N := by omega
      by_cases hN0 : N = 0
      · -- no rectangles
        have hnE0 : nE = 0 := by omega
        have hz : la = [] ∧ lb = [] := ⟨List.length_eq_zero_iff.mp (by rw [HN.out.1]; omega), List.length_eq_zero_iff.mp (by rw [HN.out.2]; omega)⟩
        have HK := hide (And.intro hz hbel)
        clear hz hE hF hEd hbel hiN
        subst hnE0
        go_wp2
        go_ret2
        refine HAns.out _ _ [] (HB4.out.trans (HK.out.2.mono hs4)) ⟨World.ownsRow_nil _ _ _ _, fun _ => rfl⟩ good_nil fun x y => ?_
        rw [HK.out.1.1, HK.out.1.2]
        exact (keepB_none kind).symm
      · -- some
        obtain ⟨neE, neF⟩ := hEd.ne (by omega)
        obtain ⟨gx, cx, hvx, hIx⟩ := hE.ints neE
        obtain ⟨gy, cy, hvy, hIy⟩ := hF.ints neF
        injection hvx with hx1 hx2 hx3
        injection hvy with hy1 hy2 hy3
        clear hx2 hy2
        subst hx1 hx3 hy1 hy3
        have hpE : 0 < nE := by
          rw [← HNE.out.1]
          exact List.length_pos_iff.2 neE
        have hpF : 0 < nF := by
          rw [← HNE.out.2]
          exact List.length_pos_iff.2 neF
        obtain ⟨n, hn⟩ : ∃ n, nE = n + 1 := ⟨nE - 1, by omega⟩
        obtain ⟨m, hm⟩ : ∃ m, nF = m + 1 := ⟨nF - 1, by omega⟩
        subst hn hm
        have hedg : Edged E F (la ++ lb) := by
          have := hEd.at'
          rw [List.take_of_length_le (by rw [HLen.out]; omega)] at this
          exact this
        have hin : Below w.heap.size w wo := HB4.out.trans (hbel.mono hs4)
        have hHa : ∀ W x y, Below wo.heap.size wo W → Calls Try.prog 32 #[.slice aa na ca, .int .i64 x, .int .i64 y] W fun e w' => e = .returned (.bool (hasB la x y)) ∧ w' = W := fun W x y hW => refHas_any la _ x y W ((HAB.out.1.below hin).below hW) (by rw [HN.out.1]; unfold maxLen; omega)
        have hHb : ∀ W x y, Below wo.heap.size wo W → Calls Try.prog 32 #[.slice ab nb cb, .int .i64 x, .int .i64 y] W fun e w' => e = .returned (.bool (hasB lb x y)) ∧ w' = W := fun W x y hW => refHas_any lb _ x y W ((HAB.out.2.below hin).below hW) (by rw [HN.out.2]; unfold maxLen; omega)
        have hP : ∀ W v, Below wo.heap.size wo W → OwnB W wo.heap.size v (gridC kind la lb E F m) → Calls Try.prog 34 #[.slice (some ⟨gx, 0, none⟩) (n + 1) ec, .slice (some ⟨gy, 0, none⟩) (m + 1) fc, v] W (PlainPost E F (gridC kind la lb E F m) W) := by
          intro W v hW hv
          have := plainR_any E F (gridC kind la lb E F m) gx ec gy fc v W (hIx.below hW) (hIy.below hW) (hv.low (Nat.zero_le _)) hEd.e hEd.f hEd.be hEd.bf (by rw [HNE.out.1]; omega) (by rw [HNE.out.2]; omega) (by rw [HNE.out.1]; omega) (by rw [HNE.out.2]; omega) (by rw [gridC_len, HNE.out.2]; rfl)
          rw [HNE.out.1, HNE.out.2] at this
          exact this
        have HM : Hid (∀ O, GridR E F (gridC kind la lb E F m) m O → ∀ x y, memR O x y = keepB kind (hasB la x y) (hasB lb x y)) := by
          intro O hO x y
          have hml : F.length - 1 = m := by rw [HNE.out.2]; rfl
          have h1 := gridR_done (O := O) (I := gridC kind la lb E F m) hEd.f (by rw [hml]; exact hO) x y
          have h2 := grid_is kind hEd.e hEd.f (edged_parts hedg).1 (edged_parts hedg).2 (by rw [HNE.out.1]; omega) (by rw [HNE.out.2]; omega) x y
          rw [hml] at h2
          rw [h1, h2]
        obtain ⟨j0, hj0, hy0, hy1, hy2⟩ := info_parts boolInfo
        have HI := hide (And.intro hIx (And.intro hIy hin))
        have hsw := hbel.size
        clear hE hF hEd hbel hiN neE neF hedg hin hIx hIy hpE hpF
        go_wp2
        go_loopg [14, 15] m (fun g s14 s15 w2 => ∃ i2 : Nat, s15 = .int .i64 i2 ∧ g + i2 = m ∧ OwnB w2 wo.heap.size s14 (gridC kind la lb E F i2) ∧ Below wo.heap.size wo w2)
        case atStart => exact ⟨0, rfl, by omega, ⟨World.ownsRow_nil _ _ _ _, fun _ => rfl⟩, Below.refl _ _⟩
        case round =>
          rename World => wq
          rename Nat => gQ
          obtain ⟨i2, rfl, hgi2, hI2, hb2⟩ := hrel
          cases gQ with
          | zero =>
            have hlt2 : ¬ (i2 : Int) + 1 < ((m + 1 : Nat) : Int) := by omega
            have hi2 : i2 = m := by omega
            subst hi2
            have HQ := hide (And.intro hI2 hb2)
            have hsq := hb2.size
            clear hI2 hb2
            go_wp2_with (first
              | (go_at_call 34; refine (hP _ _ HQ.out.2 HQ.out.1).mono ?_; rintro e w7 ⟨u7, O7, rfl, hu7, hG7, hb7⟩; have H7 := hide (And.intro hu7 (And.intro hG7 hb7)); clear hu7 hG7 hb7))
            go_ret2
            have hml : F.length - 1 = i2 := by rw [HNE.out.2]; rfl
            have hG := H7.out.2.1
            rw [hml] at hG
            have hbq : Below w.heap.size w wq := HI.out.2.2.trans (HQ.out.2.mono HI.out.2.2.size)
            exact HAns.out _ _ O7 (hbq.trans (H7.out.2.2.mono hbq.size)) (H7.out.1.low hbq.size) hG.good (HM.out O7 hG)
          | succ g =>
            have hlt2 : (i2 : Int) + 1 < ((m + 1 : Nat) : Int) := by omega
            have hi2m : i2 < m := by omega
            have HQ := hide (And.intro hI2 hb2)
            clear hI2 hb2
            go_wp2
            go_loopg [14, 16] n (fun gg s14 s16 w3 => ∃ k : Nat, s16 = .int .i64 k ∧ gg + k = n ∧ OwnB w3 wo.heap.size s14 (gridC kind la lb E F i2 ++ rowC kind la lb E (nth F i2) k) ∧ Below wo.heap.size wo w3)
            case atStart =>
              refine ⟨0, rfl, by omega, ?_, HQ.out.2⟩
              have e9 : gridC kind la lb E F i2 ++ rowC kind la lb E (nth F i2) 0 = gridC kind la lb E F i2 := by simp [rowC]
              rw [e9]
              exact HQ.out.1
            case round =>
              obtain ⟨k, rfl, hgk, hI3, hb3⟩ := hrel
              cases gk with
              | zero =>
                have hlt3 : ¬ (k : Int) + 1 < ((n + 1 : Nat) : Int) := by omega
                have hkn : k = n := by omega
                have HK := hide (And.intro hI3 (And.intro hb3 hkn))
                clear hI3 hb3 hkn
                go_wp2
                go_roundg g
                case measure => omega
                case rel =>
                  refine ⟨i2 + 1, by go_num, by omega, ?_, HK.out.2.1⟩
                  rw [gridC_succ, HNE.out.1]
                  have h9 := HK.out.1
                  rw [HK.out.2.2] at h9
                  exact h9
              | succ g3 =>
                have hlt3 : (k : Int) + 1 < ((n + 1 : Nat) : Int) := by omega
                have hkn : k < n := by omega
                have e1 := HI.out.1.below hb3 k (by rw [HNE.out.1]; omega)
                have e2 := HI.out.2.1.below hb3 i2 (by rw [HNE.out.2]; omega)
                obtain ⟨X, hX⟩ : ∃ x, nth E k = x := ⟨_, rfl⟩
                obtain ⟨Y, hY⟩ : ∃ x, nth F i2 = x := ⟨_, rfl⟩
                rw [hX] at e1
                rw [hY] at e2
                obtain ⟨la3, lc3, hf3⟩ := row_form hI3.1
                obtain ⟨nI, hnI⟩ : ∃ q, (gridC kind la lb E F i2 ++ rowC kind la lb E (nth F i2) k).length = q := ⟨_, rfl⟩
                have hnIb : nI ≤ 10000 := by
                  rw [← hnI, List.length_append, gridC_len, rowC_len, HNE.out.1]
                  have := Nat.mul_le_mul (show i2 ≤ 90 by omega) (show n + 1 - 1 ≤ 90 by omega)
                  omega
                rw [hnI] at hf3
                subst hf3
                have ho3 := hI3.1
                rw [hnI] at ho3
                have hs3 := hb3.size
                have HK := hide (And.intro ho3 (And.intro hb3 (And.intro hnI (And.intro hX hY))))
                clear hI3 hb3 hnI hX hY ho3
                have hk0c : (0 : Int) ≤ (k : Int) := by omega
                have hi0c : (0 : Int) ≤ (i2 : Int) := by omega
                have hk1c : (k : Int) < ((n : Int) + 1) := by omega
                have hi1c : (i2 : Int) < ((m : Int) + 1) := by omega
                have hk2c : k < n + 1 := by omega
                have hi2c : i2 < m + 1 := by omega
                go_wp2
                go_quiet ((go_at_call 32; exact Calls.quiet_of_same (hHa _ X Y (below_drewN HK.out.2.1 _))))
                go_wp2
                have ho4 : (wr.drewN nq).ownsRow wo.heap.size 4 1 (.slice la3 nI lc3) nI ((gridC kind la lb E F i2 ++ rowC kind la lb E (nth F i2) k).map Value.bool) := HK.out.1
                have HK2 := hide (And.intro ho4 (below_drewN HK.out.2.1 nq))
                have e1z : (wr.drewN nq).cell? ⟨gx, k, none⟩ = some (.int .i64 X) := e1
                have e2z : (wr.drewN nq).cell? ⟨gy, i2, none⟩ = some (.int .i64 Y) := e2
                have hs4z : wo.heap.size ≤ (wr.drewN nq).heap.size := hs3
                clear ho4 e1 e2
                generalize wr.drewN nq = wz at HK2 e1z e2z hs4z ⊢
                go_quiet ((go_at_call 32; exact Calls.quiet_of_same (hHb _ X Y (below_drewN HK2.out.2 _))))
                go_wp2_with (first
                  | (go_at_call 33; refine (says_any kind _ _ _).mono ?_; rintro e w8 ⟨rfl, hw8⟩; replace hw8 := hw8.symm; subst hw8)
                  | (at_builtin; refine wpList_append_lies _ rfl (.tmp 124) (.tmp 126) 64 rfl wo.heap.size 4 j0 (.bool false) 1 1 Try.underlying64 hj0 hy0 hy1 hy2 rfl (by decide) (.slice la3 nI lc3) nI ((gridC kind la lb E F i2 ++ rowC kind la lb E (nth F i2) k).map Value.bool) rfl (World.ownsRow.alloc (w := wz.drewN nq) HK2.out.1 _) ⟨wz.heap.size, 0, none⟩ 1 1 [.bool (keepB kind (hasB la X Y) (hasB lb X Y))] rfl rfl (World.news_of_block (cs := #[.bool (keepB kind (hasB la X Y) (hasB lb X Y))]) (t := 4) (fr := (0, 0)) (heap_alloc_new (wz.drewN nq) _)) (by simp [Value.oneCell']) (by omega) (by unfold maxLen; omega) (by omega) (by simp; omega) _ rfl ?_; intro g9 c9 w9 ho9 hg9 ha9 hl9; have HO9 := hide ho9; have HG9 := hide hg9; clear ho9 hg9 ha9 hl9))
                go_roundg g3
                case measure => omega
                case rel =>
                  refine ⟨k + 1, by go_num, by omega, ⟨?_, fun h => ?_⟩, ?_⟩
                  · rw [rowC_succ, ← List.append_assoc, List.length_append, HK.out.2.2.1, List.map_append, HK.out.2.2.2.1, HK.out.2.2.2.2]
                    have h9 := HO9.out
                    rw [HK.out.2.2.2.2] at h9
                    exact h9
                  · rw [rowC_succ] at h
                    simp at h
                  · exact ((below_drewN HK2.out.2 nq).alloc hs4z _).grown HG9.out (by simp; omega) fun q hq => (HK2.out.1.lt q hq).1
    | succ g =>
      have hlt : (i : Int) < (N : Int) := by omega
      have hiN : i < N := by omega
      have hi0c : (0 : Int) ≤ (i : Int) := by omega
      have hil : i < (la ++ lb).length := by rw [HLen.out]; exact hiN
      have hrr := HO4.out.rects.below hbel
      obtain ⟨ab2, ao, ac2, e9, c1, c2, c3, c4⟩ := hrr.at i hil
      injection e9 with e91 e92 e93
      clear e92
      subst e91 e93
      obtain ⟨⟨a0, b0, c0, d0⟩, hr⟩ : ∃ r, (la ++ lb).getD i (0, 0, 0, 0) = r := ⟨_, rfl⟩
      rw [hr] at c1 c2 c3 c4
      simp only at c1 c2 c3 c4
      have HCL : Hid (∀ W, Below wo.heap.size wo W → (W.cell? ⟨ab2, ao + i * 4, none⟩ = some (.int .i64 a0) ∧ W.cell? ⟨ab2, ao + i * 4 + 2, none⟩ = some (.int .i64 c0)) ∧ W.cell? ⟨ab2, ao + i * 4 + 1, none⟩ = some (.int .i64 b0) ∧ W.cell? ⟨ab2, ao + i * 4 + 3, none⟩ = some (.int .i64 d0)) := fun W hW =>
        ⟨⟨(hW.cell (p := ⟨ab2, ao + i * 4, none⟩) (cell_lt c1)).trans c1, (hW.cell (p := ⟨ab2, ao + i * 4 + 2, none⟩) (cell_lt c3)).trans c3⟩, (hW.cell (p := ⟨ab2, ao + i * 4 + 1, none⟩) (cell_lt c2)).trans c2, (hW.cell (p := ⟨ab2, ao + i * 4 + 3, none⟩) (cell_lt c4)).trans c4⟩
      have hwo := hbel.size
      have hC1 : ∀ W, Below wo.heap.size wo W → Calls Try.prog 31 #[.slice ea nE ec, .int .i64 a0] W (WithPost w4.heap.size E a0 W) := fun W hW => with_any E _ a0 _ W (hE.stay hW) hEd.e (by rw [HNE.out.1]; omega) (by have := hW.size; omega)
      have hC2 : ∀ W u E1, OwnI W w4.heap.size u E1 → Widened E E1 a0 → w4.heap.size ≤ W.heap.size → Calls Try.prog 31 #[u, .int .i64 c0] W (WithPost w4.heap.size E1 c0 W) := fun W u E1 h1 h2 h3 => with_any E1 u c0 _ W h1 h2.1 (by have := h2.2.2.1; rw [HNE.out.1] at this; omega) h3
      have hD1 : ∀ W, Below wo.heap.size wo W → Calls Try.prog 31 #[.slice fa nF fc, .int .i64 b0] W (WithPost w4.heap.size F b0 W) := fun W hW => with_any F _ b0 _ W (hF.stay hW) hEd.f (by rw [HNE.out.2]; omega) (by have := hW.size; omega)
      have hD2 : ∀ W u F1, OwnI W w4.heap.size u F1 → Widened F F1 b0 → w4.heap.size ≤ W.heap.size → Calls Try.prog 31 #[u, .int .i64 d0] W (WithPost w4.heap.size F1 d0 W) := fun W u F1 h1 h2 h3 => with_any F1 u d0 _ W h1 h2.1 (by have := h2.2.2.1; rw [HNE.out.2] at this; omega) h3
      have HX := hide (And.intro hE (And.intro hF (And.intro hEd (And.intro hbel hr))))
      clear hE hF hEd hbel hr hrr c2 c4
      go_upto_region 17 with fail
      go_cut [11] (fun s11 wx => ∃ E2, OwnI wx w4.heap.size s11 E2 ∧ Wid2 E E2 a0 c0 ∧ Below wo.heap.size wo wx)
      case first =>
        go_region_held3 (fun w' => w'.cell? ⟨ab2, ao + i * 4, none⟩ = some (.int .i64 a0) ∧ w'.cell? ⟨ab2, ao + i * 4 + 2, none⟩ = some (.int .i64 c0))
          (first
            | go_keep
            | (go_split_ands
               refine ⟨?_, ?_⟩ <;> assumption))
          (first
            | (go_at_call_of 31 (Value.slice ea nE ec); refine (hC1 _ ?_).mono ?_; exact (Below.refl _ _).drew; rintro e w5 ⟨u5, E5, rfl, hu5, hw5, hb5⟩; obtain ⟨p1, p2⟩ := (HCL.out w5 (((Below.refl _ wo).drew).trans hb5)).1; have H5 := hide (And.intro hu5 (And.intro hw5 (((Below.refl _ wo).drew).trans hb5))); have hs5 : wo.heap.size ≤ w5.heap.size := hb5.size; clear hu5 hw5 hb5)
            | (go_at_call 31; refine (hC2 _ _ _ H5.out.1 H5.out.2.1 ?_).mono ?_; omega; rintro e w6 ⟨u6, E6, rfl, hu6, hw6, hb6⟩; obtain ⟨p3, p4⟩ := (HCL.out w6 (H5.out.2.2.trans (hb6.mono hs5))).1; have H6 := hide (And.intro hu6 (And.intro (wid2 H5.out.2.1 hw6) (H5.out.2.2.trans (hb6.mono hs5)))); clear hu6 hw6 hb6)
            | fail)
        all_goals go_wp2_with fail
        all_goals go_meet
        all_goals exact ⟨_, H6.out.1, H6.out.2.1, H6.out.2.2⟩
      case rest =>
        obtain ⟨E2, hE2, hW2, hbx⟩ := hcut
        rename World => wx
        obtain ⟨ea2, ec2, hfe⟩ := hE2.form
        obtain ⟨nE2, hnE2⟩ : ∃ n, E2.length = n := ⟨_, rfl⟩
        rw [hnE2] at hfe
        subst hfe
        have hsx := hbx.size
        have HY := hide (And.intro hE2 (And.intro hW2 (And.intro hbx hnE2)))
        obtain ⟨⟨_, _⟩, c2, c4⟩ := HCL.out wx hbx
        clear hE2 hW2 hbx hnE2 c1 c3 hC1 hC2
        go_upto_region 18 with fail
        go_region_held3 (fun w' => w'.cell? ⟨ab2, ao + i * 4 + 1, none⟩ = some (.int .i64 b0) ∧ w'.cell? ⟨ab2, ao + i * 4 + 3, none⟩ = some (.int .i64 d0))
          (first
            | go_keep
            | (go_split_ands
               refine ⟨?_, ?_⟩ <;> assumption))
          (first
            | (go_at_call_of 31 (Value.slice fa nF fc); refine (hD1 _ ?_).mono ?_; exact HY.out.2.2.1.drew; rintro e w5 ⟨u5, F5, rfl, hu5, hw5, hb5⟩; obtain ⟨p1, p2⟩ := (HCL.out w5 (HY.out.2.2.1.drew.trans (hb5.mono hsx))).2; have H5 := hide (And.intro hu5 (And.intro hw5 (((Below.refl _ wx).drew).trans hb5))); have hs5 : wx.heap.size ≤ w5.heap.size := hb5.size; clear hu5 hw5 hb5)
            | (go_at_call 31; refine (hD2 _ _ _ H5.out.1 H5.out.2.1 ?_).mono ?_; omega; rintro e w6 ⟨u6, F6, rfl, hu6, hw6, hb6⟩; obtain ⟨p3, p4⟩ := (HCL.out w6 (HY.out.2.2.1.trans ((H5.out.2.2.trans (hb6.mono hs5)).mono hsx))).2; have H6 := hide (And.intro hu6 (And.intro (wid2 H5.out.2.1 hw6) (H5.out.2.2.trans (hb6.mono hs5)))); clear hu6 hw6 hb6)
            | fail)
        all_goals
          go_wp2
          go_roundg g
          case measure => omega
          case rel =>
            have hfab : (la ++ lb).all fitR = true := by rw [List.all_append, HF.out.1, HF.out.2]; rfl
            refine ⟨i + 1, E2, _, by go_num, by omega, ?_, H6.out.1, edges_next HX.out.2.2.1 hil HX.out.2.2.2.2 hfab HY.out.2.1 H6.out.2.1, ?_⟩
            · exact HY.out.1.stay H6.out.2.2
            · exact HX.out.2.2.2.1.trans ((HY.out.2.2.1.trans (H6.out.2.2.mono hsx)).mono hwo)

theorem refCombine_any (kind : Int) (la lb : List (Int × Int × Int × Int)) (va vb : Value) (w : World) (ha : RectsAt w va la) (hb : RectsAt w vb lb) (na : NilOk va la) (nb : NilOk vb lb) (hla : la.length ≤ maxLen) (hlb : lb.length ≤ maxLen) :
    Calls Try.prog 17 #[.int .i64 kind, va, vb] w (Answer kind la lb w) := by
  by_cases hk : 0 ≤ kind ∧ kind ≤ 3
  · by_cases hm : 20 < la.length ∨ 20 < lb.length
    · exact refCombine_many kind la lb va vb w ha hb hla hlb hk hm
    · by_cases hf : la.all fitR = true ∧ lb.all fitR = true
      · exact refCombine_good kind la lb va vb w ha hb na nb (by omega) (by omega) hk hf.1 hf.2
      · exact refCombine_rect kind la lb va vb w ha hb (by omega) (by omega) hk hf
  · exact refCombine_wrong kind la lb va vb w ha hb hk

end Go.Proofs.Ytofinpocigbbeaa
