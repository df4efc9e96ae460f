import Derived.Test.YtofinpocigbbeaaGreatRefU
namespace Go.Proofs.YtofinpocigbbeaaGreat
open Go.RowKit
attribute [local go_sem ↓] Go.wp_at_zero Go.wp_at_succ

theorem RRaw.tur {w w' : World} {S S' : Nat → Prop} {c : Nat} {W H : Int} {n : Nat} {ord : List Nat} {bv sv ov : Value} {F : Nat → Nat → Value} (h : RRaw w S c W H n ord bv sv ov F) (ht : TurT S' 4 w w') : RRaw w' S c W H n ord bv sv ov F := by
  obtain ⟨h1, h2, ⟨xs, h3, h4⟩, h5, nb, ys, h6, h7, h8⟩ := h
  refine ⟨(ht.other h1 (by decide)).trans h1, h2, ⟨xs, ht.row (by decide) h3, h4⟩, ht.row (by decide) h5, nb, ys, h6, ht.row (by decide) h7, fun k hk => ?_⟩
  obtain ⟨dv, m, e1, e2, e3⟩ := h8 k hk
  exact ⟨dv, m, e1, e2, ht.any e3⟩

theorem RefOk.tur {w w' : World} {S S' : Nat → Prop} {c : Nat} {st : St} (h : RefOk w S c st) (ht : TurT S' 4 w w') : RefOk w' S c st := by
  obtain ⟨bv, sv, ov, F, h1, h2⟩ := h
  exact ⟨bv, sv, ov, F, h1.tur ht, ⟨h2.rel, fun i hi => (h2.pixN i hi).other fun _ _ hc => ht.other hc (by decide), fun i hi => (h2.pixX i hi).other fun _ _ hc => ht.other hc (by decide)⟩⟩

theorem OwnR.tur {w w' : World} {S' : Nat → Prop} {base : Nat} {v : Value} {l : List (Int × Int × Int × Int)} (h : OwnR w base v l) (ht : TurT S' 4 w w') : OwnR w' base v l :=
  ⟨own_keep h.1 fun g hg => by
    obtain ⟨cur, hc⟩ := own_type h.1 hg
    exact ht.other hc (by decide), h.2⟩

def PartsPost (w : World) (e : Ending) (w' : World) : Prop := ∃ v l, e = .returned v ∧ OwnR w' w.heap.size v l ∧ l.length ≤ 12 ∧ Below w.heap.size w w'

set_option maxRecDepth 100000 in
set_option maxHeartbeats 1000000 in
/-- (*Screen).parts: rectangles, whatever they are. -/
theorem parts_any {S : Nat → Prop} {c : Nat} {st : St} (hw : Wf st) (id : Nat) (w : World) (h : RefOk w S c st) :
    Calls Tryz.prog 129 #[.pointer (some ⟨c, 0, none⟩), .int .i64 id] w (PartsPost w) := by
  obtain ⟨i0, hi0, hz0, hz1, hz2⟩ := info_parts rectInfo
  have HR := hide h
  obtain ⟨bv, sv, ov, F, hr, hs⟩ := h
  obtain ⟨k0, k1, k2, k3, k4, kf, kl⟩ := hr.cells
  obtain ⟨oa, ocap, hov⟩ := hr.ovForm
  subst hov
  obtain ⟨m, hm⟩ : ∃ m, st.order.length = m := ⟨_, rfl⟩
  have hm12 := hw.len
  rw [hm] at hm12 k4
  have HH := hide (And.intro hr (And.intro hm hw))
  clear hr hs kf hm
  go_enter Tryz.func129, Tryz.ntmps129
  go_wp2
  go_loopg [5, 6] m (fun gg s5 s6 wr => ∃ (k : Nat) (l : List (Int × Int × Int × Int)), s6 = .int .i64 k ∧ gg + k = m ∧ OwnR wr w.heap.size s5 l ∧ l.length ≤ k ∧ Below w.heap.size w wr)
  case atStart => exact ⟨0, [], rfl, by omega, ⟨World.ownsRow_nil _ _ _ _, fun _ => rfl⟩, by simp, Below.refl _ _⟩
  case round =>
    rename World => wr
    obtain ⟨k, l, rfl, hgk, hown, hlk, hbel⟩ := hrel
    obtain ⟨va, vc, hvf⟩ := row_form hown.1
    obtain ⟨nL, hnL⟩ : ∃ nL, l.length = nL := ⟨_, rfl⟩
    rw [hnL] at hvf hlk
    subst hvf
    have hsz := hbel.size
    have y4 := (hbel.cell (p := ⟨c, 4, none⟩) kl).trans k4
    have HNL := hide hnL
    clear hnL
    cases gk with
    | zero =>
      have hlt : ¬ (k : Int) < (m : Int) := by omega
      have HO := hide (And.intro hown hbel)
      clear hown hbel
      go_wp2
      go_ret
      exact ⟨_, l, rfl, HO.out.1, by have := HNL.out; omega, HO.out.2⟩
    | succ gk =>
      have hlt : (k : Int) < (m : Int) := by omega
      have hkL : k < st.order.length := by have := HH.out.2.1; omega
      obtain ⟨og, oc, eo, _, hoc, ogl, ocs⟩ := HH.out.1.ordAt (by omega)
      rw [HH.out.2.1] at hoc
      injection eo with eo1 eo2 eo3
      subst eo1 eo3
      have co := (hbel.cell (p := ⟨og, k, none⟩) ogl).trans (ocs k hkL)
      obtain ⟨j, hj⟩ : ∃ j, st.order[k] = j := ⟨_, rfl⟩
      have hjl : j < st.sfs.length := by rw [← hj]; exact HH.out.2.2.lt (List.getElem_mem hkL)
      rw [hj] at co
      have HO := hide (And.intro hown (And.intro hbel hjl))
      have hkc : k < ocap := by omega
      obtain ⟨t, ht⟩ : ∃ t, (st.chain j).contains id = t := ⟨_, rfl⟩
      have HOn : Hid (∀ W, Below w.heap.size w W → Calls Tryz.prog 130 #[.pointer (some ⟨c, 0, none⟩), .int .i64 j, .int .i64 id] W fun e w' => e = .returned (.bool t) ∧ w' = W) := fun W hW => by
        rw [← ht]
        exact on_any j id W (HR.out.keep fun g _ hg => hW.block g hg) HH.out.2.2 hjl
      obtain ⟨r, hr⟩ : ∃ r, nrm (st.seen j) = r := ⟨_, rfl⟩
      have HSn : Hid (∀ W, Below w.heap.size w W → Calls Tryz.prog 134 #[.pointer (some ⟨c, 0, none⟩), .int .i64 j] W fun e w' => e = .returned (.agg #[.int .i64 r.1, .int .i64 r.2.1, .int .i64 r.2.2.1, .int .i64 r.2.2.2]) ∧ Below W.heap.size W w') := fun W hW => by
        rw [← hr]
        exact seen_any j W (HR.out.keep fun g _ hg => hW.block g hg) HH.out.2.2 hjl
      clear hown hbel hj hjl ocs eo2 hkL ht hr
      cases t with
      | false =>
        go_wp2_with (go_at_call 130; refine (HOn.out _ HO.out.2.1).mono ?_; rintro e w' ⟨rfl, hw'⟩; replace hw' := hw'.symm; subst hw')
        go_roundg gk
        case measure => omega
        case rel => exact ⟨k + 1, l, by go_num, by omega, HO.out.1, by have := HNL.out; omega, HO.out.2.1⟩
      | true =>
        go_wp2_with (first
          | (go_at_call 130; refine (HOn.out _ HO.out.2.1).mono ?_; rintro e w' ⟨rfl, hw'⟩; replace hw' := hw'.symm; subst hw')
          | (go_at_call 134; refine (HSn.out _ HO.out.2.1).mono ?_; rintro e w5 ⟨rfl, hb5⟩; have H5 := hide hb5; have hs5 := hb5.size; clear hb5)
          | (at_builtin; refine wpList_append_row (P := Tryz.prog) rfl (.tmp 28) (.tmp 38) 33 rfl w.heap.size 53 i0 _ 4 32 Tryz.underlying33 hi0 hz0 hz1 hz2 rfl (by decide) (.slice va nL vc) nL (rectCells l) rfl ?_ (.slice (some ⟨w5.heap.size, 0, none⟩) 1 1) 1 [.int .i64 r.1, .int .i64 r.2.1, .int .i64 r.2.2.1, .int .i64 r.2.2.2] rfl rfl (.inr ⟨_, _, rfl, World.news_of_block (cs := #[.int .i64 r.1, .int .i64 r.2.1, .int .i64 r.2.2.1, .int .i64 r.2.2.2]) (t := 53) (fr := (0, 0)) (heap_alloc_new w5 _)⟩) (by simp [Value.oneCell']) (by unfold maxLen; omega) (by omega) (by simp; omega) ?_; exact (by have h9 := own_keep HO.out.1.1 (fun g hg => H5.out.block g (HO.out.1.1.lt g hg).2); rw [HNL.out] at h9; exact h9.alloc _); intro v6 w6 ho6 hg6 hn6 ha6; have HB6 := hide (((HO.out.2.1.trans (H5.out.mono hsz)).alloc (by omega) _).grown hg6 (by simp; omega) (fun k hk => (HO.out.1.1.lt k hk).1)); have HO6 := hide (And.intro ho6 hn6); clear ho6 hg6 hn6 ha6))
        go_roundg gk
        case measure => omega
        case rel =>
          refine ⟨k + 1, l ++ [r], by go_num, by omega, ⟨?_, fun h => by simp at h⟩, by rw [List.length_append, HNL.out]; simp; omega, HB6.out⟩
          have h9 := HO6.out.1
          rw [List.length_append, HNL.out, rectCells_append]
          exact h9

theorem dirty_at {W H x y : Nat} (hx : x < W) (hy : y < H) : y * W + x < W * H := by
  have h1 : (y + 1) * W ≤ H * W := Nat.mul_le_mul_right W hy
  rw [Nat.add_mul, Nat.one_mul, Nat.mul_comm H W] at h1
  omega

/-- A buffer's marks. -/
theorem RRaw.dirty {w : World} {S : Nat → Prop} {c : Nat} {W H : Int} {n : Nat} {ord : List Nat} {bv sv ov : Value} {F : Nat → Nat → Value} (h : RRaw w S c W H n ord bv sv ov F) (hpos : 0 < W * H) : ∃ ba nb bcap, bv = .slice ba nb bcap ∧ nb ≤ 3 ∧ ∀ k, k < nb → ∃ bg dg dcap m, ba = some ⟨bg, 0, none⟩ ∧ nb ≤ bcap ∧ w.cell? ⟨bg, k * 3 + 2, none⟩ = some (.slice (some ⟨dg, 0, none⟩) m dcap) ∧ (m : Int) = W * H ∧ m ≤ dcap ∧ S dg ∧ (∀ j, j < m → ∃ u, w.cell? ⟨dg, j, none⟩ = some u) ∧ (∀ j, w.frozen? ⟨dg, j, none⟩ = false) ∧ (∃ cur : Array Value, w.heap[dg]? = some (.cells cur 4 (0, 0))) ∧ bg ≠ dg ∧ c ≠ dg := by
  obtain ⟨nb, xs, h1, h2, h3⟩ := h.buf
  obtain ⟨ba, bcap, e⟩ := h2.form
  refine ⟨ba, nb, bcap, e, h1, fun k hk => ?_⟩
  obtain ⟨bg, bc, q1, q2, q3, q4, q5, q6⟩ := h2.open (by omega)
  rw [e] at q1
  injection q1 with q11 q12 q13
  obtain ⟨dv, m, d1, d2, ys, d3⟩ := h3 k hk
  obtain ⟨dg, dcap, p1, p2, p3, p4, p5, p6⟩ := d3.open (by omega)
  refine ⟨bg, dg, dcap, m, q11, by omega, by rw [q5 _ _ d1, p1], d2, p3, p2, fun j hj => ?_, p6, d3.type (by rw [p1]; rfl), fun e9 => ?_, fun e9 => ?_⟩
  · have hl := d3.len
    exact ⟨ys[j]'(by omega), p5 j _ (List.getElem?_eq_getElem (by omega))⟩
  · obtain ⟨c1, t1⟩ := h2.type (g := bg) (by rw [e, q11]; rfl)
    obtain ⟨c2, t2⟩ := d3.type (g := dg) (by rw [p1]; rfl)
    rw [e9, t2] at t1
    injection t1 with t1
    injection t1 with _ t1
    exact absurd t1 (by decide)
  · obtain ⟨c2, t2⟩ := d3.type (g := dg) (by rw [p1]; rfl)
    have t1 := h.scr
    rw [e9, t2] at t1
    injection t1 with t1
    injection t1 with _ t1
    exact absurd t1 (by decide)

set_option maxRecDepth 100000 in
set_option maxHeartbeats 1000000 in
/-- (*Screen).hurt: some marks are set. -/
theorem hurt_any {S : Nat → Prop} {c : Nat} {st : St} (hw : Wf st) (l : List (Int × Int × Int × Int)) (v : Value) (base : Nat) (w : World) (h : RefOk w S c st) (hl : OwnR w base v l) (hl2 : l.length ≤ 100) :
    Calls Tryz.prog 128 #[.pointer (some ⟨c, 0, none⟩), v] w fun e w' => e = .returned (.tuple #[]) ∧ TurT S 4 w w' := by
  obtain ⟨bv, sv, ov, F, hr, hs⟩ := h
  obtain ⟨Wn, hWn⟩ : ∃ n : Nat, st.w = n := ⟨st.w.toNat, by have := hw.ww; omega⟩
  obtain ⟨Hn, hHn⟩ : ∃ n : Nat, st.h = n := ⟨st.h.toNat, by have := hw.hh; omega⟩
  have hww := hw.ww
  have hhh := hw.hh
  rw [hWn] at hww
  rw [hHn] at hhh
  have hpos : (0 : Int) < (Wn : Int) * (Hn : Int) := Int.mul_pos (by omega) (by omega)
  rw [hWn, hHn] at hr
  have HR := hide hr
  have HL := hide hl
  obtain ⟨la, lc, hv⟩ := row_form hl.1
  obtain ⟨nl, hnl⟩ : ∃ n, l.length = n := ⟨_, rfl⟩
  rw [hnl] at hv hl2
  have HV := hide hv
  subst hv
  have HHas : Hid (∀ (W : World) (x y : Int), TurT S 4 w W → Calls Tryz.prog 122 #[.slice la nl lc, .int .i64 x, .int .i64 y] W fun e w' => e = .returned (.bool (hasB l x y)) ∧ w' = W) := fun W x y hW => refHas_any l _ x y W (hl.tur hW).rects (by rw [hnl]; unfold maxLen; omega)
  clear hr hs hl hWn hHn hw
  go_enter Tryz.func128, Tryz.ntmps128
  go_wp2
  go_loopg [4] Hn (fun gg s4 wr => ∃ y : Nat, s4 = .int .i64 y ∧ gg + y = Hn ∧ TurT S 4 w wr)
  case atStart => exact ⟨0, rfl, by omega, TurT.refl _ _ _⟩
  case round =>
    rename World => wo
    rename Nat => gO
    obtain ⟨y, rfl, hgy, hT⟩ := hrel
    obtain ⟨k0, k1, k2, k3, k4, kf, kl⟩ := (HR.out.tur hT).cells
    have HTo := hide hT
    clear hT k3 k4 kf
    cases gO with
    | zero =>
      have hlt : ¬ (y : Int) < (Hn : Int) := by omega
      go_wp2
      exact bodyPost_end (v := .tuple #[]) (by simp [results, Tryz.results128]) rfl ⟨rfl, HTo.out⟩
    | succ gO =>
      have hlt : (y : Int) < (Hn : Int) := by omega
      go_wp2
      go_loopg [5] Wn (fun gg s5 wr => ∃ x : Nat, s5 = .int .i64 x ∧ gg + x = Wn ∧ TurT S 4 w wr)
      case atStart => exact ⟨0, rfl, by omega, HTo.out⟩
      case round =>
        rename World => wm
        rename Nat => gM
        obtain ⟨x, rfl, hgx, hT⟩ := hrel
        clear k0 k1 k2
        obtain ⟨k0, k1, k2, k3, k4, kf, kl2⟩ := (HR.out.tur hT).cells
        have HTm := hide hT
        clear hT k3 k4 kf
        cases gM with
        | zero =>
          have hltx : ¬ (x : Int) < (Wn : Int) := by omega
          go_wp2
          go_roundg gO
          case measure => omega
          case rel => exact ⟨y + 1, by go_num, by omega, HTm.out⟩
        | succ gM =>
          have hltx : (x : Int) < (Wn : Int) := by omega
          obtain ⟨t, ht⟩ : ∃ t, hasB l x y = t := ⟨_, rfl⟩
          have HC := hide (HHas.out wm x y HTm.out)
          rw [ht] at HC
          cases t with
          | false =>
            go_wp2_with (go_at_call 122; refine HC.out.mono ?_; rintro e w' ⟨rfl, hw'⟩; replace hw' := hw'.symm; subst hw')
            go_roundg gM
            case measure => omega
            case rel => exact ⟨x + 1, by go_num, by omega, HTm.out⟩
          | true =>
            go_wp2_with (go_at_call 122; refine HC.out.mono ?_; rintro e w' ⟨rfl, hw'⟩; replace hw' := hw'.symm; subst hw')
            obtain ⟨ba, nb, bcap, hbv, hnb, _⟩ := HR.out.dirty hpos
            go_loopg [7] nb (fun gg s7 wr => ∃ i : Nat, s7 = .int .i64 i ∧ gg + i = nb ∧ TurT S 4 w wr)
            case atStart => exact ⟨0, rfl, by omega, HTm.out⟩
            case round =>
              rename World => wi
              obtain ⟨i, rfl, hgi, hT⟩ := hrel
              clear k0 k1 k2
              obtain ⟨k0, k1, k2, k3, k4, kf, kl3⟩ := (HR.out.tur hT).cells
              rw [hbv] at k2
              have HTi := hide hT
              clear hT k3 k4 kf
              cases gk with
              | zero =>
                have hlti : ¬ (i : Int) < (nb : Int) := by omega
                go_wp2
                go_roundg gM
                case measure => omega
                case rel => exact ⟨x + 1, by go_num, by omega, HTi.out⟩
              | succ gi =>
                have hlti : (i : Int) < (nb : Int) := by omega
                obtain ⟨ba2, nb2, bcap2, hbv2, _, hd⟩ := (HR.out.tur HTi.out).dirty hpos
                rw [hbv] at hbv2
                injection hbv2 with b1 b2 b3
                subst b1 b2 b3
                obtain ⟨bg, dg, dcap, m, rfl, hnbc, cd, hm, hmd, hSd, hcell, hfree, ⟨cur, hcur⟩, hbd, hcd⟩ := hd i (by omega)
                obtain ⟨q, hq⟩ : ∃ q, y * Wn + x = q := ⟨_, rfl⟩
                have hqm : q < m := by
                  have h1 := dirty_at (show x < Wn by omega) (show y < Hn by omega)
                  have h2 : m = Wn * Hn := by omega
                  omega
                have hq1 : (y : Int) * (Wn : Int) + (x : Int) = (q : Int) := by omega
                have hyW : (y : Int) * (Wn : Int) ≤ 600 ∧ 0 ≤ (y : Int) * (Wn : Int) := by
                  have h2 : m = Wn * Hn := by omega
                  have h3 : (m : Int) ≤ 24 * 24 := by
                    rw [hm]
                    exact Int.mul_le_mul (by omega) (by omega) (by omega) (by omega)
                  omega
                obtain ⟨yw, hyw⟩ : ∃ z : Int, (y : Int) * (Wn : Int) = z := ⟨_, rfl⟩
                have w1 : IntKind.i64.wrap ((y : Int) * (Wn : Int)) = yw := by rw [IntKind.wrap_i64]; omega
                have w2 : IntKind.i64.wrap (IntKind.i64.wrap ((y : Int) * (Wn : Int)) + (x : Int)) = (q : Int) := by rw [w1, IntKind.wrap_i64]; omega
                clear w1 hyw hyW hq1 hq hm
                obtain ⟨u, hu⟩ := hcell q hqm
                have hfq := hfree q
                have hic : (i : Int) < (bcap : Int) := by omega
                have hi0 : (0 : Int) ≤ (i : Int) := by omega
                have hq0 : (0 : Int) ≤ (q : Int) := by omega
                have hqmI : (q : Int) < (m : Int) := by omega
                have hqd : q < dcap := by omega
                have HCur := hide hcur
                have HSd := hide hSd
                clear hcell hfree hcur hd
                have hbd2 := hbd.symm
                have hcd2 := hcd.symm
                go_upto_region 11 with fail
                go_region
                all_goals
                  go_wp2
                  go_roundg gi
                  case measure => omega
                  case rel => exact ⟨i + 1, by go_num, by omega, (HTi.out.trans (TurT.set HCur.out HSd.out q _)).drew⟩

end Go.Proofs.YtofinpocigbbeaaGreat
