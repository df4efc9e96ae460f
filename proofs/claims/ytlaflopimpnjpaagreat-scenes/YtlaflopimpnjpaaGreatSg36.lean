import Derived.Test.YtlaflopimpnjpaaGreatSg31
import Derived.Test.YtlaflopimpnjpaaGreatSg35
import Derived.Laws.StructEq
import Derived.BigQuiet
import Derived.Test.YtlaflopimpnjpaaGreatSg21
/-! RetP -/
namespace Go.Proofs.YtlaflopimpnjpaaGreat
open Go.RowKit
attribute [local go_sem ↓] Go.wp_at_zero Go.wp_at_succ

/-- A row whose first block may lie anywhere. -/
theorem own_zero {w : World} {base : Nat} {e : TypeId} {size n : Nat} {v : Value} {xs : List Value} (h : w.ownsRow base e size v n xs) : RowS w (fun _ => True) e size v n xs :=
  ⟨⟨h.1, h.2.imp (fun h => h) fun ⟨g, c, cur, e1, _, e3⟩ => ⟨g, c, cur, e1, Nat.zero_le _, e3⟩⟩, fun _ _ => trivial⟩

set_option maxRecDepth 100000 in
set_option maxHeartbeats 1000000 in
theorem returnedP_any (l : List R4) (u v : Value) (base : Nat) (w : World) (hv : PixAt w v l) (hu : LentP w base v l u) (hr : l.length * 4 ≤ 140737488351232) :
    Calls Tryz.prog 67 #[u, v] w fun e w' => e = .returned (.bool true) ∧ w.grownBy w' u.ownBlock := by
  rcases hu with ⟨rfl, rfl, rfl⟩ | ⟨⟨ad, c, rfl⟩, g, cap, rfl, hown⟩
  · clear hv hr
    have hq := eqP_nil_nil
    go_enter Tryz.func67, Tryz.ntmps67
    go_wp2
    go_ret
    exact ⟨rfl, rfl, rfl, rfl, Nat.le_refl _, fun _ _ _ => rfl⟩
  · have hq := eqP_some_nil
    have hq2 := fun (a b c d : Int) => eqPix a b c d a b c d
    have hcap := own_cap hown
    have hgl := (hown.lt g rfl).2
    obtain ⟨n, hn⟩ : ∃ n, l.length = n := ⟨_, rfl⟩
    have HKeep : Hid (∀ w6, Below w.heap.size w w6 → PixAt w6 (.slice (some ad) n c) l ∧ w6.ownsRow base 55 4 (.slice (some ⟨g, 0, none⟩) (n + 2) cap) (n + 2) (pixCells (l ++ [mkP 5, mkP 6])) ∧ w.grownBy w6 (some g)) := fun w6 hb => by
      rw [hn] at hv hown
      exact ⟨hv.below hb, own_keep hown fun b hb2 => hb.block b (hown.lt b hb2).2, hb.os, hb.tape, hb.output, hb.size, fun k hk _ => hb.block k hk⟩
    have HCl : Hid (∀ w6, Below w.heap.size w w6 → w6.cell? ⟨g, n * 4, none⟩ = some (.int .u8 5) ∧ w6.cell? ⟨g, n * 4 + 1, none⟩ = some (.int .u8 0) ∧ w6.cell? ⟨g, n * 4 + 2, none⟩ = some (.int .u8 0) ∧ w6.cell? ⟨g, n * 4 + 3, none⟩ = some (.int .u8 77) ∧ w6.cell? ⟨g, (n + 1) * 4, none⟩ = some (.int .u8 6) ∧ w6.cell? ⟨g, (n + 1) * 4 + 1, none⟩ = some (.int .u8 0) ∧ w6.cell? ⟨g, (n + 1) * 4 + 2, none⟩ = some (.int .u8 0) ∧ w6.cell? ⟨g, (n + 1) * 4 + 3, none⟩ = some (.int .u8 77)) := fun w6 hb => by
      obtain ⟨_, h2, _⟩ := HKeep.out w6 hb
      obtain ⟨g', c', e', _, _, _, q, _⟩ := (own_zero h2).open (by omega)
      injection e' with e1 e2 e3
      injection e1 with e1
      injection e1 with e1
      subst e1
      have h5 : ∀ h : n < (l ++ [mkP 5, mkP 6]).length, (l ++ [mkP 5, mkP 6])[n] = mkP 5 := fun h => by
        rw [List.getElem_append_right (by omega)]
        simp [hn]
      have h6 : ∀ h : n + 1 < (l ++ [mkP 5, mkP 6]).length, (l ++ [mkP 5, mkP 6])[n + 1] = mkP 6 := fun h => by
        rw [List.getElem_append_right (by omega)]
        simp [hn]
      have hl5 : n < (l ++ [mkP 5, mkP 6]).length := by simp; omega
      have hl6 : n + 1 < (l ++ [mkP 5, mkP 6]).length := by simp; omega
      obtain ⟨a1, a2, a3, a4⟩ := pixCells_at _ n hl5
      obtain ⟨b1, b2, b3, b4⟩ := pixCells_at _ (n + 1) hl6
      rw [h5] at a1 a2 a3 a4
      rw [h6] at b1 b2 b3 b4
      exact ⟨q _ _ a1, q _ _ a2, q _ _ a3, q _ _ a4, q _ _ b1, q _ _ b2, q _ _ b3, q _ _ b4⟩
    rw [hn] at hr hcap
    rw [hn]
    have HN := hide hn
    clear hv hown hn
    have hc2 : (n : Int) + 2 ≤ (cap : Int) := by omega
    have t0 : (0 : Int) ≤ (n : Int) := by omega
    have t1 : (n : Int) < (n : Int) + 2 := by omega
    have t2 : (0 : Int) ≤ (n : Int) + 1 := by omega
    have t3 : (n : Int) + 1 < (n : Int) + 2 := by omega
    have t4 : IntKind.i64.wrap ((n : Int) + 1) = (n : Int) + 1 := by rw [IntKind.wrap_i64]; omega
    have t5 : IntKind.i64.wrap ((n : Int) + 2) = (n : Int) + 2 := by rw [IntKind.wrap_i64]; omega
    have t6 : ((n : Int) + 1).toNat = n + 1 := by omega
    have t7 : ((n : Int) + 2).toNat = n + 2 := by omega
    obtain ⟨k0, k1, k2, k3, k4, k5, k6, k7⟩ := HCl.out w (Below.refl _ _)
    go_enter Tryz.func67, Tryz.ntmps67
    go_wp2_with fail
    go_region_held3 (fun w' => w'.cell? ⟨g, n * 4, none⟩ = some (.int .u8 5) ∧ w'.cell? ⟨g, n * 4 + 1, none⟩ = some (.int .u8 0) ∧ w'.cell? ⟨g, n * 4 + 2, none⟩ = some (.int .u8 0) ∧ w'.cell? ⟨g, n * 4 + 3, none⟩ = some (.int .u8 77) ∧ w'.cell? ⟨g, (n + 1) * 4, none⟩ = some (.int .u8 6) ∧ w'.cell? ⟨g, (n + 1) * 4 + 1, none⟩ = some (.int .u8 0) ∧ w'.cell? ⟨g, (n + 1) * 4 + 2, none⟩ = some (.int .u8 0) ∧ w'.cell? ⟨g, (n + 1) * 4 + 3, none⟩ = some (.int .u8 77))
      (first
        | exact HCl.out _ (Below.refl _ _)
        | exact HCl.out _ H6.out
        | exact HCl.out _ H5.out
        | exact HCl.out _ (Below.refl _ _).drew
        | fail)
      (first
        | (go_at_call 12; refine (mark6 w5).mono ?_; rintro e6 w6 ⟨rfl, hb6⟩; have H6 := hide (H5.out.trans (hb6.mono H5.out.size)); clear hb6)
        | (go_at_call 12; refine (mark5 _).mono ?_; rintro e5 w5 ⟨rfl, hb5⟩; have H5 := hide ((Below.refl w.heap.size w).drew.trans hb5); clear hb5)
        | fail)
    have hg6 : g < w6.heap.size := Nat.lt_of_lt_of_le hgl H6.out.size
    have HP := hide (HKeep.out w6 H6.out)
    clear k0 k1 k2 k3 k4 k5 k6 k7 HCl HKeep H5
    go_wp2
    go_loopg [6, 7] n (fun gg s6 s7 wr => s6 = .bool true ∧ ∃ i : Nat, s7 = .int .i64 i ∧ gg + i = n ∧ ∃ nq, wr = w6.drewN nq)
    case atStart => exact ⟨rfl, 0, rfl, by omega, 0, rfl⟩
    case round =>
      obtain ⟨rfl, i, rfl, hgi, n0, rfl⟩ := hrel
      cases gk with
      | zero =>
        have hlt : ¬ (i : Int) < (n : Int) := by omega
        go_wp2
        go_loopg [8] (n + 2) (fun gg s8 wr => ∃ i : Nat, s8 = .int .i64 i ∧ gg + i = n + 2 ∧ ∃ X, wr.ownsRow base 55 4 (.slice (some ⟨g, 0, none⟩) (n + 2) cap) (n + 2) X ∧ w.grownBy wr (some g))
        case atStart => exact ⟨0, rfl, by omega, _, HP.out.2.1, HP.out.2.2.os, HP.out.2.2.tape, HP.out.2.2.output, HP.out.2.2.size, HP.out.2.2.block⟩
        case round =>
          rename World => wr
          obtain ⟨i, rfl, hgi, X, hown, hgr⟩ := hrel
          cases gk with
          | zero =>
            have hlt : ¬ (i : Int) < (n : Int) + 2 := by omega
            have HG := hide hgr
            clear hgr hown
            go_wp2
            go_ret
            exact ⟨rfl, HG.out⟩
          | succ g2 =>
            have hlt : (i : Int) < (n : Int) + 2 := by omega
            have hgw := (hown.lt g rfl).2
            have hXl := hown.1
            obtain ⟨g', c', e', _, _, _, q, _⟩ := (own_zero hown).open (by omega)
            injection e' with e1 e2 e3
            injection e1 with e1
            injection e1 with e1
            subst e1
            obtain ⟨x0, y0⟩ : ∃ x, wr.cell? ⟨g, i * 4, none⟩ = some x := ⟨_, q _ _ (List.getElem?_eq_getElem (show i * 4 < X.length by omega))⟩
            obtain ⟨x1, y1⟩ : ∃ x, wr.cell? ⟨g, i * 4 + 1, none⟩ = some x := ⟨_, q _ _ (List.getElem?_eq_getElem (show i * 4 + 1 < X.length by omega))⟩
            obtain ⟨x2, y2⟩ : ∃ x, wr.cell? ⟨g, i * 4 + 2, none⟩ = some x := ⟨_, q _ _ (List.getElem?_eq_getElem (show i * 4 + 2 < X.length by omega))⟩
            obtain ⟨x3, y3⟩ : ∃ x, wr.cell? ⟨g, i * 4 + 3, none⟩ = some x := ⟨_, q _ _ (List.getElem?_eq_getElem (show i * 4 + 3 < X.length by omega))⟩
            have z0 := own_free hown (i * 4)
            have z1 := own_free hown (i * 4 + 1)
            have z2 := own_free hown (i * 4 + 2)
            have z3 := own_free hown (i * 4 + 3)
            have HK := hide (And.intro hown hgr)
            clear hown hgr q hXl e2 e3
            go_wp2
            go_roundg g2
            case measure => omega
            case rel =>
              refine ⟨i + 1, by go_num, by omega, _, own_set (own_set (own_set (own_set HK.out.1 _) _) _) _, ?_⟩
              have hg := HK.out.2
              refine ⟨hg.os, hg.tape, hg.output, ?_, fun k hk hne => ?_⟩
              · have := hg.size
                simp
                omega
              · have hkg : k ≠ g := fun e => hne (by rw [e])
                rw [heap_setCell_other _ ⟨g, i * 4 + 3, none⟩ k _ hkg, heap_setCell_other _ ⟨g, i * 4 + 2, none⟩ k _ hkg, heap_setCell_other _ ⟨g, i * 4 + 1, none⟩ k _ hkg, heap_setCell_other _ ⟨g, i * 4, none⟩ k _ hkg]
                exact hg.block k hk hne
      | succ g2 =>
        have hlt : (i : Int) < (n : Int) := by omega
        have hlt2 : (i : Int) < (n : Int) + 2 := by omega
        have hil : i < l.length := by rw [HN.out]; omega
        have hil2 : i < (l ++ [mkP 5, mkP 6]).length := by simp; omega
        obtain ⟨g', c', e', _, _, _, q, _⟩ := (own_zero HP.out.2.1).open (by omega)
        injection e' with e1 e2 e3
        injection e1 with e1
        injection e1 with e1
        subst e1
        clear e2 e3
        obtain ⟨a1, a2, a3, a4⟩ := pixCells_at _ i hil2
        rw [List.getElem_append_left hil] at a1 a2 a3 a4
        replace a1 := q _ _ a1
        replace a2 := q _ _ a2
        replace a3 := q _ _ a3
        replace a4 := q _ _ a4
        obtain ⟨va, vc, hvf, hvc⟩ := HP.out.1
        obtain ⟨_, b, off, hva, hcs⟩ := hvc (by omega)
        obtain ⟨b1, b2, b3, b4⟩ := hcs i hil
        subst hva
        injection hvf with f1 f2 f3
        injection f1 with f1
        subst f1
        clear f2 f3 hcs hvc q
        obtain ⟨⟨p0, p1, p2, p3⟩, hp⟩ : ∃ r, l[i] = r := ⟨_, rfl⟩
        rw [hp] at a1 a2 a3 a4 b1 b2 b3 b4
        simp only at a1 a2 a3 a4 b1 b2 b3 b4
        clear hp
        go_wp2
        go_quiet (fail)
        go_wp2
        go_roundg g2
        case measure => omega
        case rel => exact ⟨rfl, i + 1, by go_num, by omega, _, rfl⟩

end Go.Proofs.YtlaflopimpnjpaaGreat

/-! SamV -/
namespace Go.Proofs.YtlaflopimpnjpaaGreat
open Go.RowKit
attribute [local go_sem ↓] Go.wp_at_zero Go.wp_at_succ

set_option maxRecDepth 100000 in
set_option maxHeartbeats 1000000 in
theorem eqView (a0 a1 a2 a3 a4 a5 a6 a7 a8 : Int) (w : World) : (Op.equalIn 10000 63 (.agg #[.int .i64 a0, .int .i64 a1, .int .i64 a2, .int .i64 a3, .int .i64 a4, .int .i64 a5, .int .i64 a6, .int .i64 a7, .int .i64 a8]) (.agg #[.int .i64 a0, .int .i64 a1, .int .i64 a2, .int .i64 a3, .int .i64 a4, .int .i64 a5, .int .i64 a6, .int .i64 a7, .int .i64 a8])).run Tryz.prog w = .ok true w := by
  have u3 := Tryz.underlying3
  rw [show (10000 : Nat) = 9999 + 1 from rfl, run_equalIn_struct w 9999 63 _ _ (by kernel_rfl) (by kernel_rfl)]
  go_simp

theorem flat9 (st : St) (L : List Nat) : ∀ (i j : Nat) (hi : i < L.length), j < 9 → (L.flatMap (vCells st))[i * 9 + j]? = (vCells st L[i])[j]? := by
  induction L with
  | nil => intro i j hi; simp at hi
  | cons x L ih =>
    intro i j hi hj
    rw [List.flatMap_cons]
    have hx : (vCells st x).length = 9 := rfl
    cases i with
    | zero =>
      rw [List.getElem?_append_left (by omega), show 0 * 9 + j = j by omega]
      rfl
    | succ i =>
      rw [List.getElem?_append_right (by omega), hx, show (i + 1) * 9 + j - 9 = i * 9 + j by omega, ih i j (by simpa using hi) hj]
      rfl

set_option maxRecDepth 100000 in
set_option maxHeartbeats 1000000 in
theorem sameV_any (st : St) (L : List Nat) (u v : Value) (b1 b2 : Nat) (w : World) (hu : OwnV w b1 u st L) (hv : OwnV w b2 v st L) (hl : L.length ≤ 9000000) :
    Calls Tryz.prog 29 #[u, v] w fun e w' => e = .returned (.bool true) ∧ ∃ nq, w' = w.drewN nq := by
  have HU := hide (And.intro hu hv)
  obtain ⟨ua, uc, rfl⟩ := row_form hu
  obtain ⟨va, vc, rfl⟩ := row_form hv
  obtain ⟨n, hn⟩ : ∃ n, L.length = n := ⟨_, rfl⟩
  rw [hn] at hl HU
  rw [hn]
  have HN := hide hn
  clear hu hv hn
  have hq := eqView
  go_enter Tryz.func29, Tryz.ntmps29
  go_wp2
  go_loopg [5] n (fun g s5 wr => ∃ i : Nat, s5 = .int .i64 i ∧ g + i = n ∧ ∃ nq, wr = w.drewN nq)
  case atStart => exact ⟨0, rfl, by omega, 0, rfl⟩
  case round =>
    obtain ⟨i, rfl, hgi, n0, rfl⟩ := hrel
    cases gk with
    | zero =>
      have hlt : ¬ (i : Int) < (n : Int) := by omega
      go_wp2
      go_ret
      exact ⟨rfl, n0, rfl⟩
    | succ g =>
      have hlt : (i : Int) < (n : Int) := by omega
      have hin : i < n := by omega
      have hil : i < L.length := by rw [HN.out]; exact hin
      obtain ⟨h1, h2⟩ := HU.out
      unfold OwnV at h1 h2
      rw [HN.out] at h1 h2
      obtain ⟨g1, c1, e1, _, _, _, q, _⟩ := RowS.open (S := fun _ => True) ⟨(by exact ⟨h1.1, h1.2.imp (fun h => h) fun ⟨g, c, cur, e1, _, e3⟩ => ⟨g, c, cur, e1, Nat.zero_le _, e3⟩⟩), fun _ _ => trivial⟩ (by omega)
      obtain ⟨g2, c2, e2, _, _, _, r, _⟩ := RowS.open (S := fun _ => True) ⟨(by exact ⟨h2.1, h2.2.imp (fun h => h) fun ⟨g, c, cur, e1, _, e3⟩ => ⟨g, c, cur, e1, Nat.zero_le _, e3⟩⟩), fun _ _ => trivial⟩ (by omega)
      injection e1 with e11 e12 e13
      injection e2 with e21 e22 e23
      clear e12 e22
      subst e11 e13 e21 e23
      have hf := fun j hj => flat9 st L i j hil hj
      have q0 := q _ _ ((hf 0 (by omega)).trans rfl)
      have q1 := q _ _ ((hf 1 (by omega)).trans rfl)
      have q2 := q _ _ ((hf 2 (by omega)).trans rfl)
      have q3 := q _ _ ((hf 3 (by omega)).trans rfl)
      have q4 := q _ _ ((hf 4 (by omega)).trans rfl)
      have q5 := q _ _ ((hf 5 (by omega)).trans rfl)
      have q6 := q _ _ ((hf 6 (by omega)).trans rfl)
      have q7 := q _ _ ((hf 7 (by omega)).trans rfl)
      have q8 := q _ _ ((hf 8 (by omega)).trans rfl)
      have r0 := r _ _ ((hf 0 (by omega)).trans rfl)
      have r1 := r _ _ ((hf 1 (by omega)).trans rfl)
      have r2 := r _ _ ((hf 2 (by omega)).trans rfl)
      have r3 := r _ _ ((hf 3 (by omega)).trans rfl)
      have r4 := r _ _ ((hf 4 (by omega)).trans rfl)
      have r5 := r _ _ ((hf 5 (by omega)).trans rfl)
      have r6 := r _ _ ((hf 6 (by omega)).trans rfl)
      have r7 := r _ _ ((hf 7 (by omega)).trans rfl)
      have r8 := r _ _ ((hf 8 (by omega)).trans rfl)
      generalize L[i] = x at q0 q1 q2 q3 q4 q5 q6 q7 q8 r0 r1 r2 r3 r4 r5 r6 r7 r8
      generalize (st.seen x) = z at q5 q6 q7 q8 r5 r6 r7 r8
      generalize (st.px x) = z1 at q1 r1
      generalize (st.py x) = z2 at q2 r2
      generalize (st.sf x).now.w = z3 at q3 r3
      generalize (st.sf x).now.h = z4 at q4 r4
      obtain ⟨y0, y1, y2, y3⟩ := z
      simp only [Nat.add_zero] at q0 q1 q2 q3 q4 q5 q6 q7 q8 r0 r1 r2 r3 r4 r5 r6 r7 r8
      clear hf q r h1 h2
      go_wp2
      go_quiet (fail)
      go_wp2
      go_roundg g
      case measure => omega
      case rel => exact ⟨i + 1, by go_num, by omega, _, rfl⟩

end Go.Proofs.YtlaflopimpnjpaaGreat

/-! Pck -/
namespace Go.Proofs.YtlaflopimpnjpaaGreat
open Go.RowKit
attribute [local go_sem ↓] Go.wp_at_zero Go.wp_at_succ

set_option maxRecDepth 100000 in
set_option maxHeartbeats 400000 in
/-- pick -/
theorem pick_any (s : Int) (n : Nat) (hn : 0 < n) (hn2 : n ≤ 1152921504606846976) (hs : -9223372036854775808 ≤ s ∧ s ≤ 9223372036854775807) (w : World) :
    Calls Tryz.prog 11 #[.int .i64 s, .int .i64 n] w fun e w' => (∃ r : Nat, r < n ∧ e = .returned (.int .i64 r)) ∧ w' = w := by
  have hn0 : ¬ (n : Int) = 0 := by omega
  by_cases h : s < 0
  · obtain ⟨S, hS⟩ : ∃ S : Nat, -(s + 1) = (S : Int) := ⟨(-(s + 1)).toNat, by omega⟩
    have e1 : IntKind.i64.wrap (s + 1) = s + 1 := by rw [IntKind.wrap_i64]; omega
    have e2 : IntKind.i64.wrap (-(s + 1)) = (S : Int) := by rw [IntKind.wrap_i64]; omega
    have e4 : (S : Int).tmod (n : Int) = (S : Int) % (n : Int) := Int.tmod_eq_emod_of_nonneg (by omega)
    have e5 : IntKind.i64.wrap ((S : Int) % (n : Int)) = (S : Int) % (n : Int) := by
      have h1 := Int.emod_nonneg (S : Int) hn0
      have h2 := Int.emod_lt_of_pos (S : Int) (show (0 : Int) < n by omega)
      rw [IntKind.wrap_i64]; omega
    go_enter Tryz.func11, Tryz.ntmps11
    go_wp2
    go_ret
    exact ⟨⟨S % n, Nat.mod_lt _ hn, by simp⟩, rfl⟩
  · obtain ⟨S, hS⟩ : ∃ S : Nat, s = (S : Int) := ⟨s.toNat, by omega⟩
    subst hS
    have e4 : (S : Int).tmod (n : Int) = (S : Int) % (n : Int) := Int.tmod_eq_emod_of_nonneg (by omega)
    go_enter Tryz.func11, Tryz.ntmps11
    go_wp2
    go_ret
    exact ⟨⟨S % n, Nat.mod_lt _ hn, by simp⟩, rfl⟩

end Go.Proofs.YtlaflopimpnjpaaGreat
