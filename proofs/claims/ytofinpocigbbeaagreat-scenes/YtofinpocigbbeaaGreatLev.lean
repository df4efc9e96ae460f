import Derived.Test.YtofinpocigbbeaaGreatMem
import Derived.RegionTactic
import Derived.BigRegion
import Derived.BigQuiet
import Derived.Deep.QuietTactic
namespace Go.Proofs.YtofinpocigbbeaaGreat
open Go.RowKit

theorem ret_int {k : IntKind} {a b : Int} (h : a = b) : Ending.returned (.int k a) = .returned (.int k b) := by rw [h]
theorem ret_b {a b : Bool} (h : a = b) : Ending.returned (.bool a) = .returned (.bool b) := by rw [h]

set_option maxHeartbeats 400000 in
theorem edge_any (L : List (Int × Int)) (v : Value) (k : Nat) (w : World) (h : SpansAt w v L) (hl : L.length ≤ 10000) (hk : k ≤ 2 * L.length) :
    Calls Tryz.prog 153 #[v, .int .i64 k] w fun e w' => e = .returned (.int .i64 (nth (edges L) k)) ∧ w' = w := by
  rcases h with ⟨rfl, rfl⟩ | ⟨b, c, cur, rfl, hne, hb, hc⟩
  · have hk0 : k = 0 := by simpa using hk
    subst hk0
    go_enter Tryz.func153, Tryz.ntmps153
    go_wp2
    go_ret
    exact ⟨rfl, rfl⟩
  · generalize hn : L.length = n at *
    by_cases e : k = 2 * n
    · have e1 : nth (edges L) k = big := nth_ge _ _ (by rw [edges_len]; omega)
      have E : Hid (nth (edges L) k = big) := e1
      subst e
      clear e1 hc hb hk hn
      go_enter Tryz.func153, Tryz.ntmps153
      go_wp2
      go_ret
      exact ⟨ret_int E.out.symm, rfl⟩
    · have hcell : w.cell? ⟨b, k, none⟩ = some (.int .i64 (nth (edges L) k)) := by
        rw [cell_of_row w b k cur _ _ hb]; exact hc k (by omega)
      generalize nth (edges L) k = p at *
      clear hc hb hn hne
      obtain ⟨q, r, hq, hr⟩ : ∃ q r : Nat, k = q * 2 + r ∧ (r = 0 ∨ r = 1) := ⟨k / 2, k % 2, by omega, by omega⟩
      have hd : (k : Int) / 2 = q := by omega
      have hqn : q < n := by omega
      have hlt : (k : Int) < 2 * (n : Int) := by omega
      have hlt2 : k < 2 * n := by omega
      rw [hq] at hcell
      rcases hr with rfl | rfl
      · have hm : (k : Int) % 2 = 0 := by omega
        simp only [Nat.add_zero] at hcell
        clear hq e hk
        go_enter Tryz.func153, Tryz.ntmps153
        go_wp2
        go_ret
        exact ⟨rfl, rfl⟩
      · have hm : (k : Int) % 2 = 1 := by omega
        clear hq e hk
        go_enter Tryz.func153, Tryz.ntmps153
        go_wp2
        go_ret
        exact ⟨rfl, rfl⟩

set_option maxHeartbeats 400000 in
theorem passEdge_any (L : List (Int × Int)) (v : Value) (k : Nat) (x : Int) (w : World) (h : SpansAt w v L) (hl : L.length ≤ 10000) (hk : k ≤ 2 * L.length) :
    Calls Tryz.prog 155 #[v, .int .i64 k, .int .i64 x] w fun e w' => e = .returned (.int .i64 (passed (edges L) k x : Nat)) ∧ w' = w := by
  have hE := edge_any L v k w h hl hk
  have hP : passed (edges L) k x = if nth (edges L) k = x then k + 1 else k := rfl
  generalize passed (edges L) k x = r at *
  generalize nth (edges L) k = p at *
  have HP : Hid (r = if p = x then k + 1 else k) := hP
  clear hP h
  by_cases e : (p == x) = true
  · go_enter Tryz.func155, Tryz.ntmps155
    go_wp2_with (go_at_call 153; refine hE.mono ?_; rintro x w' ⟨rfl, rfl⟩)
    go_ret
    refine ⟨ret_int ?_, rfl⟩
    rw [HP.out, if_pos (by simpa using e)]; rfl
  · have e : (p == x) = false := by simpa using e
    go_enter Tryz.func155, Tryz.ntmps155
    go_wp2_with (go_at_call 153; refine hE.mono ?_; rintro x w' ⟨rfl, rfl⟩)
    go_ret
    refine ⟨ret_int ?_, rfl⟩
    rw [HP.out, if_neg (by simpa using e)]

set_option maxHeartbeats 400000 in
theorem keeps_any (kind : Int) (p q : Bool) (w : World) :
    Calls Tryz.prog 156 #[.int .i64 kind, .bool p, .bool q] w fun e w' => e = .returned (.bool (keepB kind p q)) ∧ w' = w := by
  have HK : Hid (keepB kind p q = if kind = 0 then p || q else if kind = 1 then p && q else if kind = 2 then p && !q else p != q) := rfl
  generalize keepB kind p q = r at *
  have c0 : (kind == 0) = true ∨ (kind == 0) = false := by cases (kind == 0) <;> simp
  have c1 : (kind == 1) = true ∨ (kind == 1) = false := by cases (kind == 1) <;> simp
  have c2 : (kind == 2) = true ∨ (kind == 2) = false := by cases (kind == 2) <;> simp
  rcases c0 with c0 | c0
  · cases p <;> cases q <;>
    · go_enter Tryz.func156, Tryz.ntmps156
      go_wp2
      go_ret
      refine ⟨ret_b ?_, rfl⟩
      rw [HK.out]; simp at c0; simp [c0]
  · rcases c1 with c1 | c1
    · cases p <;> cases q <;>
      · go_enter Tryz.func156, Tryz.ntmps156
        go_wp2
        go_ret
        refine ⟨ret_b ?_, rfl⟩
        rw [HK.out]; simp at c1; simp [c1]
    · rcases c2 with c2 | c2
      · cases p <;> cases q <;>
        · go_enter Tryz.func156, Tryz.ntmps156
          go_wp2
          go_ret
          refine ⟨ret_b ?_, rfl⟩
          rw [HK.out]; simp at c2; simp [c2]
      · cases p <;> cases q <;>
        · go_enter Tryz.func156, Tryz.ntmps156
          go_wp2
          go_ret
          refine ⟨ret_b ?_, rfl⟩
          rw [HK.out]; simp at c0 c1 c2; simp [c0, c1, c2]

theorem two_of (k : Nat) : ∃ q r : Nat, k = q * 2 + r ∧ (r = 0 ∨ r = 1) := ⟨k / 2, k % 2, by omega, by omega⟩

set_option maxHeartbeats 400000 in
theorem level_any (A : List (Int × Int × List (Int × Int))) (v : Value) (k : Nat) (w : World) (h : BandsAt w v A) (hl : A.length ≤ 10000) (hk : k ≤ 2 * A.length) :
    Calls Tryz.prog 150 #[.agg #[v], .int .i64 k] w fun e w' => e = .returned (.int .i64 (nth (levels A) k)) ∧ w' = w.alloc (.cells #[v] 136) := by
  rcases h with ⟨rfl, rfl⟩ | ⟨b, c, rfl, hne, hc⟩
  · have hk0 : k = 0 := by simpa using hk
    subst hk0
    go_enter Tryz.func150, Tryz.ntmps150
    go_wp2
    go_ret
    exact ⟨rfl, rfl⟩
  · have hzero : 0 < A.length := by cases A with
      | nil => exact absurd rfl hne
      | cons a A => simp
    have hb : b < w.heap.size := cell_lt (hc 0 hzero).1
    have hEv := levels_even A
    have hOd := levels_odd A
    have hEnd := nth_ge (levels A) k
    rw [levels_len] at hEnd
    by_cases e : k = 2 * A.length
    · have E : Hid (nth (levels A) k = big) := hEnd (by omega)
      clear hEnd hEv hOd hc
      generalize A.length = n at *
      subst e
      clear hk
      go_enter Tryz.func150, Tryz.ntmps150
      go_wp2
      go_ret
      exact ⟨ret_int E.out.symm, rfl⟩
    · clear hEnd
      obtain ⟨q, r, hq, hr⟩ := two_of k
      have hd : (k : Int) / 2 = q := by omega
      have hqn : q < A.length := by omega
      have hlt : (k : Int) < 2 * (A.length : Int) := by omega
      have hlt2 : k < 2 * A.length := by omega
      obtain ⟨c1, c2, c9⟩ := hc q (by omega)
      clear c9
      rcases hr with rfl | rfl
      · have hm : (k : Int) % 2 = 0 := by omega
        have hv := hEv q (by omega)
        rw [← hv, show 2 * q = k by omega] at c1
        clear hq e hk hv hEv hOd hc c2
        generalize nth (levels A) k = p at *
        generalize A.length = n at *
        go_enter Tryz.func150, Tryz.ntmps150
        go_wp2
        go_ret
        exact ⟨rfl, rfl⟩
      · have hm : (k : Int) % 2 = 1 := by omega
        have hv := hOd q (by omega)
        rw [← hv, show 2 * q + 1 = k by omega] at c2
        clear hq e hk hv hEv hOd hc c1
        generalize nth (levels A) k = p at *
        generalize A.length = n at *
        go_enter Tryz.func150, Tryz.ntmps150
        go_wp2
        go_ret
        exact ⟨rfl, rfl⟩

set_option maxHeartbeats 400000 in
theorem row_any (A : List (Int × Int × List (Int × Int))) (v : Value) (k : Nat) (w : World) (h : BandsAt w v A) (hl : A.length ≤ 10000) (hk : k ≤ 2 * A.length) :
    Calls Tryz.prog 152 #[.agg #[v], .int .i64 k] w fun e w' => ∃ u, e = .returned u ∧ SpansAt w u (rowAt A k) ∧ w' = w.alloc (.cells #[v] 136) := by
  obtain ⟨q, r, hq, hr⟩ := two_of k
  rcases hr with rfl | rfl
  · have hm : (k : Int) % 2 = 0 := by omega
    have hR : rowAt A k = [] := by rw [show k = 2 * q by omega]; exact rowAt_even A q
    clear hq
    have HR : Hid (rowAt A k = []) := hR
    clear hR
    go_enter Tryz.func152, Tryz.ntmps152
    go_wp2
    go_ret
    exact ⟨_, rfl, .inl ⟨rfl, HR.out⟩, rfl⟩
  · have hm : (k : Int) % 2 = 1 := by omega
    have hd : (k : Int) / 2 = q := by omega
    have hqn : q < A.length := by omega
    rcases h with ⟨rfl, rfl⟩ | ⟨b, c, rfl, hne, hc⟩
    · simp at hqn
    · obtain ⟨c1, c2, u, c3, hsp⟩ := hc q hqn
      have hb : b < w.heap.size := cell_lt c1
      have hR : rowAt A k = A[q].2.2 := by rw [show k = 2 * q + 1 by omega]; exact rowAt_odd A q hqn
      rw [← hR] at hsp
      have HS : Hid (SpansAt w u (rowAt A k)) := hsp
      clear hq hsp hR hc c1 c2 hne
      generalize A.length = n at *
      go_enter Tryz.func152, Tryz.ntmps152
      go_wp2
      go_ret
      exact ⟨u, rfl, HS.out, rfl⟩

set_option maxHeartbeats 1000000 in
theorem passLevels_any (A : List (Int × Int × List (Int × Int))) (v : Value) (k : Nat) (c y : Int) (w : World) (h : BandsAt w v A) (hl : A.length ≤ 10000) (hs : (levels A).Pairwise (· ≤ ·)) (hc : c < y) (hk : k = cnt (levels A) c) (hy : y ≤ nth (levels A) k) :
    Calls Tryz.prog 151 #[.agg #[v], .int .i64 k, .int .i64 y] w fun e w' => e = .returned (.int .i64 (cnt (levels A) y : Nat)) ∧ Below w.heap.size w w' := by
  obtain ⟨a, n, cp, hv, hn⟩ : ∃ a n cp, v = .slice a n cp ∧ n = A.length := by
    rcases h with ⟨rfl, rfl⟩ | ⟨b, c, rfl, hne, _⟩
    · exact ⟨_, _, _, rfl, rfl⟩
    · exact ⟨_, _, _, rfl, rfl⟩
  have HV : Hid (v = .slice a n cp) := hv
  have HN : Hid (n = A.length) := hn
  have hn' : n ≤ 10000 := by omega
  have hkl : k ≤ 2 * n := by rw [hk, hn, ← levels_len]; exact cnt_le _ _
  have HB : Hid (BandsAt w v A) := h
  have HY : Hid (∀ q, (levels A).length = 2 * n → k ≤ q → q ≤ 2 * n → (∀ j, k ≤ j → j < q → nth (levels A) j = y) → (q < 2 * n → nth (levels A) q ≠ y) → cnt (levels A) y = q) := by
    intro q hlen h1 h2 h3 h4
    refine cnt_run (levels A) hs c y hc q (by omega) (by omega) (fun j hj1 hj2 => h3 j (by omega) hj2) (fun hq => ?_)
    have h5 := h4 (by omega)
    have hkq : nth (levels A) k ≤ nth (levels A) q := by
      rw [nth_lt _ _ (show k < (levels A).length by omega), nth_lt _ _ hq]
      by_cases e : k = q
      · subst e; exact Int.le_refl _
      · exact List.pairwise_iff_getElem.1 hs _ _ _ _ (by omega)
    omega
  clear h hl hs hc hk hy hn
  rw [hv]
  clear hv
  go_enter Tryz.func151, Tryz.ntmps151
  go_wp2
  go_loopw [1] (fun i wr => ∃ q : Nat, k ≤ q ∧ q ≤ 2 * n ∧ i = .int .i64 q ∧ (∀ j, k ≤ j → j < q → nth (levels A) j = y) ∧ w.heap.size < wr.heap.size ∧ wr.cell? ⟨w.heap.size, 0, none⟩ = some (.slice a n cp) ∧ Below w.heap.size w wr) (fun i _ => 2 * n - (intOf i).toNat)
  case atStart => exact ⟨k, Nat.le_refl _, hkl, rfl, fun j h1 h2 => absurd h1 (by omega), by simp, by simp, (Below.refl _ _).alloc (Nat.le_refl _) _⟩
  case round =>
    obtain ⟨q, hq1, hq2, rfl, hrun, hsz, hcell, hbel⟩ := hrel
    have HRun : Hid (∀ j, k ≤ j → j < q → nth (levels A) j = y) := hrun
    have HBel : Hid (Below w.heap.size w wr) := hbel
    have hL := level_any A (.slice a n cp) q wr (by have := HB.out; rw [HV.out] at this; exact this.below hbel) (by rw [← HN.out]; omega) (by rw [← HN.out]; omega)
    have HL : Hid (nth (levels A) q = nth (levels A) q) := rfl
    generalize hp : nth (levels A) q = p at hL
    have HP : Hid (nth (levels A) q = p) := hp
    clear hrun hbel hp HL
    by_cases hlt : q < 2 * n
    · have hlt' : (q : Int) < 2 * (n : Int) := by omega
      have cp' : (p == y) = true ∨ (p == y) = false := by cases (p == y) <;> simp
      rcases cp' with e | e
      · go_wp2_with (go_at_call 150; refine hL.mono ?_; rintro x w' ⟨rfl, rfl⟩)
        go_roundw
        case rel =>
          refine ⟨q + 1, by omega, by omega, by go_num, fun j h1 h2 => ?_, by simp; omega, (cell_old _ _ _ _ hsz).trans hcell, HBel.out.alloc (by omega) _⟩
          by_cases ej : j = q
          · subst ej; rw [HP.out]; simpa using e
          · exact HRun.out j h1 (by omega)
        case measure => simp [intOf]; omega
      · go_wp2_with (go_at_call 150; refine hL.mono ?_; rintro x w' ⟨rfl, rfl⟩)
        go_ret
        refine ⟨ret_int ?_, HBel.out.alloc (by omega) _⟩
        rw [HY.out q (by rw [levels_len, HN.out]) hq1 hq2 HRun.out (fun _ => by rw [HP.out]; simpa using e)]
    · have hlt' : ¬ (q : Int) < 2 * (n : Int) := by omega
      go_wp2
      go_ret
      refine ⟨ret_int ?_, HBel.out⟩
      rw [HY.out q (by rw [levels_len, HN.out]) hq1 hq2 HRun.out (fun h => absurd h hlt)]

theorem eqSpan (a b c d : Int) (w : World) : (Op.equalIn 10000 194 (.agg #[.int .i64 a, .int .i64 b]) (.agg #[.int .i64 c, .int .i64 d])).run Tryz.prog w = .ok (a == c && b == d) w := by
  have u3 := Tryz.underlying3
  have a3 := Tryz.isAgg3
  have z3 := Tryz.sizeOf3
  have hS : Tryz.prog.underlying 194 = some (.struct (Tryz.prog.fieldsOf 194)) := by kernel_rfl
  have hp : Tryz.prog.stoodInHeld 194 = false := by kernel_rfl
  rw [show (10000 : Nat) = 9999 + 1 from rfl, run_equalIn_agg w 9999 194 _ _ hS hp]
  simp only [Program.fieldsOf, Tryz.underlying194]
  go_simp
  by_cases h1 : a = c <;> by_cases h2 : b = d <;> simp [h1, h2]

theorem SpansAt.len {w : World} {v : Value} {L : List (Int × Int)} (h : SpansAt w v L) : ∃ a c, v = .slice a L.length c ∧ (0 < L.length → ∃ b, a = some ⟨b, 0, none⟩ ∧ ∀ j, j < L.length → w.cell? ⟨b, j * 2, none⟩ = some (.int .i64 (L.getD j (0, 0)).1) ∧ w.cell? ⟨b, j * 2 + 1, none⟩ = some (.int .i64 (L.getD j (0, 0)).2)) := by
  rcases h with ⟨rfl, rfl⟩ | ⟨b, c, cur, rfl, hne, hb, hc⟩
  · exact ⟨none, 0, rfl, fun h => by simp at h⟩
  · refine ⟨_, c, rfl, fun _ => ⟨b, rfl, fun j hj => ?_⟩⟩
    have e : L.getD j (0, 0) = L[j] := by rw [List.getD_eq_getElem?_getD, List.getElem?_eq_getElem hj]; rfl
    rw [e, cell_of_row w b _ cur _ _ hb, cell_of_row w b _ cur _ _ hb, hc _ (by omega), hc _ (by omega), ← edges_even L j hj, ← edges_odd L j hj, Nat.mul_comm j 2]
    exact ⟨rfl, rfl⟩

end Go.Proofs.YtofinpocigbbeaaGreat
