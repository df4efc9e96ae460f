import Derived.Test.YtofinpocigbbeaaGreatKap
import Derived.Test.YtofinpocigbbeaaGreatKaf
import Derived.Test.YtofinpocigbbeaaGreatKzp
import Derived.Deep.RegionHeld3
namespace Go.Proofs.YtofinpocigbbeaaGreat
open Go.RowKit

/-! ### How many points a region has, and how many pixels are laid in it -/

theorem sumTo_succ (f : Nat → Int) (m : Nat) : sumTo f (m + 1) = sumTo f m + f m := rfl

theorem sumTo_congr {f g : Nat → Int} : ∀ m, (∀ i, i < m → f i = g i) → sumTo f m = sumTo g m
  | 0, _ => rfl
  | m + 1, h => by
    unfold sumTo
    rw [sumTo_congr m fun i hi => h i (by omega), h m (by omega)]

theorem sumTo_add (f g : Nat → Int) : ∀ m, sumTo (fun i => f i + g i) m = sumTo f m + sumTo g m
  | 0 => rfl
  | m + 1 => by
    unfold sumTo
    rw [sumTo_add f g m]
    omega

theorem sumTo_zero : ∀ m, sumTo (fun _ => 0) m = 0
  | 0 => rfl
  | m + 1 => by
    unfold sumTo
    rw [sumTo_zero m]
    rfl

theorem sumTo_split (f : Nat → Int) (a : Nat) : ∀ b, sumTo f (a + b) = sumTo f a + sumTo (fun i => f (a + i)) b
  | 0 => by simp [sumTo]
  | b + 1 => by
    rw [show a + (b + 1) = (a + b) + 1 from rfl, sumTo_succ, sumTo_succ, sumTo_split f a b]
    omega

theorem sumTo_le {f g : Nat → Int} : ∀ m, (∀ i, i < m → f i ≤ g i) → sumTo f m ≤ sumTo g m
  | 0, _ => Int.le_refl _
  | m + 1, h => by
    have h1 := sumTo_le m fun i hi => h i (by omega)
    have h2 := h m (by omega)
    unfold sumTo
    omega

theorem sumTo_win (h : Nat → Int) (a b n : Nat) (hab : a ≤ b) (hb : b ≤ n) : sumTo (fun i => if a ≤ i ∧ i < b then h i else 0) n = sumTo (fun i => h (a + i)) (b - a) := by
  obtain ⟨c, rfl⟩ : ∃ c, b = a + c := ⟨b - a, by omega⟩
  obtain ⟨e, rfl⟩ : ∃ e, n = a + (c + e) := ⟨n - (a + c), by omega⟩
  rw [sumTo_split, sumTo_split, show a + c - a = c by omega]
  have z1 : sumTo (fun i => if a ≤ i ∧ i < a + c then h i else 0) a = 0 := by
    rw [sumTo_congr (g := fun _ => 0) a fun i hi => if_neg (by omega)]
    exact sumTo_zero a
  have z2 : sumTo (fun i => if a ≤ a + (c + i) ∧ a + (c + i) < a + c then h (a + (c + i)) else 0) e = 0 := by
    rw [sumTo_congr (g := fun _ => 0) e fun i hi => if_neg (by omega)]
    exact sumTo_zero e
  have z3 : sumTo (fun i => if a ≤ a + i ∧ a + i < a + c then h (a + i) else 0) c = sumTo (fun i => h (a + i)) c := sumTo_congr c fun i hi => if_pos (by omega)
  rw [z1, z2, z3]
  omega

theorem sumTo_rows (g : Nat → Nat → Int) (W : Nat) (hW : 0 < W) : ∀ H, sumTo (fun k => g (k % W) (k / W)) (W * H) = sumTo (fun y => sumTo (fun x => g x y) W) H
  | 0 => rfl
  | H + 1 => by
    rw [Nat.mul_succ, sumTo_split, sumTo_rows g W hW H]
    rw [sumTo_succ]
    congr 1
    refine sumTo_congr W fun i hi => ?_
    rw [Nat.mul_add_mod, Nat.mod_eq_of_lt hi, Nat.mul_add_div hW, Nat.div_eq_of_lt hi, Nat.add_zero]

theorem laidR_all (laid : Nat → Nat → Int) {W H : Nat} (hW : 0 < W) {r : R4} (h : OnScr W H r) : laidR laid r = sumTo (fun k => if inR r ((k % W : Nat) : Int) ((k / W : Nat) : Int) = true then laid (k % W) (k / W) else 0) (W * H) := by
  obtain ⟨x0, y0, x1, y1, rfl, h1, h2, h3, h4⟩ := h.nats
  rw [sumTo_rows (fun x y => if inR ((x0 : Int), (y0 : Int), (x1 : Int), (y1 : Int)) (x : Int) (y : Int) = true then laid x y else 0) W hW H]
  unfold laidR laidIn
  simp only [Int.toNat_natCast]
  rw [← sumTo_win (fun y => sumTo (fun i => laid (x0 + i) y) (x1 - x0)) y0 y1 H h3 h4]
  refine sumTo_congr H fun y hy => ?_
  split
  · rw [← sumTo_win (fun x => laid x y) x0 x1 W h1 h2]
    refine sumTo_congr W fun x hx => ?_
    unfold inR
    by_cases e : x0 ≤ x ∧ x < x1
    · rw [if_pos e, if_pos (decide_eq_true (by simp only; omega))]
    · rw [if_neg e, if_neg (by simp only [decide_eq_true_eq]; omega)]
  · rename_i hn
    rw [sumTo_congr (g := fun _ => 0) W fun x hx => ?_, sumTo_zero]
    unfold inR
    rw [if_neg (by simp only [decide_eq_true_eq]; omega)]

def cntP (l : List R4) (x y : Int) : Int := ((l.filter fun r => inR r x y).length : Int)

theorem laidL_cnt (laid : Nat → Nat → Int) {W H : Nat} (hW : 0 < W) (l : List R4) (hon : ∀ r ∈ l, OnScr W H r) : ∀ m, m ≤ l.length → laidL laid l m = sumTo (fun k => cntP (l.take m) ((k % W : Nat) : Int) ((k / W : Nat) : Int) * laid (k % W) (k / W)) (W * H)
  | 0, _ => by
    unfold laidL cntP
    simp [sumTo]
    exact (sumTo_zero _).symm
  | m + 1, hm => by
    have ih := laidL_cnt laid hW l hon m (by omega)
    have hml : m < l.length := by omega
    unfold laidL at ih ⊢
    rw [sumTo_succ, ih, List.getD_eq_getElem?_getD, List.getElem?_eq_getElem hml]
    simp only [Option.getD_some]
    have e1 := laidR_all laid hW (hon _ (List.getElem_mem hml))
    rw [e1, ← sumTo_add]
    refine sumTo_congr (W * H) fun k _ => ?_
    unfold cntP
    rw [List.take_succ_eq_append_getElem hml, List.filter_append, List.length_append, List.filter_cons]
    split
    · simp [Int.add_mul]
    · simp

theorem cntP_one {l : List R4} {x y : Int} (h : (l.filter fun r => inR r x y).length ≤ 1) : cntP l x y = if hasB l x y = true then 1 else 0 := by
  unfold cntP hasB
  cases ha : l.any fun r => inR r x y with
  | true =>
    rw [if_pos rfl]
    obtain ⟨r, hr, hi⟩ := List.any_eq_true.1 ha
    have : r ∈ l.filter fun r => inR r x y := List.mem_filter.2 ⟨hr, hi⟩
    have := List.length_pos_of_mem this
    omega
  | false =>
    rw [if_neg (by simp)]
    rw [List.any_eq_false] at ha
    have : l.filter (fun r => inR r x y) = [] := List.filter_eq_nil_iff.2 fun r hr => ha r hr
    rw [this]
    rfl

theorem edges_apart : ∀ {S : List (Int × Int)}, (edges S).Pairwise (· < ·) → S.Pairwise fun s t => s.2 < t.1
  | [], _ => List.Pairwise.nil
  | s :: S, h => by
    rw [edges_cons, List.pairwise_cons, List.pairwise_cons] at h
    refine List.pairwise_cons.2 ⟨fun t ht => h.2.1 t.1 ?_, edges_apart h.2.2⟩
    unfold edges
    exact List.mem_flatMap.2 ⟨t, ht, by simp⟩

theorem levels_apart : ∀ {A : Rgn}, (levels A).Pairwise (· ≤ ·) → A.Pairwise fun a b => a.2.1 ≤ b.1
  | [], _ => List.Pairwise.nil
  | a :: A, h => by
    rw [levels_cons, List.pairwise_cons, List.pairwise_cons] at h
    refine List.pairwise_cons.2 ⟨fun t ht => h.2.1 t.1 ?_, levels_apart h.2.2⟩
    unfold levels
    exact List.mem_flatMap.2 ⟨t, ht, by simp⟩

theorem rc_apart {O : Rgn} (hO : Good O) (x y : Int) : (rc O).Pairwise fun a b => ¬ (inR a x y = true ∧ inR b x y = true) := by
  unfold rc
  rw [List.pairwise_flatMap]
  constructor
  · intro b hb
    rw [List.pairwise_map]
    refine (edges_apart (hO.sp b hb).1.rising).imp ?_
    intro s t hst
    unfold inR
    simp only [decide_eq_true_eq]
    omega
  · refine (levels_apart hO.lv).imp ?_
    intro a b hab p hp q hq
    obtain ⟨s, _, rfl⟩ := List.mem_map.1 hp
    obtain ⟨t, _, rfl⟩ := List.mem_map.1 hq
    unfold inR
    simp only [decide_eq_true_eq]
    omega

theorem rc_one {O : Rgn} (hO : Good O) (x y : Int) : ((rc O).filter fun r => inR r x y).length ≤ 1 := by
  have h := (rc_apart hO x y).filter fun r => inR r x y
  have hall : ∀ r ∈ (rc O).filter fun r => inR r x y, inR r x y = true := fun r hr => (List.mem_filter.1 hr).2
  generalize (rc O).filter (fun r => inR r x y) = l at h hall
  match l, h, hall with
  | [], _, _ => simp
  | [a], _, _ => simp
  | a :: b :: l, h, hall =>
    rw [List.pairwise_cons] at h
    exact absurd ⟨hall a (by simp), hall b (by simp)⟩ (h.1 b (by simp))

/-- What is laid, point by point. -/
theorem laidL_all (laid : Nat → Nat → Int) {W H : Nat} (hW : 0 < W) {O : Rgn} (hO : Good O) (hon : ∀ r ∈ rc O, OnScr W H r) : laidL laid (rc O) (rc O).length = sumTo (fun k => if hasB (rc O) ((k % W : Nat) : Int) ((k / W : Nat) : Int) = true then laid (k % W) (k / W) else 0) (W * H) := by
  rw [laidL_cnt laid hW (rc O) hon _ (Nat.le_refl _), List.take_length]
  refine sumTo_congr _ fun k _ => ?_
  rw [cntP_one (rc_one hO _ _)]
  split
  · simp
  · simp

/-- A rectangle's area. -/
def area (r : R4) : Int := (r.2.2.1 - r.1) * (r.2.2.2 - r.2.1)

theorem sumTo_const (c : Int) : ∀ m : Nat, sumTo (fun _ => c) m = m * c
  | 0 => by simp [sumTo]
  | m + 1 => by
    unfold sumTo
    rw [sumTo_const c m]
    have e : ((m + 1 : Nat) : Int) * c = m * c + c := by rw [Int.natCast_add, Int.add_mul]; simp
    omega

theorem area_laid {W H : Nat} {r : R4} (h : OnScr W H r) : laidR (fun _ _ => 1) r = area r := by
  obtain ⟨x0, y0, x1, y1, rfl, h1, h2, h3, h4⟩ := h.nats
  unfold laidR laidIn area
  simp only [Int.toNat_natCast]
  rw [sumTo_congr (g := fun _ => ((x1 - x0 : Nat) : Int)) _ fun j _ => by rw [sumTo_const]; simp]
  rw [sumTo_const, Int.mul_comm, Int.natCast_sub h1, Int.natCast_sub h3]

end Go.Proofs.YtofinpocigbbeaaGreat

namespace Go.Proofs.YtofinpocigbbeaaGreat
open Go.RowKit

set_option maxRecDepth 100000 in
set_option maxHeartbeats 1000000 in
theorem hasl_any (l : List (Int × Int × Int × Int)) (v : Value) (x y : Int) (w : World) (h : RectsAt w v l) (hl : l.length ≤ maxLen) :
    Calls Tryz.prog 21 #[v, .int .i64 x, .int .i64 y] w fun e w' => e = .returned (.bool (hasB l x y)) ∧ w' = w := by
  unfold maxLen at hl
  obtain ⟨a, c, rfl, hc⟩ := h
  obtain ⟨n, hn⟩ : ∃ n, l.length = n := ⟨_, rfl⟩
  rw [hn] at hl
  rw [hn]
  have HC := hide hc
  have HN := hide hn
  clear hc hn
  obtain ⟨res, hres⟩ : ∃ b, hasB l x y = b := ⟨_, rfl⟩
  rw [hres]
  have HR := hide hres
  clear hres
  go_enter Tryz.func21, Tryz.ntmps21
  go_wp2
  go_loopg [7] n (fun g s7 wr => ∃ k : Nat, s7 = .int .i64 k ∧ g + k = n ∧ (∀ j (h : j < l.length), j < k → inR l[j] x y = false) ∧ wr = w)
  case atStart => exact ⟨0, rfl, by omega, fun j _ h => absurd h (by omega), rfl⟩
  case round =>
    obtain ⟨k, rfl, hgk, hno, rfl⟩ := hrel
    have HNo := hide hno
    clear hno
    cases gk with
    | zero =>
      have hlt : ¬ (k : Int) < (n : Int) := by omega
      go_wp2
      go_ret
      refine ⟨ret_b ?_, rfl⟩
      rw [← HR.out]
      symm
      unfold hasB
      rw [List.any_eq_false]
      intro r hr
      obtain ⟨j, hj, rfl⟩ := List.getElem_of_mem hr
      rw [HNo.out j hj (by have := HN.out; omega)]
      simp
    | succ g =>
      have hlt : (k : Int) < (n : Int) := by omega
      have hltn : k < n := by omega
      have hkl : k < l.length := by have := HN.out; omega
      obtain ⟨b, off, rfl, hcs⟩ := HC.out (by omega)
      obtain ⟨c1, c2, c3, c4⟩ := hcs k hkl
      obtain ⟨⟨x0, y0, x1, y1⟩, hr⟩ : ∃ r, l[k] = r := ⟨_, rfl⟩
      rw [hr] at c1 c2 c3 c4
      simp only at c1 c2 c3 c4
      have HK := hide hr
      clear hr hcs
      by_cases hin : x0 ≤ x ∧ x < x1 ∧ y0 ≤ y ∧ y < y1
      · have HI : Hid (inR (x0, y0, x1, y1) x y = true) := by unfold Hid inR; simpa using hin
        obtain ⟨h1, h2, h3, h4⟩ := hin
        go_wp2
        go_ret
        refine ⟨ret_b ?_, rfl⟩
        rw [← HR.out]
        symm
        unfold hasB
        rw [List.any_eq_true]
        exact ⟨l[k], List.getElem_mem hkl, by rw [HK.out]; exact HI.out⟩
      · have HI : Hid (inR (x0, y0, x1, y1) x y = false) := by unfold Hid inR; simpa using hin
        have hcases : x < x0 ∨ (x0 ≤ x ∧ x1 ≤ x) ∨ (x0 ≤ x ∧ x < x1 ∧ y < y0) ∨ (x0 ≤ x ∧ x < x1 ∧ y0 ≤ y ∧ y1 ≤ y) := by omega
        clear hin
        rcases hcases with h1 | ⟨h1, h2⟩ | ⟨h1, h2, h3⟩ | ⟨h1, h2, h3, h4⟩
        all_goals
          go_wp2
          go_roundg g
          case measure => omega
          case rel =>
            refine ⟨k + 1, by go_num, by omega, fun j hj hjk => ?_, rfl⟩
            by_cases e : j = k
            · subst e; rw [HK.out]; exact HI.out
            · exact HNo.out j hj (by omega)

end Go.Proofs.YtofinpocigbbeaaGreat

namespace Go.Proofs.YtofinpocigbbeaaGreat
open Go.RowKit

/-- If alike says yes: what it has seen. -/
def AlikeSaw (l : List (Int × Int × Int × Int)) (a b c : Nat) : Prop :=
  b ≠ a ∧ b - a = c - b ∧ (l.getD (b - 1) (0, 0, 0, 0)).2.2.2 = (l.getD b (0, 0, 0, 0)).2.1 ∧ ∀ i, a ≤ i → i < b → (l.getD i (0, 0, 0, 0)).1 = (l.getD (i + b - a) (0, 0, 0, 0)).1 ∧ (l.getD i (0, 0, 0, 0)).2.2.1 = (l.getD (i + b - a) (0, 0, 0, 0)).2.2.1

def AlikePost (l : List (Int × Int × Int × Int)) (a b c : Nat) (w : World) (e : Ending) (w' : World) : Prop := ∃ r, e = .returned (.bool r) ∧ (r = true → AlikeSaw l a b c) ∧ ∃ nq, w' = w.drewN nq
theorem alike_no {l : List (Int × Int × Int × Int)} {a b c : Nat} {w : World} (nq : Nat) : AlikePost l a b c w (.returned (.bool false)) (w.drewN nq) := ⟨false, rfl, fun h => by simp at h, nq, rfl⟩
theorem alike_yes {l : List (Int × Int × Int × Int)} {a b c : Nat} {w : World} (nq : Nat) (h : AlikeSaw l a b c) : AlikePost l a b c w (.returned (.bool true)) (w.drewN nq) := ⟨true, rfl, fun _ => h, nq, rfl⟩

theorem RectsAt.at {w : World} {v : Value} {l : List (Int × Int × Int × Int)} (h : RectsAt w v l) (k : Nat) (hk : k < l.length) :
    ∃ b off c, v = .slice (some ⟨b, off, none⟩) l.length c ∧ w.cell? ⟨b, off + k * 4, none⟩ = some (.int .i64 (l.getD k (0, 0, 0, 0)).1) ∧ w.cell? ⟨b, off + k * 4 + 1, none⟩ = some (.int .i64 (l.getD k (0, 0, 0, 0)).2.1) ∧ w.cell? ⟨b, off + k * 4 + 2, none⟩ = some (.int .i64 (l.getD k (0, 0, 0, 0)).2.2.1) ∧ w.cell? ⟨b, off + k * 4 + 3, none⟩ = some (.int .i64 (l.getD k (0, 0, 0, 0)).2.2.2) := by
  obtain ⟨a, c, rfl, hc⟩ := h
  obtain ⟨b, off, rfl, hcs⟩ := hc (by omega)
  have e : l.getD k (0, 0, 0, 0) = l[k] := by rw [List.getD_eq_getElem?_getD, List.getElem?_eq_getElem hk]; rfl
  rw [e]
  exact ⟨b, off, c, rfl, hcs k hk⟩

set_option maxRecDepth 100000 in
set_option maxHeartbeats 2000000 in
theorem alike_any (l : List (Int × Int × Int × Int)) (v : Value) (a b c : Nat) (w : World) (h : RectsAt w v l) (hl : l.length ≤ 100000000) (hab : a ≤ b) (hbc : b ≤ c) (hc : c ≤ l.length) (hb1 : a < b → b < c) :
    Calls Tryz.prog 44 #[v, .int .i64 a, .int .i64 b, .int .i64 c] w (AlikePost l a b c w) := by
  obtain ⟨va, vc, hv⟩ := h.form
  by_cases h1 : b = a
  · subst h1
    subst hv
    have g1 : ((b : Int) == (b : Int)) = true := by simp
    go_enter Tryz.func44, Tryz.ntmps44
    go_wp2_with fail
    go_quiet (fail)
    go_wp2
    go_ret
    exact alike_no _
  · have g1 : ((b : Int) == (a : Int)) = false := by simp; omega
    by_cases h2 : b - a = c - b
    · have g2 : ((b : Int) - (a : Int) != (c : Int) - (b : Int)) = false := by simp; omega
      obtain ⟨bb, off, cc, hv2, _, _, _, c4⟩ := h.at (b - 1) (by omega)
      obtain ⟨bb', off', cc', hv3, _, c2, _, _⟩ := h.at b (by omega)
      rw [hv2] at hv3
      simp at hv3
      obtain ⟨⟨rfl, rfl⟩, rfl⟩ := hv3
      obtain ⟨Y1, hY1⟩ : ∃ x, (l.getD (b - 1) (0, 0, 0, 0)).2.2.2 = x := ⟨_, rfl⟩
      obtain ⟨Y0, hY0⟩ : ∃ x, (l.getD b (0, 0, 0, 0)).2.1 = x := ⟨_, rfl⟩
      rw [hY1] at c4
      rw [hY0] at c2
      obtain ⟨n, hn⟩ : ∃ n, l.length = n := ⟨_, rfl⟩
      rw [hn] at hv2 hl hc
      have HL := hide h
      have HN := hide hn
      have HY := hide (And.intro hY1 hY0)
      clear h hn hY1 hY0
      rw [hv2]
      have HV := hide hv2
      clear hv hv2
      obtain ⟨bm, hbm⟩ : ∃ m : Nat, b - 1 = m := ⟨_, rfl⟩
      rw [hbm] at c4
      have hsub : (b : Int) - 1 = (bm : Int) := by omega
      have hbmn : bm < n := by omega
      have hbn : b < n := by omega
      have HB := hide (And.intro hbm (And.intro h1 h2))
      clear hbm h1 h2
      by_cases h3 : Y1 = Y0
      · have g3 : (Y1 != Y0) = false := by simpa using h3
        have HE := hide h3
        clear h3
        go_enter Tryz.func44, Tryz.ntmps44
        go_wp2_with fail
        go_quiet (fail)
        go_wp2
        go_loopg [9] (b - a) (fun g s9 wr => ∃ i : Nat, s9 = .int .i64 i ∧ a ≤ i ∧ g + i = b ∧ (∀ k, a ≤ k → k < i → (l.getD k (0, 0, 0, 0)).1 = (l.getD (k + b - a) (0, 0, 0, 0)).1 ∧ (l.getD k (0, 0, 0, 0)).2.2.1 = (l.getD (k + b - a) (0, 0, 0, 0)).2.2.1) ∧ ∃ nq, wr = w.drewN nq)
        case atStart => exact ⟨a, rfl, Nat.le_refl _, by omega, fun k h1 h2 => by omega, _, rfl⟩
        case round =>
          obtain ⟨i, rfl, hai, hgi, hrun, n0, rfl⟩ := hrel
          have HRun := hide hrun
          clear hrun
          cases gk with
          | zero =>
            have hlt : ¬ (i : Int) < (b : Int) := by omega
            go_wp2
            go_ret
            refine alike_yes n0 ⟨HB.out.2.1, HB.out.2.2, ?_, fun k h1 h2 => HRun.out k h1 (by omega)⟩
            rw [HY.out.1, HY.out.2, HE.out]
          | succ g =>
            have hlt : (i : Int) < (b : Int) := by omega
            have hin : i < n := by omega
            obtain ⟨j, hj⟩ : ∃ j : Nat, i + b - a = j := ⟨_, rfl⟩
            have hji : (i : Int) + (b : Int) - (a : Int) = (j : Int) := by omega
            have hjn : j < n := by have := HB.out.2.2; omega
            obtain ⟨b1, o1, k1, e1, q1, _, q2, _⟩ := HL.out.at i (by have := HN.out; omega)
            obtain ⟨b2, o2, k2, e2, q3, _, q4, _⟩ := HL.out.at j (by have := HN.out; omega)
            rw [HV.out, HN.out] at e1 e2
            simp at e1 e2
            obtain ⟨⟨rfl, rfl⟩, rfl⟩ := e1
            obtain ⟨⟨rfl, rfl⟩, rfl⟩ := e2
            obtain ⟨p0, hp0⟩ : ∃ x, (l.getD i (0, 0, 0, 0)).1 = x := ⟨_, rfl⟩
            obtain ⟨p1, hp1⟩ : ∃ x, (l.getD i (0, 0, 0, 0)).2.2.1 = x := ⟨_, rfl⟩
            obtain ⟨r0, hr0⟩ : ∃ x, (l.getD j (0, 0, 0, 0)).1 = x := ⟨_, rfl⟩
            obtain ⟨r1, hr1⟩ : ∃ x, (l.getD j (0, 0, 0, 0)).2.2.1 = x := ⟨_, rfl⟩
            rw [hp0] at q1
            rw [hp1] at q2
            rw [hr0] at q3
            rw [hr1] at q4
            have HQ := hide (And.intro hp0 (And.intro hp1 (And.intro hr0 (And.intro hr1 hj))))
            clear hp0 hp1 hr0 hr1 hj
            by_cases t0 : p0 = r0
            · have u0 : (p0 != r0) = false := by simpa using t0
              have T0 := hide t0
              clear t0
              by_cases t1 : p1 = r1
              · have u1 : (p1 != r1) = false := by simpa using t1
                have T1 := hide t1
                clear t1
                go_wp2_with fail
                go_quiet (fail)
                go_wp2
                go_roundg g
                case measure => omega
                case rel =>
                  refine ⟨i + 1, by go_num, by omega, by omega, fun k h1 h2 => ?_, n0 + nq, by simp⟩
                  by_cases e : k = i
                  · subst e
                    obtain ⟨a0, a1, a2, a3, a4⟩ := HQ.out
                    rw [a4, a0, a1, a2, a3]
                    exact ⟨T0.out, T1.out⟩
                  · exact HRun.out k h1 (by omega)
              · have u1 : (p1 != r1) = true := by simpa using t1
                clear t1
                go_wp2_with fail
                go_quiet (fail)
                go_wp2
                go_ret
                rw [World.drewN_drewN]
                exact alike_no _
            · have u0 : (p0 != r0) = true := by simpa using t0
              clear t0
              go_wp2_with fail
              go_quiet (fail)
              go_wp2
              go_ret
              rw [World.drewN_drewN]
              exact alike_no _
      · have g3 : (Y1 != Y0) = true := by simpa using h3
        go_enter Tryz.func44, Tryz.ntmps44
        go_wp2_with fail
        go_quiet (fail)
        go_wp2
        go_ret
        exact alike_no _
    · have g2 : ((b : Int) - (a : Int) != (c : Int) - (b : Int)) = true := by simp; omega
      subst hv
      go_enter Tryz.func44, Tryz.ntmps44
      go_wp2_with fail
      go_quiet (fail)
      go_wp2
      go_ret
      exact alike_no _

end Go.Proofs.YtofinpocigbbeaaGreat

namespace Go.Proofs.YtofinpocigbbeaaGreat
open Go.RowKit

/-- Where band k begins among the rectangles. -/
def st (O : List (Int × Int × List (Int × Int))) (k : Nat) : Nat := (rc (O.take k)).length

theorem st_zero (O : List (Int × Int × List (Int × Int))) : st O 0 = 0 := rfl
theorem st_succ (O : List (Int × Int × List (Int × Int))) (k : Nat) (h : k < O.length) : st O (k + 1) = st O k + O[k].2.2.length := by
  unfold st; rw [rc_take O k h, List.length_append, List.length_map]
theorem st_all (O : List (Int × Int × List (Int × Int))) (k : Nat) (h : O.length ≤ k) : st O k = (rc O).length := by
  unfold st; rw [List.take_of_length_le h]
theorem st_lt {O : List (Int × Int × List (Int × Int))} (hO : Good O) (k : Nat) (h : k < O.length) : st O k < st O (k + 1) := by
  rw [st_succ O k h]
  have := (hO.sp O[k] (List.getElem_mem h)).2
  cases e : O[k].2.2 with
  | nil => exact absurd e this
  | cons a l => simp
theorem st_mono {O : List (Int × Int × List (Int × Int))} (k : Nat) : st O k ≤ st O (k + 1) := by
  by_cases h : k < O.length
  · rw [st_succ O k h]; omega
  · rw [st_all O k (by omega), st_all O (k + 1) (by omega)]; exact Nat.le_refl _
theorem st_le {O : List (Int × Int × List (Int × Int))} (j k : Nat) (h : j ≤ k) : st O j ≤ st O k := by
  induction k with
  | zero => have : j = 0 := by omega
            subst this; exact Nat.le_refl _
  | succ k ih =>
    by_cases e : j = k + 1
    · subst e; exact Nat.le_refl _
    · exact Nat.le_trans (ih (by omega)) (st_mono k)
theorem st_end (O : List (Int × Int × List (Int × Int))) (k : Nat) : st O k ≤ (rc O).length := by
  by_cases h : k ≤ O.length
  · rw [← st_all O O.length (Nat.le_refl _)]; exact st_le k _ h
  · rw [st_all O k (by omega)]; exact Nat.le_refl _

theorem rc_at (O : List (Int × Int × List (Int × Int))) (k j : Nat) (h : k < O.length) (hj : j < O[k].2.2.length) : (rc O).getD (st O k + j) (0, 0, 0, 0) = (O[k].2.2[j].1, O[k].1, O[k].2.2[j].2, O[k].2.1) := by
  have hs : rc O = rc (O.take k) ++ ((O[k].2.2.map fun s => (s.1, O[k].1, s.2, O[k].2.1)) ++ rc (O.drop (k + 1))) := by
    have : O = O.take k ++ O[k] :: O.drop (k + 1) := by rw [← List.drop_eq_getElem_cons h, List.take_append_drop]
    unfold rc
    conv => lhs; rw [this]
    rw [List.flatMap_append, List.flatMap_cons]
  rw [List.getD_eq_getElem?_getD, hs]
  unfold st
  rw [List.getElem?_append_right (by omega), show (rc (O.take k)).length + j - (rc (O.take k)).length = j by omega, List.getElem?_append_left (by simpa using hj), List.getElem?_map, List.getElem?_eq_getElem hj]
  rfl

/-- The spans of a band rise. -/
theorem span_lt {O : List (Int × Int × List (Int × Int))} (hO : Good O) (k j : Nat) (h : k < O.length) (hj : j < O[k].2.2.length) : O[k].2.2[j].1 < O[k].2.2[j].2 := by
  have hs := (hO.sp O[k] (List.getElem_mem h)).1.rising
  have := List.pairwise_iff_getElem.1 hs (2 * j) (2 * j + 1) (by rw [edges_len]; omega) (by rw [edges_len]; omega) (by omega)
  rw [← nth_lt, ← nth_lt, edges_even _ j hj, edges_odd _ j hj] at this
  exact this
theorem span_next {O : List (Int × Int × List (Int × Int))} (hO : Good O) (k j : Nat) (h : k < O.length) (hj : j + 1 < O[k].2.2.length) : O[k].2.2[j].2 < O[k].2.2[j + 1].1 := by
  have hs := (hO.sp O[k] (List.getElem_mem h)).1.rising
  have := List.pairwise_iff_getElem.1 hs (2 * j + 1) (2 * (j + 1)) (by rw [edges_len]; omega) (by rw [edges_len]; omega) (by omega)
  rw [← nth_lt, ← nth_lt, edges_odd _ j (by omega), edges_even _ (j + 1) hj] at this
  exact this
theorem band_next {O : List (Int × Int × List (Int × Int))} (hO : Good O) (k : Nat) (h : k + 1 < O.length) : O[k].2.1 ≤ O[k + 1].1 := by
  have := List.pairwise_iff_getElem.1 hO.lv (2 * k + 1) (2 * (k + 1)) (by rw [levels_len]; omega) (by rw [levels_len]; omega) (by omega)
  rw [← nth_lt, ← nth_lt, levels_odd O k (by omega), levels_even O (k + 1) h] at this
  exact this

theorem not_alike {O : List (Int × Int × List (Int × Int))} (hO : Good O) (k : Nat) (h : k < O.length) : ¬ AlikeSaw (rc O) (st O (k - 1)) (st O k) (st O (k + 1)) := by
  rintro ⟨h1, h2, h3, h4⟩
  cases k with
  | zero => exact h1 rfl
  | succ k =>
    simp only [Nat.add_sub_cancel] at h1 h2 h3 h4
    have hk : k < O.length := by omega
    have s1 := st_succ O k hk
    have s2 := st_succ O (k + 1) h
    have p1 := st_lt hO k hk
    have p2 := st_lt hO (k + 1) h
    have hlen : O[k].2.2.length = O[k + 1].2.2.length := by omega
    have t1 := rc_at O k (O[k].2.2.length - 1) hk (by omega)
    have t2 := rc_at O (k + 1) 0 h (by omega)
    rw [show st O k + (O[k].2.2.length - 1) = st O (k + 1) - 1 by omega] at t1
    rw [Nat.add_zero] at t2
    rw [t1, t2] at h3
    refine hO.df k (by omega) h3 (List.ext_getElem hlen fun j j1 j2 => ?_)
    have := h4 (st O k + j) (by omega) (by omega)
    rw [show st O k + j + st O (k + 1) - st O k = st O (k + 1) + j by omega, rc_at O k j hk j1, rc_at O (k + 1) j h j2] at this
    exact Prod.ext this.1 this.2

/-- Where plain stands at rectangle i. -/
def At (O : List (Int × Int × List (Int × Int))) (i f ab : Nat) : Prop := (i = 0 ∧ f = 0 ∧ ab = 0) ∨ ∃ k, k < O.length ∧ st O k < i ∧ i ≤ st O (k + 1) ∧ f = st O k ∧ ab = st O (k - 1)

/-- Rectangle i is one, and how it follows the last one. -/
theorem at_rect {O : List (Int × Int × List (Int × Int))} (hO : Good O) {i f ab : Nat} (h : At O i f ab) (hi : i < (rc O).length) :
    (((rc O).getD i (0, 0, 0, 0)).1 < ((rc O).getD i (0, 0, 0, 0)).2.2.1 ∧ ((rc O).getD i (0, 0, 0, 0)).2.1 < ((rc O).getD i (0, 0, 0, 0)).2.2.2) ∧
    ((i = 0 ∧ At O 1 0 0 ∧ f = 0 ∧ ab = 0) ∨
     (0 < i ∧ ((rc O).getD (i - 1) (0, 0, 0, 0)).2.1 = ((rc O).getD i (0, 0, 0, 0)).2.1 ∧ ((rc O).getD (i - 1) (0, 0, 0, 0)).2.2.2 = ((rc O).getD i (0, 0, 0, 0)).2.2.2 ∧ ((rc O).getD (i - 1) (0, 0, 0, 0)).2.2.1 < ((rc O).getD i (0, 0, 0, 0)).1 ∧ At O (i + 1) f ab) ∨
     (0 < i ∧ ((rc O).getD (i - 1) (0, 0, 0, 0)).2.1 ≠ ((rc O).getD i (0, 0, 0, 0)).2.1 ∧ ((rc O).getD (i - 1) (0, 0, 0, 0)).2.2.2 ≤ ((rc O).getD i (0, 0, 0, 0)).2.1 ∧ ab ≤ f ∧ f < i ∧ (¬ AlikeSaw (rc O) ab f i) ∧ At O (i + 1) i f)) := by
  rcases h with ⟨rfl, rfl, rfl⟩ | ⟨k, hk, h1, h2, rfl, rfl⟩
  · have hO0 : 0 < O.length := by
      cases O with
      | nil => simp [rc] at hi
      | cons a O => simp
    have p := st_lt hO 0 hO0
    have s := st_succ O 0 hO0
    have hl0 : 0 < O[0].2.2.length := by omega
    have t : (rc O).getD 0 (0, 0, 0, 0) = (O[0].2.2[0].1, O[0].1, O[0].2.2[0].2, O[0].2.1) := rc_at O 0 0 hO0 hl0
    rw [st_zero] at p s
    rw [t]
    refine ⟨⟨span_lt hO 0 0 hO0 _, hO.tb _ (List.getElem_mem hO0)⟩, .inl ⟨rfl, .inr ⟨0, hO0, by rw [st_zero]; omega, by omega, rfl, rfl⟩, rfl, rfl⟩⟩
  · have s := st_succ O k hk
    have tb := hO.tb _ (List.getElem_mem hk)
    by_cases e : i < st O (k + 1)
    · obtain ⟨j, hj⟩ : ∃ j, i = st O k + (j + 1) := ⟨i - st O k - 1, by omega⟩
      have t1 := rc_at O k j hk (by omega)
      have t2 := rc_at O k (j + 1) hk (by omega)
      rw [← hj] at t2
      rw [show st O k + j = i - 1 by omega] at t1
      rw [t1, t2]
      exact ⟨⟨span_lt hO k (j + 1) hk _, tb⟩, .inr (.inl ⟨by omega, rfl, rfl, span_next hO k j hk (by omega), .inr ⟨k, hk, by omega, by omega, rfl, rfl⟩⟩)⟩
    · have ei : i = st O (k + 1) := by omega
      have hk1 : k + 1 < O.length := by
        by_cases hh : k + 1 < O.length
        · exact hh
        · rw [st_all O (k + 1) (by omega)] at ei; omega
      have p2 := st_lt hO (k + 1) hk1
      have s2 := st_succ O (k + 1) hk1
      have p1 := st_lt hO k hk
      have t1 := rc_at O k (O[k].2.2.length - 1) hk (by omega)
      have t2 := rc_at O (k + 1) 0 hk1 (by omega)
      rw [Nat.add_zero, ← ei] at t2
      rw [show st O k + (O[k].2.2.length - 1) = i - 1 by omega] at t1
      rw [t1, t2]
      have hb := band_next hO k hk1
      refine ⟨⟨span_lt hO (k + 1) 0 hk1 _, hO.tb _ (List.getElem_mem hk1)⟩, .inr (.inr ⟨by omega, ?_, hb, st_le _ _ (by omega), h1, by rw [ei]; exact not_alike hO k hk, .inr ⟨k + 1, hk1, by omega, by omega, ei, rfl⟩⟩)⟩
      show O[k].1 ≠ O[k + 1].1
      omega

theorem at_end {O : List (Int × Int × List (Int × Int))} (hO : Good O) {f ab : Nat} (h : At O (rc O).length f ab) : ab ≤ f ∧ f ≤ (rc O).length ∧ (ab < f → f < (rc O).length) ∧ ¬ AlikeSaw (rc O) ab f (rc O).length := by
  rcases h with ⟨h0, rfl, rfl⟩ | ⟨k, hk, h1, h2, rfl, rfl⟩
  · exact ⟨Nat.le_refl _, by omega, fun h => by omega, fun h => h.1 rfl⟩
  · have e := st_end O (k + 1)
    have : (rc O).length = st O (k + 1) := by omega
    refine ⟨st_le _ _ (by omega), by omega, fun _ => h1, ?_⟩
    rw [this]
    exact not_alike hO k hk

end Go.Proofs.YtofinpocigbbeaaGreat

namespace Go.Proofs.YtofinpocigbbeaaGreat
open Go.RowKit

set_option maxRecDepth 100000 in
set_option maxHeartbeats 2000000 in
theorem plain_any (O : List (Int × Int × List (Int × Int))) (v : Value) (w : World) (hO : Good O) (h : RectsAt w v (rc O)) :
    Calls Tryz.prog 20 #[v] w fun e w' => e = .returned (.bool true) ∧ Below w.heap.size w w' := by
  have hlen : (rc O).length ≤ 10000000 := by
    have h1 := rc_len hO O.length
    rw [List.take_of_length_le (Nat.le_refl _)] at h1
    have h2 := hO.len
    have := Nat.mul_le_mul_right 2001 h2
    omega
  have HO := hide hO
  have HR := hide h
  obtain ⟨va, vc, hv⟩ := h.form
  obtain ⟨n, hn⟩ : ∃ n, (rc O).length = n := ⟨_, rfl⟩
  have HN := hide hn
  rw [hn] at hv hlen
  have HV := hide hv
  have hAl : ∀ (W : World) (a b c : Nat), Below w.heap.size w W → a ≤ b → b ≤ c → c ≤ n → (a < b → b < c) → ¬ AlikeSaw (rc O) a b c → Calls Tryz.prog 44 #[.slice va n vc, .int .i64 a, .int .i64 b, .int .i64 c] W fun e w' => e = .returned (.bool false) ∧ ∃ nq, w' = W.drewN nq := by
    intro W a b c hW h1 h2 h3 h4 h5
    have hW2 : RectsAt W (.slice va n vc) (rc O) := by rw [← hv]; exact h.below hW
    refine (alike_any (rc O) _ a b c W hW2 (by omega) h1 h2 (by omega) h4).mono fun e w' hp => ?_
    obtain ⟨r, he, hr, hw⟩ := hp
    refine ⟨?_, hw⟩
    cases r with
    | false => exact he
    | true => exact absurd (hr rfl) h5
  have HAl := hide hAl
  rw [hv]
  clear hO h hv hn hAl
  go_enter Tryz.func20, Tryz.ntmps20
  go_wp2
  go_loopg [3, 4, 5] n (fun g s3 s4 s5 wr => ∃ i f ab : Nat, s3 = .int .i64 f ∧ s4 = .int .i64 ab ∧ s5 = .int .i64 i ∧ g + i = n ∧ At O i f ab ∧ Below w.heap.size w wr)
  case atStart => exact ⟨0, 0, 0, rfl, rfl, rfl, by omega, .inl ⟨rfl, rfl, rfl⟩, Below.refl _ _⟩
  case round =>
    obtain ⟨i, f, ab, rfl, rfl, rfl, hgi, hat, hbel⟩ := hrel
    cases gk with
    | zero =>
      have hi : i = n := by omega
      subst hi
      have he := at_end HO.out (f := f) (ab := ab) (by rw [HN.out]; exact hat)
      rw [HN.out] at he
      have hA := HAl.out wr ab f i hbel he.1 he.2.1 (Nat.le_refl _) he.2.2.1 he.2.2.2
      have HB := hide hbel
      clear hat hbel he
      go_wp2_with (go_at_call 44; refine hA.mono ?_; rintro e w' ⟨rfl, nq, rfl⟩)
      go_ret
      exact ⟨rfl, below_drewN HB.out _⟩
    | succ g =>
      have hin : i < n := by omega
      have hlt : (i : Int) < (n : Int) := by omega
      obtain ⟨⟨hx, hy⟩, hcase⟩ := at_rect HO.out hat (by rw [HN.out]; exact hin)
      have hRw := HR.out.below hbel
      obtain ⟨b, off, c, e1, c1, c2, c3, c4⟩ := hRw.at i (by rw [HN.out]; exact hin)
      rw [HV.out, HN.out] at e1
      simp at e1
      obtain ⟨rfl, rfl⟩ := e1
      have hzb := cell_lt c1
      obtain ⟨⟨x0, y0, x1, y1⟩, hr⟩ : ∃ r, (rc O).getD i (0, 0, 0, 0) = r := ⟨_, rfl⟩
      rw [hr] at c1 c2 c3 c4 hx hy hcase
      simp only at c1 c2 c3 c4 hx hy hcase
      have hwr := hbel.size
      have HB := hide hbel
      rcases hcase with ⟨rfl, hat1, rfl, rfl⟩ | ⟨hpos, d1, d2, d3, hat1⟩ | ⟨hpos, d1, d2, hab, hfi, hna, hat1⟩
      · have HAt := hide hat1
        simp only [Nat.zero_mul, Nat.add_zero] at c1 c2 c3 c4
        clear hat hat1 hbel hRw hr
        go_wp2
        go_roundg g
        case measure => omega
        case rel => exact ⟨1, 0, 0, rfl, rfl, by go_num, by omega, HAt.out, HB.out.alloc hwr _⟩
      · have HAt := hide hat1
        obtain ⟨im, him⟩ : ∃ m, i - 1 = m := ⟨_, rfl⟩
        rw [him] at d1 d2 d3
        have hsub : (i : Int) - 1 = (im : Int) := by omega
        obtain ⟨b2, off2, k2, e2, p1, p2, p3, p4⟩ := hRw.at im (by rw [HN.out]; omega)
        rw [HV.out, HN.out] at e2
        simp at e2
        obtain ⟨⟨rfl, rfl⟩, rfl⟩ := e2
        obtain ⟨⟨a0, b0, a1, b1⟩, hp⟩ : ∃ r, (rc O).getD im (0, 0, 0, 0) = r := ⟨_, rfl⟩
        rw [hp] at p1 p2 p3 p4 d1 d2 d3
        simp only at p1 p2 p3 p4 d1 d2 d3
        have himn : im < n := by omega
        have i0 : ((i : Int) == 0) = false := by simp; omega
        have e1 : (b0 == y0) = true := by simpa using d1
        have e2 : (b1 != y1) = false := by simpa using d2
        have HD := hide (And.intro d1 d2)
        clear hat hat1 hbel hRw hr hp him d1 d2
        go_wp2
        go_roundg g
        case measure => omega
        case rel => exact ⟨i + 1, f, ab, rfl, rfl, by go_num, by omega, HAt.out, (HB.out.alloc hwr _).alloc (by simp; omega) _⟩
      · have HAt := hide hat1
        obtain ⟨im, him⟩ : ∃ m, i - 1 = m := ⟨_, rfl⟩
        rw [him] at d1 d2
        have hsub : (i : Int) - 1 = (im : Int) := by omega
        obtain ⟨b2, off2, k2, e2, p1, p2, p3, p4⟩ := hRw.at im (by rw [HN.out]; omega)
        rw [HV.out, HN.out] at e2
        simp at e2
        obtain ⟨⟨rfl, rfl⟩, rfl⟩ := e2
        obtain ⟨⟨a0, b0, a1, b1⟩, hp⟩ : ∃ r, (rc O).getD im (0, 0, 0, 0) = r := ⟨_, rfl⟩
        rw [hp] at p1 p2 p3 p4 d1 d2
        simp only at p1 p2 p3 p4 d1 d2
        have himn : im < n := by omega
        have i0 : ((i : Int) == 0) = false := by simp; omega
        have e1 : (b0 == y0) = false := by simpa using d1
        have hA := fun W hW => HAl.out W ab f i hW hab (by omega) (by omega) (fun _ => hfi) hna
        clear hat hat1 hbel hRw hr hp him d1 hna
        go_wp2_with (go_at_call 44; refine (hA _ ?_).mono ?_; exact (HB.out.alloc hwr _).alloc (by simp; omega) _; rintro e w' ⟨rfl, nq, rfl⟩)
        go_roundg g
        case measure => omega
        case rel => exact ⟨i + 1, i, f, rfl, rfl, by go_num, by omega, HAt.out, below_drewN ((HB.out.alloc hwr _).alloc (by simp; omega) _) _⟩

end Go.Proofs.YtofinpocigbbeaaGreat

namespace Go.Proofs.YtofinpocigbbeaaGreat
open Go.RowKit
attribute [local go_sem ↓] Go.wp_at_zero Go.wp_at_succ

/-! ### What a Repaint tells -/

theorem visAll_ids {st : St} (hw : Wf st) {ids : List Int} (h : Told2 st ids) : (st.visAll (-1)).length ≤ ids.length := by
  have e : st.visAll (-1) = st.vis (st.dfs (-1)) := by
    unfold St.visAll St.visP
    rw [if_pos rfl, List.nil_append]
  rw [e]
  have hn : (st.vis (st.dfs (-1))).Nodup := (dfs_nodup_any hw (by omega)).filter _
  have hs : ∀ i ∈ st.vis (st.dfs (-1)), (i : Int) ∈ ids := fun i hi => h i (dfs_sub hw (by omega) (List.mem_filter.1 hi).1)
  have hm : ((st.vis (st.dfs (-1))).map fun i : Nat => (i : Int)).Nodup := by
    unfold List.Nodup
    rw [List.pairwise_map]
    exact hn.imp fun hne e => hne (by omega)
  have hp : ((st.vis (st.dfs (-1))).map fun i : Nat => (i : Int)).length ≤ ids.length := by
    have key : ∀ (l : List Int) (m : List Int), l.Nodup → (∀ i ∈ l, i ∈ m) → l.length ≤ m.length := by
      intro l
      induction l with
      | nil => intro m _ _; simp
      | cons a l ih =>
        intro m hl hm
        rw [List.nodup_cons] at hl
        have ha := hm a (by simp)
        have := ih (m.erase a) hl.2 fun i hi => (List.mem_erase_of_ne (fun (e : i = a) => hl.1 (by rw [← e]; exact hi))).2 (hm i (List.mem_cons_of_mem _ hi))
        rw [List.length_erase_of_mem ha] at this
        have := List.length_pos_of_mem ha
        rw [List.length_cons]
        omega
    refine key _ _ hm fun i hi => ?_
    obtain ⟨j, hj, rfl⟩ := List.mem_map.1 hi
    exact hs j hj
  rw [List.length_map] at hp
  exact hp

/-- How many of the first k points are in a region. -/
def ptsTo (O : Rgn) (k : Nat) : Int := sumTo (fun k => if hasB (rc O) ((k % 8 : Nat) : Int) ((k / 8 : Nat) : Int) = true then 1 else 0) k

theorem ptsTo_bd (O : Rgn) (k : Nat) : 0 ≤ ptsTo O k ∧ ptsTo O k ≤ k := by
  unfold ptsTo
  have := sumTo_bound (fun k => if hasB (rc O) ((k % 8 : Nat) : Int) ((k / 8 : Nat) : Int) = true then 1 else 0) 1 (by omega) k fun i _ => by split <;> omega
  omega

/-- Of what a Repaint tells. -/
structure TellS (st : St) (ids : List Int) (O : Rgn) (z : Int) : Prop where
  good : Good O
  on : ∀ r ∈ rc O, OnScr 8 7 r
  size : laidL (fun _ _ => 1) (rc O) (rc O).length = ptsTo O 56
  z0 : 0 ≤ z
  z1 : z ≤ ptsTo O 56 * ids.length

theorem stale_on {d : Cv} (hd : CvOk d) {age : Nat} {x y : Int} (h : d.stale age x y = true) : d.on x y = true := by
  unfold Cv.stale at h
  split at h
  · exact h
  · obtain ⟨k, _, hk⟩ := List.any_eq_true.1 h
    unfold Cv.back at hk
    cases hq : d.dam[(d.nw + 4 - k) % 4]? with
    | none => rw [hq] at hk; simp [memR] at hk
    | some R =>
      rw [hq] at hk
      exact hd.inside R (List.mem_of_getElem? hq) x y hk

theorem sumTo_mul (f : Nat → Int) (c : Int) : ∀ m, sumTo (fun i => f i * c) m = sumTo f m * c
  | 0 => by simp [sumTo]
  | m + 1 => by
    rw [sumTo_succ, sumTo_succ, sumTo_mul f c m, Int.add_mul]

theorem tell_any {st : St} (hw : Wf st) {ids : List Int} (ht : Told2 st ids) {d : Cv} (hd : CvOk d) (hW : d.W = 8) (hH : d.H = 7) {age : Nat} {O : Rgn} (hG : Good O) (hm : ∀ x y, memR O x y = d.stale age x y) : TellS st ids O (laidL (fun x y => (st.picL (st.visAll (-1)) x y).2) (rc O) (rc O).length) := by
  have hon : ∀ r ∈ rc O, OnScr 8 7 r := fun r hr => rc_on hG (fun x y h => by
    rw [hm] at h
    have := stale_on hd h
    unfold Cv.on at this
    rw [hW, hH] at this
    exact this) hr
  have e1 := laidL_all (fun _ _ => 1) (show 0 < 8 by omega) hG hon
  have e2 := laidL_all (fun x y => (st.picL (st.visAll (-1)) x y).2) (show 0 < 8 by omega) hG hon
  have hpl : ∀ x y : Nat, 0 ≤ (st.picL (st.visAll (-1)) x y).2 ∧ (st.picL (st.visAll (-1)) x y).2 ≤ ids.length := fun x y => by
    have h1 := picU_ok st x y (st.unh (st.visAll (-1)) x y)
    have h2 : (st.unh (st.visAll (-1)) x y).length ≤ (st.visAll (-1)).length := by
      unfold St.unh
      rw [List.length_drop]
      omega
    have h3 := visAll_ids hw ht
    unfold St.picL
    omega
  refine ⟨hG, hon, e1, ?_, ?_⟩
  · rw [e2, ← sumTo_zero (8 * 7)]
    refine sumTo_le _ fun k _ => ?_
    split
    · exact (hpl _ _).1
    · exact Int.le_refl _
  · rw [e2]
    unfold ptsTo
    rw [← sumTo_mul]
    refine sumTo_le _ fun k _ => ?_
    split
    · have := (hpl (k % 8) (k / 8)).2
      omega
    · simp

end Go.Proofs.YtofinpocigbbeaaGreat

namespace Go.Proofs.YtofinpocigbbeaaGreat
open Go.RowKit
attribute [local go_sem ↓] Go.wp_at_zero Go.wp_at_succ

/-- What is so behind k steps. -/
def SprI (w wr : World) (va k : Nat) : Prop := ∃ (S : Nat → Prop) (st : St) (d : Cv) (ids : List Int), Run w wr S va 2 k (2 + k) st d ids

/-- Behind a Repaint: what was, what is, what was told. -/
structure SprJ (w W : World) (va k pb : Nat) (ra : Option Addr) (rn rq : Nat) (z : Int) (O : Rgn) (q : Nat) (bv av : Value) (f f' : Nat → R4) : Prop where
  nx : SprI w W va (k + 1)
  ln : ∃ la lc, ∀ V : World, Below W.heap.size W V → V.cell? ⟨va, 1, none⟩ = some (.slice la q lc)
  q60 : q ≤ 61
  good : Good O
  on : ∀ r ∈ rc O, OnScr 8 7 r
  size : laidL (fun _ _ => 1) (rc O) (rc O).length = ptsTo O 56
  z0 : 0 ≤ z
  z1 : z ≤ ptsTo O 56 * q
  pt : Blk W pb 35 #[.slice ra rn rq, .int .i64 z]
  rne : rn = (rc O).length
  cap : rn ≤ rq
  rects : RectsAt W (.slice ra rn rq) (rc O)
  bx : PixAt W bv (pxL f 56)
  ax : PixAt W av (pxL f' 56)
  same : ∀ j, j < 56 → hasB (rc O) ((j % 8 : Nat) : Int) ((j / 8 : Nat) : Int) = false → f' j = f j

/-- The step, the looks, the Repaint. -/
theorem spr_does {w wr : World} {va k : Nat} (h : SprI w wr va k) (hk : k ≤ 60) (t : StepD) (ht : StepOk t) :
    Calls Tryz.prog 13 #[.pointer (some ⟨va, 0, none⟩), .agg #[.int .i64 t.k, .int .i64 t.a, .int .i64 t.b, .int .i64 t.c, .int .i64 t.d, .bool t.y]] wr fun e w' => e = .returned (.tuple #[]) ∧ ∃ (S : Nat → Prop) (st : St) (d : Cv) (ids : List Int), Run w w' S va 2 (k + 1) (2 + k) st d ids := by
  obtain ⟨S, st, d, ids, h⟩ := h
  refine (h.step (by omega) t ht).mono ?_
  rintro e w' ⟨rfl, ⟨d', _, hr⟩, _⟩
  exact ⟨rfl, _, _, d', _, hr⟩

theorem row_cap {w : World} {base T k n c : Nat} {a : Option Addr} {xs : List Value} (h : w.ownsRow base T k (.slice a n c) n xs) : n ≤ c := by
  by_cases h0 : n = 0
  · omega
  · obtain ⟨g, cap, e1, _, _⟩ := World.ownsRow.form h (by omega)
    injection e1 with e1 _ e3
    subst e1 e3
    exact own_cap h

theorem SprI.below {w wr V : World} {va k : Nat} (h : SprI w wr va k) (hV : Below wr.heap.size wr V) : SprI w V va k :=
  let ⟨S, st, d, ids, q⟩ := h; ⟨S, st, d, ids, q.below hV⟩

theorem ptsTo_next (O : Rgn) (j : Nat) : ptsTo O (j + 1) = ptsTo O j + if hasB (rc O) ((j % 8 : Nat) : Int) ((j / 8 : Nat) : Int) = true then 1 else 0 := rfl

theorem rc_few {O : Rgn} (hO : Good O) (hon : ∀ r ∈ rc O, OnScr 8 7 r) : (rc O).length ≤ 56 := by
  have h1 := laidL_all (fun _ _ => 1) (show 0 < 8 by omega) hO hon
  have h2 : ((rc O).length : Int) ≤ laidL (fun _ _ => 1) (rc O) (rc O).length := by
    unfold laidL
    have key : ∀ m, m ≤ (rc O).length → (m : Int) ≤ sumTo (fun j => laidR (fun _ _ => 1) ((rc O).getD j (0, 0, 0, 0))) m := by
      intro m
      induction m with
      | zero => intro _; exact Int.le_refl _
      | succ m ih =>
        intro hm
        have := ih (by omega)
        rw [sumTo_succ, List.getD_eq_getElem?_getD, List.getElem?_eq_getElem (by omega)]
        simp only [Option.getD_some]
        have hr := List.getElem_mem (show m < (rc O).length by omega)
        rw [area_laid (hon _ hr)]
        have hp := rc_points hO hr
        have h3 : 1 ≤ area (rc O)[m] := by
          unfold area
          have := Int.mul_le_mul (show 1 ≤ (rc O)[m].2.2.1 - (rc O)[m].1 by omega) (show 1 ≤ (rc O)[m].2.2.2 - (rc O)[m].2.1 by omega) (by omega) (by omega)
          omega
        omega
    exact key _ (Nat.le_refl _)
  have h3 : sumTo (fun k => if hasB (rc O) ((k % 8 : Nat) : Int) ((k / 8 : Nat) : Int) = true then (1 : Int) else 0) (8 * 7) ≤ 56 := by
    have := sumTo_bound (fun k => if hasB (rc O) ((k % 8 : Nat) : Int) ((k / 8 : Nat) : Int) = true then (1 : Int) else 0) 1 (by omega) (8 * 7) fun i _ => by split <;> omega
    omega
  omega

/-- Behind the Repaint. -/
theorem spr_paint {w w3 : World} {S A : Nat → Prop} {va k n2 x : Nat} {lv : Value} {st : St} {d : Cv} {ids : List Int} (h : Run w w3 S va 2 (k + 1) (2 + k) st d ids) (ha : AlvX w3 S A va x lv st d ids) (hk : k ≤ 60) (hn : n2 < 2) (ba : Option Addr) (bq : Nat) (hi : n2 < d.bufs.length) (hbx : PixAt w3 (.slice ba 56 bq) (pxL d.bufs[n2].f 56)) (hbo : ∀ g, (Value.slice ba 56 bq).ownBlock = some g → ¬ S g) :
    Calls Tryz.prog 14 #[.pointer (some ⟨x, 0, none⟩), .int .i64 n2] w3 fun e w4 => ∃ (ra : Option Addr) (rn rq : Nat) (z : Int), e = .returned (.tuple #[.agg #[.slice ra rn rq, .int .i64 z], .int .i64 0]) ∧
      ∃ (S4 : Nat → Prop) (d4 : Cv) (hi4 : n2 < d4.bufs.length) (O : Rgn), Run w w4 S4 va 2 (k + 1) (2 + (k + 1)) st d4 ids ∧ TellS st ids O z ∧ rn = (rc O).length ∧ rn ≤ rq ∧ RectsAt w4 (.slice ra rn rq) (rc O) ∧ PixAt w4 (.slice ba 56 bq) (pxL d.bufs[n2].f 56) ∧ ∀ j, j < 56 → hasB (rc O) ((j % 8 : Nat) : Int) ((j / 8 : Nat) : Int) = false → d4.bufs[n2].f j = d.bufs[n2].f j := by
  refine (h.repaint ha (by omega) n2 hn).mono ?_
  rintro e w4 ⟨hi', rv, O, d', rfl, hG, hm, hr, rfl, hR, ho, A', hA⟩
  obtain ⟨ra, rq, hrf⟩ := hr.form
  subst hrf
  obtain ⟨p1, p2, p3, _⟩ := painted_now h.alv.ok hi' (paintL d.W (rc O) (fun x y => (st.picL (st.visAll (-1)) x y).1) d.bufs[n2].f)
  refine ⟨ra, _, rq, _, rfl, _, _, p1, O, hR, tell_any h.fine.wf h.told h.alv.ok h.W h.H hG hm, rfl, row_cap hr.1, hr.rects, hbx.keep fun g hg hl => ho.block g hl (hbo g hg), fun j _ hj => ?_⟩
  rw [p3]
  unfold paintL
  rw [h.W, if_neg (by rw [hj]; simp)]

theorem spr_j {w w4 W6 : World} {S4 : Nat → Prop} {va k pb rn rq q : Nat} {ra : Option Addr} {z : Int} {st : St} {d4 : Cv} {ids : List Int} {O : Rgn} {bv av : Value} {f f' : Nat → R4} (hk : k ≤ 60) (hq : ids.length = q) (hR : Run w w4 S4 va 2 (k + 1) (2 + (k + 1)) st d4 ids) (hT : TellS st ids O z) (hrn : rn = (rc O).length) (hcap : rn ≤ rq) (hrc : RectsAt w4 (.slice ra rn rq) (rc O)) (hbx : PixAt w4 bv (pxL f 56)) (hb : Below w4.heap.size w4 W6) (hpt : Blk W6 pb 35 #[.slice ra rn rq, .int .i64 z]) (hax : PixAt W6 av (pxL f' 56)) (hs : ∀ j, j < 56 → hasB (rc O) ((j % 8 : Nat) : Int) ((j / 8 : Nat) : Int) = false → f' j = f j) : SprJ w W6 va k pb ra rn rq z O q bv av f f' := by
  have hR6 := hR.below hb
  obtain ⟨A, x, lv, hA⟩ := hR6.alv
  obtain ⟨la, lc, hlf⟩ := row_form hA.row
  subst hlf
  refine ⟨⟨_, _, _, _, hR6⟩, ⟨la, lc, fun V hV => ?_⟩, by have := hR.cnt; omega, hT.good, hT.on, hT.size, hT.z0, by rw [← hq]; exact hT.z1, hpt, hrn, hcap, hrc.below hb, hbx.below hb, hax, hs⟩
  rw [← hq]
  exact (hA.below hV).blk.cell 1

set_option maxRecDepth 100000 in
set_option maxHeartbeats 4000000 in
theorem spared_walk (D : List StepD) (E : List Int) (u v : Value) (w : World) (hu : StepsAt w u D) (hv : IntsAt w v E) :
    Calls Tryz.prog 8 #[u, v] w fun e w' => e = .returned (.bool true) ∧ Below w.heap.size w w' := by
  obtain ⟨ua, uc, rfl⟩ := hu.form
  obtain ⟨ea, ec, rfl⟩ := hv.form
  obtain ⟨n, hn⟩ : ∃ n, D.length = n := ⟨_, rfl⟩
  obtain ⟨m, hm⟩ : ∃ m, E.length = m := ⟨_, rfl⟩
  rw [hn] at hu ⊢
  rw [hm] at hv ⊢
  have HU := hide (And.intro hu hn)
  have HV := hide (And.intro hv hm)
  have HB := hide (begun_any 2 (by omega) w)
  clear hu hv hn hm
  go_enter Tryz.func8, Tryz.ntmps8
  go_wp2_with (go_at_call 12; refine HB.out.mono ?_; rintro e w1 ⟨va, rfl, d1, ha, hd, hb⟩; have HR0 := hide (run_start ha hd hb); clear ha hd hb HB)
  go_loopg [7] (min n 60) (fun gg s7 wr => ∃ k : Nat, s7 = .int .i64 k ∧ gg + k = min n 60 ∧ Hid (SprI w wr va k))
  case atStart => exact ⟨0, rfl, by omega, ⟨_, _, _, _, HR0.out⟩⟩
  case round =>
    rename World => wr
    clear HR0
    obtain ⟨k, rfl, hgk, HI⟩ := hrel
    cases gk with
    | zero =>
      have hex : ¬ (k : Int) < (n : Int) ∨ ((k : Int) < (n : Int) ∧ ¬ (k : Int) < 60) := by omega
      rcases hex with h | ⟨h1, h2⟩
      · go_wp2_with fail
        go_ret
        obtain ⟨_, _, _, _, q⟩ := HI.out
        exact ⟨rfl, q.bel⟩
      · go_wp2_with fail
        go_ret
        obtain ⟨_, _, _, _, q⟩ := HI.out
        exact ⟨rfl, q.bel⟩
    | succ gk =>
      have h1 : (k : Int) < (n : Int) := by omega
      have h2 : (k : Int) < 60 := by omega
      have hk60 : k ≤ 60 := by omega
      have hk : k < D.length := by have := HU.out.2; omega
      have hbelw : Below w.heap.size w wr := let ⟨_, _, _, _, q⟩ := HI.out; q.bel
      obtain ⟨hc, b, off, hab, hbl, c0, c1, c2, c3, c4, c5⟩ := HU.out.1.at HU.out.2 hbelw k hk
      subst hab
      obtain ⟨t, ht⟩ : ∃ t, D[k] = t := ⟨_, rfl⟩
      rw [ht] at c0 c1 c2 c3 c4 c5
      have hto := HU.out.1.ok t (ht ▸ List.getElem_mem hk)
      have hkc : k < uc := by omega
      have hk0 : (0 : Int) ≤ (k : Int) := by omega
      have HD1 := hide (spr_does HI.out hk60 t hto)
      clear ht hc hto HI hbelw
      go_upto_region 8 with (go_at_call 13; refine HD1.out.mono ?_; rintro e w2 ⟨rfl, S2, st2, d2, ids2, hI⟩; have HI2 := hide hI; clear hI c0 c1 c2 c3 c4 c5)
      clear HD1
      have hpk : ((k : Int) < (m : Int) ∧ k < E.length) ∨ ¬ (k : Int) < (m : Int) := by have := HV.out.2; omega
      obtain ⟨c, hc64, HC⟩ : ∃ c : Int, I64 c ∧ Hid ((¬ (k : Int) < (m : Int) ∧ c = 0) ∨ ((k : Int) < (m : Int) ∧ k < ec ∧ (0 : Int) ≤ k ∧ ∃ pb po, ea = some ⟨pb, po, none⟩ ∧ w2.cell? ⟨pb, po + k, none⟩ = some (.int .i64 c))) := by
        rcases hpk with ⟨hp, hkE⟩ | hp
        · obtain ⟨hce, pb, po, q1, _, q2⟩ := HV.out.1.at HV.out.2 HI2.out.bel k hkE
          exact ⟨E[k], HV.out.1.ok _ (List.getElem_mem hkE), .inr ⟨hp, by omega, by omega, pb, po, q1, q2⟩⟩
        · exact ⟨0, by unfold I64; omega, .inl ⟨hp, rfl⟩⟩
      clear hpk
      obtain ⟨n2, hn2⟩ : ∃ n2 : Nat, pickI c 2 = n2 := ⟨(pickI c 2).toNat, by have := pick_bd c 2 (by omega); omega⟩
      have hn2b : n2 < 2 := by have := pick_bd c 2 (by omega); omega
      have HPk : Hid (∀ V : World, Calls Tryz.prog 15 #[.int .i64 c, .int .i64 2] V fun e w' => e = .returned (.int .i64 n2) ∧ w' = V) := fun V => by rw [← hn2]; exact pick_any c 2 V hc64.1 hc64.2 (by omega) (by omega)
      clear hn2 hc64
      rcases HC.out with ⟨hp, rfl⟩ | ⟨hp, hkec, hk00, pb, po, rfl, e0⟩
      all_goals
        clear HC
        go_upto_region 13 with (first
          | (go_at_call 15; refine (HPk.out _).mono ?_; rintro e w6 ⟨rfl, hw6⟩; replace hw6 := hw6.symm; subst hw6)
          | (go_at_call 19; refine (alook_any HI2.out n2 hn2b).mono ?_; rintro e w3 ⟨hi3, ba, bq, rfl, ho3, hb3⟩; have HO3 := hide (And.intro ho3 hb3); clear ho3 hb3))
        have HI3 := hide (HI2.out.below HO3.out.2)
        have HBx : Hid (PixAt w3 (.slice ba 56 bq) (pxL d2.bufs[n2].f 56) ∧ ∀ g, (Value.slice ba 56 bq).ownBlock = some g → ¬ S2 g) := ⟨pixAt_own HO3.out.1 (pxL_len _ _), fun g hg hS => by have := (HO3.out.1.lt g hg).1; have := (HI2.out.lo g hS).2; omega⟩
        clear HPk HI2 HO3
        obtain ⟨A3, x3, lv3, ha3⟩ := HI3.out.alv
        have v3 : w3.cell? ⟨va, 0, none⟩ = some (.pointer (some ⟨x3, 0, none⟩)) := ha3.blk.cell 0
        have HRp := hide (spr_paint HI3.out ha3 hk60 hn2b ba bq hi3 HBx.out.1 HBx.out.2)
        obtain ⟨f0, hf0⟩ : ∃ f, d2.bufs[n2].f = f := ⟨_, rfl⟩
        rw [hf0] at HRp
        obtain ⟨q, hq⟩ : ∃ q, ids2.length = q := ⟨_, rfl⟩
        have HQ := hide hq
        clear ha3 HBx hf0 hq
        go_upto_region 14 with (go_at_call 14; refine HRp.out.mono ?_; rintro e w4 ⟨ra, rn, rq, z, rfl, S4, d4, hi4, O, hR4, hT4, hrn, hcap, hrc, hbx, hsm⟩; have HR4 := hide hR4; have HT4 := hide (And.intro hT4 (And.intro hrn (And.intro hcap (And.intro hrc (And.intro hbx hsm))))); clear hR4 hT4 hrn hcap hrc hbx hsm)
        clear v3 HRp HI3
        obtain ⟨p4, hp4⟩ : ∃ pb, w4.heap.size = pb := ⟨_, rfl⟩
        obtain ⟨W4, hW4⟩ : ∃ W, W = w4.alloc (.cells #[.slice ra rn rq, .int .i64 z] 35) := ⟨_, rfl⟩
        have hb4 : Below w4.heap.size w4 W4 := by rw [hW4]; exact (Below.refl _ _).alloc (Nat.le_refl _) _
        have hpt4 : Blk W4 p4 35 #[.slice ra rn rq, .int .i64 z] := by rw [hW4, ← hp4]; exact heap_alloc_new w4 _
        rw [← hW4, hp4]
        have HR5 := hide (HR4.out.below hb4)
        have HPt := hide hpt4
        have HB4 := hide hb4
        clear hb4 hpt4 hW4 hp4
        obtain ⟨f1, hf1⟩ : ∃ f, d4.bufs[n2].f = f := ⟨_, rfl⟩
        have HPl : Hid (∀ V : World, Below w4.heap.size w4 V → Calls Tryz.prog 20 #[.slice ra rn rq] V fun e w' => e = .returned (.bool true) ∧ Below V.heap.size V w') := fun V hV => plain_any O _ V HT4.out.1.good (HT4.out.2.2.2.1.below hV)
        go_upto_region 16 with (first
          | (go_at_call 19; refine (alook_any HR5.out n2 hn2b).mono ?_; rintro e w5 ⟨hi5, aa, aq, rfl, ho5, hb5⟩; rw [hf1] at ho5; have HO5 := hide (And.intro ho5 hb5); have hpt5 := HPt.out.keep (hb5.block _ (block_lt HPt.out)); have k0 : w5.cell? ⟨p4, 0, none⟩ = some (.slice ra rn rq) := hpt5.cell 0; have HPt5 := hide hpt5; clear ho5 hb5 hpt5)
          | (go_at_call 20; refine (HPl.out _ (HB4.out.trans (HO5.out.2.mono HB4.out.size))).mono ?_; rintro e w6 ⟨rfl, hb6⟩; have HJ := hide (spr_j hk60 HQ.out HR4.out HT4.out.1 HT4.out.2.1 HT4.out.2.2.1 HT4.out.2.2.2.1 HT4.out.2.2.2.2.1 ((HB4.out.trans (HO5.out.2.mono HB4.out.size)).trans (hb6.mono (Nat.le_trans HB4.out.size HO5.out.2.size))) (HPt5.out.keep (hb6.block _ (block_lt HPt5.out))) ((pixAt_own HO5.out.1 (pxL_len _ _)).below hb6) (by rw [← hf1]; exact HT4.out.2.2.2.2.2)); clear hb6))
        clear k0 HPl HPt HPt5 HO5 HR5 HB4 HR4 HT4 hf1
        go_wp2_with fail
        go_loopg [15, 16] 56 (fun gg s15 s16 wz => ∃ j nq : Nat, s16 = .int .i64 j ∧ gg + j = 56 ∧ s15 = .int .i64 (ptsTo O j) ∧ wz = w6.drewN nq)
        case atStart => exact ⟨0, 0, rfl, by omega, rfl, rfl⟩
        case round =>
          rename World => wz
          rename Nat => gj
          obtain ⟨j, nq, rfl, hgj, rfl, rfl⟩ := hrel
          have hPb := ptsTo_bd O j
          obtain ⟨P, hP⟩ : ∃ P, ptsTo O j = P := ⟨_, rfl⟩
          rw [hP] at hPb ⊢
          have HP := hide hP
          clear hP
          cases gj with
          | succ gj =>
            have hj56 : (j : Int) < 56 := by omega
            have hj0 : (0 : Int) ≤ (j : Int) := by omega
            obtain ⟨J8, hJ8⟩ : ∃ z : Nat, j % 8 = z := ⟨_, rfl⟩
            obtain ⟨JQ, hJQ⟩ : ∃ z : Nat, j / 8 = z := ⟨_, rfl⟩
            have t8 : (j : Int).tmod 8 = (J8 : Int) := by rw [Int.tmod_eq_emod_of_nonneg hj0]; omega
            have q8 : (j : Int).tdiv 8 = (JQ : Int) := by rw [Int.tdiv_eq_ediv_of_nonneg hj0]; omega
            have w8 : IntKind.i64.wrap (J8 : Int) = (J8 : Int) := by rw [IntKind.wrap_i64]; omega
            have w9 : IntKind.i64.wrap (JQ : Int) = (JQ : Int) := by rw [IntKind.wrap_i64]; omega
            obtain ⟨bb, hbb⟩ : ∃ bb, hasB (rc O) (J8 : Int) (JQ : Int) = bb := ⟨_, rfl⟩
            have HH : Hid (Calls Tryz.prog 21 #[.slice ra rn rq, .int .i64 J8, .int .i64 JQ] (w6.drewN nq) fun e w' => e = .returned (.bool bb) ∧ w' = w6.drewN nq) := by
              rw [← hbb]
              exact hasl_any (rc O) _ J8 JQ _ (HJ.out.rects.below (Joins.below_draws _ _ _)) (by have := rc_few HJ.out.good HJ.out.on; unfold maxLen; omega)
            have HN : Hid (ptsTo O (j + 1) = P + if bb = true then 1 else 0) := by rw [Hid, ptsTo_next, HP.out, hJ8, hJQ, hbb]
            have HSm : Hid (bb = false → f1 j = f0 j) := fun e => HJ.out.same j (by omega) (by rw [hJ8, hJQ, hbb]; exact e)
            have k0 : w6.cell? ⟨p4, 0, none⟩ = some (.slice ra rn rq) := HJ.out.pt.cell 0
            have hlen : ∀ f : Nat → R4, (pxL f 56).length = 56 := fun f => pxL_len _ _
            have hget : ∀ (f : Nat → R4) (h : j < (pxL f 56).length), (pxL f 56)[j] = f j := fun f h => by simp [pxL]
            obtain ⟨ba', bc', hbv, hbc⟩ := HJ.out.bx
            obtain ⟨aa', ac', hav, hac⟩ := HJ.out.ax
            injection hbv with e1 e2 e3
            injection hav with e4 e5 e6
            subst e1 e3 e4 e6
            clear e2 e5
            obtain ⟨hcb, b1, o1, hb1, cb⟩ := hbc (by rw [hlen]; omega)
            obtain ⟨hca, b2, o2, hb2, ca⟩ := hac (by rw [hlen]; omega)
            subst hb1 hb2
            obtain ⟨x0, x1, x2, x3⟩ := cb j (by rw [hlen]; omega)
            obtain ⟨y0, y1, y2, y3⟩ := ca j (by rw [hlen]; omega)
            rw [hget] at x0 x1 x2 x3 y0 y1 y2 y3
            rw [hlen] at hcb hca
            have hjb : j < bq := by omega
            have hja : j < aq := by omega
            have hq9 := eqPix
            clear hbc hac cb ca hlen hget hJ8 hJQ hbb hcb hca
            cases bb with
            | true =>
              clear HSm x0 x1 x2 x3 y0 y1 y2 y3
              go_upto_region 25 with (go_at_call 21; refine HH.out.mono ?_; rintro e w7 ⟨rfl, hw7⟩; subst hw7)
              go_region
              go_wp2_with fail
              go_roundg gj
              case measure => omega
              case rel =>
                have := HN.out
                simp at this
                exact ⟨j + 1, _, by go_num, by omega, by rw [this], rfl⟩
            | false =>
              have hsm := HSm.out rfl
              rw [hsm] at y0 y1 y2 y3
              generalize f0 j = PX at x0 x1 x2 x3 y0 y1 y2 y3
              clear HSm hsm
              go_upto_region 25 with (go_at_call 21; refine HH.out.mono ?_; rintro e w7 ⟨rfl, hw7⟩; subst hw7)
              go_region
              go_wp2_with fail
              go_roundg gj
              case measure => omega
              case rel =>
                have := HN.out
                simp at this
                exact ⟨j + 1, _, by go_num, by omega, by rw [this], rfl⟩
          | zero =>
            have hj : j = 56 := by omega
            subst hj
            have hrnb : rn ≤ 56 := by rw [HJ.out.rne]; exact rc_few HJ.out.good HJ.out.on
            go_wp2_with fail
            go_loopg [18, 19] rn (fun gg s18 s19 wy => ∃ i : Nat, s19 = .int .i64 i ∧ gg + i = rn ∧ s18 = .int .i64 (laidL (fun _ _ => 1) (rc O) i) ∧ Hid (Below w6.heap.size w6 wy))
            case atStart => exact ⟨0, rfl, by omega, rfl, Joins.below_draws _ _ _⟩
            case round =>
              rename World => wy
              rename Nat => gi
              obtain ⟨i, rfl, hgi, rfl, HBy⟩ := hrel
              obtain ⟨Z, hZ⟩ : ∃ Z, laidL (fun _ _ => 1) (rc O) i = Z := ⟨_, rfl⟩
              have hZb : 0 ≤ Z ∧ Z ≤ 56 * 576000 := by
                have := laidL_bound (fun _ _ => 1) (fun _ _ => by omega) 8 7 (by omega) (by omega) (rc O) HJ.out.on i (by rw [← HJ.out.rne]; omega)
                rw [hZ] at this
                omega
              rw [hZ]
              have HZ := hide hZ
              clear hZ
              have hpt := HJ.out.pt.keep (HBy.out.block _ (block_lt HJ.out.pt))
              have k0 : wy.cell? ⟨p4, 0, none⟩ = some (.slice ra rn rq) := hpt.cell 0
              have k1 : wy.cell? ⟨p4, 1, none⟩ = some (.int .i64 z) := hpt.cell 1
              clear hpt
              cases gi with
              | succ gi =>
                have hlt : (i : Int) < (rn : Int) := by omega
                have hi0 : (0 : Int) ≤ (i : Int) := by omega
                have hil : i < (rc O).length := by rw [← HJ.out.rne]; omega
                have hirq : i < rq := by have := HJ.out.cap; omega
                obtain ⟨ra', rc', hrv, hrcs⟩ := HJ.out.rects.below HBy.out
                injection hrv with e1 e2 e3
                subst e1 e3
                obtain ⟨b3, o3, hb3, cr⟩ := hrcs (by omega)
                subst hb3
                obtain ⟨r0, r1, r2, r3⟩ := cr i hil
                have hon := HJ.out.on _ (List.getElem_mem hil)
                have hnx : laidL (fun _ _ => 1) (rc O) (i + 1) = Z + area (rc O)[i] := by
                  rw [← HZ.out, ← area_laid hon]
                  unfold laidL
                  rw [sumTo_succ, List.getD_eq_getElem?_getD, List.getElem?_eq_getElem hil]
                  rfl
                obtain ⟨x0, y0, x1, y1, hr, hx, hX, hy, hY⟩ := hon.nats
                rw [hr] at r0 r1 r2 r3 hnx
                simp only at r0 r1 r2 r3
                unfold area at hnx
                simp only at hnx
                obtain ⟨dx, hdx⟩ : ∃ dx : Nat, (x1 : Int) - (x0 : Int) = dx := ⟨x1 - x0, by omega⟩
                obtain ⟨dy, hdy⟩ : ∃ dy : Nat, (y1 : Int) - (y0 : Int) = dy := ⟨y1 - y0, by omega⟩
                rw [hdx, hdy] at hnx
                have hdx8 : dx ≤ 8 := by omega
                have hdy7 : dy ≤ 7 := by omega
                obtain ⟨C, hC⟩ : ∃ C : Nat, (dx : Int) * (dy : Int) = C := ⟨dx * dy, by simp⟩
                have hCb : C ≤ 56 := by
                  have := Nat.mul_le_mul hdx8 hdy7
                  have e : ((dx * dy : Nat) : Int) = C := by rw [← hC]; simp
                  omega
                rw [hC] at hnx
                have m1 : IntKind.i64.wrap ((x1 : Int) - (x0 : Int)) = (dx : Int) := by rw [IntKind.wrap_i64]; omega
                have m2 : IntKind.i64.wrap ((y1 : Int) - (y0 : Int)) = (dy : Int) := by rw [IntKind.wrap_i64]; omega
                have m3 : IntKind.i64.wrap ((dx : Int) * (dy : Int)) = (C : Int) := by rw [hC, IntKind.wrap_i64]; omega
                have m4 : IntKind.i64.wrap (Z + (C : Int)) = Z + (C : Int) := by rw [IntKind.wrap_i64]; omega
                have n1 : ¬ (x0 : Int) < 0 := by omega
                have n2' : ¬ (y0 : Int) < 0 := by omega
                have n3 : ¬ (8 : Int) < (x1 : Int) := by omega
                have n4 : ¬ (7 : Int) < (y1 : Int) := by omega
                have HNx := hide hnx
                clear e2 hrcs cr hon hr hnx hC hdx hdy hx hX hy hY hil k1
                go_wp2_with fail
                go_roundg gi
                case measure => omega
                case rel =>
                  refine ⟨i + 1, by go_num, by omega, by rw [HNx.out], ?_⟩
                  exact HBy.out.alloc HBy.out.size _
              | zero =>
                have hir : i = rn := by omega
                subst hir
                have hZP : Z = P := by rw [← HZ.out, ← HP.out, ← HJ.out.size, ← HJ.out.rne]
                subst hZP
                have hlt : ¬ (i : Int) < (i : Int) := by omega
                obtain ⟨la, lc, hln⟩ := HJ.out.ln
                have v1 := hln wy HBy.out
                obtain ⟨pn, hpn⟩ : ∃ pn : Nat, Z = pn := ⟨Z.toNat, by omega⟩
                obtain ⟨PQ, hPQ⟩ : ∃ z : Int, Z * (q : Int) = z := ⟨_, rfl⟩
                have hPQb : 0 ≤ PQ ∧ PQ ≤ 3416 := by
                  have h9 := Nat.mul_le_mul (show pn ≤ 56 by omega) HJ.out.q60
                  have e : ((pn * q : Nat) : Int) = PQ := by rw [← hPQ, hpn]; simp
                  omega
                have m5 : IntKind.i64.wrap (Z * (q : Int)) = PQ := by rw [hPQ, IntKind.wrap_i64]; omega
                have hz1 : ¬ PQ < z := by
                  have := HJ.out.z1
                  rw [HP.out, hPQ] at this
                  omega
                have hz0 : ¬ z < 0 := by have := HJ.out.z0; omega
                clear hln hPQ hpn
                go_upto_region 35 with fail
                go_region
                go_wp2_with fail
                go_roundg gk
                case measure => omega
                case rel =>
                  refine ⟨k + 1, by go_num, by omega, HJ.out.nx.below ?_⟩
                  repeat (first | exact HBy.out | exact HBy.out.trans (Joins.below_draws _ _ _) | refine Below.drew ?_)

end Go.Proofs.YtofinpocigbbeaaGreat
