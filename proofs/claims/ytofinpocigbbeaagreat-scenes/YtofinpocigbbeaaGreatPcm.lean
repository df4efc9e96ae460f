import Derived.Test.YtofinpocigbbeaaGreatRcs
namespace Go.Proofs.YtofinpocigbbeaaGreat
open Go.RowKit

def errB (la lb : List (Int × Int × Int × Int)) : Int := if 20 < la.length ∨ 20 < lb.length then 2 else if la.all fitR = true ∧ lb.all fitR = true then 0 else 3

set_option maxRecDepth 100000 in
set_option maxHeartbeats 1000000 in
theorem check_many (B na ca nb cb : Nat) (aa ab : Option Addr) (w : World) (h0 : w.cell? ⟨B, 0, none⟩ = some (.slice aa na ca)) (h1 : w.cell? ⟨B, 1, none⟩ = some (.slice ab nb cb)) (hna : na ≤ maxLen) (hnb : nb ≤ maxLen) (h : 20 < na ∨ 20 < nb) :
    Calls Tryz.prog 71 #[.slice (some ⟨B, 0, none⟩) 2 2] w fun e w' => e = .returned (.int .i64 2) ∧ w' = w := by
  unfold maxLen at hna hnb
  by_cases hh : 20 < na
  · have g1 : (20 : Int) < (na : Int) := by omega
    go_enter Tryz.func71, Tryz.ntmps71
    go_wp2
    refine wp_loop_rounds 3 ?_
    rw [rounds_succ]
    go_wp2
    go_ret
    exact ⟨rfl, rfl⟩
  · have g0 : ¬ (20 : Int) < (na : Int) := by omega
    have g1 : (20 : Int) < (nb : Int) := by omega
    clear h hh
    go_enter Tryz.func71, Tryz.ntmps71
    go_wp2
    refine wp_loop_rounds 3 ?_
    rw [rounds_succ]
    go_wp2
    rw [rounds_succ]
    go_wp2
    go_ret
    exact ⟨rfl, rfl⟩

set_option maxRecDepth 100000 in
set_option maxHeartbeats 2000000 in
theorem check_few (B : Nat) (la lb : List (Int × Int × Int × Int)) (va vb : Value) (w : World) (h0 : w.cell? ⟨B, 0, none⟩ = some va) (h1 : w.cell? ⟨B, 1, none⟩ = some vb) (ha : RectsAt w va la) (hb : RectsAt w vb lb) (hla : la.length ≤ 20) (hlb : lb.length ≤ 20) :
    Calls Tryz.prog 71 #[.slice (some ⟨B, 0, none⟩) 2 2] w fun e w' => e = .returned (.int .i64 (if la.all fitR = true ∧ lb.all fitR = true then 0 else 3)) ∧ Below w.heap.size w w' := by
  have HA := hide ha
  have HBB := hide hb
  obtain ⟨aa, ca, rfl, _⟩ := ha
  obtain ⟨ab, cb, rfl, _⟩ := hb
  obtain ⟨res, hres⟩ : ∃ r : Int, (if la.all fitR = true ∧ lb.all fitR = true then 0 else 3) = r := ⟨_, rfl⟩
  rw [hres]
  have HRes := hide hres
  clear hres
  have hB := cell_lt h0
  have HL := hide (And.intro hla hlb)
  obtain ⟨na, hna⟩ : ∃ n, la.length = n := ⟨_, rfl⟩
  obtain ⟨nb, hnb⟩ : ∃ n, lb.length = n := ⟨_, rfl⟩
  rw [hna] at h0 hla
  rw [hnb] at h1 hlb
  have HN := hide (And.intro hna hnb)
  clear hna hnb
  have g0 : ¬ (20 : Int) < (na : Int) := by omega
  have g1 : ¬ (20 : Int) < (nb : Int) := by omega
  go_enter Tryz.func71, Tryz.ntmps71
  go_wp2
  refine wp_loop_rounds 3 ?_
  rw [rounds_succ]
  go_wp2
  rw [rounds_succ]
  go_wp2
  rw [rounds_succ]
  go_wp2
  go_loopg [21] 2 (fun g s21 wr => ∃ k : Nat, s21 = .int .i64 k ∧ g + k = 2 ∧ (1 ≤ k → la.all fitR = true) ∧ (2 ≤ k → lb.all fitR = true) ∧ Below w.heap.size w wr)
  case atStart => exact ⟨0, rfl, by omega, fun h => by omega, fun h => by omega, Below.refl _ _⟩
  case round =>
    rename World => wo
    rename Nat => gO
    obtain ⟨k, rfl, hgk, ok1, ok2, hbel⟩ := hrel
    cases gO with
    | zero =>
      have hk : k = 2 := by omega
      subst hk
      have HE := hide (And.intro (ok1 (by omega)) (And.intro (ok2 (by omega)) hbel))
      clear ok1 ok2 hbel
      go_wp2
      go_ret
      refine ⟨ret_int ?_, HE.out.2.2⟩
      rw [← HRes.out, if_pos ⟨HE.out.1, HE.out.2.1⟩]
    | succ g =>
      obtain ⟨l, n, x, c, hcell, hl, hn, hn20, hsel, hno⟩ : ∃ (l : List (Int × Int × Int × Int)) (n : Nat) (x : Option Addr) (c : Nat), wo.cell? ⟨B, k, none⟩ = some (.slice x n c) ∧ RectsAt w (.slice x n c) l ∧ l.length = n ∧ n ≤ 20 ∧ (l.all fitR = true → (1 ≤ k + 1 → la.all fitR = true) ∧ (2 ≤ k + 1 → lb.all fitR = true)) ∧ (l.all fitR = false → res = 3) := by
        have hk : k = 0 ∨ k = 1 := by omega
        rcases hk with rfl | rfl
        · refine ⟨la, na, aa, ca, (hbel.cell hB).trans h0, by rw [← HN.out.1]; exact HA.out, HN.out.1, hla, fun h => ⟨fun _ => h, fun h2 => by omega⟩, fun h => ?_⟩
          rw [← HRes.out, if_neg]
          rw [h]; simp
        · refine ⟨lb, nb, ab, cb, (hbel.cell hB).trans h1, by rw [← HN.out.2]; exact HBB.out, HN.out.2, hlb, fun h => ⟨fun _ => ok1 (by omega), fun _ => h⟩, fun h => ?_⟩
          rw [← HRes.out, if_neg]
          rw [h]; simp
      have hk2 : (k : Int) < 2 := by omega
      have hzB := cell_lt hcell
      have HX := hide (And.intro hl (And.intro hn (And.intro hsel (And.intro hno hbel))))
      clear hl hn hsel hno hbel ok1 ok2
      go_wp2
      go_loopg [27] n (fun gg s27 wr => ∃ q : Nat, s27 = .int .i64 q ∧ gg + q = n ∧ (∀ r ∈ l.take q, fitR r = true) ∧ Below w.heap.size w wr)
      case atStart => exact ⟨0, rfl, by omega, fun r hr => by simp at hr, HX.out.2.2.2.2⟩
      case round =>
        obtain ⟨q, rfl, hgq, hfit, hbr⟩ := hrel
        cases gk with
        | zero =>
          have hq : ¬ (q : Int) < (n : Int) := by omega
          have HY := hide (And.intro hfit hbr)
          clear hfit hbr
          go_wp2
          go_roundg g
          case measure => omega
          case rel =>
            have hall : l.all fitR = true := by
              rw [List.all_eq_true]
              have := HY.out.1
              rw [List.take_of_length_le (by have := HX.out.2.1; omega)] at this
              exact this
            have hs := HX.out.2.2.1 hall
            exact ⟨k + 1, by go_num, by omega, hs.1, hs.2, HY.out.2⟩
        | succ gq =>
          have hq : (q : Int) < (n : Int) := by omega
          have hqn : q < n := by omega
          have hql : q < l.length := by have := HX.out.2.1; omega
          obtain ⟨x', c', hx', hcs⟩ := HX.out.1
          have hx2 : x = x' := by simp at hx'; exact hx'.1
          subst hx2
          obtain ⟨b, off, rfl, hct⟩ := hcs (by omega)
          obtain ⟨c1, c2, c3, c4⟩ := hct q hql
          have hbl := cell_lt c1
          obtain ⟨⟨x0, y0, x1, y1⟩, hr⟩ : ∃ r, l[q] = r := ⟨_, rfl⟩
          rw [hr] at c1 c2 c3 c4
          simp only at c1 c2 c3 c4
          replace c1 := (hbr.cell hbl).trans c1
          replace c2 := (hbr.cell hbl).trans c2
          replace c3 := (hbr.cell hbl).trans c3
          replace c4 := (hbr.cell hbl).trans c4
          have hzb := cell_lt c1
          have hwr := hbr.size
          have hM := fun W => mayBeR_any x0 y0 x1 y1 W
          obtain ⟨p, hp⟩ : ∃ p, fitR (x0, y0, x1, y1) = p := ⟨_, rfl⟩
          rw [hp] at hM
          have HY := hide (And.intro hfit (And.intro hbr (And.intro hr hp)))
          clear hfit hbr hr hp hcs hct hx'
          cases p with
          | true =>
            go_wp2_with (go_at_call 68; refine (hM _).mono ?_; rintro e w' ⟨rfl, rfl⟩)
            go_roundg gq
            case measure => omega
            case rel =>
              obtain ⟨hfit, hbr, hr, hp⟩ := HY.out
              refine ⟨q + 1, by go_num, by omega, fun r hr' => ?_, (hbr.alloc hwr _).alloc (by simp; omega) _⟩
              rw [List.take_succ_eq_append_getElem hql, hr] at hr'
              simp at hr'
              rcases hr' with h | h
              · exact hfit r h
              · subst h; exact hp
          | false =>
            go_wp2_with (go_at_call 68; refine (hM _).mono ?_; rintro e w' ⟨rfl, rfl⟩)
            go_ret
            obtain ⟨hfit, hbr, hr, hp⟩ := HY.out
            refine ⟨ret_int ?_, (hbr.alloc hwr _).alloc (by simp; omega) _⟩
            refine (HX.out.2.2.2.1 ?_).symm
            rw [List.all_eq_false]
            exact ⟨l[q], List.getElem_mem hql, by rw [hr, hp]; simp⟩

theorem RectsAt.form {w : World} {v : Value} {l : List (Int × Int × Int × Int)} (h : RectsAt w v l) : ∃ a c, v = .slice a l.length c := by
  obtain ⟨a, c, hv, _⟩ := h
  exact ⟨a, c, hv⟩

theorem check_any (B : Nat) (la lb : List (Int × Int × Int × Int)) (va vb : Value) (w : World) (h0 : w.cell? ⟨B, 0, none⟩ = some va) (h1 : w.cell? ⟨B, 1, none⟩ = some vb) (ha : RectsAt w va la) (hb : RectsAt w vb lb) (hla : la.length ≤ maxLen) (hlb : lb.length ≤ maxLen) :
    Calls Tryz.prog 71 #[.slice (some ⟨B, 0, none⟩) 2 2] w fun e w' => e = .returned (.int .i64 (errB la lb)) ∧ Below w.heap.size w w' := by
  unfold errB
  by_cases h : 20 < la.length ∨ 20 < lb.length
  · rw [if_pos h]
    obtain ⟨aa, ca, rfl⟩ := ha.form
    obtain ⟨ab, cb, rfl⟩ := hb.form
    exact (check_many B _ ca _ cb aa ab w h0 h1 hla hlb h).mono fun e w' ⟨he, hw⟩ => ⟨he, by subst hw; exact Below.refl _ _⟩
  · rw [if_neg h]
    exact check_few B la lb va vb w h0 h1 ha hb (by omega) (by omega)

/-- What Combine answers: the error, or a list of rectangles of its own. -/
def Answer (kind : Int) (la lb : List (Int × Int × Int × Int)) (w : World) (e : Ending) (w' : World) : Prop :=
  Below w.heap.size w w' ∧ ∃ v er, e = .returned (.tuple #[v, .int .i64 er]) ∧
    ((¬ (0 ≤ kind ∧ kind ≤ 3) ∧ v = .slice none 0 0 ∧ er = 1) ∨ ((0 ≤ kind ∧ kind ≤ 3) ∧ errB la lb ≠ 0 ∧ v = .slice none 0 0 ∧ er = errB la lb) ∨
      ((0 ≤ kind ∧ kind ≤ 3) ∧ errB la lb = 0 ∧ er = 0 ∧ ∃ O, OwnR w' w.heap.size v (rc O) ∧ Good O ∧ ∀ x y, memR O x y = keepB kind (hasB la x y) (hasB lb x y)))

theorem OwnR.lower {w : World} {base base' : Nat} {v : Value} {l : List (Int × Int × Int × Int)} (h : OwnR w base v l) (hb : base' ≤ base) : OwnR w base' v l := by
  obtain ⟨⟨h1, h2⟩, h3⟩ := h
  refine ⟨⟨h1, ?_⟩, h3⟩
  rcases h2 with h2 | ⟨g, cap, cur, a1, a2, a3⟩
  · exact .inl h2
  · exact .inr ⟨g, cap, cur, a1, by omega, a3⟩

theorem errB_zero {la lb : List (Int × Int × Int × Int)} (h : errB la lb = 0) : la.length ≤ 20 ∧ lb.length ≤ 20 ∧ (∀ r ∈ la, fitR r = true) ∧ ∀ r ∈ lb, fitR r = true := by
  unfold errB at h
  split at h
  · omega
  · rename_i h1
    split at h
    · rename_i h2
      exact ⟨by omega, by omega, List.all_eq_true.1 h2.1, List.all_eq_true.1 h2.2⟩
    · omega

set_option maxRecDepth 100000 in
set_option maxHeartbeats 1000000 in
theorem pcombine_any (kind : Int) (la lb : List (Int × Int × Int × Int)) (va vb : Value) (w : World) (ha : RectsAt w va la) (hb : RectsAt w vb lb) (hla : la.length ≤ maxLen) (hlb : lb.length ≤ maxLen) :
    Calls Tryz.prog 83 #[.int .i64 kind, va, vb] w (Answer kind la lb w) := by
  by_cases hk : 0 ≤ kind ∧ kind ≤ 3
  · obtain ⟨aa, ca, rfl⟩ := ha.form
    obtain ⟨ab, cb, rfl⟩ := hb.form
    have hck : ∀ W, Below w.heap.size w W → W.cell? ⟨w.heap.size, 0, none⟩ = some (.slice aa la.length ca) → W.cell? ⟨w.heap.size, 1, none⟩ = some (.slice ab lb.length cb) → Calls Tryz.prog 71 #[.slice (some ⟨w.heap.size, 0, none⟩) 2 2] W fun e w' => e = .returned (.int .i64 (errB la lb)) ∧ Below W.heap.size W w' := fun W hW h0 h1 =>
      check_any w.heap.size la lb _ _ W h0 h1 (ha.below hW) (hb.below hW) hla hlb
    have HAns := hide (rfl : Answer kind la lb w = Answer kind la lb w)
    obtain ⟨er, her⟩ : ∃ x, errB la lb = x := ⟨_, rfl⟩
    rw [her] at hck
    have HE := hide her
    have HAB := hide (And.intro ha hb)
    have HK := hide hk
    obtain ⟨hk0, hk3⟩ := hk
    obtain ⟨na, hna⟩ : ∃ n, la.length = n := ⟨_, rfl⟩
    obtain ⟨nb, hnb⟩ : ∃ n, lb.length = n := ⟨_, rfl⟩
    rw [hna, hnb] at hck
    rw [hna, hnb]
    rw [hna, hnb] at HAB
    have HN := hide (And.intro hna hnb)
    clear hna hnb ha hb hla hlb her
    by_cases h0 : (er != 0) = true
    · go_enter Tryz.func83, Tryz.ntmps83
      go_wp2_with (go_at_call 71; refine (hck _ ?_ ?_ ?_).mono ?_; exact (Below.refl _ _).alloc (Nat.le_refl _) _; (simp); (simp); rintro e w1 ⟨rfl, hb1⟩; have HB1 := hide hb1; clear hb1)
      go_ret2
      refine ⟨((Below.refl _ _).alloc (Nat.le_refl _) _).trans (HB1.out.mono (by simp)), _, er, rfl, .inr (.inl ⟨HK.out, ?_, rfl, HE.out.symm⟩)⟩
      rw [HE.out]; simpa using h0
    · have h0 : (er != 0) = false := by simpa using h0
      have he0 : er = 0 := by simpa using h0
      have hz := errB_zero (HE.out.trans he0)
      have HZ := hide (And.intro he0 hz)
      clear he0 hz
      go_enter Tryz.func83, Tryz.ntmps83
      go_wp2_with (first
        | (go_at_call 71; refine (hck _ ?_ ?_ ?_).mono ?_; exact (Below.refl _ _).alloc (Nat.le_refl _) _; (simp); (simp); rintro e w1 ⟨rfl, hb1⟩; have HB1 := hide (((Below.refl _ w).alloc (Nat.le_refl _) _).trans (hb1.mono (by simp))); clear hb1)
        | (go_at_call_of 73 (Value.slice aa na ca); refine (of_any la _ _ (HAB.out.1.below HB1.out) (Nat.le_trans HZ.out.2.1 (by omega)) HZ.out.2.2.2.1).mono ?_; rintro e w2 ⟨u1, O1, rfl, hu1, hO1, hm1, hb2⟩; have H2 := hide (And.intro hu1 (And.intro hO1 (And.intro hm1 hb2))); clear hu1 hO1 hm1 hb2)
        | (go_at_call_of 73 (Value.slice ab nb cb); refine (of_any lb _ _ ((HAB.out.2.below HB1.out).below H2.out.2.2.2) (Nat.le_trans HZ.out.2.2.1 (by omega)) HZ.out.2.2.2.2).mono ?_; rintro e w3 ⟨u2, O2, rfl, hu2, hO2, hm2, hb3⟩; have H3 := hide (And.intro hu2 (And.intro hO2 (And.intro hm2 hb3))); clear hu2 hO2 hm2 hb3)
        | (go_at_call 103; refine (combine_any kind O1 O2 _ _ _ H2.out.2.1 H3.out.2.1 (H2.out.1.below H3.out.2.2.2) H3.out.1).mono ?_; rintro e w4 ⟨v4, O4, rfl, hv4, hO4, hm4, hb4⟩; have H4 := hide (And.intro hv4 (And.intro hO4 (And.intro hm4 hb4))); clear hv4 hO4 hm4 hb4)
        | (go_at_call 77; refine (rects_any O4 _ _ H4.out.1 H4.out.2.1).mono ?_; rintro e w5 ⟨v5, rfl, hv5, hb5⟩; have H5 := hide (And.intro hv5 hb5); clear hv5 hb5))
      go_ret2
      have hb := HB1.out
      have hb2 := hb.trans (H2.out.2.2.2.mono hb.size)
      have hb3 := hb2.trans (H3.out.2.2.2.mono hb2.size)
      have hb4 := hb3.trans (H4.out.2.2.2.mono hb3.size)
      refine ⟨hb4.trans (H5.out.2.mono hb4.size), _, 0, rfl, .inr (.inr ⟨HK.out, HE.out.trans HZ.out.1, rfl, O4, H5.out.1.lower hb4.size, H4.out.2.1, fun x y => ?_⟩)⟩
      rw [H4.out.2.2.1, H2.out.2.2.1, H3.out.2.2.1]
  · have HAns : Hid (¬ (0 ≤ kind ∧ kind ≤ 3)) := hk
    by_cases h1 : kind < 0
    · clear hk
      go_enter Tryz.func83, Tryz.ntmps83
      go_wp2
      go_ret2
      exact ⟨Below.refl _ _, _, _, rfl, .inl ⟨HAns.out, rfl, rfl⟩⟩
    · have h2 : 3 < kind := by omega
      clear hk
      go_enter Tryz.func83, Tryz.ntmps83
      go_wp2
      go_ret2
      exact ⟨Below.refl _ _, _, _, rfl, .inl ⟨HAns.out, rfl, rfl⟩⟩

end Go.Proofs.YtofinpocigbbeaaGreat
