import Derived.Test.YtofinpocigbbeaaRaw
namespace Go.Proofs.Ytofinpocigbbeaa
open Go.RowKit

theorem hasB_rc (O : List (Int × Int × List (Int × Int))) (x y : Int) : hasB (rc O) x y = memR O x y := by
  induction O with
  | nil => rfl
  | cons b O ih =>
    have e : rc (b :: O) = (b.2.2.map fun s => (s.1, b.1, s.2, b.2.1)) ++ rc O := rfl
    rw [e, memR_cons, ← ih]
    unfold hasB
    rw [List.any_append, List.any_map]
    congr 1
    unfold memS
    rw [Bool.eq_iff_iff]
    simp only [List.any_eq_true, Function.comp, inR, Bool.and_eq_true, decide_eq_true_eq]
    constructor
    · rintro ⟨s, hs, h⟩
      exact ⟨by omega, s, hs, by omega⟩
    · rintro ⟨h1, s, hs, h⟩
      exact ⟨s, hs, by omega⟩

theorem rawR_len (l : List (Int × Int × Int × Int)) : (rawR l).length ≤ 20 := by
  unfold rawR
  rw [List.length_map, List.length_take]
  omega

theorem errB_raw (l m : List (Int × Int × Int × Int)) : errB (rawR l) (rawR m) = 0 := by
  have h1 := rawR_len l
  have h2 := rawR_len m
  have f : ∀ l : List (Int × Int × Int × Int), (rawR l).all fitR = true := by
    intro l
    rw [List.all_eq_true]
    intro r hr
    unfold rawR at hr
    rw [List.mem_map] at hr
    obtain ⟨r', _, rfl⟩ := hr
    exact mkR_fit r'
  unfold errB
  rw [if_neg (by omega), if_pos ⟨f l, f m⟩]

theorem OwnR.below {w w' : World} {base : Nat} {v : Value} {l : List (Int × Int × Int × Int)} (h : OwnR w base v l) (hb : Below w.heap.size w w') : RectsAt w' v l := h.rects.below hb

set_option maxRecDepth 100000 in
set_option maxHeartbeats 4000000 in
theorem combined_walk (kind : Int) (lf ls : List (Int × Int × Int × Int)) (vf vs : Value) (w : World) (k0 : fits64 kind) (hf : RectsAt w vf lf) (hs : RectsAt w vs ls) (hlf : lf.length ≤ maxLen) (hls : ls.length ≤ maxLen)
    (gf : ∀ r ∈ lf, fits64 r.1 ∧ fits64 r.2.1 ∧ fits64 r.2.2.1 ∧ fits64 r.2.2.2) (gs : ∀ r ∈ ls, fits64 r.1 ∧ fits64 r.2.1 ∧ fits64 r.2.2.1 ∧ fits64 r.2.2.2) :
    Calls Try.prog 5 #[.int .i64 kind, vf, vs] w fun e w' => e = .returned (.bool true) ∧ Below w.heap.size w w' := by
  have c1 := fun W => raw_any lf vf W
  have hP := fun W => pick_any kind 4 W k0.1 k0.2 (by omega) (by omega)
  have hK := pick_bd kind 4 (by omega)
  generalize pickI kind 4 = K at *
  have HF := hide (And.intro hf (And.intro hs (And.intro hlf (And.intro hls (And.intro gf gs)))))
  obtain ⟨fa, fc, hvf⟩ := hf.form
  obtain ⟨sa, sc, hvs⟩ := hs.form
  have HVV := hide (And.intro hvf hvs)
  clear hf hs hlf hls gf gs c1 hvf hvs
  go_enter Try.func5, Try.ntmps5
  go_wp2_with fail
  refine (raw_any lf vf _ HF.out.1 HF.out.2.2.1 HF.out.2.2.2.2.1).mono ?_
  rintro e w1 ⟨va, rfl, ha, b1⟩
  have H1 := hide (And.intro ha b1)
  obtain ⟨aa, ac, rfl⟩ := ha.form
  clear ha b1
  go_wp2_with fail
  refine (raw_any ls vs _ (HF.out.2.1.below H1.out.2) HF.out.2.2.2.1 HF.out.2.2.2.2.2).mono ?_
  rintro e w2 ⟨vb, rfl, hb, b2⟩
  have H2 := hide (And.intro hb b2)
  obtain ⟨ba, bc, rfl⟩ := hb.form
  clear hb b2
  go_wp2_with fail
  refine (hP _).mono ?_
  rintro e w2' ⟨rfl, hw⟩
  replace hw := hw.symm
  subst hw
  go_wp2_with fail
  refine (pcombine_any K (rawR lf) (rawR ls) _ _ _ (H1.out.1.below H2.out.2) H2.out.1.rects (by have := rawR_len lf; unfold maxLen; omega) (by have := rawR_len ls; unfold maxLen; omega)).mono ?_
  rintro e w3 ⟨b3, vl, er, rfl, hans⟩
  have hz := errB_raw lf ls
  rcases hans with ⟨h, _⟩ | ⟨_, h, _⟩ | ⟨_, _, rfl, O, hl, hO, hm⟩
  · exact absurd ⟨hK.1, by omega⟩ h
  · exact absurd hz h
  have H3 := hide (And.intro hl (And.intro hO (And.intro hm b3)))
  obtain ⟨la, lc, rfl⟩ := hl.form
  clear hl hO hm b3 hz
  go_wp2_with fail
  refine (plain_any O _ _ H3.out.2.1 H3.out.1.rects).mono ?_
  rintro e w4 ⟨rfl, b4⟩
  have H4 := hide b4
  clear b4
  have hbel : Below w.heap.size w w4 := by
    have x2 := H1.out.2.trans (H2.out.2.mono H1.out.2.size)
    have x3 := x2.trans (H3.out.2.2.2.mono x2.size)
    exact x3.trans (H4.out.mono x3.size)
  have hcon : ∀ x y : Int, ∃ p q : Bool, (Calls Try.prog 14 #[.slice aa (rawR lf).length ac, .int .i64 x, .int .i64 y] w4 fun e w' => e = .returned (.bool p) ∧ w' = w4) ∧ (Calls Try.prog 14 #[.slice ba (rawR ls).length bc, .int .i64 x, .int .i64 y] w4 fun e w' => e = .returned (.bool q) ∧ w' = w4) ∧ (Calls Try.prog 14 #[.slice la (rc O).length lc, .int .i64 x, .int .i64 y] w4 fun e w' => e = .returned (.bool (keepB K p q)) ∧ w' = w4) := by
    intro x y
    have x3 := H2.out.2.trans (H3.out.2.2.2.mono H2.out.2.size)
    have x4 := x3.trans (H4.out.mono x3.size)
    have y4 := H3.out.2.2.2.trans (H4.out.mono H3.out.2.2.2.size)
    refine ⟨hasB (rawR lf) x y, hasB (rawR ls) x y, has_any _ _ x y w4 (H1.out.1.rects.below x4) (by have := rawR_len lf; unfold maxLen; omega), has_any _ _ x y w4 (H2.out.1.rects.below y4) (by have := rawR_len ls; unfold maxLen; omega), ?_⟩
    have h := has_any (rc O) _ x y w4 (H3.out.1.rects.below H4.out) (by
      have h1 := rc_len H3.out.2.1 O.length
      rw [List.take_of_length_le (Nat.le_refl _)] at h1
      have h2 := Nat.mul_le_mul_right 2001 H3.out.2.1.len
      unfold maxLen; omega)
    rw [hasB_rc, H3.out.2.2.1] at h
    exact h
  have HC := hide hcon
  have HB := hide hbel
  clear hcon hbel H1 H2 H3 H4 HF HVV hP
  generalize (rawR lf).length = n1 at *
  generalize (rawR ls).length = n2 at *
  generalize (rc O).length = n3 at *
  go_wp2
  go_loopg [13] 27 (fun g s13 wr => ∃ k : Nat, s13 = .int .i64 ((k : Int) - 13) ∧ g + k = 27 ∧ wr = w4)
  case atStart => exact ⟨0, rfl, by omega, rfl⟩
  case round =>
    rename Nat => gO
    obtain ⟨k, rfl, hgk, hw⟩ := hrel
    subst hw
    cases gO with
    | zero =>
      have hlt : ¬ (k : Int) - 13 < 14 := by omega
      go_wp2
      go_ret
      exact ⟨rfl, HB.out⟩
    | succ g =>
      have hlt : (k : Int) - 13 < 14 := by omega
      go_wp2
      go_loopg [14] 27 (fun g s14 wx => ∃ j : Nat, s14 = .int .i64 ((j : Int) - 13) ∧ g + j = 27 ∧ wx = wr)
      case atStart => exact ⟨0, rfl, by omega, rfl⟩
      case round =>
        rename World => wx
        rename Nat => gI
        obtain ⟨j, rfl, hgj, hw⟩ := hrel
        replace hw := hw.symm
        subst hw
        cases gI with
        | zero =>
          have hlt2 : ¬ (j : Int) - 13 < 14 := by omega
          go_wp2
          go_roundg g
          case measure => omega
          case rel => exact ⟨k + 1, by go_num, by omega, rfl⟩
        | succ gj =>
          have hlt2 : (j : Int) - 13 < 14 := by omega
          obtain ⟨p, q, h1, h2, h3⟩ := HC.out ((j : Int) - 13) ((k : Int) - 13)
          have hK4 : K = 0 ∨ K = 1 ∨ K = 2 ∨ K = 3 := by omega
          rcases hK4 with rfl | rfl | rfl | rfl
          all_goals
            cases p <;> cases q
            all_goals
              simp [keepB] at h3
              go_wp2_with (first
                | (go_at_call_of 14 (Value.slice aa n1 ac); refine h1.mono ?_; rintro e w' ⟨rfl, hw⟩; replace hw := hw.symm; subst hw)
                | (go_at_call_of 14 (Value.slice ba n2 bc); refine h2.mono ?_; rintro e w' ⟨rfl, hw⟩; replace hw := hw.symm; subst hw)
                | (go_at_call_of 14 (Value.slice la n3 lc); refine h3.mono ?_; rintro e w' ⟨rfl, hw⟩; replace hw := hw.symm; subst hw))
              go_roundg gj
              case measure => omega
              case rel => exact ⟨j + 1, by go_num, by omega, rfl⟩

end Go.Proofs.Ytofinpocigbbeaa
