import Derived.Test.YtofinpocigbbeaaPixB
import Derived.ProofKit
import Derived.Laws.IdiomArrays
import Derived.OpenShut
namespace Go.Proofs.Ytofinpocigbbeaa
open Go.RowKit

set_option maxRecDepth 100000 in
set_option maxHeartbeats 1000000 in
theorem overs_any (a b c d e f g h : Int) (w : World) (ha : 0 ≤ a ∧ a ≤ 255) (hb : 0 ≤ b ∧ b ≤ 255) (hc : 0 ≤ c ∧ c ≤ 255) (hd : 0 ≤ d ∧ d ≤ 255) (he : 0 ≤ e ∧ e ≤ 255) (hf : 0 ≤ f ∧ f ≤ 255) (hg : 0 ≤ g ∧ g ≤ 255) (hh : 0 ≤ h ∧ h ≤ 255) :
    Calls Try.prog 4 #[.agg #[.int .u8 a, .int .u8 b, .int .u8 c, .int .u8 d], .agg #[.int .u8 e, .int .u8 f, .int .u8 g, .int .u8 h]] w fun x w' =>
      x = .returned (.bool true) ∧ Below w.heap.size w w' := by
  obtain ⟨A, B, C, D, E, h1, h2⟩ : ∃ A B C D E : Int, (∀ w, Calls Try.prog 8 #[.agg #[.int .u8 a, .int .u8 b, .int .u8 c, .int .u8 d], .agg #[.int .u8 e, .int .u8 f, .int .u8 g, .int .u8 h]] w fun x w' =>
        x = .returned (.tuple #[.agg #[.int .u8 A, .int .u8 B, .int .u8 C, .int .u8 D], .int .i64 E]) ∧ Below w.heap.size w w') ∧
      (∀ w, Calls Try.prog 9 #[.agg #[.int .u8 a, .int .u8 b, .int .u8 c, .int .u8 d], .agg #[.int .u8 e, .int .u8 f, .int .u8 g, .int .u8 h]] w fun x w' =>
        x = .returned (.tuple #[.agg #[.int .u8 A, .int .u8 B, .int .u8 C, .int .u8 D], .int .i64 E]) ∧ Below w.heap.size w w') := by
    by_cases h1 : fitB a b c d = true
    · by_cases h2 : fitB e f g h = true
      · exact ⟨_, _, _, _, _, fun w => povers_yes a b c d e f g h w hd he hf hg hh h1 h2, fun w => rovers_yes a b c d e f g h w ha hb hc hd he hf hg hh h1 h2⟩
      · exact ⟨_, _, _, _, _, fun w => povers_no2 a b c d e f g h w h1 (by simpa using h2), fun w => rovers_no2 a b c d e f g h w h1 (by simpa using h2)⟩
    · exact ⟨_, _, _, _, _, fun w => povers_no1 a b c d e f g h w (by simpa using h1), fun w => rovers_no1 a b c d e f g h w (by simpa using h1)⟩
  clear ha hb hc hd he hf hg hh
  go_enter Try.func4, Try.ntmps4
  go_wp2_with fail
  refine (h1 _).mono ?_
  rintro x w1 ⟨rfl, hbl⟩
  have hz : w.heap.size + 1 < w1.heap.size := by have := hbl.size; simp at this; omega
  have hz0 : w.heap.size < w1.heap.size := by omega
  obtain ⟨hcl, hfl⟩ := bcell hbl
  have k0 : w1.cell? ⟨w.heap.size, 0, none⟩ = some (.int .u8 a) := (hcl _ _ (by simp <;> omega)).trans (by simp)
  have k1 : w1.cell? ⟨w.heap.size, 1, none⟩ = some (.int .u8 b) := (hcl _ _ (by simp <;> omega)).trans (by simp)
  have k2 : w1.cell? ⟨w.heap.size, 2, none⟩ = some (.int .u8 c) := (hcl _ _ (by simp <;> omega)).trans (by simp)
  have k3 : w1.cell? ⟨w.heap.size, 3, none⟩ = some (.int .u8 d) := (hcl _ _ (by simp <;> omega)).trans (by simp)
  have l0 : w1.cell? ⟨w.heap.size + 1, 0, none⟩ = some (.int .u8 e) := (hcl _ _ (by simp <;> omega)).trans (by simp)
  have l1 : w1.cell? ⟨w.heap.size + 1, 1, none⟩ = some (.int .u8 f) := (hcl _ _ (by simp <;> omega)).trans (by simp)
  have l2 : w1.cell? ⟨w.heap.size + 1, 2, none⟩ = some (.int .u8 g) := (hcl _ _ (by simp <;> omega)).trans (by simp)
  have l3 : w1.cell? ⟨w.heap.size + 1, 3, none⟩ = some (.int .u8 h) := (hcl _ _ (by simp <;> omega)).trans (by simp)
  have HB : Hid (Below w.heap.size w w1) := Below.trans (((Below.refl _ _).alloc (Nat.le_refl _) _).alloc (by simp) _) (hbl.mono (by simp <;> omega))
  clear hcl hfl hbl
  go_wp2_with fail
  refine (h2 _).mono ?_
  rintro x w2 ⟨rfl, hbm⟩
  have hz2 : w1.heap.size < w2.heap.size := by have := hbm.size; simp at this; omega
  obtain ⟨hcm, hfm⟩ := bcell hbm
  have m0 : w2.cell? ⟨w1.heap.size, 0, none⟩ = some (.int .u8 A) := (hcm _ _ (by simp <;> omega)).trans (by simp)
  have m1 : w2.cell? ⟨w1.heap.size, 1, none⟩ = some (.int .u8 B) := (hcm _ _ (by simp <;> omega)).trans (by simp)
  have m2 : w2.cell? ⟨w1.heap.size, 2, none⟩ = some (.int .u8 C) := (hcm _ _ (by simp <;> omega)).trans (by simp)
  have m3 : w2.cell? ⟨w1.heap.size, 3, none⟩ = some (.int .u8 D) := (hcm _ _ (by simp <;> omega)).trans (by simp)
  have HC : Hid (Below w.heap.size w w2) := Below.trans (HB.out.alloc (by omega) _) (hbm.mono (by simp <;> omega))
  clear hcm hfm hbm k0 k1 k2 k3 l0 l1 l2 l3 h1 h2
  have hq := eqPix A B C D A B C D
  simp only [beq_self_eq_true, Bool.and_self] at hq
  go_wp2
  go_ret
  exact ⟨rfl, HC.out.alloc (by omega) _⟩

open Go.ChangeShapes Go.WideShapes Go.ChangeAt

theorem own : ownKnob Try.prog.godebug = none := by kernel_rfl
theorem laidOut : laidOutB Try.prog = true := by kernel_rfl
theorem cells8 : Try.prog.cellsOf 5 = 1 := by kernel_rfl
theorem cellsPix : Try.prog.cellsOf 34 = 4 := by kernel_rfl

theorem list4 {α : Type} (l : List α) (h : (⟨l⟩ : Array α).size = 4) : ∃ a b c d, l = [a, b, c, d] := by
  match l, h with
  | [a, b, c, d], _ => exact ⟨a, b, c, d, rfl⟩

theorem wf8 {x : Int} (h : (Lit.int .u8 x).wf = true) : 0 ≤ x ∧ x ≤ 255 := by
  have := bounds_u8 h
  omega

set_option maxRecDepth 100000 in
/-- A pixel that came in. -/
theorem open_pixel {H : Type} {enc : TypeId × Value → H} {W : World} {base : Nat} {v : Value} {d : DataW H} {p : List MemPlace}
    (hv : Value.okWide Try.prog W .any base 34 v) (h : DataW.Trod enc Try.prog W 0 (fun _ => true) true 34 v d p) :
    ∃ a b c e : Int, v = .agg #[.int .u8 a, .int .u8 b, .int .u8 c, .int .u8 e] ∧ (0 ≤ a ∧ a ≤ 255) ∧ (0 ≤ b ∧ b ≤ 255) ∧ (0 ≤ c ∧ c ≤ 255) ∧ (0 ≤ e ∧ e ≤ 255) := by
  obtain ⟨cs, rfl, hsz, _⟩ : ∃ cs, v = .agg cs ∧ cs.size = Try.prog.cellsOf 34 ∧ Row.okWide Try.prog W .any base 34 cs := by
    simpa [Value.okWide, Try.underlying34] using hv
  rw [cellsPix] at hsz
  obtain ⟨l⟩ := cs
  obtain ⟨c0, c1, c2, c3, rfl⟩ := list4 l hsz
  obtain ⟨fuel, hf⟩ := h
  obtain ⟨y0, y1, y2, y3, m, hx, hy0, hy1, hy2, hy3⟩ := trod_array4 Try.underlying34 cells8 hf
  obtain ⟨x0, e0, _, w0⟩ := DataW.trod_int Try.underlying5 hy0
  obtain ⟨x1, e1, _, w1⟩ := DataW.trod_int Try.underlying5 hy1
  obtain ⟨x2, e2, _, w2⟩ := DataW.trod_int Try.underlying5 hy2
  obtain ⟨x3, e3, _, w3⟩ := DataW.trod_int Try.underlying5 hy3
  simp at e0 e1 e2 e3
  subst e0 e1 e2 e3
  exact ⟨x0, x1, x2, x3, rfl, wf8 w0, wf8 w1, wf8 w2, wf8 w3⟩

set_option maxRecDepth 100000 in
theorem overs_lifted (os : Os) (started : os.Started) (H : Type) (enc : TypeId × Value → H) :
    ReturnsInHanded {} Try.checked os 4 .any (Rows.oversSpec.pre6 enc Try.prog Try.f4 Rows.oversRow.domain false) (Rows.oversSpec.post enc Try.prog Try.f4 false true false false) := by
  refine returnsInHanded_of_change (C := Try.checked) own started (by kernel_rfl) Try.func4
    (ChangeSpec.witness6 (enc := enc) (C := Try.checked) false ⟨#[], #[.agg #[.int .u8 0, .int .u8 0, .int .u8 0, .int .u8 0], .agg #[.int .u8 0, .int .u8 0, .int .u8 0, .int .u8 0]], []⟩ 8 (by kernel_rfl) (by kernel_rfl) (by kernel_rfl) (by kernel_rfl)) ?_
  intro W base args ds gs before hval0 hW hcnd _
  have hval : ∀ (j : Nat) t v, Try.f4.params[j]? = some t → args[j]? = some v → Value.okWide Try.prog W .any base t v := hval0
  have hW' := hW
  obtain ⟨p, q, hA0, hV, rfl, hfz, hnd⟩ := hW
  have hA : DataW.TrodAll enc Try.prog W 0 (fun _ => true) true Try.f4.params.toList args.toList ds p := hA0
  rw [Try.params4] at hA hval
  obtain ⟨v0, v1, d0, d1, p0, p1, rfl, rfl, rfl, h0, h1⟩ := trodAll_two hA
  obtain ⟨rfl, rfl⟩ := trodVars_none hV
  have lt0 : ∀ x ∈ p0, x.block < W.heap.size := by obtain ⟨m, hm⟩ := h0; exact DataW.trod_lt m _ _ _ hm
  have lt1 : ∀ x ∈ p1, x.block < W.heap.size := by obtain ⟨m, hm⟩ := h1; exact DataW.trod_lt m _ _ _ hm
  obtain ⟨a, b, c, d, rfl, ha, hb, hc, hd⟩ := open_pixel (hval 0 34 v0 rfl rfl) h0
  obtain ⟨e, f, g, h, rfl, he, hf, hg, hh⟩ := open_pixel (hval 1 34 v1 rfl rfl) h1
  clear hA0 hval0
  refine (overs_any a b c d e f g h W ha hb hc hd he hf hg hh).mono fun e W' ⟨he, bel⟩ => ?_
  subst he
  exact ⟨_, rfl, _, _, _, [], _, [], hW', trodAll_mk1 (shut_bool Try.underlying4 _), (trodAll_cons_mk (Below.trod laidOut (by kernel_rfl) (of_decide_eq_true (by kernel_rfl)) h0 bel lt0) (trodAll_cons_mk (Below.trod laidOut (by kernel_rfl) (of_decide_eq_true (by kernel_rfl)) h1 bel lt1) trodAll_mk0)), rfl, bel.frame _, fun h => by cases h⟩

theorem overs_holds : Rows.OversSaid :=
  OpenClaim.holds_of_wide 4 Try.f4 rfl rfl rfl rfl rfl rfl rfl ⟨rfl, rfl, rfl, rfl, rfl⟩ rfl rfl rfl rfl rfl (by kernel_rfl) Try.func4 (by kernel_rfl)
    (of_decide_eq_true (by kernel_rfl)) (by unfold Func.isWrapper; first | (rw [if_pos (by decide +kernel)]; kernel_rfl) | (rw [if_neg (by decide +kernel)]; exact ⟨rfl, rfl⟩))
    (fun os started H enc _ => overs_lifted os started H enc)

#print axioms overs_holds
end Go.Proofs.Ytofinpocigbbeaa
