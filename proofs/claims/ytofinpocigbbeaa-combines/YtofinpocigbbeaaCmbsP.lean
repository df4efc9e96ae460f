import Derived.Test.YtofinpocigbbeaaCmbsW
import Derived.Test.YtofinpocigbbeaaArg
import Derived.SizedLaws
namespace Go.Proofs.Ytofinpocigbbeaa
open Go.ChangeShapes Go.WideShapes Go.ChangeAt Go.RowKit Go.Deep

theorem rectBytes : Try.prog.bytesOf 52 = 32 := by kernel_rfl

set_option maxRecDepth 100000 in
/-- A slice of rectangles that came in: nil, or not; and how its datum looks. -/
theorem open_rects_form {H : Type} {enc : TypeId × Value → H} {W : World} {base : Nat} {v : Value} {d : DataW H} {p : List MemPlace} {l : List (Int × Int × Int × Int)}
    (hv : Value.okWide Try.prog W .any base 22 v) (h : DataW.Trod enc Try.prog W 0 (fun _ => true) true 22 v d p) (hl : RectsAt W v l) :
    (v = .slice none 0 0 ∧ l = []) ∨ ((∃ ad c, v = .slice (some ad) l.length c) ∧ ∃ el sp, d = .slice el sp ∧ el.length = l.length) := by
  obtain ⟨x, ln, cp, rfl⟩ := okWide_slice Try.underlying22 hv
  obtain ⟨a', c', e'⟩ := hl.form
  simp only [Value.slice.injEq] at e'
  obtain ⟨_, e2, _⟩ := e'
  obtain ⟨fuel, hf⟩ := h
  rcases open_slice Try.underlying22 hf with ⟨hcs, _⟩ | ⟨a, len, cap, m, n, D, Pl, hcs, _, _, _, _, hd, _⟩
  · simp [Value.cells] at hcs
    obtain ⟨rfl, rfl, rfl⟩ := hcs
    exact .inl ⟨rfl, List.length_eq_zero_iff.1 e2.symm⟩
  · simp [Value.cells] at hcs
    obtain ⟨rfl, rfl, rfl⟩ := hcs
    refine .inr ⟨⟨a, cp, by rw [e2]⟩, _, _, (Prod.ext_iff.1 hd).1, by simp [e2]⟩

set_option maxRecDepth 100000 in
set_option maxHeartbeats 1000000 in
theorem combines_walk (kind : Int) (la lb : List (Int × Int × Int × Int)) (va vb : Value) (w : World) (ha : RectsAt w va la) (hb : RectsAt w vb lb)
    (fa : (va = .slice none 0 0 ∧ la = []) ∨ ∃ ad c, va = .slice (some ad) la.length c) (fb : (vb = .slice none 0 0 ∧ lb = []) ∨ ∃ ad c, vb = .slice (some ad) lb.length c) (ra : la.length * 32 ≤ 140737488351232) (rb : lb.length * 32 ≤ 140737488351232) :
    Calls Try.prog 3 #[.int .i64 kind, va, vb] w fun e w' => e = .returned (.bool true) ∧ Below w.heap.size w w' := by
  have HA := hide (And.intro ha (And.intro hb (And.intro fa (And.intro fb (And.intro ra rb)))))
  clear ha hb fa fb ra rb
  go_enter Try.func3, Try.ntmps3
  go_wp2_with fail
  have hb0 := fun o => (Below.refl w.heap.size w).alloc (Nat.le_refl _) o
  refine (played_any kind la lb va vb w.heap.size #[.slice none 0 0, .slice none 0 0, .slice none 0 0, .slice none 0 0] _ (HA.out.1.below (hb0 _)) (HA.out.2.1.below (hb0 _)) HA.out.2.2.1 HA.out.2.2.2.1 HA.out.2.2.2.2.1 HA.out.2.2.2.2.2 (heap_alloc_new w _) rfl).mono ?_
  rintro e w1 ⟨rfl, b1⟩
  have H1 := hide ((hb0 _).trans b1)
  clear b1 hb0
  go_wp2
  go_ret
  exact ⟨rfl, H1.out⟩

set_option maxRecDepth 100000 in
theorem combines_lifted (os : Os) (started : os.Started) (H : Type) (enc : TypeId × Value → H) :
    ReturnsInHanded {} Try.checked os 3 .any (Rows.combinesSpec.pre6 enc Try.prog Try.f3 Rows.combinesRow.domain false) (Rows.combinesSpec.post enc Try.prog Try.f3 false true false false) := by
  refine returnsInHanded_of_change_sized (C := Try.checked) arg_own started (by kernel_rfl) Try.func3
    (ChangeSpec.witness6 (enc := enc) (C := Try.checked) false ⟨#[], #[.int .i64 0, .slice none 0 0, .slice none 0 0], []⟩ 8 (by kernel_rfl) (by kernel_rfl) (by kernel_rfl) (by kernel_rfl)) ?_
  intro W base args ds gs before hval0 hW hcnd hsz0 _
  have hval : ∀ (j : Nat) t v, Try.f3.params[j]? = some t → args[j]? = some v → Value.okWide Try.prog W .any base t v := hval0
  have hsz : (DataW.weightsEach Try.prog (Try.f3.params.toList ++ Rows.combinesSpec.plain.varTypes Try.prog) (ds ++ gs)).all (· ≤ reachBytes) = true := hsz0
  have hW' := hW
  obtain ⟨p, q, hA0, hV, rfl, hfz, hnd⟩ := hW
  have hA : DataW.TrodAll enc Try.prog W 0 (fun _ => true) true Try.f3.params.toList args.toList ds p := hA0
  rw [Try.params3] at hA hval hsz
  obtain ⟨v0, v1, v2, d0, d1, d2, p0, p1, p2, rfl, rfl, rfl, h0, h1, h2⟩ := trodAll_three hA
  obtain ⟨rfl, rfl⟩ := trodVars_none hV
  have lt1 : ∀ x ∈ p1, x.block < W.heap.size := by obtain ⟨m, hm⟩ := h1; exact DataW.trod_lt m _ _ _ hm
  have lt2 : ∀ x ∈ p2, x.block < W.heap.size := by obtain ⟨m, hm⟩ := h2; exact DataW.trod_lt m _ _ _ hm
  obtain ⟨a0, rfl, rfl, rfl, w0⟩ := open_int Try.underlying3 (hval 0 3 v0 rfl rfl) h0
  obtain ⟨l1, r1, len1, fit1⟩ := open_rects (hval 1 22 v1 rfl rfl) h1
  obtain ⟨l2, r2, len2, fit2⟩ := open_rects (hval 2 22 v2 rfl rfl) h2
  have f1 := open_rects_form (hval 1 22 v1 rfl rfl) h1 r1
  have f2 := open_rects_form (hval 2 22 v2 rfl rfl) h2 r2
  have s1 : l1.length * 32 ≤ 140737488351232 := by
    rcases f1 with ⟨_, rfl⟩ | ⟨_, el, sp, hd, hlen⟩
    · simp
    · have := sized_slice hsz (j := 1) (t := 22) (e := 52) rfl (by rw [hd]; rfl) Try.underlying22
      rw [rectBytes, hlen] at this
      unfold reachBytes at this
      omega
  have s2 : l2.length * 32 ≤ 140737488351232 := by
    rcases f2 with ⟨_, rfl⟩ | ⟨_, el, sp, hd, hlen⟩
    · simp
    · have := sized_slice hsz (j := 2) (t := 22) (e := 52) rfl (by rw [hd]; rfl) Try.underlying22
      rw [rectBytes, hlen] at this
      unfold reachBytes at this
      omega
  clear hA0 hval0
  refine (combines_walk a0 l1 l2 v1 v2 W r1 r2 (f1.imp id And.left) (f2.imp id And.left) s1 s2).mono fun e W' ⟨he, bel⟩ => ?_
  subst he
  exact ⟨_, rfl, _, _, _, [], _, [], hW', trodAll_mk1 (shut_bool Try.underlying4 _), (trodAll_cons_mk (shut_int Try.underlying3 w0) (trodAll_cons_mk (Below.trod arg_laidOut (by kernel_rfl) (of_decide_eq_true (by kernel_rfl)) h1 bel lt1) (trodAll_cons_mk (Below.trod arg_laidOut (by kernel_rfl) (of_decide_eq_true (by kernel_rfl)) h2 bel lt2) trodAll_mk0))), rfl, bel.frame _, fun h => by cases h⟩

theorem combines_holds : Rows.CombinesSaid :=
  OpenClaim.holds_of_wide 3 Try.f3 rfl rfl rfl rfl rfl rfl rfl ⟨rfl, rfl, rfl, rfl, rfl⟩ rfl rfl rfl rfl rfl (by kernel_rfl) Try.func3 (by kernel_rfl)
    (of_decide_eq_true (by kernel_rfl)) (by unfold Func.isWrapper; first | (rw [if_pos (by decide +kernel)]; kernel_rfl) | (rw [if_neg (by decide +kernel)]; exact ⟨rfl, rfl⟩))
    (fun os started H enc _ => combines_lifted os started H enc)

#print axioms combines_holds
end Go.Proofs.Ytofinpocigbbeaa
