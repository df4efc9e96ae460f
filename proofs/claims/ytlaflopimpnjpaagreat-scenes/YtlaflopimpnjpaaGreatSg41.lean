import Derived.Test.YtlaflopimpnjpaaGreatSg40
import Derived.SizedLaws
/-! ScnP -/
namespace Go.Proofs.YtlaflopimpnjpaaGreat
open Go.ChangeShapes Go.WideShapes Go.ChangeAt Go.RowKit Go.Deep

theorem OpDok.below {w w' : World} {d : OpD} (h : OpDok w d) (hb : Below w.heap.size w w') : OpDok w' d := ⟨h.k64, h.pix.below hb, h.form, h.fit⟩

theorem OpsAt.below {w w' : World} {v : Value} {D : List OpD} (h : OpsAt w v D) (hb : Below w.heap.size w w') : OpsAt w' v D :=
  ⟨h.form, fun a c e i hi => by
    obtain ⟨h1, b, off, h2, h3, h4⟩ := h.cells a c e i hi
    exact ⟨h1, b, off, h2, Nat.lt_of_lt_of_le h3 hb.size, fun o u hu => (hb.cell (p := ⟨b, off + i * 13 + o, none⟩) h3).trans (h4 o u hu)⟩,
  fun d hd => (h.ok d hd).below hb⟩

def kindsA : Array Value := #[.int .i64 1, .int .i64 2, .int .i64 3, .int .i64 4, .int .i64 5, .int .i64 6, .int .i64 7, .int .i64 9, .int .i64 10, .int .i64 11]

theorem kindsA_at (j : Nat) (hj : j < 10) : kindsA[j]? = some (.int .i64 (kindsL[j]'hj)) := by
  match j, hj with
  | 0, _ | 1, _ | 2, _ | 3, _ | 4, _ | 5, _ | 6, _ | 7, _ | 8, _ | 9, _ => rfl

set_option maxRecDepth 100000 in
set_option maxHeartbeats 1000000 in
theorem scenes_walk (D : List OpD) (v : Value) (w : World) (h : OpsAt w v D) (hD : D.length ≤ 926000000000) :
    Calls Tryz.prog 3 #[v] w fun e w' => e = .returned (.bool true) ∧ Below w.heap.size w w' := by
  have hb0 := (Below.refl w.heap.size w).alloc (Nat.le_refl _) (.cells kindsA 3)
  have HP := hide (plays_any D v w.heap.size _ (h.below hb0) hD (by simp) fun j hj => (Joins.cell_of_block (heap_alloc_new w _) j).trans (kindsA_at j hj))
  have HB := hide hb0
  clear h hb0
  unfold kindsA at HP HB
  go_enter Tryz.func3, Tryz.ntmps3
  go_wp2_with (go_at_call 4; refine HP.out.mono ?_; rintro e w1 ⟨rfl, b1⟩; have H1 := hide (HB.out.trans (b1.mono (by simp))); clear b1)
  go_ret
  exact ⟨rfl, H1.out⟩

set_option maxRecDepth 100000 in
theorem scenes_lifted (os : Os) (started : os.Started) (H : Type) (enc : TypeId × Value → H) :
    ReturnsInHanded {} Tryz.checked os 3 .any (Rows.scenesSpec.pre6 enc Tryz.prog Tryz.f3 Rows.scenesRow.domain false) (Rows.scenesSpec.post enc Tryz.prog Tryz.f3 false true false false) := by
  refine returnsInHanded_of_change_sized (C := Tryz.checked) arg_own started (by kernel_rfl) Tryz.func3
    (ChangeSpec.witness6 (enc := enc) (C := Tryz.checked) false ⟨#[], #[.slice none 0 0], []⟩ 8 (by kernel_rfl) (by kernel_rfl) (by kernel_rfl) (by kernel_rfl)) ?_
  intro W base args ds gs before hval0 hW hcnd hsz0 _
  have hval : ∀ (j : Nat) t v, Tryz.f3.params[j]? = some t → args[j]? = some v → Value.okWide Tryz.prog W .any base t v := hval0
  have hsz : (DataW.weightsEach Tryz.prog (Tryz.f3.params.toList ++ Rows.scenesSpec.plain.varTypes Tryz.prog) (ds ++ gs)).all (· ≤ reachBytes) = true := hsz0
  have hW' := hW
  obtain ⟨p, q, hA0, hV, rfl, hfz, hnd⟩ := hW
  have hA : DataW.TrodAll enc Tryz.prog W 0 (fun _ => true) true Tryz.f3.params.toList args.toList ds p := hA0
  rw [Tryz.params3] at hA hval hsz
  obtain ⟨v0, d0, rfl, rfl, h0⟩ := trodAll_one hA
  obtain ⟨rfl, rfl⟩ := trodVars_none hV
  have lt0 : ∀ x ∈ p, x.block < W.heap.size := by obtain ⟨m, hm⟩ := h0; exact DataW.trod_lt m _ _ _ hm
  obtain ⟨D, hD, hlen⟩ := open_ops (hval 0 22 v0 rfl rfl) h0 fun n hn => by
    have := List.all_eq_true.1 hsz n (DataW.weights_mem_each (j := 0) rfl rfl n hn)
    simpa using this
  clear hA0 hval0
  refine (scenes_walk D v0 W hD hlen).mono fun e W' ⟨he, bel⟩ => ?_
  subst he
  exact ⟨_, rfl, _, _, _, [], _, [], hW', trodAll_mk1 (shut_bool Tryz.underlying4 _), (trodAll_cons_mk (Below.trod arg_laidOut (by kernel_rfl) (of_decide_eq_true (by kernel_rfl)) h0 bel lt0) trodAll_mk0), rfl, bel.frame _, fun h => by cases h⟩

theorem scenes_holds : Rows.ScenesSaid :=
  OpenClaim.holds_of_wide 3 Tryz.f3 rfl rfl rfl rfl rfl rfl rfl ⟨rfl, rfl, rfl, rfl, rfl⟩ rfl rfl rfl rfl rfl (by kernel_rfl) Tryz.func3 (by kernel_rfl)
    (of_decide_eq_true (by kernel_rfl)) (by unfold Func.isWrapper; first | (rw [if_pos (by decide +kernel)]; kernel_rfl) | (rw [if_neg (by decide +kernel)]; exact ⟨rfl, rfl⟩))
    (fun os started H enc _ => scenes_lifted os started H enc)

#print axioms scenes_holds
end Go.Proofs.YtlaflopimpnjpaaGreat
