import Derived.Orders
import Derived.Tactics
namespace Go.Proofs.Ytofinpocigbbeaa

section
variable {P : Program} {ops : Array Oper} {Q : Exit → Act → World → Prop} {md : Region.Mode}

/-- How many operations are not listed yet. -/
def unl (n : Nat) (listed : Array Bool) : Nat := (List.range n).countP fun i => !listed.getD i true

theorem unl_succ (m : Nat) (L : Array Bool) : unl (m + 1) L = unl m L + (if L.getD m true = true then 0 else 1) := by
  unfold unl
  rw [List.range_succ, List.countP_append]
  cases h : L.getD m true <;> simp [-Array.getD_eq_getD_getElem?, h]

theorem unl_set (n : Nat) (listed : Array Bool) (i : Nat) (hi : i < n) (hl : listed.getD i true = false) : unl n (listed.setIfInBounds i true) + 1 ≤ unl n listed := by
  have hsz : i < listed.size := by
    rcases Nat.lt_or_ge i listed.size with h | h
    · exact h
    · rw [Array.getD_eq_getD_getElem?, Array.getElem?_eq_none h] at hl
      cases hl
  have hs : ∀ k, (listed.setIfInBounds i true).getD k true = (if k = i then true else listed.getD k true) := by
    intro k
    by_cases h : k = i
    · subst h
      simp [Array.getD_eq_getD_getElem?, hsz]
    · rw [if_neg h, Array.getD_eq_getD_getElem?, Array.getD_eq_getD_getElem?, Array.getElem?_setIfInBounds_ne (fun e => h e.symm)]
  have key : ∀ m, unl m (listed.setIfInBounds i true) + (if i < m then 1 else 0) ≤ unl m listed := by
    intro m
    induction m with
    | zero => simp [unl]
    | succ m ih =>
      rw [unl_succ, unl_succ, hs m]
      by_cases h1 : m = i
      · subst h1
        rw [if_neg (Nat.lt_irrefl _)] at ih
        rw [if_pos rfl, hl, if_pos (Nat.lt_succ_self _)]
        simp only [if_true, Bool.false_eq_true, if_false]
        omega
      · rw [if_neg h1]
        by_cases h2 : i < m
        · rw [if_pos h2] at ih
          rw [if_pos (show i < m + 1 by omega)]
          omega
        · rw [if_neg h2] at ih
          rw [if_neg (show ¬ i < m + 1 by omega)]
          omega
  have := key n
  rw [if_pos hi] at this
  exact this

theorem ready_mem {listed : Array Bool} {i : Nat} (h : i ∈ Region.ready md ops listed) : i < ops.size ∧ listed.getD i true = false ∧ ∃ o, ops[i]? = some o ∧ ∀ e ∈ o.after, Region.binds md e = true → listed.getD e.on false = true := by
  unfold Region.ready at h
  rw [List.mem_filter, List.mem_range] at h
  obtain ⟨h1, h2⟩ := h
  rw [Bool.and_eq_true] at h2
  obtain ⟨h2, h3⟩ := h2
  refine ⟨h1, by simpa using h2, ?_⟩
  cases ho : ops[i]? with
  | none => rw [ho] at h3; cases h3
  | some o =>
    rw [ho] at h3
    refine ⟨o, rfl, fun e he hb => ?_⟩
    have h4 : o.after.all (fun e => !Region.binds md e || listed.getD e.on false) = true := h3
    rw [Array.all_eq_true_iff_forall_mem] at h4
    have h5 := h4 e he
    rw [hb] at h5
    simpa using h5

theorem ready_nil {listed : Array Bool} (hback : ∀ (i : Nat) (o : Oper), ops[i]? = some o → ∀ e ∈ o.after, e.on < i) (hsz : listed.size = ops.size) (h : Region.ready md ops listed = []) : ∀ i, i < ops.size → listed[i]? = some true := by
  intro i
  induction i using Nat.strongRecOn with
  | ind i ih =>
    intro hi
    have hin : listed[i]? = some (listed[i]'(by omega)) := Array.getElem?_eq_getElem (by omega)
    cases hb : listed[i]'(by omega) with
    | true => rw [hin, hb]
    | false =>
      exfalso
      have ho : ops[i]? = some ops[i] := Array.getElem?_eq_getElem hi
      have : i ∈ Region.ready md ops listed := by
        unfold Region.ready
        rw [List.mem_filter, List.mem_range]
        refine ⟨hi, ?_⟩
        rw [Bool.and_eq_true]
        refine ⟨by rw [Array.getD_eq_getD_getElem?, hin, hb]; rfl, ?_⟩
        rw [ho]
        show ops[i].after.all (fun e => !Region.binds md e || listed.getD e.on false) = true
        rw [Array.all_eq_true_iff_forall_mem]
        intro e he
        have hlt := hback i ops[i] ho e he
        rw [Array.getD_eq_getD_getElem?, ih e.on hlt (by omega)]
        simp
      rw [h] at this
      cases this

/-- What each operation that may come next keeps holds behind a region, in whatever order. -/
theorem wpAny_inv {I : Array Bool → Act → World → Prop} (hback : ∀ (i : Nat) (o : Oper), ops[i]? = some o → ∀ e ∈ o.after, e.on < i)
    (hstep : ∀ (listed : Array Bool) (a : Act) (w : World) (i : Nat) (o : Oper), I listed a w → listed.size = ops.size → i < ops.size → ops[i]? = some o → (∀ e ∈ o.after, Region.binds md e = true → listed[e.on]? = some true) → wpOp P ops Q i (I (listed.setIfInBounds i true)) a w)
    (hend : ∀ listed a w, I listed a w → (∀ i, i < ops.size → listed[i]? = some true) → Q .normal a w) :
    ∀ fuel listed a w, I listed a w → listed.size = ops.size → unl ops.size listed ≤ fuel → wpAny P md ops Q fuel listed a w := by
  intro fuel
  induction fuel with
  | zero =>
    intro listed a w hI hsz hu
    have hnil : Region.ready md ops listed = [] := by
      cases hr : Region.ready md ops listed with
      | nil => rfl
      | cons i r =>
        have hm : i ∈ Region.ready md ops listed := by rw [hr]; simp
        obtain ⟨h1, h2, _⟩ := ready_mem hm
        have := unl_set ops.size listed i h1 h2
        omega
    exact ⟨hnil, hend _ _ _ hI (ready_nil hback hsz hnil)⟩
  | succ fuel ih =>
    intro listed a w hI hsz hu
    refine ⟨fun hnil => hend _ _ _ hI (ready_nil hback hsz hnil), fun i hm => ?_⟩
    obtain ⟨h1, h2, o, ho, h3⟩ := ready_mem hm
    have h4 := hstep listed a w i o hI hsz h1 ho fun e he hb => by
      have h5 := h3 e he hb
      rw [Array.getD_eq_getD_getElem?] at h5
      cases h6 : listed[e.on]? with
      | none => rw [h6] at h5; cases h5
      | some x => rw [h6] at h5; simp at h5; rw [h5]
    refine wpOp_mono (fun a' w' hI' => ih _ a' w' hI' (by simpa using hsz) ?_) h4
    have := unl_set ops.size listed i h1 h2
    omega

theorem unl_all (n : Nat) : unl n (Array.replicate n false) ≤ n := by
  unfold unl
  have := List.countP_le_length (p := fun i => !(Array.replicate n false).getD i true) (l := List.range n)
  simpa using this

theorem wp_region_inv {id : Nat} {a : Act} {w : World} (hm : P.follows .mixedOrders = true) {I : Array Bool → Act → World → Prop} (hback : ∀ (i : Nat) (o : Oper), ops[i]? = some o → ∀ e ∈ o.after, e.on < i)
    (h0 : I (Array.replicate ops.size false) a { w with drawn := w.drawn + 1 })
    (hstep : ∀ (listed : Array Bool) (a : Act) (w : World) (i : Nat) (o : Oper), I listed a w → listed.size = ops.size → i < ops.size → ops[i]? = some o → (∀ e ∈ o.after, Region.binds .any e = true → listed[e.on]? = some true) → wpOp P ops Q i (I (listed.setIfInBounds i true)) a w)
    (hend : ∀ listed a w, I listed a w → (∀ i, i < ops.size → listed[i]? = some true) → Q .normal a w) : (Code.region id ops true).wp P Q a w :=
  wp_region_any hm (wpAny_inv hback hstep hend _ _ _ _ h0 (by simp) (unl_all _))

/-- An operation that runs to a value. -/
theorem wpOp_run {i : Nat} {o : Oper} {a : Act} {w w' : World} {x : Value} {K : Act → World → Prop} (hi : ops[i]? = some o) (hg : o.guard = none) (hr : (execOp a.eval o).run P w = .ok (.value x) w') (hK : K (a.put o.dst x) w') : wpOp P ops Q i K a w := by
  unfold wpOp
  simp only [hi]
  have hw : Region.wanted o (yielded ops a.tmps) = true := by simp [Region.wanted, hg]
  rw [if_pos hw]
  left
  unfold Oper.wp
  rw [hr]
  exact hK

end
end Go.Proofs.Ytofinpocigbbeaa
