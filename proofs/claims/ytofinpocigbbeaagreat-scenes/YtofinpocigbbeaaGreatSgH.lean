import Derived.Orders
import Derived.Tactics
import Derived.Test.YtofinpocigbbeaaGreatSgP
import Derived.ArgAppend
import Derived.Maps.AppendAt
import Derived.BigQuiet
import Derived.Test.YtofinpocigbbeaaGreatSgG
import Derived.Laws.StructEq
/-! BokA -/
namespace Go.Proofs.YtofinpocigbbeaaGreat

section
variable {P : Program} {ops : Array Oper} {Q : Exit → Act → World → Prop} {md : Region.Mode}

/-- How many operations are not listed yet. -/
def unl (n : Nat) (listed : Array Bool) : Nat := (List.range n).countP fun i => !listed.getD i true

theorem unl_succ (m : Nat) (L : Array Bool) : unl (m + 1) L = unl m L + (if L.getD m true = true then 0 else 1) := by
  unfold unl
  rw [List.range_succ, List.countP_append]
  cases h : L.getD m true <;> simp [-Array.getD_eq_getD_getElem?, h]

theorem unl_set (n : Nat) (listed : Array Bool) (i : Nat) (hi : i < n) (hl : listed.getD i true = false) : unl n (listed.setIfInBounds i true) + 1 ≤ unl n listed := by
  have hsz : i < listed.size := by
    rcases Nat.lt_or_ge i listed.size with h | h
    · exact h
    · rw [Array.getD_eq_getD_getElem?, Array.getElem?_eq_none h] at hl
      cases hl
  have hs : ∀ k, (listed.setIfInBounds i true).getD k true = (if k = i then true else listed.getD k true) := by
    intro k
    by_cases h : k = i
    · subst h
      simp [Array.getD_eq_getD_getElem?, hsz]
    · rw [if_neg h, Array.getD_eq_getD_getElem?, Array.getD_eq_getD_getElem?, Array.getElem?_setIfInBounds_ne (fun e => h e.symm)]
  have key : ∀ m, unl m (listed.setIfInBounds i true) + (if i < m then 1 else 0) ≤ unl m listed := by
    intro m
    induction m with
    | zero => simp [unl]
    | succ m ih =>
      rw [unl_succ, unl_succ, hs m]
      by_cases h1 : m = i
      · subst h1
        rw [if_neg (Nat.lt_irrefl _)] at ih
        rw [if_pos rfl, hl, if_pos (Nat.lt_succ_self _)]
        simp only [if_true, Bool.false_eq_true, if_false]
        omega
      · rw [if_neg h1]
        by_cases h2 : i < m
        · rw [if_pos h2] at ih
          rw [if_pos (show i < m + 1 by omega)]
          omega
        · rw [if_neg h2] at ih
          rw [if_neg (show ¬ i < m + 1 by omega)]
          omega
  have := key n
  rw [if_pos hi] at this
  exact this

theorem ready_mem {listed : Array Bool} {i : Nat} (h : i ∈ Region.ready md ops listed) : i < ops.size ∧ listed.getD i true = false ∧ ∃ o, ops[i]? = some o ∧ ∀ e ∈ o.after, Region.binds md e = true → listed.getD e.on false = true := by
  unfold Region.ready at h
  rw [List.mem_filter, List.mem_range] at h
  obtain ⟨h1, h2⟩ := h
  rw [Bool.and_eq_true] at h2
  obtain ⟨h2, h3⟩ := h2
  refine ⟨h1, by simpa using h2, ?_⟩
  cases ho : ops[i]? with
  | none => rw [ho] at h3; cases h3
  | some o =>
    rw [ho] at h3
    refine ⟨o, rfl, fun e he hb => ?_⟩
    have h4 : o.after.all (fun e => !Region.binds md e || listed.getD e.on false) = true := h3
    rw [Array.all_eq_true_iff_forall_mem] at h4
    have h5 := h4 e he
    rw [hb] at h5
    simpa using h5

theorem ready_nil {listed : Array Bool} (hback : ∀ (i : Nat) (o : Oper), ops[i]? = some o → ∀ e ∈ o.after, e.on < i) (hsz : listed.size = ops.size) (h : Region.ready md ops listed = []) : ∀ i, i < ops.size → listed[i]? = some true := by
  intro i
  induction i using Nat.strongRecOn with
  | ind i ih =>
    intro hi
    have hin : listed[i]? = some (listed[i]'(by omega)) := Array.getElem?_eq_getElem (by omega)
    cases hb : listed[i]'(by omega) with
    | true => rw [hin, hb]
    | false =>
      exfalso
      have ho : ops[i]? = some ops[i] := Array.getElem?_eq_getElem hi
      have : i ∈ Region.ready md ops listed := by
        unfold Region.ready
        rw [List.mem_filter, List.mem_range]
        refine ⟨hi, ?_⟩
        rw [Bool.and_eq_true]
        refine ⟨by rw [Array.getD_eq_getD_getElem?, hin, hb]; rfl, ?_⟩
        rw [ho]
        show ops[i].after.all (fun e => !Region.binds md e || listed.getD e.on false) = true
        rw [Array.all_eq_true_iff_forall_mem]
        intro e he
        have hlt := hback i ops[i] ho e he
        rw [Array.getD_eq_getD_getElem?, ih e.on hlt (by omega)]
        simp
      rw [h] at this
      cases this

/-- What each operation that may come next keeps holds behind a region, in whatever order. -/
theorem wpAny_inv {I : Array Bool → Act → World → Prop} (hback : ∀ (i : Nat) (o : Oper), ops[i]? = some o → ∀ e ∈ o.after, e.on < i)
    (hstep : ∀ (listed : Array Bool) (a : Act) (w : World) (i : Nat) (o : Oper), I listed a w → listed.size = ops.size → i < ops.size → ops[i]? = some o → (∀ e ∈ o.after, Region.binds md e = true → listed[e.on]? = some true) → wpOp P ops Q i (I (listed.setIfInBounds i true)) a w)
    (hend : ∀ listed a w, I listed a w → (∀ i, i < ops.size → listed[i]? = some true) → Q .normal a w) :
    ∀ fuel listed a w, I listed a w → listed.size = ops.size → unl ops.size listed ≤ fuel → wpAny P md ops Q fuel listed a w := by
  intro fuel
  induction fuel with
  | zero =>
    intro listed a w hI hsz hu
    have hnil : Region.ready md ops listed = [] := by
      cases hr : Region.ready md ops listed with
      | nil => rfl
      | cons i r =>
        have hm : i ∈ Region.ready md ops listed := by rw [hr]; simp
        obtain ⟨h1, h2, _⟩ := ready_mem hm
        have := unl_set ops.size listed i h1 h2
        omega
    exact ⟨hnil, hend _ _ _ hI (ready_nil hback hsz hnil)⟩
  | succ fuel ih =>
    intro listed a w hI hsz hu
    refine ⟨fun hnil => hend _ _ _ hI (ready_nil hback hsz hnil), fun i hm => ?_⟩
    obtain ⟨h1, h2, o, ho, h3⟩ := ready_mem hm
    have h4 := hstep listed a w i o hI hsz h1 ho fun e he hb => by
      have h5 := h3 e he hb
      rw [Array.getD_eq_getD_getElem?] at h5
      cases h6 : listed[e.on]? with
      | none => rw [h6] at h5; cases h5
      | some x => rw [h6] at h5; simp at h5; rw [h5]
    refine wpOp_mono (fun a' w' hI' => ih _ a' w' hI' (by simpa using hsz) ?_) h4
    have := unl_set ops.size listed i h1 h2
    omega

theorem unl_all (n : Nat) : unl n (Array.replicate n false) ≤ n := by
  unfold unl
  have := List.countP_le_length (p := fun i => !(Array.replicate n false).getD i true) (l := List.range n)
  simpa using this

theorem wp_region_inv {id : Nat} {a : Act} {w : World} (hm : P.follows .mixedOrders = true) {I : Array Bool → Act → World → Prop} (hback : ∀ (i : Nat) (o : Oper), ops[i]? = some o → ∀ e ∈ o.after, e.on < i)
    (h0 : I (Array.replicate ops.size false) a { w with drawn := w.drawn + 1 })
    (hstep : ∀ (listed : Array Bool) (a : Act) (w : World) (i : Nat) (o : Oper), I listed a w → listed.size = ops.size → i < ops.size → ops[i]? = some o → (∀ e ∈ o.after, Region.binds .any e = true → listed[e.on]? = some true) → wpOp P ops Q i (I (listed.setIfInBounds i true)) a w)
    (hend : ∀ listed a w, I listed a w → (∀ i, i < ops.size → listed[i]? = some true) → Q .normal a w) : (Code.region id ops true).wp P Q a w :=
  wp_region_any hm (wpAny_inv hback hstep hend _ _ _ _ h0 (by simp) (unl_all _))

/-- An operation that runs to a value. -/
theorem wpOp_run {i : Nat} {o : Oper} {a : Act} {w w' : World} {x : Value} {K : Act → World → Prop} (hi : ops[i]? = some o) (hg : o.guard = none) (hr : (execOp a.eval o).run P w = .ok (.value x) w') (hK : K (a.put o.dst x) w') : wpOp P ops Q i K a w := by
  unfold wpOp
  simp only [hi]
  have hw : Region.wanted o (yielded ops a.tmps) = true := by simp [Region.wanted, hg]
  rw [if_pos hw]
  left
  unfold Oper.wp
  rw [hr]
  exact hK

end
end Go.Proofs.YtofinpocigbbeaaGreat

/-! BovB -/
namespace Go.Proofs.YtofinpocigbbeaaGreat
open Go.RowKit

/-- A row of views of the call's own, whatever it holds. -/
def RowOV (w : World) (B0 : Nat) (s : Value) (m : Nat) : Prop := ∃ xs, w.ownsRow B0 59 9 s m xs

/-- One step: but for one block all are as they were; and rows of views stay rows as long as they were. -/
structure StpV (u : Option Nat) (w w' : World) : Prop where
  grown : w.grownBy w' u
  rows : ∀ (g : Nat) (cur : Array Value), w.heap[g]? = some (.cells cur 59 (0, 0)) → ∃ cur' : Array Value, w'.heap[g]? = some (.cells cur' 59 (0, 0)) ∧ cur'.size = cur.size

theorem RowOV.step {w w' : World} {B0 m : Nat} {s : Value} {u : Option Nat} (h : RowOV w B0 s m) (hs : StpV u w w') : RowOV w' B0 s m := by
  obtain ⟨xs, h1, h2⟩ := h
  rcases h2 with h2 | ⟨g, cap, cur, e1, e2, e3, e4, e5, e6, e7⟩
  · exact ⟨xs, h1, .inl h2⟩
  · obtain ⟨cur', k1, k2⟩ := hs.rows g cur e3
    refine ⟨cur'.toList.take (m * 9), ?_, .inr ⟨g, cap, cur', e1, e2, k1, e4, e5, by rw [k2, e6], rfl⟩⟩
    rw [List.length_take, Array.length_toList, k2, e6]
    have := Nat.mul_le_mul_right 4 e4
    omega

theorem StpV.refl (u : Option Nat) (w : World) : StpV u w w := ⟨⟨rfl, rfl, rfl, Nat.le_refl _, fun _ _ _ => rfl⟩, fun _ cur h => ⟨cur, h, rfl⟩⟩

theorem StpV.alloc (u : Option Nat) (w : World) (o : Obj) : StpV u w (w.alloc o) :=
  ⟨World.grownBy_alloc w o u, fun g cur h => ⟨cur, by rw [heap_old w o g (Array.getElem?_eq_some_iff.1 h).1]; exact h, rfl⟩⟩

theorem StpV.trans {u : Option Nat} {a b c : World} (h : StpV u a b) (k : StpV u b c) : StpV u a c :=
  ⟨h.grown.trans k.grown, fun g cur hg => by
    obtain ⟨c1, e1, e2⟩ := h.rows g cur hg
    obtain ⟨c2, e3, e4⟩ := k.rows g c1 e1
    exact ⟨c2, e3, e4.trans e2⟩⟩

theorem StpV.of_none {u : Option Nat} {a b : World} (h : a.grownBy b none) : StpV u a b :=
  ⟨⟨h.os, h.tape, h.output, h.size, fun k hk _ => h.block k hk (by simp)⟩, fun g cur hg => ⟨cur, by rw [h.block g (Array.getElem?_eq_some_iff.1 hg).1 (by simp)]; exact hg, rfl⟩⟩

/-- append to such a row. -/
theorem row_appendV {w : World} {B0 n : Nat} {v : Value} (hv : RowOV w B0 v n) (ty : TypeId) (ad : Addr) (m c : Nat) (news : List Value) (hl : news.length = m * 9) (hnews : ∀ j u, news[j]? = some u → w.cell? (ad.add j) = some u) (h1 : ∀ u ∈ news, u.oneCell' = true)
    (h63 : n + m ≤ maxLen) (hbytes : (n + m) * 72 ≤ 140737488355328) (hB : B0 ≤ w.heap.size) :
    ∃ v' w', (Builtin.append_ #[56, 56] ty #[v, .slice (some ad) m c]).run Tryz.prog w = .ok v' w' ∧ RowOV w' B0 v' (n + m) ∧ StpV v.ownBlock w w' ∧ (v'.ownBlock = v.ownBlock ∨ v'.ownBlock = some w.heap.size) := by
  obtain ⟨i0, hi0, hz0, hz1, hz2⟩ := info_parts viewInfo
  obtain ⟨xs, hown⟩ := hv
  obtain ⟨v', w', hr, ho, hg, _, hat⟩ := run_append_own_at (P := Tryz.prog) w B0 56 ty 59 i0 _ 9 72 Tryz.underlying56 hi0 hz0 hz1 hz2 rfl (by decide) v n xs hown ad m c news hl hnews h1 h63 hbytes hB
  refine ⟨v', w', hr, ⟨_, ho⟩, ⟨hg, fun k cur hk => ?_⟩, hat⟩
  have hkl := (Array.getElem?_eq_some_iff.1 hk).1
  by_cases hkv : some k = v.ownBlock
  · rcases hown.2 with ⟨e, _⟩ | ⟨g, cap, cu, e1, e2, e3, e4, e5, e6, e7⟩
    · rw [e] at hkv
      cases hkv
    · subst e1
      have hkg : k = g := by
        have : some k = some g := hkv
        injection this
      subst hkg
      rw [hk] at e3
      injection e3 with e3
      injection e3 with e3
      subst e3
      by_cases hroom : n + m ≤ cap
      · have hlen : news.length = m * i0.size := by rw [hz1]; exact hl
        have hfit : n * i0.size + news.length ≤ cur.size := by rw [hz1, hl, e6, ← Nat.add_mul]; exact Nat.mul_le_mul_right _ hroom
        have h9 := run_append_room (P := Tryz.prog) w 56 ty 59 i0 Tryz.underlying56 hi0 k n cap cur hk ad m c news hlen hnews h1 hroom hfit
        rw [hr] at h9
        injection h9 with _ h9
        subst h9
        refine ⟨_, setRow_heap w k cur _ 59 _ hk, ?_⟩
        simp only [List.size_toArray, List.length_append, List.length_take, List.length_drop, Array.length_toList]
        omega
      · obtain ⟨v2, w2, h9, _, h8⟩ := run_append_arg_grows (P := Tryz.prog) w 56 ty 59 i0 _ 9 72 Tryz.underlying56 hi0 hz0 hz1 hz2 rfl (by decide) ⟨k, 0, none⟩ n cap xs hown.1 (hown.cells (g := k) rfl) ad m c news hl hnews (by omega) h63 hbytes
        rw [hr] at h9
        injection h9 with _ h9
        subst h9
        exact (StpV.of_none (u := none) h8).rows k cur hk
  · exact ⟨cur, by rw [hg.block k hkl hkv]; exact hk, rfl⟩

end Go.Proofs.YtofinpocigbbeaaGreat

/-! BovC -/
namespace Go.Proofs.YtofinpocigbbeaaGreat
open Go.RowKit

variable {N : Nat} {cv : Value}

def zV (N : Nat) : Array Value := #[.int .i64 (-7070), .int .i64 0, .int .i64 0, .int .i64 (N : Int), .int .i64 0, .int .i64 0, .int .i64 0, .int .i64 0, .int .i64 0]

def secondOpsV : Code → Array Oper
  | .seq _ (.seq (.region _ ops _) _) => ops
  | _ => #[]

/-- A function's second region. -/
def rgnOfV (f : Func) : Array Oper := (f.body.map secondOpsV).getD #[]

def frV (N : Nat) (cv : Value) (pb zb : Nat) (v : Value) (f : Nat → Value) : Act :=
  { tmps := #[.pointer (some ⟨pb, 1, none⟩), v, undef, undef, .pointer (some ⟨zb, 0, none⟩), f 5, undef, undef, .pointer (some ⟨pb, 1, none⟩), .pointer (some ⟨pb, 1, none⟩), .pointer (some ⟨pb, 3, none⟩), cv, .int .i64 (N : Int), .agg (zV N),
      f 14, f 15, f 16, f 17, f 18, f 19, f 20, f 21, f 22, f 23, f 24, f 25, f 26, f 27, f 28, f 29, f 30, undef, undef, undef, undef, undef, undef, undef, undef, undef, undef, undef, undef, undef, undef, undef, undef, undef, undef, undef, undef, undef, undef, undef, undef, undef, undef, undef, undef, undef, undef, undef, undef], defers := [] }

set_option maxRecDepth 100000 in
theorem rgn1_sizeV : (rgnOfV Tryz.f94).size = 18 := rfl

set_option maxRecDepth 100000 in
theorem rgn1_backV : ∀ (i : Nat) (o : Oper), (rgnOfV Tryz.f94)[i]? = some o → ∀ e ∈ o.after, e.on < i := by
  have h : (List.range (rgnOfV Tryz.f94).size).all (fun i => ((rgnOfV Tryz.f94)[i]?.map fun o => o.after.toList.all fun e => decide (e.on < i)).getD false) = true := by kernel_rfl
  intro i o ho e he
  have hi : i < (rgnOfV Tryz.f94).size := (Array.getElem?_eq_some_iff.1 ho).1
  have h1 := List.all_eq_true.1 h i (List.mem_range.2 hi)
  rw [ho] at h1
  have h2 : o.after.toList.all (fun e => decide (e.on < i)) = true := h1
  exact of_decide_eq_true (List.all_eq_true.1 h2 e (Array.mem_toList_iff.2 he))

set_option maxRecDepth 100000 in
theorem runLoadV (pb zb : Nat) (v : Value) (f : Nat → Value) (o : Oper) (ho : o.op = .load 59 (.tmp 4)) (w : World) (hz : w.heap[zb]? = some (.cells (zV N) 59 (0, 0))) : (execOp (frV N cv pb zb v f).eval o).run Tryz.prog w = .ok (.value (.agg (zV N))) w := by
  have c0 : w.cell? ⟨zb, 0, none⟩ = some (.int .i64 (-7070)) := by rw [cell_of_row w zb 0 (zV N) _ _ hz]; rfl
  have c1 : w.cell? ⟨zb, 1, none⟩ = some (.int .i64 0) := by rw [cell_of_row w zb 1 (zV N) _ _ hz]; rfl
  have c2 : w.cell? ⟨zb, 2, none⟩ = some (.int .i64 0) := by rw [cell_of_row w zb 2 (zV N) _ _ hz]; rfl
  have c3 : w.cell? ⟨zb, 3, none⟩ = some (.int .i64 (N : Int)) := by rw [cell_of_row w zb 3 (zV N) _ _ hz]; rfl
  have c4 : w.cell? ⟨zb, 4, none⟩ = some (.int .i64 0) := by rw [cell_of_row w zb 4 (zV N) _ _ hz]; rfl
  have c5 : w.cell? ⟨zb, 5, none⟩ = some (.int .i64 0) := by rw [cell_of_row w zb 5 (zV N) _ _ hz]; rfl
  have c6 : w.cell? ⟨zb, 6, none⟩ = some (.int .i64 0) := by rw [cell_of_row w zb 6 (zV N) _ _ hz]; rfl
  have c7 : w.cell? ⟨zb, 7, none⟩ = some (.int .i64 0) := by rw [cell_of_row w zb 7 (zV N) _ _ hz]; rfl
  have c8 : w.cell? ⟨zb, 8, none⟩ = some (.int .i64 0) := by rw [cell_of_row w zb 8 (zV N) _ _ hz]; rfl
  have e4 : (frV N cv pb zb v f).eval (.tmp 4) = .pointer (some ⟨zb, 0, none⟩) := rfl
  unfold execOp
  simp only [ho, e4]
  go_simp
  rfl

set_option maxRecDepth 100000 in
theorem runB1V (pb zb : Nat) (v : Value) (f : Nat → Value) (o : Oper) (ho : o.op = .buildSlice 56 1 #[(0, .tmp 16)]) (w : World) (h16 : f 16 = .agg (zV N)) : (execOp (frV N cv pb zb v f).eval o).run Tryz.prog w = .ok (.value (.slice (some ⟨w.heap.size, 0, none⟩) 1 1)) (w.alloc (.cells (zV N) 59)) := by
  have e4 : (frV N cv pb zb v f).eval (.tmp 16) = .agg (zV N) := h16
  unfold execOp
  simp only [ho, List.map_toArray, List.map_cons, List.map_nil, e4]
  unfold zV
  go_simp

set_option maxRecDepth 100000 in
theorem runB2V (pb zb : Nat) (v : Value) (f : Nat → Value) (o : Oper) (ho : o.op = .buildSlice 56 2 #[(0, .tmp 20), (1, .tmp 21)]) (w : World) (h1 : f 20 = .agg (zV N)) (h2 : f 21 = .agg (zV N)) : (execOp (frV N cv pb zb v f).eval o).run Tryz.prog w = .ok (.value (.slice (some ⟨w.heap.size, 0, none⟩) 2 2)) (w.alloc (.cells ((zV N) ++ (zV N)) 59)) := by
  have e1 : (frV N cv pb zb v f).eval (.tmp 20) = .agg (zV N) := h1
  have e2 : (frV N cv pb zb v f).eval (.tmp 21) = .agg (zV N) := h2
  unfold execOp
  simp only [ho, List.map_toArray, List.map_cons, List.map_nil, e1, e2]
  unfold zV
  go_simp

set_option maxRecDepth 100000 in
theorem runB3V (pb zb : Nat) (v : Value) (f : Nat → Value) (o : Oper) (ho : o.op = .buildSlice 56 3 #[(0, .tmp 25), (1, .tmp 26), (2, .tmp 27)]) (w : World) (h1 : f 25 = .agg (zV N)) (h2 : f 26 = .agg (zV N)) (h3 : f 27 = .agg (zV N)) : (execOp (frV N cv pb zb v f).eval o).run Tryz.prog w = .ok (.value (.slice (some ⟨w.heap.size, 0, none⟩) 3 3)) (w.alloc (.cells ((zV N) ++ (zV N) ++ (zV N)) 59)) := by
  have e1 : (frV N cv pb zb v f).eval (.tmp 25) = .agg (zV N) := h1
  have e2 : (frV N cv pb zb v f).eval (.tmp 26) = .agg (zV N) := h2
  have e3 : (frV N cv pb zb v f).eval (.tmp 27) = .agg (zV N) := h3
  unfold execOp
  simp only [ho, List.map_toArray, List.map_cons, List.map_nil, e1, e2, e3]
  unfold zV
  go_simp

set_option maxRecDepth 100000 in
theorem runB4V (pb zb : Nat) (v : Value) (f : Nat → Value) (o : Oper) (ho : o.op = .buildSlice 113 4 #[(0, .tmp 14), (1, .tmp 18), (2, .tmp 23), (3, .tmp 29)]) (w : World) (x0 x1 x2 x3 : Option Addr) (n0 n1 n2 n3 c0 c1 c2 c3 : Nat) (h0 : f 14 = .slice x0 n0 c0) (h1 : f 18 = .slice x1 n1 c1) (h2 : f 23 = .slice x2 n2 c2) (h3 : f 29 = .slice x3 n3 c3) : (execOp (frV N cv pb zb v f).eval o).run Tryz.prog w = .ok (.value (.slice (some ⟨w.heap.size, 0, none⟩) 4 4)) (w.alloc (.cells #[.slice x0 n0 c0, .slice x1 n1 c1, .slice x2 n2 c2, .slice x3 n3 c3] 56)) := by
  have e0 : (frV N cv pb zb v f).eval (.tmp 14) = .slice x0 n0 c0 := h0
  have e1 : (frV N cv pb zb v f).eval (.tmp 18) = .slice x1 n1 c1 := h1
  have e2 : (frV N cv pb zb v f).eval (.tmp 23) = .slice x2 n2 c2 := h2
  have e3 : (frV N cv pb zb v f).eval (.tmp 29) = .slice x3 n3 c3 := h3
  unfold execOp
  simp only [ho, List.map_toArray, List.map_cons, List.map_nil, e0, e1, e2, e3]
  go_simp

theorem runAppV (a : Act) (o : Oper) (s x : Operand) (ho : o.op = .call { callee := .builtin .append, args := #[s, x], argTypes := #[56, 56] }) (w w' : World) (y z r : Value) (h1 : a.eval s = y) (h2 : a.eval x = z) (hr : (Builtin.append_ #[56, 56] o.type #[y, z]).run Tryz.prog w = .ok r w') : (execOp a.eval o).run Tryz.prog w = .ok (.value r) w' := by
  unfold execOp
  simp only [ho, resolve, invoke, builtin, Sem.run_bind, Sem.run_pure, Result.andThen_ok, List.map_toArray, List.map_cons, List.map_nil, h1, h2, hr]

end Go.Proofs.YtofinpocigbbeaaGreat

/-! BovD -/
namespace Go.Proofs.YtofinpocigbbeaaGreat
open Go.RowKit

variable {N : Nat} {cv : Value}

/-- A row that is to be appended. -/
def BldV (u : Option Nat) (w : World) (x : Value) (m : Nat) (cs : Array Value) : Prop := ∃ g, x = .slice (some ⟨g, 0, none⟩) m m ∧ some g ≠ u ∧ w.heap[g]? = some (.cells cs 59 (0, 0))

def RowZV (w : World) (B0 zb : Nat) (x : Value) (m : Nat) : Prop := RowOV w B0 x m ∧ x.ownBlock ≠ some zb

/-- The four lists. -/
def RegsV (v : Value) (n B0 zb : Nat) (w : World) (x : Value) : Prop := ∃ g a b c, x = .slice (some ⟨g, 0, none⟩) 4 4 ∧ some g ≠ v.ownBlock ∧ w.heap[g]? = some (.cells #[v, a, b, c] 56 (0, 0)) ∧ RowZV w B0 zb a (n + 1) ∧ RowZV w B0 zb b (n + 2) ∧ RowZV w B0 zb c (n + 3)

theorem RowZV.step {w w' : World} {B0 zb m : Nat} {x : Value} {u : Option Nat} (h : RowZV w B0 zb x m) (hs : StpV u w w') : RowZV w' B0 zb x m := ⟨h.1.step hs, h.2⟩

theorem BldV.step {w w' : World} {m : Nat} {x : Value} {cs : Array Value} {u : Option Nat} (h : BldV u w x m cs) (hs : StpV u w w') : BldV u w' x m cs := by
  obtain ⟨g, h1, h2, h3⟩ := h
  exact ⟨g, h1, h2, by rw [hs.grown.block g (Array.getElem?_eq_some_iff.1 h3).1 h2]; exact h3⟩

theorem RegsV.step {w w' : World} {v x : Value} {n B0 zb : Nat} (h : RegsV v n B0 zb w x) (hs : StpV v.ownBlock w w') : RegsV v n B0 zb w' x := by
  obtain ⟨g, a, b, c, h1, h2, h3, h4, h5, h6⟩ := h
  exact ⟨g, a, b, c, h1, h2, by rw [hs.grown.block g (Array.getElem?_eq_some_iff.1 h3).1 h2]; exact h3, h4.step hs, h5.step hs, h6.step hs⟩

/-- What slot s holds once its operation is through. -/
structure FxV (N : Nat) (v : Value) (n B0 zb s : Nat) (x : Value) (w : World) : Prop where
  mv : s = 14 ∨ s = 15 ∨ s = 19 ∨ s = 24 → x = v
  ld : s = 16 ∨ s = 20 ∨ s = 21 ∨ s = 25 ∨ s = 26 ∨ s = 27 → x = .agg (zV N)
  b1 : s = 17 → BldV v.ownBlock w x 1 (zV N)
  b2 : s = 22 → BldV v.ownBlock w x 2 ((zV N) ++ (zV N))
  b3 : s = 28 → BldV v.ownBlock w x 3 ((zV N) ++ (zV N) ++ (zV N))
  r1 : s = 18 → RowZV w B0 zb x (n + 1)
  r2 : s = 23 → RowZV w B0 zb x (n + 2)
  r3 : s = 29 → RowZV w B0 zb x (n + 3)
  rg : s = 30 ∨ s = 5 → RegsV v n B0 zb w x

theorem FxV.step {w w' : World} {v x : Value} {n B0 zb s : Nat} (h : FxV N v n B0 zb s x w) (hs : StpV v.ownBlock w w') : FxV N v n B0 zb s x w' :=
  ⟨h.mv, h.ld, fun e => (h.b1 e).step hs, fun e => (h.b2 e).step hs, fun e => (h.b3 e).step hs, fun e => (h.r1 e).step hs, fun e => (h.r2 e).step hs, fun e => (h.r3 e).step hs, fun e => (h.rg e).step hs⟩

def slotOfV (k : Nat) : Nat := if k = 17 then 5 else k + 14

def BInvV (N : Nat) (v : Value) (n B0 zb : Nat) (w0 : World) (listed : Array Bool) (f : Nat → Value) (w : World) : Prop :=
  StpV v.ownBlock w0 w ∧ ∀ k, k < 18 → listed[k]? = some true → FxV N v n B0 zb (slotOfV k) (f (slotOfV k)) w

theorem inv_putV {v x : Value} {n B0 zb : Nat} {w0 w w' : World} {listed : Array Bool} {f : Nat → Value} (k : Nat) (h : BInvV N v n B0 zb w0 listed f w) (hk : k < 18) (hs : StpV v.ownBlock w w') (hx : FxV N v n B0 zb (slotOfV k) x w') :
    BInvV N v n B0 zb w0 (listed.setIfInBounds k true) (fun s => if s = slotOfV k then x else f s) w' := by
  refine ⟨h.1.trans hs, fun j hj hl => ?_⟩
  by_cases e : j = k
  · subst e
    simp only [if_true]
    exact hx
  · rw [Array.getElem?_setIfInBounds_ne (fun q => e q.symm)] at hl
    have hne : ¬ slotOfV j = slotOfV k := by
      unfold slotOfV
      split <;> split <;> omega
    simp only [hne, if_false]
    exact (h.2 j hj hl).step hs

theorem news_oneV : ∀ u ∈ (zV N).toList, u.oneCell' = true := by
  intro u hu
  simp only [zV, List.mem_cons, List.not_mem_nil, or_false] at hu
  rcases hu with rfl | rfl | rfl | rfl | rfl | rfl | rfl | rfl | rfl <;> rfl
theorem news_twoV : ∀ u ∈ ((zV N) ++ (zV N)).toList, u.oneCell' = true := by
  intro u hu
  rw [Array.toList_append, List.mem_append] at hu
  rcases hu with h | h <;> exact news_oneV u h
theorem news_threeV : ∀ u ∈ ((zV N) ++ (zV N) ++ (zV N)).toList, u.oneCell' = true := by
  intro u hu
  rw [Array.toList_append, List.mem_append] at hu
  rcases hu with h | h
  · exact news_twoV u h
  · exact news_oneV u h

theorem z3_size (N : Nat) : (zV N ++ zV N ++ zV N).size = 3 * 9 := by rw [Array.size_append, Array.size_append]; rfl
theorem z2_size (N : Nat) : (zV N ++ zV N).size = 2 * 9 := by rw [Array.size_append]; rfl

/-- append in the region. -/
theorem app_stepV {v x : Value} {n B0 zb m : Nat} {w w1 : World} {cs : Array Value} (ty : TypeId) (hn : n + m ≤ 9000010) (hB : B0 ≤ w.heap.size) (hv : RowOV w B0 v n) (hz : w.heap[zb]? = some (.cells (zV N) 59 (0, 0))) (hvz : v.ownBlock ≠ some zb) (hs : StpV v.ownBlock w w1) (hx : BldV v.ownBlock w1 x m cs) (hcs : cs.size = m * 9) (h1 : ∀ u ∈ cs.toList, u.oneCell' = true) :
    ∃ r w', (Builtin.append_ #[56, 56] ty #[v, x]).run Tryz.prog w1 = .ok r w' ∧ StpV v.ownBlock w1 w' ∧ RowZV w' B0 zb r (n + m) := by
  obtain ⟨g, rfl, hg, hb⟩ := hx
  obtain ⟨r, w', hr, h2, h3, h4⟩ := row_appendV (hv.step hs) ty ⟨g, 0, none⟩ m m cs.toList (by rw [Array.length_toList, hcs]) (World.news_of_block hb) h1 (by unfold maxLen; omega) (by omega) (by have := hs.grown.size; omega)
  refine ⟨r, w', hr, h3, h2, ?_⟩
  rcases h4 with h4 | h4
  · rw [h4]; exact hvz
  · rw [h4]
    have hzl := (Array.getElem?_eq_some_iff.1 hz).1
    have := hs.grown.size
    intro e
    injection e with e
    omega

set_option maxRecDepth 100000 in
theorem step0V {Q : Exit → Act → World → Prop} {v : Value} {n B0 pb zb : Nat} {w w1 : World} {listed : Array Bool} {f : Nat → Value} {o : Oper} (hI : BInvV N v n B0 zb w listed f w1) (ho : (rgnOfV Tryz.f94)[0]? = some o) (_ : ∀ e ∈ o.after, Region.binds .any e = true → listed[e.on]? = some true) :
    wpOp Tryz.prog (rgnOfV Tryz.f94) Q 0 (fun a' w' => ∃ f', a' = frV N cv pb zb v f' ∧ BInvV N v n B0 zb w (listed.setIfInBounds 0 true) f' w') (frV N cv pb zb v f) w1 := by
  have ho9 := ho
  cases ho
  exact wpOp_run (x := v) (w' := w1) ho9 rfl rfl ⟨_, rfl, inv_putV 0 hI (by decide) (StpV.refl _ _) ⟨fun _ => rfl, fun e => absurd e (by decide), fun e => absurd e (by decide), fun e => absurd e (by decide), fun e => absurd e (by decide), fun e => absurd e (by decide), fun e => absurd e (by decide), fun e => absurd e (by decide), fun e => absurd e (by decide)⟩⟩

set_option maxRecDepth 100000 in
theorem step1V {Q : Exit → Act → World → Prop} {v : Value} {n B0 pb zb : Nat} {w w1 : World} {listed : Array Bool} {f : Nat → Value} {o : Oper} (hI : BInvV N v n B0 zb w listed f w1) (ho : (rgnOfV Tryz.f94)[1]? = some o) (_ : ∀ e ∈ o.after, Region.binds .any e = true → listed[e.on]? = some true) :
    wpOp Tryz.prog (rgnOfV Tryz.f94) Q 1 (fun a' w' => ∃ f', a' = frV N cv pb zb v f' ∧ BInvV N v n B0 zb w (listed.setIfInBounds 1 true) f' w') (frV N cv pb zb v f) w1 := by
  have ho9 := ho
  cases ho
  exact wpOp_run (x := v) (w' := w1) ho9 rfl rfl ⟨_, rfl, inv_putV 1 hI (by decide) (StpV.refl _ _) ⟨fun _ => rfl, fun e => absurd e (by decide), fun e => absurd e (by decide), fun e => absurd e (by decide), fun e => absurd e (by decide), fun e => absurd e (by decide), fun e => absurd e (by decide), fun e => absurd e (by decide), fun e => absurd e (by decide)⟩⟩

set_option maxRecDepth 100000 in
theorem step2V {Q : Exit → Act → World → Prop} {v : Value} {n B0 pb zb : Nat} {w w1 : World} {listed : Array Bool} {f : Nat → Value} {o : Oper} (hz : w.heap[zb]? = some (.cells (zV N) 59 (0, 0))) (hvz : v.ownBlock ≠ some zb) (hI : BInvV N v n B0 zb w listed f w1) (ho : (rgnOfV Tryz.f94)[2]? = some o) (_ : ∀ e ∈ o.after, Region.binds .any e = true → listed[e.on]? = some true) :
    wpOp Tryz.prog (rgnOfV Tryz.f94) Q 2 (fun a' w' => ∃ f', a' = frV N cv pb zb v f' ∧ BInvV N v n B0 zb w (listed.setIfInBounds 2 true) f' w') (frV N cv pb zb v f) w1 := by
  have ho9 := ho
  cases ho
  have hz1 : w1.heap[zb]? = some (.cells (zV N) 59 (0, 0)) := by rw [hI.1.grown.block zb (Array.getElem?_eq_some_iff.1 hz).1 (fun e => hvz e.symm)]; exact hz
  exact wpOp_run (x := .agg (zV N)) (w' := w1) ho9 rfl (runLoadV pb zb v f _ rfl w1 hz1) ⟨_, rfl, inv_putV 2 hI (by decide) (StpV.refl _ _) ⟨fun e => absurd e (by decide), fun _ => rfl, fun e => absurd e (by decide), fun e => absurd e (by decide), fun e => absurd e (by decide), fun e => absurd e (by decide), fun e => absurd e (by decide), fun e => absurd e (by decide), fun e => absurd e (by decide)⟩⟩

set_option maxRecDepth 100000 in
theorem step3V {Q : Exit → Act → World → Prop} {v : Value} {n B0 pb zb : Nat} {w w1 : World} {listed : Array Bool} {f : Nat → Value} {o : Oper} (hv : RowOV w B0 v n) (hI : BInvV N v n B0 zb w listed f w1) (ho : (rgnOfV Tryz.f94)[3]? = some o) (hd : ∀ e ∈ o.after, Region.binds .any e = true → listed[e.on]? = some true) :
    wpOp Tryz.prog (rgnOfV Tryz.f94) Q 3 (fun a' w' => ∃ f', a' = frV N cv pb zb v f' ∧ BInvV N v n B0 zb w (listed.setIfInBounds 3 true) f' w') (frV N cv pb zb v f) w1 := by
  have ho9 := ho
  cases ho
  have d2 : listed[2]? = some true := hd ⟨2, _⟩ (Array.mem_toList_iff.1 (List.Mem.head _)) rfl
  have q2 := hI.2 2 (by decide) d2
  have hnew : some w1.heap.size ≠ v.ownBlock := fun e => by
    have h1 := (hv.step hI.1)
    obtain ⟨xs, h2⟩ := h1
    have := (h2.lt _ e.symm).2
    omega
  exact wpOp_run ho9 rfl (runB1V pb zb v f _ rfl w1 (q2.ld (by decide))) ⟨_, rfl, inv_putV 3 hI (by decide) (StpV.alloc _ _ _) ⟨fun e => absurd e (by decide), fun e => absurd e (by decide), fun _ => ⟨w1.heap.size, rfl, hnew, heap_alloc_new w1 _⟩, fun e => absurd e (by decide), fun e => absurd e (by decide), fun e => absurd e (by decide), fun e => absurd e (by decide), fun e => absurd e (by decide), fun e => absurd e (by decide)⟩⟩

set_option maxRecDepth 100000 in
theorem step4V {Q : Exit → Act → World → Prop} {v : Value} {n B0 pb zb : Nat} {w w1 : World} {listed : Array Bool} {f : Nat → Value} {o : Oper} (hn : n ≤ 9000000) (hB : B0 ≤ w.heap.size) (hv : RowOV w B0 v n) (hz : w.heap[zb]? = some (.cells (zV N) 59 (0, 0))) (hvz : v.ownBlock ≠ some zb) (hI : BInvV N v n B0 zb w listed f w1) (ho : (rgnOfV Tryz.f94)[4]? = some o) (hd : ∀ e ∈ o.after, Region.binds .any e = true → listed[e.on]? = some true) :
    wpOp Tryz.prog (rgnOfV Tryz.f94) Q 4 (fun a' w' => ∃ f', a' = frV N cv pb zb v f' ∧ BInvV N v n B0 zb w (listed.setIfInBounds 4 true) f' w') (frV N cv pb zb v f) w1 := by
  have ho9 := ho
  cases ho
  have d1 : listed[1]? = some true := hd ⟨1, _⟩ (Array.mem_toList_iff.1 (List.Mem.head _)) rfl
  have q1 := hI.2 1 (by decide) d1
  have d3 : listed[3]? = some true := hd ⟨3, _⟩ (Array.mem_toList_iff.1 (List.Mem.tail _ (List.Mem.head _))) rfl
  have q3 := hI.2 3 (by decide) d3
  obtain ⟨r, w2, hr, hs2, hrow⟩ := app_stepV (cs := (zV N)) 56 (by omega) hB hv hz hvz hI.1 (q3.b1 rfl) rfl news_oneV
  exact wpOp_run ho9 rfl (runAppV (frV N cv pb zb v f) _ (.tmp 15) (.tmp 17) rfl w1 w2 v (f 17) r (q1.mv (by decide)) rfl hr) ⟨_, rfl, inv_putV 4 hI (by decide) hs2 ⟨fun e => absurd e (by decide), fun e => absurd e (by decide), fun e => absurd e (by decide), fun e => absurd e (by decide), fun e => absurd e (by decide), fun _ => hrow, fun e => absurd e (by decide), fun e => absurd e (by decide), fun e => absurd e (by decide)⟩⟩

set_option maxRecDepth 100000 in
theorem step5V {Q : Exit → Act → World → Prop} {v : Value} {n B0 pb zb : Nat} {w w1 : World} {listed : Array Bool} {f : Nat → Value} {o : Oper} (hI : BInvV N v n B0 zb w listed f w1) (ho : (rgnOfV Tryz.f94)[5]? = some o) (_ : ∀ e ∈ o.after, Region.binds .any e = true → listed[e.on]? = some true) :
    wpOp Tryz.prog (rgnOfV Tryz.f94) Q 5 (fun a' w' => ∃ f', a' = frV N cv pb zb v f' ∧ BInvV N v n B0 zb w (listed.setIfInBounds 5 true) f' w') (frV N cv pb zb v f) w1 := by
  have ho9 := ho
  cases ho
  exact wpOp_run (x := v) (w' := w1) ho9 rfl rfl ⟨_, rfl, inv_putV 5 hI (by decide) (StpV.refl _ _) ⟨fun _ => rfl, fun e => absurd e (by decide), fun e => absurd e (by decide), fun e => absurd e (by decide), fun e => absurd e (by decide), fun e => absurd e (by decide), fun e => absurd e (by decide), fun e => absurd e (by decide), fun e => absurd e (by decide)⟩⟩

set_option maxRecDepth 100000 in
theorem step6V {Q : Exit → Act → World → Prop} {v : Value} {n B0 pb zb : Nat} {w w1 : World} {listed : Array Bool} {f : Nat → Value} {o : Oper} (hz : w.heap[zb]? = some (.cells (zV N) 59 (0, 0))) (hvz : v.ownBlock ≠ some zb) (hI : BInvV N v n B0 zb w listed f w1) (ho : (rgnOfV Tryz.f94)[6]? = some o) (_ : ∀ e ∈ o.after, Region.binds .any e = true → listed[e.on]? = some true) :
    wpOp Tryz.prog (rgnOfV Tryz.f94) Q 6 (fun a' w' => ∃ f', a' = frV N cv pb zb v f' ∧ BInvV N v n B0 zb w (listed.setIfInBounds 6 true) f' w') (frV N cv pb zb v f) w1 := by
  have ho9 := ho
  cases ho
  have hz1 : w1.heap[zb]? = some (.cells (zV N) 59 (0, 0)) := by rw [hI.1.grown.block zb (Array.getElem?_eq_some_iff.1 hz).1 (fun e => hvz e.symm)]; exact hz
  exact wpOp_run (x := .agg (zV N)) (w' := w1) ho9 rfl (runLoadV pb zb v f _ rfl w1 hz1) ⟨_, rfl, inv_putV 6 hI (by decide) (StpV.refl _ _) ⟨fun e => absurd e (by decide), fun _ => rfl, fun e => absurd e (by decide), fun e => absurd e (by decide), fun e => absurd e (by decide), fun e => absurd e (by decide), fun e => absurd e (by decide), fun e => absurd e (by decide), fun e => absurd e (by decide)⟩⟩

set_option maxRecDepth 100000 in
theorem step7V {Q : Exit → Act → World → Prop} {v : Value} {n B0 pb zb : Nat} {w w1 : World} {listed : Array Bool} {f : Nat → Value} {o : Oper} (hz : w.heap[zb]? = some (.cells (zV N) 59 (0, 0))) (hvz : v.ownBlock ≠ some zb) (hI : BInvV N v n B0 zb w listed f w1) (ho : (rgnOfV Tryz.f94)[7]? = some o) (_ : ∀ e ∈ o.after, Region.binds .any e = true → listed[e.on]? = some true) :
    wpOp Tryz.prog (rgnOfV Tryz.f94) Q 7 (fun a' w' => ∃ f', a' = frV N cv pb zb v f' ∧ BInvV N v n B0 zb w (listed.setIfInBounds 7 true) f' w') (frV N cv pb zb v f) w1 := by
  have ho9 := ho
  cases ho
  have hz1 : w1.heap[zb]? = some (.cells (zV N) 59 (0, 0)) := by rw [hI.1.grown.block zb (Array.getElem?_eq_some_iff.1 hz).1 (fun e => hvz e.symm)]; exact hz
  exact wpOp_run (x := .agg (zV N)) (w' := w1) ho9 rfl (runLoadV pb zb v f _ rfl w1 hz1) ⟨_, rfl, inv_putV 7 hI (by decide) (StpV.refl _ _) ⟨fun e => absurd e (by decide), fun _ => rfl, fun e => absurd e (by decide), fun e => absurd e (by decide), fun e => absurd e (by decide), fun e => absurd e (by decide), fun e => absurd e (by decide), fun e => absurd e (by decide), fun e => absurd e (by decide)⟩⟩

set_option maxRecDepth 100000 in
theorem step8V {Q : Exit → Act → World → Prop} {v : Value} {n B0 pb zb : Nat} {w w1 : World} {listed : Array Bool} {f : Nat → Value} {o : Oper} (hv : RowOV w B0 v n) (hI : BInvV N v n B0 zb w listed f w1) (ho : (rgnOfV Tryz.f94)[8]? = some o) (hd : ∀ e ∈ o.after, Region.binds .any e = true → listed[e.on]? = some true) :
    wpOp Tryz.prog (rgnOfV Tryz.f94) Q 8 (fun a' w' => ∃ f', a' = frV N cv pb zb v f' ∧ BInvV N v n B0 zb w (listed.setIfInBounds 8 true) f' w') (frV N cv pb zb v f) w1 := by
  have ho9 := ho
  cases ho
  have d6 : listed[6]? = some true := hd ⟨6, _⟩ (Array.mem_toList_iff.1 (List.Mem.head _)) rfl
  have q6 := hI.2 6 (by decide) d6
  have d7 : listed[7]? = some true := hd ⟨7, _⟩ (Array.mem_toList_iff.1 (List.Mem.tail _ (List.Mem.head _))) rfl
  have q7 := hI.2 7 (by decide) d7
  have hnew : some w1.heap.size ≠ v.ownBlock := fun e => by
    have h1 := (hv.step hI.1)
    obtain ⟨xs, h2⟩ := h1
    have := (h2.lt _ e.symm).2
    omega
  exact wpOp_run ho9 rfl (runB2V pb zb v f _ rfl w1 (q6.ld (by decide)) (q7.ld (by decide))) ⟨_, rfl, inv_putV 8 hI (by decide) (StpV.alloc _ _ _) ⟨fun e => absurd e (by decide), fun e => absurd e (by decide), fun e => absurd e (by decide), fun _ => ⟨w1.heap.size, rfl, hnew, heap_alloc_new w1 _⟩, fun e => absurd e (by decide), fun e => absurd e (by decide), fun e => absurd e (by decide), fun e => absurd e (by decide), fun e => absurd e (by decide)⟩⟩

set_option maxRecDepth 100000 in
theorem step9V {Q : Exit → Act → World → Prop} {v : Value} {n B0 pb zb : Nat} {w w1 : World} {listed : Array Bool} {f : Nat → Value} {o : Oper} (hn : n ≤ 9000000) (hB : B0 ≤ w.heap.size) (hv : RowOV w B0 v n) (hz : w.heap[zb]? = some (.cells (zV N) 59 (0, 0))) (hvz : v.ownBlock ≠ some zb) (hI : BInvV N v n B0 zb w listed f w1) (ho : (rgnOfV Tryz.f94)[9]? = some o) (hd : ∀ e ∈ o.after, Region.binds .any e = true → listed[e.on]? = some true) :
    wpOp Tryz.prog (rgnOfV Tryz.f94) Q 9 (fun a' w' => ∃ f', a' = frV N cv pb zb v f' ∧ BInvV N v n B0 zb w (listed.setIfInBounds 9 true) f' w') (frV N cv pb zb v f) w1 := by
  have ho9 := ho
  cases ho
  have d5 : listed[5]? = some true := hd ⟨5, _⟩ (Array.mem_toList_iff.1 (List.Mem.head _)) rfl
  have q5 := hI.2 5 (by decide) d5
  have d8 : listed[8]? = some true := hd ⟨8, _⟩ (Array.mem_toList_iff.1 (List.Mem.tail _ (List.Mem.head _))) rfl
  have q8 := hI.2 8 (by decide) d8
  have d4 : listed[4]? = some true := hd ⟨4, _⟩ (Array.mem_toList_iff.1 (List.Mem.tail _ (List.Mem.tail _ (List.Mem.head _)))) rfl
  have q4 := hI.2 4 (by decide) d4
  obtain ⟨r, w2, hr, hs2, hrow⟩ := app_stepV (cs := ((zV N) ++ (zV N))) 56 (by omega) hB hv hz hvz hI.1 (q8.b2 rfl) (z2_size N) news_twoV
  exact wpOp_run ho9 rfl (runAppV (frV N cv pb zb v f) _ (.tmp 19) (.tmp 22) rfl w1 w2 v (f 22) r (q5.mv (by decide)) rfl hr) ⟨_, rfl, inv_putV 9 hI (by decide) hs2 ⟨fun e => absurd e (by decide), fun e => absurd e (by decide), fun e => absurd e (by decide), fun e => absurd e (by decide), fun e => absurd e (by decide), fun e => absurd e (by decide), fun _ => hrow, fun e => absurd e (by decide), fun e => absurd e (by decide)⟩⟩

set_option maxRecDepth 100000 in
theorem step10V {Q : Exit → Act → World → Prop} {v : Value} {n B0 pb zb : Nat} {w w1 : World} {listed : Array Bool} {f : Nat → Value} {o : Oper} (hI : BInvV N v n B0 zb w listed f w1) (ho : (rgnOfV Tryz.f94)[10]? = some o) (_ : ∀ e ∈ o.after, Region.binds .any e = true → listed[e.on]? = some true) :
    wpOp Tryz.prog (rgnOfV Tryz.f94) Q 10 (fun a' w' => ∃ f', a' = frV N cv pb zb v f' ∧ BInvV N v n B0 zb w (listed.setIfInBounds 10 true) f' w') (frV N cv pb zb v f) w1 := by
  have ho9 := ho
  cases ho
  exact wpOp_run (x := v) (w' := w1) ho9 rfl rfl ⟨_, rfl, inv_putV 10 hI (by decide) (StpV.refl _ _) ⟨fun _ => rfl, fun e => absurd e (by decide), fun e => absurd e (by decide), fun e => absurd e (by decide), fun e => absurd e (by decide), fun e => absurd e (by decide), fun e => absurd e (by decide), fun e => absurd e (by decide), fun e => absurd e (by decide)⟩⟩

set_option maxRecDepth 100000 in
theorem step11V {Q : Exit → Act → World → Prop} {v : Value} {n B0 pb zb : Nat} {w w1 : World} {listed : Array Bool} {f : Nat → Value} {o : Oper} (hz : w.heap[zb]? = some (.cells (zV N) 59 (0, 0))) (hvz : v.ownBlock ≠ some zb) (hI : BInvV N v n B0 zb w listed f w1) (ho : (rgnOfV Tryz.f94)[11]? = some o) (_ : ∀ e ∈ o.after, Region.binds .any e = true → listed[e.on]? = some true) :
    wpOp Tryz.prog (rgnOfV Tryz.f94) Q 11 (fun a' w' => ∃ f', a' = frV N cv pb zb v f' ∧ BInvV N v n B0 zb w (listed.setIfInBounds 11 true) f' w') (frV N cv pb zb v f) w1 := by
  have ho9 := ho
  cases ho
  have hz1 : w1.heap[zb]? = some (.cells (zV N) 59 (0, 0)) := by rw [hI.1.grown.block zb (Array.getElem?_eq_some_iff.1 hz).1 (fun e => hvz e.symm)]; exact hz
  exact wpOp_run (x := .agg (zV N)) (w' := w1) ho9 rfl (runLoadV pb zb v f _ rfl w1 hz1) ⟨_, rfl, inv_putV 11 hI (by decide) (StpV.refl _ _) ⟨fun e => absurd e (by decide), fun _ => rfl, fun e => absurd e (by decide), fun e => absurd e (by decide), fun e => absurd e (by decide), fun e => absurd e (by decide), fun e => absurd e (by decide), fun e => absurd e (by decide), fun e => absurd e (by decide)⟩⟩

set_option maxRecDepth 100000 in
theorem step12V {Q : Exit → Act → World → Prop} {v : Value} {n B0 pb zb : Nat} {w w1 : World} {listed : Array Bool} {f : Nat → Value} {o : Oper} (hz : w.heap[zb]? = some (.cells (zV N) 59 (0, 0))) (hvz : v.ownBlock ≠ some zb) (hI : BInvV N v n B0 zb w listed f w1) (ho : (rgnOfV Tryz.f94)[12]? = some o) (_ : ∀ e ∈ o.after, Region.binds .any e = true → listed[e.on]? = some true) :
    wpOp Tryz.prog (rgnOfV Tryz.f94) Q 12 (fun a' w' => ∃ f', a' = frV N cv pb zb v f' ∧ BInvV N v n B0 zb w (listed.setIfInBounds 12 true) f' w') (frV N cv pb zb v f) w1 := by
  have ho9 := ho
  cases ho
  have hz1 : w1.heap[zb]? = some (.cells (zV N) 59 (0, 0)) := by rw [hI.1.grown.block zb (Array.getElem?_eq_some_iff.1 hz).1 (fun e => hvz e.symm)]; exact hz
  exact wpOp_run (x := .agg (zV N)) (w' := w1) ho9 rfl (runLoadV pb zb v f _ rfl w1 hz1) ⟨_, rfl, inv_putV 12 hI (by decide) (StpV.refl _ _) ⟨fun e => absurd e (by decide), fun _ => rfl, fun e => absurd e (by decide), fun e => absurd e (by decide), fun e => absurd e (by decide), fun e => absurd e (by decide), fun e => absurd e (by decide), fun e => absurd e (by decide), fun e => absurd e (by decide)⟩⟩

set_option maxRecDepth 100000 in
theorem step13V {Q : Exit → Act → World → Prop} {v : Value} {n B0 pb zb : Nat} {w w1 : World} {listed : Array Bool} {f : Nat → Value} {o : Oper} (hz : w.heap[zb]? = some (.cells (zV N) 59 (0, 0))) (hvz : v.ownBlock ≠ some zb) (hI : BInvV N v n B0 zb w listed f w1) (ho : (rgnOfV Tryz.f94)[13]? = some o) (_ : ∀ e ∈ o.after, Region.binds .any e = true → listed[e.on]? = some true) :
    wpOp Tryz.prog (rgnOfV Tryz.f94) Q 13 (fun a' w' => ∃ f', a' = frV N cv pb zb v f' ∧ BInvV N v n B0 zb w (listed.setIfInBounds 13 true) f' w') (frV N cv pb zb v f) w1 := by
  have ho9 := ho
  cases ho
  have hz1 : w1.heap[zb]? = some (.cells (zV N) 59 (0, 0)) := by rw [hI.1.grown.block zb (Array.getElem?_eq_some_iff.1 hz).1 (fun e => hvz e.symm)]; exact hz
  exact wpOp_run (x := .agg (zV N)) (w' := w1) ho9 rfl (runLoadV pb zb v f _ rfl w1 hz1) ⟨_, rfl, inv_putV 13 hI (by decide) (StpV.refl _ _) ⟨fun e => absurd e (by decide), fun _ => rfl, fun e => absurd e (by decide), fun e => absurd e (by decide), fun e => absurd e (by decide), fun e => absurd e (by decide), fun e => absurd e (by decide), fun e => absurd e (by decide), fun e => absurd e (by decide)⟩⟩

set_option maxRecDepth 100000 in
theorem step14V {Q : Exit → Act → World → Prop} {v : Value} {n B0 pb zb : Nat} {w w1 : World} {listed : Array Bool} {f : Nat → Value} {o : Oper} (hv : RowOV w B0 v n) (hI : BInvV N v n B0 zb w listed f w1) (ho : (rgnOfV Tryz.f94)[14]? = some o) (hd : ∀ e ∈ o.after, Region.binds .any e = true → listed[e.on]? = some true) :
    wpOp Tryz.prog (rgnOfV Tryz.f94) Q 14 (fun a' w' => ∃ f', a' = frV N cv pb zb v f' ∧ BInvV N v n B0 zb w (listed.setIfInBounds 14 true) f' w') (frV N cv pb zb v f) w1 := by
  have ho9 := ho
  cases ho
  have d11 : listed[11]? = some true := hd ⟨11, _⟩ (Array.mem_toList_iff.1 (List.Mem.head _)) rfl
  have q11 := hI.2 11 (by decide) d11
  have d12 : listed[12]? = some true := hd ⟨12, _⟩ (Array.mem_toList_iff.1 (List.Mem.tail _ (List.Mem.head _))) rfl
  have q12 := hI.2 12 (by decide) d12
  have d13 : listed[13]? = some true := hd ⟨13, _⟩ (Array.mem_toList_iff.1 (List.Mem.tail _ (List.Mem.tail _ (List.Mem.head _)))) rfl
  have q13 := hI.2 13 (by decide) d13
  have hnew : some w1.heap.size ≠ v.ownBlock := fun e => by
    have h1 := (hv.step hI.1)
    obtain ⟨xs, h2⟩ := h1
    have := (h2.lt _ e.symm).2
    omega
  exact wpOp_run ho9 rfl (runB3V pb zb v f _ rfl w1 (q11.ld (by decide)) (q12.ld (by decide)) (q13.ld (by decide))) ⟨_, rfl, inv_putV 14 hI (by decide) (StpV.alloc _ _ _) ⟨fun e => absurd e (by decide), fun e => absurd e (by decide), fun e => absurd e (by decide), fun e => absurd e (by decide), fun _ => ⟨w1.heap.size, rfl, hnew, heap_alloc_new w1 _⟩, fun e => absurd e (by decide), fun e => absurd e (by decide), fun e => absurd e (by decide), fun e => absurd e (by decide)⟩⟩

set_option maxRecDepth 100000 in
theorem step15V {Q : Exit → Act → World → Prop} {v : Value} {n B0 pb zb : Nat} {w w1 : World} {listed : Array Bool} {f : Nat → Value} {o : Oper} (hn : n ≤ 9000000) (hB : B0 ≤ w.heap.size) (hv : RowOV w B0 v n) (hz : w.heap[zb]? = some (.cells (zV N) 59 (0, 0))) (hvz : v.ownBlock ≠ some zb) (hI : BInvV N v n B0 zb w listed f w1) (ho : (rgnOfV Tryz.f94)[15]? = some o) (hd : ∀ e ∈ o.after, Region.binds .any e = true → listed[e.on]? = some true) :
    wpOp Tryz.prog (rgnOfV Tryz.f94) Q 15 (fun a' w' => ∃ f', a' = frV N cv pb zb v f' ∧ BInvV N v n B0 zb w (listed.setIfInBounds 15 true) f' w') (frV N cv pb zb v f) w1 := by
  have ho9 := ho
  cases ho
  have d10 : listed[10]? = some true := hd ⟨10, _⟩ (Array.mem_toList_iff.1 (List.Mem.head _)) rfl
  have q10 := hI.2 10 (by decide) d10
  have d14 : listed[14]? = some true := hd ⟨14, _⟩ (Array.mem_toList_iff.1 (List.Mem.tail _ (List.Mem.head _))) rfl
  have q14 := hI.2 14 (by decide) d14
  have d9 : listed[9]? = some true := hd ⟨9, _⟩ (Array.mem_toList_iff.1 (List.Mem.tail _ (List.Mem.tail _ (List.Mem.head _)))) rfl
  have q9 := hI.2 9 (by decide) d9
  obtain ⟨r, w2, hr, hs2, hrow⟩ := app_stepV (cs := ((zV N) ++ (zV N) ++ (zV N))) 56 (by omega) hB hv hz hvz hI.1 (q14.b3 rfl) (z3_size N) news_threeV
  exact wpOp_run ho9 rfl (runAppV (frV N cv pb zb v f) _ (.tmp 24) (.tmp 28) rfl w1 w2 v (f 28) r (q10.mv (by decide)) rfl hr) ⟨_, rfl, inv_putV 15 hI (by decide) hs2 ⟨fun e => absurd e (by decide), fun e => absurd e (by decide), fun e => absurd e (by decide), fun e => absurd e (by decide), fun e => absurd e (by decide), fun e => absurd e (by decide), fun e => absurd e (by decide), fun _ => hrow, fun e => absurd e (by decide)⟩⟩

set_option maxRecDepth 100000 in
theorem step16V {Q : Exit → Act → World → Prop} {v : Value} {n B0 pb zb : Nat} {w w1 : World} {listed : Array Bool} {f : Nat → Value} {o : Oper} (hv : RowOV w B0 v n) (hI : BInvV N v n B0 zb w listed f w1) (ho : (rgnOfV Tryz.f94)[16]? = some o) (hd : ∀ e ∈ o.after, Region.binds .any e = true → listed[e.on]? = some true) :
    wpOp Tryz.prog (rgnOfV Tryz.f94) Q 16 (fun a' w' => ∃ f', a' = frV N cv pb zb v f' ∧ BInvV N v n B0 zb w (listed.setIfInBounds 16 true) f' w') (frV N cv pb zb v f) w1 := by
  have ho9 := ho
  cases ho
  have d0 : listed[0]? = some true := hd ⟨0, _⟩ (Array.mem_toList_iff.1 (List.Mem.head _)) rfl
  have q0 := hI.2 0 (by decide) d0
  have d4 : listed[4]? = some true := hd ⟨4, _⟩ (Array.mem_toList_iff.1 (List.Mem.tail _ (List.Mem.head _))) rfl
  have q4 := hI.2 4 (by decide) d4
  have d9 : listed[9]? = some true := hd ⟨9, _⟩ (Array.mem_toList_iff.1 (List.Mem.tail _ (List.Mem.tail _ (List.Mem.head _)))) rfl
  have q9 := hI.2 9 (by decide) d9
  have d15 : listed[15]? = some true := hd ⟨15, _⟩ (Array.mem_toList_iff.1 (List.Mem.tail _ (List.Mem.tail _ (List.Mem.tail _ (List.Mem.head _))))) rfl
  have q15 := hI.2 15 (by decide) d15
  have hnew : some w1.heap.size ≠ v.ownBlock := fun e => by
    have h1 := (hv.step hI.1)
    obtain ⟨xs, h2⟩ := h1
    have := (h2.lt _ e.symm).2
    omega
  have f0 : f 14 = v := q0.mv (by decide)
  have R1 := q4.r1 rfl
  have R2 := q9.r2 rfl
  have R3 := q15.r3 rfl
  obtain ⟨⟨x0, hx0⟩, ⟨x1, hx1⟩, ⟨x2, hx2⟩, ⟨x3, hx3⟩⟩ := And.intro (hv.step hI.1) (And.intro R1.1 (And.intro R2.1 R3.1))
  obtain ⟨a0, c0, e0⟩ := row_form hx0
  obtain ⟨a1, c1, e1⟩ := row_form hx1
  obtain ⟨a2, c2, e2⟩ := row_form hx2
  obtain ⟨a3, c3, e3⟩ := row_form hx3
  refine wpOp_run ho9 rfl (runB4V pb zb v f _ rfl w1 a0 a1 a2 a3 _ _ _ _ c0 c1 c2 c3 (f0.trans e0) e1 e2 e3) ⟨_, rfl, inv_putV 16 hI (by decide) (StpV.alloc _ _ _) ⟨fun e => absurd e (by decide), fun e => absurd e (by decide), fun e => absurd e (by decide), fun e => absurd e (by decide), fun e => absurd e (by decide), fun e => absurd e (by decide), fun e => absurd e (by decide), fun e => absurd e (by decide), fun _ => ?_⟩⟩
  have S := StpV.alloc v.ownBlock w1 (.cells #[.slice a0 n c0, .slice a1 (n + 1) c1, .slice a2 (n + 2) c2, .slice a3 (n + 3) c3] 56)
  refine ⟨w1.heap.size, f 18, f 23, f 29, rfl, hnew, ?_, R1.step S, R2.step S, R3.step S⟩
  rw [heap_alloc_new]
  have g1 : f 18 = .slice a1 (n + 1) c1 := e1
  have g2 : f 23 = .slice a2 (n + 2) c2 := e2
  have g3 : f 29 = .slice a3 (n + 3) c3 := e3
  rw [g1, g2, g3, e0]

set_option maxRecDepth 100000 in
theorem step17V {Q : Exit → Act → World → Prop} {v : Value} {n B0 pb zb : Nat} {w w1 : World} {listed : Array Bool} {f : Nat → Value} {o : Oper} (hI : BInvV N v n B0 zb w listed f w1) (ho : (rgnOfV Tryz.f94)[17]? = some o) (hd : ∀ e ∈ o.after, Region.binds .any e = true → listed[e.on]? = some true) :
    wpOp Tryz.prog (rgnOfV Tryz.f94) Q 17 (fun a' w' => ∃ f', a' = frV N cv pb zb v f' ∧ BInvV N v n B0 zb w (listed.setIfInBounds 17 true) f' w') (frV N cv pb zb v f) w1 := by
  have ho9 := ho
  cases ho
  have d16 : listed[16]? = some true := hd ⟨16, _⟩ (Array.mem_toList_iff.1 (List.Mem.head _)) rfl
  have q16 := hI.2 16 (by decide) d16
  exact wpOp_run (x := f 30) (w' := w1) ho9 rfl rfl ⟨_, rfl, inv_putV 17 hI (by decide) (StpV.refl _ _) ⟨fun e => absurd e (by decide), fun e => absurd e (by decide), fun e => absurd e (by decide), fun e => absurd e (by decide), fun e => absurd e (by decide), fun e => absurd e (by decide), fun e => absurd e (by decide), fun e => absurd e (by decide), fun _ => q16.rg (by decide)⟩⟩

set_option maxRecDepth 100000 in
/-- The region that makes the four lists, in whatever order. -/
theorem book_r1V {Q : Exit → Act → World → Prop} {v : Value} {n B0 pb zb id : Nat} {w : World} {f : Nat → Value} (hn : n ≤ 9000000) (hB : B0 ≤ w.heap.size) (hv : RowOV w B0 v n) (hz : w.heap[zb]? = some (.cells (zV N) 59 (0, 0))) (hvz : v.ownBlock ≠ some zb)
    (hQ : ∀ f' w', StpV v.ownBlock w w' → RegsV v n B0 zb w' (f' 5) → Q .normal (frV N cv pb zb v f') w') : (Code.region id (rgnOfV Tryz.f94) true).wp Tryz.prog Q (frV N cv pb zb v f) w := by
  refine wp_region_inv (by kernel_rfl) (I := fun listed a w1 => ∃ f', a = frV N cv pb zb v f' ∧ BInvV N v n B0 zb w listed f' w1) rgn1_backV ⟨f, rfl, ?_⟩ ?_ ?_
  · refine ⟨⟨⟨rfl, rfl, rfl, Nat.le_refl _, fun _ _ _ => rfl⟩, fun g cur h => ⟨cur, h, rfl⟩⟩, fun k hk hl => ?_⟩
    rw [rgn1_sizeV, Array.getElem?_replicate, if_pos hk] at hl
    cases hl
  · rintro listed a w1 i o ⟨f', rfl, hI⟩ hsz hi ho hd
    rw [rgn1_sizeV] at hi
    match i, hi with
    | 0, _ => exact step0V  hI ho hd
    | 1, _ => exact step1V  hI ho hd
    | 2, _ => exact step2V hz hvz hI ho hd
    | 3, _ => exact step3V hv hI ho hd
    | 4, _ => exact step4V hn hB hv hz hvz hI ho hd
    | 5, _ => exact step5V  hI ho hd
    | 6, _ => exact step6V hz hvz hI ho hd
    | 7, _ => exact step7V hz hvz hI ho hd
    | 8, _ => exact step8V hv hI ho hd
    | 9, _ => exact step9V hn hB hv hz hvz hI ho hd
    | 10, _ => exact step10V  hI ho hd
    | 11, _ => exact step11V hz hvz hI ho hd
    | 12, _ => exact step12V hz hvz hI ho hd
    | 13, _ => exact step13V hz hvz hI ho hd
    | 14, _ => exact step14V hv hI ho hd
    | 15, _ => exact step15V hn hB hv hz hvz hI ho hd
    | 16, _ => exact step16V hv hI ho hd
    | 17, _ => exact step17V  hI ho hd
  · rintro listed a w1 ⟨f', rfl, hI⟩ hl
    exact hQ f' w1 hI.1 ((hI.2 17 (by decide) (hl 17 (by rw [rgn1_sizeV]; decide))).rg (by decide))

end Go.Proofs.YtofinpocigbbeaaGreat

/-! BovE -/
namespace Go.Proofs.YtofinpocigbbeaaGreat
open Go.RowKit
attribute [local go_sem ↓] Go.wp_at_zero Go.wp_at_succ

/-- Rows from B0 on may be written over, but for one; nothing else is. -/
structure TurV (B0 zb : Nat) (w w' : World) : Prop where
  os : w'.os = w.os
  tape : w'.tape = w.tape
  output : w'.output = w.output
  size : w.heap.size ≤ w'.heap.size
  block : ∀ g, g < w.heap.size → w'.heap[g]? = w.heap[g]? ∨ (B0 ≤ g ∧ g ≠ zb ∧ ∃ cur cur' : Array Value, w.heap[g]? = some (.cells cur 59 (0, 0)) ∧ w'.heap[g]? = some (.cells cur' 59 (0, 0)) ∧ cur'.size = cur.size)

theorem TurV.refl (B0 zb : Nat) (w : World) : TurV B0 zb w w := ⟨rfl, rfl, rfl, Nat.le_refl _, fun _ _ => .inl rfl⟩

theorem TurV.trans {B0 zb : Nat} {a b c : World} (h : TurV B0 zb a b) (k : TurV B0 zb b c) : TurV B0 zb a c := by
  refine ⟨k.os.trans h.os, k.tape.trans h.tape, k.output.trans h.output, Nat.le_trans h.size k.size, fun g hg => ?_⟩
  rcases h.block g hg with h1 | ⟨h1, h2, c1, c2, h3, h4, h5⟩
  · rcases k.block g (Nat.lt_of_lt_of_le hg h.size) with k1 | ⟨k1, k2, d1, d2, k3, k4, k5⟩
    · exact .inl (k1.trans h1)
    · exact .inr ⟨k1, k2, d1, d2, by rw [← h1]; exact k3, k4, k5⟩
  · rcases k.block g (Nat.lt_of_lt_of_le hg h.size) with k1 | ⟨k1, k2, d1, d2, k3, k4, k5⟩
    · exact .inr ⟨h1, h2, c1, c2, h3, by rw [k1]; exact h4, h5⟩
    · rw [h4] at k3
      injection k3 with k3
      injection k3 with k3
      subst k3
      exact .inr ⟨h1, h2, c1, d2, h3, k4, k5.trans h5⟩

theorem TurV.below {B0 zb : Nat} {w w' : World} (h : TurV B0 zb w w') (hB : B0 ≤ w.heap.size) : Below B0 w w' :=
  ⟨h.os, h.tape, h.output, h.size, fun k hk => by
    rcases h.block k (by omega) with h1 | ⟨h1, _⟩
    · exact h1
    · omega⟩

theorem TurV.drew {B0 zb : Nat} {w w' : World} (h : TurV B0 zb w w') (n : Nat) : TurV B0 zb w (w'.drewN n) := ⟨h.os, h.tape, h.output, h.size, h.block⟩

/-- What is no row of views is as it was. -/
theorem TurV.other {B0 zb g : Nat} {w w' : World} {cur : Array Value} {t : TypeId} {q : Nat × Nat} (h : TurV B0 zb w w') (hg : w.heap[g]? = some (.cells cur t q)) (ht : t ≠ 59) : w'.heap[g]? = some (.cells cur t q) := by
  rcases h.block g (Array.getElem?_eq_some_iff.1 hg).1 with h1 | ⟨_, _, c1, c2, h3, _, _⟩
  · rw [h1]; exact hg
  · rw [hg] at h3
    injection h3 with h3
    injection h3 with _ h3
    exact absurd h3 ht

theorem TurV.keep {B0 zb : Nat} {w w' : World} (h : TurV B0 zb w w') (hg : zb < w.heap.size) : w'.heap[zb]? = w.heap[zb]? := by
  rcases h.block zb hg with h1 | ⟨_, h2, _⟩
  · exact h1
  · exact absurd rfl h2

theorem TurV.row {B0 zb m : Nat} {w w' : World} {s : Value} (h : TurV B0 zb w w') (hs : RowZV w B0 zb s m) : RowZV w' B0 zb s m := by
  refine ⟨?_, hs.2⟩
  obtain ⟨xs, h1, h2⟩ := hs.1
  rcases h2 with h2 | ⟨g, cap, cur, e1, e2, e3, e4, e5, e6, e7⟩
  · exact ⟨xs, h1, .inl h2⟩
  · have : ∃ cur' : Array Value, w'.heap[g]? = some (.cells cur' 59 (0, 0)) ∧ cur'.size = cur.size := by
      rcases h.block g (Array.getElem?_eq_some_iff.1 e3).1 with k | ⟨_, _, c1, c2, k3, k4, k5⟩
      · exact ⟨cur, by rw [k]; exact e3, rfl⟩
      · rw [e3] at k3
        injection k3 with k3
        injection k3 with k3
        subst k3
        exact ⟨c2, k4, k5⟩
    obtain ⟨cur', k1, k2⟩ := this
    refine ⟨cur'.toList.take (m * 9), ?_, .inr ⟨g, cap, cur', e1, e2, k1, e4, e5, by rw [k2, e6], rfl⟩⟩
    rw [List.length_take, Array.length_toList, k2, e6]
    have := Nat.mul_le_mul_right 9 e4
    omega

theorem TurV.set {B0 zb g : Nat} {w : World} {cur : Array Value} (hg : w.heap[g]? = some (.cells cur 59 (0, 0))) (h1 : B0 ≤ g) (h2 : g ≠ zb) (j : Nat) (u : Value) : TurV B0 zb w (w.setCell ⟨g, j, none⟩ u) ∧ ∃ cur' : Array Value, (w.setCell ⟨g, j, none⟩ u).heap[g]? = some (.cells cur' 59 (0, 0)) := by
  refine ⟨⟨rfl, rfl, rfl, by simp, fun k hk => ?_⟩, ⟨_, heap_setCell_same w g j cur _ u hg⟩⟩
  by_cases e : k = g
  · subst e
    exact .inr ⟨h1, h2, cur, _, hg, heap_setCell_same w k j cur _ u hg, by simp⟩
  · exact .inl (heap_setCell_other w ⟨g, j, none⟩ k u e)

theorem TurV.set9 {B0 zb g : Nat} {w : World} {cur : Array Value} (hg : w.heap[g]? = some (.cells cur 59 (0, 0))) (h1 : B0 ≤ g) (h2 : g ≠ zb) (j0 j1 j2 j3 j4 j5 j6 j7 j8 : Nat) (u0 u1 u2 u3 u4 u5 u6 u7 u8 : Value) : TurV B0 zb w (((((((((w.setCell ⟨g, j0, none⟩ u0).setCell ⟨g, j1, none⟩ u1).setCell ⟨g, j2, none⟩ u2).setCell ⟨g, j3, none⟩ u3).setCell ⟨g, j4, none⟩ u4).setCell ⟨g, j5, none⟩ u5).setCell ⟨g, j6, none⟩ u6).setCell ⟨g, j7, none⟩ u7).setCell ⟨g, j8, none⟩ u8) := by
  obtain ⟨t0, c0, k0⟩ := TurV.set hg h1 h2 j0 u0
  obtain ⟨t1, c1, k1⟩ := TurV.set k0 h1 h2 j1 u1
  obtain ⟨t2, c2, k2⟩ := TurV.set k1 h1 h2 j2 u2
  obtain ⟨t3, c3, k3⟩ := TurV.set k2 h1 h2 j3 u3
  obtain ⟨t4, c4, k4⟩ := TurV.set k3 h1 h2 j4 u4
  obtain ⟨t5, c5, k5⟩ := TurV.set k4 h1 h2 j5 u5
  obtain ⟨t6, c6, k6⟩ := TurV.set k5 h1 h2 j6 u6
  obtain ⟨t7, c7, k7⟩ := TurV.set k6 h1 h2 j7 u7
  obtain ⟨t8, c8, k8⟩ := TurV.set k7 h1 h2 j8 u8
  exact ((((((((t0.trans t1).trans t2).trans t3).trans t4).trans t5).trans t6).trans t7).trans t8)

/-- A row's cells, to be written. -/
theorem RowZV.open {w : World} {B0 zb m i : Nat} {s : Value} (h : RowZV w B0 zb s m) (hi : i < m) : ∃ g cap cur, s = .slice (some ⟨g, 0, none⟩) m cap ∧ B0 ≤ g ∧ g ≠ zb ∧ m ≤ cap ∧ g < w.heap.size ∧ w.heap[g]? = some (.cells cur 59 (0, 0)) ∧ (∃ q, w.cell? ⟨g, i * 9, none⟩ = some q) ∧ (∃ q, w.cell? ⟨g, i * 9 + 1, none⟩ = some q) ∧ (∃ q, w.cell? ⟨g, i * 9 + 2, none⟩ = some q) ∧ (∃ q, w.cell? ⟨g, i * 9 + 3, none⟩ = some q) ∧ (∃ q, w.cell? ⟨g, i * 9 + 4, none⟩ = some q) ∧ (∃ q, w.cell? ⟨g, i * 9 + 5, none⟩ = some q) ∧ (∃ q, w.cell? ⟨g, i * 9 + 6, none⟩ = some q) ∧ (∃ q, w.cell? ⟨g, i * 9 + 7, none⟩ = some q) ∧ (∃ q, w.cell? ⟨g, i * 9 + 8, none⟩ = some q) ∧ (∀ j, w.frozen? ⟨g, j, none⟩ = false) := by
  obtain ⟨xs, h1, h2⟩ := h.1
  rcases h2 with ⟨_, h2⟩ | ⟨g, cap, cur, e1, e2, e3, e4, e5, e6, e7⟩
  · omega
  · subst e1
    have hc : ∀ j, j < cur.size → ∃ q, w.cell? ⟨g, j, none⟩ = some q := fun j hj => ⟨cur[j], by rw [cell_of_row w g j cur _ _ e3]; exact Array.getElem?_eq_getElem hj⟩
    have hsz : i * 9 + 8 < cur.size := by
      rw [e6]
      omega
    exact ⟨g, cap, cur, rfl, e2, fun e => h.2 (by rw [← e]; rfl), e4, (Array.getElem?_eq_some_iff.1 e3).1, e3, hc _ (by omega), hc _ (by omega), hc _ (by omega), hc _ (by omega), hc _ (by omega), hc _ (by omega), hc _ (by omega), hc _ (by omega), hc _ (by omega), fun j => by simp [World.frozen?, e3]⟩

/-- View j of block g is the mark of list N. -/
def Done (N : Nat) (w : World) (g j : Nat) : Prop := ∀ o, o < 9 → w.cell? ⟨g, j * 9 + o, none⟩ = (zV N)[o]?

/-- The marks that are there stay. -/
def Stays (N : Nat) (w w' : World) : Prop := ∀ g j, Done N w g j → Done N w' g j

theorem Stays.refl (N : Nat) (w : World) : Stays N w w := fun _ _ h => h
theorem Stays.trans {N : Nat} {a b c : World} (h : Stays N a b) (k : Stays N b c) : Stays N a c := fun g j hd => k g j (h g j hd)
theorem Stays.drew {N : Nat} {w w' : World} (h : Stays N w w') : Stays N w w'.drew := h

/-- A mark is written. -/
theorem mark_set {N q i : Nat} {w : World} {cur : Array Value} (hq : w.heap[q]? = some (.cells cur 59 (0, 0))) (hsz : i * 9 + 8 < cur.size) :
    Stays N w (((((((((w.setCell ⟨q, i * 9, none⟩ (.int .i64 (-7070))).setCell ⟨q, i * 9 + 1, none⟩ (.int .i64 0)).setCell ⟨q, i * 9 + 2, none⟩ (.int .i64 0)).setCell ⟨q, i * 9 + 3, none⟩ (.int .i64 (N : Int))).setCell ⟨q, i * 9 + 4, none⟩ (.int .i64 0)).setCell ⟨q, i * 9 + 5, none⟩ (.int .i64 0)).setCell ⟨q, i * 9 + 6, none⟩ (.int .i64 0)).setCell ⟨q, i * 9 + 7, none⟩ (.int .i64 0)).setCell ⟨q, i * 9 + 8, none⟩ (.int .i64 0)) ∧ Done N (((((((((w.setCell ⟨q, i * 9, none⟩ (.int .i64 (-7070))).setCell ⟨q, i * 9 + 1, none⟩ (.int .i64 0)).setCell ⟨q, i * 9 + 2, none⟩ (.int .i64 0)).setCell ⟨q, i * 9 + 3, none⟩ (.int .i64 (N : Int))).setCell ⟨q, i * 9 + 4, none⟩ (.int .i64 0)).setCell ⟨q, i * 9 + 5, none⟩ (.int .i64 0)).setCell ⟨q, i * 9 + 6, none⟩ (.int .i64 0)).setCell ⟨q, i * 9 + 7, none⟩ (.int .i64 0)).setCell ⟨q, i * 9 + 8, none⟩ (.int .i64 0)) q i := by
  obtain ⟨W, hW⟩ : ∃ W, (((((((((w.setCell ⟨q, i * 9, none⟩ (.int .i64 (-7070))).setCell ⟨q, i * 9 + 1, none⟩ (.int .i64 0)).setCell ⟨q, i * 9 + 2, none⟩ (.int .i64 0)).setCell ⟨q, i * 9 + 3, none⟩ (.int .i64 (N : Int))).setCell ⟨q, i * 9 + 4, none⟩ (.int .i64 0)).setCell ⟨q, i * 9 + 5, none⟩ (.int .i64 0)).setCell ⟨q, i * 9 + 6, none⟩ (.int .i64 0)).setCell ⟨q, i * 9 + 7, none⟩ (.int .i64 0)).setCell ⟨q, i * 9 + 8, none⟩ (.int .i64 0)) = W := ⟨_, rfl⟩
  have hb : W.heap[q]? = some (.cells (((((((((cur.setIfInBounds (i * 9) (.int .i64 (-7070))).setIfInBounds (i * 9 + 1) (.int .i64 0)).setIfInBounds (i * 9 + 2) (.int .i64 0)).setIfInBounds (i * 9 + 3) (.int .i64 (N : Int))).setIfInBounds (i * 9 + 4) (.int .i64 0)).setIfInBounds (i * 9 + 5) (.int .i64 0)).setIfInBounds (i * 9 + 6) (.int .i64 0)).setIfInBounds (i * 9 + 7) (.int .i64 0)).setIfInBounds (i * 9 + 8) (.int .i64 0)) 59 (0, 0)) := by
    rw [← hW]
    exact (heap_setCell_same _ q (i * 9 + 8) _ _ _ (heap_setCell_same _ q (i * 9 + 7) _ _ _ (heap_setCell_same _ q (i * 9 + 6) _ _ _ (heap_setCell_same _ q (i * 9 + 5) _ _ _ (heap_setCell_same _ q (i * 9 + 4) _ _ _ (heap_setCell_same _ q (i * 9 + 3) _ _ _ (heap_setCell_same _ q (i * 9 + 2) _ _ _ (heap_setCell_same _ q (i * 9 + 1) _ _ _ (heap_setCell_same _ q (i * 9) _ _ _ hq)))))))))
  have ho : ∀ k, k ≠ q → W.heap[k]? = w.heap[k]? := fun k hk => by
    rw [← hW]
    rw [heap_setCell_other _ ⟨q, i * 9 + 8, none⟩ k _ hk, heap_setCell_other _ ⟨q, i * 9 + 7, none⟩ k _ hk, heap_setCell_other _ ⟨q, i * 9 + 6, none⟩ k _ hk, heap_setCell_other _ ⟨q, i * 9 + 5, none⟩ k _ hk, heap_setCell_other _ ⟨q, i * 9 + 4, none⟩ k _ hk, heap_setCell_other _ ⟨q, i * 9 + 3, none⟩ k _ hk, heap_setCell_other _ ⟨q, i * 9 + 2, none⟩ k _ hk, heap_setCell_other _ ⟨q, i * 9 + 1, none⟩ k _ hk, heap_setCell_other _ ⟨q, i * 9, none⟩ k _ hk]
  rw [hW]
  have hd : Done N W q i := fun o ho9 => by
    rw [cell_of_row W q _ _ _ _ hb]
    match o, ho9 with
    | 0, _ => simp [zV, Array.getElem?_setIfInBounds]; omega
    | 1, _ => simp [zV, Array.getElem?_setIfInBounds]; omega
    | 2, _ => simp [zV, Array.getElem?_setIfInBounds]; omega
    | 3, _ => simp [zV, Array.getElem?_setIfInBounds]; omega
    | 4, _ => simp [zV, Array.getElem?_setIfInBounds]; omega
    | 5, _ => simp [zV, Array.getElem?_setIfInBounds]; omega
    | 6, _ => simp [zV, Array.getElem?_setIfInBounds]; omega
    | 7, _ => simp [zV, Array.getElem?_setIfInBounds]; omega
    | 8, _ => simp [zV, Array.getElem?_setIfInBounds]; omega
  refine ⟨fun g j h => ?_, hd⟩
  by_cases e : g = q
  · subst e
    by_cases ej : j = i
    · subst ej
      exact hd
    · intro o ho9
      have h1 := h o ho9
      rw [cell_of_row w g _ _ _ _ hq] at h1
      rw [cell_of_row W g _ _ _ _ hb, ← h1]
      repeat rw [Array.getElem?_setIfInBounds_ne (by omega)]
  · intro o ho9
    rw [World.cell?_of_block (ho g e)]
    exact h o ho9

theorem scnInfo : (Tryz.prog.info? 113).map (fun i => (i.zero, i.size, i.bytes)) = some (some (.slice none 0 0), 1, 24) := by kernel_rfl

end Go.Proofs.YtofinpocigbbeaaGreat

/-! Whl -/
namespace Go.Proofs.YtofinpocigbbeaaGreat
open Go.RowKit
attribute [local go_sem ↓] Go.wp_at_zero Go.wp_at_succ

/-- The mark of list i, in memory. -/
def zC (i : Nat) : List Value := [.int .i64 (-7070), .int .i64 0, .int .i64 0, .int .i64 (i : Int), .int .i64 0, .int .i64 0, .int .i64 0, .int .i64 0, .int .i64 0]

/-- A list that reads full of the marks of list i. -/
def MarkV (w : World) (v : Value) (i : Nat) : Prop :=
  ∃ a m c, v = .slice a m c ∧ m ≤ 1152921504606846976 ∧ (0 < m → ∃ b, a = some ⟨b, 0, none⟩ ∧ ∀ j, j < m → ∀ o, o < 9 → w.cell? ⟨b, j * 9 + o, none⟩ = (zC i)[o]?)

/-- Such a list, four times. -/
def QuadV (w : World) (v : Value) (i : Nat) : Prop :=
  ∃ g c, v = .slice (some ⟨g, 0, none⟩) 4 c ∧ ∀ k, k < 4 → ∃ u, w.cell? ⟨g, k, none⟩ = some u ∧ MarkV w u i

/-- The book: no rectangles, no pixels, n lists of views. -/
def BookV (w : World) (B o n : Nat) : Prop :=
  w.cell? ⟨B, o, none⟩ = some (.slice none 0 0) ∧ w.cell? ⟨B, o + 1, none⟩ = some (.slice none 0 0) ∧ ∃ a c, w.cell? ⟨B, o + 2, none⟩ = some (.slice a n c) ∧ (0 < n → ∃ r, a = some ⟨r, 0, none⟩ ∧ ∀ i, i < n → ∃ v, w.cell? ⟨r, i, none⟩ = some v ∧ QuadV w v i)

theorem below_cell {w wr : World} (h : Below w.heap.size w wr) {b j : Nat} {v : Value} (hc : w.cell? ⟨b, j, none⟩ = some v) : wr.cell? ⟨b, j, none⟩ = some v :=
  (World.cell?_of_block (h.block b (cell_lt hc))).trans hc

set_option maxRecDepth 100000 in
set_option maxHeartbeats 2000000 in
/-- (*book).whole -/
theorem whole_any {B o n : Nat} (w : World) (h : BookV w B o n) (hn : n ≤ 1152921504606846976) :
    Calls Tryz.prog 25 #[.pointer (some ⟨B, o, none⟩)] w fun e w' => e = .returned (.bool true) ∧ Below w.heap.size w w' := by
  obtain ⟨c0, c1, a, c, c2, hq⟩ := h
  have HQ := hide hq
  clear hq
  go_enter Tryz.func25, Tryz.ntmps25
  go_wp2
  go_loopg [3] 0 (fun gg s wr => s = .int .i64 0 ∧ w = wr)
  case atStart => exact ⟨rfl, rfl⟩
  case round =>
  obtain ⟨rfl, rfl⟩ := hrel
  go_wp2
  go_loopg [7] 0 (fun gg s wr => s = .int .i64 0 ∧ w = wr)
  case atStart => exact ⟨rfl, rfl⟩
  case round =>
  obtain ⟨rfl, rfl⟩ := hrel
  go_wp2
  go_loopg [11] n (fun gg s wr => ∃ i : Nat, s = .int .i64 i ∧ gg + i = n ∧ Below w.heap.size w wr)
  case atStart => exact ⟨0, rfl, by omega, Below.refl _ _⟩
  case round =>
  rename World => wr
  obtain ⟨i, rfl, hgi, hb⟩ := hrel
  have d2 := below_cell hb c2
  have HB := hide hb
  clear hb
  cases gk with
  | zero =>
    have hlt : ¬ (i : Int) < (n : Int) := by omega
    go_wp2
    go_ret
    exact ⟨rfl, HB.out⟩
  | succ g1 =>
  have hlt : (i : Int) < (n : Int) := by omega
  obtain ⟨r, hr, hv⟩ := HQ.out (by omega)
  subst hr
  obtain ⟨v, cv, q, qc, rfl, hk⟩ := hv i (by omega)
  clear hv
  have HK := hide hk
  clear hk
  go_wp2
  clear d2
  go_loopg [12] 4 (fun gg s w1 => ∃ k : Nat, s = .int .i64 k ∧ gg + k = 4 ∧ Below w.heap.size w w1)
  case atStart => exact ⟨0, rfl, by omega, HB.out⟩
  case round =>
  rename World => w1
  obtain ⟨k, rfl, hgk, hb1⟩ := hrel
  have e2 := below_cell hb1 c2
  have e3 := below_cell hb1 cv
  have HB1 := hide hb1
  clear hb1
  cases gk with
  | zero =>
    have hlt1 : ¬ (k : Int) < 4 := by omega
    go_wp2
    go_roundg g1
    case measure => omega
    case rel => exact ⟨i + 1, by go_num, by omega, HB1.out⟩
  | succ g2 =>
  have hlt1 : (k : Int) < 4 := by omega
  obtain ⟨u, cu, ma, m, mc, rfl, hm64, hmc⟩ := HK.out k (by omega)
  have HM := hide hmc
  clear hmc
  have e4 := below_cell HB1.out cu
  go_wp2
  clear e2 e3 e4
  go_loopg [13] m (fun gg s w2 => ∃ j : Nat, s = .int .i64 j ∧ gg + j = m ∧ Below w.heap.size w w2)
  case atStart => exact ⟨0, rfl, by omega, HB1.out⟩
  case round =>
  rename World => w2
  obtain ⟨j, rfl, hgj, hb2⟩ := hrel
  have f2 := below_cell hb2 c2
  have f3 := below_cell hb2 cv
  have f4 := below_cell hb2 cu
  have HB2 := hide hb2
  clear hb2
  cases gk with
  | zero =>
    have hlt2 : ¬ (j : Int) < (m : Int) := by omega
    go_wp2
    go_roundg g2
    case measure => omega
    case rel => exact ⟨k + 1, by go_num, by omega, HB2.out⟩
  | succ g3 =>
  have hlt2 : (j : Int) < (m : Int) := by omega
  obtain ⟨b, hma, hz⟩ := HM.out (by omega)
  subst hma
  have z0 := below_cell HB2.out ((hz j (by omega) 0 (by omega)).trans rfl)
  have z1 := below_cell HB2.out ((hz j (by omega) 1 (by omega)).trans rfl)
  have z2 := below_cell HB2.out ((hz j (by omega) 2 (by omega)).trans rfl)
  have z3 := below_cell HB2.out ((hz j (by omega) 3 (by omega)).trans rfl)
  have z4 := below_cell HB2.out ((hz j (by omega) 4 (by omega)).trans rfl)
  have z5 := below_cell HB2.out ((hz j (by omega) 5 (by omega)).trans rfl)
  have z6 := below_cell HB2.out ((hz j (by omega) 6 (by omega)).trans rfl)
  have z7 := below_cell HB2.out ((hz j (by omega) 7 (by omega)).trans rfl)
  have z8 := below_cell HB2.out ((hz j (by omega) 8 (by omega)).trans rfl)
  simp only [Nat.add_zero] at z0
  have hs2 : w.heap.size ≤ w2.heap.size := HB2.out.size
  clear hz
  go_wp2
  go_roundg g3
  case measure => omega
  case rel => exact ⟨j + 1, by go_num, by omega, HB2.out.alloc hs2 _⟩

end Go.Proofs.YtofinpocigbbeaaGreat

/-! BovR -/
namespace Go.Proofs.YtofinpocigbbeaaGreat
open Go.RowKit
attribute [local go_sem ↓] Go.wp_at_zero Go.wp_at_succ

theorem zV_zC (N : Nat) : (zV N).toList = zC N := rfl

/-- MarkV, and where it lies. -/
def MarkT (w : World) (v : Value) (i : Nat) : Prop :=
  ∃ a m c, v = .slice a m c ∧ m ≤ 1152921504606846976 ∧ (0 < m → ∃ b cur, a = some ⟨b, 0, none⟩ ∧ w.heap[b]? = some (.cells cur 59 (0, 0)) ∧ ∀ j, j < m → Done i w b j)

def QuadT (w : World) (v : Value) (i : Nat) : Prop :=
  ∃ g c cur, v = .slice (some ⟨g, 0, none⟩) 4 c ∧ w.heap[g]? = some (.cells cur 56 (0, 0)) ∧ ∀ k, k < 4 → ∃ u, cur[k]? = some u ∧ MarkT w u i

theorem MarkT.mark {w : World} {v : Value} {i : Nat} (h : MarkT w v i) : MarkV w v i := by
  obtain ⟨a, m, c, h1, h2, h3⟩ := h
  refine ⟨a, m, c, h1, h2, fun hm => ?_⟩
  obtain ⟨b, cur, h4, _, h6⟩ := h3 hm
  refine ⟨b, h4, fun j hj o ho => ?_⟩
  rw [h6 j hj o ho, ← zV_zC, Array.getElem?_toList]

theorem QuadT.quad {w : World} {v : Value} {i : Nat} (h : QuadT w v i) : QuadV w v i := by
  obtain ⟨g, c, cur, h1, h2, h3⟩ := h
  refine ⟨g, c, h1, fun k hk => ?_⟩
  obtain ⟨u, h4, h5⟩ := h3 k hk
  exact ⟨u, (cell_of_row w g k cur _ _ h2).trans h4, h5.mark⟩

theorem QuadT.keep {w w' : World} {v : Value} {i : Nat} (h : QuadT w v i) (hk : ∀ (b : Nat) (cur : Array Value) (t : TypeId), t = 59 ∨ t = 56 → w.heap[b]? = some (.cells cur t (0, 0)) → w'.heap[b]? = w.heap[b]?) : QuadT w' v i := by
  obtain ⟨g, c, cur, h1, h2, h3⟩ := h
  refine ⟨g, c, cur, h1, (hk g cur _ (.inr rfl) h2).trans h2, fun k hk4 => ?_⟩
  obtain ⟨u, h4, a, m, c, h5, h6, h7⟩ := h3 k hk4
  refine ⟨u, h4, a, m, c, h5, h6, fun hm => ?_⟩
  obtain ⟨b, cur, h8, h9, h10⟩ := h7 hm
  have e := hk b cur _ (.inl rfl) h9
  exact ⟨b, cur, h8, e.trans h9, fun j hj o ho => (World.cell?_of_block e).trans (h10 j hj o ho)⟩

/-- The book in the Play's block pb: no rectangles, no pixels, N lists of views. -/
structure BookO (w : World) (pb N : Nat) (pc : Array Value) (cv : Value) (xs : List Value) : Prop where
  blk : w.heap[pb]? = some (.cells pc 69 (0, 0))
  p1 : pc[1]? = some (.slice none 0 0)
  p2 : pc[2]? = some (.slice none 0 0)
  p3 : pc[3]? = some cv
  row : w.ownsRow 0 113 1 cv N xs
  all : ∀ i, i < N → ∃ v, xs[i]? = some v ∧ QuadT w v i

theorem BookO.book {w : World} {pb N : Nat} {pc : Array Value} {cv : Value} {xs : List Value} (h : BookO w pb N pc cv xs) : BookV w pb 1 N := by
  obtain ⟨a, c, hf⟩ := row_form h.row
  refine ⟨(cell_of_row w pb 1 pc _ _ h.blk).trans h.p1, (cell_of_row w pb 2 pc _ _ h.blk).trans h.p2, a, c, (cell_of_row w pb 3 pc _ _ h.blk).trans (h.p3.trans (by rw [hf])), fun hN => ?_⟩
  obtain ⟨g, cap, e, _, _, _, q, _⟩ := RowS.open (S := fun _ => True) ⟨h.row, fun _ _ => trivial⟩ hN
  rw [hf] at e
  injection e with e1 e2 e3
  subst e1
  refine ⟨g, rfl, fun i hi => ?_⟩
  obtain ⟨v, h1, h2⟩ := h.all i hi
  exact ⟨v, q i v h1, h2.quad⟩

end Go.Proofs.YtofinpocigbbeaaGreat

/-! BovS -/
namespace Go.Proofs.YtofinpocigbbeaaGreat
open Go.RowKit
attribute [local go_sem ↓] Go.wp_at_zero Go.wp_at_succ

theorem TurV.drew1 {B0 zb : Nat} {w w' : World} (h : TurV B0 zb w w') : TurV B0 zb w w'.drew := ⟨h.os, h.tape, h.output, h.size, h.block⟩

/-- A list that is written full. -/
def Full (N : Nat) (w : World) (s : Value) : Prop := ∀ b m c, s = .slice (some ⟨b, 0, none⟩) m c → ∀ j, j < m → Done N w b j

theorem Full.stays {N : Nat} {w w' : World} {s : Value} (h : Full N w s) (hs : Stays N w w') : Full N w' s := fun b m c e j hj => hs b j (h b m c e j hj)

theorem Done.drew {N g j : Nat} {w : World} (h : Done N w g j) : Done N w.drew g j := h

set_option maxRecDepth 100000 in
set_option maxHeartbeats 1000000 in
/-- (*book).views: the list is its owner's. -/
theorem views_any {w0 w : World} {pb N n : Nat} {pc : Array Value} {cv : Value} {xs : List Value} {v : Value} (hb : Below w0.heap.size w0 w) (h : BookO w0 pb N pc cv xs) (hN : N ≤ 1000000000000) (hn : n ≤ 9000000) (hv : RowOV w w0.heap.size v n) :
    Calls Tryz.prog 94 #[.pointer (some ⟨pb, 1, none⟩), v] w fun e w' => e = .returned (.tuple #[]) ∧ (∃ cv' xs', BookO w' pb (N + 1) (pc.setIfInBounds 3 cv') cv' xs' ∧ (cv'.ownBlock = cv.ownBlock ∨ ∃ g, cv'.ownBlock = some g ∧ w0.heap.size ≤ g)) ∧ Only (fun g => g = pb ∨ cv.ownBlock = some g ∨ w0.heap.size ≤ g) w w' := by
  obtain ⟨i9, hi9, hy0, hy1, hy2⟩ := info_parts scnInfo
  obtain ⟨B0, hB0⟩ : ∃ B0, w0.heap.size = B0 := ⟨_, rfl⟩
  have hB : B0 ≤ w.heap.size := by rw [← hB0]; exact hb.size
  have hpl0 : pb < B0 := by rw [← hB0]; exact block_lt h.blk
  have hpl : pb < w.heap.size := by omega
  have hpb : w.heap[pb]? = some (.cells pc 69 (0, 0)) := (hb.block pb (by omega)).trans h.blk
  obtain ⟨ca, cc, hcf⟩ := row_form h.row
  subst hcf
  have hp : w.cell? ⟨pb, 3, none⟩ = some (.slice ca N cc) := by rw [cell_of_row w pb 3 pc _ _ hpb]; exact h.p3
  rw [hB0] at hv
  have hvz : v.ownBlock ≠ some w.heap.size := fun e => by
    obtain ⟨xs, h⟩ := hv
    have := (h.lt _ e).2
    omega
  have HV := hide (And.intro hv hvz)
  have HP := hide (And.intro hpb (And.intro h (And.intro hb hB0)))
  clear hv hvz hpb h hb
  rw [hB0]
  clear hB0
  go_enter Tryz.func94, Tryz.ntmps94
  go_wp2
  rename_i Qp K hK
  refine book_r1V (N := N) (cv := .slice ca N cc) (n := n) (B0 := B0) (pb := pb) (zb := w.heap.size) (v := v) (f := fun _ => undef) hn (by simp; omega) (HV.out.1.step (StpV.alloc none _ _)) (heap_alloc_new w _) HV.out.2 ?_
  intro f w1 hs hr
  refine hK _ _ ?_
  clear hK K
  obtain ⟨g5, r1, r2, r3, e5, hg5, hc5, R1, R2, R3⟩ := hr
  have hz1 : w1.heap[w.heap.size]? = some (.cells (zV N) 59 (0, 0)) := by rw [hs.grown.block _ (by simp) (fun e => HV.out.2 e.symm)]; exact heap_alloc_new w _
  have hBel : Below B0 w w1 := ((Below.refl B0 w).alloc hB _).grown hs.grown (by simp; omega) fun k hk => by
    obtain ⟨xs, h⟩ := HV.out.1
    exact (h.lt k hk).1
  have hP1 : w1.heap[pb]? = some (.cells pc 69 (0, 0)) := (hBel.block pb hpl0).trans HP.out.1
  have hS1 : w.heap.size < w1.heap.size := by have := hs.grown.size; simp at this; omega
  have hR0 : RowZV w1 B0 w.heap.size v n := ⟨(HV.out.1.step (StpV.alloc none _ _)).step hs, HV.out.2⟩
  have hRk : ∀ k, k < 4 → ∃ s, #[v, r1, r2, r3][k]? = some s ∧ RowZV w1 B0 w.heap.size s (n + k) := by
    intro k hk
    match k, hk with
    | 0, _ => exact ⟨v, rfl, hR0⟩
    | 1, _ => exact ⟨r1, rfl, R1⟩
    | 2, _ => exact ⟨r2, rfl, R2⟩
    | 3, _ => exact ⟨r3, rfl, R3⟩
  have HRk := hide hRk
  have HBel := hide hBel
  have HZ := hide (And.intro hz1 hP1)
  have HC := hide hc5
  have hgl := (Array.getElem?_eq_some_iff.1 hc5).1
  clear hRk hBel hz1 hP1 hc5 R1 R2 R3 hR0 hs hg5
  unfold frV
  rw [e5]
  clear e5
  generalize f 14 = x14
  generalize f 15 = x15
  generalize f 16 = x16
  generalize f 17 = x17
  generalize f 18 = x18
  generalize f 19 = x19
  generalize f 20 = x20
  generalize f 21 = x21
  generalize f 22 = x22
  generalize f 23 = x23
  generalize f 24 = x24
  generalize f 25 = x25
  generalize f 26 = x26
  generalize f 27 = x27
  generalize f 28 = x28
  generalize f 29 = x29
  generalize f 30 = x30
  clear f
  go_wp2
  have hzb : zV N = #[.int .i64 (-7070), .int .i64 0, .int .i64 0, .int .i64 (N : Int), .int .i64 0, .int .i64 0, .int .i64 0, .int .i64 0, .int .i64 0] := rfl
  go_loopg [6] 4 (fun g s6 wr => ∃ k : Nat, s6 = .int .i64 k ∧ g + k = 4 ∧ TurV B0 w.heap.size w1 wr ∧ ∀ k' s, k' < k → #[v, r1, r2, r3][k']? = some s → Full N wr s)
  case atStart => exact ⟨0, rfl, rfl, TurV.refl _ _ _, fun k' s hk => by omega⟩
  case round =>
    rename World => wo
    rename Nat => gO
    obtain ⟨k, rfl, hgk, hT, hF⟩ := hrel
    have HT := hide hT
    have HF := hide hF
    have hwl := hT.size
    have hBz := HBel.out.size
    clear hT hF
    cases gO with
    | zero =>
      have hlt : ¬ (k : Int) < 4 := by omega
      have hPo := HT.out.other HZ.out.2 (by decide)
      have hBw := HT.out.below (show B0 ≤ w1.heap.size by omega)
      have hpo : wo.cell? ⟨pb, 3, none⟩ = some (.slice ca N cc) := by rw [cell_of_row wo pb 3 pc _ _ hPo]; exact HP.out.2.1.p3
      have hfo : wo.frozen? ⟨pb, 3, none⟩ = false := by simp [World.frozen?, hPo]
      have hpl2 : pb < wo.heap.size := by omega
      have hb3 : Below B0 w0 wo := by
        have h9 := HP.out.2.2.1
        rw [HP.out.2.2.2] at h9
        exact (h9.trans HBel.out).trans hBw
      have hrow : wo.ownsRow 0 113 1 (.slice ca N cc) N xs := own_keep HP.out.2.1.row fun g hg => hb3.block g (by have := (HP.out.2.1.row.lt g hg).2; rw [HP.out.2.2.2] at this; exact this)
      have HRo := hide (And.intro hrow (And.intro hb3 (And.intro hPo hBw)))
      have hgr : ∀ (o : Obj) (w4 : World), (wo.alloc o).grownBy w4 (Value.slice ca N cc).ownBlock → w4.cell? ⟨pb, 3, none⟩ = some (.slice ca N cc) ∧ w4.frozen? ⟨pb, 3, none⟩ = false ∧ pb < w4.heap.size := fun o w4 hg => by
        have hk := grown_other (T := 113) hg fun g hg => own_type (HRo.out.1.alloc o) hg
        have h9 : (wo.alloc o).heap[pb]? = some (.cells pc 69 (0, 0)) := (heap_old wo o pb hpl2).trans HRo.out.2.2.1
        have h8 := (hk _ (by decide) pb pc h9).trans h9
        exact ⟨by rw [cell_of_row w4 pb 3 pc _ _ h8]; exact HP.out.2.1.p3, by simp [World.frozen?, h8], block_lt h8⟩
      have HGr := hide hgr
      clear hPo hb3 hrow hgr hBw
      go_wp2_with (first
        | (at_builtin; refine wpList_append_row (P := Tryz.prog) rfl (.tmp 57) (.tmp 59) 65 rfl 0 113 i9 _ 1 24 Tryz.underlying65 hi9 hy0 hy1 hy2 rfl (by decide) (.slice ca N cc) N xs rfl (HRo.out.1.alloc _) (.slice (some ⟨wo.heap.size, 0, none⟩) 1 1) 1 [.slice (some ⟨g5, 0, none⟩) 4 4] rfl rfl (.inr ⟨_, _, rfl, cell_one_new _ _ _⟩) (by simp [Value.oneCell']) (by unfold maxLen; omega) (by omega) (by omega) ?_; intro v4 w4 ho4 hg4 hn4 ha4; obtain ⟨va, vc, hvf⟩ := row_form ho4; subst hvf; obtain ⟨m3, m4, m5⟩ := HGr.out _ w4 hg4; have H4 := hide (And.intro ho4 (And.intro hg4 ha4)); clear ho4 hg4 hn4 ha4))
      obtain ⟨ho4, hg4, ha4⟩ := H4.out
      obtain ⟨hrow, hb3, hPo, hBw⟩ := HRo.out
      have hk := grown_other (T := 113) hg4 fun g hg => own_type (hrow.alloc _) hg
      have h9 : (wo.alloc (.cells #[.slice (some ⟨g5, 0, none⟩) 4 4] 113)).heap[pb]? = some (.cells pc 69 (0, 0)) := (heap_old wo _ pb hpl2).trans hPo
      have h8 : w4.heap[pb]? = some (.cells pc 69 (0, 0)) := (hk _ (by decide) pb pc h9).trans h9
      have fwd : ∀ (b : Nat) (cur : Array Value) (t : TypeId), t = 59 ∨ t = 56 → wo.heap[b]? = some (.cells cur t (0, 0)) → (w4.setCell ⟨pb, 3, none⟩ (.slice va (N + 1) vc)).heap[b]? = wo.heap[b]? := fun b cur t ht hbb => by
        have hn1 : t ≠ 113 := by rcases ht with rfl | rfl <;> decide
        have hn2 : t ≠ 69 := by rcases ht with rfl | rfl <;> decide
        have e1 := heap_old wo (.cells #[.slice (some ⟨g5, 0, none⟩) 4 4] 113) b (block_lt hbb)
        have e2 := hk t hn1 b cur (e1.trans hbb)
        rw [heap_setCell_other w4 ⟨pb, 3, none⟩ b _ (ne_of_type (e2.trans (e1.trans hbb)) h8 hn2), e2, e1]
      have hB := HP.out.2.1
      have hp3l : 3 < pc.size := (Array.getElem?_eq_some_iff.1 hB.p3).1
      have hxl := hB.row.1
      refine bodyPost_end (v := .tuple #[]) (by simp [results, Tryz.results94]) rfl ⟨rfl, ⟨_, ⟨xs ++ [.slice (some ⟨g5, 0, none⟩) 4 4], ⟨heap_setCell_same w4 pb 3 pc _ _ h8, ?_, ?_, ?_, own_keep ho4 fun g hg => ?_, fun i hi => ?_⟩⟩, ?_⟩, ?_⟩
      · rw [Array.getElem?_setIfInBounds_ne (by decide)]; exact hB.p1
      · rw [Array.getElem?_setIfInBounds_ne (by decide)]; exact hB.p2
      · rw [Array.getElem?_setIfInBounds, if_pos rfl, if_pos hp3l]
      · obtain ⟨cur, hcur⟩ := own_type ho4 hg
        exact heap_setCell_other w4 ⟨pb, 3, none⟩ g _ (ne_of_type hcur h8 (by decide))
      · by_cases e : i = N
        · subst e
          refine ⟨.slice (some ⟨g5, 0, none⟩) 4 4, by rw [List.getElem?_append_right (by omega), hxl]; simp, g5, 4, #[v, r1, r2, r3], rfl, ?_, fun k hk4 => ?_⟩
          · have h7 := HT.out.other HC.out (by decide)
            exact (fwd g5 _ _ (.inr rfl) h7).trans h7
          · obtain ⟨s, hs, hrw⟩ := HRk.out k hk4
            refine ⟨s, hs, ?_⟩
            have hfull := HF.out k s (by omega) hs
            obtain ⟨ys, y1, y2⟩ := (HT.out.row hrw).1
            rcases y2 with ⟨y2, y3⟩ | ⟨g, cap, cur, z1, z2, z3, z4, z5, z6, z7⟩
            · exact ⟨none, 0, 0, y2, by omega, fun h => by omega⟩
            · refine ⟨some ⟨g, 0, none⟩, n + k, cap, z1, by omega, fun _ => ⟨g, cur, rfl, (fwd g cur _ (.inl rfl) z3).trans z3, fun j hj o ho => ?_⟩⟩
              exact (World.cell?_of_block (fwd g cur _ (.inl rfl) z3)).trans (hfull g _ _ z1 j hj o ho)
        · obtain ⟨u, hu, hQ⟩ := hB.all i (by omega)
          refine ⟨u, by rw [List.getElem?_append_left (by omega)]; exact hu, hQ.keep fun b cur t ht hbb => ?_⟩
          have e0 := hb3.block b (by have := block_lt hbb; rw [HP.out.2.2.2] at this; exact this)
          exact (fwd b cur t ht (e0.trans hbb)).trans e0
      · rcases ha4 with ha4 | ha4
        · exact .inl ha4
        · exact .inr ⟨_, ha4, by simp; omega⟩
      · have hBx := HBel.out.trans hBw
        have o1 : Only (fun g => g = pb ∨ (Value.slice ca N cc).ownBlock = some g ∨ B0 ≤ g) w wo := ⟨hBx.os, hBx.tape, hBx.output, hBx.size, fun g hg hs => hBx.block g (by
          by_cases h7 : B0 ≤ g
          · exact absurd (Or.inr (Or.inr h7)) hs
          · omega)⟩
        exact ((o1.alloc _).grown hg4 fun g hg => .inl (.inr (.inl hg))).set (p := ⟨pb, 3, none⟩) (.inl (.inl rfl)) _
    | succ g =>
      have hlt : (k : Int) < 4 := by omega
      have hk4 : k < 4 := by omega
      obtain ⟨s, hs, hrow⟩ := HRk.out k hk4
      obtain ⟨m, hm⟩ : ∃ m, n + k = m := ⟨_, rfl⟩
      rw [hm] at hrow
      obtain ⟨xs, hxs⟩ := hrow.1
      obtain ⟨sa, sc, rfl⟩ := row_form hxs
      have hc5 : wo.cell? ⟨g5, k, none⟩ = some (.slice sa m sc) := by rw [cell_of_row wo g5 k _ _ _ (HT.out.other HC.out (by decide))]; exact hs
      have hm9 : m ≤ 9000004 := by omega
      have HRw := hide hrow
      have HS := hide hs
      clear hs hrow hxs hm
      go_wp2
      go_loopg [7] m (fun gg s7 wr => ∃ i : Nat, s7 = .int .i64 i ∧ gg + i = m ∧ TurV B0 w.heap.size w1 wr ∧ Stays N wo wr ∧ ∀ j, j < i → ∀ b, sa = some ⟨b, 0, none⟩ → Done N wr b j)
      case atStart => exact ⟨0, rfl, by omega, HT.out, Stays.refl _ _, fun j hj => by omega⟩
      case round =>
        rename World => wi
        obtain ⟨i, rfl, hgi, hT, hSt, hD⟩ := hrel
        have hc6 : wi.cell? ⟨g5, k, none⟩ = some (.slice sa m sc) := by rw [cell_of_row wi g5 k _ _ _ (hT.other HC.out (by decide))]; exact HS.out
        have HTi := hide hT
        have HDi := hide (And.intro hSt hD)
        have hwi := hT.size
        clear hT hc5 hSt hD
        cases gk with
        | zero =>
          have hlti : ¬ (i : Int) < (m : Int) := by omega
          go_wp2
          go_roundg g
          case measure => omega
          case rel =>
            refine ⟨k + 1, by go_num, by omega, HTi.out, fun k' s hk' hs' => ?_⟩
            by_cases e : k' = k
            · subst e
              rw [HS.out] at hs'
              injection hs' with hs'
              subst hs'
              intro b m' c' e9 j hj
              injection e9 with e1 e2 e3
              subst e2
              exact HDi.out.2 j (by omega) b e1
            · exact (HF.out k' s (by omega) hs').stays HDi.out.1
        | succ g2 =>
          have hlti : (i : Int) < (m : Int) := by omega
          have him : i < m := by omega
          obtain ⟨q, cap, cur, e1, hq1, hq2, hq3, hq4, hq5, ⟨y0, c0⟩, ⟨y1, c1⟩, ⟨y2, c2⟩, ⟨y3, c3⟩, ⟨y4, c4⟩, ⟨y5, c5⟩, ⟨y6, c6⟩, ⟨y7, c7⟩, ⟨y8, c8⟩, hfr⟩ := (HTi.out.row HRw.out).open him
          injection e1 with e11 e12 e13
          clear e12
          subst e11 e13
          have hic : i < sc := by omega
          have hzw : wi.heap[w.heap.size]? = some (.cells (zV N) 59 (0, 0)) := by rw [HTi.out.keep hS1]; exact HZ.out.1
          have z0 : wi.cell? ⟨w.heap.size, 0, none⟩ = some (.int .i64 (-7070)) := by rw [cell_of_row wi _ 0 (zV N) _ _ hzw]; rfl
          have z1 : wi.cell? ⟨w.heap.size, 1, none⟩ = some (.int .i64 0) := by rw [cell_of_row wi _ 1 (zV N) _ _ hzw]; rfl
          have z2 : wi.cell? ⟨w.heap.size, 2, none⟩ = some (.int .i64 0) := by rw [cell_of_row wi _ 2 (zV N) _ _ hzw]; rfl
          have z3 : wi.cell? ⟨w.heap.size, 3, none⟩ = some (.int .i64 (N : Int)) := by rw [cell_of_row wi _ 3 (zV N) _ _ hzw]; rfl
          have z4 : wi.cell? ⟨w.heap.size, 4, none⟩ = some (.int .i64 0) := by rw [cell_of_row wi _ 4 (zV N) _ _ hzw]; rfl
          have z5 : wi.cell? ⟨w.heap.size, 5, none⟩ = some (.int .i64 0) := by rw [cell_of_row wi _ 5 (zV N) _ _ hzw]; rfl
          have z6 : wi.cell? ⟨w.heap.size, 6, none⟩ = some (.int .i64 0) := by rw [cell_of_row wi _ 6 (zV N) _ _ hzw]; rfl
          have z7 : wi.cell? ⟨w.heap.size, 7, none⟩ = some (.int .i64 0) := by rw [cell_of_row wi _ 7 (zV N) _ _ hzw]; rfl
          have z8 : wi.cell? ⟨w.heap.size, 8, none⟩ = some (.int .i64 0) := by rw [cell_of_row wi _ 8 (zV N) _ _ hzw]; rfl
          have f0 := hfr (i * 9)
          have f1 := hfr (i * 9 + 1)
          have f2 := hfr (i * 9 + 2)
          have f3 := hfr (i * 9 + 3)
          have f4 := hfr (i * 9 + 4)
          have f5 := hfr (i * 9 + 5)
          have f6 := hfr (i * 9 + 6)
          have f7 := hfr (i * 9 + 7)
          have f8 := hfr (i * 9 + 8)
          have hne : ¬ g5 = q := fun e => by
            have h9 := HTi.out.other HC.out (by decide)
            rw [e, hq5] at h9
            injection h9 with h9
            injection h9 with _ h9
            exact absurd h9 (by decide)
          have hne2 : q ≠ g5 := fun e => hne e.symm
          have hcz : i * 9 + 8 < cur.size := by
            rw [cell_of_row wi q _ cur _ _ hq5] at c8
            exact (Array.getElem?_eq_some_iff.1 c8).1
          have HQ := hide (And.intro hq5 hcz)
          clear hfr hzw hq5 hcz
          have hk0 : (0 : Int) ≤ (k : Int) := by omega
          have hi0 : (0 : Int) ≤ (i : Int) := by omega
          go_wp2
          go_region_held3 (fun w' => w'.cell? ⟨w.heap.size, 0, none⟩ = some (.int .i64 (-7070)) ∧ w'.cell? ⟨w.heap.size, 1, none⟩ = some (.int .i64 0) ∧ w'.cell? ⟨w.heap.size, 2, none⟩ = some (.int .i64 0) ∧ w'.cell? ⟨w.heap.size, 3, none⟩ = some (.int .i64 (N : Int)) ∧ w'.cell? ⟨w.heap.size, 4, none⟩ = some (.int .i64 0) ∧ w'.cell? ⟨w.heap.size, 5, none⟩ = some (.int .i64 0) ∧ w'.cell? ⟨w.heap.size, 6, none⟩ = some (.int .i64 0) ∧ w'.cell? ⟨w.heap.size, 7, none⟩ = some (.int .i64 0) ∧ w'.cell? ⟨w.heap.size, 8, none⟩ = some (.int .i64 0) ∧ w'.cell? ⟨g5, k, none⟩ = some (.slice (some ⟨q, 0, none⟩) m sc)) (go_keep) (fail)
          all_goals go_wp2
          go_roundg g2
          case measure => omega
          case rel =>
            have hms := mark_set (N := N) (i := i) HQ.out.1 HQ.out.2
            refine ⟨i + 1, by go_num, by omega, (HTi.out.trans (TurV.set9 HQ.out.1 hq1 hq2 _ _ _ _ _ _ _ _ _ _ _ _ _ _ _ _ _ _)).drew1, HDi.out.1.trans hms.1.drew, fun j hj b hb => ?_⟩
            injection hb with hb
            injection hb with hb
            subst hb
            by_cases e : j = i
            · subst e
              exact hms.2.drew
            · exact (hms.1 _ _ (HDi.out.2 j (by omega) _ rfl)).drew

end Go.Proofs.YtofinpocigbbeaaGreat

/-! LntP -/
namespace Go.Proofs.YtofinpocigbbeaaGreat
open Go.RowKit
attribute [local go_sem ↓] Go.wp_at_zero Go.wp_at_succ

def mkP (k : Int) : R4 := (k, 0, 0, 77)

set_option maxHeartbeats 400000 in
theorem mark_any (k : Int) (hk : 0 ≤ k ∧ k ≤ 250) (w : World) :
    Calls Tryz.prog 51 #[.int .i64 k] w fun e w' => e = .returned (.agg #[.int .u8 k, .int .u8 0, .int .u8 0, .int .u8 77]) ∧ Below w.heap.size w w' := by
  have e1 : Int.tmod k 251 = k := by rw [Int.tmod_eq_emod_of_nonneg hk.1]; omega
  have e2 : Int.tdiv k 251 = 0 := by rw [Int.tdiv_eq_ediv_of_nonneg hk.1]; omega
  have e3 : Int.tdiv k 63001 = 0 := by rw [Int.tdiv_eq_ediv_of_nonneg hk.1]; omega
  go_enter Tryz.func51, Tryz.ntmps51
  go_wp2
  refine bodyPost_ret (v := .agg #[.int .u8 k, .int .u8 0, .int .u8 0, .int .u8 77]) (by simp [results, Tryz.results51, go_sem]) rfl ⟨rfl, al1 (Nat.le_refl _) _⟩

theorem mark5 (w : World) : Calls Tryz.prog 51 #[.int .i64 5] w fun e w' => e = .returned (.agg #[.int .u8 5, .int .u8 0, .int .u8 0, .int .u8 77]) ∧ Below w.heap.size w w' := mark_any 5 (by decide) w
theorem mark6 (w : World) : Calls Tryz.prog 51 #[.int .i64 6] w fun e w' => e = .returned (.agg #[.int .u8 6, .int .u8 0, .int .u8 0, .int .u8 77]) ∧ Below w.heap.size w w' := mark_any 6 (by decide) w

/-- Pixels that are lent: with two of spare room; nothing, for nothing. -/
def LentP (w' : World) (base : Nat) (v : Value) (l : List R4) (u : Value) : Prop :=
  (v = .slice none 0 0 ∧ u = .slice none 0 0 ∧ l = []) ∨ ((∃ ad c, v = .slice (some ad) l.length c) ∧ ∃ g cap, u = .slice (some ⟨g, 0, none⟩) l.length cap ∧ w'.ownsRow base 51 4 (.slice (some ⟨g, 0, none⟩) (l.length + 2) cap) (l.length + 2) (pixCells (l ++ [mkP 5, mkP 6])))

set_option maxRecDepth 100000 in
set_option maxHeartbeats 1000000 in
theorem lentP_any (l : List R4) (v : Value) (w : World) (h : PixAt w v l) (hv : (v = .slice none 0 0 ∧ l = []) ∨ ∃ ad c, v = .slice (some ad) l.length c) (hr : l.length * 4 ≤ 140737488351232) :
    Calls Tryz.prog 136 #[v] w fun e w' => ∃ u, e = .returned u ∧ LentP w' w.heap.size v l u ∧ Below w.heap.size w w' := by
  obtain ⟨i0, hi0, hz0, hz1, hz2⟩ := info_parts pixInfo
  rcases hv with ⟨rfl, rfl⟩ | ⟨ad, c, rfl⟩
  · clear h hr
    have hq := eqP_nil_nil
    go_enter Tryz.func136, Tryz.ntmps136
    go_wp2
    go_ret
    exact ⟨_, rfl, .inl ⟨rfl, rfl, rfl⟩, Below.refl _ _⟩
  · have hnews := pix_news h fun e => .inr ⟨ad, c, by rw [e]; rfl⟩
    obtain ⟨n, hn⟩ : ∃ n, l.length = n := ⟨_, rfl⟩
    rw [hn] at hr hnews
    rw [hn]
    have HN := hide hn
    have HNw := hide hnews
    clear hnews h hn
    have hq := eqP_some_nil
    go_enter Tryz.func136, Tryz.ntmps136
    go_wp2_with (first
      | (at_builtin; refine wpList_append_row (P := Tryz.prog) rfl (.tmp 6) (.tmp 7) 44 rfl w.heap.size 51 i0 _ 4 4 Tryz.underlying44 hi0 hz0 hz1 hz2 rfl (by decide) (.slice none 0 0) 0 [] rfl ?_ (.slice (some ad) n c) n (pixCells l) rfl ?_ ?_ (pix_oneCell _) (by unfold maxLen; omega) (by omega) (Nat.le_refl _) ?_; exact World.ownsRow_nil _ _ _ _; (rw [pixCells_len, HN.out]); exact HNw.out; intro v3 w3 ho3 hg3 hn3 ha3; have HB3 := hide ((Below.refl w.heap.size w).grown hg3 (Nat.le_refl _) (fun k hk => by simp [Value.ownBlock] at hk)); have hs3 : w.heap.size ≤ w3.heap.size := HB3.out.size; have HO3 := hide ho3; clear ho3 hg3 hn3 ha3)
      | (go_at_call 51; refine (mark6 w5).mono ?_; rintro e6 w6 ⟨rfl, hb6⟩; have HB6 := hide (HB5.out.trans (hb6.mono HB5.out.size)); have hs6 : w3.heap.size ≤ w6.heap.size := HB6.out.size; clear hb6)
      | (go_at_call 51; refine (mark5 w3).mono ?_; rintro e5 w5 ⟨rfl, hb5⟩; have HB5 := hide hb5; clear hb5)
      | (at_builtin; refine wpList_append_lies _ rfl (.tmp 9) (.tmp 12) 44 rfl w.heap.size 51 i0 _ 4 4 Tryz.underlying44 hi0 hz0 hz1 hz2 rfl (by decide) v3 (0 + n) ([] ++ pixCells l) rfl ((own_keep HO3.out fun g hg => HB6.out.block g (HO3.out.lt g hg).2).alloc _) ⟨w6.heap.size, 0, none⟩ 2 2 (pixCells [mkP 5, mkP 6]) rfl rfl (World.news_of_block (cs := #[.int .u8 5, .int .u8 0, .int .u8 0, .int .u8 77, .int .u8 6, .int .u8 0, .int .u8 0, .int .u8 77]) (t := 51) (fr := (0, 0)) (heap_alloc_new w6 _)) (pix_oneCell _) (by omega) (by unfold maxLen; omega) (by omega) (by simp; omega) _ rfl ?_; intro g4 c4 w4 ho4 hg4 ha4 hl4; have HO4 := hide ho4; have hc4 : n ≤ c4 := (by have := own_cap ho4; omega); have HB4 := hide (((HB3.out.trans (HB6.out.mono hs3)).alloc (by omega) _).grown hg4 (by simp; omega) (fun k hk => (HO3.out.lt k hk).1)); clear ho4 hg4 ha4 hl4))
    go_ret
    refine ⟨_, rfl, .inr ⟨⟨ad, c, by rw [HN.out]⟩, g4, c4, by rw [HN.out]; rfl, ?_⟩, HB4.out⟩
    have h9 := HO4.out
    rw [Nat.zero_add, List.nil_append] at h9
    rw [HN.out, pixCells_append]
    exact h9

end Go.Proofs.YtofinpocigbbeaaGreat

/-! RetP -/
namespace Go.Proofs.YtofinpocigbbeaaGreat
open Go.RowKit
attribute [local go_sem ↓] Go.wp_at_zero Go.wp_at_succ

/-- A row whose first block may lie anywhere. -/
theorem own_zero {w : World} {base : Nat} {e : TypeId} {size n : Nat} {v : Value} {xs : List Value} (h : w.ownsRow base e size v n xs) : RowS w (fun _ => True) e size v n xs :=
  ⟨⟨h.1, h.2.imp (fun h => h) fun ⟨g, c, cur, e1, _, e3⟩ => ⟨g, c, cur, e1, Nat.zero_le _, e3⟩⟩, fun _ _ => trivial⟩

set_option maxRecDepth 100000 in
set_option maxHeartbeats 1000000 in
theorem returnedP_any (l : List R4) (u v : Value) (base : Nat) (w : World) (hv : PixAt w v l) (hu : LentP w base v l u) (hr : l.length * 4 ≤ 140737488351232) :
    Calls Tryz.prog 138 #[u, v] w fun e w' => e = .returned (.bool true) ∧ w.grownBy w' u.ownBlock := by
  rcases hu with ⟨rfl, rfl, rfl⟩ | ⟨⟨ad, c, rfl⟩, g, cap, rfl, hown⟩
  · clear hv hr
    have hq := eqP_nil_nil
    go_enter Tryz.func138, Tryz.ntmps138
    go_wp2
    go_ret
    exact ⟨rfl, rfl, rfl, rfl, Nat.le_refl _, fun _ _ _ => rfl⟩
  · have hq := eqP_some_nil
    have hq2 := fun (a b c d : Int) => eqPix a b c d a b c d
    have hcap := own_cap hown
    have hgl := (hown.lt g rfl).2
    obtain ⟨n, hn⟩ : ∃ n, l.length = n := ⟨_, rfl⟩
    have HKeep : Hid (∀ w6, Below w.heap.size w w6 → PixAt w6 (.slice (some ad) n c) l ∧ w6.ownsRow base 51 4 (.slice (some ⟨g, 0, none⟩) (n + 2) cap) (n + 2) (pixCells (l ++ [mkP 5, mkP 6])) ∧ w.grownBy w6 (some g)) := fun w6 hb => by
      rw [hn] at hv hown
      exact ⟨hv.below hb, own_keep hown fun b hb2 => hb.block b (hown.lt b hb2).2, hb.os, hb.tape, hb.output, hb.size, fun k hk _ => hb.block k hk⟩
    have HCl : Hid (∀ w6, Below w.heap.size w w6 → w6.cell? ⟨g, n * 4, none⟩ = some (.int .u8 5) ∧ w6.cell? ⟨g, n * 4 + 1, none⟩ = some (.int .u8 0) ∧ w6.cell? ⟨g, n * 4 + 2, none⟩ = some (.int .u8 0) ∧ w6.cell? ⟨g, n * 4 + 3, none⟩ = some (.int .u8 77) ∧ w6.cell? ⟨g, (n + 1) * 4, none⟩ = some (.int .u8 6) ∧ w6.cell? ⟨g, (n + 1) * 4 + 1, none⟩ = some (.int .u8 0) ∧ w6.cell? ⟨g, (n + 1) * 4 + 2, none⟩ = some (.int .u8 0) ∧ w6.cell? ⟨g, (n + 1) * 4 + 3, none⟩ = some (.int .u8 77)) := fun w6 hb => by
      obtain ⟨_, h2, _⟩ := HKeep.out w6 hb
      obtain ⟨g', c', e', _, _, _, q, _⟩ := (own_zero h2).open (by omega)
      injection e' with e1 e2 e3
      injection e1 with e1
      injection e1 with e1
      subst e1
      have h5 : ∀ h : n < (l ++ [mkP 5, mkP 6]).length, (l ++ [mkP 5, mkP 6])[n] = mkP 5 := fun h => by
        rw [List.getElem_append_right (by omega)]
        simp [hn]
      have h6 : ∀ h : n + 1 < (l ++ [mkP 5, mkP 6]).length, (l ++ [mkP 5, mkP 6])[n + 1] = mkP 6 := fun h => by
        rw [List.getElem_append_right (by omega)]
        simp [hn]
      have hl5 : n < (l ++ [mkP 5, mkP 6]).length := by simp; omega
      have hl6 : n + 1 < (l ++ [mkP 5, mkP 6]).length := by simp; omega
      obtain ⟨a1, a2, a3, a4⟩ := pixCells_at _ n hl5
      obtain ⟨b1, b2, b3, b4⟩ := pixCells_at _ (n + 1) hl6
      rw [h5] at a1 a2 a3 a4
      rw [h6] at b1 b2 b3 b4
      exact ⟨q _ _ a1, q _ _ a2, q _ _ a3, q _ _ a4, q _ _ b1, q _ _ b2, q _ _ b3, q _ _ b4⟩
    rw [hn] at hr hcap
    rw [hn]
    have HN := hide hn
    clear hv hown hn
    have hc2 : (n : Int) + 2 ≤ (cap : Int) := by omega
    have t0 : (0 : Int) ≤ (n : Int) := by omega
    have t1 : (n : Int) < (n : Int) + 2 := by omega
    have t2 : (0 : Int) ≤ (n : Int) + 1 := by omega
    have t3 : (n : Int) + 1 < (n : Int) + 2 := by omega
    have t4 : IntKind.i64.wrap ((n : Int) + 1) = (n : Int) + 1 := by rw [IntKind.wrap_i64]; omega
    have t5 : IntKind.i64.wrap ((n : Int) + 2) = (n : Int) + 2 := by rw [IntKind.wrap_i64]; omega
    have t6 : ((n : Int) + 1).toNat = n + 1 := by omega
    have t7 : ((n : Int) + 2).toNat = n + 2 := by omega
    obtain ⟨k0, k1, k2, k3, k4, k5, k6, k7⟩ := HCl.out w (Below.refl _ _)
    go_enter Tryz.func138, Tryz.ntmps138
    go_wp2_with fail
    go_region_held3 (fun w' => w'.cell? ⟨g, n * 4, none⟩ = some (.int .u8 5) ∧ w'.cell? ⟨g, n * 4 + 1, none⟩ = some (.int .u8 0) ∧ w'.cell? ⟨g, n * 4 + 2, none⟩ = some (.int .u8 0) ∧ w'.cell? ⟨g, n * 4 + 3, none⟩ = some (.int .u8 77) ∧ w'.cell? ⟨g, (n + 1) * 4, none⟩ = some (.int .u8 6) ∧ w'.cell? ⟨g, (n + 1) * 4 + 1, none⟩ = some (.int .u8 0) ∧ w'.cell? ⟨g, (n + 1) * 4 + 2, none⟩ = some (.int .u8 0) ∧ w'.cell? ⟨g, (n + 1) * 4 + 3, none⟩ = some (.int .u8 77))
      (first
        | exact HCl.out _ (Below.refl _ _)
        | exact HCl.out _ H6.out
        | exact HCl.out _ H5.out
        | exact HCl.out _ (Below.refl _ _).drew
        | fail)
      (first
        | (go_at_call 51; refine (mark6 w5).mono ?_; rintro e6 w6 ⟨rfl, hb6⟩; have H6 := hide (H5.out.trans (hb6.mono H5.out.size)); clear hb6)
        | (go_at_call 51; refine (mark5 _).mono ?_; rintro e5 w5 ⟨rfl, hb5⟩; have H5 := hide ((Below.refl w.heap.size w).drew.trans hb5); clear hb5)
        | fail)
    have hg6 : g < w6.heap.size := Nat.lt_of_lt_of_le hgl H6.out.size
    have HP := hide (HKeep.out w6 H6.out)
    clear k0 k1 k2 k3 k4 k5 k6 k7 HCl HKeep H5
    go_wp2
    go_loopg [6, 7] n (fun gg s6 s7 wr => s6 = .bool true ∧ ∃ i : Nat, s7 = .int .i64 i ∧ gg + i = n ∧ ∃ nq, wr = w6.drewN nq)
    case atStart => exact ⟨rfl, 0, rfl, by omega, 0, rfl⟩
    case round =>
      obtain ⟨rfl, i, rfl, hgi, n0, rfl⟩ := hrel
      cases gk with
      | zero =>
        have hlt : ¬ (i : Int) < (n : Int) := by omega
        go_wp2
        go_loopg [8] (n + 2) (fun gg s8 wr => ∃ i : Nat, s8 = .int .i64 i ∧ gg + i = n + 2 ∧ ∃ X, wr.ownsRow base 51 4 (.slice (some ⟨g, 0, none⟩) (n + 2) cap) (n + 2) X ∧ w.grownBy wr (some g))
        case atStart => exact ⟨0, rfl, by omega, _, HP.out.2.1, HP.out.2.2.os, HP.out.2.2.tape, HP.out.2.2.output, HP.out.2.2.size, HP.out.2.2.block⟩
        case round =>
          rename World => wr
          obtain ⟨i, rfl, hgi, X, hown, hgr⟩ := hrel
          cases gk with
          | zero =>
            have hlt : ¬ (i : Int) < (n : Int) + 2 := by omega
            have HG := hide hgr
            clear hgr hown
            go_wp2
            go_ret
            exact ⟨rfl, HG.out⟩
          | succ g2 =>
            have hlt : (i : Int) < (n : Int) + 2 := by omega
            have hgw := (hown.lt g rfl).2
            have hXl := hown.1
            obtain ⟨g', c', e', _, _, _, q, _⟩ := (own_zero hown).open (by omega)
            injection e' with e1 e2 e3
            injection e1 with e1
            injection e1 with e1
            subst e1
            obtain ⟨x0, y0⟩ : ∃ x, wr.cell? ⟨g, i * 4, none⟩ = some x := ⟨_, q _ _ (List.getElem?_eq_getElem (show i * 4 < X.length by omega))⟩
            obtain ⟨x1, y1⟩ : ∃ x, wr.cell? ⟨g, i * 4 + 1, none⟩ = some x := ⟨_, q _ _ (List.getElem?_eq_getElem (show i * 4 + 1 < X.length by omega))⟩
            obtain ⟨x2, y2⟩ : ∃ x, wr.cell? ⟨g, i * 4 + 2, none⟩ = some x := ⟨_, q _ _ (List.getElem?_eq_getElem (show i * 4 + 2 < X.length by omega))⟩
            obtain ⟨x3, y3⟩ : ∃ x, wr.cell? ⟨g, i * 4 + 3, none⟩ = some x := ⟨_, q _ _ (List.getElem?_eq_getElem (show i * 4 + 3 < X.length by omega))⟩
            have z0 := own_free hown (i * 4)
            have z1 := own_free hown (i * 4 + 1)
            have z2 := own_free hown (i * 4 + 2)
            have z3 := own_free hown (i * 4 + 3)
            have HK := hide (And.intro hown hgr)
            clear hown hgr q hXl e2 e3
            go_wp2
            go_roundg g2
            case measure => omega
            case rel =>
              refine ⟨i + 1, by go_num, by omega, _, own_set (own_set (own_set (own_set HK.out.1 _) _) _) _, ?_⟩
              have hg := HK.out.2
              refine ⟨hg.os, hg.tape, hg.output, ?_, fun k hk hne => ?_⟩
              · have := hg.size
                simp
                omega
              · have hkg : k ≠ g := fun e => hne (by rw [e])
                rw [heap_setCell_other _ ⟨g, i * 4 + 3, none⟩ k _ hkg, heap_setCell_other _ ⟨g, i * 4 + 2, none⟩ k _ hkg, heap_setCell_other _ ⟨g, i * 4 + 1, none⟩ k _ hkg, heap_setCell_other _ ⟨g, i * 4, none⟩ k _ hkg]
                exact hg.block k hk hne
      | succ g2 =>
        have hlt : (i : Int) < (n : Int) := by omega
        have hlt2 : (i : Int) < (n : Int) + 2 := by omega
        have hil : i < l.length := by rw [HN.out]; omega
        have hil2 : i < (l ++ [mkP 5, mkP 6]).length := by simp; omega
        obtain ⟨g', c', e', _, _, _, q, _⟩ := (own_zero HP.out.2.1).open (by omega)
        injection e' with e1 e2 e3
        injection e1 with e1
        injection e1 with e1
        subst e1
        clear e2 e3
        obtain ⟨a1, a2, a3, a4⟩ := pixCells_at _ i hil2
        rw [List.getElem_append_left hil] at a1 a2 a3 a4
        replace a1 := q _ _ a1
        replace a2 := q _ _ a2
        replace a3 := q _ _ a3
        replace a4 := q _ _ a4
        obtain ⟨va, vc, hvf, hvc⟩ := HP.out.1
        obtain ⟨_, b, off, hva, hcs⟩ := hvc (by omega)
        obtain ⟨b1, b2, b3, b4⟩ := hcs i hil
        subst hva
        injection hvf with f1 f2 f3
        injection f1 with f1
        subst f1
        clear f2 f3 hcs hvc q
        obtain ⟨⟨p0, p1, p2, p3⟩, hp⟩ : ∃ r, l[i] = r := ⟨_, rfl⟩
        rw [hp] at a1 a2 a3 a4 b1 b2 b3 b4
        simp only at a1 a2 a3 a4 b1 b2 b3 b4
        clear hp
        go_wp2
        go_quiet (fail)
        go_wp2
        go_roundg g2
        case measure => omega
        case rel => exact ⟨rfl, i + 1, by go_num, by omega, _, rfl⟩

end Go.Proofs.YtofinpocigbbeaaGreat

/-! SamV -/
namespace Go.Proofs.YtofinpocigbbeaaGreat
open Go.RowKit
attribute [local go_sem ↓] Go.wp_at_zero Go.wp_at_succ

set_option maxRecDepth 100000 in
set_option maxHeartbeats 1000000 in
theorem eqView (a0 a1 a2 a3 a4 a5 a6 a7 a8 : Int) (w : World) : (Op.equalIn 10000 59 (.agg #[.int .i64 a0, .int .i64 a1, .int .i64 a2, .int .i64 a3, .int .i64 a4, .int .i64 a5, .int .i64 a6, .int .i64 a7, .int .i64 a8]) (.agg #[.int .i64 a0, .int .i64 a1, .int .i64 a2, .int .i64 a3, .int .i64 a4, .int .i64 a5, .int .i64 a6, .int .i64 a7, .int .i64 a8])).run Tryz.prog w = .ok true w := by
  have u3 := Tryz.underlying3
  rw [show (10000 : Nat) = 9999 + 1 from rfl, run_equalIn_struct w 9999 59 _ _ (by kernel_rfl) (by kernel_rfl)]
  go_simp

theorem flat9 (st : St) (L : List Nat) : ∀ (i j : Nat) (hi : i < L.length), j < 9 → (L.flatMap (vCells st))[i * 9 + j]? = (vCells st L[i])[j]? := by
  induction L with
  | nil => intro i j hi; simp at hi
  | cons x L ih =>
    intro i j hi hj
    rw [List.flatMap_cons]
    have hx : (vCells st x).length = 9 := rfl
    cases i with
    | zero =>
      rw [List.getElem?_append_left (by omega), show 0 * 9 + j = j by omega]
      rfl
    | succ i =>
      rw [List.getElem?_append_right (by omega), hx, show (i + 1) * 9 + j - 9 = i * 9 + j by omega, ih i j (by simpa using hi) hj]
      rfl

set_option maxRecDepth 100000 in
set_option maxHeartbeats 1000000 in
theorem sameV_any (st : St) (L : List Nat) (u v : Value) (b1 b2 : Nat) (w : World) (hu : OwnV w b1 u st L) (hv : OwnV w b2 v st L) (hl : L.length ≤ 9000000) :
    Calls Tryz.prog 92 #[u, v] w fun e w' => e = .returned (.bool true) ∧ ∃ nq, w' = w.drewN nq := by
  have HU := hide (And.intro hu hv)
  obtain ⟨ua, uc, rfl⟩ := row_form hu
  obtain ⟨va, vc, rfl⟩ := row_form hv
  obtain ⟨n, hn⟩ : ∃ n, L.length = n := ⟨_, rfl⟩
  rw [hn] at hl HU
  rw [hn]
  have HN := hide hn
  clear hu hv hn
  have hq := eqView
  go_enter Tryz.func92, Tryz.ntmps92
  go_wp2
  go_loopg [5] n (fun g s5 wr => ∃ i : Nat, s5 = .int .i64 i ∧ g + i = n ∧ ∃ nq, wr = w.drewN nq)
  case atStart => exact ⟨0, rfl, by omega, 0, rfl⟩
  case round =>
    obtain ⟨i, rfl, hgi, n0, rfl⟩ := hrel
    cases gk with
    | zero =>
      have hlt : ¬ (i : Int) < (n : Int) := by omega
      go_wp2
      go_ret
      exact ⟨rfl, n0, rfl⟩
    | succ g =>
      have hlt : (i : Int) < (n : Int) := by omega
      have hin : i < n := by omega
      have hil : i < L.length := by rw [HN.out]; exact hin
      obtain ⟨h1, h2⟩ := HU.out
      unfold OwnV at h1 h2
      rw [HN.out] at h1 h2
      obtain ⟨g1, c1, e1, _, _, _, q, _⟩ := RowS.open (S := fun _ => True) ⟨(by exact ⟨h1.1, h1.2.imp (fun h => h) fun ⟨g, c, cur, e1, _, e3⟩ => ⟨g, c, cur, e1, Nat.zero_le _, e3⟩⟩), fun _ _ => trivial⟩ (by omega)
      obtain ⟨g2, c2, e2, _, _, _, r, _⟩ := RowS.open (S := fun _ => True) ⟨(by exact ⟨h2.1, h2.2.imp (fun h => h) fun ⟨g, c, cur, e1, _, e3⟩ => ⟨g, c, cur, e1, Nat.zero_le _, e3⟩⟩), fun _ _ => trivial⟩ (by omega)
      injection e1 with e11 e12 e13
      injection e2 with e21 e22 e23
      clear e12 e22
      subst e11 e13 e21 e23
      have hf := fun j hj => flat9 st L i j hil hj
      have q0 := q _ _ ((hf 0 (by omega)).trans rfl)
      have q1 := q _ _ ((hf 1 (by omega)).trans rfl)
      have q2 := q _ _ ((hf 2 (by omega)).trans rfl)
      have q3 := q _ _ ((hf 3 (by omega)).trans rfl)
      have q4 := q _ _ ((hf 4 (by omega)).trans rfl)
      have q5 := q _ _ ((hf 5 (by omega)).trans rfl)
      have q6 := q _ _ ((hf 6 (by omega)).trans rfl)
      have q7 := q _ _ ((hf 7 (by omega)).trans rfl)
      have q8 := q _ _ ((hf 8 (by omega)).trans rfl)
      have r0 := r _ _ ((hf 0 (by omega)).trans rfl)
      have r1 := r _ _ ((hf 1 (by omega)).trans rfl)
      have r2 := r _ _ ((hf 2 (by omega)).trans rfl)
      have r3 := r _ _ ((hf 3 (by omega)).trans rfl)
      have r4 := r _ _ ((hf 4 (by omega)).trans rfl)
      have r5 := r _ _ ((hf 5 (by omega)).trans rfl)
      have r6 := r _ _ ((hf 6 (by omega)).trans rfl)
      have r7 := r _ _ ((hf 7 (by omega)).trans rfl)
      have r8 := r _ _ ((hf 8 (by omega)).trans rfl)
      generalize L[i] = x at q0 q1 q2 q3 q4 q5 q6 q7 q8 r0 r1 r2 r3 r4 r5 r6 r7 r8
      generalize (st.seen x) = z at q5 q6 q7 q8 r5 r6 r7 r8
      generalize (st.px x) = z1 at q1 r1
      generalize (st.py x) = z2 at q2 r2
      generalize (st.sf x).now.w = z3 at q3 r3
      generalize (st.sf x).now.h = z4 at q4 r4
      obtain ⟨y0, y1, y2, y3⟩ := z
      simp only [Nat.add_zero] at q0 q1 q2 q3 q4 q5 q6 q7 q8 r0 r1 r2 r3 r4 r5 r6 r7 r8
      clear hf q r h1 h2
      go_wp2
      go_quiet (fail)
      go_wp2
      go_roundg g
      case measure => omega
      case rel => exact ⟨i + 1, by go_num, by omega, _, rfl⟩

end Go.Proofs.YtofinpocigbbeaaGreat

/-! Pck -/
namespace Go.Proofs.YtofinpocigbbeaaGreat
open Go.RowKit
attribute [local go_sem ↓] Go.wp_at_zero Go.wp_at_succ

set_option maxRecDepth 100000 in
set_option maxHeartbeats 400000 in
/-- pick -/
theorem pick_any (s : Int) (n : Nat) (hn : 0 < n) (hn2 : n ≤ 1152921504606846976) (hs : -9223372036854775808 ≤ s ∧ s ≤ 9223372036854775807) (w : World) :
    Calls Tryz.prog 50 #[.int .i64 s, .int .i64 n] w fun e w' => (∃ r : Nat, r < n ∧ e = .returned (.int .i64 r)) ∧ w' = w := by
  have hn0 : ¬ (n : Int) = 0 := by omega
  by_cases h : s < 0
  · obtain ⟨S, hS⟩ : ∃ S : Nat, -(s + 1) = (S : Int) := ⟨(-(s + 1)).toNat, by omega⟩
    have e1 : IntKind.i64.wrap (s + 1) = s + 1 := by rw [IntKind.wrap_i64]; omega
    have e2 : IntKind.i64.wrap (-(s + 1)) = (S : Int) := by rw [IntKind.wrap_i64]; omega
    have e4 : (S : Int).tmod (n : Int) = (S : Int) % (n : Int) := Int.tmod_eq_emod_of_nonneg (by omega)
    have e5 : IntKind.i64.wrap ((S : Int) % (n : Int)) = (S : Int) % (n : Int) := by
      have h1 := Int.emod_nonneg (S : Int) hn0
      have h2 := Int.emod_lt_of_pos (S : Int) (show (0 : Int) < n by omega)
      rw [IntKind.wrap_i64]; omega
    go_enter Tryz.func50, Tryz.ntmps50
    go_wp2
    go_ret
    exact ⟨⟨S % n, Nat.mod_lt _ hn, by simp⟩, rfl⟩
  · obtain ⟨S, hS⟩ : ∃ S : Nat, s = (S : Int) := ⟨s.toNat, by omega⟩
    subst hS
    have e4 : (S : Int).tmod (n : Int) = (S : Int) % (n : Int) := Int.tmod_eq_emod_of_nonneg (by omega)
    go_enter Tryz.func50, Tryz.ntmps50
    go_wp2
    go_ret
    exact ⟨⟨S % n, Nat.mod_lt _ hn, by simp⟩, rfl⟩

end Go.Proofs.YtofinpocigbbeaaGreat
