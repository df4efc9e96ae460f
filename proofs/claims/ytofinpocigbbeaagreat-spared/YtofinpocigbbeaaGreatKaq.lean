import Derived.Test.YtofinpocigbbeaaGreatKan
import Derived.Deep.RegionLaw
namespace Go.Proofs.YtofinpocigbbeaaGreat
open Go.RowKit

/-- append(s, x...) in s's own spare room, as a step of a region. -/
theorem step_append_in {P : Program} {ops : Array Oper} {o : Oper} {a : Act} {w : World} {K : Act → World → Prop} {Q : Exit → Act → World → Prop} {E : Prop}
    (hgd : o.guard = none) (s x : Operand) (t : TypeId) (hop : o.op = Op.call { callee := Callee.builtin Builtin.append, args := #[s, x], argTypes := #[t, t] })
    (e : TypeId) (i : TypeInfo) (h1 : P.underlying t = some (.slice e)) (h2 : P.info? e = some i) (h4 : i.size = 1)
    (g n cap : Nat) (hs : a.eval s = .slice (some ⟨g, 0, none⟩) n cap) (cur : Array Value) (hg : w.heap[g]? = some (.cells cur e (0, 0)))
    (ad : Addr) (m c : Nat) (news : List Value) (hx : a.eval x = .slice (some ad) m c) (hn : news.length = m) (hc : ∀ j u, news[j]? = some u → w.cell? (ad.add j) = some u) (h1c : ∀ u ∈ news, u.oneCell' = true)
    (k : Nat) (hk : n + m = k) (hroom : k ≤ cap) (hcap : cur.size = cap)
    (hK : ∀ w', w'.heap[g]? = some (.cells (cur.toList.take n ++ news ++ cur.toList.drop k).toArray e (0, 0)) → w.grownBy w' (some g) → w'.heap.size = w.heap.size → K (a.put o.dst (.slice (some ⟨g, 0, none⟩) k cap)) w') :
    if Region.wanted o (yielded ops a.tmps) = true then Oper.wp P o a w K Q else E := by
  subst hk
  have hw : Region.wanted o (yielded ops a.tmps) = true := by simp [Region.wanted, hgd]
  rw [if_pos hw]
  have hrun := run_append_room (P := P) w t o.type e i h1 h2 g n cap cur hg ad m c news (by rw [h4, hn, Nat.mul_one]) hc h1c hroom (by rw [h4, hn]; omega)
  rw [h4, Nat.mul_one, hn] at hrun
  have hK2 := hK (w.setRow g (cur.toList.take n ++ news ++ cur.toList.drop (n + m)).toArray) (setRow_heap w g cur _ e _ hg) ⟨rfl, rfl, rfl, by simp, fun k _ hk => setRow_other w g k _ (fun e => hk (by rw [e]))⟩ (by simp)
  obtain ⟨W', hW'⟩ : ∃ W', W' = w.setRow g (cur.toList.take n ++ news ++ cur.toList.drop (n + m)).toArray := ⟨_, rfl⟩
  rw [← hW'] at hrun hK2
  unfold Oper.wp
  simp [execOp, hop, resolve, invoke, builtin, hs, hx, hrun, Result.andThen]
  exact hK2

theorem ptrInfo : (Tryz.prog.info? 117).map (fun i => (i.zero, i.size, i.bytes)) = some (some (.pointer none), 1, 8) := by kernel_rfl

/-- clear of one pointer. -/
theorem run_clear_one {P : Program} (w : World) (t ty e : TypeId) (h1 : P.underlying t = some (.slice e)) (hz : (zeroValue e).run P w = .ok (.pointer none) w) (g off c : Nat) (cur : Array Value) (hg : w.heap[g]? = some (.cells cur e (0, 0))) (hoff : off < cur.size) :
    ∃ w', (Builtin.clear_ #[t] ty #[.slice (some ⟨g, off, none⟩) 1 c]).run P w = .ok (.tuple #[]) w' ∧ w'.heap[g]? = some (.cells (cur.toList.take off ++ [Value.pointer none] ++ cur.toList.drop (off + 1)).toArray e (0, 0)) ∧ w.grownBy w' (some g) ∧ w'.heap.size = w.heap.size := by
  have hst := run_storeCells_at P g off e [Value.pointer none] 0 cur w hg (by simp; omega) (by simp [Value.oneCell'])
  simp only [Nat.add_zero, List.length_singleton] at hst
  refine ⟨w.setRow g (cur.toList.take off ++ [Value.pointer none] ++ cur.toList.drop (off + 1)).toArray, ?_, setRow_heap w g cur _ e _ hg, ⟨rfl, rfl, rfl, by simp, fun k _ hk => setRow_other w g k _ (fun e => hk (by rw [e]))⟩, by simp⟩
  obtain ⟨W', hW'⟩ : ∃ W', W' = w.setRow g (cur.toList.take off ++ [Value.pointer none] ++ cur.toList.drop (off + 1)).toArray := ⟨_, rfl⟩
  rw [← hW'] at hst ⊢
  have hzc : (Builtin.zeroCells (Value.pointer none).cells 1).toList = [Value.pointer none] := by simp [Builtin.zeroCells, Value.cells]
  simp [Builtin.clear_, run_underlying h1, hz, hzc, hst, Result.andThen]

theorem ptrZero (w : World) : (zeroValue 117).run Tryz.prog w = .ok (.pointer none) w := by
  obtain ⟨i0, hi0, hz0, hz1, hz2⟩ := info_parts ptrInfo
  simp [zeroValue, typeInfo, hi0, hz0]

theorem splice_erase {α : Type} (l : List α) (i n : Nat) (z : α) (hi : i < n + 1) (hn : n + 1 ≤ l.length) : (((l.take i ++ (l.take (n + 1)).drop (i + 1) ++ l.drop n).take n) ++ [z] ++ (l.take i ++ (l.take (n + 1)).drop (i + 1) ++ l.drop n).drop (n + 1)).take n = (l.take (n + 1)).eraseIdx i := by
  obtain ⟨A, hA⟩ : ∃ A, A = l.take i ++ (l.take (n + 1)).drop (i + 1) := ⟨_, rfl⟩
  have h1 : A.length = n := by rw [hA]; simp; omega
  have h3 : (l.take (n + 1)).eraseIdx i = A := by rw [hA, List.eraseIdx_eq_take_drop_succ, List.take_take, Nat.min_eq_left (by omega)]
  rw [h3, ← hA, List.append_assoc, List.take_append_of_le_length (by simp; omega), List.take_take, Nat.min_self, ← h1, List.take_left]

set_option maxRecDepth 100000 in
set_option maxHeartbeats 1000000 in
/-- slices.Delete of one. -/
theorem delete_any (g n cap i : Nat) (cur : Array Value) (w : World) (hg : w.heap[g]? = some (.cells cur 117 (0, 0))) (hcs : cur.size = cap) (hcap : cap ≤ maxLen) (hn : n + 1 ≤ cap) (hi : i < n + 1) (hp : ∀ u ∈ cur.toList.take (n + 1), u.oneCell' = true) :
    Calls Tryz.prog 112 #[.slice (some ⟨g, 0, none⟩) (n + 1) cap, .int .i64 (i : Int), .int .i64 ((i : Int) + 1)] w fun e w' => e = .returned (.slice (some ⟨g, 0, none⟩) n cap) ∧
      (∃ cur' : Array Value, w'.heap[g]? = some (.cells cur' 117 (0, 0)) ∧ cur'.size = cap ∧ cur'.toList.take n = (cur.toList.take (n + 1)).eraseIdx i) ∧ w.grownBy w' (some g) ∧ w'.heap.size = w.heap.size := by
  obtain ⟨i0, hi0, hz0, hz1, hz2⟩ := info_parts ptrInfo
  unfold maxLen at hcap
  have hin : (i : Int) < (n : Int) + 1 := by omega
  have hin1 : (i : Int) + 1 ≤ (n : Int) + 1 := by omega
  have hnc : (n : Int) + 1 ≤ (cap : Int) := by omega
  have h01 : (0 : Int) ≤ (i : Int) + 1 := by omega
  have h02 : (0 : Int) ≤ (n : Int) + 1 := by omega
  have hle : (i : Int) ≤ (i : Int) + 1 := by omega
  have hnn : (n : Int) ≤ (n : Int) + 1 := by omega
  have hic : i ≤ cap := by omega
  have hcn : ¬ cap = n := by omega
  have hcl : cur.toList.length = cap := by simpa using hcs
  have HG := hide hg
  have HP := hide hp
  have HF : Hid (∀ w1 w2 : World, w1.heap[g]? = some (.cells (cur.toList.take i ++ (cur.toList.take (n + 1)).drop (i + 1) ++ cur.toList.drop n).toArray 117 (0, 0)) → w.drew.grownBy w1 (some g) → w1.heap.size = w.drew.heap.size →
      w2.heap[g]? = some (.cells (((cur.toList.take i ++ (cur.toList.take (n + 1)).drop (i + 1) ++ cur.toList.drop n).toArray.toList.take n) ++ [Value.pointer none] ++ ((cur.toList.take i ++ (cur.toList.take (n + 1)).drop (i + 1) ++ cur.toList.drop n).toArray.toList.drop (n + 1))).toArray 117 (0, 0)) → w1.grownBy w2 (some g) → w2.heap.size = w1.heap.size →
      (∃ cur' : Array Value, w2.heap[g]? = some (.cells cur' 117 (0, 0)) ∧ cur'.size = cap ∧ cur'.toList.take n = (cur.toList.take (n + 1)).eraseIdx i) ∧ w.grownBy w2 (some g) ∧ w2.heap.size = w.heap.size) := fun w1 w2 _ k2 k3 k4 k5 k6 => by
    refine ⟨⟨_, k4, ?_, ?_⟩, ?_, by rw [k6, k3]; rfl⟩
    · simp
      omega
    · exact splice_erase cur.toList i n (.pointer none) hi (by omega)
    · exact ⟨k5.os.trans k2.os, k5.tape.trans k2.tape, k5.output.trans k2.output, Nat.le_trans k2.size k5.size, fun b hb hne => by rw [k5.block b (Nat.lt_of_lt_of_le hb k2.size) hne, k2.block b hb hne]; rfl⟩
  by_cases he : cap = i + 1
  · have hni : n = i := by omega
    subst hni
    subst he
    have e0 : (cur.toList.take (n + 1)).drop (n + 1) = [] := by simp
    rw [e0] at HF
    clear hg hp
    go_enter Tryz.func112, Tryz.ntmps112
    go_wp2_with fail
    go_region_law (refine step_append_in (by rfl) (.tmp 22) (.tmp 25) 170 (by rfl) 117 i0 Tryz.underlying170 hi0 hz1 g n (n + 1) (by rfl) cur (by exact HG.out) ⟨g, 0, none⟩ 0 0 [] (by rfl) (by simp) (by simp) (by simp) n (by omega) (by omega) (by omega) ?_; intro w1 hw1 hgr hsz)
    have HW1 := hide (And.intro hw1 (And.intro hgr hsz))
    clear hw1 hgr hsz
    obtain ⟨w2, hrun, HW2'⟩ := run_clear_one w1 170 0 117 Tryz.underlying170 (ptrZero _) g n 1 _ HW1.out.1 (by simp; omega)
    have HW2 := hide HW2'
    clear HW2'
    go_wp2_with fail
    go_ret
    exact ⟨rfl, HF.out _ _ HW1.out.1 HW1.out.2.1 HW1.out.2.2 HW2.out.1 HW2.out.2.1 HW2.out.2.2⟩
  · go_enter Tryz.func112, Tryz.ntmps112
    clear hg hp
    go_wp2_with fail
    go_region_law (refine step_append_in (by rfl) (.tmp 22) (.tmp 25) 170 (by rfl) 117 i0 Tryz.underlying170 hi0 hz1 g i cap (by rfl) cur (by exact HG.out) ⟨g, i + 1, none⟩ (n - i) (cap - (i + 1)) ((cur.toList.take (n + 1)).drop (i + 1)) (by rfl) (by simp; omega) (fun j u hu => by rw [addr_off]; show w.cell? _ = _; rw [cell_of_row w g _ _ _ _ HG.out, ← Array.getElem?_toList]; rw [List.getElem?_drop, List.getElem?_take] at hu; split at hu; exact hu; cases hu) (fun u hu => HP.out u (List.mem_of_mem_drop hu)) n (by omega) (by omega) (by exact hcs) ?_; intro w1 hw1 hgr hsz)
    have HW1 := hide (And.intro hw1 (And.intro hgr hsz))
    clear hw1 hgr hsz
    obtain ⟨w2, hrun, HW2'⟩ := run_clear_one w1 170 0 117 Tryz.underlying170 (ptrZero _) g n (cap - n) _ HW1.out.1 (by simp; omega)
    have HW2 := hide HW2'
    clear HW2'
    go_wp2_with fail
    go_ret
    exact ⟨rfl, HF.out _ _ HW1.out.1 HW1.out.2.1 HW1.out.2.2 HW2.out.1 HW2.out.2.1 HW2.out.2.2⟩

end Go.Proofs.YtofinpocigbbeaaGreat
