import Derived.Test.YtofinpocigbbeaaGreatPanB
import Derived.Lib.Overlaps
namespace Go.Proofs.YtofinpocigbbeaaGreat
open Go.RowKit

theorem ptrSize (w : World) : (Go.sizeOf 117).run Tryz.prog w = .ok 1 w := by
  obtain ⟨i0, hi0, hz0, hz1, hz2⟩ := info_parts ptrInfo
  simp [sizeOf, typeInfo, hi0, hz1]

theorem ptrOne : (Tryz.prog.info? 117).map (·.size) = some 1 := by
  obtain ⟨i0, hi0, hz0, hz1, hz2⟩ := info_parts ptrInfo
  rw [hi0]; simp [hz1]

/-- copy within a row of pointers, or into one. -/
theorem run_copy_ptr (w : World) (ty : TypeId) (g o dLen dCap : Nat) (a : Addr) (sLen sCap : Nat) (cur : Array Value) (cs : List Value) (hg : w.heap[g]? = some (.cells cur 117 (0, 0))) (hn : cs.length = Nat.min sLen dLen)
    (hsrc : ∀ j v, cs[j]? = some v → w.cell? (a.add j) = some v) (hfit : o + cs.length ≤ cur.size) (h1 : ∀ v ∈ cs, v.oneCell' = true) :
    ∃ w', (Builtin.copy_ #[170, 170] ty #[.slice (some ⟨g, o, none⟩) dLen dCap, .slice (some a) sLen sCap]).run Tryz.prog w = .ok (goInt cs.length) w' ∧ w'.heap[g]? = some (.cells (cur.toList.take o ++ cs ++ cur.toList.drop (o + cs.length)).toArray 117 (0, 0)) ∧ w.grownBy w' (some g) ∧ w'.heap.size = w.heap.size :=
  ⟨_, run_copy_row (P := Tryz.prog) w _ _ ty 117 g o dLen dCap a sLen sCap cur 117 cs Tryz.underlying170 ptrOne hg hn hsrc hfit h1, setRow_heap w g cur _ _ _ hg, ⟨rfl, rfl, rfl, by simp, fun k _ hk => setRow_other w g k _ (fun e => hk (by rw [e]))⟩, by simp⟩

theorem splice_insert {α : Type} (l : List α) (i n : Nat) (u : α) (hi : i < n) (hn : n + 1 ≤ l.length) : ((l.take (i + 1) ++ (l.take n).drop i ++ l.drop (i + 1 + ((l.take n).drop i).length)).take i ++ [u] ++ (l.take (i + 1) ++ (l.take n).drop i ++ l.drop (i + 1 + ((l.take n).drop i).length)).drop (i + 1)).take (n + 1) = l.take i ++ u :: (l.take n).drop i := by
  have h1 : (l.take (i + 1)).length = i + 1 := by simp; omega
  have h2 : (l.take (i + 1) ++ (l.take n).drop i ++ l.drop (i + 1 + ((l.take n).drop i).length)).take i = l.take i := by
    rw [List.append_assoc, List.take_append_of_le_length (by omega), List.take_take, Nat.min_eq_left (by omega)]
  have h3 : (l.take (i + 1) ++ (l.take n).drop i ++ l.drop (i + 1 + ((l.take n).drop i).length)).drop (i + 1) = (l.take n).drop i ++ l.drop (i + 1 + ((l.take n).drop i).length) := by
    rw [List.append_assoc, List.drop_append_of_le_length (by omega), List.drop_eq_nil_of_le (by omega), List.nil_append]
  rw [h2, h3]
  have h4 : (l.take i ++ [u] ++ (l.take n).drop i).length = n + 1 := by simp; omega
  rw [← List.append_assoc, ← h4, List.take_left]
  simp

set_option maxRecDepth 100000 in
set_option maxHeartbeats 1000000 in
/-- slices.Insert of one, where there is room. -/
theorem insert_mid (g n cap i b : Nat) (u : Value) (cur : Array Value) (w : World) (hg : w.heap[g]? = some (.cells cur 117 (0, 0))) (hb : w.heap[b]? = some (.cells #[u] 117 (0, 0))) (hgb : g ≠ b) (hcs : cur.size = cap) (hcap : cap ≤ maxLen) (hn : n + 1 ≤ cap) (hi : i < n) (hp : ∀ u ∈ cur.toList.take n, u.oneCell' = true) (hu : u.oneCell' = true) :
    Calls Tryz.prog 163 #[.slice (some ⟨g, 0, none⟩) n cap, .int .i64 (i : Int), .slice (some ⟨b, 0, none⟩) 1 1] w fun e w' => e = .returned (.slice (some ⟨g, 0, none⟩) (n + 1) cap) ∧
      (∃ cur' : Array Value, w'.heap[g]? = some (.cells cur' 117 (0, 0)) ∧ cur'.size = cap ∧ cur'.toList.take (n + 1) = cur.toList.take i ++ u :: (cur.toList.take n).drop i) ∧ w.grownBy w' (some g) ∧ w'.heap.size = w.heap.size := by
  unfold maxLen at hcap
  have hin : (i : Int) < (n : Int) := by omega
  have hin0 : ¬ (i : Int) = (n : Int) := by omega
  have hin2 : (i : Int) ≤ (n : Int) := by omega
  have hnc : (n : Int) + 1 ≤ (cap : Int) := by omega
  have hic : i ≤ cap := by omega
  have hci : ¬ cap = i := by omega
  have hcn : n + 1 ≤ cap := by omega
  have HG := hide hg
  have HP := hide hp
  clear hg hp
  have hov : ∀ lb cb, (callFunc 186 #[.slice (some ⟨b, 0, none⟩) 1 1, .slice (some ⟨g, i + 1, none⟩) lb cb]).run Tryz.prog w = .ok (.value (.bool false)) w := fun lb cb => by
    rw [run_callFunc_extern Tryz.func186 (by kernel_rfl) (by kernel_rfl) (by kernel_rfl) (e := Extern.SlicesOverlaps.overlaps #[170, 170] #[4]) (by kernel_rfl),
      Lib.run_overlaps_apart w 170 4 117 Tryz.underlying170 1 ptrSize ⟨b, 0, none⟩ ⟨g, i + 1, none⟩ 1 1 lb cb (fun e => hgb e.symm) 117 117 1 cap (by simp [World.shape?, hb]) (by simp [World.shape?, HG.out, hcs]) (by omega) (by simp [World.frozen?, hb]) (by simp [World.frozen?, hb])]
    rfl
  obtain ⟨w1, hc1, hw1, hg1, hs1⟩ := run_copy_ptr w.drew 3 g (i + 1) (n - i) (cap - (i + 1)) ⟨g, i, none⟩ (n + 1 - i) (cap - i) cur ((cur.toList.take n).drop i) HG.out (by rw [show Nat.min (n + 1 - i) (n - i) = n - i from Nat.min_eq_right (by omega)]; simp; omega) (fun j v hj => by
      rw [addr_off]
      show w.cell? _ = _
      rw [cell_of_row w g _ _ _ _ HG.out, ← Array.getElem?_toList]
      rw [List.getElem?_drop, List.getElem?_take] at hj
      split at hj
      · exact hj
      · cases hj) (by simp; omega) (fun v hv => HP.out v (List.mem_of_mem_drop hv))
  have hb1 : w1.heap[b]? = some (.cells #[u] 117 (0, 0)) := (hg1.block b (Array.getElem?_eq_some_iff.1 hb).1 (fun e => hgb (by simpa using e.symm))).trans hb
  obtain ⟨w2, hc2, hw2, hg2, hs2⟩ := run_copy_ptr w1 3 g i (n + 1 - i) (cap - i) ⟨b, 0, none⟩ 1 1 _ [u] hw1 (by simp only [Nat.min_def]; split <;> simp <;> omega) (fun j v hj => by
      rw [addr_off, cell_of_row w1 b _ _ _ _ hb1]
      match j, hj with
      | 0, hj => simpa using hj) (by simp; omega) (by simpa using hu)
  have e1 : ((cur.toList.take n).drop i).length = n - i := by simp; omega
  rw [e1] at hc1
  have HF : Hid ((∃ cur' : Array Value, w2.heap[g]? = some (.cells cur' 117 (0, 0)) ∧ cur'.size = cap ∧ cur'.toList.take (n + 1) = cur.toList.take i ++ u :: (cur.toList.take n).drop i) ∧ w.grownBy w2 (some g) ∧ w2.heap.size = w.heap.size) := by
    refine ⟨⟨_, hw2, ?_, ?_⟩, ⟨hg2.os.trans hg1.os, hg2.tape.trans hg1.tape, hg2.output.trans hg1.output, Nat.le_trans hg1.size hg2.size, fun k hk hne => ?_⟩, hs2.trans hs1⟩
    · simp
      omega
    · exact splice_insert cur.toList i n u hi (by simp; omega)
    · rw [hg2.block k (Nat.lt_of_lt_of_le hk hg1.size) hne, hg1.block k hk hne]
      rfl
  clear hw1 hg1 hs1 hw2 hg2 hs2 hb1 hb e1
  go_enter Tryz.func163, Tryz.ntmps163
  have hie : (i : Int) + 1 ≤ (n : Int) + 1 := by omega
  have hi0 : (0 : Int) ≤ (i : Int) + 1 := by omega
  have hie2 : (i : Int) ≤ (n : Int) + 1 := by omega
  have hci2 : ¬ cap = i + 1 := by omega
  go_wp2_with fail
  go_region
  go_wp2_with fail
  go_ret
  exact ⟨rfl, HF.out⟩

/-- append(s, x...) in s's own spare room. -/
theorem wpList_append_in {P : Program} {w : World} {ops : Array Oper} {rest : List Oper} {o : Oper} {a : Act} {Q : Exit → Act → World → Prop}
    (hgd : o.guard = none) (s x : Operand) (t : TypeId) (hop : o.op = Op.call { callee := Callee.builtin Builtin.append, args := #[s, x], argTypes := #[t, t] })
    (e : TypeId) (i : TypeInfo) (h1 : P.underlying t = some (.slice e)) (h2 : P.info? e = some i) (h4 : i.size = 1)
    (g n cap : Nat) (hs : a.eval s = .slice (some ⟨g, 0, none⟩) n cap) (cur : Array Value) (hg : w.heap[g]? = some (.cells cur e (0, 0)))
    (ad : Addr) (m c : Nat) (news : List Value) (hx : a.eval x = .slice (some ad) m c) (hn : news.length = m) (hc : ∀ j u, news[j]? = some u → w.cell? (ad.add j) = some u) (h1c : ∀ u ∈ news, u.oneCell' = true)
    (k : Nat) (hk : n + m = k) (hroom : k ≤ cap) (hcap : cur.size = cap)
    (hK : ∀ w', w'.heap[g]? = some (.cells (cur.toList.take n ++ news ++ cur.toList.drop k).toArray e (0, 0)) → w.grownBy w' (some g) → w'.heap.size = w.heap.size → wpList P ops Q rest (a.put o.dst (.slice (some ⟨g, 0, none⟩) k cap)) w') :
    wpList P ops Q (o :: rest) a w := by
  subst hk
  refine wpList_plain hgd fun K' hK' => ?_
  have hrun := run_append_room (P := P) w t o.type e i h1 h2 g n cap cur hg ad m c news (by rw [h4, hn, Nat.mul_one]) hc h1c hroom (by rw [h4, hn]; omega)
  rw [h4, Nat.mul_one, hn] at hrun
  have hK2 := hK (w.setRow g (cur.toList.take n ++ news ++ cur.toList.drop (n + m)).toArray) (setRow_heap w g cur _ e _ hg) ⟨rfl, rfl, rfl, by simp, fun k _ hk => setRow_other w g k _ (fun e => hk (by rw [e]))⟩ (by simp)
  obtain ⟨W', hW'⟩ : ∃ W', W' = w.setRow g (cur.toList.take n ++ news ++ cur.toList.drop (n + m)).toArray := ⟨_, rfl⟩
  rw [← hW'] at hrun hK2
  unfold Oper.wp
  simp [execOp, hop, resolve, invoke, builtin, hs, hx, hrun, Result.andThen]
  exact hK' _ _ hK2

set_option maxRecDepth 100000 in
set_option maxHeartbeats 1000000 in
/-- slices.Insert of one behind all, where there is room. -/
theorem insert_end (g n cap b : Nat) (u : Value) (cur : Array Value) (w : World) (hg : w.heap[g]? = some (.cells cur 117 (0, 0))) (hb : w.heap[b]? = some (.cells #[u] 117 (0, 0))) (hcs : cur.size = cap) (hn : n + 1 ≤ cap) (hu : u.oneCell' = true) :
    Calls Tryz.prog 163 #[.slice (some ⟨g, 0, none⟩) n cap, .int .i64 (n : Int), .slice (some ⟨b, 0, none⟩) 1 1] w fun e w' => e = .returned (.slice (some ⟨g, 0, none⟩) (n + 1) cap) ∧
      (∃ cur' : Array Value, w'.heap[g]? = some (.cells cur' 117 (0, 0)) ∧ cur'.size = cap ∧ cur'.toList.take (n + 1) = cur.toList.take n ++ [u]) ∧ w.grownBy w' (some g) ∧ w'.heap.size = w.heap.size := by
  obtain ⟨i0, hi0, hz0, hz1, hz2⟩ := info_parts ptrInfo
  have hnc : (n : Int) + 1 ≤ (cap : Int) := by omega
  have hcn : ¬ cap = n := by omega
  have HG := hide hg
  have HB : Hid (∀ j v, [u][j]? = some v → w.cell? ((⟨b, 0, none⟩ : Addr).add j) = some v) := fun j v hj => by
    rw [addr_off, cell_of_row w b _ _ _ _ hb]
    match j, hj with
    | 0, hj => simpa using hj
  have HF : Hid (∀ w' : World, w'.heap[g]? = some (.cells (cur.toList.take n ++ [u] ++ cur.toList.drop (n + 1)).toArray 117 (0, 0)) → ∃ cur' : Array Value, w'.heap[g]? = some (.cells cur' 117 (0, 0)) ∧ cur'.size = cap ∧ cur'.toList.take (n + 1) = cur.toList.take n ++ [u]) := fun w' hw' => by
    refine ⟨_, hw', by simp; omega, ?_⟩
    have h4 : (cur.toList.take n ++ [u]).length = n + 1 := by simp; omega
    show (cur.toList.take n ++ [u] ++ cur.toList.drop (n + 1)).take (n + 1) = _
    conv => lhs; rw [← h4]
    rw [List.take_append_of_le_length (Nat.le_refl _), List.take_length]
  clear hg hb
  go_enter Tryz.func163, Tryz.ntmps163
  go_wp2_with (at_builtin; refine wpList_append_in rfl (.tmp 23) (.tmp 24) 170 rfl 117 i0 Tryz.underlying170 hi0 hz1 g n cap rfl cur HG.out ⟨b, 0, none⟩ 1 1 [u] rfl rfl HB.out (by simpa using hu) (n + 1) rfl (by omega) hcs ?_; intro w1 hw1 hgr hsz; have HW := hide (And.intro hw1 (And.intro hgr hsz)); clear hw1 hgr hsz)
  go_ret
  exact ⟨rfl, HF.out _ HW.out.1, HW.out.2.1, HW.out.2.2⟩

end Go.Proofs.YtofinpocigbbeaaGreat
