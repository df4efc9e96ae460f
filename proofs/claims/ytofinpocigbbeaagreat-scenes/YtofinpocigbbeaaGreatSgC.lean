import Derived.Test.YtofinpocigbbeaaGreatSgB
import Derived.Test.YtofinpocigbbeaaGreatSgP
import Derived.Deep.RegionHeld3
import Derived.Deep.RegionLaw
/-! CvJ -/
namespace Go.Proofs.YtofinpocigbbeaaGreat
open Go.RowKit
attribute [local go_sem ↓] Go.wp_at_zero Go.wp_at_succ

/-- The pixels as a list. -/
def pxL (f : Nat → R4) (n : Nat) : List R4 := (List.range n).map f

theorem pxL_len (f : Nat → R4) (n : Nat) : (pxL f n).length = n := by simp [pxL]

theorem PixF.at' {w : World} {g n : Nat} {f : Nat → R4} (h : PixF w g n f) (c : Nat) (hn : n ≤ c) : PixAt w (.slice (some ⟨g, 0, none⟩) n c) (pxL f n) := by
  obtain ⟨cur, h1, h2, h3⟩ := h
  refine ⟨some ⟨g, 0, none⟩, c, by rw [pxL_len], fun _ => ⟨by rw [pxL_len]; exact hn, g, 0, rfl, fun k hk => ?_⟩⟩
  rw [pxL_len] at hk
  have q := h3 k hk
  have e : (pxL f n)[k]'(by rw [pxL_len]; exact hk) = f k := by simp [pxL]
  rw [e]
  have ec := fun o => cell_of_row w g (0 + k * 4 + o) cur _ _ h1
  refine ⟨?_, ?_, ?_, ?_⟩
  · have := ec 0; simp only [Nat.zero_add, Nat.add_zero] at this ⊢; rw [this]; exact q.1
  · have := ec 1; simp only [Nat.zero_add] at this ⊢; rw [this]; exact q.2.1
  · have := ec 2; simp only [Nat.zero_add] at this ⊢; rw [this]; exact q.2.2.1
  · have := ec 3; simp only [Nat.zero_add] at this ⊢; rw [this]; exact q.2.2.2

set_option maxRecDepth 100000 in
set_option maxHeartbeats 1000000 in
/-- slices.Clone of pixels -/
theorem clone_any (g n c : Nat) (hc : n ≤ c) (hn : n ≤ 576) (f : Nat → R4) (w : World) (h : PixF w g n f) :
    Calls Tryz.prog 165 #[.slice (some ⟨g, 0, none⟩) n c] w fun e w' => ∃ v, e = .returned v ∧ w'.ownsRow w.heap.size 51 4 v n (pixCells (pxL f n)) ∧ v ≠ .slice none 0 0 ∧ Below w.heap.size w w' := by
  obtain ⟨i0, hi0, hz0, hz1, hz2⟩ := info_parts pixInfo
  have hl := h.has.lt
  have hnews := pix_news ((h.keep (heap_old w (.cells #[] 51) g hl)).at' c hc) fun e => .inr ⟨⟨g, 0, none⟩, c, by have := congrArg List.length e; rw [pxL_len] at this; simp at this; rw [this]⟩
  rw [pxL_len] at hnews
  have HNw := hide hnews
  clear hnews h
  have HOw : Hid ((w.alloc (.cells #[] 51)).ownsRow w.heap.size 51 4 (.slice (some ⟨w.heap.size, 0, none⟩) 0 0) 0 []) := ⟨rfl, .inr ⟨w.heap.size, 0, #[], rfl, Nat.le_refl _, heap_alloc_new w _, by simp, by simp⟩⟩
  have hq := eqP_some_nil
  go_enter Tryz.func165, Tryz.ntmps165
  go_wp2_with (at_builtin; refine wpList_append_row (P := Tryz.prog) rfl (.tmp 5) (.tmp 6) 44 rfl w.heap.size 51 i0 _ 4 4 Tryz.underlying44 hi0 hz0 hz1 hz2 rfl (by decide) (.slice (some ⟨w.heap.size, 0, none⟩) 0 0) 0 [] rfl ?_ (.slice (some ⟨g, 0, none⟩) n c) n (pixCells (pxL f n)) rfl ?_ HNw.out (pix_oneCell _) (by unfold maxLen; omega) (by omega) (by simp) ?_; exact HOw.out; (rw [pixCells_len, pxL_len]); intro v3 w3 ho3 hg3 hn3 ha3; have HB3 := hide (((Below.refl w.heap.size w).alloc (Nat.le_refl _) _).grown hg3 (by simp) (fun k hk => by simp [Value.ownBlock] at hk; omega)); have HO3 := hide (And.intro ho3 hn3); clear ho3 hg3 hn3 ha3)
  go_ret
  refine ⟨_, rfl, ?_, ?_, HB3.out⟩
  · have q := HO3.out.1
    rw [Nat.zero_add, List.nil_append] at q
    exact q
  · intro e
    have q := HO3.out.2.1 e
    simp at q

set_option maxRecDepth 100000 in
set_option maxHeartbeats 1000000 in
/-- Grid.Cells -/
theorem cells_any (W H g n : Nat) (hn : n ≤ 576) (f : Nat → R4) (w : World) (h : PixF w g n f) :
    Calls Tryz.prog 110 #[.agg #[.int .i64 W, .int .i64 H, .slice (some ⟨g, 0, none⟩) n n]] w fun e w' => ∃ v, e = .returned v ∧ w'.ownsRow w.heap.size 51 4 v n (pixCells (pxL f n)) ∧ v ≠ .slice none 0 0 ∧ Below w.heap.size w w' := by
  have hl := h.has.lt
  have HC := hide (clone_any g n n (Nat.le_refl _) hn f _ (h.keep (heap_old w (.cells #[.int .i64 W, .int .i64 H, .slice (some ⟨g, 0, none⟩) n n] 122) g hl)))
  clear h
  go_enter Tryz.func110, Tryz.ntmps110
  go_wp2_with (go_at_call 165; refine HC.out.mono ?_; rintro e w1 ⟨v, rfl, q1, q2, q3⟩; have H1 := hide (And.intro q1 (And.intro q2 q3)); clear q1 q2 q3)
  go_ret
  obtain ⟨q1, q2, q3⟩ := H1.out
  refine ⟨_, rfl, ⟨q1.1, q1.2.imp id fun ⟨g, cap, cur, a1, a2, a3⟩ => ⟨g, cap, cur, a1, Nat.le_trans (by simp) a2, a3⟩⟩, q2, (Joins.below_alloc1 w _).trans (q3.mono (by simp))⟩

set_option maxRecDepth 100000 in
set_option maxHeartbeats 1000000 in
/-- Has -/
theorem has_any {w : World} {S : Nat → Prop} {c : Nat} {d : Cv} {bg cap : Nat} {rg : Nat} {dv : Array Value} (h : CvMem w S c d (.slice (some ⟨bg, 0, none⟩) d.bufs.length cap) rg dv) (i : Int) :
    Calls Tryz.prog 39 #[.pointer (some ⟨c, 0, none⟩), .int .i64 i] w fun e w' => e = .returned (.bool (decide (0 ≤ i ∧ i < d.bufs.length))) ∧ w' = w := by
  have c4 : w.cell? ⟨c, 4, none⟩ = some (.slice (some ⟨bg, 0, none⟩) d.bufs.length cap) := h.blk.cell 4
  have hcl := cell_lt c4
  obtain ⟨n, hn⟩ : ∃ n, d.bufs.length = n := ⟨_, rfl⟩
  rw [hn] at c4
  rw [hn]
  clear h hn
  by_cases h0 : 0 ≤ i
  · by_cases h1 : i < n
    · have e : decide (0 ≤ i ∧ i < (n : Int)) = true := decide_eq_true ⟨h0, h1⟩
      rw [e]
      go_enter Tryz.func39, Tryz.ntmps39
      go_wp2_with fail
      go_ret
      exact ⟨rfl, rfl⟩
    · have e : decide (0 ≤ i ∧ i < (n : Int)) = false := decide_eq_false fun q => h1 q.2
      rw [e]
      go_enter Tryz.func39, Tryz.ntmps39
      go_wp2_with fail
      go_ret
      exact ⟨rfl, rfl⟩
  · have e : decide (0 ≤ i ∧ i < (n : Int)) = false := decide_eq_false fun q => h0 q.1
    rw [e]
    go_enter Tryz.func39, Tryz.ntmps39
    go_wp2_with fail
    go_ret
    exact ⟨rfl, rfl⟩

end Go.Proofs.YtofinpocigbbeaaGreat

/-! Grd -/
namespace Go.Proofs.YtofinpocigbbeaaGreat
open Go.RowKit
attribute [local go_sem ↓] Go.wp_at_zero Go.wp_at_succ

theorem made_pix (w : World) (K : Nat) : PixF (w.alloc (.cells (madeCells #[.int .u8 0, .int .u8 0, .int .u8 0, .int .u8 0] (K * 4)) 51)) w.heap.size K (fun _ => (0, 0, 0, 0)) := by
  refine ⟨_, heap_alloc_new w _, size_madeCells _ _, fun k hk => ?_⟩
  have key : ∀ o, o < 4 → (madeCells #[.int .u8 0, .int .u8 0, .int .u8 0, .int .u8 0] (K * 4))[k * 4 + o]? = some (Value.int .u8 0) := fun o ho => by
    unfold madeCells
    rw [Array.getElem?_map, Array.getElem?_eq_getElem (by simp; omega)]
    simp only [Array.getElem_range, Option.map_some]
    have e : (k * 4 + o) % (#[Value.int .u8 0, .int .u8 0, .int .u8 0, .int .u8 0] : Array Value).size = o := by simp; omega
    rw [e]
    match o, ho with
    | 0, _ | 1, _ | 2, _ | 3, _ => rfl
  exact ⟨key 0 (by omega), key 1 (by omega), key 2 (by omega), key 3 (by omega)⟩

set_option maxRecDepth 100000 in
set_option maxHeartbeats 1000000 in
/-- grid.New -/
theorem gridNew_pix (a b : Int) (K : Nat) (hK : a * b = (K : Int)) (hK2 : K ≤ 576) (w : World) :
    Calls Tryz.prog 98 #[.int .i64 a, .int .i64 b] w fun e w' => ∃ g, e = .returned (.agg #[.int .i64 a, .int .i64 b, .slice (some ⟨g, 0, none⟩) K K]) ∧ PixF w' g K (fun _ => (0, 0, 0, 0)) ∧ w.heap.size ≤ g ∧ Below w.heap.size w w' := by
  obtain ⟨j0, hj0, hy0, hy1, hy2⟩ := info_parts pixInfo
  have hmk2 : ∀ w : World, (Instr.makeSlice 44 (.int .i64 (K : Int)) (.int .i64 (K : Int))).run Tryz.prog w = .ok (.slice (some ⟨w.heap.size, 0, none⟩) K K) (w.alloc (.cells (madeCells #[.int .u8 0, .int .u8 0, .int .u8 0, .int .u8 0] (K * 4)) 51)) := fun w => by
    have h9 := run_make (P := Tryz.prog) w 44 51 j0 _ Tryz.underlying44 hj0 hy0 .i64 .i64 K K (by omega) (Int.le_refl _) (by rw [hy2]; omega) (by omega)
    rw [hy1] at h9
    exact h9
  have HN := hide (fun (W : World) => made_pix W K)
  have HA := hide (fun o1 o2 => al2 (Nat.le_refl w.heap.size) o1 o2)
  go_enter Tryz.func98, Tryz.ntmps98
  go_wp2_with fail
  refine bodyPost_ret (v := .agg #[.int .i64 a, .int .i64 b, .slice (some ⟨w.heap.size + 1, 0, none⟩) K K]) (by simp [results, Tryz.results98, go_sem]) rfl ⟨w.heap.size + 1, rfl, ?_, by omega, HA.out _ _⟩
  have h := HN.out (w.alloc (.cells #[.int .i64 a, .int .i64 b, .slice (some ⟨w.heap.size + 1, 0, none⟩) K K] 122))
  simpa using h

/-- copy of pixels into a row of as many. -/
theorem run_copy_pixF (w : World) (ty : TypeId) (g K : Nat) (v : Value) (l : List R4) (hg : HasB w g 51 (K * 4)) (hv : PixAt w v l) (hl : l.length = K) :
    ∃ w', (Builtin.copy_ #[44, 44] ty #[.slice (some ⟨g, 0, none⟩) K K, v]).run Tryz.prog w = .ok (goInt K) w' ∧ w.grownBy w' (some g) ∧ w'.heap.size = w.heap.size ∧ PixF w' g K (fun k => l.getD k (0, 0, 0, 0)) := by
  obtain ⟨j0, hj0, hy0, hy1, hy2⟩ := info_parts pixInfo
  obtain ⟨cur, hc1, hc2⟩ := hg
  obtain ⟨a, c, rfl, hcs⟩ := hv
  rw [hl]
  by_cases h0 : K = 0
  · subst h0
    refine ⟨w, ?_, ⟨rfl, rfl, rfl, Nat.le_refl _, fun _ _ _ => rfl⟩, rfl, ⟨cur, hc1, hc2, fun k hk => by omega⟩⟩
    cases a with
    | none => simp [Builtin.copy_, run_underlying (P := Tryz.prog) Tryz.underlying44, Builtin.lenOf, Builtin.firstCells, sizeOf, typeInfo, hj0, storeCells]
    | some ad => simp [Builtin.copy_, run_underlying (P := Tryz.prog) Tryz.underlying44, Builtin.lenOf, Builtin.firstCells, sizeOf, typeInfo, hj0, storeCells, loadCells, loadCellsFrom]
  · obtain ⟨_, b, off, rfl, hcells⟩ := hcs (by omega)
    have hpl : (pixCells l).length = K * 4 := by rw [pixCells_len, hl]
    have hsrc : ∀ j u, (pixCells l)[j]? = some u → w.cell? ((⟨b, off, none⟩ : Addr).add j) = some u := fun j u hu => by
      rw [addr_off]
      have hj : j < l.length * 4 := by
        have := (List.getElem?_eq_some_iff.1 hu).1
        rw [pixCells_len] at this
        exact this
      obtain ⟨q, r, hq, hr⟩ : ∃ q r, j = q * 4 + r ∧ r < 4 := ⟨j / 4, j % 4, by omega, by omega⟩
      subst hq
      have hql : q < l.length := by omega
      obtain ⟨p0, p1, p2, p3⟩ := pixCells_at l q hql
      obtain ⟨k0, k1, k2, k3⟩ := hcells q hql
      match r, hr with
      | 0, _ =>
        rw [Nat.add_zero] at hu ⊢
        rw [p0] at hu
        rw [k0, hu]
      | 1, _ =>
        rw [p1] at hu
        rw [← Nat.add_assoc, k1, hu]
      | 2, _ =>
        rw [p2] at hu
        rw [← Nat.add_assoc, k2, hu]
      | 3, _ =>
        rw [p3] at hu
        rw [← Nat.add_assoc, k3, hu]
    have hf := run_firstCells_some (P := Tryz.prog) w 4 K ⟨b, off, none⟩ K c (pixCells l) hpl hsrc
    have hst := run_storeCells_at Tryz.prog g 0 51 (pixCells l) 0 cur w hc1 (by rw [hpl]; omega) (fun u hu => by obtain ⟨x, rfl⟩ := pixCells_u8 l u hu; rfl)
    rw [Nat.add_zero] at hst
    obtain ⟨W', hW'⟩ : ∃ W', W' = w.setRow g (cur.toList.take 0 ++ pixCells l ++ cur.toList.drop (0 + (pixCells l).length)).toArray := ⟨_, rfl⟩
    rw [← hW'] at hst
    refine ⟨W', ?_, ?_, ?_, ?_⟩
    · simp [Builtin.copy_, run_underlying (P := Tryz.prog) Tryz.underlying44, Builtin.lenOf, sizeOf, typeInfo, hj0, hy1, hf, hst]
    · rw [hW']
      exact ⟨rfl, rfl, rfl, by simp, fun k _ hk => setRow_other w g k _ (fun e => hk (by rw [e]))⟩
    · rw [hW']
      simp
    · rw [hW']
      refine ⟨_, setRow_heap w g _ _ _ _ hc1, ?_, fun k hk => ?_⟩
      · simp [hpl, hc2]
      · have hkl : k < l.length := by omega
        obtain ⟨p0, p1, p2, p3⟩ := pixCells_at l k hkl
        have e : l.getD k (0, 0, 0, 0) = l[k] := by rw [List.getD_eq_getElem?_getD, List.getElem?_eq_getElem hkl]; rfl
        have hd : cur.toList.drop (0 + (pixCells l).length) = [] := List.drop_eq_nil_of_le (by simp [hpl, hc2])
        dsimp only
        rw [e, hd, List.append_nil, List.take_zero, List.nil_append]
        simp only [List.getElem?_toArray]
        exact ⟨p0, p1, p2, p3⟩

set_option maxRecDepth 100000 in
set_option maxHeartbeats 1000000 in
/-- grid.Of -/
theorem gridOf_pix (a b : Int) (K : Nat) (hK : a * b = (K : Int)) (hK2 : K ≤ 576) (v : Value) (l : List R4) (hl : l.length = K) (w : World) (hv : PixAt w v l) :
    Calls Tryz.prog 61 #[.int .i64 a, .int .i64 b, v] w fun e w' => ∃ g, e = .returned (.agg #[.int .i64 a, .int .i64 b, .slice (some ⟨g, 0, none⟩) K K]) ∧ PixF w' g K (fun k => l.getD k (0, 0, 0, 0)) ∧ w.heap.size ≤ g ∧ Below w.heap.size w w' := by
  have HN := hide (gridNew_pix a b K hK hK2)
  have hb0 := fun o => al1 (Nat.le_refl w.heap.size) o
  have HV := hide hv
  have HB0 := hide hb0
  obtain ⟨va, vc, hvf, _⟩ := hv
  rw [hl] at hvf
  have HCp : Hid (∀ (w1 : World) (g : Nat), HasB w1 g 51 (K * 4) → w.heap.size + 1 ≤ g → Below (w.heap.size + 1) (w.alloc (.cells #[.int .i64 0, .int .i64 0, .slice none 0 0] 122)) w1 → w.heap.size + 1 ≤ w1.heap.size ∧
      ∃ w2, (Builtin.copy_ #[44, 44] 3 #[.slice (some ⟨g, 0, none⟩) K K, .slice va K vc]).run Tryz.prog (w1.alloc (.cells #[.int .i64 a, .int .i64 b, .slice (some ⟨g, 0, none⟩) K K] 122)) = .ok (goInt K) w2 ∧ HasB w2 w.heap.size 122 3 ∧ Blk w2 w1.heap.size 122 #[.int .i64 a, .int .i64 b, .slice (some ⟨g, 0, none⟩) K K] ∧ Below w.heap.size w w2 ∧ PixF w2 g K (fun k => l.getD k (0, 0, 0, 0))) := fun w1 g hg hge hb => by
    have hs1 := hb.size
    simp only [World.size_alloc] at hs1
    have hbw : Below w.heap.size w w1 := (hb0 _).trans (hb.mono (by omega))
    have hba := hbw.alloc (by omega) (.cells #[.int .i64 a, .int .i64 b, .slice (some ⟨g, 0, none⟩) K K] 122)
    have hgl := hg.lt
    obtain ⟨w2, h1, h2, h3, h4⟩ := run_copy_pixF (w1.alloc (.cells #[.int .i64 a, .int .i64 b, .slice (some ⟨g, 0, none⟩) K K] 122)) 3 g K v l (hg.alloc _) (HV.out.below hba) hl
    rw [hvf] at h1
    refine ⟨by omega, w2, h1, ?_, ?_, ⟨h2.os.trans hba.os, h2.tape.trans hba.tape, h2.output.trans hba.output, Nat.le_trans hba.size h2.size, fun k hk => by rw [h2.block k (by simp; omega) (fun e => by injection e with e; omega), hba.block k hk]⟩, h4⟩
    · refine HasB.keep (HasB.alloc (HasB.keep (HasB.new w #[.int .i64 0, .int .i64 0, .slice none 0 0] 122) (hb.block _ (by omega))) _) (h2.block _ (by simp; omega) (fun e => by injection e with e; omega))
    · show w2.heap[w1.heap.size]? = _
      rw [h2.block w1.heap.size (by simp) (fun e => by injection e with e; omega)]
      exact heap_alloc_new w1 _
  subst hvf
  clear hb0 HV hl
  go_enter Tryz.func61, Tryz.ntmps61
  go_upto_region 2 with (go_at_call 98; refine (HN.out _).mono ?_; rintro e w1 ⟨g, rfl, hg, hge, hb⟩; simp only [World.size_alloc] at hge hb; obtain ⟨hs1, w2, hrun, k1, k2, k3, k4⟩ := HCp.out w1 g hg.has hge hb; have HK := hide (And.intro k1 (And.intro k2 k3)); have HK4 := hide k4; have hgw : w.heap.size < g := (by omega); clear k1 k2 k3 k4 hg hb hge)
  have x0 : w2.cell? ⟨w1.heap.size, 0, none⟩ = some (.int .i64 a) := by rw [HK.out.2.1.cell]; rfl
  have x1 : w2.cell? ⟨w1.heap.size, 1, none⟩ = some (.int .i64 b) := by rw [HK.out.2.1.cell]; rfl
  have x2 : w2.cell? ⟨w1.heap.size, 2, none⟩ = some (.slice (some ⟨g, 0, none⟩) K K) := by rw [HK.out.2.1.cell]; rfl
  obtain ⟨q0, p0⟩ := HK.out.1.cell 0 (by omega)
  obtain ⟨q1, p1⟩ := HK.out.1.cell 1 (by omega)
  obtain ⟨q2, p2⟩ := HK.out.1.cell 2 (by omega)
  have z0 := HK.out.1.free 0
  have z1 := HK.out.1.free 1
  have z2 := HK.out.1.free 2
  have HK6 : Hid (PixF (((w2.setCell ⟨w.heap.size, 0, none⟩ (.int .i64 a)).setCell ⟨w.heap.size, 1, none⟩ (.int .i64 b)).setCell ⟨w.heap.size, 2, none⟩ (.slice (some ⟨g, 0, none⟩) K K)) g K (fun k => l.getD k (0, 0, 0, 0))) := ((HK4.out.keep (heap_setCell_other _ _ _ _ (show g ≠ w.heap.size by omega))).keep (heap_setCell_other _ _ _ _ (show g ≠ w.heap.size by omega))).keep (heap_setCell_other _ _ _ _ (show g ≠ w.heap.size by omega))
  have HB5 : Hid (Below w.heap.size w (((w2.setCell ⟨w.heap.size, 0, none⟩ (.int .i64 a)).setCell ⟨w.heap.size, 1, none⟩ (.int .i64 b)).setCell ⟨w.heap.size, 2, none⟩ (.slice (some ⟨g, 0, none⟩) K K))) := ((HK.out.2.2.setCell (Nat.le_refl _) _).setCell (Nat.le_refl _) _).setCell (Nat.le_refl _) _
  go_wp2_with fail
  exact bodyPost_ret (v := .agg #[.int .i64 a, .int .i64 b, .slice (some ⟨g, 0, none⟩) K K]) (by simp [results, Tryz.results61, go_sem, p0, p1, p2]) rfl ⟨g, rfl, HK6.out, Nat.le_of_lt hgw, HB5.out⟩

end Go.Proofs.YtofinpocigbbeaaGreat

/-! CvK -/
namespace Go.Proofs.YtofinpocigbbeaaGreat
open Go.RowKit
attribute [local go_sem ↓] Go.wp_at_zero Go.wp_at_succ

/-- What is read of the row of buffers. -/
theorem CvMem.cells {w : World} {S : Nat → Prop} {c : Nat} {d : Cv} {bg cap : Nat} {rg : Nat} {dv : Array Value} (h : CvMem w S c d (.slice (some ⟨bg, 0, none⟩) d.bufs.length cap) rg dv) (i : Nat) (hi : i < d.bufs.length) :
    w.cell? ⟨c, 4, none⟩ = some (.slice (some ⟨bg, 0, none⟩) d.bufs.length cap) ∧ w.cell? ⟨bg, i * 4, none⟩ = some (.int .i64 d.W) ∧ w.cell? ⟨bg, i * 4 + 1, none⟩ = some (.int .i64 d.H) ∧ w.cell? ⟨bg, i * 4 + 2, none⟩ = some (.slice (some ⟨d.bufs[i].g, 0, none⟩) (d.W * d.H) (d.W * d.H)) ∧ w.cell? ⟨bg, i * 4 + 3, none⟩ = some (.int .i64 d.bufs[i].age) ∧ bg < w.heap.size ∧ c < w.heap.size := by
  obtain ⟨g', cap', q1, q2, q3, q4, q5, q6⟩ := h.row.open (Nat.lt_of_le_of_lt (Nat.zero_le _) hi)
  simp only [Value.slice.injEq, Option.some.injEq, Addr.mk.injEq] at q1
  obtain ⟨⟨rfl, _⟩, _, rfl⟩ := q1
  have hat := fun o (ho : o < 4) => flat4_at (bufC d.W d.H) (bufC_len _ _) d.bufs i o ho hi
  exact ⟨h.blk.cell 4, q5 _ _ (hat 0 (by omega)), q5 _ _ (hat 1 (by omega)), q5 _ _ (hat 2 (by omega)), q5 _ _ (hat 3 (by omega)), q4, block_lt h.blk⟩

set_option maxRecDepth 100000 in
set_option maxHeartbeats 1000000 in
/-- Look -/
theorem look_any {w : World} {S : Nat → Prop} {c : Nat} {d : Cv} {bg cap : Nat} {rg : Nat} {dv : Array Value} (h : CvMem w S c d (.slice (some ⟨bg, 0, none⟩) d.bufs.length cap) rg dv) (hd : CvOk d) (i : Nat) (hi : i < d.bufs.length) :
    Calls Tryz.prog 65 #[.pointer (some ⟨c, 0, none⟩), .int .i64 i] w fun e w' => ∃ v, e = .returned (.tuple #[v, .int .i64 d.bufs[i].age]) ∧ w'.ownsRow w.heap.size 51 4 v (d.W * d.H) (pixCells (pxL d.bufs[i].f (d.W * d.H))) ∧ v ≠ .slice none 0 0 ∧ Below w.heap.size w w' := by
  have hW := hd.w1
  have hH := hd.h1
  have hcap : d.bufs.length ≤ cap := own_cap h.row.1
  have hN : d.W * d.H ≤ 576 := Nat.le_trans (Nat.mul_le_mul hW.2 hH.2) (by omega)
  obtain ⟨b, hb⟩ : ∃ b, d.bufs[i] = b := ⟨_, rfl⟩
  have hp := (h.pix d.bufs[i] (List.getElem_mem hi)).2
  have HS : Hid (∀ W : World, Below w.heap.size w W → W.cell? ⟨c, 4, none⟩ = some (.slice (some ⟨bg, 0, none⟩) d.bufs.length cap) ∧ W.cell? ⟨bg, i * 4, none⟩ = some (.int .i64 d.W) ∧ W.cell? ⟨bg, i * 4 + 1, none⟩ = some (.int .i64 d.H) ∧ W.cell? ⟨bg, i * 4 + 2, none⟩ = some (.slice (some ⟨b.g, 0, none⟩) (d.W * d.H) (d.W * d.H)) ∧ W.cell? ⟨bg, i * 4 + 3, none⟩ = some (.int .i64 b.age) ∧ bg < W.heap.size ∧ c < W.heap.size) := fun W hW => by
    have q := (h.below hW).cells i hi
    rw [hb] at q
    exact q
  rw [hb] at hp
  rw [hb]
  obtain ⟨N, hNe⟩ : ∃ N, d.W * d.H = N := ⟨_, rfl⟩
  rw [hNe] at HS hp hN
  rw [hNe]
  have HC : Hid (∀ W : World, Below w.heap.size w W → Calls Tryz.prog 110 #[.agg #[.int .i64 d.W, .int .i64 d.H, .slice (some ⟨b.g, 0, none⟩) N N]] W fun e w' => ∃ a n cc, e = .returned (.slice a n cc) ∧ Hid (w'.ownsRow w.heap.size 51 4 (.slice a n cc) N (pixCells (pxL b.f N)) ∧ (.slice a n cc) ≠ Value.slice none 0 0 ∧ Below w.heap.size w w')) := fun W hW => (cells_any d.W d.H b.g N hN b.f W (hp.keep (hW.block _ hp.has.lt))).mono fun e w' ⟨v, q1, q2, q3, q4⟩ => by
    obtain ⟨a, cc, rfl⟩ := row_form q2
    exact ⟨a, _, cc, q1, ⟨q2.1, q2.2.imp id fun ⟨g, cap, cur, a1, a2, a3⟩ => ⟨g, cap, cur, a1, Nat.le_trans hW.size a2, a3⟩⟩, q3, hW.trans (q4.mono hW.size)⟩
  obtain ⟨n, hn⟩ : ∃ n, d.bufs.length = n := ⟨_, rfl⟩
  rw [hn] at HS hcap
  have hin : (i : Int) < (n : Int) := by omega
  have hi0 : (0 : Int) ≤ (i : Int) := by omega
  have hic : i < cap := by omega
  clear h hd hp hb
  go_enter Tryz.func65, Tryz.ntmps65
  go_wp2_with fail
  go_region_held3 (fun W => W.cell? ⟨c, 4, none⟩ = some (.slice (some ⟨bg, 0, none⟩) n cap) ∧ W.cell? ⟨bg, i * 4, none⟩ = some (.int .i64 d.W) ∧ W.cell? ⟨bg, i * 4 + 1, none⟩ = some (.int .i64 d.H) ∧ W.cell? ⟨bg, i * 4 + 2, none⟩ = some (.slice (some ⟨b.g, 0, none⟩) N N) ∧ W.cell? ⟨bg, i * 4 + 3, none⟩ = some (.int .i64 b.age) ∧ bg < W.heap.size ∧ c < W.heap.size)
    (first
      | with_reducible exact HS.out _ (Below.refl _ _).drew
      | with_reducible exact HS.out _ (Below.refl _ _)
      | with_reducible exact HS.out _ H1.out.2.2
      | fail)
    (first
      | (go_at_call 110; refine (HC.out _ (Below.refl _ _).drew).mono ?_; rintro e w1 ⟨va, vn, vc, rfl, H1⟩)
      | fail)
  all_goals go_wp2_with fail
  all_goals exact bodyPost_ret (v := .tuple #[.slice va vn vc, .int .i64 b.age]) (by simp [results, Tryz.results65, go_sem]) rfl ⟨_, rfl, H1.out⟩

set_option maxRecDepth 100000 in
set_option maxHeartbeats 1000000 in
/-- Points -/
theorem points_any {w : World} {S : Nat → Prop} {c : Nat} {d : Cv} {bv : Value} {rg : Nat} {dv : Array Value} (h : CvMem w S c d bv rg dv) (hd : CvOk d) :
    Calls Tryz.prog 42 #[.pointer (some ⟨c, 0, none⟩)] w fun e w' => e = .returned (.int .i64 ((d.W * d.H : Nat) : Int)) ∧ Below w.heap.size w w' := by
  have hW := hd.w1
  have hH := hd.h1
  have k2 : w.cell? ⟨c, 2, none⟩ = some (.int .i64 d.W) := h.blk.cell 2
  have k3 : w.cell? ⟨c, 3, none⟩ = some (.int .i64 d.H) := h.blk.cell 3
  have hcl := cell_lt k2
  have hN : d.W * d.H ≤ 576 := Nat.le_trans (Nat.mul_le_mul hW.2 hH.2) (by omega)
  obtain ⟨N, hNe⟩ : ∃ N, d.W * d.H = N := ⟨_, rfl⟩
  have e1 : (d.W : Int) * (d.H : Int) = (N : Int) := by rw [← hNe]; simp
  rw [hNe] at hN
  rw [hNe]
  clear h hd hNe
  go_enter Tryz.func42, Tryz.ntmps42
  go_wp2_with fail
  go_quiet (fail)
  go_wp2_with fail
  go_ret
  exact ⟨rfl, Joins.below_draws _ _ _⟩

/-- A whole buffer is written. -/
theorem CvMem.setBuf4 {w : World} {S : Nat → Prop} {c : Nat} {d : Cv} {bg n cap : Nat} {rg : Nat} {dv : Array Value} (h : CvMem w S c d (.slice (some ⟨bg, 0, none⟩) n cap) rg dv) (hn : n = d.bufs.length) (i : Nat) (hi : i < d.bufs.length) (b : Buf) (hp : S b.g ∧ PixF w b.g (d.W * d.H) b.f) (hbg : b.g ≠ bg) :
    CvMem ((((w.setCell ⟨bg, i * 4, none⟩ (.int .i64 d.W)).setCell ⟨bg, i * 4 + 1, none⟩ (.int .i64 d.H)).setCell ⟨bg, i * 4 + 2, none⟩ (.slice (some ⟨b.g, 0, none⟩) (d.W * d.H) (d.W * d.H))).setCell ⟨bg, i * 4 + 3, none⟩ (.int .i64 b.age)) S c { d with bufs := d.bufs.set i b } (.slice (some ⟨bg, 0, none⟩) n cap) rg dv := by
  have hs : d.bufs.set i d.bufs[i] = d.bufs := set_same (List.getElem?_eq_getElem hi)
  have kp : ∀ (V : World) (j : Nat) (u : Value) f, PixF V b.g (d.W * d.H) f → PixF (V.setCell ⟨bg, j, none⟩ u) b.g (d.W * d.H) f := fun V j u f q => q.keep (heap_setCell_other V ⟨bg, j, none⟩ b.g u hbg)
  have h1 := h.setBuf hn i 0 (by omega) hi d.bufs[i] (.int .i64 d.W) rfl (h.pix _ (List.getElem_mem hi))
  simp only [hs, Nat.add_zero] at h1
  have h2 := h1.setBuf hn i 1 (by omega) hi d.bufs[i] (.int .i64 d.H) rfl (h1.pix _ (List.getElem_mem hi))
  simp only [hs] at h2
  have h3 := h2.setBuf hn i 2 (by omega) hi ⟨b.g, d.bufs[i].age, b.f⟩ (.slice (some ⟨b.g, 0, none⟩) (d.W * d.H) (d.W * d.H)) rfl ⟨hp.1, kp _ _ _ _ (kp _ _ _ _ hp.2)⟩
  have h4 := h3.setBuf (by simpa using hn) i 3 (by omega) (by simpa using hi) b (.int .i64 b.age) (by simp [bufC]) ⟨hp.1, kp _ _ _ _ (kp _ _ _ _ (kp _ _ _ _ hp.2))⟩
  simpa using h4

/-- A buffer is given other pixels. -/
def Cv.filled (d : Cv) (i g : Nat) (f : Nat → R4) : Cv := { d with bufs := d.bufs.set i ⟨g, 0, f⟩ }

set_option maxRecDepth 100000 in
set_option maxHeartbeats 1000000 in
/-- Fill -/
theorem fill_any {w : World} {S : Nat → Prop} {c : Nat} {d : Cv} {bg cap : Nat} {rg : Nat} {dv : Array Value} (h : CvMem w S c d (.slice (some ⟨bg, 0, none⟩) d.bufs.length cap) rg dv) (hd : CvOk d) (i : Nat) (hi : i < d.bufs.length) (l : List R4) (v : Value) (hv : PixAt w v l) (hl : l.length = d.W * d.H) :
    Calls Tryz.prog 43 #[.pointer (some ⟨c, 0, none⟩), .int .i64 i, v] w fun e w' => e = .returned (.tuple #[]) ∧ ∃ g, w.heap.size ≤ g ∧ g < w'.heap.size ∧ CvMem w' (grow S w w') c (d.filled i g (fun k => l.getD k (0, 0, 0, 0))) (.slice (some ⟨bg, 0, none⟩) d.bufs.length cap) rg dv ∧ Only (fun b => b = bg) w w' := by
  have hW := hd.w1
  have hH := hd.h1
  have hcap : d.bufs.length ≤ cap := own_cap h.row.1
  obtain ⟨N, hNe⟩ : ∃ N, d.W * d.H = N := ⟨_, rfl⟩
  have hN : N ≤ 576 := by rw [← hNe]; exact Nat.le_trans (Nat.mul_le_mul hW.2 hH.2) (by omega)
  have e1 : (d.W : Int) * (d.H : Int) = (N : Int) := by rw [← hNe]; simp
  have k2 : w.cell? ⟨c, 2, none⟩ = some (.int .i64 d.W) := h.blk.cell 2
  have k3 : w.cell? ⟨c, 3, none⟩ = some (.int .i64 d.H) := h.blk.cell 3
  obtain ⟨c4, _, _, _, _, hbl, hcl⟩ := h.cells i hi
  have hrl := block_lt h.ring
  obtain ⟨n, hn⟩ : ∃ n, d.bufs.length = n := ⟨_, rfl⟩
  have HS : Hid (∀ W : World, Below w.heap.size w W → W.cell? ⟨c, 2, none⟩ = some (.int .i64 d.W) ∧ W.cell? ⟨c, 3, none⟩ = some (.int .i64 d.H) ∧ W.cell? ⟨c, 4, none⟩ = some (.slice (some ⟨bg, 0, none⟩) n cap) ∧ bg < W.heap.size ∧ c < W.heap.size) := fun W hW => ⟨(hW.cell (p := ⟨c, 2, none⟩) hcl).trans k2, (hW.cell (p := ⟨c, 3, none⟩) hcl).trans k3, by rw [← hn]; exact (hW.cell (p := ⟨c, 4, none⟩) hcl).trans c4, Nat.lt_of_lt_of_le hbl hW.size, Nat.lt_of_lt_of_le hcl hW.size⟩
  have HG : Hid (∀ W : World, Below w.heap.size w W → Calls Tryz.prog 61 #[.int .i64 d.W, .int .i64 d.H, v] W fun e w' => ∃ g, e = .returned (.agg #[.int .i64 d.W, .int .i64 d.H, .slice (some ⟨g, 0, none⟩) N N]) ∧ (∃ u0, w'.cell? ⟨bg, i * 4, none⟩ = some u0) ∧ (∃ u1, w'.cell? ⟨bg, i * 4 + 1, none⟩ = some u1) ∧ (∃ u2, w'.cell? ⟨bg, i * 4 + 2, none⟩ = some u2) ∧ (∃ u3, w'.cell? ⟨bg, i * 4 + 3, none⟩ = some u3) ∧ w'.frozen? ⟨bg, i * 4, none⟩ = false ∧ w'.frozen? ⟨bg, i * 4 + 1, none⟩ = false ∧ w'.frozen? ⟨bg, i * 4 + 2, none⟩ = false ∧ w'.frozen? ⟨bg, i * 4 + 3, none⟩ = false ∧ Hid (Below w.heap.size w w' ∧ ∃ g', w.heap.size ≤ g' ∧ g' < w'.heap.size ∧ CvMem ((((w'.setCell ⟨bg, i * 4, none⟩ (.int .i64 d.W)).setCell ⟨bg, i * 4 + 1, none⟩ (.int .i64 d.H)).setCell ⟨bg, i * 4 + 2, none⟩ (.slice (some ⟨g, 0, none⟩) N N)).setCell ⟨bg, i * 4 + 3, none⟩ (.int .i64 0)) (grow S w w') c (d.filled i g' (fun k => l.getD k (0, 0, 0, 0))) (.slice (some ⟨bg, 0, none⟩) d.bufs.length cap) rg dv)) := fun W hW => (gridOf_pix d.W d.H N e1 hN v l (by rw [hl, hNe]) W (hv.below hW)).mono fun e w' ⟨g, q1, q2, q3, q4⟩ => by
    have hb : Below w.heap.size w w' := hW.trans (q4.mono hW.size)
    have hm := (h.below hb).mono (S' := grow S w w') fun g hg => .inl hg
    have hbt : HasB w' bg 148 (cap * 4) := by
      obtain ⟨k1, k2⟩ := hm.row.1
      rcases k2 with ⟨k2, _⟩ | ⟨g9, cap9, cur, a1, a2, a3, a4, a5, a6, a7⟩
      · cases k2
      · simp only [Value.slice.injEq, Option.some.injEq, Addr.mk.injEq] at a1
        obtain ⟨⟨rfl, _⟩, _, rfl⟩ := a1
        exact ⟨cur, a3, a6⟩
    have hgl := q2.has.lt
    have hgw : w.heap.size ≤ g := Nat.le_trans hW.size q3
    refine ⟨g, q1, hbt.cell _ (by omega), hbt.cell _ (by omega), hbt.cell _ (by omega), hbt.cell _ (by omega), hbt.free _, hbt.free _, hbt.free _, hbt.free _, hb, g, hgw, hgl, ?_⟩
    have q := hm.setBuf4 rfl i hi ⟨g, 0, fun k => l.getD k (0, 0, 0, 0)⟩ ⟨.inr ⟨hgw, hgl⟩, by rw [hNe]; exact q2⟩ (show g ≠ bg by omega)
    rw [hNe] at q
    exact q
  have hcb : c ≠ bg := fun e => by
    obtain ⟨cur, hcur⟩ := h.row.type (g := bg) rfl
    have hk := h.blk
    rw [e] at hk
    have := hk.symm.trans hcur
    simp at this
  have HS2 : Hid (∀ W : World, Below w.heap.size w W → ∀ u0 u1 u2 u3, ((((W.setCell ⟨bg, i * 4, none⟩ u0).setCell ⟨bg, i * 4 + 1, none⟩ u1).setCell ⟨bg, i * 4 + 2, none⟩ u2).setCell ⟨bg, i * 4 + 3, none⟩ u3).cell? ⟨c, 2, none⟩ = some (.int .i64 d.W) ∧ ((((W.setCell ⟨bg, i * 4, none⟩ u0).setCell ⟨bg, i * 4 + 1, none⟩ u1).setCell ⟨bg, i * 4 + 2, none⟩ u2).setCell ⟨bg, i * 4 + 3, none⟩ u3).cell? ⟨c, 3, none⟩ = some (.int .i64 d.H) ∧ ((((W.setCell ⟨bg, i * 4, none⟩ u0).setCell ⟨bg, i * 4 + 1, none⟩ u1).setCell ⟨bg, i * 4 + 2, none⟩ u2).setCell ⟨bg, i * 4 + 3, none⟩ u3).cell? ⟨c, 4, none⟩ = some (.slice (some ⟨bg, 0, none⟩) n cap) ∧ bg < ((((W.setCell ⟨bg, i * 4, none⟩ u0).setCell ⟨bg, i * 4 + 1, none⟩ u1).setCell ⟨bg, i * 4 + 2, none⟩ u2).setCell ⟨bg, i * 4 + 3, none⟩ u3).heap.size ∧ c < ((((W.setCell ⟨bg, i * 4, none⟩ u0).setCell ⟨bg, i * 4 + 1, none⟩ u1).setCell ⟨bg, i * 4 + 2, none⟩ u2).setCell ⟨bg, i * 4 + 3, none⟩ u3).heap.size) := fun W hW u0 u1 u2 u3 => by
    obtain ⟨q1, q2, q3, q4, q5⟩ := HS.out W hW
    have e : ((((W.setCell ⟨bg, i * 4, none⟩ u0).setCell ⟨bg, i * 4 + 1, none⟩ u1).setCell ⟨bg, i * 4 + 2, none⟩ u2).setCell ⟨bg, i * 4 + 3, none⟩ u3).heap[c]? = W.heap[c]? := by
      rw [heap_setCell_other _ _ c _ hcb, heap_setCell_other _ _ c _ hcb, heap_setCell_other _ _ c _ hcb, heap_setCell_other _ _ c _ hcb]
    exact ⟨(World.cell?_of_block (a := ⟨c, 2, none⟩) e).trans q1, (World.cell?_of_block (a := ⟨c, 3, none⟩) e).trans q2, (World.cell?_of_block (a := ⟨c, 4, none⟩) e).trans q3, by simpa using q4, by simpa using q5⟩
  have HO4 : Hid (∀ W : World, Below w.heap.size w W → ∀ u0 u1 u2 u3, Only (fun b => b = bg) w ((((W.setCell ⟨bg, i * 4, none⟩ u0).setCell ⟨bg, i * 4 + 1, none⟩ u1).setCell ⟨bg, i * 4 + 2, none⟩ u2).setCell ⟨bg, i * 4 + 3, none⟩ u3)) := fun W hW u0 u1 u2 u3 =>
    ((((Only.below (S := fun b => b = bg) hW).set (p := ⟨bg, i * 4, none⟩) (.inl rfl) u0).set (p := ⟨bg, i * 4 + 1, none⟩) (.inl rfl) u1).set (p := ⟨bg, i * 4 + 2, none⟩) (.inl rfl) u2).set (p := ⟨bg, i * 4 + 3, none⟩) (.inl rfl) u3
  have hvf : ∃ a n c', v = .slice a n c' := let ⟨a, c', e, _⟩ := hv; ⟨a, _, c', e⟩
  obtain ⟨va, vn, vc, rfl⟩ := hvf
  rw [hn] at hcap
  have hin : (i : Int) < (n : Int) := by omega
  have hi0 : (0 : Int) ≤ (i : Int) := by omega
  have hic : i < cap := by omega
  clear h hd hv hl e1 k2 k3 c4 hrl
  go_enter Tryz.func43, Tryz.ntmps43
  go_wp2_with fail
  go_region_held3 (fun W => W.cell? ⟨c, 2, none⟩ = some (.int .i64 d.W) ∧ W.cell? ⟨c, 3, none⟩ = some (.int .i64 d.H) ∧ W.cell? ⟨c, 4, none⟩ = some (.slice (some ⟨bg, 0, none⟩) n cap) ∧ bg < W.heap.size ∧ c < W.heap.size)
    (first
      | with_reducible exact HS.out _ (Below.refl _ _).drew
      | with_reducible exact HS.out _ (Below.refl _ _)
      | with_reducible exact HS.out _ H1.out.1
      | with_reducible exact HS2.out _ H1.out.1 _ _ _ _
      | fail)
    (first
      | (go_at_call 61; refine (HG.out _ (Below.refl _ _).drew).mono ?_; rintro e w1 ⟨g, rfl, ⟨u0, x0⟩, ⟨u1, x1⟩, ⟨u2, x2⟩, ⟨u3, x3⟩, f0, f1, f2, f3, H1⟩)
      | fail)
  all_goals go_wp2_with fail
  obtain ⟨hb, g', a1, a2, cm⟩ := H1.out
  refine bodyPost_end (v := .tuple #[]) (by simp [results, Tryz.results43]) rfl ⟨rfl, g', a1, by simpa using a2, cm.mono fun b hb' => ?_, ?_⟩
  · exact hb'.imp id fun q => by simpa using q
  · exact HO4.out _ hb _ _ _ _

end Go.Proofs.YtofinpocigbbeaaGreat

/-! CvL -/
namespace Go.Proofs.YtofinpocigbbeaaGreat
open Go.RowKit
attribute [local go_sem ↓] Go.wp_at_zero Go.wp_at_succ

theorem regionInfo : (Tryz.prog.info? 136).map (fun i => (i.zero, i.size, i.bytes)) = some (some (.agg #[.slice none 0 0]), 1, 24) := by kernel_rfl
theorem bufferInfo : (Tryz.prog.info? 148).map (fun i => (i.zero, i.size, i.bytes)) = some (some (.agg #[.int .i64 0, .int .i64 0, .slice none 0 0, .int .i64 0]), 4, 48) := by kernel_rfl

set_option maxRecDepth 100000 in
set_option maxHeartbeats 1000000 in
/-- ring.New -/
theorem ringNew_any (w : World) :
    Calls Tryz.prog 97 #[.int .i64 4] w fun e w' => ∃ rg, e = .returned (.agg #[.slice (some ⟨rg, 0, none⟩) 4 4, .int .i64 0]) ∧ w.heap.size ≤ rg ∧ Blk w' rg 136 #[.slice none 0 0, .slice none 0 0, .slice none 0 0, .slice none 0 0] ∧ Below w.heap.size w w' := by
  obtain ⟨j0, hj0, hy0, hy1, hy2⟩ := info_parts regionInfo
  have hmk2 : ∀ w : World, (Instr.makeSlice 141 (.int .i64 4) (.int .i64 4)).run Tryz.prog w = .ok (.slice (some ⟨w.heap.size, 0, none⟩) 4 4) (w.alloc (.cells #[.slice none 0 0, .slice none 0 0, .slice none 0 0, .slice none 0 0] 136)) := fun w => by
    have h9 := run_make (P := Tryz.prog) w 141 136 j0 _ Tryz.underlying141 hj0 hy0 .i64 .i64 4 4 (by omega) (Int.le_refl _) (by rw [hy2]; omega) (by omega)
    rw [hy1] at h9
    have e : madeCells (Value.agg #[.slice none 0 0]).cells (Int.toNat 4 * 1) = #[.slice none 0 0, .slice none 0 0, .slice none 0 0, .slice none 0 0] := by first | kernel_rfl | (apply Array.ext'; simp [madeCells, Value.cells, List.range_succ])
    rw [e] at h9
    exact h9
  go_enter Tryz.func97, Tryz.ntmps97
  go_wp2_with fail
  refine bodyPost_ret (v := .agg #[.slice (some ⟨w.heap.size + 1, 0, none⟩) 4 4, .int .i64 0]) (by simp [results, Tryz.results97, go_sem]) rfl ⟨w.heap.size + 1, rfl, by omega, ?_, Joins.below_alloc2 w _ _⟩
  have q := heap_alloc_new (w.alloc (.cells #[.slice (some ⟨w.heap.size + 1, 0, none⟩) 4 4, .int .i64 0] 143)) (.cells #[.slice none 0 0, .slice none 0 0, .slice none 0 0, .slice none 0 0] 136)
  rw [show (w.alloc (.cells #[.slice (some ⟨w.heap.size + 1, 0, none⟩) 4 4, .int .i64 0] 143)).heap.size = w.heap.size + 1 by simp] at q
  exact q

def zeroB (g : Nat) : Buf := ⟨g, 0, fun _ => (0, 0, 0, 0)⟩

/-- A canvas that is being made. -/
structure NewC (w wr : World) (c rg W H k : Nat) (bv : Value) (L : List Nat) : Prop where
  bel : Below w.heap.size w wr
  cb : w.heap.size ≤ c
  rb : w.heap.size ≤ rg
  blk : Blk wr c 145 #[.int .i64 0, .int .i64 0, .int .i64 W, .int .i64 H, bv, .slice (some ⟨rg, 0, none⟩) 4 4, .int .i64 0]
  row : wr.ownsRow (c + 1) 148 4 bv k (L.flatMap fun g => bufC W H (zeroB g))
  ring : Blk wr rg 136 #[.slice none 0 0, .slice none 0 0, .slice none 0 0, .slice none 0 0]
  len : L.length = k
  pix : ∀ g ∈ L, c < g ∧ PixF wr g (W * H) (fun _ => (0, 0, 0, 0))
  apart : ∀ (i j a : Nat), L[i]? = some a → L[j]? = some a → i = j

theorem NewC.step {w wr w5 w6 : World} {c rg W H k gg cp g : Nat} {bv : Value} {L : List Nat} (h : NewC w wr c rg W H k bv L) (h5 : Below wr.heap.size wr w5) (hg : w5.grownBy w6 bv.ownBlock) (hp : PixF w5 g (W * H) (fun _ => (0, 0, 0, 0))) (hgn : wr.heap.size ≤ g)
    (ho : w6.ownsRow (c + 1) 148 4 (.slice (some ⟨gg, 0, none⟩) (k + 1) cp) (k + 1) ((L.flatMap fun g => bufC W H (zeroB g)) ++ bufC W H (zeroB g))) :
    NewC w (w6.setCell ⟨c, 4, none⟩ (.slice (some ⟨gg, 0, none⟩) (k + 1) cp)) c rg W H (k + 1) (.slice (some ⟨gg, 0, none⟩) (k + 1) cp) (L ++ [g]) := by
  have hcl := block_lt h.blk
  have hrl := block_lt h.ring
  have hs5 := h5.size
  have hown : ∀ b, bv.ownBlock = some b → c + 1 ≤ b ∧ ∃ cur, wr.heap[b]? = some (.cells cur 148 (0, 0)) := fun b hb => ⟨(h.row.lt b hb).1, own_type h.row hb⟩
  -- what is not the row's old block stays
  have hst : ∀ b, b < w5.heap.size → bv.ownBlock ≠ some b → b ≠ c → (w6.setCell ⟨c, 4, none⟩ (.slice (some ⟨gg, 0, none⟩) (k + 1) cp)).heap[b]? = w5.heap[b]? := fun b hb hn hc => by
    rw [heap_setCell_other _ _ b _ hc, hg.block b hb fun e => hn e.symm]
  have hc6 : w6.heap[c]? = wr.heap[c]? := by
    rw [hg.block c (by omega) fun e => by have := (hown c e.symm).1; omega, h5.block c hcl]
  have hgb : ∀ b, b ∈ L ++ [g] → c < b ∧ PixF w5 b (W * H) (fun _ => (0, 0, 0, 0)) := fun b hb => by
    rcases List.mem_append.1 hb with hb | hb
    · exact ⟨(h.pix b hb).1, (h.pix b hb).2.keep (h5.block b (h.pix b hb).2.has.lt)⟩
    · simp at hb
      subst hb
      exact ⟨by omega, hp⟩
  refine ⟨?_, h.cb, h.rb, ?_, ?_, ?_, by simp [h.len], fun b hb => ⟨(hgb b hb).1, (hgb b hb).2.keep (hst b (hgb b hb).2.has.lt (fun e => ?_) (by have := (hgb b hb).1; omega))⟩, fun i j a hi hj => ?_⟩
  · refine Below.setCell ?_ h.cb _
    exact (h.bel.trans (h5.mono h.bel.size)).grown hg (Nat.le_trans h.bel.size hs5) fun b hb => by have := (hown b hb).1; have := h.cb; omega
  · have q : Blk w6 c 145 _ := hc6.trans h.blk
    exact q.set 4 _
  · refine own_keep ?_ fun b hb => heap_setCell_other _ _ b _ ?_
    · rw [List.flatMap_append]
      simpa using ho
    · have := (ho.lt b hb).1
      show b ≠ c
      omega
  · refine h.ring.keep ?_
    rw [hst rg (by omega) (fun e => ?_) (fun e => ?_), h5.block rg hrl]
    · obtain ⟨cur, q⟩ := (hown rg e).2
      have := h.ring.symm.trans q
      simp at this
    · have q := h.ring
      rw [e] at q
      have := q.symm.trans h.blk
      simp at this
  · obtain ⟨cur, q⟩ := (hown b e).2
    obtain ⟨cur2, q2, _⟩ := (hgb b hb).2
    rw [h5.block b (block_lt q)] at q2
    have := q.symm.trans q2
    simp at this
  · have key : ∀ (i : Nat), (L ++ [g])[i]? = some a → (i < L.length ∧ L[i]? = some a ∧ a < wr.heap.size) ∨ (i = L.length ∧ a = g) := fun i hi => by
      by_cases e : i < L.length
      · rw [List.getElem?_append_left e] at hi
        exact .inl ⟨e, hi, (h.pix a (List.mem_of_getElem? hi)).2.has.lt⟩
      · rw [List.getElem?_append_right (by omega)] at hi
        right
        have : i - L.length = 0 := by
          by_cases e2 : i - L.length = 0
          · exact e2
          · rw [List.getElem?_eq_none (by simp; omega)] at hi
            cases hi
        rw [this] at hi
        simp at hi
        exact ⟨by omega, hi.symm⟩
    rcases key i hi with ⟨a1, a2, a3⟩ | ⟨a1, a2⟩
    · rcases key j hj with ⟨b1, b2, b3⟩ | ⟨b1, b2⟩
      · exact h.apart i j a a2 b2
      · omega
    · rcases key j hj with ⟨b1, b2, b3⟩ | ⟨b1, b2⟩
      · omega
      · omega

/-- A canvas as it is made. -/
def Cv.new (W H : Nat) (L : List Nat) : Cv := ⟨W, H, L.map zeroB, [[], [], [], []], 0, 0⟩

theorem Cv.new_ok {w wr : World} {c rg W H k : Nat} {bv : Value} {L : List Nat} (h : NewC w wr c rg W H k bv L) (hW : 1 ≤ W ∧ W ≤ 24) (hH : 1 ≤ H ∧ H ≤ 24) (hk : 1 ≤ k ∧ k ≤ 3) : CvOk (Cv.new W H L) := by
  refine ⟨hW, hH, by simp [Cv.new, h.len]; exact hk, by simp [Cv.new], rfl, fun R hR => ?_, fun b hb => ?_, fun R hR x y hm => ?_, fun i j a b hi hj hg => ?_⟩
  · simp [Cv.new] at hR
    subst hR
    exact good_nil
  · simp [Cv.new] at hb
    obtain ⟨g, _, rfl⟩ := hb
    exact Nat.le_refl _
  · simp [Cv.new] at hR
    subst hR
    simp [memR] at hm
  · simp only [Cv.new, List.getElem?_map, Option.map_eq_some_iff] at hi hj
    obtain ⟨g1, hi, rfl⟩ := hi
    obtain ⟨g2, hj, rfl⟩ := hj
    have : g1 = g2 := hg
    subst this
    exact h.apart i j g1 hi hj

theorem NewC.mem {w wr : World} {c rg W H k : Nat} {bv : Value} {L : List Nat} (h : NewC w wr c rg W H k bv L) : CvMem wr (fun g => w.heap.size ≤ g ∧ g < wr.heap.size) c (Cv.new W H L) bv rg #[.slice none 0 0, .slice none 0 0, .slice none 0 0, .slice none 0 0] := by
  refine ⟨h.blk, ⟨h.cb, block_lt h.blk⟩, ⟨?_, fun g hg => ⟨by have := (h.row.lt g hg).1; have := h.cb; omega, (h.row.lt g hg).2⟩⟩, h.ring, ⟨h.rb, block_lt h.ring⟩, rfl, fun i R hi => ?_, fun b hb => ?_⟩
  · have q := h.row
    have e : (Cv.new W H L).bufs.flatMap (bufC W H) = L.flatMap fun g => bufC W H (zeroB g) := by simp [Cv.new, List.flatMap_map]
    have e2 : (Cv.new W H L).bufs.length = k := by simp [Cv.new, h.len]
    show World.ownsRow wr 0 _ 4 bv (Cv.new W H L).bufs.length ((Cv.new W H L).bufs.flatMap (bufC W H))
    rw [e, e2]
    exact ⟨q.1, q.2.imp id fun ⟨g, cap, cur, a1, a2, a3⟩ => ⟨g, cap, cur, a1, Nat.zero_le _, a3⟩⟩
  · have hi4 : i < 4 := (List.getElem?_eq_some_iff.1 hi).1
    have hR : R = [] := by
      have := List.mem_of_getElem? hi
      simpa [Cv.new] using this
    subst hR
    exact ⟨.slice none 0 0, by match i, hi4 with | 0, _ | 1, _ | 2, _ | 3, _ => rfl, RegS.nil _ _⟩
  · simp [Cv.new] at hb
    obtain ⟨g, hg, rfl⟩ := hb
    exact ⟨⟨by have := (h.pix g hg).1; have := h.cb; show w.heap.size ≤ g; omega, (h.pix g hg).2.has.lt⟩, (h.pix g hg).2⟩

set_option maxRecDepth 100000 in
set_option maxHeartbeats 1000000 in
/-- canvas.New -/
theorem cvNew_any (W H N : Nat) (w : World) (hW : 1 ≤ W ∧ W ≤ 24) (hH : 1 ≤ H ∧ H ≤ 24) (hN : 1 ≤ N ∧ N ≤ 3) :
    Calls Tryz.prog 54 #[.int .i64 W, .int .i64 H, .int .i64 N] w fun e w' => ∃ c rg bv L, e = .returned (.pointer (some ⟨c, 0, none⟩)) ∧ NewC w w' c rg W H N bv L := by
  obtain ⟨i0, hi0, hz0, hz1, hz2⟩ := info_parts bufferInfo
  obtain ⟨hW0, hW1⟩ := hW
  obtain ⟨hH0, hH1⟩ := hH
  obtain ⟨hn0, hn1⟩ := hN
  obtain ⟨K, hK⟩ : ∃ K : Nat, W * H = K := ⟨_, rfl⟩
  have hK2 : K ≤ 576 := by rw [← hK]; exact Nat.le_trans (Nat.mul_le_mul hW1 hH1) (by omega)
  have hKi : (W : Int) * (H : Int) = (K : Int) := by rw [← hK]; simp
  have HG := hide (gridNew_pix W H K hKi hK2)
  have HR := hide (ringNew_any w)
  have HKe := hide hK
  clear hKi hK
  go_enter Tryz.func54, Tryz.ntmps54
  go_wp2_with (go_at_call 97; refine HR.out.mono ?_; rintro e w1 ⟨rg, rfl, r1, r2, r3⟩; have H1 := hide (And.intro r1 (And.intro r2 r3)); clear r1 r2 r3)
  have H0 : Hid (NewC w (w1.alloc (.cells #[.int .i64 0, .int .i64 0, .int .i64 W, .int .i64 H, .slice none 0 0, .slice (some ⟨rg, 0, none⟩) 4 4, .int .i64 0] 145)) w1.heap.size rg W H 0 (.slice none 0 0) []) := by
    obtain ⟨r1, r2, r3⟩ := H1.out
    exact ⟨r3.alloc r3.size _, r3.size, r1, heap_alloc_new w1 _, World.ownsRow_nil _ _ _ _, r2.alloc _, rfl, fun g hg => (by cases hg), fun i j a hi => (by simp at hi)⟩
  clear H1 HR
  go_loopg [15] N (fun gg s15 wr => ∃ (k : Nat) (bv : Value) (L : List Nat), s15 = .int .i64 (k : Int) ∧ gg + k = N ∧ Hid (NewC w wr w1.heap.size rg W H k bv L))
  case atStart => exact ⟨0, .slice none 0 0, [], rfl, by omega, H0.out⟩
  case round =>
    rename World => wr
    obtain ⟨k, bv, L, rfl, hgk, HM⟩ := hrel
    cases gk with
    | zero =>
      have hlt : ¬ (k : Int) < (N : Int) := by omega
      have hkN : k = N := by omega
      subst hkN
      go_wp2_with fail
      go_ret
      exact ⟨_, rfl, rg, bv, L, HM.out⟩
    | succ gk =>
      have hlt : (k : Int) < (N : Int) := by omega
      obtain ⟨ba, bc, hbf⟩ := row_form HM.out.row
      subst hbf
      have c1 : wr.cell? ⟨w1.heap.size, 4, none⟩ = some (.slice ba k bc) := HM.out.blk.cell 4
      have hxl : w1.heap.size < wr.heap.size := HM.out.blk.has.lt
      have HX : Hid (∀ wx : World, Below wr.heap.size wr wx → wx.cell? ⟨w1.heap.size, 4, none⟩ = some (.slice ba k bc) ∧ wx.ownsRow (w1.heap.size + 1) 148 4 (.slice ba k bc) k (L.flatMap fun g => bufC W H (zeroB g)) ∧ w1.heap.size + 1 ≤ wx.heap.size) := fun wx hx => ⟨(hx.cell (p := ⟨w1.heap.size, 4, none⟩) hxl).trans c1, own_keep HM.out.row fun b hb => hx.block b (HM.out.row.lt b hb).2, by have := hx.size; omega⟩
      have HY : Hid (∀ (w5 w6 : World) (gg cp g : Nat), Below wr.heap.size wr w5 → w5.grownBy w6 (Value.slice ba k bc).ownBlock → PixF w5 g K (fun _ => (0, 0, 0, 0)) → wr.heap.size ≤ g → w6.ownsRow (w1.heap.size + 1) 148 4 (.slice (some ⟨gg, 0, none⟩) (k + 1) cp) (k + 1) ((L.flatMap fun g => bufC W H (zeroB g)) ++ [.int .i64 W, .int .i64 H, .slice (some ⟨g, 0, none⟩) K K, .int .i64 0]) → w6.cell? ⟨w1.heap.size, 4, none⟩ = some (.slice ba k bc) ∧ w6.frozen? ⟨w1.heap.size, 4, none⟩ = false ∧ Hid (NewC w (w6.setCell ⟨w1.heap.size, 4, none⟩ (.slice (some ⟨gg, 0, none⟩) (k + 1) cp)) w1.heap.size rg W H (k + 1) (.slice (some ⟨gg, 0, none⟩) (k + 1) cp) (L ++ [g]))) := fun w5 w6 gg cp g h5 hg hp hgn ho => by
        have hb : w6.heap[w1.heap.size]? = wr.heap[w1.heap.size]? := by
          rw [hg.block _ (Nat.lt_of_lt_of_le hxl h5.size) (fun e => by have := (HM.out.row.lt _ e.symm).1; omega), h5.block _ hxl]
        refine ⟨?_, ?_, HM.out.step h5 hg (by rw [HKe.out]; exact hp) hgn ?_⟩
        · rw [World.cell?_of_block (w := wr) (a := ⟨w1.heap.size, 4, none⟩) hb]
          exact c1
        · rw [World.frozen?_of_block (w := wr) (a := ⟨w1.heap.size, 4, none⟩) hb]
          exact HM.out.blk.has.free 4
        · have e : bufC W H (zeroB g) = [.int .i64 W, .int .i64 H, .slice (some ⟨g, 0, none⟩) K K, .int .i64 0] := by
            unfold bufC zeroB
            rw [HKe.out]
            rfl
          rw [e]
          exact ho
      have hk2 : k ≤ 3 := by omega
      go_upto_region 4 with fail
      go_region_law (first
          | (refine step_append_lies _ (by rfl) (.tmp 21) (.tmp 26) 140 (by rfl) (w1.heap.size + 1) 148 i0 _ 4 48 Tryz.underlying140 hi0 hz0 hz1 hz2 rfl (by omega) (.slice ba k bc) k (L.flatMap fun g => bufC W H (zeroB g)) (by rfl) (HX.out _ (HB1.out.alloc HB1.out.size _)).2.1 ⟨w2.heap.size, 0, none⟩ 1 1 [.int .i64 W, .int .i64 H, .slice (some ⟨g, 0, none⟩) K K, .int .i64 0] (by rfl) (by rfl) (World.news_of_block (cs := #[.int .i64 W, .int .i64 H, .slice (some ⟨g, 0, none⟩) K K, .int .i64 0]) (t := 148) (fr := (0, 0)) (heap_alloc_new w2 _)) (by simp [Value.oneCell']) (by omega) (by unfold maxLen; omega) (by omega) (HX.out _ (HB1.out.alloc HB1.out.size _)).2.2 _ rfl ?_; intro ga cp w6 hown6 hgrow _ _; obtain ⟨c6, f6, HN6⟩ := HY.out _ w6 ga cp g (HB1.out.alloc HB1.out.size _) hgrow (HP1.out.1.keep (heap_old w2 _ g HP1.out.1.has.lt)) HP1.out.2 hown6; clear hown6 hgrow)
          | (go_simp; go_wp2_with (go_at_call 98; refine (HG.out _).mono ?_; rintro e w2 ⟨g, rfl, hg, hge, hb⟩; have HB1 := hide (((Below.refl wr.heap.size wr).drew).trans hb); have HP1 := hide (And.intro hg hge); have cx := (HX.out w2 HB1.out).1; have hxl1 := Nat.lt_of_lt_of_le hxl HB1.out.size; have hxn1 := Nat.ne_of_lt hxl1; clear hg hge hb)))
      all_goals
        go_wp2_with fail
        go_roundg gk
        case measure => omega
        case rel => exact ⟨k + 1, _, _, by go_num, by omega, HN6⟩

end Go.Proofs.YtofinpocigbbeaaGreat

/-! Sml -/
namespace Go.Proofs.YtofinpocigbbeaaGreat
open Go.RowKit
attribute [local go_sem ↓] Go.wp_at_zero Go.wp_at_succ

set_option maxRecDepth 100000 in
set_option maxHeartbeats 1000000 in
/-- Grid.At -/
theorem gridAt_any (W H n g x y K : Nat) (hW : W ≤ 24) (hy : y < 24) (hK : y * W + x = K) (hKn : K < n) (hn : n ≤ 576) (f : Nat → R4) (w : World) (h : PixF w g n f) :
    Calls Tryz.prog 162 #[.agg #[.int .i64 W, .int .i64 H, .slice (some ⟨g, 0, none⟩) n n], .int .i64 x, .int .i64 y] w fun e w' => e = .returned (.agg (pixC (f K))) ∧ Below w.heap.size w w' := by
  have hl := h.has.lt
  obtain ⟨cur, h1, h2, h3⟩ := h
  obtain ⟨q0, q1, q2, q3⟩ := h3 K hKn
  have c0 : w.cell? ⟨g, K * 4, none⟩ = some (.int .u8 (f K).1) := (cell_of_row w g (K * 4) cur _ _ h1).trans q0
  have c1 : w.cell? ⟨g, K * 4 + 1, none⟩ = some (.int .u8 (f K).2.1) := (cell_of_row w g (K * 4 + 1) cur _ _ h1).trans q1
  have c2 : w.cell? ⟨g, K * 4 + 2, none⟩ = some (.int .u8 (f K).2.2.1) := (cell_of_row w g (K * 4 + 2) cur _ _ h1).trans q2
  have c3 : w.cell? ⟨g, K * 4 + 3, none⟩ = some (.int .u8 (f K).2.2.2) := (cell_of_row w g (K * 4 + 3) cur _ _ h1).trans q3
  have e1 : (y : Int) * (W : Int) = ((y * W : Nat) : Int) := by simp
  obtain ⟨M, hM⟩ : ∃ M, y * W = M := ⟨_, rfl⟩
  have hMb : M ≤ 576 := by rw [← hM]; exact Nat.le_trans (Nat.mul_le_mul (show y ≤ 24 by omega) hW) (by omega)
  rw [hM] at e1 hK
  have e2 : (M : Int) + (x : Int) = (K : Int) := by omega
  have hKn' : (K : Int) < (n : Int) := by omega
  have hK0 : (0 : Int) ≤ (K : Int) := by omega
  unfold pixC
  generalize f K = P at c0 c1 c2 c3
  clear h1 h2 h3 q0 q1 q2 q3 hM hK
  go_enter Tryz.func162, Tryz.ntmps162
  go_wp2_with fail
  exact bodyPost_ret (v := .agg #[.int .u8 P.1, .int .u8 P.2.1, .int .u8 P.2.2.1, .int .u8 P.2.2.2]) (by simp [results, Tryz.results162, go_sem]) rfl ⟨rfl, Joins.below_alloc2 w _ _⟩

set_option maxRecDepth 100000 in
set_option maxHeartbeats 1000000 in
/-- region.Has -/
theorem rHas_any (r : R4) (x y : Int) (w : World) :
    Calls Tryz.prog 189 #[.agg #[.int .i64 r.1, .int .i64 r.2.1, .int .i64 r.2.2.1, .int .i64 r.2.2.2], .int .i64 x, .int .i64 y] w fun e w' => e = .returned (.bool (inR r x y)) ∧ Below w.heap.size w w' := by
  obtain ⟨a, b, c, d⟩ := r
  have hcases : ¬ a ≤ x ∨ (a ≤ x ∧ ¬ x < c) ∨ (a ≤ x ∧ x < c ∧ ¬ b ≤ y) ∨ (a ≤ x ∧ x < c ∧ b ≤ y ∧ ¬ y < d) ∨ (a ≤ x ∧ x < c ∧ b ≤ y ∧ y < d) := by omega
  have hv : ∀ z : Bool, (z = true ↔ (a ≤ x ∧ x < c ∧ b ≤ y ∧ y < d)) → inR (a, b, c, d) x y = z := fun z hz => by
    unfold inR
    rw [Bool.eq_iff_iff, hz]
    simp
  rcases hcases with h1 | ⟨h1, h2⟩ | ⟨h1, h2, h3⟩ | ⟨h1, h2, h3, h4⟩ | ⟨h1, h2, h3, h4⟩
  · rw [hv false (by simp; omega)]
    clear hv
    go_enter Tryz.func189, Tryz.ntmps189
    go_wp2_with fail
    go_ret
    exact ⟨rfl, Joins.below_alloc1 w _⟩
  · rw [hv false (by simp; omega)]
    clear hv
    go_enter Tryz.func189, Tryz.ntmps189
    go_wp2_with fail
    go_ret
    exact ⟨rfl, Joins.below_alloc1 w _⟩
  · rw [hv false (by simp; omega)]
    clear hv
    go_enter Tryz.func189, Tryz.ntmps189
    go_wp2_with fail
    go_ret
    exact ⟨rfl, Joins.below_alloc1 w _⟩
  · rw [hv false (by simp; omega)]
    clear hv
    go_enter Tryz.func189, Tryz.ntmps189
    go_wp2_with fail
    go_ret
    exact ⟨rfl, Joins.below_alloc1 w _⟩
  · rw [hv true (by simp; omega)]
    clear hv
    go_enter Tryz.func189, Tryz.ntmps189
    go_wp2_with fail
    go_ret
    exact ⟨rfl, Joins.below_alloc1 w _⟩

set_option maxRecDepth 100000 in
/-- pixel.Black -/
theorem black_any (w : World) :
    Calls Tryz.prog 168 #[] w fun e w' => e = .returned (.agg (pixC (0, 0, 0, 255))) ∧ Below w.heap.size w w' := by
  unfold pixC
  go_enter Tryz.func168, Tryz.ntmps168
  go_wp2_with fail
  exact bodyPost_ret (v := .agg #[.int .u8 0, .int .u8 0, .int .u8 0, .int .u8 255]) (by simp [results, Tryz.results168, go_sem]) rfl ⟨rfl, Joins.below_alloc1 w _⟩

def pts (r : R4) : Bool := decide (r.1 < r.2.2.1 ∧ r.2.1 < r.2.2.2)

def hull (p q : R4) : R4 := if pts p then (if pts q then (min p.1 q.1, min p.2.1 q.2.1, max p.2.2.1 q.2.2.1, max p.2.2.2 q.2.2.2) else p) else q

end Go.Proofs.YtofinpocigbbeaaGreat
