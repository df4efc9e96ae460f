import Derived.Test.YtlaflopimpnjpaaGreatSg30
import Derived.Test.YtlaflopimpnjpaaGreatSg29
import Derived.Test.YtlaflopimpnjpaaGreatSg09
/-! LntP -/
namespace Go.Proofs.YtlaflopimpnjpaaGreat
open Go.RowKit
attribute [local go_sem ↓] Go.wp_at_zero Go.wp_at_succ

def mkP (k : Int) : R4 := (k, 0, 0, 77)

set_option maxHeartbeats 400000 in
theorem mark_any (k : Int) (hk : 0 ≤ k ∧ k ≤ 250) (w : World) :
    Calls Tryz.prog 12 #[.int .i64 k] w fun e w' => e = .returned (.agg #[.int .u8 k, .int .u8 0, .int .u8 0, .int .u8 77]) ∧ Below w.heap.size w w' := by
  have e1 : Int.tmod k 251 = k := by rw [Int.tmod_eq_emod_of_nonneg hk.1]; omega
  have e2 : Int.tdiv k 251 = 0 := by rw [Int.tdiv_eq_ediv_of_nonneg hk.1]; omega
  have e3 : Int.tdiv k 63001 = 0 := by rw [Int.tdiv_eq_ediv_of_nonneg hk.1]; omega
  go_enter Tryz.func12, Tryz.ntmps12
  go_wp2
  refine bodyPost_ret (v := .agg #[.int .u8 k, .int .u8 0, .int .u8 0, .int .u8 77]) (by simp [results, Tryz.results12, go_sem]) rfl ⟨rfl, al1 (Nat.le_refl _) _⟩

theorem mark5 (w : World) : Calls Tryz.prog 12 #[.int .i64 5] w fun e w' => e = .returned (.agg #[.int .u8 5, .int .u8 0, .int .u8 0, .int .u8 77]) ∧ Below w.heap.size w w' := mark_any 5 (by decide) w
theorem mark6 (w : World) : Calls Tryz.prog 12 #[.int .i64 6] w fun e w' => e = .returned (.agg #[.int .u8 6, .int .u8 0, .int .u8 0, .int .u8 77]) ∧ Below w.heap.size w w' := mark_any 6 (by decide) w

theorem pixCells_at (l : List R4) (i : Nat) (hi : i < l.length) :
    (pixCells l)[i * 4]? = some (.int .u8 l[i].1) ∧ (pixCells l)[i * 4 + 1]? = some (.int .u8 l[i].2.1) ∧ (pixCells l)[i * 4 + 2]? = some (.int .u8 l[i].2.2.1) ∧ (pixCells l)[i * 4 + 3]? = some (.int .u8 l[i].2.2.2) := by
  induction l generalizing i with
  | nil => simp at hi
  | cons a l ih =>
    unfold pixCells
    rw [List.flatMap_cons]
    cases i with
    | zero => exact ⟨rfl, rfl, rfl, rfl⟩
    | succ i =>
      have h9 := ih i (by simpa using hi)
      unfold pixCells at h9
      refine ⟨?_, ?_, ?_, ?_⟩
      · rw [List.getElem?_append_right (by simp; omega), show (i + 1) * 4 - _ = i * 4 by simp; omega]; exact h9.1
      · rw [List.getElem?_append_right (by simp; omega), show (i + 1) * 4 + 1 - _ = i * 4 + 1 by simp; omega]; exact h9.2.1
      · rw [List.getElem?_append_right (by simp; omega), show (i + 1) * 4 + 2 - _ = i * 4 + 2 by simp; omega]; exact h9.2.2.1
      · rw [List.getElem?_append_right (by simp; omega), show (i + 1) * 4 + 3 - _ = i * 4 + 3 by simp; omega]; exact h9.2.2.2

theorem pix_oneCell (l : List R4) : ∀ u ∈ pixCells l, u.oneCell' = true := by
  intro u hu
  obtain ⟨a, rfl⟩ := pixCells_u8 l u hu
  rfl

theorem pix_news {w : World} {v : Value} {l : List R4} (h : PixAt w v l) (hn : l = [] → v = .slice none 0 0 ∨ ∃ ad c, v = .slice (some ad) 0 c) : (v = .slice none 0 0 ∧ l.length = 0) ∨ ∃ ad c, v = .slice (some ad) l.length c ∧ ∀ j u, (pixCells l)[j]? = some u → w.cell? (ad.add j) = some u := by
  by_cases hl : l = []
  · rcases hn hl with hn | ⟨ad, c, hn⟩
    · exact .inl ⟨hn, by rw [hl]; rfl⟩
    · exact .inr ⟨ad, c, by rw [hl]; exact hn, fun j u hu => by rw [hl] at hu; simp [pixCells] at hu⟩
  · right
    have hpos : 0 < l.length := by cases l with
      | nil => exact absurd rfl hl
      | cons a l => simp
    obtain ⟨a, c, rfl, hc⟩ := h
    obtain ⟨_, b, off, rfl, hcs⟩ := hc hpos
    refine ⟨_, c, rfl, fun j u hu => ?_⟩
    have hj : j < l.length * 4 := by
      rw [← pixCells_len]
      exact (List.getElem?_eq_some_iff.1 hu).1
    obtain ⟨k, hk⟩ : ∃ k, j / 4 = k := ⟨_, rfl⟩
    have hkl : k < l.length := by omega
    obtain ⟨q1, q2, q3, q4⟩ := pixCells_at l k hkl
    obtain ⟨c1, c2, c3, c4⟩ := hcs k hkl
    rw [addr_off]
    have hcase : j = k * 4 ∨ j = k * 4 + 1 ∨ j = k * 4 + 2 ∨ j = k * 4 + 3 := by omega
    clear hk hj
    rcases hcase with rfl | rfl | rfl | rfl
    · rw [q1] at hu; rw [← hu]; exact c1
    · rw [q2] at hu; rw [← hu]; exact c2
    · rw [q3] at hu; rw [← hu]; exact c3
    · rw [q4] at hu; rw [← hu]; exact c4

/-- Pixels that are lent: with two of spare room; nothing, for nothing. -/
def LentP (w' : World) (base : Nat) (v : Value) (l : List R4) (u : Value) : Prop :=
  (v = .slice none 0 0 ∧ u = .slice none 0 0 ∧ l = []) ∨ ((∃ ad c, v = .slice (some ad) l.length c) ∧ ∃ g cap, u = .slice (some ⟨g, 0, none⟩) l.length cap ∧ w'.ownsRow base 55 4 (.slice (some ⟨g, 0, none⟩) (l.length + 2) cap) (l.length + 2) (pixCells (l ++ [mkP 5, mkP 6])))

set_option maxRecDepth 100000 in
theorem eqP_nil_nil (w : World) : (binOp .eql 39 (.slice none 0 0) (.slice none 0 0)).run Tryz.prog w = .ok (.bool true) w := rfl
set_option maxRecDepth 100000 in
theorem eqP_some_nil (ad : Addr) (n c : Nat) (w : World) : (binOp .eql 39 (.slice (some ad) n c) (.slice none 0 0)).run Tryz.prog w = .ok (.bool false) w := rfl

set_option maxRecDepth 100000 in
set_option maxHeartbeats 1000000 in
theorem lentP_any (l : List R4) (v : Value) (w : World) (h : PixAt w v l) (hv : (v = .slice none 0 0 ∧ l = []) ∨ ∃ ad c, v = .slice (some ad) l.length c) (hr : l.length * 4 ≤ 140737488351232) :
    Calls Tryz.prog 64 #[v] w fun e w' => ∃ u, e = .returned u ∧ LentP w' w.heap.size v l u ∧ Below w.heap.size w w' := by
  obtain ⟨i0, hi0, hz0, hz1, hz2⟩ := info_parts pixInfo
  rcases hv with ⟨rfl, rfl⟩ | ⟨ad, c, rfl⟩
  · clear h hr
    have hq := eqP_nil_nil
    go_enter Tryz.func64, Tryz.ntmps64
    go_wp2
    go_ret
    exact ⟨_, rfl, .inl ⟨rfl, rfl, rfl⟩, Below.refl _ _⟩
  · have hnews := pix_news h fun e => .inr ⟨ad, c, by rw [e]; rfl⟩
    obtain ⟨n, hn⟩ : ∃ n, l.length = n := ⟨_, rfl⟩
    rw [hn] at hr hnews
    rw [hn]
    have HN := hide hn
    have HNw := hide hnews
    clear hnews h hn
    have hq := eqP_some_nil
    go_enter Tryz.func64, Tryz.ntmps64
    go_wp2_with (first
      | (at_builtin; refine wpList_append_row (P := Tryz.prog) rfl (.tmp 6) (.tmp 7) 39 rfl w.heap.size 55 i0 _ 4 4 Tryz.underlying39 hi0 hz0 hz1 hz2 rfl (by decide) (.slice none 0 0) 0 [] rfl ?_ (.slice (some ad) n c) n (pixCells l) rfl ?_ ?_ (pix_oneCell _) (by unfold maxLen; omega) (by omega) (Nat.le_refl _) ?_; exact World.ownsRow_nil _ _ _ _; (rw [pixCells_len, HN.out]); exact HNw.out; intro v3 w3 ho3 hg3 hn3 ha3; have HB3 := hide ((Below.refl w.heap.size w).grown hg3 (Nat.le_refl _) (fun k hk => by simp [Value.ownBlock] at hk)); have hs3 : w.heap.size ≤ w3.heap.size := HB3.out.size; have HO3 := hide ho3; clear ho3 hg3 hn3 ha3)
      | (go_at_call 12; refine (mark6 w5).mono ?_; rintro e6 w6 ⟨rfl, hb6⟩; have HB6 := hide (HB5.out.trans (hb6.mono HB5.out.size)); have hs6 : w3.heap.size ≤ w6.heap.size := HB6.out.size; clear hb6)
      | (go_at_call 12; refine (mark5 w3).mono ?_; rintro e5 w5 ⟨rfl, hb5⟩; have HB5 := hide hb5; clear hb5)
      | (at_builtin; refine wpList_append_lies _ rfl (.tmp 9) (.tmp 12) 39 rfl w.heap.size 55 i0 _ 4 4 Tryz.underlying39 hi0 hz0 hz1 hz2 rfl (by decide) v3 (0 + n) ([] ++ pixCells l) rfl ((own_keep HO3.out fun g hg => HB6.out.block g (HO3.out.lt g hg).2).alloc _) ⟨w6.heap.size, 0, none⟩ 2 2 (pixCells [mkP 5, mkP 6]) rfl rfl (World.news_of_block (cs := #[.int .u8 5, .int .u8 0, .int .u8 0, .int .u8 77, .int .u8 6, .int .u8 0, .int .u8 0, .int .u8 77]) (t := 55) (fr := (0, 0)) (heap_alloc_new w6 _)) (pix_oneCell _) (by omega) (by unfold maxLen; omega) (by omega) (by simp; omega) _ rfl ?_; intro g4 c4 w4 ho4 hg4 ha4 hl4; have HO4 := hide ho4; have hc4 : n ≤ c4 := (by have := own_cap ho4; omega); have HB4 := hide (((HB3.out.trans (HB6.out.mono hs3)).alloc (by omega) _).grown hg4 (by simp; omega) (fun k hk => (HO3.out.lt k hk).1)); clear ho4 hg4 ha4 hl4))
    go_ret
    refine ⟨_, rfl, .inr ⟨⟨ad, c, by rw [HN.out]⟩, g4, c4, by rw [HN.out]; rfl, ?_⟩, HB4.out⟩
    have h9 := HO4.out
    rw [Nat.zero_add, List.nil_append] at h9
    rw [HN.out, pixCells_append]
    exact h9

end Go.Proofs.YtlaflopimpnjpaaGreat

/-! PanW -/
namespace Go.Proofs.YtlaflopimpnjpaaGreat
open Go.RowKit
attribute [local go_sem ↓] Go.wp_at_zero Go.wp_at_succ

set_option maxRecDepth 100000 in
set_option maxHeartbeats 1000000 in
/-- grid.New -/
theorem gridNew_any (a b : Int) (K : Nat) (hK : a * b = (K : Int)) (hK2 : K ≤ 576) (w : World) :
    Calls Tryz.prog 36 #[.int .i64 a, .int .i64 b] w fun e w' => ∃ g, e = .returned (.agg #[.int .i64 a, .int .i64 b, .slice (some ⟨g, 0, none⟩) K K]) ∧ HasB w' g 55 (K * 4) ∧ w.heap.size ≤ g ∧ Below w.heap.size w w' := by
  obtain ⟨j0, hj0, hy0, hy1, hy2⟩ := info_parts pixInfo
  have hmk2 : ∀ w : World, (Instr.makeSlice 39 (.int .i64 (K : Int)) (.int .i64 (K : Int))).run Tryz.prog w = .ok (.slice (some ⟨w.heap.size, 0, none⟩) K K) (w.alloc (.cells (madeCells #[.int .u8 0, .int .u8 0, .int .u8 0, .int .u8 0] (K * 4)) 55)) := fun w => by
    have h9 := run_make (P := Tryz.prog) w 39 55 j0 _ Tryz.underlying39 hj0 hy0 .i64 .i64 K K (by omega) (Int.le_refl _) (by rw [hy2]; omega) (by omega)
    rw [hy1] at h9
    exact h9
  have HN := hide (fun (W : World) (cs : Array Value) => HasB.new W cs 55)
  have HA := hide (fun o1 o2 => al2 (Nat.le_refl w.heap.size) o1 o2)
  go_enter Tryz.func36, Tryz.ntmps36
  go_wp2_with fail
  refine bodyPost_ret (v := .agg #[.int .i64 a, .int .i64 b, .slice (some ⟨w.heap.size + 1, 0, none⟩) K K]) (by simp [results, Tryz.results36, go_sem]) rfl ⟨w.heap.size + 1, rfl, ?_, by omega, HA.out _ _⟩
  have h := HN.out (w.alloc (.cells #[.int .i64 a, .int .i64 b, .slice (some ⟨w.heap.size + 1, 0, none⟩) K K] 88)) (madeCells #[.int .u8 0, .int .u8 0, .int .u8 0, .int .u8 0] (K * 4))
  rw [size_madeCells] at h
  simpa using h

/-- copy of pixels into a row of as many. -/
theorem run_copy_pix (w : World) (ty : TypeId) (g K : Nat) (v : Value) (l : List R4) (hg : HasB w g 55 (K * 4)) (hv : PixAt w v l) (hl : l.length = K) :
    ∃ w', (Builtin.copy_ #[39, 39] ty #[.slice (some ⟨g, 0, none⟩) K K, v]).run Tryz.prog w = .ok (goInt K) w' ∧ w.grownBy w' (some g) ∧ w'.heap.size = w.heap.size := by
  obtain ⟨j0, hj0, hy0, hy1, hy2⟩ := info_parts pixInfo
  obtain ⟨cur, hc1, hc2⟩ := hg
  obtain ⟨a, c, rfl, hcs⟩ := hv
  rw [hl]
  by_cases h0 : K = 0
  · subst h0
    refine ⟨w, ?_, ⟨rfl, rfl, rfl, Nat.le_refl _, fun _ _ _ => rfl⟩, rfl⟩
    cases a with
    | none => simp [Builtin.copy_, run_underlying (P := Tryz.prog) Tryz.underlying39, Builtin.lenOf, Builtin.firstCells, sizeOf, typeInfo, hj0, storeCells]
    | some ad => simp [Builtin.copy_, run_underlying (P := Tryz.prog) Tryz.underlying39, Builtin.lenOf, Builtin.firstCells, sizeOf, typeInfo, hj0, storeCells, loadCells, loadCellsFrom]
  · obtain ⟨_, b, off, rfl, hcells⟩ := hcs (by omega)
    have hpl : (pixCells l).length = K * 4 := by rw [pixCells_len, hl]
    have hsrc : ∀ j u, (pixCells l)[j]? = some u → w.cell? ((⟨b, off, none⟩ : Addr).add j) = some u := fun j u hu => by
      rw [addr_off]
      have hj : j < l.length * 4 := by
        have := (List.getElem?_eq_some_iff.1 hu).1
        rw [pixCells_len] at this
        exact this
      obtain ⟨q, r, hq, hr⟩ : ∃ q r, j = q * 4 + r ∧ r < 4 := ⟨j / 4, j % 4, by omega, by omega⟩
      subst hq
      have hql : q < l.length := by omega
      obtain ⟨p0, p1, p2, p3⟩ := pixCells_at l q hql
      obtain ⟨k0, k1, k2, k3⟩ := hcells q hql
      match r, hr with
      | 0, _ =>
        rw [Nat.add_zero] at hu ⊢
        rw [p0] at hu
        rw [k0, hu]
      | 1, _ =>
        rw [p1] at hu
        rw [← Nat.add_assoc, k1, hu]
      | 2, _ =>
        rw [p2] at hu
        rw [← Nat.add_assoc, k2, hu]
      | 3, _ =>
        rw [p3] at hu
        rw [← Nat.add_assoc, k3, hu]
    have hf := run_firstCells_some (P := Tryz.prog) w 4 K ⟨b, off, none⟩ K c (pixCells l) hpl hsrc
    have hst := run_storeCells_at Tryz.prog g 0 55 (pixCells l) 0 cur w hc1 (by rw [hpl]; omega) (fun u hu => by obtain ⟨x, rfl⟩ := pixCells_u8 l u hu; rfl)
    rw [Nat.add_zero] at hst
    obtain ⟨W', hW'⟩ : ∃ W', W' = w.setRow g (cur.toList.take 0 ++ pixCells l ++ cur.toList.drop (0 + (pixCells l).length)).toArray := ⟨_, rfl⟩
    rw [← hW'] at hst
    refine ⟨W', ?_, ?_, ?_⟩
    · simp [Builtin.copy_, run_underlying (P := Tryz.prog) Tryz.underlying39, Builtin.lenOf, sizeOf, typeInfo, hj0, hy1, hf, hst]
    · rw [hW']
      exact ⟨rfl, rfl, rfl, by simp, fun k _ hk => setRow_other w g k _ (fun e => hk (by rw [e]))⟩
    · rw [hW']
      simp

end Go.Proofs.YtlaflopimpnjpaaGreat

/-! PanY -/
namespace Go.Proofs.YtlaflopimpnjpaaGreat
open Go.RowKit
attribute [local go_sem ↓] Go.wp_at_zero Go.wp_at_succ

set_option maxRecDepth 100000 in
set_option maxHeartbeats 1000000 in
/-- grid.Of -/
theorem gridOf_any (a b : Int) (K : Nat) (hK : a * b = (K : Int)) (hK2 : K ≤ 576) (v : Value) (l : List R4) (hl : l.length = K) (w : World) (hv : PixAt w v l) :
    Calls Tryz.prog 115 #[.int .i64 a, .int .i64 b, v] w fun e w' => ∃ g, e = .returned (.agg #[.int .i64 a, .int .i64 b, .slice (some ⟨g, 0, none⟩) K K]) ∧ Below w.heap.size w w' := by
  have HN := hide (gridNew_any a b K hK hK2)
  have hb0 := fun o => al1 (Nat.le_refl w.heap.size) o
  have HV := hide hv
  have HB0 := hide hb0
  obtain ⟨va, vc, hvf, _⟩ := hv
  rw [hl] at hvf
  have HCp : Hid (∀ (w1 : World) (g : Nat), HasB w1 g 55 (K * 4) → w.heap.size + 1 ≤ g → Below (w.heap.size + 1) (w.alloc (.cells #[.int .i64 0, .int .i64 0, .slice none 0 0] 88)) w1 → w.heap.size + 1 ≤ w1.heap.size ∧
      ∃ w2, (Builtin.copy_ #[39, 39] 3 #[.slice (some ⟨g, 0, none⟩) K K, .slice va K vc]).run Tryz.prog (w1.alloc (.cells #[.int .i64 a, .int .i64 b, .slice (some ⟨g, 0, none⟩) K K] 88)) = .ok (goInt K) w2 ∧ HasB w2 w.heap.size 88 3 ∧ Blk w2 w1.heap.size 88 #[.int .i64 a, .int .i64 b, .slice (some ⟨g, 0, none⟩) K K] ∧ Below w.heap.size w w2) := fun w1 g hg hge hb => by
    have hs1 := hb.size
    simp only [World.size_alloc] at hs1
    have hbw : Below w.heap.size w w1 := (hb0 _).trans (hb.mono (by omega))
    have hba := hbw.alloc (by omega) (.cells #[.int .i64 a, .int .i64 b, .slice (some ⟨g, 0, none⟩) K K] 88)
    have hgl := hg.lt
    obtain ⟨w2, h1, h2, h3⟩ := run_copy_pix (w1.alloc (.cells #[.int .i64 a, .int .i64 b, .slice (some ⟨g, 0, none⟩) K K] 88)) 3 g K v l (hg.alloc _) (HV.out.below hba) hl
    rw [hvf] at h1
    refine ⟨by omega, w2, h1, ?_, ?_, ⟨h2.os.trans hba.os, h2.tape.trans hba.tape, h2.output.trans hba.output, Nat.le_trans hba.size h2.size, fun k hk => by rw [h2.block k (by simp; omega) (fun e => by injection e with e; omega), hba.block k hk]⟩⟩
    · refine HasB.keep (HasB.alloc (HasB.keep (HasB.new w #[.int .i64 0, .int .i64 0, .slice none 0 0] 88) (hb.block _ (by omega))) _) (h2.block _ (by simp; omega) (fun e => by injection e with e; omega))
    · show w2.heap[w1.heap.size]? = _
      rw [h2.block w1.heap.size (by simp) (fun e => by injection e with e; omega)]
      exact heap_alloc_new w1 _
  subst hvf
  clear hb0 HV hl
  go_enter Tryz.func115, Tryz.ntmps115
  go_upto_region 2 with (go_at_call 36; refine (HN.out _).mono ?_; rintro e w1 ⟨g, rfl, hg, hge, hb⟩; simp only [World.size_alloc] at hge hb; obtain ⟨hs1, w2, hrun, k1, k2, k3⟩ := HCp.out w1 g hg hge hb; have HK := hide (And.intro k1 (And.intro k2 k3)); clear k1 k2 k3 hg hb hge)
  have x0 : w2.cell? ⟨w1.heap.size, 0, none⟩ = some (.int .i64 a) := by rw [HK.out.2.1.cell]; rfl
  have x1 : w2.cell? ⟨w1.heap.size, 1, none⟩ = some (.int .i64 b) := by rw [HK.out.2.1.cell]; rfl
  have x2 : w2.cell? ⟨w1.heap.size, 2, none⟩ = some (.slice (some ⟨g, 0, none⟩) K K) := by rw [HK.out.2.1.cell]; rfl
  obtain ⟨q0, p0⟩ := HK.out.1.cell 0 (by omega)
  obtain ⟨q1, p1⟩ := HK.out.1.cell 1 (by omega)
  obtain ⟨q2, p2⟩ := HK.out.1.cell 2 (by omega)
  have z0 := HK.out.1.free 0
  have z1 := HK.out.1.free 1
  have z2 := HK.out.1.free 2
  have HB5 : Hid (Below w.heap.size w (((w2.setCell ⟨w.heap.size, 0, none⟩ (.int .i64 a)).setCell ⟨w.heap.size, 1, none⟩ (.int .i64 b)).setCell ⟨w.heap.size, 2, none⟩ (.slice (some ⟨g, 0, none⟩) K K))) := ((HK.out.2.2.setCell (Nat.le_refl _) _).setCell (Nat.le_refl _) _).setCell (Nat.le_refl _) _
  go_wp2_with fail
  exact bodyPost_ret (v := .agg #[.int .i64 a, .int .i64 b, .slice (some ⟨g, 0, none⟩) K K]) (by simp [results, Tryz.results115, go_sem, p0, p1, p2]) rfl ⟨g, rfl, HB5.out⟩

set_option maxRecDepth 100000 in
set_option maxHeartbeats 1000000 in
/-- (*Surface).Attach -/
theorem sfAttach_any (g : Nat) (a b : Int) (pa : Option Addr) (pm pk : Nat) (F : Nat → Value) (w : World) (h : SrfB w g F) :
    Calls Tryz.prog 114 #[.pointer (some ⟨g, 0, none⟩), .agg #[.int .i64 a, .int .i64 b, .slice pa pm pk]] w fun e w' => e = .returned (.tuple #[]) ∧
      w' = (((w.setCell ⟨g, 13, none⟩ (.int .i64 a)).setCell ⟨g, 14, none⟩ (.int .i64 b)).setCell ⟨g, 15, none⟩ (.slice pa pm pk)).alloc (.cells #[.int .i64 a, .int .i64 b, .slice pa pm pk] 88) := by
  obtain ⟨cur, h1, h2, h3⟩ := h
  have hlt : g < w.heap.size := (Array.getElem?_eq_some_iff.1 h1).1
  have hc : ∀ j, j < 26 → w.cell? ⟨g, j, none⟩ = some (F j) := fun j hj => by
    rw [cell_of_row _ _ _ _ _ _ h1]
    exact h3 j hj
  have hf : ∀ j, w.frozen? ⟨g, j, none⟩ = false := fun j => by simp [World.frozen?, h1]
  have c13 := hc 13 (by omega)
  have c14 := hc 14 (by omega)
  have c15 := hc 15 (by omega)
  have f13 := hf 13
  have f14 := hf 14
  have f15 := hf 15
  have hgn : ¬ g = w.heap.size := by omega
  clear hc hf h1 h2 h3
  go_enter Tryz.func114, Tryz.ntmps114
  go_wp2_with fail
  exact bodyPost_end (v := .tuple #[]) (by simp [results, Tryz.results114]) rfl ⟨rfl, rfl⟩

set_option maxRecDepth 100000 in
set_option maxHeartbeats 1000000 in
/-- (*Screen).Attach -/
theorem paAttach_any {S : Nat → Prop} {x : Nat} {st : St} (hw : Wf st) (id a b : Int) (l : List R4) (v : Value) (w : World) (h : PaneOk w S x st) (hv : PixAt w v l) (hlen : l.length ≤ maxLen) :
    Calls Tryz.prog 74 #[.pointer (some ⟨x, 0, none⟩), .int .i64 id, .int .i64 a, .int .i64 b, v] w (PPost S x (opAttach st id a b l.length (l.all fitP)) w) := by
  have hB := isB_iff hw id
  have HE := hide (fun (er : Int) (W : World) (hW : Below w.heap.size w W) => PPost.same (er := er) h hW)
  have HAM := hide (allMayBe_any l v w hv hlen)
  have HV := hide hv
  obtain ⟨va, vc, hvf, _⟩ := hv
  obtain ⟨bv, sc, mp, blk, G, h⟩ := h
  obtain ⟨x0, x1, xl⟩ := h.scrCells
  unfold opAttach
  obtain ⟨t, ht⟩ : ∃ t, st.isB id = t := ⟨_, rfl⟩
  rw [ht] at hB ⊢
  have hlen2 := hlen
  unfold maxLen at hlen2
  cases t with
  | false =>
    rw [if_neg (by simp)]
    have HS := hide (scSurface_no h id (isB_no hw ht))
    clear hB h hvf
    go_enter Tryz.func74, Tryz.ntmps74
    go_wp2_with (go_at_call 52; refine HS.out.mono ?_; rintro e w' ⟨rfl, hw'⟩; replace hw' := hw'.symm; subst hw')
    go_ret
    exact HE.out 6 _ (Below.refl _ _)
  | true =>
    rw [if_pos rfl]
    obtain ⟨i, rfl, hio⟩ := hB.1 rfl
    have hil := hw.lt hio
    rw [Int.toNat_natCast]
    have HS := hide (scSurface_ok h i hio)
    by_cases hab : 0 ≤ a ∧ a ≤ 24 ∧ 0 ≤ b ∧ b ≤ 24
    · rw [if_pos hab]
      obtain ⟨n, hn⟩ : ∃ n, l.length = n := ⟨_, rfl⟩
      have hb0 : 0 ≤ a * b := Int.mul_nonneg hab.1 hab.2.2.1
      have hb1 : a * b ≤ 576 := by
        have h1 : a * b ≤ 24 * b := Int.mul_le_mul_of_nonneg_right hab.2.1 hab.2.2.1
        omega
      obtain ⟨ok, hok⟩ : ∃ ok, l.all fitP = ok := ⟨_, rfl⟩
      have HOk : Hid (∀ W : World, Below w.heap.size w W → ∀ g : Nat, PPost S x (0, upd st i (sfBuf a b)) w (.returned (.int .i64 0)) ((((W.setCell ⟨blk i, 13, none⟩ (.int .i64 a)).setCell ⟨blk i, 14, none⟩ (.int .i64 b)).setCell ⟨blk i, 15, none⟩ (.slice (some ⟨g, 0, none⟩) n n)).alloc (.cells #[.int .i64 a, .int .i64 b, .slice (some ⟨g, 0, none⟩) n n] 88))) := fun W hW g => by
        have h := h.below hW
        have hs : SrfB W (blk i) (G i) := h.srf i (live_nat hio)
        have q := (h.cells i (live_nat hio)).nat
        have q2 := q.next
        have ho := h.own.2.2.2 i (live_nat hio)
        refine PPost.then (PPost.after hW ⟨rfl, PaneOk.mono ⟨bv, sc, mp, blk, _, h.upd (gf := sfBuf a b) hio hil (fun _ => rfl) (fun g hg hne => ?_) (((hs.set 13 _).set 14 _).set 15 _) rfl (NCells.upd hil ⟨q.num, q.par, ⟨q.now.w, q.now.h, q.now.pix, q.now.x, q.now.y, q.now.c0, q.now.c1, q.now.c2, q.now.c3, q.now.cut⟩, ⟨rfl, rfl, ⟨_, _, _, rfl⟩, q2.x, q2.y, q2.c0, q2.c1, q2.c2, q2.c3, q2.cut⟩, q.stk⟩)⟩ (fun _ h => grow_self h), (((Only.refl S W).set (.inl ho) _).set (.inl ho) _).set (.inl ho) _⟩) (al1 (Nat.le_refl _) _)
        rw [setOther 15 _ g (by simpa using hg) hne, setOther 14 _ g (by simpa using hg) hne, setOther 13 _ g hg hne]
      have HAt : Hid (∀ W : World, Below w.heap.size w W → ∀ g : Nat, Calls Tryz.prog 114 #[.pointer (some ⟨blk i, 0, none⟩), .agg #[.int .i64 a, .int .i64 b, .slice (some ⟨g, 0, none⟩) n n]] W fun e w' => e = .returned (.tuple #[]) ∧ PPost S x (0, upd st i (sfBuf a b)) w (.returned (.int .i64 0)) w') := fun W hW g => (sfAttach_any (blk i) a b (some ⟨g, 0, none⟩) n n (G i) W ((h.below hW).srf i (live_nat hio))).mono fun e w' ⟨h1, h2⟩ => ⟨h1, by rw [h2]; exact HOk.out W hW g⟩
      have HOf : Hid ((n : Int) = a * b → ∀ W : World, Below w.heap.size w W → Calls Tryz.prog 115 #[.int .i64 a, .int .i64 b, v] W fun e w' => ∃ g : Nat, e = .returned (.agg #[.int .i64 a, .int .i64 b, .slice (some ⟨g, 0, none⟩) n n]) ∧ Below w.heap.size w w') := fun he W hW => (gridOf_any a b n he.symm (by omega) v l hn W (HV.out.below hW)).mono fun e w' ⟨g, h1, h2⟩ => ⟨g, h1, hW.trans (h2.mono hW.size)⟩
      rw [hok] at HAM ⊢
      rw [hn] at hvf hlen2 ⊢
      obtain ⟨g, hg⟩ : ∃ g, blk i = g := ⟨_, rfl⟩
      rw [hg] at HS HAt
      clear HOk h hB hg HV hok hn
      obtain ⟨ha1, ha2, hb1', hb2'⟩ := hab
      obtain ⟨P, hP⟩ : ∃ P, a * b = P := ⟨_, rfl⟩
      rw [hP] at hb0 hb1 HOf ⊢
      by_cases hnp : (n : Int) = P
      · have HOf2 := hide (HOf.out hnp)
        have hnp2 : ((n : Int) == P) = true := by simpa using hnp
        have hnp3 : ((n : Int) != P) = false := by simpa using hnp
        clear HOf
        subst hvf
        cases ok with
        | true =>
          rw [if_pos ⟨hnp, rfl⟩]
          go_enter Tryz.func74, Tryz.ntmps74
          go_wp2_with (first
            | (go_at_call 52; refine HS.out.mono ?_; rintro e w' ⟨rfl, hw'⟩; replace hw' := hw'.symm; subst hw')
            | (go_at_call 113; refine HAM.out.mono ?_; rintro e w1 ⟨rfl, hb⟩; have HB := hide hb; clear hb)
            | (go_at_call 115; refine (HOf2.out _ HB.out).mono ?_; rintro e w2 ⟨gg, rfl, hb⟩; have HB2 := hide hb; clear hb)
            | (go_at_call 114; refine (HAt.out _ HB2.out _).mono ?_; rintro e w3 ⟨rfl, hb⟩; have HB3 := hide hb; clear hb)
            | go_in)
          go_ret
          exact HB3.out
        | false =>
          rw [if_neg (fun h => by cases h.2)]
          go_enter Tryz.func74, Tryz.ntmps74
          go_wp2_with (first
            | (go_at_call 52; refine HS.out.mono ?_; rintro e w' ⟨rfl, hw'⟩; replace hw' := hw'.symm; subst hw')
            | (go_at_call 113; refine HAM.out.mono ?_; rintro e w1 ⟨rfl, hb⟩; have HB := hide hb; clear hb)
            | go_in)
          go_ret
          exact HE.out 4 _ HB.out
      · rw [if_neg (fun h => hnp h.1)]
        have hnp3 : ((n : Int) != P) = true := by simpa using hnp
        clear HOf HAt HAM
        subst hvf
        go_enter Tryz.func74, Tryz.ntmps74
        go_wp2_with (first
          | (go_at_call 52; refine HS.out.mono ?_; rintro e w' ⟨rfl, hw'⟩; replace hw' := hw'.symm; subst hw')
          | go_in)
        go_ret
        exact HE.out 4 _ (Below.refl _ _)
    · rw [if_neg hab]
      have hcases : a < 0 ∨ (0 ≤ a ∧ 24 < a) ∨ (0 ≤ a ∧ a ≤ 24 ∧ b < 0) ∨ (0 ≤ a ∧ a ≤ 24 ∧ 0 ≤ b ∧ 24 < b) := by omega
      clear hab h hB hvf HAM HV
      rcases hcases with h1 | ⟨h1, h2⟩ | ⟨h1, h2, h3⟩ | ⟨h1, h2, h3, h4⟩
      all_goals
        try have hd : decide (b ≤ 24) = false := decide_eq_false (by omega)
        go_enter Tryz.func74, Tryz.ntmps74
        go_wp2_with (first
          | (go_at_call 52; refine HS.out.mono ?_; rintro e w' ⟨rfl, hw'⟩; replace hw' := hw'.symm; subst hw')
          | go_in)
        try go_ret
        exact HE.out 5 _ (Below.refl _ _)

end Go.Proofs.YtlaflopimpnjpaaGreat
