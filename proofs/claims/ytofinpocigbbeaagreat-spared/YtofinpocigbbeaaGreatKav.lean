import Derived.Test.YtofinpocigbbeaaGreatKau
import Derived.Deep.RegionLaw
namespace Go.Proofs.YtofinpocigbbeaaGreat
open Go.RowKit
attribute [local go_sem ↓] Go.wp_at_zero Go.wp_at_succ

theorem regionInfo : (Tryz.prog.info? 136).map (fun i => (i.zero, i.size, i.bytes)) = some (some (.agg #[.slice none 0 0]), 1, 24) := by kernel_rfl
theorem bufferInfo : (Tryz.prog.info? 148).map (fun i => (i.zero, i.size, i.bytes)) = some (some (.agg #[.int .i64 0, .int .i64 0, .slice none 0 0, .int .i64 0]), 4, 48) := by kernel_rfl

set_option maxRecDepth 100000 in
set_option maxHeartbeats 1000000 in
/-- ring.New -/
theorem ringNew_any (w : World) :
    Calls Tryz.prog 97 #[.int .i64 4] w fun e w' => ∃ rg, e = .returned (.agg #[.slice (some ⟨rg, 0, none⟩) 4 4, .int .i64 0]) ∧ w.heap.size ≤ rg ∧ Blk w' rg 136 #[.slice none 0 0, .slice none 0 0, .slice none 0 0, .slice none 0 0] ∧ Below w.heap.size w w' := by
  obtain ⟨j0, hj0, hy0, hy1, hy2⟩ := info_parts regionInfo
  have hmk2 : ∀ w : World, (Instr.makeSlice 141 (.int .i64 4) (.int .i64 4)).run Tryz.prog w = .ok (.slice (some ⟨w.heap.size, 0, none⟩) 4 4) (w.alloc (.cells #[.slice none 0 0, .slice none 0 0, .slice none 0 0, .slice none 0 0] 136)) := fun w => by
    have h9 := run_make (P := Tryz.prog) w 141 136 j0 _ Tryz.underlying141 hj0 hy0 .i64 .i64 4 4 (by omega) (Int.le_refl _) (by rw [hy2]; omega) (by omega)
    rw [hy1] at h9
    have e : madeCells (Value.agg #[.slice none 0 0]).cells (Int.toNat 4 * 1) = #[.slice none 0 0, .slice none 0 0, .slice none 0 0, .slice none 0 0] := by first | kernel_rfl | (apply Array.ext'; simp [madeCells, Value.cells, List.range_succ])
    rw [e] at h9
    exact h9
  go_enter Tryz.func97, Tryz.ntmps97
  go_wp2_with fail
  refine bodyPost_ret (v := .agg #[.slice (some ⟨w.heap.size + 1, 0, none⟩) 4 4, .int .i64 0]) (by simp [results, Tryz.results97, go_sem]) rfl ⟨w.heap.size + 1, rfl, by omega, ?_, Joins.below_alloc2 w _ _⟩
  have q := heap_alloc_new (w.alloc (.cells #[.slice (some ⟨w.heap.size + 1, 0, none⟩) 4 4, .int .i64 0] 143)) (.cells #[.slice none 0 0, .slice none 0 0, .slice none 0 0, .slice none 0 0] 136)
  rw [show (w.alloc (.cells #[.slice (some ⟨w.heap.size + 1, 0, none⟩) 4 4, .int .i64 0] 143)).heap.size = w.heap.size + 1 by simp] at q
  exact q

def zeroB (g : Nat) : Buf := ⟨g, 0, fun _ => (0, 0, 0, 0)⟩

/-- A canvas that is being made. -/
structure NewC (w wr : World) (c rg W H k : Nat) (bv : Value) (L : List Nat) : Prop where
  bel : Below w.heap.size w wr
  cb : w.heap.size ≤ c
  rb : w.heap.size ≤ rg
  blk : Blk wr c 145 #[.int .i64 0, .int .i64 0, .int .i64 W, .int .i64 H, bv, .slice (some ⟨rg, 0, none⟩) 4 4, .int .i64 0]
  row : wr.ownsRow (c + 1) 148 4 bv k (L.flatMap fun g => bufC W H (zeroB g))
  ring : Blk wr rg 136 #[.slice none 0 0, .slice none 0 0, .slice none 0 0, .slice none 0 0]
  len : L.length = k
  pix : ∀ g ∈ L, c < g ∧ PixF wr g (W * H) (fun _ => (0, 0, 0, 0))
  apart : ∀ (i j a : Nat), L[i]? = some a → L[j]? = some a → i = j

theorem NewC.step {w wr w5 w6 : World} {c rg W H k gg cp g : Nat} {bv : Value} {L : List Nat} (h : NewC w wr c rg W H k bv L) (h5 : Below wr.heap.size wr w5) (hg : w5.grownBy w6 bv.ownBlock) (hp : PixF w5 g (W * H) (fun _ => (0, 0, 0, 0))) (hgn : wr.heap.size ≤ g)
    (ho : w6.ownsRow (c + 1) 148 4 (.slice (some ⟨gg, 0, none⟩) (k + 1) cp) (k + 1) ((L.flatMap fun g => bufC W H (zeroB g)) ++ bufC W H (zeroB g))) :
    NewC w (w6.setCell ⟨c, 4, none⟩ (.slice (some ⟨gg, 0, none⟩) (k + 1) cp)) c rg W H (k + 1) (.slice (some ⟨gg, 0, none⟩) (k + 1) cp) (L ++ [g]) := by
  have hcl := block_lt h.blk
  have hrl := block_lt h.ring
  have hs5 := h5.size
  have hown : ∀ b, bv.ownBlock = some b → c + 1 ≤ b ∧ ∃ cur, wr.heap[b]? = some (.cells cur 148 (0, 0)) := fun b hb => ⟨(h.row.lt b hb).1, own_type h.row hb⟩
  -- what is not the row's old block stays
  have hst : ∀ b, b < w5.heap.size → bv.ownBlock ≠ some b → b ≠ c → (w6.setCell ⟨c, 4, none⟩ (.slice (some ⟨gg, 0, none⟩) (k + 1) cp)).heap[b]? = w5.heap[b]? := fun b hb hn hc => by
    rw [heap_setCell_other _ _ b _ hc, hg.block b hb fun e => hn e.symm]
  have hc6 : w6.heap[c]? = wr.heap[c]? := by
    rw [hg.block c (by omega) fun e => by have := (hown c e.symm).1; omega, h5.block c hcl]
  have hgb : ∀ b, b ∈ L ++ [g] → c < b ∧ PixF w5 b (W * H) (fun _ => (0, 0, 0, 0)) := fun b hb => by
    rcases List.mem_append.1 hb with hb | hb
    · exact ⟨(h.pix b hb).1, (h.pix b hb).2.keep (h5.block b (h.pix b hb).2.has.lt)⟩
    · simp at hb
      subst hb
      exact ⟨by omega, hp⟩
  refine ⟨?_, h.cb, h.rb, ?_, ?_, ?_, by simp [h.len], fun b hb => ⟨(hgb b hb).1, (hgb b hb).2.keep (hst b (hgb b hb).2.has.lt (fun e => ?_) (by have := (hgb b hb).1; omega))⟩, fun i j a hi hj => ?_⟩
  · refine Below.setCell ?_ h.cb _
    exact (h.bel.trans (h5.mono h.bel.size)).grown hg (Nat.le_trans h.bel.size hs5) fun b hb => by have := (hown b hb).1; have := h.cb; omega
  · have q : Blk w6 c 145 _ := hc6.trans h.blk
    exact q.set 4 _
  · refine own_keep ?_ fun b hb => heap_setCell_other _ _ b _ ?_
    · rw [List.flatMap_append]
      simpa using ho
    · have := (ho.lt b hb).1
      show b ≠ c
      omega
  · refine h.ring.keep ?_
    rw [hst rg (by omega) (fun e => ?_) (fun e => ?_), h5.block rg hrl]
    · obtain ⟨cur, q⟩ := (hown rg e).2
      have := h.ring.symm.trans q
      simp at this
    · have q := h.ring
      rw [e] at q
      have := q.symm.trans h.blk
      simp at this
  · obtain ⟨cur, q⟩ := (hown b e).2
    obtain ⟨cur2, q2, _⟩ := (hgb b hb).2
    rw [h5.block b (block_lt q)] at q2
    have := q.symm.trans q2
    simp at this
  · have key : ∀ (i : Nat), (L ++ [g])[i]? = some a → (i < L.length ∧ L[i]? = some a ∧ a < wr.heap.size) ∨ (i = L.length ∧ a = g) := fun i hi => by
      by_cases e : i < L.length
      · rw [List.getElem?_append_left e] at hi
        exact .inl ⟨e, hi, (h.pix a (List.mem_of_getElem? hi)).2.has.lt⟩
      · rw [List.getElem?_append_right (by omega)] at hi
        right
        have : i - L.length = 0 := by
          by_cases e2 : i - L.length = 0
          · exact e2
          · rw [List.getElem?_eq_none (by simp; omega)] at hi
            cases hi
        rw [this] at hi
        simp at hi
        exact ⟨by omega, hi.symm⟩
    rcases key i hi with ⟨a1, a2, a3⟩ | ⟨a1, a2⟩
    · rcases key j hj with ⟨b1, b2, b3⟩ | ⟨b1, b2⟩
      · exact h.apart i j a a2 b2
      · omega
    · rcases key j hj with ⟨b1, b2, b3⟩ | ⟨b1, b2⟩
      · omega
      · omega

/-- A canvas as it is made. -/
def Cv.new (W H : Nat) (L : List Nat) : Cv := ⟨W, H, L.map zeroB, [[], [], [], []], 0, 0⟩

theorem Cv.new_ok {w wr : World} {c rg W H k : Nat} {bv : Value} {L : List Nat} (h : NewC w wr c rg W H k bv L) (hW : 1 ≤ W ∧ W ≤ 24) (hH : 1 ≤ H ∧ H ≤ 24) (hk : 1 ≤ k ∧ k ≤ 3) : CvOk (Cv.new W H L) := by
  refine ⟨hW, hH, by simp [Cv.new, h.len]; exact hk, by simp [Cv.new], rfl, fun R hR => ?_, fun b hb => ?_, fun R hR x y hm => ?_, fun i j a b hi hj hg => ?_⟩
  · simp [Cv.new] at hR
    subst hR
    exact good_nil
  · simp [Cv.new] at hb
    obtain ⟨g, _, rfl⟩ := hb
    exact Nat.le_refl _
  · simp [Cv.new] at hR
    subst hR
    simp [memR] at hm
  · simp only [Cv.new, List.getElem?_map, Option.map_eq_some_iff] at hi hj
    obtain ⟨g1, hi, rfl⟩ := hi
    obtain ⟨g2, hj, rfl⟩ := hj
    have : g1 = g2 := hg
    subst this
    exact h.apart i j g1 hi hj

theorem NewC.mem {w wr : World} {c rg W H k : Nat} {bv : Value} {L : List Nat} (h : NewC w wr c rg W H k bv L) : CvMem wr (fun g => w.heap.size ≤ g ∧ g < wr.heap.size) c (Cv.new W H L) bv rg #[.slice none 0 0, .slice none 0 0, .slice none 0 0, .slice none 0 0] := by
  refine ⟨h.blk, ⟨h.cb, block_lt h.blk⟩, ⟨?_, fun g hg => ⟨by have := (h.row.lt g hg).1; have := h.cb; omega, (h.row.lt g hg).2⟩⟩, h.ring, ⟨h.rb, block_lt h.ring⟩, rfl, fun i R hi => ?_, fun b hb => ?_⟩
  · have q := h.row
    have e : (Cv.new W H L).bufs.flatMap (bufC W H) = L.flatMap fun g => bufC W H (zeroB g) := by simp [Cv.new, List.flatMap_map]
    have e2 : (Cv.new W H L).bufs.length = k := by simp [Cv.new, h.len]
    show World.ownsRow wr 0 _ 4 bv (Cv.new W H L).bufs.length ((Cv.new W H L).bufs.flatMap (bufC W H))
    rw [e, e2]
    exact ⟨q.1, q.2.imp id fun ⟨g, cap, cur, a1, a2, a3⟩ => ⟨g, cap, cur, a1, Nat.zero_le _, a3⟩⟩
  · have hi4 : i < 4 := (List.getElem?_eq_some_iff.1 hi).1
    have hR : R = [] := by
      have := List.mem_of_getElem? hi
      simpa [Cv.new] using this
    subst hR
    exact ⟨.slice none 0 0, by match i, hi4 with | 0, _ | 1, _ | 2, _ | 3, _ => rfl, RegS.nil _ _⟩
  · simp [Cv.new] at hb
    obtain ⟨g, hg, rfl⟩ := hb
    exact ⟨⟨by have := (h.pix g hg).1; have := h.cb; show w.heap.size ≤ g; omega, (h.pix g hg).2.has.lt⟩, (h.pix g hg).2⟩

set_option maxRecDepth 100000 in
set_option maxHeartbeats 1000000 in
/-- canvas.New -/
theorem cvNew_any (W H N : Nat) (w : World) (hW : 1 ≤ W ∧ W ≤ 24) (hH : 1 ≤ H ∧ H ≤ 24) (hN : 1 ≤ N ∧ N ≤ 3) :
    Calls Tryz.prog 54 #[.int .i64 W, .int .i64 H, .int .i64 N] w fun e w' => ∃ c rg bv L, e = .returned (.pointer (some ⟨c, 0, none⟩)) ∧ NewC w w' c rg W H N bv L := by
  obtain ⟨i0, hi0, hz0, hz1, hz2⟩ := info_parts bufferInfo
  obtain ⟨hW0, hW1⟩ := hW
  obtain ⟨hH0, hH1⟩ := hH
  obtain ⟨hn0, hn1⟩ := hN
  obtain ⟨K, hK⟩ : ∃ K : Nat, W * H = K := ⟨_, rfl⟩
  have hK2 : K ≤ 576 := by rw [← hK]; exact Nat.le_trans (Nat.mul_le_mul hW1 hH1) (by omega)
  have hKi : (W : Int) * (H : Int) = (K : Int) := by rw [← hK]; simp
  have HG := hide (gridNew_pix W H K hKi hK2)
  have HR := hide (ringNew_any w)
  have HKe := hide hK
  clear hKi hK
  go_enter Tryz.func54, Tryz.ntmps54
  go_wp2_with (go_at_call 97; refine HR.out.mono ?_; rintro e w1 ⟨rg, rfl, r1, r2, r3⟩; have H1 := hide (And.intro r1 (And.intro r2 r3)); clear r1 r2 r3)
  have H0 : Hid (NewC w (w1.alloc (.cells #[.int .i64 0, .int .i64 0, .int .i64 W, .int .i64 H, .slice none 0 0, .slice (some ⟨rg, 0, none⟩) 4 4, .int .i64 0] 145)) w1.heap.size rg W H 0 (.slice none 0 0) []) := by
    obtain ⟨r1, r2, r3⟩ := H1.out
    exact ⟨r3.alloc r3.size _, r3.size, r1, heap_alloc_new w1 _, World.ownsRow_nil _ _ _ _, r2.alloc _, rfl, fun g hg => (by cases hg), fun i j a hi => (by simp at hi)⟩
  clear H1 HR
  go_loopg [15] N (fun gg s15 wr => ∃ (k : Nat) (bv : Value) (L : List Nat), s15 = .int .i64 (k : Int) ∧ gg + k = N ∧ Hid (NewC w wr w1.heap.size rg W H k bv L))
  case atStart => exact ⟨0, .slice none 0 0, [], rfl, by omega, H0.out⟩
  case round =>
    rename World => wr
    obtain ⟨k, bv, L, rfl, hgk, HM⟩ := hrel
    cases gk with
    | zero =>
      have hlt : ¬ (k : Int) < (N : Int) := by omega
      have hkN : k = N := by omega
      subst hkN
      go_wp2_with fail
      go_ret
      exact ⟨_, rfl, rg, bv, L, HM.out⟩
    | succ gk =>
      have hlt : (k : Int) < (N : Int) := by omega
      obtain ⟨ba, bc, hbf⟩ := row_form HM.out.row
      subst hbf
      have c1 : wr.cell? ⟨w1.heap.size, 4, none⟩ = some (.slice ba k bc) := HM.out.blk.cell 4
      have hxl : w1.heap.size < wr.heap.size := HM.out.blk.has.lt
      have HX : Hid (∀ wx : World, Below wr.heap.size wr wx → wx.cell? ⟨w1.heap.size, 4, none⟩ = some (.slice ba k bc) ∧ wx.ownsRow (w1.heap.size + 1) 148 4 (.slice ba k bc) k (L.flatMap fun g => bufC W H (zeroB g)) ∧ w1.heap.size + 1 ≤ wx.heap.size) := fun wx hx => ⟨(hx.cell (p := ⟨w1.heap.size, 4, none⟩) hxl).trans c1, own_keep HM.out.row fun b hb => hx.block b (HM.out.row.lt b hb).2, by have := hx.size; omega⟩
      have HY : Hid (∀ (w5 w6 : World) (gg cp g : Nat), Below wr.heap.size wr w5 → w5.grownBy w6 (Value.slice ba k bc).ownBlock → PixF w5 g K (fun _ => (0, 0, 0, 0)) → wr.heap.size ≤ g → w6.ownsRow (w1.heap.size + 1) 148 4 (.slice (some ⟨gg, 0, none⟩) (k + 1) cp) (k + 1) ((L.flatMap fun g => bufC W H (zeroB g)) ++ [.int .i64 W, .int .i64 H, .slice (some ⟨g, 0, none⟩) K K, .int .i64 0]) → w6.cell? ⟨w1.heap.size, 4, none⟩ = some (.slice ba k bc) ∧ w6.frozen? ⟨w1.heap.size, 4, none⟩ = false ∧ Hid (NewC w (w6.setCell ⟨w1.heap.size, 4, none⟩ (.slice (some ⟨gg, 0, none⟩) (k + 1) cp)) w1.heap.size rg W H (k + 1) (.slice (some ⟨gg, 0, none⟩) (k + 1) cp) (L ++ [g]))) := fun w5 w6 gg cp g h5 hg hp hgn ho => by
        have hb : w6.heap[w1.heap.size]? = wr.heap[w1.heap.size]? := by
          rw [hg.block _ (Nat.lt_of_lt_of_le hxl h5.size) (fun e => by have := (HM.out.row.lt _ e.symm).1; omega), h5.block _ hxl]
        refine ⟨?_, ?_, HM.out.step h5 hg (by rw [HKe.out]; exact hp) hgn ?_⟩
        · rw [World.cell?_of_block (w := wr) (a := ⟨w1.heap.size, 4, none⟩) hb]
          exact c1
        · rw [World.frozen?_of_block (w := wr) (a := ⟨w1.heap.size, 4, none⟩) hb]
          exact HM.out.blk.has.free 4
        · have e : bufC W H (zeroB g) = [.int .i64 W, .int .i64 H, .slice (some ⟨g, 0, none⟩) K K, .int .i64 0] := by
            unfold bufC zeroB
            rw [HKe.out]
            rfl
          rw [e]
          exact ho
      have hk2 : k ≤ 3 := by omega
      go_upto_region 4 with fail
      go_region_law (first
          | (refine step_append_lies _ (by rfl) (.tmp 21) (.tmp 26) 140 (by rfl) (w1.heap.size + 1) 148 i0 _ 4 48 Tryz.underlying140 hi0 hz0 hz1 hz2 rfl (by omega) (.slice ba k bc) k (L.flatMap fun g => bufC W H (zeroB g)) (by rfl) (HX.out _ (HB1.out.alloc HB1.out.size _)).2.1 ⟨w2.heap.size, 0, none⟩ 1 1 [.int .i64 W, .int .i64 H, .slice (some ⟨g, 0, none⟩) K K, .int .i64 0] (by rfl) (by rfl) (World.news_of_block (cs := #[.int .i64 W, .int .i64 H, .slice (some ⟨g, 0, none⟩) K K, .int .i64 0]) (t := 148) (fr := (0, 0)) (heap_alloc_new w2 _)) (by simp [Value.oneCell']) (by omega) (by unfold maxLen; omega) (by omega) (HX.out _ (HB1.out.alloc HB1.out.size _)).2.2 _ rfl ?_; intro ga cp w6 hown6 hgrow _ _; obtain ⟨c6, f6, HN6⟩ := HY.out _ w6 ga cp g (HB1.out.alloc HB1.out.size _) hgrow (HP1.out.1.keep (heap_old w2 _ g HP1.out.1.has.lt)) HP1.out.2 hown6; clear hown6 hgrow)
          | (go_simp; go_wp2_with (go_at_call 98; refine (HG.out _).mono ?_; rintro e w2 ⟨g, rfl, hg, hge, hb⟩; have HB1 := hide (((Below.refl wr.heap.size wr).drew).trans hb); have HP1 := hide (And.intro hg hge); have cx := (HX.out w2 HB1.out).1; have hxl1 := Nat.lt_of_lt_of_le hxl HB1.out.size; have hxn1 := Nat.ne_of_lt hxl1; clear hg hge hb)))
      all_goals
        go_wp2_with fail
        go_roundg gk
        case measure => omega
        case rel => exact ⟨k + 1, _, _, by go_num, by omega, HN6⟩

end Go.Proofs.YtofinpocigbbeaaGreat

namespace Go.Proofs.YtofinpocigbbeaaGreat
open Go.RowKit
attribute [local go_sem ↓] Go.wp_at_zero Go.wp_at_succ

set_option maxRecDepth 100000 in
set_option maxHeartbeats 1000000 in
/-- Grid.At -/
theorem gridAt_any (W H n g x y K : Nat) (hW : W ≤ 24) (hy : y < 24) (hK : y * W + x = K) (hKn : K < n) (hn : n ≤ 576) (f : Nat → R4) (w : World) (h : PixF w g n f) :
    Calls Tryz.prog 162 #[.agg #[.int .i64 W, .int .i64 H, .slice (some ⟨g, 0, none⟩) n n], .int .i64 x, .int .i64 y] w fun e w' => e = .returned (.agg (pixC (f K))) ∧ Below w.heap.size w w' := by
  have hl := h.has.lt
  obtain ⟨cur, h1, h2, h3⟩ := h
  obtain ⟨q0, q1, q2, q3⟩ := h3 K hKn
  have c0 : w.cell? ⟨g, K * 4, none⟩ = some (.int .u8 (f K).1) := (cell_of_row w g (K * 4) cur _ _ h1).trans q0
  have c1 : w.cell? ⟨g, K * 4 + 1, none⟩ = some (.int .u8 (f K).2.1) := (cell_of_row w g (K * 4 + 1) cur _ _ h1).trans q1
  have c2 : w.cell? ⟨g, K * 4 + 2, none⟩ = some (.int .u8 (f K).2.2.1) := (cell_of_row w g (K * 4 + 2) cur _ _ h1).trans q2
  have c3 : w.cell? ⟨g, K * 4 + 3, none⟩ = some (.int .u8 (f K).2.2.2) := (cell_of_row w g (K * 4 + 3) cur _ _ h1).trans q3
  have e1 : (y : Int) * (W : Int) = ((y * W : Nat) : Int) := by simp
  obtain ⟨M, hM⟩ : ∃ M, y * W = M := ⟨_, rfl⟩
  have hMb : M ≤ 576 := by rw [← hM]; exact Nat.le_trans (Nat.mul_le_mul (show y ≤ 24 by omega) hW) (by omega)
  rw [hM] at e1 hK
  have e2 : (M : Int) + (x : Int) = (K : Int) := by omega
  have hKn' : (K : Int) < (n : Int) := by omega
  have hK0 : (0 : Int) ≤ (K : Int) := by omega
  unfold pixC
  generalize f K = P at c0 c1 c2 c3
  clear h1 h2 h3 q0 q1 q2 q3 hM hK
  go_enter Tryz.func162, Tryz.ntmps162
  go_wp2_with fail
  exact bodyPost_ret (v := .agg #[.int .u8 P.1, .int .u8 P.2.1, .int .u8 P.2.2.1, .int .u8 P.2.2.2]) (by simp [results, Tryz.results162, go_sem]) rfl ⟨rfl, Joins.below_alloc2 w _ _⟩

set_option maxRecDepth 100000 in
set_option maxHeartbeats 1000000 in
/-- region.Has -/
theorem rHas_any (r : R4) (x y : Int) (w : World) :
    Calls Tryz.prog 189 #[.agg #[.int .i64 r.1, .int .i64 r.2.1, .int .i64 r.2.2.1, .int .i64 r.2.2.2], .int .i64 x, .int .i64 y] w fun e w' => e = .returned (.bool (inR r x y)) ∧ Below w.heap.size w w' := by
  obtain ⟨a, b, c, d⟩ := r
  have hcases : ¬ a ≤ x ∨ (a ≤ x ∧ ¬ x < c) ∨ (a ≤ x ∧ x < c ∧ ¬ b ≤ y) ∨ (a ≤ x ∧ x < c ∧ b ≤ y ∧ ¬ y < d) ∨ (a ≤ x ∧ x < c ∧ b ≤ y ∧ y < d) := by omega
  have hv : ∀ z : Bool, (z = true ↔ (a ≤ x ∧ x < c ∧ b ≤ y ∧ y < d)) → inR (a, b, c, d) x y = z := fun z hz => by
    unfold inR
    rw [Bool.eq_iff_iff, hz]
    simp
  rcases hcases with h1 | ⟨h1, h2⟩ | ⟨h1, h2, h3⟩ | ⟨h1, h2, h3, h4⟩ | ⟨h1, h2, h3, h4⟩
  · rw [hv false (by simp; omega)]
    clear hv
    go_enter Tryz.func189, Tryz.ntmps189
    go_wp2_with fail
    go_ret
    exact ⟨rfl, Joins.below_alloc1 w _⟩
  · rw [hv false (by simp; omega)]
    clear hv
    go_enter Tryz.func189, Tryz.ntmps189
    go_wp2_with fail
    go_ret
    exact ⟨rfl, Joins.below_alloc1 w _⟩
  · rw [hv false (by simp; omega)]
    clear hv
    go_enter Tryz.func189, Tryz.ntmps189
    go_wp2_with fail
    go_ret
    exact ⟨rfl, Joins.below_alloc1 w _⟩
  · rw [hv false (by simp; omega)]
    clear hv
    go_enter Tryz.func189, Tryz.ntmps189
    go_wp2_with fail
    go_ret
    exact ⟨rfl, Joins.below_alloc1 w _⟩
  · rw [hv true (by simp; omega)]
    clear hv
    go_enter Tryz.func189, Tryz.ntmps189
    go_wp2_with fail
    go_ret
    exact ⟨rfl, Joins.below_alloc1 w _⟩

set_option maxRecDepth 100000 in
/-- pixel.Black -/
theorem black_any (w : World) :
    Calls Tryz.prog 168 #[] w fun e w' => e = .returned (.agg (pixC (0, 0, 0, 255))) ∧ Below w.heap.size w w' := by
  unfold pixC
  go_enter Tryz.func168, Tryz.ntmps168
  go_wp2_with fail
  exact bodyPost_ret (v := .agg #[.int .u8 0, .int .u8 0, .int .u8 0, .int .u8 255]) (by simp [results, Tryz.results168, go_sem]) rfl ⟨rfl, Joins.below_alloc1 w _⟩

def pts (r : R4) : Bool := decide (r.1 < r.2.2.1 ∧ r.2.1 < r.2.2.2)

def hull (p q : R4) : R4 := if pts p then (if pts q then (min p.1 q.1, min p.2.1 q.2.1, max p.2.2.1 q.2.2.1, max p.2.2.2 q.2.2.2) else p) else q

end Go.Proofs.YtofinpocigbbeaaGreat
