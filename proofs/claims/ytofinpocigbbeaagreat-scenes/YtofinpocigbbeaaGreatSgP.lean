import Derived.Test.YtofinpocigbbeaaGreatRows
import Derived.WalkKit
import Derived.WalkSpells
import Derived.WalkLawsBesides
import Derived.RegionTactic
import Derived.BigRegion
import Derived.Test.YtofinpocigbbeaaGreatFrm
import Derived.Test.YtofinpocigbbeaaGreatSceC
import Derived.Test.YtofinpocigbbeaaGreatOwnS
import Derived.Test.YtofinpocigbbeaaGreatSce
import Derived.Test.YtofinpocigbbeaaGreatRefW
/-! Pix -/
namespace Go.Proofs.YtofinpocigbbeaaGreat
open Go.RowKit

/-- May a pixel be? -/
def fitB (a b c d : Int) : Bool := decide (a ≤ d ∧ b ≤ d ∧ c ≤ d)

theorem ret_bool {a b : Bool} (h : a = b) : Ending.returned (.bool a) = .returned (.bool b) := by rw [h]

set_option maxHeartbeats 400000 in
theorem mayBe_any (a b c d : Int) (w : World) :
    Calls Tryz.prog 101 #[.agg #[.int .u8 a, .int .u8 b, .int .u8 c, .int .u8 d]] w fun e w' =>
      e = .returned (.bool (fitB a b c d)) ∧ w' = w.alloc (.cells #[.int .u8 a, .int .u8 b, .int .u8 c, .int .u8 d] 51) := by
  go_enter Tryz.func101, Tryz.ntmps101
  go_wp2
  all_goals
    go_ret
    refine ⟨ret_bool ?_, rfl⟩
    unfold fitB
    rw [decide_eq_decide]
    omega

set_option maxHeartbeats 400000 in
theorem fits_any (a b c d : Int) (w : World) :
    Calls Tryz.prog 177 #[.agg #[.int .u8 a, .int .u8 b, .int .u8 c, .int .u8 d]] w fun e w' =>
      e = .returned (.bool (fitB a b c d)) ∧ w' = w.alloc (.cells #[.int .u8 a, .int .u8 b, .int .u8 c, .int .u8 d] 51) := by
  go_enter Tryz.func177, Tryz.ntmps177
  go_wp2
  all_goals
    go_ret
    refine ⟨ret_bool ?_, rfl⟩
    unfold fitB
    rw [Bool.eq_iff_iff]
    try rw [decide_eq_true_eq]
    try rw [decide_eq_true_eq]
    simp only [Bool.false_eq_true, false_iff, *]
    try simp
    try omega

/-- One of the four of a pixel s over a pixel d: 'a' is the alpha of s. -/
def mix (s d a : Int) : Int := (s + (d * (255 - a) + 127) / 255) % 256

theorem mul_bd (e d : Int) (he : 0 ≤ e ∧ e ≤ 255) (hd : 0 ≤ d ∧ d ≤ 255) : 0 ≤ e * (255 - d) ∧ e * (255 - d) ≤ 65025 := by
  refine ⟨Int.mul_nonneg he.1 (by omega), ?_⟩
  have h1 : e * (255 - d) ≤ 255 * (255 - d) := Int.mul_le_mul_of_nonneg_right he.2 (by omega)
  omega

set_option maxHeartbeats 1000000 in
theorem over_any (a b c d e f g h : Int) (w : World) (hd : 0 ≤ d ∧ d ≤ 255) (he : 0 ≤ e ∧ e ≤ 255) (hf : 0 ≤ f ∧ f ≤ 255) (hg : 0 ≤ g ∧ g ≤ 255) (hh : 0 ≤ h ∧ h ≤ 255) :
    Calls Tryz.prog 171 #[.agg #[.int .u8 a, .int .u8 b, .int .u8 c, .int .u8 d], .agg #[.int .u8 e, .int .u8 f, .int .u8 g, .int .u8 h]] w fun x w' =>
      x = .returned (.agg #[.int .u8 (mix a e d), .int .u8 (mix b f d), .int .u8 (mix c g d), .int .u8 (mix d h d)]) ∧ Below w.heap.size w w' := by
  have m0 := mul_bd e d he hd
  have m1 := mul_bd f d hf hd
  have m2 := mul_bd g d hg hd
  have m3 := mul_bd h d hh hd
  go_enter Tryz.func171, Tryz.ntmps171
  go_wp2
  refine wp_loop_rounds 5 ?_
  rw [rounds_succ]
  go_wp2
  go_region
  go_wp2
  rw [rounds_succ]
  go_wp2
  go_region
  go_wp2
  rw [rounds_succ]
  go_wp2
  go_region
  go_wp2
  rw [rounds_succ]
  go_wp2
  go_region
  go_wp2
  rw [rounds_succ]
  go_wp2
  refine bodyPost_ret (v := .agg #[.int .u8 (mix a e d), .int .u8 (mix b f d), .int .u8 (mix c g d), .int .u8 (mix d h d)]) (by simp [results, Tryz.results171, go_sem, mix]) rfl ⟨rfl, ?_⟩
  repeat (first | exact Below.refl _ _ | refine Below.drew ?_ | refine Below.setCell ?_ (by simp) _ | refine Below.alloc ?_ (by simp <;> omega) _)

set_option maxHeartbeats 1000000 in
theorem laid_any (a b c d e f g h : Int) (w : World) (ha : 0 ≤ a ∧ a ≤ 255) (hb : 0 ≤ b ∧ b ≤ 255) (hc : 0 ≤ c ∧ c ≤ 255) (hd : 0 ≤ d ∧ d ≤ 255) (he : 0 ≤ e ∧ e ≤ 255) (hf : 0 ≤ f ∧ f ≤ 255) (hg : 0 ≤ g ∧ g ≤ 255) (hh : 0 ≤ h ∧ h ≤ 255) :
    Calls Tryz.prog 178 #[.agg #[.int .u8 a, .int .u8 b, .int .u8 c, .int .u8 d], .agg #[.int .u8 e, .int .u8 f, .int .u8 g, .int .u8 h]] w fun x w' =>
      x = .returned (.agg #[.int .u8 (mix a e d), .int .u8 (mix b f d), .int .u8 (mix c g d), .int .u8 (mix d h d)]) ∧ Below w.heap.size w w' := by
  have m0 := mul_bd e d he hd
  have m1 := mul_bd f d hf hd
  have m2 := mul_bd g d hg hd
  have m3 := mul_bd h d hh hd
  go_enter Tryz.func178, Tryz.ntmps178
  go_wp2
  refine wp_loop_rounds 5 ?_
  rw [rounds_succ]
  go_wp2
  go_region
  go_wp2
  rw [rounds_succ]
  go_wp2
  go_region
  go_wp2
  rw [rounds_succ]
  go_wp2
  go_region
  go_wp2
  rw [rounds_succ]
  go_wp2
  go_region
  go_wp2
  rw [rounds_succ]
  go_wp2
  refine bodyPost_ret (v := .agg #[.int .u8 (mix a e d), .int .u8 (mix b f d), .int .u8 (mix c g d), .int .u8 (mix d h d)]) (by simp [results, Tryz.results178, go_sem, mix]) rfl ⟨rfl, ?_⟩
  repeat (first | exact Below.refl _ _ | refine Below.drew ?_ | refine Below.setCell ?_ (by simp) _ | refine Below.alloc ?_ (by simp <;> omega) _)


theorem bcell {W w1 : World} (hb : Below W.heap.size W w1) : (∀ b o, b < W.heap.size → w1.cell? ⟨b, o, none⟩ = W.cell? ⟨b, o, none⟩) ∧ (∀ b o, b < W.heap.size → w1.frozen? ⟨b, o, none⟩ = W.frozen? ⟨b, o, none⟩) :=
  ⟨fun b o h => hb.cell (p := ⟨b, o, none⟩) h, fun b o h => hb.frozen (p := ⟨b, o, none⟩) h⟩

end Go.Proofs.YtofinpocigbbeaaGreat

/-! Viw -/
namespace Go.Proofs.YtofinpocigbbeaaGreat
open Go.RowKit

def fitP (r : R4) : Bool := fitB r.1 r.2.1 r.2.2.1 r.2.2.2

/-- A view's cells. -/
def vCells (st : St) (i : Nat) : List Value := [.int .i64 (i : Int), .int .i64 (st.px i), .int .i64 (st.py i), .int .i64 (st.sf i).now.w, .int .i64 (st.sf i).now.h, .int .i64 (st.seen i).1, .int .i64 (st.seen i).2.1, .int .i64 (st.seen i).2.2.1, .int .i64 (st.seen i).2.2.2]

def OwnV (w : World) (base : Nat) (v : Value) (st : St) (L : List Nat) : Prop := w.ownsRow base 59 9 v L.length (L.flatMap (vCells st))

/-- What can be seen of some surfaces. -/
def St.vis (st : St) (L : List Nat) : List Nat := L.filter fun i => has4 (st.seen i)

theorem vis_next {st : St} {L : List Nat} {k : Nat} (hk : k < L.length) : st.vis (L.take (k + 1)) = st.vis (L.take k) ++ if has4 (st.seen L[k]) = true then [L[k]] else [] := by
  unfold St.vis
  rw [List.take_succ_eq_append_getElem hk, List.filter_append, List.filter_cons]
  rfl

theorem viewInfo : (Tryz.prog.info? 59).map (fun i => (i.zero, i.size, i.bytes)) = some (some (.agg #[.int .i64 0, .int .i64 0, .int .i64 0, .int .i64 0, .int .i64 0, .int .i64 0, .int .i64 0, .int .i64 0, .int .i64 0]), 9, 72) := by kernel_rfl

def ViewsPost (st : St) (w : World) (e : Ending) (w' : World) : Prop := ∃ v, e = .returned v ∧ OwnV w' w.heap.size v st (st.vis (st.dfs (-1))) ∧ Below w.heap.size w w'

end Go.Proofs.YtofinpocigbbeaaGreat

/-! PixC -/
namespace Go.Proofs.YtofinpocigbbeaaGreat
open Go.RowKit

/-- A list of pixels in memory. -/
def PixAt (w : World) (v : Value) (l : List R4) : Prop :=
  ∃ a c, v = .slice a l.length c ∧ (0 < l.length → l.length ≤ c ∧ ∃ b off, a = some ⟨b, off, none⟩ ∧ ∀ k (h : k < l.length), w.cell? ⟨b, off + k * 4, none⟩ = some (.int .u8 l[k].1) ∧ w.cell? ⟨b, off + k * 4 + 1, none⟩ = some (.int .u8 l[k].2.1) ∧ w.cell? ⟨b, off + k * 4 + 2, none⟩ = some (.int .u8 l[k].2.2.1) ∧ w.cell? ⟨b, off + k * 4 + 3, none⟩ = some (.int .u8 l[k].2.2.2))

theorem PixAt.keep {w w' : World} {v : Value} {l : List R4} (h : PixAt w v l) (hk : ∀ b, v.ownBlock = some b → b < w.heap.size → w'.heap[b]? = w.heap[b]?) : PixAt w' v l := by
  obtain ⟨a, c, hv, hc⟩ := h
  refine ⟨a, c, hv, fun hl => ?_⟩
  obtain ⟨hlc, b, off, ha, hcs⟩ := hc hl
  refine ⟨hlc, b, off, ha, fun k hk2 => ?_⟩
  obtain ⟨h1, h2, h3, h4⟩ := hcs k hk2
  have hlt := cell_lt h1
  have hbl := hk b (by rw [hv, ha]; rfl) hlt
  exact ⟨(World.cell?_of_block hbl).trans h1, (World.cell?_of_block hbl).trans h2, (World.cell?_of_block hbl).trans h3, (World.cell?_of_block hbl).trans h4⟩

theorem PixAt.below {w w' : World} {v : Value} {l : List R4} (h : PixAt w v l) (hb : Below w.heap.size w w') : PixAt w' v l := h.keep fun b _ hl => hb.block b hl

def pixCells (l : List R4) : List Value := l.flatMap fun r => [.int .u8 r.1, .int .u8 r.2.1, .int .u8 r.2.2.1, .int .u8 r.2.2.2]

theorem pixCells_len (l : List R4) : (pixCells l).length = l.length * 4 := by
  unfold pixCells
  induction l with
  | nil => rfl
  | cons a l ih => rw [List.flatMap_cons, List.length_append, ih]; simp; omega

theorem pixCells_append (l m : List R4) : pixCells (l ++ m) = pixCells l ++ pixCells m := by unfold pixCells; rw [List.flatMap_append]

theorem pixCells_u8 (l : List R4) : ∀ x ∈ pixCells l, ∃ a : Int, x = .int .u8 a := by
  intro x hx
  unfold pixCells at hx
  rw [List.mem_flatMap] at hx
  obtain ⟨r, _, hx⟩ := hx
  simp at hx
  rcases hx with rfl | rfl | rfl | rfl <;> exact ⟨_, rfl⟩

theorem pixInfo : (Tryz.prog.info? 51).map (fun i => (i.zero, i.size, i.bytes)) = some (some (.agg #[.int .u8 0, .int .u8 0, .int .u8 0, .int .u8 0]), 4, 4) := by kernel_rfl

theorem pixCells_at (l : List R4) (i : Nat) (hi : i < l.length) :
    (pixCells l)[i * 4]? = some (.int .u8 l[i].1) ∧ (pixCells l)[i * 4 + 1]? = some (.int .u8 l[i].2.1) ∧ (pixCells l)[i * 4 + 2]? = some (.int .u8 l[i].2.2.1) ∧ (pixCells l)[i * 4 + 3]? = some (.int .u8 l[i].2.2.2) := by
  induction l generalizing i with
  | nil => simp at hi
  | cons a l ih =>
    unfold pixCells
    rw [List.flatMap_cons]
    cases i with
    | zero => exact ⟨rfl, rfl, rfl, rfl⟩
    | succ i =>
      have h9 := ih i (by simpa using hi)
      unfold pixCells at h9
      refine ⟨?_, ?_, ?_, ?_⟩
      · rw [List.getElem?_append_right (by simp; omega), show (i + 1) * 4 - _ = i * 4 by simp; omega]; exact h9.1
      · rw [List.getElem?_append_right (by simp; omega), show (i + 1) * 4 + 1 - _ = i * 4 + 1 by simp; omega]; exact h9.2.1
      · rw [List.getElem?_append_right (by simp; omega), show (i + 1) * 4 + 2 - _ = i * 4 + 2 by simp; omega]; exact h9.2.2.1
      · rw [List.getElem?_append_right (by simp; omega), show (i + 1) * 4 + 3 - _ = i * 4 + 3 by simp; omega]; exact h9.2.2.2

theorem pix_oneCell (l : List R4) : ∀ u ∈ pixCells l, u.oneCell' = true := by
  intro u hu
  obtain ⟨a, rfl⟩ := pixCells_u8 l u hu
  rfl

theorem pix_news {w : World} {v : Value} {l : List R4} (h : PixAt w v l) (hn : l = [] → v = .slice none 0 0 ∨ ∃ ad c, v = .slice (some ad) 0 c) : (v = .slice none 0 0 ∧ l.length = 0) ∨ ∃ ad c, v = .slice (some ad) l.length c ∧ ∀ j u, (pixCells l)[j]? = some u → w.cell? (ad.add j) = some u := by
  by_cases hl : l = []
  · rcases hn hl with hn | ⟨ad, c, hn⟩
    · exact .inl ⟨hn, by rw [hl]; rfl⟩
    · exact .inr ⟨ad, c, by rw [hl]; exact hn, fun j u hu => by rw [hl] at hu; simp [pixCells] at hu⟩
  · right
    have hpos : 0 < l.length := by cases l with
      | nil => exact absurd rfl hl
      | cons a l => simp
    obtain ⟨a, c, rfl, hc⟩ := h
    obtain ⟨_, b, off, rfl, hcs⟩ := hc hpos
    refine ⟨_, c, rfl, fun j u hu => ?_⟩
    have hj : j < l.length * 4 := by
      rw [← pixCells_len]
      exact (List.getElem?_eq_some_iff.1 hu).1
    obtain ⟨k, hk⟩ : ∃ k, j / 4 = k := ⟨_, rfl⟩
    have hkl : k < l.length := by omega
    obtain ⟨q1, q2, q3, q4⟩ := pixCells_at l k hkl
    obtain ⟨c1, c2, c3, c4⟩ := hcs k hkl
    rw [addr_off]
    have hcase : j = k * 4 ∨ j = k * 4 + 1 ∨ j = k * 4 + 2 ∨ j = k * 4 + 3 := by omega
    clear hk hj
    rcases hcase with rfl | rfl | rfl | rfl
    · rw [q1] at hu; rw [← hu]; exact c1
    · rw [q2] at hu; rw [← hu]; exact c2
    · rw [q3] at hu; rw [← hu]; exact c3
    · rw [q4] at hu; rw [← hu]; exact c4

set_option maxRecDepth 100000 in
theorem eqP_nil_nil (w : World) : (binOp .eql 44 (.slice none 0 0) (.slice none 0 0)).run Tryz.prog w = .ok (.bool true) w := rfl
set_option maxRecDepth 100000 in
theorem eqP_some_nil (ad : Addr) (n c : Nat) (w : World) : (binOp .eql 44 (.slice (some ad) n c) (.slice none 0 0)).run Tryz.prog w = .ok (.bool false) w := rfl

end Go.Proofs.YtofinpocigbbeaaGreat

/-! PixB -/
namespace Go.Proofs.YtofinpocigbbeaaGreat
open Go.RowKit

set_option maxHeartbeats 1000000 in
theorem povers_yes (a b c d e f g h : Int) (w : World) (hd : 0 ≤ d ∧ d ≤ 255) (he : 0 ≤ e ∧ e ≤ 255) (hf : 0 ≤ f ∧ f ≤ 255) (hg : 0 ≤ g ∧ g ≤ 255) (hh : 0 ≤ h ∧ h ≤ 255) (h1 : fitB a b c d = true) (h2 : fitB e f g h = true) :
    Calls Tryz.prog 125 #[.agg #[.int .u8 a, .int .u8 b, .int .u8 c, .int .u8 d], .agg #[.int .u8 e, .int .u8 f, .int .u8 g, .int .u8 h]] w fun x w' =>
      x = .returned (.tuple #[.agg #[.int .u8 (mix a e d), .int .u8 (mix b f d), .int .u8 (mix c g d), .int .u8 (mix d h d)], .int .i64 0]) ∧ Below w.heap.size w w' := by
  go_enter Tryz.func125, Tryz.ntmps125
  go_wp2_with (first
    | (go_at_call 101; refine (mayBe_any _ _ _ _ _).mono ?_; rintro x w' ⟨rfl, rfl⟩)
    | (go_at_call 171; refine (over_any a b c d e f g h _ hd he hf hg hh).mono ?_; rintro x w1 ⟨rfl, hbl⟩; obtain ⟨hcl, hfl⟩ := bcell hbl; have hz : w.heap.size + 2 < w1.heap.size := (by have := hbl.size; simp at this; omega)))
  refine bodyPost_ret (v := .tuple #[.agg #[.int .u8 (mix a e d), .int .u8 (mix b f d), .int .u8 (mix c g d), .int .u8 (mix d h d)], .int .i64 0]) (by simp [results, Tryz.results125, go_sem, hcl]) rfl ⟨rfl, ?_⟩
  repeat (first | refine Below.setCell ?_ (by simp <;> omega) _)
  refine Below.trans ?_ (hbl.mono (by simp; try omega))
  repeat (first | exact Below.refl _ _ | refine Below.drew ?_ | refine Below.setCell ?_ (by simp <;> omega) _ | refine Below.alloc ?_ (by simp <;> omega) _)

set_option maxHeartbeats 1000000 in
theorem povers_no1 (a b c d e f g h : Int) (w : World) (h1 : fitB a b c d = false) :
    Calls Tryz.prog 125 #[.agg #[.int .u8 a, .int .u8 b, .int .u8 c, .int .u8 d], .agg #[.int .u8 e, .int .u8 f, .int .u8 g, .int .u8 h]] w fun x w' =>
      x = .returned (.tuple #[.agg #[.int .u8 0, .int .u8 0, .int .u8 0, .int .u8 0], .int .i64 4]) ∧ Below w.heap.size w w' := by
  go_enter Tryz.func125, Tryz.ntmps125
  go_wp2_with (first
    | (go_at_call 101; refine (mayBe_any _ _ _ _ _).mono ?_; rintro x w' ⟨rfl, rfl⟩))
  refine bodyPost_ret (v := .tuple #[.agg #[.int .u8 0, .int .u8 0, .int .u8 0, .int .u8 0], .int .i64 4]) (by simp [results, Tryz.results125, go_sem]) rfl ⟨rfl, ?_⟩
  repeat (first | exact Below.refl _ _ | refine Below.drew ?_ | refine Below.setCell ?_ (by simp <;> omega) _ | refine Below.alloc ?_ (by simp <;> omega) _)

set_option maxHeartbeats 1000000 in
theorem povers_no2 (a b c d e f g h : Int) (w : World) (h1 : fitB a b c d = true) (h2 : fitB e f g h = false) :
    Calls Tryz.prog 125 #[.agg #[.int .u8 a, .int .u8 b, .int .u8 c, .int .u8 d], .agg #[.int .u8 e, .int .u8 f, .int .u8 g, .int .u8 h]] w fun x w' =>
      x = .returned (.tuple #[.agg #[.int .u8 0, .int .u8 0, .int .u8 0, .int .u8 0], .int .i64 4]) ∧ Below w.heap.size w w' := by
  go_enter Tryz.func125, Tryz.ntmps125
  go_wp2_with (first
    | (go_at_call 101; refine (mayBe_any _ _ _ _ _).mono ?_; rintro x w' ⟨rfl, rfl⟩))
  refine bodyPost_ret (v := .tuple #[.agg #[.int .u8 0, .int .u8 0, .int .u8 0, .int .u8 0], .int .i64 4]) (by simp [results, Tryz.results125, go_sem]) rfl ⟨rfl, ?_⟩
  repeat (first | exact Below.refl _ _ | refine Below.drew ?_ | refine Below.setCell ?_ (by simp <;> omega) _ | refine Below.alloc ?_ (by simp <;> omega) _)

set_option maxHeartbeats 1000000 in
theorem rovers_yes (a b c d e f g h : Int) (w : World) (ha : 0 ≤ a ∧ a ≤ 255) (hb : 0 ≤ b ∧ b ≤ 255) (hc : 0 ≤ c ∧ c ≤ 255) (hd : 0 ≤ d ∧ d ≤ 255) (he : 0 ≤ e ∧ e ≤ 255) (hf : 0 ≤ f ∧ f ≤ 255) (hg : 0 ≤ g ∧ g ≤ 255) (hh : 0 ≤ h ∧ h ≤ 255) (h1 : fitB a b c d = true) (h2 : fitB e f g h = true) :
    Calls Tryz.prog 126 #[.agg #[.int .u8 a, .int .u8 b, .int .u8 c, .int .u8 d], .agg #[.int .u8 e, .int .u8 f, .int .u8 g, .int .u8 h]] w fun x w' =>
      x = .returned (.tuple #[.agg #[.int .u8 (mix a e d), .int .u8 (mix b f d), .int .u8 (mix c g d), .int .u8 (mix d h d)], .int .i64 0]) ∧ Below w.heap.size w w' := by
  go_enter Tryz.func126, Tryz.ntmps126
  go_wp2_with (first
    | (go_at_call 177; refine (fits_any _ _ _ _ _).mono ?_; rintro x w' ⟨rfl, rfl⟩)
    | (go_at_call 178; refine (laid_any a b c d e f g h _ ha hb hc hd he hf hg hh).mono ?_; rintro x w1 ⟨rfl, hbl⟩; obtain ⟨hcl, hfl⟩ := bcell hbl; have hz : w.heap.size + 2 < w1.heap.size := (by have := hbl.size; simp at this; omega)))
  refine bodyPost_ret (v := .tuple #[.agg #[.int .u8 (mix a e d), .int .u8 (mix b f d), .int .u8 (mix c g d), .int .u8 (mix d h d)], .int .i64 0]) (by simp [results, Tryz.results126, go_sem, hcl]) rfl ⟨rfl, ?_⟩
  repeat (first | refine Below.setCell ?_ (by simp <;> omega) _)
  refine Below.trans ?_ (hbl.mono (by simp; try omega))
  repeat (first | exact Below.refl _ _ | refine Below.drew ?_ | refine Below.setCell ?_ (by simp <;> omega) _ | refine Below.alloc ?_ (by simp <;> omega) _)

set_option maxHeartbeats 1000000 in
theorem rovers_no1 (a b c d e f g h : Int) (w : World) (h1 : fitB a b c d = false) :
    Calls Tryz.prog 126 #[.agg #[.int .u8 a, .int .u8 b, .int .u8 c, .int .u8 d], .agg #[.int .u8 e, .int .u8 f, .int .u8 g, .int .u8 h]] w fun x w' =>
      x = .returned (.tuple #[.agg #[.int .u8 0, .int .u8 0, .int .u8 0, .int .u8 0], .int .i64 4]) ∧ Below w.heap.size w w' := by
  go_enter Tryz.func126, Tryz.ntmps126
  go_wp2_with (first
    | (go_at_call 177; refine (fits_any _ _ _ _ _).mono ?_; rintro x w' ⟨rfl, rfl⟩))
  refine bodyPost_ret (v := .tuple #[.agg #[.int .u8 0, .int .u8 0, .int .u8 0, .int .u8 0], .int .i64 4]) (by simp [results, Tryz.results126, go_sem]) rfl ⟨rfl, ?_⟩
  repeat (first | exact Below.refl _ _ | refine Below.drew ?_ | refine Below.setCell ?_ (by simp <;> omega) _ | refine Below.alloc ?_ (by simp <;> omega) _)

set_option maxHeartbeats 1000000 in
theorem rovers_no2 (a b c d e f g h : Int) (w : World) (h1 : fitB a b c d = true) (h2 : fitB e f g h = false) :
    Calls Tryz.prog 126 #[.agg #[.int .u8 a, .int .u8 b, .int .u8 c, .int .u8 d], .agg #[.int .u8 e, .int .u8 f, .int .u8 g, .int .u8 h]] w fun x w' =>
      x = .returned (.tuple #[.agg #[.int .u8 0, .int .u8 0, .int .u8 0, .int .u8 0], .int .i64 4]) ∧ Below w.heap.size w w' := by
  go_enter Tryz.func126, Tryz.ntmps126
  go_wp2_with (first
    | (go_at_call 177; refine (fits_any _ _ _ _ _).mono ?_; rintro x w' ⟨rfl, rfl⟩))
  refine bodyPost_ret (v := .tuple #[.agg #[.int .u8 0, .int .u8 0, .int .u8 0, .int .u8 0], .int .i64 4]) (by simp [results, Tryz.results126, go_sem]) rfl ⟨rfl, ?_⟩
  repeat (first | exact Below.refl _ _ | refine Below.drew ?_ | refine Below.setCell ?_ (by simp <;> omega) _ | refine Below.alloc ?_ (by simp <;> omega) _)

theorem eqPix (a b c d e f g h : Int) (w : World) : (Op.equalIn 10000 51 (.agg #[.int .u8 a, .int .u8 b, .int .u8 c, .int .u8 d]) (.agg #[.int .u8 e, .int .u8 f, .int .u8 g, .int .u8 h])).run Tryz.prog w = .ok (a == e && (b == f && (c == g && d == h))) w := by
  have u3 := Tryz.underlying5
  have a3 := Tryz.isAgg5
  have z3 := Tryz.sizeOf5
  rw [show (10000 : Nat) = 9999 + 1 from rfl, Op.equalIn]
  simp only [Sem.run_bind, run_underlying Tryz.underlying51, Result.andThen_ok]
  simp only [Std.Legacy.Range.forIn_eq_forIn_range', Std.Legacy.Range.size, Nat.sub_zero, Nat.add_sub_cancel, Nat.div_one, List.range'_succ, List.range'_zero, List.forIn_cons, List.forIn_nil]
  go_simp
  by_cases h1 : a = e <;> by_cases h2 : b = f <;> by_cases h3 : c = g <;> by_cases h4 : d = h <;> simp [h1, h2, h3, h4]

end Go.Proofs.YtofinpocigbbeaaGreat

/-! RefL -/
namespace Go.Proofs.YtofinpocigbbeaaGreat
open Go.RowKit
attribute [local go_sem ↓] Go.wp_at_zero Go.wp_at_succ

set_option maxRecDepth 100000 in
set_option maxHeartbeats 1000000 in
/-- (*Screen).Views -/
theorem refViews_any {S : Nat → Prop} {c : Nat} {st : St} (hw : Wf st) (w : World) (h : RefOk w S c st) :
    Calls Tryz.prog 93 #[.pointer (some ⟨c, 0, none⟩)] w (ViewsPost st w) := by
  obtain ⟨i0, hi0, hz0, hz1, hz2⟩ := info_parts viewInfo
  have HU := hide (under_any (S := S) (c := c) hw (st.need (-1)) (-1) w (by omega) (Nat.le_refl _) h)
  have HR := hide h
  obtain ⟨bv, sv, ov, F, hr, hs⟩ := h
  obtain ⟨k0, k1, k2, k3, k4, kf, kl⟩ := hr.cells
  obtain ⟨sa, scap, hsv⟩ := hr.svForm
  subst hsv
  obtain ⟨n, hn⟩ : ∃ n, st.sfs.length = n := ⟨_, rfl⟩
  have hmd := hw.made
  rw [hn] at k3 hmd
  obtain ⟨D, hD⟩ : ∃ D, st.dfs (-1) = D := ⟨_, rfl⟩
  have hDl := dfs_len hw (st := st) (p := -1) (by omega)
  have hDo : ∀ j ∈ D, j ∈ st.order := fun j hj => dfs_sub hw (p := -1) (by omega) (by rw [hD]; exact hj)
  rw [hD] at hDl HU
  obtain ⟨m, hm⟩ : ∃ m, D.length = m := ⟨_, rfl⟩
  rw [hm] at hDl
  have HH := hide (And.intro hr (And.intro hs (And.intro hn (And.intro hm (And.intro hDo (And.intro hw hD))))))
  clear hr hs kf hn hm hDo hD k0 k1 k2 k4
  go_enter Tryz.func93, Tryz.ntmps93
  go_wp2_with (go_at_call 133; refine HU.out.mono ?_; rintro e w1 ⟨v1, rfl, hv1, hb1⟩; obtain ⟨la, lc, hlf⟩ := row_form hv1; rw [HH.out.2.2.2.1] at hlf; subst hlf; have H1 := hide (And.intro hv1 hb1); have hs1 := hb1.size; clear hv1 hb1)
  go_loopg [3, 5] m (fun gg s3 s5 wr => ∃ k : Nat, s5 = .int .i64 k ∧ gg + k = m ∧ OwnV wr w1.heap.size s3 st (st.vis (D.take k)) ∧ Below w1.heap.size w1 wr)
  case atStart => exact ⟨0, rfl, by omega, World.ownsRow_nil _ _ _ _, Below.refl _ _⟩
  case round =>
    rename World => wr
    obtain ⟨k, rfl, hgk, hown, hbel⟩ := hrel
    obtain ⟨va, vc, hvf⟩ := row_form hown
    obtain ⟨nL, hnL⟩ : ∃ nL, (st.vis (D.take k)).length = nL := ⟨_, rfl⟩
    rw [hnL] at hvf
    subst hvf
    have hsz := hbel.size
    have HO := hide (And.intro hown (And.intro hbel hnL))
    cases gk with
    | zero =>
      have hlt : ¬ (k : Int) < (m : Int) := by omega
      clear hown hbel
      go_wp2
      go_ret
      have hfull : D.take k = D := List.take_of_length_le (by have := HH.out.2.2.2.1; omega)
      have ho := HO.out.1
      rw [hfull, ← HH.out.2.2.2.2.2.2] at ho
      refine ⟨_, rfl, ⟨ho.1, ho.2.imp (fun h => h) fun ⟨g, c, cur, e1, e2, e3⟩ => ⟨g, c, cur, e1, by omega, e3⟩⟩, H1.out.2.trans (HO.out.2.1.mono hs1)⟩
    | succ gk =>
      have hlt : (k : Int) < (m : Int) := by omega
      have hkL : k < D.length := by have := HH.out.2.2.2.1; omega
      obtain ⟨lg, lc', el, _, hlg⟩ := World.ownsRow.form H1.out.1 (by omega)
      have hlcap := own_cap (by have h9 := H1.out.1; unfold OwnN at h9; rw [el] at h9; exact h9)
      have hcl := World.ownsRow.cells H1.out.1 (g := lg) (by rw [el]; rfl) k (.int .i64 (D[k] : Int)) (by rw [List.getElem?_map, List.getElem?_eq_getElem hkL]; rfl)
      rw [add_at] at hcl
      rw [HH.out.2.2.2.1] at el hlcap
      injection el with el1 el2 el3
      subst el1 el3
      have hlty := own_type H1.out.1 (k := lg) rfl
      obtain ⟨j, hj⟩ : ∃ j, D[k] = j := ⟨_, rfl⟩
      have hjo : j ∈ st.order := by rw [← hj]; exact HH.out.2.2.2.2.1 _ (List.getElem_mem hkL)
      have hjl := hw.lt hjo
      rw [hj] at hcl
      have hclr := (hbel.cell (p := ⟨lg, k, none⟩) hlg).trans hcl
      have HBw : Hid (Below w.heap.size w wr) := H1.out.2.trans (hbel.mono hs1)
      obtain ⟨r, hr0⟩ : ∃ r, nrm (st.seen j) = r := ⟨_, rfl⟩
      have hSeen := seen_any (S := S) (c := c) j wr (HR.out.keep fun g _ hg => HBw.out.block g hg) hw hjl
      rw [hr0] at hSeen
      unfold r4C at hSeen
      have HSn := hide hSeen
      have HPl := hide (fun (W : World) (hW : Below w.heap.size w W) => place_any (S := S) (c := c) (st := st) j W (HR.out.keep fun g _ hg => hW.block g hg) hw hjl)
      have hflat := nrm_flat (st.seen j)
      rw [hr0] at hflat
      have HN := hide (vis_next (st := st) hkL)
      rw [hj] at HN
      have hkc : k < lc := by omega
      have hk0 : (0 : Int) ≤ (k : Int) := by omega
      have hbr := HBw.out.size
      have hlgr : lg < wr.heap.size := by omega
      clear hown hbel hSeen hkL hj hcl
      cases hb4 : has4 (st.seen j) with
      | false =>
        have hq : r.1 = r.2.2.1 := hflat.2 hb4
        rw [hb4] at HN
        clear hflat hb4
        go_wp2_with (go_at_call 134; refine HSn.out.mono ?_; rintro e w5 ⟨rfl, hb5⟩; have H5 := hide hb5; have hs5 := hb5.size; clear hb5)
        go_roundg gk
        case measure => omega
        case rel =>
          have hbb := fun o => H5.out.alloc hs5 o
          refine ⟨k + 1, by go_num, by omega, ?_, HO.out.2.1.trans ((hbb _).mono hsz)⟩
          have e9 := HN.out
          rw [if_neg (by simp), List.append_nil] at e9
          rw [e9]
          exact own_keep HO.out.1 fun g hg => (hbb _).block g (HO.out.1.lt g hg).2
      | true =>
        have hq : ¬ r.1 = r.2.2.1 := fun e => by rw [hflat.1 e] at hb4; cases hb4
        have hrs : r = st.seen j := by rw [← hr0]; unfold nrm; rw [if_pos hb4]
        rw [hb4] at HN
        have HRs := hide hrs
        obtain ⟨sg, scap', es, _, hscap, hsgl, scs, _⟩ := HH.out.1.at (by omega)
        rw [HH.out.2.2.1] at es hscap
        injection es with es1 es2 es3
        subst es1 es3
        have hR := HH.out.2.1.rel j hjl
        have d2 := scs j hjl 2 (by omega); have d3 := scs j hjl 3 (by omega); have d4 := scs j hjl 4 (by omega); have d5 := scs j hjl 5 (by omega); have d6 := scs j hjl 6 (by omega); have d7 := scs j hjl 7 (by omega); have d8 := scs j hjl 8 (by omega); have d9 := scs j hjl 9 (by omega); have d10 := scs j hjl 10 (by omega); have d11 := scs j hjl 11 (by omega); have d12 := scs j hjl 12 (by omega)
        obtain ⟨pa, pm, pc, hpx, _⟩ := (HH.out.2.1.pixN j hjl).form
        rw [hR.nw] at d2; rw [hR.nh] at d3; rw [hpx] at d4; rw [hR.nx] at d5; rw [hR.ny] at d6; rw [hR.ncut] at d7; rw [hR.n0] at d8; rw [hR.n1] at d9; rw [hR.n2] at d10; rw [hR.n3] at d11; rw [hR.nhint] at d12
        have hjn : (j : Int) < (n : Int) := by have := HH.out.2.2.1; omega
        have hjn2 : j < n := by omega
        have hj0 : (0 : Int) ≤ (j : Int) := by omega
        have hjc : j < scap := by omega
        have hnL12 : nL ≤ 12 := by
          have h1 : (st.vis (D.take k)).length ≤ (D.take k).length := List.length_filter_le _ _
          rw [List.length_take, HO.out.2.2] at h1
          have h2 := HH.out.2.2.2.1
          omega
        have HVc : Hid (vCells st j = [.int .i64 (j : Int), .int .i64 (st.px j), .int .i64 (st.py j), .int .i64 (st.sf j).now.w, .int .i64 (st.sf j).now.h, .int .i64 r.1, .int .i64 r.2.1, .int .i64 r.2.2.1, .int .i64 r.2.2.2]) := by unfold Hid; rw [hrs]; rfl
        obtain ⟨PX, hPX⟩ : ∃ p, st.px j = p := ⟨_, rfl⟩
        obtain ⟨PY, hPY⟩ : ∃ p, st.py j = p := ⟨_, rfl⟩
        rw [hPX, hPY] at HVc HPl
        generalize (st.sf j).now = N at *
        clear hflat hb4 hrs scs hR hpx hPX hPY hr0 es2
        go_upto_region 9 with (first
          | (go_at_call 134; refine HSn.out.mono ?_; rintro e w5 ⟨rfl, hb5⟩; have H5 := hide hb5; have hs5 := hb5.size; have hlg5 : lg < w5.heap.size := (by omega); have y1 := (hb5.cell (p := ⟨lg, k, none⟩) hlgr).trans hclr; clear hb5)
          | (go_at_call 135; refine (HPl.out _ ((HBw.out.trans (H5.out.mono hbr)).alloc (by omega) _)).mono ?_; rintro e w' ⟨rfl, hw'⟩; replace hw' := hw'.symm; subst hw'))
        have hB9 : Blk (w5.alloc (.cells #[.int .i64 r.1, .int .i64 r.2.1, .int .i64 r.2.2.1, .int .i64 r.2.2.2] 53)) w5.heap.size 53 #[.int .i64 r.1, .int .i64 r.2.1, .int .i64 r.2.2.1, .int .i64 r.2.2.2] := heap_alloc_new _ _
        have hb9 : Below wr.heap.size wr (w5.alloc (.cells #[.int .i64 r.1, .int .i64 r.2.1, .int .i64 r.2.2.1, .int .i64 r.2.2.2] 53)) := H5.out.alloc hs5 _
        have hz9 : (w5.alloc (.cells #[.int .i64 r.1, .int .i64 r.2.1, .int .i64 r.2.2.1, .int .i64 r.2.2.2] 53)).heap.size = w5.heap.size + 1 := by simp
        generalize w5.alloc (.cells #[.int .i64 r.1, .int .i64 r.2.1, .int .i64 r.2.2.1, .int .i64 r.2.2.2] 53) = W9 at *
        have hbw9 : Below w.heap.size w W9 := HBw.out.trans (hb9.mono hbr)
        have F9 : Hid (∀ w', Below W9.heap.size W9 w' → w'.cell? ⟨c, 3, none⟩ = some (.slice (some ⟨sg, 0, none⟩) n scap) ∧ w'.cell? ⟨lg, k, none⟩ = some (.int .i64 j) ∧ w'.cell? ⟨sg, j * 28 + 2, none⟩ = some (.int .i64 N.w) ∧ w'.cell? ⟨sg, j * 28 + 3, none⟩ = some (.int .i64 N.h) ∧ w'.cell? ⟨sg, j * 28 + 4, none⟩ = some (.slice pa pm pc) ∧ w'.cell? ⟨sg, j * 28 + 5, none⟩ = some (.int .i64 N.x) ∧ w'.cell? ⟨sg, j * 28 + 6, none⟩ = some (.int .i64 N.y) ∧ w'.cell? ⟨sg, j * 28 + 7, none⟩ = some (.bool N.cut) ∧ w'.cell? ⟨sg, j * 28 + 8, none⟩ = some (.int .i64 N.clip.1) ∧ w'.cell? ⟨sg, j * 28 + 9, none⟩ = some (.int .i64 N.clip.2.1) ∧ w'.cell? ⟨sg, j * 28 + 10, none⟩ = some (.int .i64 N.clip.2.2.1) ∧ w'.cell? ⟨sg, j * 28 + 11, none⟩ = some (.int .i64 N.clip.2.2.2) ∧ w'.cell? ⟨sg, j * 28 + 12, none⟩ = some (.slice none 0 0)) := fun W hW => by
          have hb := hbw9.trans (hW.mono hbw9.size)
          have hb2 := hb9.trans (hW.mono hb9.size)
          exact ⟨(hb.cell (p := ⟨c, 3, none⟩) kl).trans k3, (hb2.cell (p := ⟨lg, k, none⟩) hlgr).trans hclr, (hb.cell (p := ⟨sg, j * 28 + 2, none⟩) hsgl).trans d2, (hb.cell (p := ⟨sg, j * 28 + 3, none⟩) hsgl).trans d3, (hb.cell (p := ⟨sg, j * 28 + 4, none⟩) hsgl).trans d4, (hb.cell (p := ⟨sg, j * 28 + 5, none⟩) hsgl).trans d5, (hb.cell (p := ⟨sg, j * 28 + 6, none⟩) hsgl).trans d6, (hb.cell (p := ⟨sg, j * 28 + 7, none⟩) hsgl).trans d7, (hb.cell (p := ⟨sg, j * 28 + 8, none⟩) hsgl).trans d8, (hb.cell (p := ⟨sg, j * 28 + 9, none⟩) hsgl).trans d9, (hb.cell (p := ⟨sg, j * 28 + 10, none⟩) hsgl).trans d10, (hb.cell (p := ⟨sg, j * 28 + 11, none⟩) hsgl).trans d11, (hb.cell (p := ⟨sg, j * 28 + 12, none⟩) hsgl).trans d12⟩
        obtain ⟨t0, t1, t2, t3, t4, t5, t6, t7, t8, t9, t10, t11, t12⟩ := F9.out W9 (Below.refl _ _)
        have HB9 := hide (And.intro hB9 (And.intro hb9 hbw9))
        have HZ9 := hide hz9
        clear hB9 hb9 hbw9 d2 d3 d4 d5 d6 d7 d8 d9 d10 d11 d12 k3 y1 hclr hz9
        go_region_held3 (fun w' => w'.cell? ⟨c, 3, none⟩ = some (.slice (some ⟨sg, 0, none⟩) n scap) ∧ w'.cell? ⟨lg, k, none⟩ = some (.int .i64 j) ∧ w'.cell? ⟨sg, j * 28 + 2, none⟩ = some (.int .i64 N.w) ∧ w'.cell? ⟨sg, j * 28 + 3, none⟩ = some (.int .i64 N.h) ∧ w'.cell? ⟨sg, j * 28 + 4, none⟩ = some (.slice pa pm pc) ∧ w'.cell? ⟨sg, j * 28 + 5, none⟩ = some (.int .i64 N.x) ∧ w'.cell? ⟨sg, j * 28 + 6, none⟩ = some (.int .i64 N.y) ∧ w'.cell? ⟨sg, j * 28 + 7, none⟩ = some (.bool N.cut) ∧ w'.cell? ⟨sg, j * 28 + 8, none⟩ = some (.int .i64 N.clip.1) ∧ w'.cell? ⟨sg, j * 28 + 9, none⟩ = some (.int .i64 N.clip.2.1) ∧ w'.cell? ⟨sg, j * 28 + 10, none⟩ = some (.int .i64 N.clip.2.2.1) ∧ w'.cell? ⟨sg, j * 28 + 11, none⟩ = some (.int .i64 N.clip.2.2.2) ∧ w'.cell? ⟨sg, j * 28 + 12, none⟩ = some (.slice none 0 0))
          (first
            | exact F9.out _ (Below.refl _ _)
            | exact F9.out _ (Below.refl _ _).drew
            | exact F9.out _ ((Below.refl _ _).alloc (Nat.le_refl _) _).drew
            | fail)
          (fail)
        go_upto_region 10 with fail
        have hb10 : Below W9.heap.size W9 ((W9.alloc (.cells #[.int .i64 N.w, .int .i64 N.h, .slice pa pm pc, .int .i64 N.x, .int .i64 N.y, .bool N.cut, .int .i64 N.clip.1, .int .i64 N.clip.2.1, .int .i64 N.clip.2.2.1, .int .i64 N.clip.2.2.2, .slice none 0 0] 212)).drew) := ((Below.refl _ _).alloc (Nat.le_refl _) _).drew
        have hB10 : Blk ((W9.alloc (.cells #[.int .i64 N.w, .int .i64 N.h, .slice pa pm pc, .int .i64 N.x, .int .i64 N.y, .bool N.cut, .int .i64 N.clip.1, .int .i64 N.clip.2.1, .int .i64 N.clip.2.2.1, .int .i64 N.clip.2.2.2, .slice none 0 0] 212)).drew) W9.heap.size 212 #[.int .i64 N.w, .int .i64 N.h, .slice pa pm pc, .int .i64 N.x, .int .i64 N.y, .bool N.cut, .int .i64 N.clip.1, .int .i64 N.clip.2.1, .int .i64 N.clip.2.2.1, .int .i64 N.clip.2.2.2, .slice none 0 0] := heap_alloc_new W9 _
        have hz10 : ((W9.alloc (.cells #[.int .i64 N.w, .int .i64 N.h, .slice pa pm pc, .int .i64 N.x, .int .i64 N.y, .bool N.cut, .int .i64 N.clip.1, .int .i64 N.clip.2.1, .int .i64 N.clip.2.2.1, .int .i64 N.clip.2.2.2, .slice none 0 0] 212)).drew).heap.size = W9.heap.size + 1 := by simp
        generalize (W9.alloc (.cells #[.int .i64 N.w, .int .i64 N.h, .slice pa pm pc, .int .i64 N.x, .int .i64 N.y, .bool N.cut, .int .i64 N.clip.1, .int .i64 N.clip.2.1, .int .i64 N.clip.2.2.1, .int .i64 N.clip.2.2.2, .slice none 0 0] 212)).drew = Wx at *
        have hbx : Below wr.heap.size wr Wx := HB9.out.2.1.trans (hb10.mono HB9.out.2.1.size)
        have hBr : Blk Wx w5.heap.size 53 #[.int .i64 r.1, .int .i64 r.2.1, .int .i64 r.2.2.1, .int .i64 r.2.2.2] := (hb10.block _ (by have := HZ9.out; omega)).trans HB9.out.1
        have hox := own_keep HO.out.1 (w' := Wx) fun b hb => hbx.block b (HO.out.1.lt b hb).2
        obtain ⟨lcur, hlt9⟩ := hlty
        have hlx : Wx.heap[lg]? = some (.cells lcur 3 (0, 0)) := by rw [hbx.block lg hlgr, HO.out.2.1.block lg hlg]; exact hlt9
        have hclx := (F9.out Wx hb10).2.1
        have F10 : Hid (∀ w' : World, w'.heap[lg]? = Wx.heap[lg]? → w'.heap[W9.heap.size]? = Wx.heap[W9.heap.size]? → w'.heap[w5.heap.size]? = Wx.heap[w5.heap.size]? → w'.cell? ⟨lg, k, none⟩ = some (.int .i64 j) ∧ w'.cell? ⟨W9.heap.size, 0, none⟩ = some (.int .i64 N.w) ∧ w'.cell? ⟨W9.heap.size, 1, none⟩ = some (.int .i64 N.h) ∧ w'.cell? ⟨w5.heap.size, 0, none⟩ = some (.int .i64 r.1) ∧ w'.cell? ⟨w5.heap.size, 1, none⟩ = some (.int .i64 r.2.1) ∧ w'.cell? ⟨w5.heap.size, 2, none⟩ = some (.int .i64 r.2.2.1) ∧ w'.cell? ⟨w5.heap.size, 3, none⟩ = some (.int .i64 r.2.2.2)) := fun W e1 e2 e3 => by
          have q1 : Blk W W9.heap.size _ _ := e2.trans hB10
          have q2 : Blk W w5.heap.size _ _ := e3.trans hBr
          exact ⟨(World.cell?_of_block (a := ⟨lg, k, none⟩) e1).trans hclx, q1.cell 0, q1.cell 1, q2.cell 0, q2.cell 1, q2.cell 2, q2.cell 3⟩
        have HG : Hid (∀ (o : Obj) (w6 : World), (Wx.alloc o).drew.grownBy w6 (Value.slice va nL vc).ownBlock → w6.heap[lg]? = Wx.heap[lg]? ∧ w6.heap[W9.heap.size]? = Wx.heap[W9.heap.size]? ∧ w6.heap[w5.heap.size]? = Wx.heap[w5.heap.size]?) := fun o w6 hg => by
          have key : ∀ (b : Nat) (cur : Array Value) (T : TypeId), T ≠ 59 → Wx.heap[b]? = some (.cells cur T (0, 0)) → w6.heap[b]? = Wx.heap[b]? := fun b cur T hT hb => by
            have hbl := (Array.getElem?_eq_some_iff.1 hb).1
            rw [hg.block b (by show b < (Wx.alloc o).heap.size; simp; omega) (fun e => by
              obtain ⟨c9, h9⟩ := own_type hox e.symm
              exact ne_of_type hb h9 hT rfl)]
            exact heap_old Wx o b hbl
          exact ⟨key lg lcur _ (by decide) hlx, key _ _ _ (by decide) hB10, key _ _ _ (by decide) hBr⟩
        obtain ⟨a1, a2, a3, a4, a5, a6, a7⟩ := F10.out Wx rfl rfl rfl
        have HX := hide (And.intro hox (And.intro hbx hz10))
        have hWx : w1.heap.size ≤ Wx.heap.size := by have := hbx.size; omega
        have hlX : lg < Wx.heap.size := (Array.getElem?_eq_some_iff.1 hlx).1
        have hL9 : W9.heap.size < Wx.heap.size := by omega
        have hL5 : w5.heap.size < Wx.heap.size := by have := HZ9.out; omega
        clear hox hbx hz10 hB10 hBr hlx hclx hb10 t0 t1 t2 t3 t4 t5 t6 t7 t8 t9 t10 t11 t12
        go_region_held3 (fun w' => w'.cell? ⟨lg, k, none⟩ = some (.int .i64 j) ∧ w'.cell? ⟨W9.heap.size, 0, none⟩ = some (.int .i64 N.w) ∧ w'.cell? ⟨W9.heap.size, 1, none⟩ = some (.int .i64 N.h) ∧ w'.cell? ⟨w5.heap.size, 0, none⟩ = some (.int .i64 r.1) ∧ w'.cell? ⟨w5.heap.size, 1, none⟩ = some (.int .i64 r.2.1) ∧ w'.cell? ⟨w5.heap.size, 2, none⟩ = some (.int .i64 r.2.2.1) ∧ w'.cell? ⟨w5.heap.size, 3, none⟩ = some (.int .i64 r.2.2.2))
          (first
            | exact F10.out _ rfl rfl rfl
            | exact F10.out _ (heap_old Wx _ lg hlX) (heap_old Wx _ _ hL9) (heap_old Wx _ _ hL5)
            | exact F10.out _ H6.out.2.1 H6.out.2.2.1 H6.out.2.2.2
            | fail)
          (first
            | (refine step_append_lies _ (by rfl) (.tmp 49) (.tmp 62) _ (by rfl) w1.heap.size 59 i0 _ 9 72 Tryz.underlying56 hi0 hz0 hz1 hz2 rfl (by omega) (.slice va nL vc) nL ((st.vis (D.take k)).flatMap (vCells st)) (by rfl) (by have h9 := HX.out.1; rw [HO.out.2.2] at h9; exact (h9.alloc _).drew) ⟨Wx.heap.size, 0, none⟩ 1 1 [.int .i64 (j : Int), .int .i64 PX, .int .i64 PY, .int .i64 N.w, .int .i64 N.h, .int .i64 r.1, .int .i64 r.2.1, .int .i64 r.2.2.1, .int .i64 r.2.2.2] (by rfl) (by rfl) (World.news_of_block (cs := #[.int .i64 (j : Int), .int .i64 PX, .int .i64 PY, .int .i64 N.w, .int .i64 N.h, .int .i64 r.1, .int .i64 r.2.1, .int .i64 r.2.2.1, .int .i64 r.2.2.2]) (t := 59) (fr := (0, 0)) (heap_alloc_new Wx _)) (by simp [Value.oneCell']) (by omega) (by unfold maxLen; omega) (by omega) (by simp; omega) (Wx.heap.size + 1) (by simp) ?_; intro gg cp w6 hown6 hgrow hat hlt10; have H6 := hide (And.intro (And.intro hown6 hgrow) (HG.out _ w6 hgrow)); clear hown6 hgrow hat)
            | fail)
        go_wp2
        go_roundg gk
        case measure => omega
        case rel =>
          refine ⟨k + 1, by go_num, by omega, ?_, ?_⟩
          · have e9 := HN.out
            rw [if_pos trivial] at e9
            unfold OwnV
            rw [e9, List.length_append, HO.out.2.2, List.flatMap_append, List.flatMap_singleton, HVc.out]
            exact H6.out.1.1
          · have hq9 := HO.out.2.1.trans (HX.out.2.1.mono hsz)
            exact ((hq9.alloc hWx _).drew).grown H6.out.1.2 (by show w1.heap.size ≤ (Wx.alloc _).heap.size; simp; omega) fun b hb => (HO.out.1.lt b hb).1

end Go.Proofs.YtofinpocigbbeaaGreat
