import Derived.Test.YtofinpocigbbeaaGreatRfs
import Derived.Maps.AppendAt
namespace Go.Proofs.YtofinpocigbbeaaGreat
open Go.RowKit

set_option maxRecDepth 100000 in
set_option maxHeartbeats 1000000 in
theorem refAll_any (l : List (Int × Int × Int × Int)) (v : Value) (w : World) (h : RectsAt w v l) (hl : l.length ≤ maxLen) :
    Calls Tryz.prog 120 #[v] w fun e w' => e = .returned (.int .i64 (if l.all fitR = true then 0 else 3)) ∧ Below w.heap.size w w' := by
  unfold maxLen at hl
  have HR := hide h
  obtain ⟨va, vc, hv⟩ := h.form
  obtain ⟨n, hn⟩ : ∃ n, l.length = n := ⟨_, rfl⟩
  have HN := hide hn
  rw [hn] at hv hl
  have HV := hide hv
  rw [hv]
  obtain ⟨res, hres⟩ : ∃ r : Int, (if l.all fitR = true then 0 else 3) = r := ⟨_, rfl⟩
  rw [hres]
  have HRes := hide hres
  clear h hv hn hres
  go_enter Tryz.func120, Tryz.ntmps120
  go_wp2
  go_loopg [3] n (fun g s3 wr => ∃ q : Nat, s3 = .int .i64 q ∧ g + q = n ∧ (∀ r ∈ l.take q, fitR r = true) ∧ Below w.heap.size w wr)
  case atStart => exact ⟨0, rfl, by omega, fun r hr => by simp at hr, Below.refl _ _⟩
  case round =>
    obtain ⟨q, rfl, hgq, hfit, hbr⟩ := hrel
    cases gk with
    | zero =>
      have hq : ¬ (q : Int) < (n : Int) := by omega
      have HY := hide (And.intro hfit hbr)
      clear hfit hbr
      go_wp2
      go_ret
      refine ⟨ret_int ?_, HY.out.2⟩
      rw [← HRes.out, if_pos]
      rw [List.all_eq_true]
      have := HY.out.1
      rw [List.take_of_length_le (by have := HN.out; omega)] at this
      exact this
    | succ gq =>
      have hq : (q : Int) < (n : Int) := by omega
      have hqn : q < n := by omega
      have hql : q < l.length := by rw [HN.out]; exact hqn
      obtain ⟨x', c', hx', hcs⟩ := HR.out.below hbr
      rw [HV.out, HN.out] at hx'
      simp at hx'
      obtain ⟨rfl, rfl⟩ := hx'
      obtain ⟨b, off, rfl, hct⟩ := hcs (by omega)
      obtain ⟨c1, c2, c3, c4⟩ := hct q hql
      obtain ⟨⟨x0, y0, x1, y1⟩, hr⟩ : ∃ r, l[q] = r := ⟨_, rfl⟩
      rw [hr] at c1 c2 c3 c4
      simp only at c1 c2 c3 c4
      have hzb := cell_lt c1
      have hwr := hbr.size
      have hM := fun W => refFits_any x0 y0 x1 y1 W
      obtain ⟨p, hp⟩ : ∃ p, fitR (x0, y0, x1, y1) = p := ⟨_, rfl⟩
      rw [hp] at hM
      have HY := hide (And.intro hfit (And.intro hbr (And.intro hr hp)))
      clear hfit hbr hr hp hcs hct
      cases p with
      | true =>
        go_wp2_with (go_at_call 174; refine (hM _).mono ?_; rintro e w' ⟨rfl, hb1⟩; have HB1 := hide hb1; clear hb1)
        go_roundg gq
        case measure => omega
        case rel =>
          obtain ⟨hfit, hbr, hr, hp⟩ := HY.out
          refine ⟨q + 1, by go_num, by omega, fun r hr' => ?_, hbr.trans (HB1.out.mono hwr)⟩
          rw [List.take_succ_eq_append_getElem hql, hr] at hr'
          simp at hr'
          rcases hr' with h | h
          · exact hfit r h
          · subst h; exact hp
      | false =>
        go_wp2_with (go_at_call 174; refine (hM _).mono ?_; rintro e w' ⟨rfl, hb1⟩; have HB1 := hide hb1; clear hb1)
        go_ret
        obtain ⟨hfit, hbr, hr, hp⟩ := HY.out
        refine ⟨ret_int ?_, hbr.trans (HB1.out.mono hwr)⟩
        rw [← HRes.out, if_neg]
        rw [Bool.not_eq_true, List.all_eq_false]
        exact ⟨l[q], List.getElem_mem hql, by rw [hr, hp]; simp⟩

/-- A list of numbers that the call has made. -/
def OwnI (w : World) (base : Nat) (v : Value) (E : List Int) : Prop := w.ownsRow base 3 1 v E.length (E.map (Value.int .i64)) ∧ (E = [] → v = .slice none 0 0)

theorem OwnI.at {w : World} {base : Nat} {v : Value} {E : List Int} (h : OwnI w base v E) (hne : E ≠ []) : ∃ g c, v = .slice (some ⟨g, 0, none⟩) E.length c ∧ base ≤ g ∧ g < w.heap.size ∧ E.length ≤ c ∧ ∀ j (hj : j < E.length), w.cell? ⟨g, j, none⟩ = some (.int .i64 E[j]) := by
  have hpos : 0 < E.length := by cases E with
    | nil => exact absurd rfl hne
    | cons a E => simp
  obtain ⟨h1, h2⟩ := h
  have hf := h1.form hpos
  obtain ⟨g, c, rfl, hb, hl⟩ := hf
  have cs := h1.cells (g := g) rfl
  refine ⟨g, c, rfl, hb, hl, ?_, fun j hj => ?_⟩
  · rcases h1.2 with ⟨h, _⟩ | ⟨g', cap, cur, e, _, _, hle, _⟩
    · simp at h
    · simp at e; omega
  · have := cs j (.int .i64 E[j]) (by rw [List.getElem?_map, List.getElem?_eq_getElem hj]; rfl)
    rw [add_at] at this
    exact this

theorem intInfo : (Tryz.prog.info? 3).map (fun i => (i.zero, i.size, i.bytes)) = some (some (.int .i64 0), 1, 8) := by kernel_rfl

end Go.Proofs.YtofinpocigbbeaaGreat
