import Derived.Test.YtofinpocigbbeaaGreatKaf
import Derived.Test.YtofinpocigbbeaaGreatKai
import Derived.BigQuiet
namespace Go.Proofs.YtofinpocigbbeaaGreat
open Go.RowKit
attribute [local go_sem ↓] Go.wp_at_zero Go.wp_at_succ

/-! ### The ring of what was changed -/

set_option maxRecDepth 100000 in
set_option maxHeartbeats 1000000 in
/-- Back -/
theorem back_any (rg nw k q : Nat) (hn : nw < 4) (hk : k < 4) (hq : q = (nw + 4 - k) % 4) (da : Option Addr) (dn dc : Nat) (w : World) (hc : w.cell? ⟨rg, q, none⟩ = some (.slice da dn dc)) :
    Calls Tryz.prog 104 #[.agg #[.slice (some ⟨rg, 0, none⟩) 4 4, .int .i64 nw], .int .i64 k] w fun e w' => e = .returned (.agg #[.slice da dn dc]) ∧ Below w.heap.size w w' := by
  have hl := cell_lt hc
  have e3 : ((nw : Int) - (k : Int) + 4).tmod 4 = q := by rw [Int.tmod_eq_emod_of_nonneg (by omega)]; omega
  have hq4 : q < 4 := by omega
  have hq4' : (q : Int) < 4 := by omega
  have hq0 : (0 : Int) ≤ (q : Int) := by omega
  clear hq
  go_enter Tryz.func104, Tryz.ntmps104
  go_wp2_with fail
  go_region
  go_wp2_with fail
  refine bodyPost_ret (v := .agg #[.slice da dn dc]) (by simp [results, Tryz.results104, go_sem]) rfl ⟨rfl, ?_⟩
  repeat (first | exact Below.refl _ _ | refine Below.drew ?_ | refine Below.setCell ?_ (by simp <;> omega) _ | refine Below.alloc ?_ (by simp <;> omega) _)

set_option maxRecDepth 100000 in
set_option maxHeartbeats 1000000 in
/-- Amend -/
theorem amend_any (c o rg nw : Nat) (hn : nw < 4) (da : Option Addr) (dn dc : Nat) (cs : Array Value) (w : World) (h5 : w.cell? ⟨c, o, none⟩ = some (.slice (some ⟨rg, 0, none⟩) 4 4)) (h6 : w.cell? ⟨c, o + 1, none⟩ = some (.int .i64 nw)) (hr : Blk w rg 136 cs) (hs : cs.size = 4) :
    Calls Tryz.prog 102 #[.pointer (some ⟨c, o, none⟩), .agg #[.slice da dn dc]] w fun e w' => e = .returned (.tuple #[]) ∧ Blk w' rg 136 (cs.setIfInBounds nw (.slice da dn dc)) ∧ Only (fun g => g = rg) w w' := by
  have hl := cell_lt h5
  have hl2 := block_lt hr
  obtain ⟨u, hu⟩ : ∃ u, w.cell? ⟨rg, nw, none⟩ = some u := hr.has.cell nw (by omega)
  have hf := hr.has.free nw
  have HR := hide hr
  clear hr
  have hn' : (nw : Int) < 4 := by omega
  have hn0 : (0 : Int) ≤ (nw : Int) := by omega
  go_enter Tryz.func102, Tryz.ntmps102
  go_wp2_with fail
  go_region
  go_wp2_with fail
  refine bodyPost_end (v := .tuple #[]) (by simp [results, Tryz.results102]) rfl ⟨rfl, ?_, ?_⟩
  · exact ((HR.out.set nw _).alloc _)
  · exact (((Only.refl (fun g => g = rg) w).set (.inl rfl) _).alloc _).drew

set_option maxRecDepth 100000 in
set_option maxHeartbeats 1000000 in
/-- Add -/
theorem ringAdd_any (c rg nw q : Nat) (hn : nw < 4) (hq : q = (nw + 1) % 4) (da : Option Addr) (dn dc : Nat) (cc cs : Array Value) (T : TypeId) (w : World) (hc : Blk w c T cc) (h5 : cc[5]? = some (.slice (some ⟨rg, 0, none⟩) 4 4)) (h6 : cc[6]? = some (.int .i64 nw)) (hr : Blk w rg 136 cs) (hs : cs.size = 4) (hne : c ≠ rg) :
    Calls Tryz.prog 117 #[.pointer (some ⟨c, 5, none⟩), .agg #[.slice da dn dc]] w fun e w' => e = .returned (.tuple #[]) ∧ Blk w' c T (cc.setIfInBounds 6 (.int .i64 q)) ∧ Blk w' rg 136 (cs.setIfInBounds q (.slice da dn dc)) ∧ Only (fun g => g = c ∨ g = rg) w w' := by
  have k5 : w.cell? ⟨c, 5, none⟩ = some (.slice (some ⟨rg, 0, none⟩) 4 4) := (hc.cell 5).trans h5
  have k6 : w.cell? ⟨c, 6, none⟩ = some (.int .i64 nw) := (hc.cell 6).trans h6
  have hl := cell_lt k5
  have hl2 := block_lt hr
  obtain ⟨u, hu⟩ : ∃ u, w.cell? ⟨rg, q, none⟩ = some u := hr.has.cell q (by omega)
  have hf := hr.has.free q
  have hf6 := hc.has.free 6
  have HR := hide hr
  have HC := hide hc
  clear hr hc h5 h6
  have e3 : ((nw : Int) + 1).tmod 4 = q := by rw [Int.tmod_eq_emod_of_nonneg (by omega)]; omega
  have hn' : (q : Int) < 4 := by omega
  have hn'' : q < 4 := by omega
  have hn0 : (0 : Int) ≤ (q : Int) := by omega
  have hne' : rg ≠ c := fun e => hne e.symm
  clear hq
  go_enter Tryz.func117, Tryz.ntmps117
  go_wp2_with fail
  go_region
  go_wp2_with fail
  go_region
  go_wp2_with fail
  refine bodyPost_end (v := .tuple #[]) (by simp [results, Tryz.results117]) rfl ⟨rfl, ?_, ?_, ?_⟩
  · exact (((HC.out.set 6 _).other hne _ _).alloc _)
  · exact (((HR.out.other hne' _ _).set q _).alloc _)
  · exact ((((Only.refl (fun g => g = c ∨ g = rg) w).set (.inl (.inl rfl)) _).set (.inl (.inr rfl)) _).alloc _).drew.drew

end Go.Proofs.YtofinpocigbbeaaGreat
