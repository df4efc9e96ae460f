import Derived.Test.YtofinpocigbbeaaGreatKaa
import Derived.Test.YtofinpocigbbeaaGreatKav
namespace Go.Proofs.YtofinpocigbbeaaGreat
open Go.RowKit
attribute [local go_sem ↓] Go.wp_at_zero Go.wp_at_succ

/-! ### panekeep's own small functions -/

/-- The pixel of a raw number. -/
def pixI (r : Int) : R4 :=
  let v := pickI r 1099511627776
  if v % 6 = 0 then (0, 0, 0, 0)
  else if v % 6 = 1 ∨ v % 6 = 2 then (v / 4096 % 256, v / 65536 % 256, v / 1048576 % 256, 255)
  else if v % 6 = 3 then (v / 4096 % 2, v / 65536 % 2, v / 1048576 % 2, 1)
  else if v % 6 = 4 then (v / 4096 % 129, v / 65536 % 129, v / 1048576 % 129, 128)
  else (v / 4096 % (v / 16 % 256 + 1) % 256, v / 65536 % (v / 16 % 256 + 1) % 256, v / 1048576 % (v / 16 % 256 + 1) % 256, v / 16 % 256)

theorem pixI_fits (r : Int) : (0 ≤ (pixI r).1 ∧ (pixI r).1 ≤ (pixI r).2.2.2) ∧ (0 ≤ (pixI r).2.1 ∧ (pixI r).2.1 ≤ (pixI r).2.2.2) ∧ (0 ≤ (pixI r).2.2.1 ∧ (pixI r).2.2.1 ≤ (pixI r).2.2.2) ∧ (pixI r).2.2.2 ≤ 255 := by
  have hp := pick_bd r 1099511627776 (by omega)
  unfold pixI
  generalize pickI r 1099511627776 = v at hp
  simp only
  split
  · simp
  · split
    · simp only; omega
    · split
      · simp only; omega
      · split
        · simp only; omega
        · exact ⟨mod_bd _ _ (by omega) (by omega), mod_bd _ _ (by omega) (by omega), mod_bd _ _ (by omega) (by omega), by simp only; omega⟩

set_option maxHeartbeats 1000000 in
/-- pixel: the very one. -/
theorem pixelI_any (r : Int) (w : World) (h0 : -9223372036854775808 ≤ r) (h1 : r ≤ 9223372036854775807)  :
    Calls Tryz.prog 67 #[.int .i64 r] w fun x w' => x = .returned (.agg (pixC (pixI r))) ∧ Below w.heap.size w w' := by
  have hp := pick_bd r 1099511627776 (by omega)
  generalize hv : pickI r 1099511627776 = v at hp
  have HV : Hid (pickI r 1099511627776 = v) := hv
  clear hv
  have hcon : ∀ w, Calls Tryz.prog 15 #[.int .i64 r, .int .i64 1099511627776] w fun e w' => e = .returned (.int .i64 v) ∧ w' = w := by
    intro w
    have := pick_any r 1099511627776 w h0 h1 (by omega) (by omega)
    rw [HV.out] at this
    exact this
  clear h0 h1
  obtain ⟨hp0, hp1⟩ := hp
  have h6 : v % 6 = 0 ∨ v % 6 = 1 ∨ v % 6 = 2 ∨ v % 6 = 3 ∨ v % 6 = 4 ∨ v % 6 = 5 := by omega
  rcases h6 with h6 | h6 | h6 | h6 | h6 | h6
  · have HP : Hid (Value.agg #[.int .u8 (0), .int .u8 (0), .int .u8 (0), .int .u8 (0)] = .agg (pixC (pixI r))) := by
      unfold Hid pixC pixI
      rw [HV.out]
      simp [h6]
    go_enter Tryz.func67, Tryz.ntmps67
    go_wp2_with (go_at_call 15; refine (hcon _).mono ?_; rintro x w' ⟨rfl, rfl⟩)
    go_region
    go_wp2
    refine bodyPost_ret (v := .agg #[.int .u8 (0), .int .u8 (0), .int .u8 (0), .int .u8 (0)]) (by simp [results, Tryz.results67, go_sem]) rfl ⟨congrArg Ending.returned HP.out, ?_⟩
    repeat (first | exact Below.refl _ _ | refine Below.drew ?_ | refine Below.alloc ?_ (by simp <;> omega) _)
  · have HP : Hid (Value.agg #[.int .u8 (v / 4096 % 256), .int .u8 (v / 65536 % 256), .int .u8 (v / 1048576 % 256), .int .u8 (255)] = .agg (pixC (pixI r))) := by
      unfold Hid pixC pixI
      rw [HV.out]
      simp [h6]
    go_enter Tryz.func67, Tryz.ntmps67
    go_wp2_with (go_at_call 15; refine (hcon _).mono ?_; rintro x w' ⟨rfl, rfl⟩)
    go_region
    go_wp2
    refine bodyPost_ret (v := .agg #[.int .u8 (v / 4096 % 256), .int .u8 (v / 65536 % 256), .int .u8 (v / 1048576 % 256), .int .u8 (255)]) (by simp [results, Tryz.results67, go_sem]) rfl ⟨congrArg Ending.returned HP.out, ?_⟩
    repeat (first | exact Below.refl _ _ | refine Below.drew ?_ | refine Below.alloc ?_ (by simp <;> omega) _)
  · have HP : Hid (Value.agg #[.int .u8 (v / 4096 % 256), .int .u8 (v / 65536 % 256), .int .u8 (v / 1048576 % 256), .int .u8 (255)] = .agg (pixC (pixI r))) := by
      unfold Hid pixC pixI
      rw [HV.out]
      simp [h6]
    go_enter Tryz.func67, Tryz.ntmps67
    go_wp2_with (go_at_call 15; refine (hcon _).mono ?_; rintro x w' ⟨rfl, rfl⟩)
    go_region
    go_wp2
    refine bodyPost_ret (v := .agg #[.int .u8 (v / 4096 % 256), .int .u8 (v / 65536 % 256), .int .u8 (v / 1048576 % 256), .int .u8 (255)]) (by simp [results, Tryz.results67, go_sem]) rfl ⟨congrArg Ending.returned HP.out, ?_⟩
    repeat (first | exact Below.refl _ _ | refine Below.drew ?_ | refine Below.alloc ?_ (by simp <;> omega) _)
  · have HP : Hid (Value.agg #[.int .u8 (v / 4096 % 2), .int .u8 (v / 65536 % 2), .int .u8 (v / 1048576 % 2), .int .u8 (1)] = .agg (pixC (pixI r))) := by
      unfold Hid pixC pixI
      rw [HV.out]
      simp [h6]
    go_enter Tryz.func67, Tryz.ntmps67
    go_wp2_with (go_at_call 15; refine (hcon _).mono ?_; rintro x w' ⟨rfl, rfl⟩)
    go_region
    go_wp2
    refine bodyPost_ret (v := .agg #[.int .u8 (v / 4096 % 2), .int .u8 (v / 65536 % 2), .int .u8 (v / 1048576 % 2), .int .u8 (1)]) (by simp [results, Tryz.results67, go_sem]) rfl ⟨congrArg Ending.returned HP.out, ?_⟩
    repeat (first | exact Below.refl _ _ | refine Below.drew ?_ | refine Below.alloc ?_ (by simp <;> omega) _)
  · have HP : Hid (Value.agg #[.int .u8 (v / 4096 % 129), .int .u8 (v / 65536 % 129), .int .u8 (v / 1048576 % 129), .int .u8 (128)] = .agg (pixC (pixI r))) := by
      unfold Hid pixC pixI
      rw [HV.out]
      simp [h6]
    go_enter Tryz.func67, Tryz.ntmps67
    go_wp2_with (go_at_call 15; refine (hcon _).mono ?_; rintro x w' ⟨rfl, rfl⟩)
    go_region
    go_wp2
    refine bodyPost_ret (v := .agg #[.int .u8 (v / 4096 % 129), .int .u8 (v / 65536 % 129), .int .u8 (v / 1048576 % 129), .int .u8 (128)]) (by simp [results, Tryz.results67, go_sem]) rfl ⟨congrArg Ending.returned HP.out, ?_⟩
    repeat (first | exact Below.refl _ _ | refine Below.drew ?_ | refine Below.alloc ?_ (by simp <;> omega) _)
  · have HP : Hid (Value.agg #[.int .u8 (v / 4096 % (v / 16 % 256 + 1) % 256), .int .u8 (v / 65536 % (v / 16 % 256 + 1) % 256), .int .u8 (v / 1048576 % (v / 16 % 256 + 1) % 256), .int .u8 (v / 16 % 256)] = .agg (pixC (pixI r))) := by
      unfold Hid pixC pixI
      rw [HV.out]
      simp [h6]
    go_enter Tryz.func67, Tryz.ntmps67
    go_wp2_with (go_at_call 15; refine (hcon _).mono ?_; rintro x w' ⟨rfl, rfl⟩)
    go_region
    go_wp2
    refine bodyPost_ret (v := .agg #[.int .u8 (v / 4096 % (v / 16 % 256 + 1) % 256), .int .u8 (v / 65536 % (v / 16 % 256 + 1) % 256), .int .u8 (v / 1048576 % (v / 16 % 256 + 1) % 256), .int .u8 (v / 16 % 256)]) (by simp [results, Tryz.results67, go_sem]) rfl ⟨congrArg Ending.returned HP.out, ?_⟩
    repeat (first | exact Below.refl _ _ | refine Below.drew ?_ | refine Below.alloc ?_ (by simp <;> omega) _)

end Go.Proofs.YtofinpocigbbeaaGreat

namespace Go.Proofs.YtofinpocigbbeaaGreat
open Go.RowKit
attribute [local go_sem ↓] Go.wp_at_zero Go.wp_at_succ

/-- The i-th pixel of a pattern. -/
def imgI (raw : Int) (i : Nat) : R4 := pixI (IntKind.i64.wrap (raw + (i : Int) / (1 + pickI raw 7) * 12345))

def imgL (raw : Int) (n : Nat) : List R4 := (List.range n).map (imgI raw)

theorem imgL_len (raw : Int) (n : Nat) : (imgL raw n).length = n := by simp [imgL]

theorem imgL_succ (raw : Int) (n : Nat) : imgL raw (n + 1) = imgL raw n ++ [imgI raw n] := by simp [imgL, List.range_succ]

set_option maxRecDepth 100000 in
set_option maxHeartbeats 1000000 in
/-- image -/
theorem image_any (W H : Nat) (raw : Int) (hr : -9223372036854775808 ≤ raw ∧ raw ≤ 9223372036854775807) (hW : W ≤ 24) (hH : H ≤ 24) (w : World) :
    Calls Tryz.prog 33 #[.int .i64 W, .int .i64 H, .int .i64 raw] w fun e w' => ∃ v, e = .returned v ∧ w'.ownsRow w.heap.size 51 4 v (W * H) (pixCells (imgL raw (W * H))) ∧ Below w.heap.size w w' := by
  obtain ⟨i0, hi0, hz0, hz1, hz2⟩ := info_parts pixInfo
  obtain ⟨n, hn⟩ : ∃ n, W * H = n := ⟨_, rfl⟩
  have hn2 : n ≤ 576 := by rw [← hn]; exact Nat.le_trans (Nat.mul_le_mul hW hH) (by omega)
  have e1 : (W : Int) * (H : Int) = (n : Int) := by rw [← hn]; simp
  rw [hn]
  obtain ⟨p, hp⟩ : ∃ p, pickI raw 7 = p := ⟨_, rfl⟩
  have hpb := pick_bd raw 7 (by omega)
  rw [hp] at hpb
  have HPk : Hid (∀ w : World, Calls Tryz.prog 15 #[.int .i64 raw, .int .i64 7] w fun e w' => e = .returned (.int .i64 p) ∧ w' = w) := fun w => by
    have := pick_any raw 7 w hr.1 hr.2 (by omega) (by omega)
    rw [hp] at this
    exact this
  have HPx : Hid (∀ (w : World) (T : Int), -9223372036854775808 ≤ T ∧ T ≤ 9223372036854775807 → Calls Tryz.prog 67 #[.int .i64 T] w fun x w' => x = .returned (.agg #[.int .u8 (pixI T).1, .int .u8 (pixI T).2.1, .int .u8 (pixI T).2.2.1, .int .u8 (pixI T).2.2.2]) ∧ Below w.heap.size w w') := fun w T hT => pixelI_any T w hT.1 hT.2
  have HI : Hid (∀ i : Nat, imgI raw i = pixI (IntKind.i64.wrap (raw + (i : Int) / (1 + p) * 12345))) := fun i => by rw [← hp]; rfl
  clear hn hp
  obtain ⟨hp0, hp1⟩ := hpb
  go_enter Tryz.func33, Tryz.ntmps33
  go_wp2_with fail
  go_loopg [7, 8] n (fun gg s7 s8 wr => ∃ k : Nat, s8 = .int .i64 k ∧ gg + k = n ∧ wr.ownsRow w.heap.size 51 4 s7 k (pixCells (imgL raw k)) ∧ Below w.heap.size w wr)
  case atStart => exact ⟨0, rfl, by omega, World.ownsRow_nil _ _ _ _, Below.refl _ _⟩
  case round =>
    rename World => wr
    rename Value => s7
    obtain ⟨k, rfl, hgk, ho, hb⟩ := hrel
    have HO := hide (And.intro ho hb)
    obtain ⟨sa, sc, rfl⟩ := row_form ho
    clear ho hb
    cases gk with
    | zero =>
      have hlt : ¬ (k : Int) < (n : Int) := by omega
      have hkn : k = n := by omega
      subst hkn
      go_wp2_with fail
      go_ret
      exact ⟨_, rfl, HO.out⟩
    | succ gk =>
      have hlt : (k : Int) < (n : Int) := by omega
      obtain ⟨Q, hQ⟩ : ∃ Q : Nat, (k : Int) / (1 + p) = Q := ⟨((k : Int) / (1 + p)).toNat, by have := Int.ediv_nonneg (show (0 : Int) ≤ k by omega) (show (0 : Int) ≤ 1 + p by omega); omega⟩
      have hQb : (Q : Int) ≤ 576 := by rw [← hQ]; have := Int.ediv_le_self (1 + p) (show (0 : Int) ≤ k by omega); omega
      have e2 : (k : Int).tdiv (1 + p) = Q := by rw [Int.tdiv_eq_ediv_of_nonneg (by omega)]; exact hQ
      obtain ⟨T, hT⟩ : ∃ T, IntKind.i64.wrap (raw + (Q : Int) * 12345) = T := ⟨_, rfl⟩
      have hTb : -9223372036854775808 ≤ T ∧ T ≤ 9223372036854775807 := by rw [← hT, IntKind.wrap_i64]; omega
      have HPx2 := hide (fun w => HPx.out w T hTb)
      have HIk : Hid (imgI raw k = pixI T) := by rw [Hid, HI.out, hQ, hT]
      obtain ⟨P, hP⟩ : ∃ P, pixI T = P := ⟨_, rfl⟩
      rw [hP] at HPx2 HIk
      have hpz : ¬ (1 + p) = 0 := by omega
      clear hP hQ
      go_wp2_with (first
        | (go_at_call 15; refine (HPk.out _).mono ?_; rintro e w1 ⟨rfl, rfl⟩)
        | (go_at_call 67; refine (HPx2.out _).mono ?_; rintro e w2 ⟨rfl, b2⟩; have H2 := hide b2; clear b2)
        | (at_builtin; refine wpList_append_lies _ rfl (.tmp 16) (.tmp 26) 44 rfl w.heap.size 51 i0 _ 4 4 Tryz.underlying44 hi0 hz0 hz1 hz2 rfl (by decide) (.slice sa k sc) k (pixCells (imgL raw k)) rfl ((own_keep HO.out.1 fun g hg => H2.out.block g (HO.out.1.lt g hg).2).alloc _) ⟨w2.heap.size, 0, none⟩ 1 1 (pixCells [P]) rfl rfl (World.news_of_block (cs := #[.int .u8 P.1, .int .u8 P.2.1, .int .u8 P.2.2.1, .int .u8 P.2.2.2]) (t := 51) (fr := (0, 0)) (heap_alloc_new w2 _)) (pix_oneCell _) (by omega) (by unfold maxLen; omega) (by omega) (by have := HO.out.2.size; have := H2.out.size; simp; omega) _ rfl ?_; intro g4 c4 w4 ho4 hg4 ha4 hl4; have H4 := hide (And.intro ho4 ((((HO.out.2.trans (H2.out.mono HO.out.2.size)).alloc (Nat.le_trans HO.out.2.size H2.out.size) _).grown hg4 (by have := HO.out.2.size; have := H2.out.size; simp; omega) (fun q hq => (HO.out.1.lt q hq).1)))); clear ho4 hg4 ha4 hl4)
        | fail)
      go_roundg gk
      case measure => omega
      case rel =>
        refine ⟨k + 1, by go_num, by omega, ?_, H4.out.2⟩
        rw [imgL_succ, pixCells_append, HIk.out]
        exact H4.out.1

end Go.Proofs.YtofinpocigbbeaaGreat
