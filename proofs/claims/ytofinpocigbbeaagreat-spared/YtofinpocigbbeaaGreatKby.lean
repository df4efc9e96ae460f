import Derived.Test.YtofinpocigbbeaaGreatKbx
namespace Go.Proofs.YtofinpocigbbeaaGreat
open Go.RowKit
attribute [local go_sem ↓] Go.wp_at_zero Go.wp_at_succ

set_option maxRecDepth 100000 in
set_option maxHeartbeats 4000000 in
/-- begun -/
theorem begun_any (n : Nat) (hn : 1 ≤ n ∧ n ≤ 3) (w : World) :
    Calls Tryz.prog 12 #[.int .i64 n] w fun e w' => ∃ vb, e = .returned (.tuple #[.pointer (some ⟨vb, 0, none⟩), .bool true]) ∧ ∃ d, AlvOk w' (fun g => w.heap.size ≤ g ∧ g < w'.heap.size) vb bg5 d [] ∧ BgD n d ∧ Below w.heap.size w w' := by
  have HN := hide (bg_new n hn w)
  have Hn := hide hn.1
  clear hn
  go_enter Tryz.func12, Tryz.ntmps12
  go_upto_region 6 with (first
    | (go_at_call 26; refine HN.out.mono ?_; rintro e w1 ⟨x, rfl, A1, L, hl, hI⟩; have HI1 := hide hI; have HL := hide hl; clear hI hl HN)
    | (go_at_call 27; refine (bg_mk HI1.out).mono ?_; rintro e w2 ⟨rfl, A2, hI⟩; have HI2 := hide hI; clear hI HI1))
  obtain ⟨rb, hrb⟩ : ∃ rb, w2.heap.size = rb := ⟨_, rfl⟩
  obtain ⟨W2, hW2⟩ : ∃ W2, W2 = w2.alloc (.cells #[.int .u8 200, .int .u8 0, .int .u8 0, .int .u8 255] 51) := ⟨_, rfl⟩
  have hI3 : BgI w W2 A2 x bg1 (Cv.new 8 7 L) rb := by
    rw [hW2, ← hrb]
    exact ⟨HI2.out.below ((Below.refl _ _).alloc (Nat.le_refl _) _), heap_alloc_new w2 _, fun hA => by have := (HI2.out.lo _ hA).2; omega⟩
  rw [← hW2, hrb]
  have HI3 := hide hI3
  have r0 : W2.cell? ⟨rb, 0, none⟩ = some (.int .u8 200) := hI3.red.cell 0
  have r1 : W2.cell? ⟨rb, 1, none⟩ = some (.int .u8 0) := hI3.red.cell 1
  have r2 : W2.cell? ⟨rb, 2, none⟩ = some (.int .u8 0) := hI3.red.cell 2
  have r3 : W2.cell? ⟨rb, 3, none⟩ = some (.int .u8 255) := hI3.red.cell 3
  clear hI3 HI2 hW2 hrb
  go_upto_region 10 with (first
    | (go_at_call 28; refine (bg_att HI3.out ((Below.refl _ _).alloc (Nat.le_refl _) _) (heap_alloc_new _ _)).mono ?_; rintro e w4 ⟨rfl, A4, hI⟩; have HI4 := hide hI; clear hI HI3 r0 r1 r2 r3)
    | (go_at_call 29; refine (bg_off HI4.out).mono ?_; rintro e w5 ⟨rfl, A5, hI⟩; have HI5 := hide hI; clear hI HI4)
    | (go_at_call 30; refine (bg_com Hn.out HL.out HI5.out).mono ?_; rintro e w6 ⟨rfl, A6, d6, hI, hd⟩; have HI6 := hide hI; have HD6 := hide hd; clear hI hd HI5)
    | (go_at_call 14; refine (bg_rp1 HI6.out HD6.out).mono ?_; rintro e w7 ⟨ra, rn, rq, rfl, A7, d7, hI, hd⟩; have HI7 := hide hI; have HD7 := hide hd; clear hI hd HI6 HD6))
  obtain ⟨pb, hpb⟩ : ∃ pb, w7.heap.size = pb := ⟨_, rfl⟩
  obtain ⟨W7, hW7⟩ : ∃ W7, W7 = w7.alloc (.cells #[.slice ra rn rq, .int .i64 1] 35) := ⟨_, rfl⟩
  have hI8 : BgP w W7 A7 x bg4 d7 rb pb #[.slice ra rn rq, .int .i64 1] := by
    rw [hW7, ← hpb]
    exact ⟨HI7.out.below ((Below.refl _ _).alloc (Nat.le_refl _) _), heap_alloc_new w7 _, fun hA => by have := (HI7.out.lo _ hA).2; omega, HI7.out.bel.size⟩
  rw [← hW7, hpb]
  have HI8 := hide hI8
  clear hI8 HI7 hW7 hpb
  go_upto_region 12 with (go_at_call 31; refine (bg_look HI8.out HD7.out).mono ?_; rintro e w8 ⟨lg, lq, rfl, hlq, hcs, hb⟩; have HI9 := hide (HI8.out.below hb); have p1 : w8.cell? ⟨pb, 1, none⟩ = some (.int .i64 1) := HI9.out.pt.cell 1; have HC := hide hcs; clear hb hcs)
  clear p1 HI8
  obtain ⟨l0, l1, l2, l3, l4, l5, l6, l7⟩ := HC.out
  have r0 : w8.cell? ⟨rb, 0, none⟩ = some (.int .u8 200) := HI9.out.red.cell 0
  have r1 : w8.cell? ⟨rb, 1, none⟩ = some (.int .u8 0) := HI9.out.red.cell 1
  have r2 : w8.cell? ⟨rb, 2, none⟩ = some (.int .u8 0) := HI9.out.red.cell 2
  have r3 : w8.cell? ⟨rb, 3, none⟩ = some (.int .u8 255) := HI9.out.red.cell 3
  have h10 : 10 < lq := by omega
  have h11 : 11 < lq := by omega
  have hq := eqPix
  go_region
  clear hq l0 l1 l2 l3 l4 l5 l6 l7 r0 r1 r2 r3 HC
  go_upto_region 17 with (first
    | (go_at_call 32; refine (bg_des (HI9.out.below ?_) HD7.out).mono ?_; (repeat (first | with_reducible exact Below.refl _ _ | with_reducible refine Below.drew ?_)); rintro e w9 ⟨rfl, A9, d9, hI, hd⟩; have HI10 := hide hI; have HD9 := hide hd; clear hI hd HI9 HD7)
    | (go_at_call 14; refine (bg_rp2 HI10.out HD9.out).mono ?_; rintro e w10 ⟨ra2, rq2, rfl, A10, d10, hI, hd⟩; have HI11 := hide hI; have HD10 := hide hd; have c0 := hI.pt.cell 0; have c1 := hI.pt.cell 1; have f0 := hI.pt.has.free 0; have f1 := hI.pt.has.free 1; simp only [List.getElem?_toArray, List.getElem?_cons_zero, List.getElem?_cons_succ] at c0 c1; clear hI hd HI10 HD9))
  obtain ⟨W11, hW11⟩ : ∃ W, W = (w10.setCell ⟨pb, 0, none⟩ (.slice ra2 1 rq2)).setCell ⟨pb, 1, none⟩ (.int .i64 0) := ⟨_, rfl⟩
  have hI12 := HI11.out.put (.slice ra2 1 rq2) (.int .i64 0)
  rw [← hW11] at hI12
  rw [← hW11]
  have HI12 := hide hI12
  clear hI12 HI11 hW11 c0 c1 f0 f1
  go_wp2_with fail
  exact bodyPost_ret (v := .tuple #[.pointer (some ⟨W11.heap.size, 0, none⟩), .bool true]) (by simp [results, Tryz.results12, go_sem]) rfl ⟨_, rfl, _, (bg_done HI12.out).1, HD10.out, (bg_done HI12.out).2⟩

end Go.Proofs.YtofinpocigbbeaaGreat
