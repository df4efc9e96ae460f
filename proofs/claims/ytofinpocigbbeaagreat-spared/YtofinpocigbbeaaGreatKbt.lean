import Derived.Test.YtofinpocigbbeaaGreatKbs
import Derived.Deep.RegionHeld3
namespace Go.Proofs.YtofinpocigbbeaaGreat
open Go.RowKit
attribute [local go_sem ↓] Go.wp_at_zero Go.wp_at_succ

set_option maxRecDepth 100000 in
set_option maxHeartbeats 4000000 in
/-- (*alive).does, where there are surfaces, and the step makes none. -/
theorem does_two {w : World} {S A : Nat → Prop} {vb x : Nat} {lv : Value} {st : St} (hf : Fine st) {d : Cv} {ids : List Int} (h : AlvX w S A vb x lv st d ids) (hn : ids.length ≤ 100000) (h0 : 0 < ids.length) (tk ta tb tc td : Int) (hk2 : 2 ≤ pickI tk 16) (ty : Bool) (ht : StepOk ⟨tk, ta, tb, tc, td, ty⟩) :
    Calls Tryz.prog 13 #[.pointer (some ⟨vb, 0, none⟩), .agg #[.int .i64 tk, .int .i64 ta, .int .i64 tb, .int .i64 tc, .int .i64 td, .bool ty]] w (DoPost S vb d (stepM st ids ⟨tk, ta, tb, tc, td, ty⟩) w) := by
  obtain ⟨n, hnn⟩ : ∃ n, ids.length = n := ⟨_, rfl⟩
  obtain ⟨K, hK⟩ : ∃ K, pickI tk 16 = K := ⟨_, rfl⟩
  obtain ⟨PC, hPC⟩ : ∃ K, pickI tc 12 = K := ⟨_, rfl⟩
  obtain ⟨PD, hPD⟩ : ∃ K, pickI td 12 = K := ⟨_, rfl⟩
  obtain ⟨PA, hPA⟩ : ∃ K, pickI ta n = K := ⟨_, rfl⟩
  obtain ⟨PB, hPB⟩ : ∃ K, pickI tb n = K := ⟨_, rfl⟩
  have bK := pick_bd tk 16 (by omega)
  have bC := pick_bd tc 12 (by omega)
  have bD := pick_bd td 12 (by omega)
  have bA := pick_bd ta n (by omega)
  have bB := pick_bd tb n (by omega)
  rw [hK] at bK hk2
  rw [hPC] at bC
  rw [hPD] at bD
  rw [hPA] at bA
  rw [hPB] at bB
  obtain ⟨ia, hia⟩ : ∃ ia : Nat, PA = ia := ⟨PA.toNat, by omega⟩
  obtain ⟨ib, hib⟩ : ∃ ib : Nat, PB = ib := ⟨PB.toNat, by omega⟩
  obtain ⟨ID, hID⟩ : ∃ z, ids[ia]'(by omega) = z := ⟨_, rfl⟩
  obtain ⟨OT, hOT⟩ : ∃ z, ids[ib]'(by omega) = z := ⟨_, rfl⟩
  have hne : ids ≠ [] := fun e => by rw [e] at h0; simp at h0
  have eK : kindM ids ⟨tk, ta, tb, tc, td, ty⟩ = K := by unfold kindM; rw [if_neg hne]; exact hK
  have eA : idM ids ta = ID := by
    unfold idM
    rw [if_neg hne, hnn, hPA, hia, Int.toNat_natCast, List.getD_eq_getElem?_getD, List.getElem?_eq_getElem (by omega), ← hID]
    rfl
  have eB : idM ids tb = OT := by
    unfold idM
    rw [if_neg hne, hnn, hPB, hib, Int.toNat_natCast, List.getD_eq_getElem?_getD, List.getElem?_eq_getElem (by omega), ← hOT]
    rfl
  have eX : StepD.X ⟨tk, ta, tb, tc, td, ty⟩ = PC - 3 := by unfold StepD.X; rw [hPC]
  have eY : StepD.Y ⟨tk, ta, tb, tc, td, ty⟩ = PD - 3 := by unfold StepD.Y; rw [hPD]
  obtain ⟨lg, cap, e1, _, _⟩ := World.ownsRow.form h.row h0
  rw [hnn] at e1
  subst e1
  have hcap : n ≤ cap := by
    have q := h.row
    rw [hnn] at q
    exact own_cap q
  have hvl := block_lt h.blk
  have HCl : Hid (∀ V : World, Below w.heap.size w V → V.cell? ⟨vb, 0, none⟩ = some (.pointer (some ⟨x, 0, none⟩)) ∧ V.cell? ⟨vb, 1, none⟩ = some (.slice (some ⟨lg, 0, none⟩) n cap) ∧ V.cell? ⟨lg, ia, none⟩ = some (.int .i64 ID) ∧ V.cell? ⟨lg, ib, none⟩ = some (.int .i64 OT)) := fun V hV => by
    have hA := h.below hV
    refine ⟨hA.blk.cell 0, hA.blk.cell 1, ?_, ?_⟩
    · have := World.ownsRow.cells hA.row (g := lg) rfl ia (.int .i64 ID) (by rw [List.getElem?_map, List.getElem?_eq_getElem (by omega), hID]; rfl)
      rw [add_at] at this
      simpa using this
    · have := World.ownsRow.cells hA.row (g := lg) rfl ib (.int .i64 OT) (by rw [List.getElem?_map, List.getElem?_eq_getElem (by omega), hOT]; rfl)
      rw [add_at] at this
      simpa using this
  have hlgl : lg < w.heap.size := (h.row.lt lg rfl).2
  have HPK : Hid (∀ V : World, Calls Tryz.prog 15 #[.int .i64 tk, .int .i64 16] V fun e w' => e = .returned (.int .i64 K) ∧ w' = V) := fun V => by rw [← hK]; exact pick_any tk 16 V ht.k.1 ht.k.2 (by omega) (by omega)
  have HPC : Hid (∀ V : World, Calls Tryz.prog 15 #[.int .i64 tc, .int .i64 12] V fun e w' => e = .returned (.int .i64 PC) ∧ w' = V) := fun V => by rw [← hPC]; exact pick_any tc 12 V ht.c.1 ht.c.2 (by omega) (by omega)
  have HPD : Hid (∀ V : World, Calls Tryz.prog 15 #[.int .i64 td, .int .i64 12] V fun e w' => e = .returned (.int .i64 PD) ∧ w' = V) := fun V => by rw [← hPD]; exact pick_any td 12 V ht.d.1 ht.d.2 (by omega) (by omega)
  have HPA : Hid (∀ V : World, Calls Tryz.prog 15 #[.int .i64 ta, .int .i64 n] V fun e w' => e = .returned (.int .i64 ia) ∧ w' = V) := fun V => by rw [← hia, ← hPA]; exact pick_any ta n V ht.a.1 ht.a.2 (by omega) (by omega)
  have HPB : Hid (∀ V : World, Calls Tryz.prog 15 #[.int .i64 tb, .int .i64 n] V fun e w' => e = .returned (.int .i64 ib) ∧ w' = V) := fun V => by rw [← hib, ← hPB]; exact pick_any tb n V ht.b.1 ht.b.2 (by omega) (by omega)
  have HA := hide (And.intro hf (And.intro h (And.intro ht (And.intro eK (And.intro eA (And.intro eB (And.intro eX eY)))))))
  have HN := hide (And.intro hnn hne)
  have HNb : Hid (n ≤ 100000) := by rw [← hnn]; exact hn
  obtain ⟨W0, hW0⟩ : ∃ W0, W0 = w.alloc (.cells #[.int .i64 tk, .int .i64 ta, .int .i64 tb, .int .i64 tc, .int .i64 td, .bool ty] 32) := ⟨_, rfl⟩
  have hB0 : Below w.heap.size w W0 := by rw [hW0]; exact (Below.refl _ _).alloc (Nat.le_refl _) _
  have HBx : Hid (∀ V : World, Below W0.heap.size W0 V → (V.cell? ⟨w.heap.size, 0, none⟩ = some (.int .i64 tk) ∧ V.cell? ⟨w.heap.size, 1, none⟩ = some (.int .i64 ta) ∧ V.cell? ⟨w.heap.size, 2, none⟩ = some (.int .i64 tb) ∧ V.cell? ⟨w.heap.size, 3, none⟩ = some (.int .i64 tc) ∧ V.cell? ⟨w.heap.size, 4, none⟩ = some (.int .i64 td) ∧ V.cell? ⟨w.heap.size, 5, none⟩ = some (.bool ty)) ∧ V.cell? ⟨vb, 0, none⟩ = some (.pointer (some ⟨x, 0, none⟩)) ∧ V.cell? ⟨vb, 1, none⟩ = some (.slice (some ⟨lg, 0, none⟩) n cap) ∧ V.cell? ⟨lg, ia, none⟩ = some (.int .i64 ID) ∧ V.cell? ⟨lg, ib, none⟩ = some (.int .i64 OT)) := fun V hV => by
    have hk0 : Blk W0 w.heap.size 32 #[.int .i64 tk, .int .i64 ta, .int .i64 tb, .int .i64 tc, .int .i64 td, .bool ty] := by rw [hW0]; exact heap_alloc_new w _
    have k := hk0.keep (hV.block _ (block_lt hk0))
    exact ⟨⟨k.cell 0, k.cell 1, k.cell 2, k.cell 3, k.cell 4, k.cell 5⟩, HCl.out V (hB0.trans (hV.mono hB0.size))⟩
  have HW := hide (And.intro hW0 hB0)
  have hnI : (0 : Int) < (n : Int) := by omega
  have hn0 : ¬ (n : Int) = 0 := by omega
  have hiac : ia < cap := by omega
  have hibc : ib < cap := by omega
  have hian : ia < n := by omega
  have hibn : ib < n := by omega
  clear hf h ht hn h0 hnn hK hPC hPD hPA hPB bA bB hia hib hID hOT hne eK eA eB eX eY HCl hB0 hvl hlgl hcap
  have hwb : 0 = 0 := rfl
  go_enter Tryz.func13, Tryz.ntmps13
  go_upto_region 1 with fail
  rw [← HW.out.1]
  obtain ⟨⟨b0, b1, b2, b3, b4, b5⟩, v0, v1, r1, r2⟩ := HBx.out W0 (Below.refl _ _)
  clear hW0 b1 b2 b3 b4 b5 v0 r1 r2
  go_upto_region 7 with (go_at_call 15; refine (HPK.out _).mono ?_; rintro e w1 ⟨rfl, hw1⟩; replace hw1 := hw1.symm; subst hw1)
  clear b0
  go_cut [5] (fun s5 wx => s5 = .int .i64 ID ∧ Hid (Below W0.heap.size W0 wx))
  case first =>
    clear v1
    go_region_held3 (fun w' => w'.cell? ⟨vb, 1, none⟩ = some (.slice (some ⟨lg, 0, none⟩) n cap) ∧ w'.cell? ⟨w.heap.size, 1, none⟩ = some (.int .i64 ta) ∧ w'.cell? ⟨lg, ia, none⟩ = some (.int .i64 ID))
      (first
        | ((have q := HBx.out _ (by (repeat (first | with_reducible exact Below.refl _ _ | with_reducible refine Below.drew ?_)))); exact ⟨q.2.2.1, q.1.2.1, q.2.2.2.1⟩)
        | fail)
      (first
        | (go_at_call 15; refine (HPA.out _).mono ?_; rintro e w1 ⟨rfl, hw1⟩; replace hw1 := hw1.symm; subst hw1)
        | fail)
    all_goals go_wp2_with fail
    all_goals go_meet
    all_goals exact ⟨rfl, hide (by (repeat (first | with_reducible exact Below.refl _ _ | with_reducible refine Below.drew ?_)))⟩
  case rest =>
    obtain ⟨rfl, HZ1⟩ := hcut
    clear v1
    have v1 := (HBx.out _ HZ1.out).2.2.1
    go_upto_region 8 with fail
    go_cut [6] (fun s6 wx => s6 = .int .i64 OT ∧ Hid (Below W0.heap.size W0 wx))
    case first =>
      clear v1
      go_region_held3 (fun w' => w'.cell? ⟨vb, 1, none⟩ = some (.slice (some ⟨lg, 0, none⟩) n cap) ∧ w'.cell? ⟨w.heap.size, 2, none⟩ = some (.int .i64 tb) ∧ w'.cell? ⟨lg, ib, none⟩ = some (.int .i64 OT))
        (first
          | ((have q := HBx.out _ (by (repeat (first | with_reducible exact HZ1.out | with_reducible refine Below.drew ?_)))); exact ⟨q.2.2.1, q.1.2.2.1, q.2.2.2.2⟩)
          | fail)
        (first
          | (go_at_call 15; refine (HPB.out _).mono ?_; rintro e w1 ⟨rfl, hw1⟩; replace hw1 := hw1.symm; subst hw1)
          | fail)
      all_goals go_wp2_with fail
      all_goals go_meet
      all_goals exact ⟨rfl, hide (by (repeat (first | with_reducible exact HZ1.out | with_reducible refine Below.drew ?_)))⟩
    case rest =>
      obtain ⟨rfl, HZ2⟩ := hcut
      clear v1 HZ1 HPA HPB HPK
      obtain ⟨⟨b0, b1, b2, b3, b4, b5⟩, v0, v1, r1, r2⟩ := HBx.out _ HZ2.out
      clear b0 b1 r1 r2
      go_upto_region 11 with (first
        | (go_at_call_of 15 (Value.int IntKind.i64 tc); refine (HPC.out _).mono ?_; rintro e w1 ⟨rfl, hw1⟩; replace hw1 := hw1.symm; subst hw1; clear HPC)
        | (go_at_call_of 15 (Value.int IntKind.i64 td); refine (HPD.out _).mono ?_; rintro e w1 ⟨rfl, hw1⟩; replace hw1 := hw1.symm; subst hw1; clear HPD))
      obtain ⟨t, htd⟩ : ∃ t : StepD, t = ⟨tk, ta, tb, tc, td, ty⟩ := ⟨_, rfl⟩
      have hbW : Below w.heap.size w wc := HW.out.2.trans (HZ2.out.mono HW.out.2.size)
      obtain ⟨hf, h, ht, eK, eA, eB, eX, eY⟩ := HA.out
      have HKe : Hid (∀ V w' : World, Below wc.heap.size wc V → Only A V w' → w'.cell? ⟨vb, 0, none⟩ = some (.pointer (some ⟨x, 0, none⟩)) ∧ w'.cell? ⟨vb, 1, none⟩ = some (.slice (some ⟨lg, 0, none⟩) n cap) ∧ w'.cell? ⟨w.heap.size, 1, none⟩ = some (.int .i64 ta) ∧ w'.cell? ⟨w.heap.size, 2, none⟩ = some (.int .i64 tb) ∧ w'.cell? ⟨w.heap.size, 3, none⟩ = some (.int .i64 tc) ∧ w'.cell? ⟨w.heap.size, 4, none⟩ = some (.int .i64 td) ∧ w'.cell? ⟨w.heap.size, 5, none⟩ = some (.bool ty)) := fun V w' hV ho => by
        have q := HBx.out V (HZ2.out.trans (hV.mono HZ2.out.size))
        have hvl : vb < V.heap.size := cell_lt q.2.1
        have hbl : w.heap.size < V.heap.size := cell_lt q.1.1
        have ev := ho.block vb hvl h.vA
        have eb := ho.block w.heap.size hbl fun hA => by have := (h.la _ hA).2; omega
        rw [World.cell?_of_block (w := V) (a := ⟨vb, 0, none⟩) ev, World.cell?_of_block (w := V) (a := ⟨vb, 1, none⟩) ev, World.cell?_of_block (w := V) (a := ⟨w.heap.size, 1, none⟩) eb, World.cell?_of_block (w := V) (a := ⟨w.heap.size, 2, none⟩) eb, World.cell?_of_block (w := V) (a := ⟨w.heap.size, 3, none⟩) eb, World.cell?_of_block (w := V) (a := ⟨w.heap.size, 4, none⟩) eb, World.cell?_of_block (w := V) (a := ⟨w.heap.size, 5, none⟩) eb]
        exact ⟨q.2.1, q.2.2.1, q.1.2⟩
      have HOff : Hid (∀ V : World, Below wc.heap.size wc V → Calls Tryz.prog 29 #[.pointer (some ⟨x, 0, none⟩), .int .i64 ID, .int .i64 (PC - 3), .int .i64 (PD - 3)] V fun e w' => ∃ er, e = .returned (.int .i64 er) ∧ DoPost S vb d ((opOffset st ID (PC - 3) (PD - 3)).2, ids, none) w (.returned (.tuple #[])) w') := fun V hV =>
        have hb := hbW.trans (hV.mono hbW.size)
        (fuOffset_any hf.wf ID (PC - 3) (PD - 3) V (h.below hb).scr).mono fun e w' hp => ⟨_, hp.1, h.fp hb hp⟩
      have HUn : Hid (∀ V : World, Below wc.heap.size wc V → Calls Tryz.prog 36 #[.pointer (some ⟨x, 0, none⟩), .int .i64 ID] V fun e w' => ∃ er, e = .returned (.int .i64 er) ∧ DoPost S vb d ((opUnclip st ID).2, ids, none) w (.returned (.tuple #[])) w') := fun V hV =>
        have hb := hbW.trans (hV.mono hbW.size)
        (fuUnclip_any hf.wf ID V (h.below hb).scr).mono fun e w' hp => ⟨_, hp.1, h.fp hb hp⟩
      have HSt : Hid (∀ V : World, Below wc.heap.size wc V → Calls Tryz.prog 38 #[.pointer (some ⟨x, 0, none⟩), .int .i64 ID, .int .i64 OT, .bool ty] V fun e w' => ∃ er, e = .returned (.int .i64 er) ∧ DoPost S vb d ((opStack st ID OT ty).2, ids, none) w (.returned (.tuple #[])) w' ∧ w'.cell? ⟨vb, 0, none⟩ = some (.pointer (some ⟨x, 0, none⟩)) ∧ w'.cell? ⟨w.heap.size, 5, none⟩ = some (.bool ty)) := fun V hV =>
        have hb := hbW.trans (hV.mono hbW.size)
        (fuStack_any hf.wf ID OT ty V (h.below hb).scr).mono fun e w' hp => ⟨_, hp.1, h.fp hb hp, (HKe.out V w' hV hp.2.2).1, (HKe.out V w' hV hp.2.2).2.2.2.2.2.2⟩
      have HCm : Hid (∀ V : World, Below wc.heap.size wc V → Calls Tryz.prog 30 #[.pointer (some ⟨x, 0, none⟩), .int .i64 ID] V fun e w' => ∃ er, e = .returned (.int .i64 er) ∧ DoPost S vb d ((opCommit st ID).2, ids, st.dmCommit ID) w (.returned (.tuple #[])) w') := fun V hV =>
        have hb := hbW.trans (hV.mono hbW.size)
        (fuCommit_any hf ID V (h.below hb).scr).mono fun e w' hp => ⟨_, hp.1, h.fd hb hp⟩
      obtain ⟨P6, hP6⟩ : ∃ z, pickI tb 6 = z := ⟨_, rfl⟩
      have b6 := pick_bd tb 6 (by omega)
      rw [hP6] at b6
      have HP6 : Hid (∀ V : World, Calls Tryz.prog 15 #[.int .i64 tb, .int .i64 6] V fun e w' => e = .returned (.int .i64 P6) ∧ w' = V) := fun V => by rw [← hP6]; exact pick_any tb 6 V ht.b.1 ht.b.2 (by omega) (by omega)
      have HClp : Hid (∀ V : World, Below wc.heap.size wc V → Calls Tryz.prog 35 #[.pointer (some ⟨x, 0, none⟩), .int .i64 ID, .agg #[.int .i64 (PC - 3), .int .i64 (PD - 3), .int .i64 (PC - 3 + 4), .int .i64 (PD - 3 + P6)]] V fun e w' => ∃ er, e = .returned (.int .i64 er) ∧ DoPost S vb d ((opClip st ID (PC - 3, PD - 3, PC - 3 + 4, PD - 3 + P6) (fitR (PC - 3, PD - 3, PC - 3 + 4, PD - 3 + P6))).2, ids, none) w (.returned (.tuple #[])) w' ∧ w'.cell? ⟨vb, 0, none⟩ = some (.pointer (some ⟨x, 0, none⟩)) ∧ w'.cell? ⟨w.heap.size, 2, none⟩ = some (.int .i64 tb)) := fun V hV =>
        have hb := hbW.trans (hV.mono hbW.size)
        (fuClip_any hf.wf ID _ _ _ _ V (h.below hb).scr).mono fun e w' hp => ⟨_, hp.1, h.fp hb hp, (HKe.out V w' hV hp.2.2).1, (HKe.out V w' hV hp.2.2).2.2.2.1⟩
      have HDe : Hid (∀ V : World, Below wc.heap.size wc V → Calls Tryz.prog 32 #[.pointer (some ⟨x, 0, none⟩), .int .i64 ID] V fun e w' => ∃ er : Int, e = .returned (.int .i64 er) ∧ ((er = 0 ∧ Calls Tryz.prog 34 #[.pointer (some ⟨vb, 0, none⟩)] w' fun e w3 => e = .returned (.tuple #[]) ∧ DoPost S vb d ((opDestroy st ID).2, (if (opDestroy st ID).1 = 0 then (opDestroy st ID).2.stays ids else ids), st.dmDestroy ID) w (.returned (.tuple #[])) w3) ∨ (er = 6 ∧ DoPost S vb d ((opDestroy st ID).2, (if (opDestroy st ID).1 = 0 then (opDestroy st ID).2.stays ids else ids), st.dmDestroy ID) w (.returned (.tuple #[])) w'))) := fun V hV => by
        have hb := hbW.trans (hV.mono hbW.size)
        refine (fuDestroy_any hf.wf ID V (h.below hb).scr).mono ?_
        rintro e w' ⟨rfl, ⟨d', q1, q2⟩, q3⟩
        obtain ⟨ha, ho⟩ := h.fin hb q1 q3
        by_cases hB : st.isB ID = true
        · have e0 : (opDestroy st ID).1 = 0 := by unfold opDestroy; rw [if_pos hB]
          refine ⟨_, rfl, .inl ⟨e0, ?_⟩⟩
          rw [if_pos e0]
          have hf2 := fine_destroy hf ID
          refine (left_any hf2.wf ⟨_, _, _, ha⟩ (by have := HN.out.1; have := HNb.out; omega)).mono ?_
          rintro e w3 ⟨rfl, r1, r2⟩
          have hs := ho.size
          obtain ⟨A3, x3, lv3, r1⟩ := r1
          refine ⟨rfl, rfl, ⟨d', ⟨A3, x3, lv3, r1.mono fun g hg => ?_⟩, q2⟩, ho.trans r2⟩
          have hs3 := r2.size
          rcases hg with (hg | hg) | hg
          · exact .inl hg
          · exact .inr ⟨hg.1, by omega⟩
          · exact .inr ⟨by omega, hg.2⟩
        · have e6 : (opDestroy st ID).1 = 6 := by unfold opDestroy; rw [if_neg hB]
          have ha2 : AlvOk w' (grow S w w') vb (opDestroy st ID).2 d' (if (opDestroy st ID).1 = 0 then (opDestroy st ID).2.stays ids else ids) := by
            rw [if_neg (by omega)]
            exact ⟨_, _, _, ha⟩
          exact ⟨_, rfl, .inr ⟨e6, rfl, ⟨d', ha2, q2⟩, ho⟩⟩
      obtain ⟨P9, hP9⟩ : ∃ z, pickI tb 9 = z := ⟨_, rfl⟩
      have b9 := pick_bd tb 9 (by omega)
      rw [hP9] at b9
      have HP9 : Hid (∀ V : World, Calls Tryz.prog 15 #[.int .i64 tb, .int .i64 9] V fun e w' => e = .returned (.int .i64 P9) ∧ w' = V) := fun V => by rw [← hP9]; exact pick_any tb 9 V ht.b.1 ht.b.2 (by omega) (by omega)
      have HOpq : Hid (∀ (V : World) (B : Nat), Below wc.heap.size wc V → V.heap[B]? = some (.cells #[.int .i64 (PC - 3), .int .i64 (PD - 3), .int .i64 (PC - 3 + P9), .int .i64 (PD - 3 + 5)] 53 (0, 0)) → Calls Tryz.prog 37 #[.pointer (some ⟨x, 0, none⟩), .int .i64 ID, .slice (some ⟨B, 0, none⟩) 1 1] V fun e w' => ∃ er, e = .returned (.int .i64 er) ∧ DoPost S vb d ((opOpaque st ID 1 ([(PC - 3, PD - 3, PC - 3 + P9, PD - 3 + 5)].all fitR) (hasB [(PC - 3, PD - 3, PC - 3 + P9, PD - 3 + 5)])).2, ids, none) w (.returned (.tuple #[])) w' ∧ w'.cell? ⟨vb, 0, none⟩ = some (.pointer (some ⟨x, 0, none⟩)) ∧ w'.cell? ⟨w.heap.size, 2, none⟩ = some (.int .i64 tb)) := fun V B hV hB =>
        have hb := hbW.trans (hV.mono hbW.size)
        (fuOpaque_any hf.wf ID [(PC - 3, PD - 3, PC - 3 + P9, PD - 3 + 5)] (.slice (some ⟨B, 0, none⟩) 1 1) V (h.below hb).scr ⟨_, 1, rfl, fun _ => ⟨B, 0, rfl, fun k hk => by
          have hk0 : k = 0 := by simpa using hk
          subst hk0
          exact ⟨cell_of_row V B 0 _ _ _ hB, cell_of_row V B 1 _ _ _ hB, cell_of_row V B 2 _ _ _ hB, cell_of_row V B 3 _ _ _ hB⟩⟩⟩ (by simp [maxLen])).mono fun e w' hp => ⟨_, hp.1, h.fp hb hp, (HKe.out V w' hV hp.2.2).1, (HKe.out V w' hV hp.2.2).2.2.2.1⟩
      obtain ⟨T8, hT8⟩ : ∃ z, tb.tdiv 8 = z := ⟨_, rfl⟩
      obtain ⟨Q6, hQ6⟩ : ∃ z, pickI T8 6 = z := ⟨_, rfl⟩
      have b8 := pick_bd T8 6 (by omega)
      rw [hQ6] at b8
      have h8 : I64 T8 := by
        have := ht.b
        unfold I64 at *
        simp only at this
        have := tdiv8_bd tb
        rw [hT8] at this
        omega
      have HQ6 : Hid (∀ V : World, Calls Tryz.prog 15 #[.int .i64 T8, .int .i64 6] V fun e w' => e = .returned (.int .i64 Q6) ∧ w' = V) := fun V => by rw [← hQ6]; exact pick_any T8 6 V h8.1 h8.2 (by omega) (by omega)
      have w8 : IntKind.i64.wrap T8 = T8 := by unfold I64 at h8; rw [IntKind.wrap_i64]; omega
      have HAtt : Hid (∀ pw ph : Nat, pw ≤ 24 → ph ≤ 24 → ∀ V : World, Below wc.heap.size wc V → Calls Tryz.prog 33 #[.int .i64 pw, .int .i64 ph, .int .i64 tc] V fun e w1 => ∃ a m q, e = .returned (.slice a m q) ∧ Below wc.heap.size wc w1 ∧ ∀ V2 : World, Below w1.heap.size w1 V2 → Calls Tryz.prog 28 #[.pointer (some ⟨x, 0, none⟩), .int .i64 ID, .int .i64 pw, .int .i64 ph, .slice a m q] V2 fun e w' => ∃ er, e = .returned (.int .i64 er) ∧ DoPost S vb d (attM st ID pw ph tc, ids, none) w (.returned (.tuple #[])) w' ∧ w'.cell? ⟨vb, 0, none⟩ = some (.pointer (some ⟨x, 0, none⟩)) ∧ w'.cell? ⟨w.heap.size, 3, none⟩ = some (.int .i64 tc)) := fun pw ph h24 h24' V hV => by
        refine (image_any pw ph tc ht.c h24 h24' V).mono ?_
        rintro e w1 ⟨v, rfl, ho, hb1⟩
        obtain ⟨a, q, hvf⟩ := row_form ho
        subst hvf
        have hb1' : Below wc.heap.size wc w1 := hV.trans (hb1.mono hV.size)
        refine ⟨a, _, q, rfl, hb1', fun V2 hV2 => ?_⟩
        have hV2' : Below wc.heap.size wc V2 := hb1'.trans (hV2.mono hb1'.size)
        have hb := hbW.trans (hV2'.mono hbW.size)
        have hpx : PixAt V2 (.slice a (pw * ph) q) (imgL tc (pw * ph)) := (pixAt_own ho (imgL_len _ _)).below hV2
        have e1 : ((pw : Int) * (ph : Int)).toNat = pw * ph := by rw [← Int.natCast_mul, Int.toNat_natCast]
        have := fuAttach_any hf.wf ID pw ph (imgL tc (pw * ph)) _ V2 (h.below hb).scr hpx (by rw [imgL_len]; have := Nat.mul_le_mul h24 h24'; unfold maxLen; omega)
        refine this.mono fun e w' hp => ⟨_, hp.1, ?_, (HKe.out V2 w' hV2' hp.2.2).1, (HKe.out V2 w' hV2' hp.2.2).2.2.2.2.1⟩
        have := h.fp hb hp
        unfold attM
        rw [e1]
        exact this
      have HM : Hid (stepM st ids ⟨tk, ta, tb, tc, td, ty⟩ = if K = 0 ∨ K = 1 then makeM st ids (parM ids ⟨tk, ta, tb, tc, td, ty⟩) ⟨tk, ta, tb, tc, td, ty⟩
          else if K = 2 then ((opDestroy st ID).2, (if (opDestroy st ID).1 = 0 then (opDestroy st ID).2.stays ids else ids), st.dmDestroy ID)
          else if K = 3 ∨ K = 4 then (attM st ID (pickI tb 6) (pickI (tb.tdiv 8) 6) tc, ids, none)
          else if K = 5 ∨ K = 6 then ((opOffset st ID (PC - 3) (PD - 3)).2, ids, none)
          else if K = 7 then ((opClip st ID (PC - 3, PD - 3, PC - 3 + 4, PD - 3 + pickI tb 6) (fitR (PC - 3, PD - 3, PC - 3 + 4, PD - 3 + pickI tb 6))).2, ids, none)
          else if K = 8 then ((opUnclip st ID).2, ids, none)
          else if K = 9 ∨ K = 10 then ((opOpaque st ID 1 ([(PC - 3, PD - 3, PC - 3 + pickI tb 9, PD - 3 + 5)].all fitR) (hasB [(PC - 3, PD - 3, PC - 3 + pickI tb 9, PD - 3 + 5)])).2, ids, none)
          else if K = 11 then ((opStack st ID OT ty).2, ids, none)
          else ((opCommit st ID).2, ids, st.dmCommit ID)) := by
        unfold stepM
        rw [eK, eX, eY]
        show (if K = 0 ∨ K = 1 then _ else if K = 2 then ((opDestroy st (idM ids ta)).2, _, st.dmDestroy (idM ids ta)) else _) = _
        rw [eA, eB]
      rw [hP6, hP9, hT8, hQ6] at HM
      clear hP6 hP9 hQ6 h8 HNb hbW hf h ht eK eA eB eX eY htd t HA HN HW
      have hKs : K = 2 ∨ K = 3 ∨ K = 4 ∨ K = 5 ∨ K = 6 ∨ K = 7 ∨ K = 8 ∨ K = 9 ∨ K = 10 ∨ K = 11 ∨ K = 12 ∨ K = 13 ∨ K = 14 ∨ K = 15 := by omega
      clear bK hk2
      rcases hKs with rfl | rfl | rfl | rfl | rfl | rfl | rfl | rfl | rfl | rfl | rfl | rfl | rfl | rfl
      case inr.inr.inr.inl | inr.inr.inr.inr.inl =>
        simp at HM
        clear HUn HSt HCm
        go_wp2_with (go_at_call 29; refine (HOff.out _ (Below.refl _ _)).mono ?_; rintro e w2 ⟨er, rfl, hp⟩; have HP := hide hp; clear hp)
        exact bodyPost_end (v := .tuple #[]) (by simp [results, Tryz.results13]) rfl (by rw [HM.out]; exact HP.out)
      case inr.inr.inr.inr.inr.inr.inl =>
        simp at HM
        clear HOff HSt HCm
        go_wp2_with (go_at_call 36; refine (HUn.out _ (Below.refl _ _)).mono ?_; rintro e w2 ⟨er, rfl, hp⟩; have HP := hide hp; clear hp)
        exact bodyPost_end (v := .tuple #[]) (by simp [results, Tryz.results13]) rfl (by rw [HM.out]; exact HP.out)
      case inr.inr.inr.inr.inr.inr.inr.inr.inr.inr.inl | inr.inr.inr.inr.inr.inr.inr.inr.inr.inr.inr.inl | inr.inr.inr.inr.inr.inr.inr.inr.inr.inr.inr.inr.inl | inr.inr.inr.inr.inr.inr.inr.inr.inr.inr.inr.inr.inr =>
        simp at HM
        clear HOff HSt HUn
        go_wp2_with (go_at_call 30; refine (HCm.out _ (Below.refl _ _)).mono ?_; rintro e w2 ⟨er, rfl, hp⟩; have HP := hide hp; clear hp)
        exact bodyPost_end (v := .tuple #[]) (by simp [results, Tryz.results13]) rfl (by rw [HM.out]; exact HP.out)
      case inr.inr.inr.inr.inr.inr.inr.inr.inr.inl =>
        simp at HM
        clear HOff HCm HUn
        have HSc : Hid (∀ V : World, Below wc.heap.size wc V → V.cell? ⟨vb, 0, none⟩ = some (.pointer (some ⟨x, 0, none⟩)) ∧ V.cell? ⟨w.heap.size, 5, none⟩ = some (.bool ty)) := fun V hV => let q := HBx.out V (HZ2.out.trans (hV.mono HZ2.out.size)); ⟨q.2.1, q.1.2.2.2.2.2⟩
        go_upto_region 46 with fail
        clear b2 b3 b4 b5 v0 v1
        go_region_held3 (fun w' => w'.cell? ⟨vb, 0, none⟩ = some (.pointer (some ⟨x, 0, none⟩)) ∧ w'.cell? ⟨w.heap.size, 5, none⟩ = some (.bool ty))
          (first
            | (refine HSc.out _ ?_; (repeat (first | with_reducible exact Below.refl _ _ | with_reducible refine Below.drew ?_)); done)
            | exact HSd.out
            | fail)
          (first
            | (go_at_call 38; refine (HSt.out _ ?_).mono ?_; (repeat (first | with_reducible exact Below.refl _ _ | with_reducible refine Below.drew ?_)); rintro e w2 ⟨er, rfl, hp, hcc⟩; have HP := hide hp; have HSd := hide hcc; clear hp hcc)
            | fail)
        all_goals go_wp2_with fail
        all_goals exact bodyPost_end (v := .tuple #[]) (by simp [results, Tryz.results13]) rfl (by rw [HM.out]; exact HP.out)
      case inl =>
        simp at HM
        clear HOff HSt HCm HUn
        go_wp2_with (first
          | (go_at_call 32; refine (HDe.out _ (Below.refl _ _)).mono ?_; rintro e w2 ⟨er, rfl, hp⟩; have HP := hide hp; clear hp; rcases HP.out with ⟨rfl, hl⟩ | ⟨rfl, hl⟩ <;> (have HL := hide hl; clear hl HP))
          | (go_at_call 34; refine HL.out.mono ?_; rintro e w3 ⟨rfl, hp⟩; have HF := hide hp; clear hp))
        all_goals first
          | exact bodyPost_end (v := .tuple #[]) (by simp [results, Tryz.results13]) rfl (by rw [HM.out]; exact HF.out)
          | exact bodyPost_end (v := .tuple #[]) (by simp [results, Tryz.results13]) rfl (by rw [HM.out]; exact HL.out)
      case inr.inr.inr.inr.inr.inl =>
        simp at HM
        clear HOff HSt HCm HUn HDe
        have HSc : Hid (∀ V : World, Below wc.heap.size wc V → V.cell? ⟨vb, 0, none⟩ = some (.pointer (some ⟨x, 0, none⟩)) ∧ V.cell? ⟨w.heap.size, 2, none⟩ = some (.int .i64 tb)) := fun V hV => let q := HBx.out V (HZ2.out.trans (hV.mono HZ2.out.size)); ⟨q.2.1, q.1.2.2.1⟩
        obtain ⟨XX, hXX⟩ : ∃ z, PC - 3 = z := ⟨_, rfl⟩
        obtain ⟨YY, hYY⟩ : ∃ z, PD - 3 = z := ⟨_, rfl⟩
        obtain ⟨X4, hX4⟩ : ∃ z, XX + 4 = z := ⟨_, rfl⟩
        obtain ⟨Y6, hY6⟩ : ∃ z, YY + P6 = z := ⟨_, rfl⟩
        have w1 : IntKind.i64.wrap (XX + 4) = X4 := by rw [IntKind.wrap_i64]; omega
        have w2 : IntKind.i64.wrap (YY + P6) = Y6 := by rw [IntKind.wrap_i64]; omega
        rw [hXX, hYY, hX4, hY6] at HClp HM
        have HX := hide (And.intro hXX hYY)
        clear hX4 hY6 hXX hYY
        go_upto_region 39 with fail
        rw [HX.out.1, HX.out.2]
        clear b6 bC bD
        clear b2 b3 b4 b5 v0 v1
        go_region_held3 (fun w' => w'.cell? ⟨vb, 0, none⟩ = some (.pointer (some ⟨x, 0, none⟩)) ∧ w'.cell? ⟨w.heap.size, 2, none⟩ = some (.int .i64 tb))
          (first
            | (refine HSc.out _ ?_; (repeat (first | with_reducible exact Below.refl _ _ | with_reducible refine Below.drew ?_)); done)
            | exact HSd.out
            | fail)
          (first
            | (go_at_call 15; refine (HP6.out _).mono ?_; rintro e w1 ⟨rfl, hw1⟩; replace hw1 := hw1.symm; subst hw1)
            | (go_at_call 35; refine (HClp.out _ ?_).mono ?_; (repeat (first | with_reducible exact Below.refl _ _ | with_reducible refine Below.drew ?_)); rintro e w2 ⟨er, rfl, hp, hcc⟩; have HP := hide hp; have HSd := hide hcc; clear hp hcc)
            | fail)
        all_goals go_wp2_with fail
        all_goals exact bodyPost_end (v := .tuple #[]) (by simp [results, Tryz.results13]) rfl (by rw [HM.out]; exact HP.out)
      case inr.inr.inr.inr.inr.inr.inr.inl | inr.inr.inr.inr.inr.inr.inr.inr.inl =>
        rw [if_neg (by omega), if_neg (by omega), if_neg (by omega), if_neg (by omega), if_neg (by omega), if_neg (by omega), if_pos (by omega)] at HM
        clear HOff HSt HCm HUn HDe HClp HP6
        have HSc : Hid (∀ V : World, Below wc.heap.size wc V → V.cell? ⟨vb, 0, none⟩ = some (.pointer (some ⟨x, 0, none⟩)) ∧ V.cell? ⟨w.heap.size, 2, none⟩ = some (.int .i64 tb)) := fun V hV => let q := HBx.out V (HZ2.out.trans (hV.mono HZ2.out.size)); ⟨q.2.1, q.1.2.2.1⟩
        obtain ⟨XX, hXX⟩ : ∃ z, PC - 3 = z := ⟨_, rfl⟩
        obtain ⟨YY, hYY⟩ : ∃ z, PD - 3 = z := ⟨_, rfl⟩
        obtain ⟨X9, hX9⟩ : ∃ z, XX + P9 = z := ⟨_, rfl⟩
        obtain ⟨Y5, hY5⟩ : ∃ z, YY + 5 = z := ⟨_, rfl⟩
        have w1 : IntKind.i64.wrap (XX + P9) = X9 := by rw [IntKind.wrap_i64]; omega
        have w2 : IntKind.i64.wrap (YY + 5) = Y5 := by rw [IntKind.wrap_i64]; omega
        rw [hXX, hYY, hX9, hY5] at HOpq HM
        have HX := hide (And.intro hXX hYY)
        clear hX9 hY5 hXX hYY
        go_upto_region 44 with fail
        rw [HX.out.1, HX.out.2]
        clear b6 b9 bC bD
        clear b2 b3 b4 b5 v0 v1
        go_region_held3 (fun w' => w'.cell? ⟨vb, 0, none⟩ = some (.pointer (some ⟨x, 0, none⟩)) ∧ w'.cell? ⟨w.heap.size, 2, none⟩ = some (.int .i64 tb))
          (first
            | (refine HSc.out _ ?_; (repeat (first | with_reducible exact Below.refl _ _ | with_reducible refine Below.drew ?_ | with_reducible refine Below.alloc ?_ (by first | omega | (simp <;> omega)) _)); done)
            | exact HSd.out
            | fail)
          (first
            | (go_at_call 15; refine (HP9.out _).mono ?_; rintro e w1 ⟨rfl, hw1⟩; replace hw1 := hw1.symm; subst hw1)
            | (go_at_call 37; refine (HOpq.out _ _ ?_ ?_).mono ?_; (repeat (first | with_reducible exact Below.refl _ _ | with_reducible refine Below.drew ?_ | with_reducible refine Below.alloc ?_ (by first | omega | (simp <;> omega)) _)); (exact heap_alloc_new _ _); rintro e w2 ⟨er, rfl, hp, hcc⟩; have HP := hide hp; have HSd := hide hcc; clear hp hcc)
            | fail)
        all_goals go_wp2_with fail
        all_goals exact bodyPost_end (v := .tuple #[]) (by simp [results, Tryz.results13]) rfl (by rw [HM.out]; exact HP.out)
      case inr.inl | inr.inr.inl =>
        rw [if_neg (by omega), if_neg (by omega), if_pos (by omega)] at HM
        clear HOff HSt HCm HUn HDe HClp HOpq HP9
        obtain ⟨pw, hpw⟩ : ∃ pw : Nat, P6 = pw := ⟨P6.toNat, by omega⟩
        obtain ⟨ph, hph⟩ : ∃ ph : Nat, Q6 = ph := ⟨Q6.toNat, by omega⟩
        subst hpw hph
        have HSc : Hid (∀ V : World, Below wc.heap.size wc V → V.cell? ⟨vb, 0, none⟩ = some (.pointer (some ⟨x, 0, none⟩)) ∧ V.cell? ⟨w.heap.size, 3, none⟩ = some (.int .i64 tc)) := fun V hV => let q := HBx.out V (HZ2.out.trans (hV.mono HZ2.out.size)); ⟨q.2.1, q.1.2.2.2.1⟩
        have HAt2 := hide (HAtt.out pw ph (by omega) (by omega))
        clear HAtt
        go_upto_region 34 with (first
          | (go_at_call_of 15 (Value.int IntKind.i64 tb); refine (HP6.out _).mono ?_; rintro e w1 ⟨rfl, hw1⟩; replace hw1 := hw1.symm; subst hw1; clear HP6)
          | (go_at_call_of 15 (Value.int IntKind.i64 T8); refine (HQ6.out _).mono ?_; rintro e w1 ⟨rfl, hw1⟩; replace hw1 := hw1.symm; subst hw1; clear HQ6))
        clear b2 b3 b4 b5 v0 v1 b6 b9 bC bD
        go_region_held3 (fun w' => w'.cell? ⟨vb, 0, none⟩ = some (.pointer (some ⟨x, 0, none⟩)) ∧ w'.cell? ⟨w.heap.size, 3, none⟩ = some (.int .i64 tc))
          (first
            | (refine HSc.out _ ?_; (repeat (first | with_reducible exact Below.refl _ _ | with_reducible exact HIb.out | with_reducible refine Below.drew ?_)); done)
            | exact HSd.out
            | fail)
          (first
            | (go_at_call 33; refine (HAt2.out _ ?_).mono ?_; (repeat (first | with_reducible exact Below.refl _ _ | with_reducible refine Below.drew ?_)); rintro e w1 ⟨ia2, im2, ic2, rfl, hb1, hat⟩; have HIb := hide hb1; have HAt3 := hide hat; clear hb1 hat)
            | (go_at_call 28; refine (HAt3.out _ ?_).mono ?_; (repeat (first | with_reducible exact Below.refl _ _ | with_reducible refine Below.drew ?_)); rintro e w2 ⟨er, rfl, hp, hcc⟩; have HP := hide hp; have HSd := hide hcc; clear hp hcc)
            | fail)
        all_goals go_wp2_with fail
        all_goals exact bodyPost_end (v := .tuple #[]) (by simp [results, Tryz.results13]) rfl (by rw [HM.out]; exact HP.out)

end Go.Proofs.YtofinpocigbbeaaGreat
