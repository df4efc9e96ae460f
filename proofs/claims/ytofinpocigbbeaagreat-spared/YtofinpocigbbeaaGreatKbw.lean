import Derived.Test.YtofinpocigbbeaaGreatKbu
import Derived.Deep.RegionHeld3
namespace Go.Proofs.YtofinpocigbbeaaGreat
open Go.RowKit
attribute [local go_sem ↓] Go.wp_at_zero Go.wp_at_succ

set_option maxRecDepth 100000 in
set_option maxHeartbeats 4000000 in
/-- (*alive).does, where there are surfaces, and the step makes one. -/
theorem does_one {w : World} {S A : Nat → Prop} {vb x : Nat} {lv : Value} {st : St} (hf : Fine st) {d : Cv} {ids : List Int} (h : AlvX w S A vb x lv st d ids) (hn : ids.length ≤ 100000) (h0 : 0 < ids.length) (tk ta tb tc td : Int) (hk1 : pickI tk 16 ≤ 1) (ty : Bool) (ht : StepOk ⟨tk, ta, tb, tc, td, ty⟩) :
    Calls Tryz.prog 13 #[.pointer (some ⟨vb, 0, none⟩), .agg #[.int .i64 tk, .int .i64 ta, .int .i64 tb, .int .i64 tc, .int .i64 td, .bool ty]] w (DoPost S vb d (stepM st ids ⟨tk, ta, tb, tc, td, ty⟩) w) := by
  obtain ⟨i0, hi0, hz0, hz1, hz2⟩ := info_parts intInfo9
  obtain ⟨n, hnn⟩ : ∃ n, ids.length = n := ⟨_, rfl⟩
  obtain ⟨K, hK⟩ : ∃ K, pickI tk 16 = K := ⟨_, rfl⟩
  obtain ⟨PC, hPC⟩ : ∃ K, pickI tc 12 = K := ⟨_, rfl⟩
  obtain ⟨PD, hPD⟩ : ∃ K, pickI td 12 = K := ⟨_, rfl⟩
  obtain ⟨PA, hPA⟩ : ∃ K, pickI ta n = K := ⟨_, rfl⟩
  obtain ⟨PB, hPB⟩ : ∃ K, pickI tb n = K := ⟨_, rfl⟩
  have bK := pick_bd tk 16 (by omega)
  have bC := pick_bd tc 12 (by omega)
  have bD := pick_bd td 12 (by omega)
  have bA := pick_bd ta n (by omega)
  have bB := pick_bd tb n (by omega)
  rw [hK] at bK hk1
  rw [hPC] at bC
  rw [hPD] at bD
  rw [hPA] at bA
  rw [hPB] at bB
  obtain ⟨ia, hia⟩ : ∃ ia : Nat, PA = ia := ⟨PA.toNat, by omega⟩
  obtain ⟨ib, hib⟩ : ∃ ib : Nat, PB = ib := ⟨PB.toNat, by omega⟩
  obtain ⟨ID, hID⟩ : ∃ z, ids[ia]'(by omega) = z := ⟨_, rfl⟩
  obtain ⟨OT, hOT⟩ : ∃ z, ids[ib]'(by omega) = z := ⟨_, rfl⟩
  have hne : ids ≠ [] := fun e => by rw [e] at h0; simp at h0
  have eK : kindM ids ⟨tk, ta, tb, tc, td, ty⟩ = K := by unfold kindM; rw [if_neg hne]; exact hK
  have eA : idM ids ta = ID := by
    unfold idM
    rw [if_neg hne, hnn, hPA, hia, Int.toNat_natCast, List.getD_eq_getElem?_getD, List.getElem?_eq_getElem (by omega), ← hID]
    rfl
  have eB : idM ids tb = OT := by
    unfold idM
    rw [if_neg hne, hnn, hPB, hib, Int.toNat_natCast, List.getD_eq_getElem?_getD, List.getElem?_eq_getElem (by omega), ← hOT]
    rfl
  have eX : StepD.X ⟨tk, ta, tb, tc, td, ty⟩ = PC - 3 := by unfold StepD.X; rw [hPC]
  have eY : StepD.Y ⟨tk, ta, tb, tc, td, ty⟩ = PD - 3 := by unfold StepD.Y; rw [hPD]
  obtain ⟨lg, cap, e1, _, _⟩ := World.ownsRow.form h.row h0
  rw [hnn] at e1
  subst e1
  have hcap : n ≤ cap := by
    have q := h.row
    rw [hnn] at q
    exact own_cap q
  have hvl := block_lt h.blk
  obtain ⟨PAR, hPAR⟩ : ∃ z, parM ids ⟨tk, ta, tb, tc, td, ty⟩ = z := ⟨_, rfl⟩
  have HPAR : Hid (PAR = if ty = true then ID else -1) := by
    rw [Hid, ← hPAR]
    unfold parM
    simp only
    rw [eA]
    by_cases e : ty = true
    · rw [if_pos ⟨e, hne⟩, if_pos e]
    · rw [if_neg (fun q => e q.1), if_neg e]
  have eS : stepM st ids ⟨tk, ta, tb, tc, td, ty⟩ = makeM st ids PAR ⟨tk, ta, tb, tc, td, ty⟩ := by
    unfold stepM
    rw [if_pos (by rw [eK]; omega), hPAR]
  rw [eS]
  obtain ⟨NN, hNN⟩ : ∃ z, (opMake st PAR).1 = z := ⟨_, rfl⟩
  obtain ⟨ER, hER⟩ : ∃ z, (opMake st PAR).2.1 = z := ⟨_, rfl⟩
  obtain ⟨ST1, hST1⟩ : ∃ z, (opMake st PAR).2.2 = z := ⟨_, rfl⟩
  have hf1 : Fine ST1 := by rw [← hST1]; exact fine_make hf _
  obtain ⟨T8, hT8⟩ : ∃ z, tb.tdiv 8 = z := ⟨_, rfl⟩
  have h8 : I64 T8 := by
    have := ht.b
    unfold I64 at *
    simp only at this
    have := tdiv8_bd tb
    rw [hT8] at this
    omega
  have w8 : IntKind.i64.wrap T8 = T8 := by unfold I64 at h8; rw [IntKind.wrap_i64]; omega
  obtain ⟨P5, hP5⟩ : ∃ z, pickI tb 5 = z := ⟨_, rfl⟩
  obtain ⟨Q5, hQ5⟩ : ∃ z, pickI T8 5 = z := ⟨_, rfl⟩
  have b5 := pick_bd tb 5 (by omega)
  have q5 := pick_bd T8 5 (by omega)
  rw [hP5] at b5
  rw [hQ5] at q5
  obtain ⟨PW, hPW⟩ : ∃ z : Nat, 1 + P5 = (z : Int) := ⟨(1 + P5).toNat, by omega⟩
  obtain ⟨PH, hPH⟩ : ∃ z : Nat, 1 + Q5 = (z : Int) := ⟨(1 + Q5).toNat, by omega⟩
  have wP : IntKind.i64.wrap (1 + P5) = (PW : Int) := by rw [IntKind.wrap_i64]; omega
  have wQ : IntKind.i64.wrap (1 + Q5) = (PH : Int) := by rw [IntKind.wrap_i64]; omega
  obtain ⟨XX, hXX⟩ : ∃ z, PC - 3 = z := ⟨_, rfl⟩
  obtain ⟨YY, hYY⟩ : ∃ z, PD - 3 = z := ⟨_, rfl⟩
  have wX : IntKind.i64.wrap (PC - 3) = XX := by rw [IntKind.wrap_i64]; omega
  have wY : IntKind.i64.wrap (PD - 3) = YY := by rw [IntKind.wrap_i64]; omega
  obtain ⟨ST2, hST2⟩ : ∃ z, attM ST1 NN PW PH tc = z := ⟨_, rfl⟩
  have hf2 : Fine ST2 := by rw [← hST2]; exact fine_att hf1 _ _ _ _
  obtain ⟨ST3, hST3⟩ : ∃ z, (opOffset ST2 NN XX YY).2 = z := ⟨_, rfl⟩
  have hf3 : Fine ST3 := by rw [← hST3]; exact fine_offset hf2 _ _ _
  have eMd : madeM ST1 NN ⟨tk, ta, tb, tc, td, ty⟩ = ST3 := by
    unfold madeM StepD.X StepD.Y
    simp only
    rw [hT8, hP5, hQ5, hPW, hPH, hPC, hPD, hXX, hYY, hST2, hST3]
  have HM0 : Hid (ER = 0 → makeM st ids PAR ⟨tk, ta, tb, tc, td, ty⟩ = ((opCommit ST3 NN).2, ids ++ [NN], ST3.dmCommit NN)) := fun e => by
    unfold makeM
    rw [hER, if_pos e, hNN, hST1, eMd]
  have HM1 : Hid (¬ ER = 0 → makeM st ids PAR ⟨tk, ta, tb, tc, td, ty⟩ = (ST1, ids, none)) := fun e => by
    unfold makeM
    rw [hER, if_neg e, hST1]
  have HP5 : Hid (∀ V : World, Calls Tryz.prog 15 #[.int .i64 tb, .int .i64 5] V fun e w' => e = .returned (.int .i64 P5) ∧ w' = V) := fun V => by rw [← hP5]; exact pick_any tb 5 V ht.b.1 ht.b.2 (by omega) (by omega)
  have HQ5 : Hid (∀ V : World, Calls Tryz.prog 15 #[.int .i64 T8, .int .i64 5] V fun e w' => e = .returned (.int .i64 Q5) ∧ w' = V) := fun V => by rw [← hQ5]; exact pick_any T8 5 V h8.1 h8.2 (by omega) (by omega)
  have HMk : Hid (∀ (wr V : World) (B : Nat → Prop), MkI w wr S B vb x (.slice (some ⟨lg, 0, none⟩) n cap) st d ids #[.int .i64 tk, .int .i64 ta, .int .i64 tb, .int .i64 tc, .int .i64 td, .bool ty] → Below wr.heap.size wr V → Calls Tryz.prog 27 #[.pointer (some ⟨x, 0, none⟩), .int .i64 PAR] V fun e w1 => e = .returned (.tuple #[.int .i64 NN, .int .i64 ER]) ∧ ∃ A1, MkI w w1 S A1 vb x (.slice (some ⟨lg, 0, none⟩) n cap) ST1 d ids #[.int .i64 tk, .int .i64 ta, .int .i64 tb, .int .i64 tc, .int .i64 td, .bool ty]) := fun wr V B hI hV => by
    have := mk_make hf hI PAR hV
    rw [hNN, hER, hST1] at this
    exact this
  have HAt : Hid (∀ (wr V : World) (B : Nat → Prop) (lv : Value), MkI w wr S B vb x lv ST1 d (ids ++ [NN]) #[.int .i64 tk, .int .i64 ta, .int .i64 tb, .int .i64 tc, .int .i64 td, .bool ty] → Below wr.heap.size wr V → Calls Tryz.prog 33 #[.int .i64 PW, .int .i64 PH, .int .i64 tc] V fun e w1 => ∃ a m q, e = .returned (.slice a m q) ∧ Below wr.heap.size wr w1 ∧ ∀ V2 : World, Below w1.heap.size w1 V2 → Calls Tryz.prog 28 #[.pointer (some ⟨x, 0, none⟩), .int .i64 NN, .int .i64 PW, .int .i64 PH, .slice a m q] V2 fun e w' => ∃ er, e = .returned (.int .i64 er) ∧ ∃ A1, MkI w w' S A1 vb x lv ST2 d (ids ++ [NN]) #[.int .i64 tk, .int .i64 ta, .int .i64 tb, .int .i64 tc, .int .i64 td, .bool ty]) := fun wr V B lv hI hV => by
    have := mk_attach hf1 hI NN tc ht.c PW PH (by omega) (by omega) hV
    rw [hST2] at this
    exact this
  have HOf : Hid (∀ (wr : World) (B : Nat → Prop) (lv : Value), MkI w wr S B vb x lv ST2 d (ids ++ [NN]) #[.int .i64 tk, .int .i64 ta, .int .i64 tb, .int .i64 tc, .int .i64 td, .bool ty] → Calls Tryz.prog 29 #[.pointer (some ⟨x, 0, none⟩), .int .i64 NN, .int .i64 XX, .int .i64 YY] wr fun e w' => ∃ er, e = .returned (.int .i64 er) ∧ ∃ A1, MkI w w' S A1 vb x lv ST3 d (ids ++ [NN]) #[.int .i64 tk, .int .i64 ta, .int .i64 tb, .int .i64 tc, .int .i64 td, .bool ty]) := fun wr B lv hI => by
    have := mk_offset hf2 hI NN XX YY (Below.refl _ _)
    rw [hST3] at this
    exact this
  have HCm : Hid (∀ (wr : World) (B : Nat → Prop) (lv : Value), MkI w wr S B vb x lv ST3 d (ids ++ [NN]) #[.int .i64 tk, .int .i64 ta, .int .i64 tb, .int .i64 tc, .int .i64 td, .bool ty] → Calls Tryz.prog 30 #[.pointer (some ⟨x, 0, none⟩), .int .i64 NN] wr fun e w' => ∃ er, e = .returned (.int .i64 er) ∧ DoPost S vb d ((opCommit ST3 NN).2, ids ++ [NN], ST3.dmCommit NN) w (.returned (.tuple #[])) w') := fun wr B lv hI => mk_commit hf3 hI NN (Below.refl _ _)

  have HCl : Hid (∀ V : World, Below w.heap.size w V → V.cell? ⟨vb, 0, none⟩ = some (.pointer (some ⟨x, 0, none⟩)) ∧ V.cell? ⟨vb, 1, none⟩ = some (.slice (some ⟨lg, 0, none⟩) n cap) ∧ V.cell? ⟨lg, ia, none⟩ = some (.int .i64 ID) ∧ V.cell? ⟨lg, ib, none⟩ = some (.int .i64 OT)) := fun V hV => by
    have hA := h.below hV
    refine ⟨hA.blk.cell 0, hA.blk.cell 1, ?_, ?_⟩
    · have := World.ownsRow.cells hA.row (g := lg) rfl ia (.int .i64 ID) (by rw [List.getElem?_map, List.getElem?_eq_getElem (by omega), hID]; rfl)
      rw [add_at] at this
      simpa using this
    · have := World.ownsRow.cells hA.row (g := lg) rfl ib (.int .i64 OT) (by rw [List.getElem?_map, List.getElem?_eq_getElem (by omega), hOT]; rfl)
      rw [add_at] at this
      simpa using this
  have hlgl : lg < w.heap.size := (h.row.lt lg rfl).2
  have HPK : Hid (∀ V : World, Calls Tryz.prog 15 #[.int .i64 tk, .int .i64 16] V fun e w' => e = .returned (.int .i64 K) ∧ w' = V) := fun V => by rw [← hK]; exact pick_any tk 16 V ht.k.1 ht.k.2 (by omega) (by omega)
  have HPC : Hid (∀ V : World, Calls Tryz.prog 15 #[.int .i64 tc, .int .i64 12] V fun e w' => e = .returned (.int .i64 PC) ∧ w' = V) := fun V => by rw [← hPC]; exact pick_any tc 12 V ht.c.1 ht.c.2 (by omega) (by omega)
  have HPD : Hid (∀ V : World, Calls Tryz.prog 15 #[.int .i64 td, .int .i64 12] V fun e w' => e = .returned (.int .i64 PD) ∧ w' = V) := fun V => by rw [← hPD]; exact pick_any td 12 V ht.d.1 ht.d.2 (by omega) (by omega)
  have HPA : Hid (∀ V : World, Calls Tryz.prog 15 #[.int .i64 ta, .int .i64 n] V fun e w' => e = .returned (.int .i64 ia) ∧ w' = V) := fun V => by rw [← hia, ← hPA]; exact pick_any ta n V ht.a.1 ht.a.2 (by omega) (by omega)
  have HPB : Hid (∀ V : World, Calls Tryz.prog 15 #[.int .i64 tb, .int .i64 n] V fun e w' => e = .returned (.int .i64 ib) ∧ w' = V) := fun V => by rw [← hib, ← hPB]; exact pick_any tb n V ht.b.1 ht.b.2 (by omega) (by omega)
  have HA := hide (And.intro hf (And.intro h (And.intro ht (And.intro eK (And.intro eA (And.intro eB (And.intro eX eY)))))))
  have HN := hide (And.intro hnn hne)
  have HNb : Hid (n ≤ 100000) := by rw [← hnn]; exact hn
  obtain ⟨W0, hW0⟩ : ∃ W0, W0 = w.alloc (.cells #[.int .i64 tk, .int .i64 ta, .int .i64 tb, .int .i64 tc, .int .i64 td, .bool ty] 32) := ⟨_, rfl⟩
  have hB0 : Below w.heap.size w W0 := by rw [hW0]; exact (Below.refl _ _).alloc (Nat.le_refl _) _
  have HBx : Hid (∀ V : World, Below W0.heap.size W0 V → (V.cell? ⟨w.heap.size, 0, none⟩ = some (.int .i64 tk) ∧ V.cell? ⟨w.heap.size, 1, none⟩ = some (.int .i64 ta) ∧ V.cell? ⟨w.heap.size, 2, none⟩ = some (.int .i64 tb) ∧ V.cell? ⟨w.heap.size, 3, none⟩ = some (.int .i64 tc) ∧ V.cell? ⟨w.heap.size, 4, none⟩ = some (.int .i64 td) ∧ V.cell? ⟨w.heap.size, 5, none⟩ = some (.bool ty)) ∧ V.cell? ⟨vb, 0, none⟩ = some (.pointer (some ⟨x, 0, none⟩)) ∧ V.cell? ⟨vb, 1, none⟩ = some (.slice (some ⟨lg, 0, none⟩) n cap) ∧ V.cell? ⟨lg, ia, none⟩ = some (.int .i64 ID) ∧ V.cell? ⟨lg, ib, none⟩ = some (.int .i64 OT)) := fun V hV => by
    have hk0 : Blk W0 w.heap.size 32 #[.int .i64 tk, .int .i64 ta, .int .i64 tb, .int .i64 tc, .int .i64 td, .bool ty] := by rw [hW0]; exact heap_alloc_new w _
    have k := hk0.keep (hV.block _ (block_lt hk0))
    exact ⟨⟨k.cell 0, k.cell 1, k.cell 2, k.cell 3, k.cell 4, k.cell 5⟩, HCl.out V (hB0.trans (hV.mono hB0.size))⟩
  have HW := hide (And.intro hW0 hB0)
  have HI00 : Hid (MkI w W0 S A vb x (.slice (some ⟨lg, 0, none⟩) n cap) st d ids #[.int .i64 tk, .int .i64 ta, .int .i64 tb, .int .i64 tc, .int .i64 td, .bool ty]) := by rw [hW0]; exact MkI.start h _
  have hnb := HNb.out
  have hnI : (0 : Int) < (n : Int) := by omega
  have hn0 : ¬ (n : Int) = 0 := by omega
  have hiac : ia < cap := by omega
  have hibc : ib < cap := by omega
  have hian : ia < n := by omega
  have hibn : ib < n := by omega
  clear hf h ht hn h0 hnn hK hPC hPD hPA hPB bA bB hia hib hID hOT hne eK eA eB eX eY HCl hB0 hvl hlgl hcap eS eMd hST1 hST2 hST3 hf1 hf2 hf3 hNN hER h8 hP5 hQ5 b5 q5 hPW hPH hXX hYY hPAR HA bC bD
  have hwb : 0 = 0 := rfl
  go_enter Tryz.func13, Tryz.ntmps13
  go_upto_region 1 with fail
  rw [← HW.out.1]
  obtain ⟨⟨b0, b1, b2, b3, b4, b5⟩, v0, v1, r1, r2⟩ := HBx.out W0 (Below.refl _ _)
  clear hW0 b1 b2 b3 b4 b5 v0 r1 r2
  go_upto_region 7 with (go_at_call 15; refine (HPK.out _).mono ?_; rintro e w1 ⟨rfl, hw1⟩; replace hw1 := hw1.symm; subst hw1)
  clear b0
  go_cut [5] (fun s5 wx => s5 = .int .i64 ID ∧ Hid (Below W0.heap.size W0 wx))
  case first =>
    clear v1
    go_region_held3 (fun w' => w'.cell? ⟨vb, 1, none⟩ = some (.slice (some ⟨lg, 0, none⟩) n cap) ∧ w'.cell? ⟨w.heap.size, 1, none⟩ = some (.int .i64 ta) ∧ w'.cell? ⟨lg, ia, none⟩ = some (.int .i64 ID))
      (first
        | ((have q := HBx.out _ (by (repeat (first | with_reducible exact Below.refl _ _ | with_reducible refine Below.drew ?_)))); exact ⟨q.2.2.1, q.1.2.1, q.2.2.2.1⟩)
        | fail)
      (first
        | (go_at_call 15; refine (HPA.out _).mono ?_; rintro e w1 ⟨rfl, hw1⟩; replace hw1 := hw1.symm; subst hw1)
        | fail)
    all_goals go_wp2_with fail
    all_goals go_meet
    all_goals exact ⟨rfl, hide (by (repeat (first | with_reducible exact Below.refl _ _ | with_reducible refine Below.drew ?_)))⟩
  case rest =>
    obtain ⟨rfl, HZ1⟩ := hcut
    clear v1
    have v1 := (HBx.out _ HZ1.out).2.2.1
    go_upto_region 8 with fail
    go_cut [6] (fun s6 wx => s6 = .int .i64 OT ∧ Hid (Below W0.heap.size W0 wx))
    case first =>
      clear v1
      go_region_held3 (fun w' => w'.cell? ⟨vb, 1, none⟩ = some (.slice (some ⟨lg, 0, none⟩) n cap) ∧ w'.cell? ⟨w.heap.size, 2, none⟩ = some (.int .i64 tb) ∧ w'.cell? ⟨lg, ib, none⟩ = some (.int .i64 OT))
        (first
          | ((have q := HBx.out _ (by (repeat (first | with_reducible exact HZ1.out | with_reducible refine Below.drew ?_)))); exact ⟨q.2.2.1, q.1.2.2.1, q.2.2.2.2⟩)
          | fail)
        (first
          | (go_at_call 15; refine (HPB.out _).mono ?_; rintro e w1 ⟨rfl, hw1⟩; replace hw1 := hw1.symm; subst hw1)
          | fail)
      all_goals go_wp2_with fail
      all_goals go_meet
      all_goals exact ⟨rfl, hide (by (repeat (first | with_reducible exact HZ1.out | with_reducible refine Below.drew ?_)))⟩
    case rest =>
      obtain ⟨rfl, HZ2⟩ := hcut
      clear v1 HZ1 HPA HPB HPK
      have HI0 := hide (HI00.out.below HZ2.out)
      clear HI00 HBx HZ2
      obtain ⟨v0, v1, b0, b1, b2, b3, b4, b5⟩ := HI0.out.cells
      go_upto_region 11 with (first
        | (go_at_call_of 15 (Value.int IntKind.i64 tc); refine (HPC.out _).mono ?_; rintro e w1 ⟨rfl, hw1⟩; replace hw1 := hw1.symm; subst hw1; clear HPC)
        | (go_at_call_of 15 (Value.int IntKind.i64 td); refine (HPD.out _).mono ?_; rintro e w1 ⟨rfl, hw1⟩; replace hw1 := hw1.symm; subst hw1; clear HPD))
      have hKs : K = 0 ∨ K = 1 := by omega
      clear bK hk1
      rcases hKs with rfl | rfl <;> cases ty
      all_goals
        have hPAR := HPAR.out
        simp at hPAR
        subst hPAR
        clear HPAR
        go_upto_region 19 with (go_at_call 27; refine (HMk.out _ _ _ HI0.out (Below.refl _ _)).mono ?_; rintro e w1 ⟨rfl, A1, hI1⟩; have HI1 := hide hI1; clear hI1)
        clear HMk b0 b1 b2 b3 b4 b5 v0 v1
        by_cases hE : ER = 0
        rotate_left
        · go_wp2_with fail
          exact bodyPost_end (v := .tuple #[]) (by simp [results, Tryz.results13]) rfl (by rw [HM1.out hE]; exact HI1.out.done rfl)
        obtain ⟨v0, v1, b0, b1, b2, b3, b4, b5⟩ := HI1.out.cells
        have hr1 := HI1.out.alv.row
        have hvl1 := block_lt HI1.out.alv.blk
        have hsl1 := block_lt HI1.out.stp
        have HR1 := hide hr1
        clear b0 b1 b4 b5 hr1
        subst hE
        have HM2 := hide (HM0.out rfl)
        clear HM0 HM1
        go_upto_region 23 with (first
          | (go_at_call_of 15 (Value.int IntKind.i64 tb); refine (HP5.out _).mono ?_; rintro e w2 ⟨rfl, hw2⟩; replace hw2 := hw2.symm; subst hw2; clear HP5)
          | (go_at_call_of 15 (Value.int IntKind.i64 T8); refine (HQ5.out _).mono ?_; rintro e w2 ⟨rfl, hw2⟩; replace hw2 := hw2.symm; subst hw2; clear HQ5)
          | (at_builtin; refine wpList_append_row (P := Tryz.prog) rfl (.tmp 113) (.tmp 115) 24 rfl 0 3 i0 _ 1 8 Tryz.underlying24 hi0 hz0 hz1 hz2 rfl (by decide) (.slice (some ⟨lg, 0, none⟩) n cap) n (ids.map (Value.int .i64)) rfl ((by have q := HR1.out; rw [HN.out.1] at q; exact q.alloc _)) (.slice (some ⟨w1.heap.size, 0, none⟩) 1 1) 1 [.int .i64 NN] rfl rfl (.inr ⟨_, _, rfl, cell_one_new _ _ _⟩) (by simp [Value.oneCell']) (by unfold maxLen; omega) (by omega) (by omega) ?_; intro v9 w9 ho9 hg9 hn9 ha9; obtain ⟨ga, gc, hvf⟩ := row_form ho9; subst hvf; have H9 := hide (HI1.out.more ((Below.refl _ _).alloc (Nat.le_refl _) _) (by rw [HN.out.1]; exact ho9) hg9 (by simpa using ha9)); have c9 := H9.out.1.cell 1; have f9 := H9.out.1.has.free 1; simp only [List.getElem?_toArray, List.getElem?_cons_zero, List.getElem?_cons_succ] at c9; clear ho9 hg9 hn9 ha9 v0 v1 b2 b3))
        obtain ⟨W3, hW3⟩ : ∃ W3, W3 = w9.setCell ⟨vb, 1, none⟩ (.slice ga (n + 1) gc) := ⟨_, rfl⟩
        rw [← hW3]
        have hI3 := H9.out.2
        rw [← hW3] at hI3
        have HI3 := hide hI3
        clear hI3 hW3 H9
        have HSc : Hid (∀ V : World, Below W3.heap.size W3 V → V.cell? ⟨vb, 0, none⟩ = some (.pointer (some ⟨x, 0, none⟩)) ∧ V.cell? ⟨w.heap.size, 3, none⟩ = some (.int .i64 tc)) := fun V hV => let q := (HI3.out.below hV).cells; ⟨q.1, q.2.2.2.2.2.1⟩
        go_region_held3 (fun w' => w'.cell? ⟨vb, 0, none⟩ = some (.pointer (some ⟨x, 0, none⟩)) ∧ w'.cell? ⟨w.heap.size, 3, none⟩ = some (.int .i64 tc))
          (first
            | (refine HSc.out _ ?_; (repeat (first | with_reducible exact Below.refl _ _ | with_reducible exact HIb.out | with_reducible refine Below.drew ?_)); done)
            | exact HSd.out
            | fail)
          (first
            | (go_at_call 33; refine (HAt.out _ _ _ _ HI3.out ?_).mono ?_; (repeat (first | with_reducible exact Below.refl _ _ | with_reducible refine Below.drew ?_)); rintro e w4 ⟨ia2, im2, ic2, rfl, hb4, hat⟩; have HIb := hide hb4; have HAt3 := hide hat; clear hb4 hat)
            | (go_at_call 28; refine (HAt3.out _ ?_).mono ?_; (repeat (first | with_reducible exact Below.refl _ _ | with_reducible refine Below.drew ?_)); rintro e w5 ⟨er5, rfl, A5, hI5⟩; have HI5 := hide hI5; have HSd := hide (let q := hI5.cells; And.intro q.1 q.2.2.2.2.2.1); have v5 := hI5.cells.1; clear hI5)
            | fail)
        all_goals go_wp2_with (first
          | (go_at_call 29; refine (HOf.out _ _ _ HI5.out).mono ?_; rintro e w6 ⟨er6, rfl, A6, hI6⟩; have HI6 := hide hI6; have v6 := hI6.cells.1; clear hI6 v5)
          | (go_at_call 30; refine (HCm.out _ _ _ HI6.out).mono ?_; rintro e w7 ⟨er7, rfl, hp⟩; have HP := hide hp; clear hp))
        all_goals exact bodyPost_end (v := .tuple #[]) (by simp [results, Tryz.results13]) rfl (by rw [HM2.out]; exact HP.out)

end Go.Proofs.YtofinpocigbbeaaGreat
