import Derived.Test.YtofinpocigbbeaaGreatKbu
import Derived.Deep.RegionHeld3
namespace Go.Proofs.YtofinpocigbbeaaGreat
open Go.RowKit
attribute [local go_sem ↓] Go.wp_at_zero Go.wp_at_succ

set_option maxRecDepth 100000 in
set_option maxHeartbeats 4000000 in
/-- (*alive).does, where there is no surface. -/
theorem does_none {w : World} {S A : Nat → Prop} {vb x : Nat} {lv : Value} {st : St} (hf : Fine st) {d : Cv} (h : AlvX w S A vb x lv st d []) (tk ta tb tc td : Int) (ty : Bool) (ht : StepOk ⟨tk, ta, tb, tc, td, ty⟩) :
    Calls Tryz.prog 13 #[.pointer (some ⟨vb, 0, none⟩), .agg #[.int .i64 tk, .int .i64 ta, .int .i64 tb, .int .i64 tc, .int .i64 td, .bool ty]] w (DoPost S vb d (stepM st [] ⟨tk, ta, tb, tc, td, ty⟩) w) := by
  obtain ⟨i0, hi0, hz0, hz1, hz2⟩ := info_parts intInfo9
  obtain ⟨la, lc, hlf⟩ := row_form h.row
  replace hlf : lv = .slice la 0 lc := hlf
  subst hlf
  have eS : stepM st [] ⟨tk, ta, tb, tc, td, ty⟩ = makeM st [] (-1) ⟨tk, ta, tb, tc, td, ty⟩ := by
    unfold stepM
    rw [if_pos (.inl (by unfold kindM; rfl))]
    unfold parM
    simp
  rw [eS]
  obtain ⟨K, hK⟩ : ∃ K, pickI tk 16 = K := ⟨_, rfl⟩
  obtain ⟨PC, hPC⟩ : ∃ K, pickI tc 12 = K := ⟨_, rfl⟩
  obtain ⟨PD, hPD⟩ : ∃ K, pickI td 12 = K := ⟨_, rfl⟩
  have bC := pick_bd tc 12 (by omega)
  have bD := pick_bd td 12 (by omega)
  rw [hPC] at bC
  rw [hPD] at bD
  obtain ⟨NN, hNN⟩ : ∃ z, (opMake st (-1)).1 = z := ⟨_, rfl⟩
  obtain ⟨ER, hER⟩ : ∃ z, (opMake st (-1)).2.1 = z := ⟨_, rfl⟩
  obtain ⟨ST1, hST1⟩ : ∃ z, (opMake st (-1)).2.2 = z := ⟨_, rfl⟩
  have hf1 : Fine ST1 := by rw [← hST1]; exact fine_make hf _
  obtain ⟨T8, hT8⟩ : ∃ z, tb.tdiv 8 = z := ⟨_, rfl⟩
  have h8 : I64 T8 := by
    have := ht.b
    unfold I64 at *
    simp only at this
    have := tdiv8_bd tb
    rw [hT8] at this
    omega
  have w8 : IntKind.i64.wrap T8 = T8 := by unfold I64 at h8; rw [IntKind.wrap_i64]; omega
  obtain ⟨P5, hP5⟩ : ∃ z, pickI tb 5 = z := ⟨_, rfl⟩
  obtain ⟨Q5, hQ5⟩ : ∃ z, pickI T8 5 = z := ⟨_, rfl⟩
  have b5 := pick_bd tb 5 (by omega)
  have q5 := pick_bd T8 5 (by omega)
  rw [hP5] at b5
  rw [hQ5] at q5
  obtain ⟨PW, hPW⟩ : ∃ z : Nat, 1 + P5 = (z : Int) := ⟨(1 + P5).toNat, by omega⟩
  obtain ⟨PH, hPH⟩ : ∃ z : Nat, 1 + Q5 = (z : Int) := ⟨(1 + Q5).toNat, by omega⟩
  have wP : IntKind.i64.wrap (1 + P5) = (PW : Int) := by rw [IntKind.wrap_i64]; omega
  have wQ : IntKind.i64.wrap (1 + Q5) = (PH : Int) := by rw [IntKind.wrap_i64]; omega
  obtain ⟨XX, hXX⟩ : ∃ z, PC - 3 = z := ⟨_, rfl⟩
  obtain ⟨YY, hYY⟩ : ∃ z, PD - 3 = z := ⟨_, rfl⟩
  have wX : IntKind.i64.wrap (PC - 3) = XX := by rw [IntKind.wrap_i64]; omega
  have wY : IntKind.i64.wrap (PD - 3) = YY := by rw [IntKind.wrap_i64]; omega
  obtain ⟨ST2, hST2⟩ : ∃ z, attM ST1 NN PW PH tc = z := ⟨_, rfl⟩
  have hf2 : Fine ST2 := by rw [← hST2]; exact fine_att hf1 _ _ _ _
  obtain ⟨ST3, hST3⟩ : ∃ z, (opOffset ST2 NN XX YY).2 = z := ⟨_, rfl⟩
  have hf3 : Fine ST3 := by rw [← hST3]; exact fine_offset hf2 _ _ _
  have eMd : madeM ST1 NN ⟨tk, ta, tb, tc, td, ty⟩ = ST3 := by
    unfold madeM StepD.X StepD.Y
    simp only
    rw [hT8, hP5, hQ5, hPW, hPH, hPC, hPD, hXX, hYY, hST2, hST3]
  have HM0 : Hid (ER = 0 → makeM st [] (-1) ⟨tk, ta, tb, tc, td, ty⟩ = ((opCommit ST3 NN).2, [] ++ [NN], ST3.dmCommit NN)) := fun e => by
    unfold makeM
    rw [hER, if_pos e, hNN, hST1, eMd]
  have HM1 : Hid (¬ ER = 0 → makeM st [] (-1) ⟨tk, ta, tb, tc, td, ty⟩ = (ST1, [], none)) := fun e => by
    unfold makeM
    rw [hER, if_neg e, hST1]
  have HP5 : Hid (∀ V : World, Calls Tryz.prog 15 #[.int .i64 tb, .int .i64 5] V fun e w' => e = .returned (.int .i64 P5) ∧ w' = V) := fun V => by rw [← hP5]; exact pick_any tb 5 V ht.b.1 ht.b.2 (by omega) (by omega)
  have HQ5 : Hid (∀ V : World, Calls Tryz.prog 15 #[.int .i64 T8, .int .i64 5] V fun e w' => e = .returned (.int .i64 Q5) ∧ w' = V) := fun V => by rw [← hQ5]; exact pick_any T8 5 V h8.1 h8.2 (by omega) (by omega)
  have HMk : Hid (∀ (wr V : World) (B : Nat → Prop), MkI w wr S B vb x (.slice la 0 lc) st d [] #[.int .i64 tk, .int .i64 ta, .int .i64 tb, .int .i64 tc, .int .i64 td, .bool ty] → Below wr.heap.size wr V → Calls Tryz.prog 27 #[.pointer (some ⟨x, 0, none⟩), .int .i64 (-1)] V fun e w1 => e = .returned (.tuple #[.int .i64 NN, .int .i64 ER]) ∧ ∃ A1, MkI w w1 S A1 vb x (.slice la 0 lc) ST1 d [] #[.int .i64 tk, .int .i64 ta, .int .i64 tb, .int .i64 tc, .int .i64 td, .bool ty]) := fun wr V B hI hV => by
    have := mk_make hf hI (-1) hV
    rw [hNN, hER, hST1] at this
    exact this
  have HAt : Hid (∀ (wr V : World) (B : Nat → Prop) (lv : Value), MkI w wr S B vb x lv ST1 d ([] ++ [NN]) #[.int .i64 tk, .int .i64 ta, .int .i64 tb, .int .i64 tc, .int .i64 td, .bool ty] → Below wr.heap.size wr V → Calls Tryz.prog 33 #[.int .i64 PW, .int .i64 PH, .int .i64 tc] V fun e w1 => ∃ a m q, e = .returned (.slice a m q) ∧ Below wr.heap.size wr w1 ∧ ∀ V2 : World, Below w1.heap.size w1 V2 → Calls Tryz.prog 28 #[.pointer (some ⟨x, 0, none⟩), .int .i64 NN, .int .i64 PW, .int .i64 PH, .slice a m q] V2 fun e w' => ∃ er, e = .returned (.int .i64 er) ∧ ∃ A1, MkI w w' S A1 vb x lv ST2 d ([] ++ [NN]) #[.int .i64 tk, .int .i64 ta, .int .i64 tb, .int .i64 tc, .int .i64 td, .bool ty]) := fun wr V B lv hI hV => by
    have := mk_attach hf1 hI NN tc ht.c PW PH (by omega) (by omega) hV
    rw [hST2] at this
    exact this
  have HOf : Hid (∀ (wr : World) (B : Nat → Prop) (lv : Value), MkI w wr S B vb x lv ST2 d ([] ++ [NN]) #[.int .i64 tk, .int .i64 ta, .int .i64 tb, .int .i64 tc, .int .i64 td, .bool ty] → Calls Tryz.prog 29 #[.pointer (some ⟨x, 0, none⟩), .int .i64 NN, .int .i64 XX, .int .i64 YY] wr fun e w' => ∃ er, e = .returned (.int .i64 er) ∧ ∃ A1, MkI w w' S A1 vb x lv ST3 d ([] ++ [NN]) #[.int .i64 tk, .int .i64 ta, .int .i64 tb, .int .i64 tc, .int .i64 td, .bool ty]) := fun wr B lv hI => by
    have := mk_offset hf2 hI NN XX YY (Below.refl _ _)
    rw [hST3] at this
    exact this
  have HCm : Hid (∀ (wr : World) (B : Nat → Prop) (lv : Value), MkI w wr S B vb x lv ST3 d ([] ++ [NN]) #[.int .i64 tk, .int .i64 ta, .int .i64 tb, .int .i64 tc, .int .i64 td, .bool ty] → Calls Tryz.prog 30 #[.pointer (some ⟨x, 0, none⟩), .int .i64 NN] wr fun e w' => ∃ er, e = .returned (.int .i64 er) ∧ DoPost S vb d ((opCommit ST3 NN).2, [] ++ [NN], ST3.dmCommit NN) w (.returned (.tuple #[])) w') := fun wr B lv hI => mk_commit hf3 hI NN (Below.refl _ _)

  have HPK : Hid (∀ V : World, Calls Tryz.prog 15 #[.int .i64 tk, .int .i64 16] V fun e w' => e = .returned (.int .i64 K) ∧ w' = V) := fun V => by rw [← hK]; exact pick_any tk 16 V ht.k.1 ht.k.2 (by omega) (by omega)
  have HPC : Hid (∀ V : World, Calls Tryz.prog 15 #[.int .i64 tc, .int .i64 12] V fun e w' => e = .returned (.int .i64 PC) ∧ w' = V) := fun V => by rw [← hPC]; exact pick_any tc 12 V ht.c.1 ht.c.2 (by omega) (by omega)
  have HPD : Hid (∀ V : World, Calls Tryz.prog 15 #[.int .i64 td, .int .i64 12] V fun e w' => e = .returned (.int .i64 PD) ∧ w' = V) := fun V => by rw [← hPD]; exact pick_any td 12 V ht.d.1 ht.d.2 (by omega) (by omega)
  have hI0 := MkI.start h #[.int .i64 tk, .int .i64 ta, .int .i64 tb, .int .i64 tc, .int .i64 td, .bool ty]
  obtain ⟨W0, hW0⟩ : ∃ W0, W0 = w.alloc (.cells #[.int .i64 tk, .int .i64 ta, .int .i64 tb, .int .i64 tc, .int .i64 td, .bool ty] 32) := ⟨_, rfl⟩
  rw [← hW0] at hI0
  have HI0 := hide hI0
  have HW := hide hW0
  clear hI0 hW0 h hf ht eS eMd hST1 hST2 hST3 hf1 hf2 hf3 hNN hER h8 hP5 hQ5 b5 q5 hPW hPH hXX hYY hK hPC hPD bC bD
  go_enter Tryz.func13, Tryz.ntmps13
  go_upto_region 1 with fail
  rw [← HW.out]
  obtain ⟨v0, v1, b0, b1, b2, b3, b4, b5⟩ := HI0.out.cells
  go_upto_region 16 with (first
    | (go_at_call_of 15 (Value.int IntKind.i64 tk); refine (HPK.out _).mono ?_; rintro e w1 ⟨rfl, hw1⟩; replace hw1 := hw1.symm; subst hw1; clear HPK)
    | (go_at_call_of 15 (Value.int IntKind.i64 tc); refine (HPC.out _).mono ?_; rintro e w1 ⟨rfl, hw1⟩; replace hw1 := hw1.symm; subst hw1; clear HPC)
    | (go_at_call_of 15 (Value.int IntKind.i64 td); refine (HPD.out _).mono ?_; rintro e w1 ⟨rfl, hw1⟩; replace hw1 := hw1.symm; subst hw1; clear HPD))
  cases ty
  all_goals
    go_upto_region 19 with (go_at_call 27; refine (HMk.out _ _ _ HI0.out (Below.refl _ _)).mono ?_; rintro e w1 ⟨rfl, A1, hI1⟩; have HI1 := hide hI1; clear hI1)
    clear HMk b0 b1 b2 b3 b4 b5 v0 v1
    by_cases hE : ER = 0
    rotate_left
    · go_wp2_with fail
      exact bodyPost_end (v := .tuple #[]) (by simp [results, Tryz.results13]) rfl (by rw [HM1.out hE]; exact HI1.out.done rfl)
    obtain ⟨v0, v1, b0, b1, b2, b3, b4, b5⟩ := HI1.out.cells
    have hr1 := HI1.out.alv.row
    have hvl1 := block_lt HI1.out.alv.blk
    have hsl1 := block_lt HI1.out.stp
    have HR1 := hide hr1
    clear b0 b1 b4 b5 hr1
    subst hE
    have HM2 := hide (HM0.out rfl)
    clear HM0 HM1
    go_upto_region 23 with (first
      | (go_at_call_of 15 (Value.int IntKind.i64 tb); refine (HP5.out _).mono ?_; rintro e w2 ⟨rfl, hw2⟩; replace hw2 := hw2.symm; subst hw2; clear HP5)
      | (go_at_call_of 15 (Value.int IntKind.i64 T8); refine (HQ5.out _).mono ?_; rintro e w2 ⟨rfl, hw2⟩; replace hw2 := hw2.symm; subst hw2; clear HQ5)
      | (at_builtin; refine wpList_append_row (P := Tryz.prog) rfl (.tmp 113) (.tmp 115) 24 rfl 0 3 i0 _ 1 8 Tryz.underlying24 hi0 hz0 hz1 hz2 rfl (by decide) (.slice la 0 lc) 0 ([].map (Value.int .i64)) rfl (HR1.out.alloc _) (.slice (some ⟨w1.heap.size, 0, none⟩) 1 1) 1 [.int .i64 NN] rfl rfl (.inr ⟨_, _, rfl, cell_one_new _ _ _⟩) (by simp [Value.oneCell']) (by unfold maxLen; omega) (by omega) (by omega) ?_; intro v9 w9 ho9 hg9 hn9 ha9; obtain ⟨ga, gc, hvf⟩ := row_form ho9; subst hvf; have H9 := hide (HI1.out.more ((Below.refl _ _).alloc (Nat.le_refl _) _) (by simpa using ho9) hg9 (by simpa using ha9)); have c9 := H9.out.1.cell 1; have f9 := H9.out.1.has.free 1; simp only [List.getElem?_toArray, List.getElem?_cons_zero, List.getElem?_cons_succ] at c9; clear ho9 hg9 hn9 ha9 v0 v1 b2 b3))
    obtain ⟨W3, hW3⟩ : ∃ W3, W3 = w9.setCell ⟨vb, 1, none⟩ (.slice ga (0 + 1) gc) := ⟨_, rfl⟩
    rw [← hW3]
    have hI3 := H9.out.2
    rw [← hW3] at hI3
    have HI3 := hide hI3
    clear hI3 hW3 H9
    have HSc : Hid (∀ V : World, Below W3.heap.size W3 V → V.cell? ⟨vb, 0, none⟩ = some (.pointer (some ⟨x, 0, none⟩)) ∧ V.cell? ⟨w.heap.size, 3, none⟩ = some (.int .i64 tc)) := fun V hV => let q := (HI3.out.below hV).cells; ⟨q.1, q.2.2.2.2.2.1⟩
    go_region_held3 (fun w' => w'.cell? ⟨vb, 0, none⟩ = some (.pointer (some ⟨x, 0, none⟩)) ∧ w'.cell? ⟨w.heap.size, 3, none⟩ = some (.int .i64 tc))
      (first
        | (refine HSc.out _ ?_; (repeat (first | with_reducible exact Below.refl _ _ | with_reducible exact HIb.out | with_reducible refine Below.drew ?_)); done)
        | exact HSd.out
        | fail)
      (first
        | (go_at_call 33; refine (HAt.out _ _ _ _ HI3.out ?_).mono ?_; (repeat (first | with_reducible exact Below.refl _ _ | with_reducible refine Below.drew ?_)); rintro e w4 ⟨ia2, im2, ic2, rfl, hb4, hat⟩; have HIb := hide hb4; have HAt3 := hide hat; clear hb4 hat)
        | (go_at_call 28; refine (HAt3.out _ ?_).mono ?_; (repeat (first | with_reducible exact Below.refl _ _ | with_reducible refine Below.drew ?_)); rintro e w5 ⟨er5, rfl, A5, hI5⟩; have HI5 := hide hI5; have HSd := hide (let q := hI5.cells; And.intro q.1 q.2.2.2.2.2.1); have v5 := hI5.cells.1; clear hI5)
        | fail)
    all_goals go_wp2_with (first
      | (go_at_call 29; refine (HOf.out _ _ _ HI5.out).mono ?_; rintro e w6 ⟨er6, rfl, A6, hI6⟩; have HI6 := hide hI6; have v6 := hI6.cells.1; clear hI6 v5)
      | (go_at_call 30; refine (HCm.out _ _ _ HI6.out).mono ?_; rintro e w7 ⟨er7, rfl, hp⟩; have HP := hide hp; clear hp))
    all_goals exact bodyPost_end (v := .tuple #[]) (by simp [results, Tryz.results13]) rfl (by rw [HM2.out]; exact HP.out)

end Go.Proofs.YtofinpocigbbeaaGreat
