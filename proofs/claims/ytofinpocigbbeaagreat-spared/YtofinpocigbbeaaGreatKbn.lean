import Derived.Test.YtofinpocigbbeaaGreatKbm
namespace Go.Proofs.YtofinpocigbbeaaGreat
open Go.RowKit
attribute [local go_sem ↓] Go.wp_at_zero Go.wp_at_succ
attribute [local go_sem high] to_ten run_ten to_gr run_gr
attribute [local go_sem] olO_new grO_new hasB_allocO hasB_allocG hasB_drew hasB_rowG

set_option linter.unusedSimpArgs false in
set_option maxRecDepth 100000 in
set_option maxHeartbeats 4000000 in
/-- (*Surface).Commit -/
theorem sfCommit_any {w : World} {S : Nat → Prop} {x : Nat} {st : St} (hf : Fine st) {bv : Value} {sc mp : Nat} {blk : Int → Nat} {G : Int → Nat → Value} (h : PRaw w S x st bv sc mp blk G) (hSl : ∀ g, S g → g < w.heap.size) (i : Nat) (hi : i ∈ st.order) :
    Calls Tryz.prog 64 #[.pointer (some ⟨blk i, 0, none⟩)] w (CmPost S x st i bv w) := by
  have hw := hf.wf
  have hwc := cm_wf hw hf.sib hi
  have hic : i ∈ (cm st i).order := (cm_perm hw hf.sib hi).mem_iff.2 hi
  obtain ⟨i0, hi0, hz0, hz1, hz2⟩ := info_parts rectInfo
  obtain ⟨gb, hgb⟩ : ∃ gb, blk i = gb := ⟨_, rfl⟩
  obtain ⟨N, hN⟩ : ∃ N, (st.sf i).now = N := ⟨_, rfl⟩
  obtain ⟨K, hK⟩ : ∃ K : Int, (st.pos i : Int) = K := ⟨_, rfl⟩
  obtain ⟨N2, hN2⟩ : ∃ N2, ((cm st i).sf i).now = N2 := ⟨_, rfl⟩
  obtain ⟨K2, hK2⟩ : ∃ K2 : Int, ((cm st i).pos i : Int) = K2 := ⟨_, rfl⟩
  obtain ⟨parts, hparts⟩ : ∃ parts, (st.visAll i).map st.seen = parts := ⟨_, rfl⟩
  obtain ⟨rn, hrn⟩ : ∃ rn, parts.length = rn := ⟨_, rfl⟩
  obtain ⟨parts2, hparts2⟩ : ∃ parts2, ((cm st i).visAll i).map (cm st i).seen = parts2 := ⟨_, rfl⟩
  obtain ⟨rn2, hrn2⟩ : ∃ rn2, parts2.length = rn2 := ⟨_, rfl⟩
  have hr13 : rn ≤ 13 := by rw [← hrn, ← hparts, List.length_map]; exact visAll_len hw (live_nat hi)
  have hr13' : rn2 ≤ 13 := by rw [← hrn2, ← hparts2, List.length_map]; exact visAll_len hwc (live_nat hic)
  obtain ⟨a, ha⟩ : ∃ a, N.w = a := ⟨_, rfl⟩
  obtain ⟨b, hb⟩ : ∃ b, N.h = b := ⟨_, rfl⟩
  obtain ⟨opa, e5, _⟩ := (h.data i hi).pix
  obtain ⟨on, hon⟩ : ∃ on, (st.sf i).now.n = on := ⟨_, rfl⟩
  rw [hon] at e5
  obtain ⟨mb, hmb⟩ : ∃ mb, st.moved i = mb := ⟨_, rfl⟩
  have FG : Hid (∀ V : World, Below w.heap.size w V → V.cell? ⟨gb, 3, none⟩ = some (.int .i64 a) ∧ V.cell? ⟨gb, 4, none⟩ = some (.int .i64 b) ∧ V.cell? ⟨gb, 5, none⟩ = some (.slice opa on on)) := fun V hV => by
    obtain ⟨kc, kf, kl⟩ := (h.below hV).at (live_nat hi)
    have q := (h.cells i (live_nat hi)).nat
    have qn := q.now
    rw [hN] at qn
    rw [← hgb]
    exact ⟨by rw [kc 3 (by omega), ← ha]; exact congrArg some qn.w, by rw [kc 4 (by omega), ← hb]; exact congrArg some qn.h, by rw [kc 5 (by omega), e5]⟩
  have HOl : Hid (∀ V : World, Below w.heap.size w V → Calls Tryz.prog 105 #[.pointer (some ⟨gb, 0, none⟩)] V fun e w1 => e = .returned (.agg #[.int .i64 a, .int .i64 b, .int .i64 N.x, .int .i64 N.y, .int .i64 N.clip.1, .int .i64 N.clip.2.1, .int .i64 N.clip.2.2.1, .int .i64 N.clip.2.2.2, .bool N.cut, .int .i64 K]) ∧ Below V.heap.size V w1 ∧ Below w.heap.size w w1) := fun V hV => by
    have := outline_any hw h i hi V hV
    rw [hgb, hN, hK] at this
    unfold olC at this
    rw [ha, hb] at this
    refine this.mono ?_
    rintro e w1 ⟨rfl, h1⟩
    exact ⟨rfl, h1, hV.trans (h1.mono hV.size)⟩
  have HSp : Hid (∀ V : World, Below w.heap.size w V → Calls Tryz.prog 106 #[.pointer (some ⟨gb, 0, none⟩)] V fun e w2 => ∃ v2 c2, e = .returned (.slice v2 rn c2) ∧ OwnR w2 w.heap.size (.slice v2 rn c2) parts ∧ Below V.heap.size V w2 ∧ Below w.heap.size w w2) := fun V hV => by
    have hr := h.below hV
    have := seenParts_any hw (live_nat hi) (hr.lays hw (live_nat hi)) (hr.sl hw (live_nat hi))
    rw [hgb, hparts] at this
    refine this.mono ?_
    rintro e w2 ⟨v, rfl, h1, h2⟩
    obtain ⟨va, vc, rfl⟩ := h1.form
    rw [hrn] at h1 ⊢
    exact ⟨va, vc, rfl, h1.lower hV.size, h2, hV.trans (h2.mono hV.size)⟩
  rw [hgb]
  have HRaw := hide h
  have HF := hide (And.intro hf (And.intro hSl (And.intro hi (And.intro hwc (And.intro hic (And.intro hw hmb))))))
  have HE := hide (And.intro hgb (And.intro hN (And.intro hK (And.intro hN2 (And.intro hK2 (And.intro hparts (And.intro hrn (And.intro hparts2 (And.intro hrn2 (And.intro ha (And.intro hb (And.intro e5 hon))))))))))))
  clear h hf hSl hi hwc hic hw hmb hgb hN hK hN2 hK2 hparts hrn hparts2 hrn2 ha hb e5 hon
  go_enter Tryz.func64, Tryz.ntmps64
  go_upto_region 1 with fail
  go_cut [3, 4, 5] (fun s3 s4 s5 wx => ∃ ob gx v c, s3 = .pointer (some ⟨ob, 0, none⟩) ∧ s4 = .pointer (some ⟨gx, 0, none⟩) ∧ s5 = .slice v rn c ∧ Hid (Below w.heap.size w wx ∧ Blk wx ob 181 #[.int .i64 a, .int .i64 b, .int .i64 N.x, .int .i64 N.y, .int .i64 N.clip.1, .int .i64 N.clip.2.1, .int .i64 N.clip.2.2.1, .int .i64 N.clip.2.2.2, .bool N.cut, .int .i64 K] ∧ Blk wx gx 122 #[.int .i64 a, .int .i64 b, .slice opa on on] ∧ OwnR wx w.heap.size (.slice v rn c) parts ∧ w.heap.size ≤ ob ∧ w.heap.size ≤ gx))
  case first =>
    clear HRaw HF HE
    go_region_held3 (fun w' => w'.cell? ⟨gb, 3, none⟩ = some (.int .i64 a) ∧ w'.cell? ⟨gb, 4, none⟩ = some (.int .i64 b) ∧ w'.cell? ⟨gb, 5, none⟩ = some (.slice opa on on))
      (first
        | (refine FG.out _ ?_; (repeat (first | with_reducible exact Below.refl _ _ | with_reducible exact HB1.out | with_reducible exact HB2.out.1 | with_reducible refine Below.drew ?_ | with_reducible refine Below.setRow ?_ (by first | omega | (simp <;> omega)) _ | with_reducible refine Below.alloc ?_ (by first | omega | (simp <;> omega)) _)); done)
        | fail)
      (first
        | (go_at_call 105; refine (HOl.out _ ?_).mono ?_; (repeat (first | with_reducible exact Below.refl _ _ | with_reducible refine Below.drew ?_ | with_reducible refine Below.alloc ?_ (by first | omega | (simp <;> omega)) _)); rintro e w1 ⟨rfl, hb, hb1⟩; have n1 := hb.size; (try simp at n1); (try have p1 : w1.heap.size ≠ w.heap.size := by omega); (try have p1' : w.heap.size ≠ w1.heap.size := by omega); have HB1 := hide hb1; (try (have q0 := HasB.under (n := w.heap.size) (T := 181) (k := 10) hb; simp [olO_new, hasB_allocO, hasB_drew] at q0)); (try (have q1 := HasB.under (n := w.heap.size + 1) (T := 181) (k := 10) hb; simp [olO_new, hasB_allocO, hasB_drew] at q1)); (try (have r0 := HasB.under (n := w.heap.size) (T := 122) (k := 3) hb; simp [grO_new, hasB_allocG, hasB_drew] at r0)); (try (have r1 := HasB.under (n := w.heap.size + 1) (T := 122) (k := 3) hb; simp [grO_new, hasB_allocG, hasB_drew] at r1)); clear hb1 hb)
        | (go_at_call 106; refine (HSp.out _ ?_).mono ?_; (repeat (first | with_reducible exact Below.refl _ _ | with_reducible exact HB1.out | with_reducible refine Below.drew ?_ | with_reducible refine Below.alloc ?_ (by first | omega | (simp <;> omega)) _)); rintro e w2 ⟨v2, c2, rfl, hr2, hb, hb2⟩; have n2 := hb.size; (try simp at n2); (try have p2 : w2.heap.size ≠ w.heap.size := by omega); (try have p2' : w.heap.size ≠ w2.heap.size := by omega); (try have p3 : w2.heap.size ≠ w1.heap.size := by omega); (try have p3' : w1.heap.size ≠ w2.heap.size := by omega); have HB2 := hide (And.intro hb2 hr2); (try (have q2 := HasB.under (n := w.heap.size) (T := 181) (k := 10) hb; simp [olO_new, hasB_allocO, hasB_drew, *] at q2)); (try (have q3 := HasB.under (n := w.heap.size + 1) (T := 181) (k := 10) hb; simp [olO_new, hasB_allocO, hasB_drew, *] at q3)); (try (have q4 := HasB.under (n := w1.heap.size) (T := 181) (k := 10) hb; simp [olO_new, hasB_allocO, hasB_drew] at q4)); (try (have q5 := HasB.under (n := w1.heap.size + 1) (T := 181) (k := 10) hb; simp [olO_new, hasB_allocO, hasB_drew] at q5)); (try (have r2 := HasB.under (n := w.heap.size) (T := 122) (k := 3) hb; simp [grO_new, hasB_allocG, hasB_drew, *] at r2)); (try (have r3 := HasB.under (n := w.heap.size + 1) (T := 122) (k := 3) hb; simp [grO_new, hasB_allocG, hasB_drew, *] at r3)); (try (have r4 := HasB.under (n := w1.heap.size) (T := 122) (k := 3) hb; simp [grO_new, hasB_allocG, hasB_drew] at r4)); (try (have r5 := HasB.under (n := w1.heap.size + 1) (T := 122) (k := 3) hb; simp [grO_new, hasB_allocG, hasB_drew] at r5)); clear hb2 hb hr2)
        | fail)
    all_goals go_wp2_with fail
    all_goals go_meet
    all_goals refine ⟨_, _, _, _, rfl, rfl, rfl, ?_⟩
    all_goals unfold Hid
    all_goals refine ⟨?_, ?_, ?_, ?_, ?_, ?_⟩
    all_goals first
      | ((repeat (first | with_reducible exact Below.refl _ _ | with_reducible exact HB2.out.1 | with_reducible refine Below.drew ?_ | with_reducible refine Below.setRow ?_ (by first | omega | (simp <;> omega)) _ | with_reducible refine Below.alloc ?_ (by first | omega | (simp <;> omega)) _)); done)
      | omega
      | (simp; omega)
      | ((repeat (first
          | with_reducible refine Blk.sameRow (T := 181) (k := 10) ?_ _
          | with_reducible refine Blk.sameRow (T := 122) (k := 3) ?_ _
          | with_reducible refine Blk.otherRow ?_ (by first | omega | (simp <;> omega))))
         simp [olO_new, grO_new, hasB_allocO, hasB_allocG, hasB_drew, hasB_rowG, *]; done)
      | (refine OwnR.rowT (T := 122) (k := 3) (OwnR.rowT (T := 181) (k := 10) ?_ ?_ (by decide) _) ?_ (by decide) _
         all_goals first
           | ((repeat (first | exact HB2.out.2 | refine OwnR.alloc ?_ _)); done)
           | (simp [olO_new, grO_new, hasB_allocO, hasB_allocG, hasB_drew, hasB_rowG, *]; done))
  case rest =>
    obtain ⟨ob, gx, va, vc, rfl, rfl, rfl, HC⟩ := hcut
    obtain ⟨hbx, hob, hgx, hrow, hob1, hgx1⟩ := HC.out
    obtain ⟨hf, hSl, hi, hwc, hic, hw, hmb⟩ := HF.out
    obtain ⟨hgb, hN, hK, hN2, hK2, hparts, hrn, hparts2, hrn2, ha, hb, e5, hon⟩ := HE.out
    have h := HRaw.out
    have hx := h.below hbx
    obtain ⟨kc, kf, kl⟩ := hx.at (live_nat hi)
    have q := (hx.cells i (live_nat hi)).nat
    obtain ⟨l, hl⟩ : ∃ l, (st.sf i).next = l := ⟨_, rfl⟩
    have lk := (hw.lk i).2
    rw [hl] at lk
    have lw := lk.w
    have lh := lk.h
    obtain ⟨W, hWl⟩ : ∃ W : Nat, l.w = (W : Int) := ⟨l.w.toNat, by omega⟩
    obtain ⟨H, hHl⟩ : ∃ H : Nat, l.h = (H : Int) := ⟨l.h.toNat, by omega⟩
    obtain ⟨n, hn⟩ : ∃ n, l.n = n := ⟨_, rfl⟩
    obtain ⟨pa, e16, _⟩ := (hx.data i hi).npix
    rw [hl, hn] at e16
    obtain ⟨ha', hm, hk, e24⟩ := q.next.hint
    have e24' : G i 24 = .slice ha' hm hk := e24
    have qn := q.next
    rw [hl] at qn
    obtain ⟨W1, hW1⟩ : ∃ W1, W1 = elev wc (blk i) (.int .i64 l.w) (.int .i64 l.h) (.slice pa n n) (.int .i64 l.x) (.int .i64 l.y) (.int .i64 l.clip.1) (.int .i64 l.clip.2.1) (.int .i64 l.clip.2.2.1) (.int .i64 l.clip.2.2.2) (.bool l.cut) (.slice ha' hm hk) := ⟨_, rfl⟩
    have hs1 : SrfB W1 (blk i) (upEl (G i) (.int .i64 l.w) (.int .i64 l.h) (.slice pa n n) (.int .i64 l.x) (.int .i64 l.y) (.int .i64 l.clip.1) (.int .i64 l.clip.2.1) (.int .i64 l.clip.2.2.1) (.int .i64 l.clip.2.2.2) (.bool l.cut) (.slice ha' hm hk)) := by rw [hW1]; exact elev_srf (hx.srf i (live_nat hi)) ..
    have hkd1 : KeptD wc W1 := by rw [hW1]; exact elev_kept (hx.srf i (live_nat hi)) _ _ _ _ _ _ _ _ _ _ _
    have hsz1 : W1.heap.size = wc.heap.size := by rw [hW1]; exact elev_size ..
    have HKh : Hid (Calls Tryz.prog 107 #[.agg #[.int .i64 W, .int .i64 H, .slice pa n n, .int .i64 l.x, .int .i64 l.y, .int .i64 l.clip.1, .int .i64 l.clip.2.1, .int .i64 l.clip.2.2.1, .int .i64 l.clip.2.2.2, .bool l.cut, .slice ha' hm hk]] W1 fun e w' => ∃ g, e = .returned (.agg #[.int .i64 W, .int .i64 H, .slice (some ⟨g, 0, none⟩) n n]) ∧ BoolF w' g n (keptOf l) ∧ W1.heap.size ≤ g ∧ Below W1.heap.size W1 w') := by
      have := cm_hint hw hx hi l hl W H hWl hHl pa ha' hm hk (by rw [hn]; exact e16) e24' W1 hkd1
      rw [hn] at this
      exact this
    have HSt : Hid (∀ (V : World) (kg : Nat), Below W1.heap.size W1 V → (St9 ⟨gb, 28, none⟩ [.int .i64 W, .int .i64 H, .slice (some ⟨kg, 0, none⟩) n n]).run Tryz.prog V = .ok () (((V.setCell ⟨gb, 28, none⟩ (.int .i64 W)).setCell ⟨gb, 29, none⟩ (.int .i64 H)).setCell ⟨gb, 30, none⟩ (.slice (some ⟨kg, 0, none⟩) n n))) := fun V kg hV => by
      rw [← hgb]
      exact run_kept (hs1.keep (hV.block (blk i) (by omega))) _ _ _ _ _
    have HRs : Hid (∀ (W2 : World) (kg : Nat), BoolF W2 kg n (keptOf l) → W1.heap.size ≤ kg → Below W1.heap.size W1 W2 → Calls Tryz.prog 108 #[.pointer (some ⟨gb, 0, none⟩)] (((W2.setCell ⟨gb, 28, none⟩ (.int .i64 W)).setCell ⟨gb, 29, none⟩ (.int .i64 H)).setCell ⟨gb, 30, none⟩ (.slice (some ⟨kg, 0, none⟩) n n)) fun e w' => e = .returned (.tuple #[]) ∧ ∃ G4, CmM w w' S x st i bv sc mp blk G4 kg ob gx #[.int .i64 a, .int .i64 b, .int .i64 N.x, .int .i64 N.y, .int .i64 N.clip.1, .int .i64 N.clip.2.1, .int .i64 N.clip.2.2.1, .int .i64 N.clip.2.2.2, .bool N.cut, .int .i64 K] #[.int .i64 a, .int .i64 b, .slice opa on on] (.slice va rn vc) parts opa on (st.sf i).now.pix) := fun W2 kg h1 h2 h3 => by
      have := cm_restack hf hSl h hi hbx hob hgx hrow hob1 hgx1 l hl _ _ e16 e24' kg W1 hW1 h3 (by omega) (by rw [hn]; exact h1) opa on hon.symm e5
      rw [hgb, hWl, hHl, hn] at this
      exact this
    have HD1 : Hid (W1.cell? ⟨gb, 3, none⟩ = some (.int .i64 W) ∧ W1.cell? ⟨gb, 4, none⟩ = some (.int .i64 H) ∧ W1.cell? ⟨gb, 5, none⟩ = some (.slice pa n n) ∧ W1.cell? ⟨gb, 6, none⟩ = some (.int .i64 l.x) ∧ W1.cell? ⟨gb, 7, none⟩ = some (.int .i64 l.y) ∧ W1.cell? ⟨gb, 8, none⟩ = some (.int .i64 l.clip.1) ∧ W1.cell? ⟨gb, 9, none⟩ = some (.int .i64 l.clip.2.1) ∧ W1.cell? ⟨gb, 10, none⟩ = some (.int .i64 l.clip.2.2.1) ∧ W1.cell? ⟨gb, 11, none⟩ = some (.int .i64 l.clip.2.2.2) ∧ W1.cell? ⟨gb, 12, none⟩ = some (.bool l.cut) ∧ W1.cell? ⟨gb, 13, none⟩ = some (.slice ha' hm hk)) := by
      rw [← hgb, ← hWl, ← hHl]
      exact ⟨hs1.cell 3 (by omega), hs1.cell 4 (by omega), hs1.cell 5 (by omega), hs1.cell 6 (by omega), hs1.cell 7 (by omega), hs1.cell 8 (by omega), hs1.cell 9 (by omega), hs1.cell 10 (by omega), hs1.cell 11 (by omega), hs1.cell 12 (by omega), hs1.cell 13 (by omega)⟩
    have c14 := (kc 14 (by omega)).trans (congrArg some qn.w)
    have c15 := (kc 15 (by omega)).trans (congrArg some qn.h)
    have c16 := (kc 16 (by omega)).trans (congrArg some e16)
    have c17 := (kc 17 (by omega)).trans (congrArg some qn.x)
    have c18 := (kc 18 (by omega)).trans (congrArg some qn.y)
    have c19 := (kc 19 (by omega)).trans (congrArg some qn.c0)
    have c20 := (kc 20 (by omega)).trans (congrArg some qn.c1)
    have c21 := (kc 21 (by omega)).trans (congrArg some qn.c2)
    have c22 := (kc 22 (by omega)).trans (congrArg some qn.c3)
    have c23 := (kc 23 (by omega)).trans (congrArg some qn.cut)
    have c24 := (kc 24 (by omega)).trans (congrArg some e24')
    have c3 := kc 3 (by omega)
    have c4 := kc 4 (by omega)
    have c5 := kc 5 (by omega)
    have c6 := kc 6 (by omega)
    have c7 := kc 7 (by omega)
    have c8 := kc 8 (by omega)
    have c9 := kc 9 (by omega)
    have c10 := kc 10 (by omega)
    have c11 := kc 11 (by omega)
    have c12 := kc 12 (by omega)
    have c13 := kc 13 (by omega)
    have f3 := kf 3
    have f4 := kf 4
    have f5 := kf 5
    have f6 := kf 6
    have f7 := kf 7
    have f8 := kf 8
    have f9 := kf 9
    have f10 := kf 10
    have f11 := kf 11
    have f12 := kf 12
    have f13 := kf 13
    rw [hWl] at c14 hW1
    rw [hHl] at c15 hW1
    rw [hgb] at c3 c4 c5 c6 c7 c8 c9 c10 c11 c12 c13 c14 c15 c16 c17 c18 c19 c20 c21 c22 c23 c24 f3 f4 f5 f6 f7 f8 f9 f10 f11 f12 f13 hW1
    have HW1 := hide hW1
    unfold elev at HW1
    have HL := hide hl
    clear HC hbx hob hgx hrow hob1 hgx1 hf hSl hi hwc hic hw hmb hgb hN hK hN2 hK2 hparts hrn hparts2 hrn2 ha hb e5 hon h hx kc kf kl q lk lw lh hWl hHl hn e16 e24 e24' qn hs1 hkd1 hsz1 hW1 hl FG HOl HSp
    go_upto_region 3 with fail
    rw [← HW1.out]
    clear c3 c4 c5 c6 c7 c8 c9 c10 c11 c12 c13 c14 c15 c16 c17 c18 c19 c20 c21 c22 c23 c24 f3 f4 f5 f6 f7 f8 f9 f10 f11 f12 f13
    obtain ⟨d3, d4, d5, d6, d7, d8, d9, d10, d11, d12, d13⟩ := HD1.out
    go_upto_region 4 with (go_at_call 107; refine HKh.out.mono ?_; rintro e W2 ⟨kg, rfl, hbf, hkg, hB2⟩; have eSt := HSt.out W2 kg hB2; have HB2 := hide (And.intro hbf (And.intro hkg hB2)); clear hbf hkg hB2)
    clear d3 d4 d5 d6 d7 d8 d9 d10 d11 d12 d13 eSt HSt
    go_upto_region 5 with (go_at_call 108; refine (HRs.out W2 kg HB2.out.1 HB2.out.2.1 HB2.out.2.2).mono ?_; rintro e W4 ⟨rfl, G4, hM⟩; have HM4 := hide hM; clear hM)
    clear HRs HKh HW1 HD1
    obtain ⟨hf, hSl, hi, hwc, hic, hw, hmb⟩ := HF.out
    obtain ⟨hgb, hN, hK, hN2, hK2, hparts, hrn, hparts2, hrn2, ha, hb, e5, hon⟩ := HE.out
    have hmq : olEq N2 K2 N K = !mb := by
      rw [← hmb]
      unfold St.moved
      rw [hN2, hK2, hN, hK]
      simp
    have HOl2 : Hid (∀ V : World, Below W4.heap.size W4 V → Calls Tryz.prog 105 #[.pointer (some ⟨gb, 0, none⟩)] V fun e w1 => e = .returned (.agg #[.int .i64 N2.w, .int .i64 N2.h, .int .i64 N2.x, .int .i64 N2.y, .int .i64 N2.clip.1, .int .i64 N2.clip.2.1, .int .i64 N2.clip.2.2.1, .int .i64 N2.clip.2.2.2, .bool N2.cut, .int .i64 K2]) ∧ Below W4.heap.size W4 w1) := fun V hV => by
      have := outline_any hwc HM4.out.raw i hic V hV
      rw [hgb, hN2, hK2] at this
      unfold olC at this
      refine this.mono ?_
      rintro e w1 ⟨rfl, h1⟩
      exact ⟨rfl, hV.trans (h1.mono hV.size)⟩
    have FcS : Hid (∀ V : World, Below W4.heap.size W4 V → V.cell? ⟨ob, 0, none⟩ = some (.int .i64 a) ∧ V.cell? ⟨ob, 1, none⟩ = some (.int .i64 b) ∧ V.cell? ⟨ob, 2, none⟩ = some (.int .i64 N.x) ∧ V.cell? ⟨ob, 3, none⟩ = some (.int .i64 N.y) ∧ V.cell? ⟨ob, 4, none⟩ = some (.int .i64 N.clip.1) ∧ V.cell? ⟨ob, 5, none⟩ = some (.int .i64 N.clip.2.1) ∧ V.cell? ⟨ob, 6, none⟩ = some (.int .i64 N.clip.2.2.1) ∧ V.cell? ⟨ob, 7, none⟩ = some (.int .i64 N.clip.2.2.2) ∧ V.cell? ⟨ob, 8, none⟩ = some (.bool N.cut) ∧ V.cell? ⟨ob, 9, none⟩ = some (.int .i64 K)) := fun V hV => by
      have k := (HM4.out.below hV).ol
      exact ⟨k.cell 0, k.cell 1, k.cell 2, k.cell 3, k.cell 4, k.cell 5, k.cell 6, k.cell 7, k.cell 8, k.cell 9⟩
    have HQe : Hid (∀ V : World, (Op.equalIn 10000 181 (.agg #[.int .i64 N2.w, .int .i64 N2.h, .int .i64 N2.x, .int .i64 N2.y, .int .i64 N2.clip.1, .int .i64 N2.clip.2.1, .int .i64 N2.clip.2.2.1, .int .i64 N2.clip.2.2.2, .bool N2.cut, .int .i64 K2]) (.agg #[.int .i64 a, .int .i64 b, .int .i64 N.x, .int .i64 N.y, .int .i64 N.clip.1, .int .i64 N.clip.2.1, .int .i64 N.clip.2.2.1, .int .i64 N.clip.2.2.2, .bool N.cut, .int .i64 K])).run Tryz.prog V = .ok (!mb) V) := fun V => by
      have := eqOl N2 K2 N K V
      unfold olC at this
      rw [ha, hb, hmq] at this
      exact this
    clear hf hSl hi hwc hic hw hmb hgb hN hK hN2 hK2 hparts hrn hparts2 hrn2 ha hb e5 hon hmq
    go_cut [35] (fun s35 wx => s35 = .bool mb ∧ Hid (Below W4.heap.size W4 wx))
    case first =>
      have eqs := HQe.out
      clear HQe HRaw HF HE
      go_region_held3 (fun w' => w'.cell? ⟨ob, 0, none⟩ = some (.int .i64 a) ∧ w'.cell? ⟨ob, 1, none⟩ = some (.int .i64 b) ∧ w'.cell? ⟨ob, 2, none⟩ = some (.int .i64 N.x) ∧ w'.cell? ⟨ob, 3, none⟩ = some (.int .i64 N.y) ∧ w'.cell? ⟨ob, 4, none⟩ = some (.int .i64 N.clip.1) ∧ w'.cell? ⟨ob, 5, none⟩ = some (.int .i64 N.clip.2.1) ∧ w'.cell? ⟨ob, 6, none⟩ = some (.int .i64 N.clip.2.2.1) ∧ w'.cell? ⟨ob, 7, none⟩ = some (.int .i64 N.clip.2.2.2) ∧ w'.cell? ⟨ob, 8, none⟩ = some (.bool N.cut) ∧ w'.cell? ⟨ob, 9, none⟩ = some (.int .i64 K))
        (first
          | (refine FcS.out _ ?_; (repeat (first | with_reducible exact Below.refl _ _ | with_reducible exact HB5.out | with_reducible refine Below.drew ?_)); done)
          | fail)
        (first
          | (go_at_call 105; refine (HOl2.out _ ?_).mono ?_; (repeat (first | with_reducible exact Below.refl _ _ | with_reducible refine Below.drew ?_)); rintro e w5 ⟨rfl, hb5⟩; have HB5 := hide hb5; clear hb5)
          | fail)
      all_goals go_wp2_with fail
      all_goals go_meet
      all_goals exact ⟨by simp, HB5.out⟩
    case rest =>
      obtain ⟨rfl, HZ⟩ := hcut
      have HM5 := hide (HM4.out.below HZ.out)
      clear HOl2 FcS HQe HM4 HZ
      cases mb with
      | true =>
        have HSp2 : Hid (Calls Tryz.prog 106 #[.pointer (some ⟨gb, 0, none⟩)] wc fun e w2 => ∃ v2 c2, e = .returned (.slice v2 rn2 c2) ∧ OwnR w2 wc.heap.size (.slice v2 rn2 c2) parts2 ∧ Below wc.heap.size wc w2) := by
          obtain ⟨hf, hSl, hi, hwc, hic, hw, hmb⟩ := HF.out
          obtain ⟨hgb, hN, hK, hN2, hK2, hparts, hrn, hparts2, hrn2, ha, hb, e5, hon⟩ := HE.out
          have hr := HM5.out.raw
          have := seenParts_any hwc (live_nat hic) (hr.lays hwc (live_nat hic)) (hr.sl hwc (live_nat hic))
          rw [hgb, hparts2] at this
          refine this.mono ?_
          rintro e w2 ⟨v, rfl, h1, h2⟩
          obtain ⟨va, vc, rfl⟩ := h1.form
          rw [hrn2] at h1 ⊢
          exact ⟨va, vc, rfl, h1, h2⟩
        have HAp : Hid (∀ (w6 : World) (v2 : Option Addr) (c2 : Nat), OwnR w6 wc.heap.size (.slice v2 rn2 c2) parts2 → Below wc.heap.size wc w6 → w6.ownsRow w.heap.size 53 4 (.slice va rn vc) rn (rectCells parts) ∧ (rectCells parts2).length = rn2 * 4 ∧ ((Value.slice v2 rn2 c2 = .slice none 0 0 ∧ rn2 = 0) ∨ ∃ ad c, Value.slice v2 rn2 c2 = .slice (some ad) rn2 c ∧ ∀ j u, (rectCells parts2)[j]? = some u → w6.cell? (ad.add j) = some u) ∧ w.heap.size ≤ w6.heap.size ∧ (∀ v9 w9, w9.ownsRow w.heap.size 53 4 v9 (rn + rn2) (rectCells parts ++ rectCells parts2) → w6.grownBy w9 (Value.slice va rn vc).ownBlock → (v9 = .slice none 0 0 ↔ Value.slice va rn vc = .slice none 0 0 ∧ rn2 = 0) → CmPost S x st i bv w (.returned v9) w9)) := fun w6 v2 c2 h1 h2 => by
          obtain ⟨hf, hSl, hi, hwc, hic, hw, hmb⟩ := HF.out
          obtain ⟨hgb, hN, hK, hN2, hK2, hparts, hrn, hparts2, hrn2, ha, hb, e5, hon⟩ := HE.out
          have hm6 := HM5.out.below h2
          have hr := hm6.row.1
          rw [hrn] at hr
          have hnw := rect_news h1
          rw [hrn2] at hnw
          refine ⟨hr, by rw [rectCells_len, hrn2], hnw, hm6.only.size, fun v9 w9 k1 k2 k3 => ?_⟩
          exact hm6.moved hparts.symm hparts2.symm hmb (by rw [hrn, hrn2]; exact k1) k2 (by rw [hrn2]; exact k3)
        clear HM5 HRaw HF HE
        go_wp2_with (first
          | (go_at_call 106; refine HSp2.out.mono ?_; rintro e w6 ⟨v2, c2, rfl, hr2, hb6⟩; have H6 := hide (HAp.out w6 v2 c2 hr2 hb6); clear hr2 hb6)
          | (at_builtin; refine wpList_append_row (P := Tryz.prog) rfl (.tmp 36) (.tmp 38) 33 rfl w.heap.size 53 i0 _ 4 32 Tryz.underlying33 hi0 hz0 hz1 hz2 rfl (by decide) (.slice va rn vc) rn (rectCells parts) rfl H6.out.1 (.slice v2 rn2 c2) rn2 (rectCells parts2) rfl H6.out.2.1 H6.out.2.2.1 (rectCells_one _) (by unfold maxLen; omega) (by omega) H6.out.2.2.2.1 ?_; intro v9 w9 ho9 hg9 hn9 ha9; have H9 := hide (H6.out.2.2.2.2 v9 w9 ho9 hg9 hn9); obtain ⟨ga, gc, hvf⟩ := row_form ho9; subst hvf; clear ho9 hg9 hn9 ha9))
        go_ret
        exact H9.out
      | false =>
        obtain ⟨Q, hQ⟩ : ∃ Q, otherIn ((cm st i).otherAt i (st.sf i).now.pix) ((cm st i).seen i) = Q := ⟨_, rfl⟩
        have HOt : Hid (Calls Tryz.prog 109 #[.pointer (some ⟨gb, 0, none⟩), .agg #[.int .i64 a, .int .i64 b, .slice opa on on]] wc fun e w' => e = .returned (.agg #[.int .i64 Q.1, .int .i64 Q.2.1, .int .i64 Q.2.2.1, .int .i64 Q.2.2.2]) ∧ Below wc.heap.size wc w') := by
          obtain ⟨hf, hSl, hi, hwc, hic, hw, hmb⟩ := HF.out
          obtain ⟨hgb, hN, hK, hN2, hK2, hparts, hrn, hparts2, hrn2, ha, hb, e5, hon⟩ := HE.out
          have hq : olEq N2 K2 N K = true := by
            unfold St.moved at hmb
            rw [hN2, hK2, hN, hK] at hmb
            simpa using hmb
          unfold olEq at hq
          simp only [Bool.and_eq_true, beq_iff_eq] at hq
          have q1 : N2.w = a := hq.1.trans ha
          have q2 : N2.h = b := hq.2.1.trans hb
          have q3 : N2.n = on := by
            rw [← hon, hN]
            unfold Look.n
            rw [hq.1, hq.2.1]
          have := otherPixels_any hwc HM5.out.raw i hic opa (st.sf i).now.pix (by
            rw [hN2, q3]
            exact HM5.out.was)
          rw [hgb, hN2, q1, q2, q3, hQ] at this
          exact this
        have HEn : Hid (∀ w6 : World, Below wc.heap.size wc w6 → CmPost S x st i bv w (.returned (.slice (some ⟨w6.heap.size, 0, none⟩) 1 1)) (w6.alloc (.cells #[.int .i64 Q.1, .int .i64 Q.2.1, .int .i64 Q.2.2.1, .int .i64 Q.2.2.2] 53))) := fun w6 h6 => by
          obtain ⟨hf, hSl, hi, hwc, hic, hw, hmb⟩ := HF.out
          have hm6 := HM5.out.below h6
          have hm7 := hm6.below ((Below.refl w6.heap.size w6).alloc (Nat.le_refl _) (.cells #[.int .i64 Q.1, .int .i64 Q.2.1, .int .i64 Q.2.2.1, .int .i64 Q.2.2.2] 53))
          refine ⟨_, rfl, ?_, hm7.pane, hm7.only⟩
          have : st.cmDam i = [Q] := by
            unfold St.cmDam
            rw [hmb, if_neg (by simp), hQ]
          rw [this]
          exact (ownR_one w6 Q).lower hm6.only.size
        have HGr : Hid (wc.cell? ⟨gx, 0, none⟩ = some (.int .i64 a) ∧ wc.cell? ⟨gx, 1, none⟩ = some (.int .i64 b) ∧ wc.cell? ⟨gx, 2, none⟩ = some (.slice opa on on)) := ⟨HM5.out.gr.cell 0, HM5.out.gr.cell 1, HM5.out.gr.cell 2⟩
        obtain ⟨g0, g1, g2⟩ := HGr.out
        clear HM5 HRaw HF HE hQ
        go_wp2_with (go_at_call 109; refine HOt.out.mono ?_; rintro e w6 ⟨rfl, hb6⟩; have H6 := hide (HEn.out w6 hb6); clear hb6)
        go_ret
        exact H6.out

end Go.Proofs.YtofinpocigbbeaaGreat
