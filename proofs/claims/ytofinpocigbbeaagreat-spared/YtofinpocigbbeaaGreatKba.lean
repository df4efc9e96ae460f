import Derived.Test.YtofinpocigbbeaaGreatKaz
namespace Go.Proofs.YtofinpocigbbeaaGreat
open Go.RowKit
attribute [local go_sem ↓] Go.wp_at_zero Go.wp_at_succ

/-- A place, and what is open there. -/
def spotC (st : St) (p : Int) : Array Value := #[.int .i64 (st.px p), .int .i64 (st.py p), .int .i64 (st.openL (st.chain p)).1, .int .i64 (st.openL (st.chain p)).2.1, .int .i64 (st.openL (st.chain p)).2.2.1, .int .i64 (st.openL (st.chain p)).2.2.2]

set_option maxRecDepth 100000 in
set_option maxHeartbeats 2000000 in
theorem spot_top {w : World} {S : Nat → Prop} {x : Nat} {st : St} {bv : Value} {sc mp : Nat} {blk : Int → Nat} {G : Int → Nat → Value} (h : PRaw w S x st bv sc mp blk G) (W : World) (hW : Below w.heap.size w W) :
    Calls Tryz.prog 172 #[.pointer (some ⟨blk (-1), 0, none⟩)] W fun e w' => e = .returned (.agg (spotC st (-1))) ∧ Below W.heap.size W w' := by
  have hp := live_top st
  obtain ⟨kc, kf, kl⟩ := h.at hp
  have q := h.cells (-1) hp
  have c1 := (hW.cell (p := ⟨blk (-1), 1, none⟩) kl).trans (kc 1 (by omega))
  have c8 := (hW.cell (p := ⟨blk (-1), 8, none⟩) kl).trans (kc 8 (by omega))
  have c9 := (hW.cell (p := ⟨blk (-1), 9, none⟩) kl).trans (kc 9 (by omega))
  have c10 := (hW.cell (p := ⟨blk (-1), 10, none⟩) kl).trans (kc 10 (by omega))
  have c11 := (hW.cell (p := ⟨blk (-1), 11, none⟩) kl).trans (kc 11 (by omega))
  rw [q.par, if_pos rfl] at c1
  rw [show G (-1) 8 = _ from q.now.c0] at c8
  rw [show G (-1) 9 = _ from q.now.c1] at c9
  rw [show G (-1) 10 = _ from q.now.c2] at c10
  rw [show G (-1) 11 = _ from q.now.c3] at c11
  have hv : spotC st (-1) = #[.int .i64 0, .int .i64 0, .int .i64 0, .int .i64 0, .int .i64 st.w, .int .i64 st.h] := by
    unfold spotC
    rw [px_neg st (by omega), py_neg st (by omega), chain_neg st (by omega)]
    rfl
  rw [hv]
  have HA := hide (fun o => al1 (Nat.le_refl W.heap.size) o)
  have hgl : blk (-1) < W.heap.size := Nat.lt_of_lt_of_le kl hW.size
  obtain ⟨gb, hgb⟩ : ∃ gb, blk (-1) = gb := ⟨_, rfl⟩
  rw [hgb] at c1 c8 c9 c10 c11 hgl ⊢
  have l1 : lookP st (-1) = ⟨0, 0, 0, 0, true, (0, 0, st.w, st.h), fun _ => (0, 0, 0, 0), fun _ _ => false⟩ := rfl
  rw [l1] at c8 c9 c10 c11
  simp only at c8 c9 c10 c11
  clear h kc kf kl q hv hgb l1
  have hne : gb ≠ W.heap.size := by omega
  go_enter Tryz.func172, Tryz.ntmps172
  go_wp2_with fail
  exact bodyPost_ret (v := .agg #[.int .i64 0, .int .i64 0, .int .i64 0, .int .i64 0, .int .i64 st.w, .int .i64 st.h]) (by simp [results, Tryz.results172, go_sem]) rfl ⟨rfl, HA.out _⟩

/-- Six cells are written. -/
theorem HasB.six {w : World} {b : Nat} {T : TypeId} (h : HasB w b T 6) (u0 u1 u2 u3 u4 u5 : Value) : Blk ((((((w.setCell ⟨b, 0, none⟩ u0).setCell ⟨b, 1, none⟩ u1).setCell ⟨b, 2, none⟩ u2).setCell ⟨b, 3, none⟩ u3).setCell ⟨b, 4, none⟩ u4).setCell ⟨b, 5, none⟩ u5) b T #[u0, u1, u2, u3, u4, u5] := by
  obtain ⟨cur, h1, h2⟩ := h
  have h3 : Blk w b T cur := h1
  have h4 := (((((h3.set 0 u0).set 1 u1).set 2 u2).set 3 u3).set 4 u4).set 5 u5
  have e : (((((cur.setIfInBounds 0 u0).setIfInBounds 1 u1).setIfInBounds 2 u2).setIfInBounds 3 u3).setIfInBounds 4 u4).setIfInBounds 5 u5 = #[u0, u1, u2, u3, u4, u5] := by
    apply Array.ext_getElem?
    intro j
    match j with
    | 0 => simp [h2]
    | 1 => simp [h2]
    | 2 => simp [h2]
    | 3 => simp [h2]
    | 4 => simp [h2]
    | 5 => simp [h2]
    | j + 6 =>
      rw [Array.getElem?_eq_none (by simp; omega), Array.getElem?_eq_none (by simp)]
  rw [e] at h4
  exact h4

theorem below_six {B : Nat} {w wr : World} (h : Below B w wr) {b : Nat} (hb : B ≤ b) (u0 u1 u2 u3 u4 u5 : Value) : Below B w ((((((wr.setCell ⟨b, 0, none⟩ u0).setCell ⟨b, 1, none⟩ u1).setCell ⟨b, 2, none⟩ u2).setCell ⟨b, 3, none⟩ u3).setCell ⟨b, 4, none⟩ u4).setCell ⟨b, 5, none⟩ u5) := (((((h.setCell hb _).setCell hb _).setCell hb _).setCell hb _).setCell hb _).setCell hb _

/-- What spot has at hand. -/
structure SpotM (W wx : World) (sb : Nat) (x y : Int) (r : R4) : Prop where
  bel : Below W.heap.size W wx
  s : Blk wx sb 241 #[.int .i64 x, .int .i64 y, .int .i64 r.1, .int .i64 r.2.1, .int .i64 r.2.2.1, .int .i64 r.2.2.2]
  res : HasB wx W.heap.size 241 6
  lo : W.heap.size < sb

theorem SpotM.lt {W wx : World} {sb : Nat} {x y : Int} {r : R4} (h : SpotM W wx sb x y r) : sb < wx.heap.size := (Array.getElem?_eq_some_iff.1 h.s).1

theorem SpotM.cells {W wx : World} {sb : Nat} {x y : Int} {r : R4} (h : SpotM W wx sb x y r) : wx.cell? ⟨sb, 0, none⟩ = some (.int .i64 x) ∧ wx.cell? ⟨sb, 1, none⟩ = some (.int .i64 y) ∧ wx.cell? ⟨sb, 2, none⟩ = some (.int .i64 r.1) ∧ wx.cell? ⟨sb, 3, none⟩ = some (.int .i64 r.2.1) ∧ wx.cell? ⟨sb, 4, none⟩ = some (.int .i64 r.2.2.1) ∧ wx.cell? ⟨sb, 5, none⟩ = some (.int .i64 r.2.2.2) :=
  ⟨by rw [h.s.cell]; rfl, by rw [h.s.cell]; rfl, by rw [h.s.cell]; rfl, by rw [h.s.cell]; rfl, by rw [h.s.cell]; rfl, by rw [h.s.cell]; rfl⟩

theorem SpotM.drew {W wx : World} {sb : Nat} {x y : Int} {r : R4} (h : SpotM W wx sb x y r) : SpotM W wx.drew sb x y r := ⟨h.bel.drew, h.s, h.res, h.lo⟩

theorem SpotM.set {W wx : World} {sb : Nat} {x y : Int} {r : R4} (h : SpotM W wx sb x y r) (j : Nat) (u : Value) {x' y' : Int} {r' : R4} (hs : (#[.int .i64 x, .int .i64 y, .int .i64 r.1, .int .i64 r.2.1, .int .i64 r.2.2.1, .int .i64 r.2.2.2] : Array Value).setIfInBounds j u = #[.int .i64 x', .int .i64 y', .int .i64 r'.1, .int .i64 r'.2.1, .int .i64 r'.2.2.1, .int .i64 r'.2.2.2]) : SpotM W (wx.setCell ⟨sb, j, none⟩ u) sb x' y' r' := by
  have h1 := h.s.set j u
  rw [hs] at h1
  exact ⟨h.bel.setCell (Nat.le_of_lt h.lo) _, h1, h.res.set sb j u, h.lo⟩

theorem SpotM.below {W wx wy : World} {sb : Nat} {x y : Int} {r : R4} (h : SpotM W wx sb x y r) (hb : Below wx.heap.size wx wy) : SpotM W wy sb x y r :=
  ⟨h.bel.trans (hb.mono h.bel.size), (hb.block sb h.lt).trans h.s, h.res.keep (hb.block _ (Nat.lt_of_lt_of_le h.lo (Nat.le_of_lt h.lt))), h.lo⟩

set_option maxRecDepth 100000 in
set_option maxHeartbeats 2000000 in
/-- (*Surface).spot -/
theorem spot_any {w : World} {S : Nat → Prop} {x : Nat} {st : St} (hw : Wf st) {bv : Value} {sc mp : Nat} {blk : Int → Nat} {G : Int → Nat → Value} (h : PRaw w S x st bv sc mp blk G) : ∀ (n : Nat) (p : Int), Live st p → (p + 1).toNat ≤ n → ∀ W : World, Below w.heap.size w W →
    Calls Tryz.prog 172 #[.pointer (some ⟨blk p, 0, none⟩)] W fun e w' => e = .returned (.agg (spotC st p)) ∧ Below W.heap.size W w' := by
  intro n
  induction n with
  | zero =>
    intro p hp hn W hW
    have hp1 : p = -1 := by
      rcases hp with rfl | ⟨i, rfl, hi⟩
      · rfl
      · omega
    subst hp1
    exact spot_top h W hW
  | succ n ih =>
    intro p hp hn W hW
    rcases hp with rfl | ⟨i, rfl, hi⟩
    · exact spot_top h W hW
    · have hil := hw.lt hi
      have hpr := hw.par i
      have HP := hide (fun (W' : World) (hW' : Below w.heap.size w W') => ih (st.sf i).parent (live_par hw hi) (by omega) W' hW')
      obtain ⟨kc, kf, kl⟩ := h.at (live_nat hi)
      have q := (h.cells i (live_nat hi)).nat
      have HC : Hid (∀ (W' : World), Below w.heap.size w W' → W'.cell? ⟨blk i, 6, none⟩ = some (.int .i64 (st.sf i).now.x) ∧ W'.cell? ⟨blk i, 7, none⟩ = some (.int .i64 (st.sf i).now.y) ∧ W'.cell? ⟨blk i, 8, none⟩ = some (.int .i64 (st.sf i).now.clip.1) ∧ W'.cell? ⟨blk i, 9, none⟩ = some (.int .i64 (st.sf i).now.clip.2.1) ∧ W'.cell? ⟨blk i, 10, none⟩ = some (.int .i64 (st.sf i).now.clip.2.2.1) ∧ W'.cell? ⟨blk i, 11, none⟩ = some (.int .i64 (st.sf i).now.clip.2.2.2) ∧ W'.cell? ⟨blk i, 12, none⟩ = some (.bool (st.sf i).now.cut)) := fun W' hW' =>
        ⟨(hW'.cell (p := ⟨blk i, 6, none⟩) kl).trans ((kc 6 (by omega)).trans (by rw [show G i 6 = _ from q.now.x])), (hW'.cell (p := ⟨blk i, 7, none⟩) kl).trans ((kc 7 (by omega)).trans (by rw [show G i 7 = _ from q.now.y])), (hW'.cell (p := ⟨blk i, 8, none⟩) kl).trans ((kc 8 (by omega)).trans (by rw [show G i 8 = _ from q.now.c0])), (hW'.cell (p := ⟨blk i, 9, none⟩) kl).trans ((kc 9 (by omega)).trans (by rw [show G i 9 = _ from q.now.c1])), (hW'.cell (p := ⟨blk i, 10, none⟩) kl).trans ((kc 10 (by omega)).trans (by rw [show G i 10 = _ from q.now.c2])), (hW'.cell (p := ⟨blk i, 11, none⟩) kl).trans ((kc 11 (by omega)).trans (by rw [show G i 11 = _ from q.now.c3])), (hW'.cell (p := ⟨blk i, 12, none⟩) kl).trans ((kc 12 (by omega)).trans (by rw [show G i 12 = _ from q.now.cut]))⟩
      have c1 := (hW.cell (p := ⟨blk i, 1, none⟩) kl).trans (kc 1 (by omega))
      rw [q.par] at c1
      unfold ptrV at c1
      have hgl : blk i < W.heap.size := Nat.lt_of_lt_of_le kl hW.size
      have hne : blk i ≠ W.heap.size := by omega
      have ppl := px_lim hw (st.sf i).parent (by omega)
      have lk := (hw.lk i).1
      have HV : Hid (spotC st i = #[.int .i64 (st.px (st.sf i).parent + (st.sf i).now.x), .int .i64 (st.py (st.sf i).parent + (st.sf i).now.y), .int .i64 (st.cutBy (st.openL (st.chain (st.sf i).parent)) i).1, .int .i64 (st.cutBy (st.openL (st.chain (st.sf i).parent)) i).2.1, .int .i64 (st.cutBy (st.openL (st.chain (st.sf i).parent)) i).2.2.1, .int .i64 (st.cutBy (st.openL (st.chain (st.sf i).parent)) i).2.2.2]) := by
        unfold Hid spotC
        rw [px_step hw.par, py_step hw.par, chain_step hw.par, Int.add_comm, Int.add_comm (st.sf i).now.y]
        rfl
      have HCut : Hid (st.cutBy (st.openL (st.chain (st.sf i).parent)) i = if (st.sf i).now.cut = true then meet (st.openL (st.chain (st.sf i).parent)) (mv (st.sf i).now.clip (st.px (st.sf i).parent + (st.sf i).now.x) (st.py (st.sf i).parent + (st.sf i).now.y)) else st.openL (st.chain (st.sf i).parent)) := by
        unfold Hid St.cutBy
        rw [px_step hw.par, py_step hw.par, Int.add_comm, Int.add_comm (st.sf i).now.y]
      have HA := hide (fun o => hW.trans ((al1 (Nat.le_refl W.heap.size) o).mono hW.size))
      unfold spotC at HP
      obtain ⟨X, hX⟩ : ∃ X, st.px (st.sf i).parent = X := ⟨_, rfl⟩
      obtain ⟨Y, hY⟩ : ∃ Y, st.py (st.sf i).parent = Y := ⟨_, rfl⟩
      obtain ⟨O, hO⟩ : ∃ O, st.openL (st.chain (st.sf i).parent) = O := ⟨_, rfl⟩
      rw [hX, hY, hO] at HP HV
      rw [hX, hY, hO] at HCut
      rw [hX, hY] at ppl
      obtain ⟨pb, hpb⟩ : ∃ pb, blk (st.sf i).parent = pb := ⟨_, rfl⟩
      rw [hpb] at HP c1
      obtain ⟨ib, hib⟩ : ∃ ib, blk (i : Int) = ib := ⟨_, rfl⟩
      rw [hib] at HC c1 hgl hne ⊢
      obtain ⟨N, hN⟩ : ∃ N, (st.sf i).now = N := ⟨_, rfl⟩
      rw [hN] at HC HV HCut lk
      have lx := lk.x
      have ly := lk.y
      have l0 := lk.c0
      have l1 := lk.c1
      have l2 := lk.c2
      have l3 := lk.c3
      rw [HV.out]
      obtain ⟨R, hR⟩ : ∃ R, st.cutBy O i = R := ⟨_, rfl⟩
      rw [hR] at HCut ⊢
      clear ih h kc kf kl q hX hY hO hpb hib hN lk hw HV hR
      go_enter Tryz.func172, Tryz.ntmps172
      go_upto_region 4 with (go_at_call 172; refine (HP.out _ (HA.out _)).mono ?_; rintro e W1 ⟨rfl, hb1⟩; have HB1 := hide hb1; clear hb1)
      have hb1 := HB1.out
      have hs1 := hb1.size
      simp only [World.size_alloc] at hs1
      have HCx : Hid (∀ wx : World, Below W.heap.size W wx → ib < wx.heap.size ∧ ib ≠ W.heap.size ∧ wx.cell? ⟨ib, 6, none⟩ = some (.int .i64 N.x) ∧ wx.cell? ⟨ib, 7, none⟩ = some (.int .i64 N.y) ∧ wx.cell? ⟨ib, 8, none⟩ = some (.int .i64 N.clip.1) ∧ wx.cell? ⟨ib, 9, none⟩ = some (.int .i64 N.clip.2.1) ∧ wx.cell? ⟨ib, 10, none⟩ = some (.int .i64 N.clip.2.2.1) ∧ wx.cell? ⟨ib, 11, none⟩ = some (.int .i64 N.clip.2.2.2) ∧ wx.cell? ⟨ib, 12, none⟩ = some (.bool N.cut)) := fun wx hx => ⟨Nat.lt_of_lt_of_le hgl hx.size, by omega, HC.out wx (hW.trans (hx.mono hW.size))⟩
      have HM0 : Hid (SpotM W (W1.alloc (.cells #[.int .i64 X, .int .i64 Y, .int .i64 O.1, .int .i64 O.2.1, .int .i64 O.2.2.1, .int .i64 O.2.2.2] 241)) W1.heap.size X Y O) := by
        have hBW : Below W.heap.size W W1 := (al1 (Nat.le_refl W.heap.size) _).trans (hb1.mono (by simp))
        refine ⟨hBW.alloc (by omega) _, heap_alloc_new W1 _, HasB.alloc (HasB.keep (HasB.new W _ _) (hb1.block _ (by simp))) _, by omega⟩
      clear hb1 c1 hne
      generalize W1.alloc (.cells #[.int .i64 X, .int .i64 Y, .int .i64 O.1, .int .i64 O.2.1, .int .i64 O.2.2.1, .int .i64 O.2.2.2] 241) = V0 at *
      generalize W1.heap.size = sb at *
      obtain ⟨m0, m1, m2, m3, m4, m5⟩ := HM0.out.cells
      obtain ⟨n0, n1, d6, d7, d8, d9, d10, d11, d12⟩ := HCx.out V0 HM0.out.bel
      have hf0 := HM0.out.s.has.free
      have f0 := hf0 0
      have hsi : ¬ ib = sb := by have := HM0.out.lo; omega
      clear hf0 HB1 hs1
      go_cut [] (fun wx => Hid (SpotM W wx sb (X + N.x) Y O))
      case first =>
        go_region
        go_wp2_with fail
        go_meet
        exact HM0.out.drew.set 0 _ rfl
      case rest =>
        have HM1 := hcut
        clear hcut HM0 m0 m1 m2 m3 m4 m5 d6 d7 d8 d9 d10 d11 d12 f0 n0 n1
        obtain ⟨m0, m1, m2, m3, m4, m5⟩ := HM1.out.cells
        obtain ⟨n0, n1, d6, d7, d8, d9, d10, d11, d12⟩ := HCx.out _ HM1.out.bel
        have hf0 := HM1.out.s.has.free
        have f1 := hf0 1
        clear hf0
        go_wp2_with fail
        go_cut [] (fun wx => Hid (SpotM W wx sb (X + N.x) (Y + N.y) O))
        case first =>
          go_region
          go_wp2_with fail
          go_meet
          exact HM1.out.drew.set 1 _ rfl
        case rest =>
          have HM2 := hcut
          clear hcut HM1 m0 m1 m2 m3 m4 m5 d6 d7 d8 d9 d10 d11 d12 f1 n0 n1
          obtain ⟨m0, m1, m2, m3, m4, m5⟩ := HM2.out.cells
          obtain ⟨n0, n1, d6, d7, d8, d9, d10, d11, d12⟩ := HCx.out _ HM2.out.bel
          obtain ⟨ct, hct⟩ : ∃ ct, N.cut = ct := ⟨_, rfl⟩
          rw [hct] at d12 HCut HCx
          have HEnd : Hid (∀ (wx : World) (r : R4), SpotM W wx sb (X + N.x) (Y + N.y) r → (∃ q0, wx.cell? ⟨W.heap.size, 0, none⟩ = some q0) ∧ (∃ q1, wx.cell? ⟨W.heap.size, 1, none⟩ = some q1) ∧ (∃ q2, wx.cell? ⟨W.heap.size, 2, none⟩ = some q2) ∧ (∃ q3, wx.cell? ⟨W.heap.size, 3, none⟩ = some q3) ∧ (∃ q4, wx.cell? ⟨W.heap.size, 4, none⟩ = some q4) ∧ (∃ q5, wx.cell? ⟨W.heap.size, 5, none⟩ = some q5) ∧ ∀ j, wx.frozen? ⟨W.heap.size, j, none⟩ = false) := fun wx r hM => ⟨hM.res.cell 0 (by omega), hM.res.cell 1 (by omega), hM.res.cell 2 (by omega), hM.res.cell 3 (by omega), hM.res.cell 4 (by omega), hM.res.cell 5 (by omega), fun j => hM.res.free j⟩
          cases ct with
          | false =>
            rw [if_neg (by simp)] at HCut
            have hRO := HCut.out
            subst hRO
            obtain ⟨⟨q0, p0⟩, ⟨q1, p1⟩, ⟨q2, p2⟩, ⟨q3, p3⟩, ⟨q4, p4⟩, ⟨q5, p5⟩, zf⟩ := HEnd.out _ _ HM2.out
            have z0 := zf 0
            have z1 := zf 1
            have z2 := zf 2
            have z3 := zf 3
            have z4 := zf 4
            have z5 := zf 5
            clear zf HEnd HCut d6 d7 d8 d9 d10 d11
            go_wp2_with fail
            have b4 := HM2.out.res.six (.int .i64 (X + N.x)) (.int .i64 (Y + N.y)) (.int .i64 R.1) (.int .i64 R.2.1) (.int .i64 R.2.2.1) (.int .i64 R.2.2.2)
            have b5 := below_six HM2.out.bel (Nat.le_refl _) (.int .i64 (X + N.x)) (.int .i64 (Y + N.y)) (.int .i64 R.1) (.int .i64 R.2.1) (.int .i64 R.2.2.1) (.int .i64 R.2.2.2)
            generalize (((((World.setCell _ ⟨W.heap.size, 0, none⟩ (.int .i64 (X + N.x))).setCell ⟨W.heap.size, 1, none⟩ (.int .i64 (Y + N.y))).setCell ⟨W.heap.size, 2, none⟩ (.int .i64 R.1)).setCell ⟨W.heap.size, 3, none⟩ (.int .i64 R.2.1)).setCell ⟨W.heap.size, 4, none⟩ (.int .i64 R.2.2.1)).setCell ⟨W.heap.size, 5, none⟩ (.int .i64 R.2.2.2) = wz at *
            have g0 := b4.cell 0
            have g1 := b4.cell 1
            have g2 := b4.cell 2
            have g3 := b4.cell 3
            have g4 := b4.cell 4
            have g5 := b4.cell 5
            simp only [List.getElem?_toArray, List.getElem?_cons_zero, List.getElem?_cons_succ] at g0 g1 g2 g3 g4 g5
            have HB5 := hide b5
            clear b4 b5
            exact bodyPost_ret (v := .agg #[.int .i64 (X + N.x), .int .i64 (Y + N.y), .int .i64 R.1, .int .i64 R.2.1, .int .i64 R.2.2.1, .int .i64 R.2.2.2]) (by simp [results, Tryz.results172, go_sem, g0, g1, g2, g3, g4, g5]) rfl ⟨rfl, HB5.out⟩
          | true =>
            rw [if_pos rfl] at HCut
            have hMv : ∃ M : R4, mv N.clip (X + N.x) (Y + N.y) = M ∧ ∀ W', Calls Tryz.prog 190 #[.agg #[.int .i64 N.clip.1, .int .i64 N.clip.2.1, .int .i64 N.clip.2.2.1, .int .i64 N.clip.2.2.2], .int .i64 (X + N.x), .int .i64 (Y + N.y)] W' fun e w' => e = .returned (.agg #[.int .i64 M.1, .int .i64 M.2.1, .int .i64 M.2.2.1, .int .i64 M.2.2.2]) ∧ Below W'.heap.size W' w' :=
              ⟨_, rfl, fun W' => (moveP_any N.clip (X + N.x) (Y + N.y) W' (by omega) (by omega) (by omega) (by omega) (by omega) (by omega)).mono fun e w' ⟨h1, o1, o2, h2⟩ => ⟨h1, by rw [h2]; exact al2 (Nat.le_refl _) o1 o2⟩⟩
            obtain ⟨M, hM, hMv⟩ := hMv
            rw [hM] at HCut
            have hMt : ∀ W', Calls Tryz.prog 173 #[.agg #[.int .i64 O.1, .int .i64 O.2.1, .int .i64 O.2.2.1, .int .i64 O.2.2.2], .agg #[.int .i64 M.1, .int .i64 M.2.1, .int .i64 M.2.2.1, .int .i64 M.2.2.2]] W' fun e w' => e = .returned (.agg #[.int .i64 R.1, .int .i64 R.2.1, .int .i64 R.2.2.1, .int .i64 R.2.2.2]) ∧ Below W'.heap.size W' w' := fun W' => by
              rw [HCut.out]
              exact (meetP_any O M W').mono fun e w' ⟨h1, o1, o2, o3, h2⟩ => ⟨h1, by rw [h2]; exact al3 (Nat.le_refl _) o1 o2 o3⟩
            clear HCut hM
            have FC : Hid (∀ wx : World, Below wc.heap.size wc wx → wx.cell? ⟨sb, 0, none⟩ = some (.int .i64 (X + N.x)) ∧ wx.cell? ⟨sb, 1, none⟩ = some (.int .i64 (Y + N.y)) ∧ wx.cell? ⟨sb, 2, none⟩ = some (.int .i64 O.1) ∧ wx.cell? ⟨sb, 3, none⟩ = some (.int .i64 O.2.1) ∧ wx.cell? ⟨sb, 4, none⟩ = some (.int .i64 O.2.2.1) ∧ wx.cell? ⟨sb, 5, none⟩ = some (.int .i64 O.2.2.2) ∧ wx.cell? ⟨ib, 8, none⟩ = some (.int .i64 N.clip.1) ∧ wx.cell? ⟨ib, 9, none⟩ = some (.int .i64 N.clip.2.1) ∧ wx.cell? ⟨ib, 10, none⟩ = some (.int .i64 N.clip.2.2.1) ∧ wx.cell? ⟨ib, 11, none⟩ = some (.int .i64 N.clip.2.2.2) ∧ wx.frozen? ⟨sb, 2, none⟩ = false ∧ wx.frozen? ⟨sb, 3, none⟩ = false ∧ wx.frozen? ⟨sb, 4, none⟩ = false ∧ wx.frozen? ⟨sb, 5, none⟩ = false) := fun wx hx => by
              have hm := HM2.out.below hx
              obtain ⟨a0, a1, a2, a3, a4, a5⟩ := hm.cells
              obtain ⟨_, _, _, _, e8, e9, e10, e11, _⟩ := HCx.out wx hm.bel
              exact ⟨a0, a1, a2, a3, a4, a5, e8, e9, e10, e11, hm.s.has.free 2, hm.s.has.free 3, hm.s.has.free 4, hm.s.has.free 5⟩
            have hlo := HM2.out.lo
            have hlt := HM2.out.lt
            have y2 := HM2.out.s.has.free 2
            have y3 := HM2.out.s.has.free 3
            have y4 := HM2.out.s.has.free 4
            have y5 := HM2.out.s.has.free 5
            have ysb : sb ≠ wc.heap.size := by omega
            have ysb1 : sb ≠ wc.heap.size + 1 := by omega
            have ysb2 : sb ≠ wc.heap.size + 1 + 1 := by omega
            have ysb3 : sb ≠ wc.heap.size + 1 + 1 + 1 := by omega
            have ysb4 : sb ≠ wc.heap.size + 1 + 1 + 1 + 1 := by omega
            go_wp2_with fail
            go_cut [] (fun wx => Hid (SpotM W wx sb (X + N.x) (Y + N.y) R))
            case first =>
              go_region_with (first
                | (go_at_call 190; refine (hMv _).mono ?_; rintro e w1 ⟨rfl, hb1⟩; have B1 := ((Below.refl wc.heap.size wc).drew).trans hb1; obtain ⟨a0, a1, a2, a3, a4, a5, a8, a9, a10, a11, x2, x3, x4, x5⟩ := FC.out w1 B1; have HB1 := hide B1; clear B1 hb1)
                | (go_at_call 173; refine (hMt _).mono ?_; rintro e w2 ⟨rfl, hb2⟩; have B2 := HB1.out.trans (hb2.mono HB1.out.size); obtain ⟨b0, b1, b2, b3, b4, b5, b8, b9, b10, b11, v2, v3, v4, v5⟩ := FC.out w2 B2; have HB2 := hide B2; clear B2 hb2))
              all_goals go_wp2_with fail
              all_goals go_meet
              all_goals exact ((((HM2.out.below HB2.out).set 2 _ (x' := X + N.x) (y' := Y + N.y) (r' := (R.1, O.2)) rfl).set 3 _ (x' := X + N.x) (y' := Y + N.y) (r' := (R.1, R.2.1, O.2.2)) rfl).set 4 _ (x' := X + N.x) (y' := Y + N.y) (r' := (R.1, R.2.1, R.2.2.1, O.2.2.2)) rfl).set 5 _ (x' := X + N.x) (y' := Y + N.y) (r' := R) rfl
            case rest =>
              have HM3 := hcut
              clear hcut HM2 m0 m1 m2 m3 m4 m5 d6 d7 d8 d9 d10 d11 d12 n0 n1 y2 y3 y4 y5 ysb ysb1 ysb2 ysb3 ysb4 hMv hMt FC hlt
              obtain ⟨m0, m1, m2, m3, m4, m5⟩ := HM3.out.cells
              obtain ⟨⟨q0, p0⟩, ⟨q1, p1⟩, ⟨q2, p2⟩, ⟨q3, p3⟩, ⟨q4, p4⟩, ⟨q5, p5⟩, zf⟩ := HEnd.out _ _ HM3.out
              have z0 := zf 0
              have z1 := zf 1
              have z2 := zf 2
              have z3 := zf 3
              have z4 := zf 4
              have z5 := zf 5
              clear zf HEnd
              go_wp2_with fail
              have b4 := HM3.out.res.six (.int .i64 (X + N.x)) (.int .i64 (Y + N.y)) (.int .i64 R.1) (.int .i64 R.2.1) (.int .i64 R.2.2.1) (.int .i64 R.2.2.2)
              have b5 := below_six HM3.out.bel (Nat.le_refl _) (.int .i64 (X + N.x)) (.int .i64 (Y + N.y)) (.int .i64 R.1) (.int .i64 R.2.1) (.int .i64 R.2.2.1) (.int .i64 R.2.2.2)
              generalize (((((World.setCell _ ⟨W.heap.size, 0, none⟩ (.int .i64 (X + N.x))).setCell ⟨W.heap.size, 1, none⟩ (.int .i64 (Y + N.y))).setCell ⟨W.heap.size, 2, none⟩ (.int .i64 R.1)).setCell ⟨W.heap.size, 3, none⟩ (.int .i64 R.2.1)).setCell ⟨W.heap.size, 4, none⟩ (.int .i64 R.2.2.1)).setCell ⟨W.heap.size, 5, none⟩ (.int .i64 R.2.2.2) = wz at *
              have g0 := b4.cell 0
              have g1 := b4.cell 1
              have g2 := b4.cell 2
              have g3 := b4.cell 3
              have g4 := b4.cell 4
              have g5 := b4.cell 5
              simp only [List.getElem?_toArray, List.getElem?_cons_zero, List.getElem?_cons_succ] at g0 g1 g2 g3 g4 g5
              have HB5 := hide b5
              clear b4 b5
              exact bodyPost_ret (v := .agg #[.int .i64 (X + N.x), .int .i64 (Y + N.y), .int .i64 R.1, .int .i64 R.2.1, .int .i64 R.2.2.1, .int .i64 R.2.2.2]) (by simp [results, Tryz.results172, go_sem, g0, g1, g2, g3, g4, g5]) rfl ⟨rfl, HB5.out⟩

end Go.Proofs.YtofinpocigbbeaaGreat
