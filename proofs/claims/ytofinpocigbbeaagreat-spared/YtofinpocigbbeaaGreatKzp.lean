import Derived.Test.YtofinpocigbbeaaGreatKca
import Derived.Test.YtofinpocigbbeaaGreatKby
import Derived.Test.YtofinpocigbbeaaGreatKax
import Derived.Test.YtofinpocigbbeaaGreatKal
import Derived.Deep.RegionHeld3
namespace Go.Proofs.YtofinpocigbbeaaGreat
open Go.RowKit
attribute [local go_sem ↓] Go.wp_at_zero Go.wp_at_succ

set_option maxRecDepth 100000 in
set_option maxHeartbeats 1000000 in
/-- (*alive).look -/
theorem alook_any {w wr : World} {S : Nat → Prop} {vb n m o : Nat} {st : St} {d : Cv} {ids : List Int} (h : Run w wr S vb n m o st d ids) (i : Nat) (hi : i < n) :
    Calls Tryz.prog 19 #[.pointer (some ⟨vb, 0, none⟩), .int .i64 i] wr fun e w' => ∃ (hi : i < d.bufs.length) (a : Option Addr) (q : Nat), e = .returned (.slice a 56 q) ∧ w'.ownsRow wr.heap.size 51 4 (.slice a 56 q) 56 (pixCells (pxL d.bufs[i].f 56)) ∧ Below wr.heap.size wr w' := by
  obtain ⟨A, x, lv, ha⟩ := h.alv
  have hil : i < d.bufs.length := by rw [h.len]; exact hi
  have HL : Hid (Calls Tryz.prog 31 #[.pointer (some ⟨x, 0, none⟩), .int .i64 i] wr fun e w' => ∃ (a : Option Addr) (q : Nat) (ag : Int), e = .returned (.tuple #[.slice a 56 q, .int .i64 ag, .int .i64 0]) ∧ w'.ownsRow wr.heap.size 51 4 (.slice a 56 q) 56 (pixCells (pxL d.bufs[i].f 56)) ∧ Below wr.heap.size wr w') := by
    refine (fuLook_any i hil wr ha.scr).mono ?_
    rintro e w' ⟨hi2, v, rfl, ho, _, hb⟩
    rw [h.W, h.H] at ho
    obtain ⟨a, q, hvf⟩ := row_form ho
    subst hvf
    exact ⟨a, q, _, rfl, ho, hb⟩
  have v0 : wr.cell? ⟨vb, 0, none⟩ = some (.pointer (some ⟨x, 0, none⟩)) := ha.blk.cell 0
  clear h ha
  go_enter Tryz.func19, Tryz.ntmps19
  go_wp2_with (go_at_call 31; refine HL.out.mono ?_; rintro e w1 ⟨a, q, ag, rfl, ho, hb⟩; have H1 := hide (And.intro ho hb); clear ho hb)
  go_ret
  exact ⟨hil, a, q, rfl, H1.out.1, H1.out.2⟩

theorem run_start {w w1 : World} {vb n : Nat} {d : Cv} (ha : AlvOk w1 (fun g => w.heap.size ≤ g ∧ g < w1.heap.size) vb bg5 d []) (hd : BgD n d) (hb : Below w.heap.size w w1) : Run w w1 (fun g => w.heap.size ≤ g ∧ g < w1.heap.size) vb n 0 2 bg5 d [] :=
  ⟨bg5_fine, bg5_kept, ha, fun g hg => hg, hd.inv, hd.W, hd.H, hd.len, hd.old, Nat.le_refl _, (fun i hi => by
    have e : bg5.order = [] := by decide
    rw [e] at hi
    cases hi), hb⟩

theorem Run.cntTo {w wr : World} {S : Nat → Prop} {vb n m m' o : Nat} {st : St} {d : Cv} {ids : List Int} (h : Run w wr S vb n m o st d ids) (hm : ids.length ≤ m') : Run w wr S vb n m' o st d ids :=
  ⟨h.fine, h.kept, h.alv, h.lo, h.inv, h.W, h.H, h.len, h.old, hm, h.told, h.bel⟩

/-- What is asked for is not seen. -/
structure PatI (w wr : World) (S : Nat → Prop) (vb : Nat) (o : Nat) (st st' : St) (d : Cv) (ids : List Int) (bv vv : Value) : Prop where
  run : Run w wr S vb 1 ids.length o st' d ids
  now : NowS st st'
  pix : ∃ hi : 0 < d.bufs.length, wr.ownsRow 0 51 4 bv 56 (pixCells (pxL d.bufs[0].f 56))
  pS : ∀ g, bv.ownBlock = some g → ¬ S g
  vw : wr.ownsRow 0 59 9 vv (st.vis (st.dfs (-1))).length ((st.vis (st.dfs (-1))).flatMap (vCells st))
  vS : ∀ g, vv.ownBlock = some g → ¬ S g

theorem PatI.below {w wr V : World} {S : Nat → Prop} {vb o : Nat} {st st' : St} {d : Cv} {ids : List Int} {bv vv : Value} (h : PatI w wr S vb o st st' d ids bv vv) (hV : Below wr.heap.size wr V) : PatI w V S vb o st st' d ids bv vv :=
  ⟨h.run.below hV, h.now, h.pix.elim fun hi q => ⟨hi, own_keep q fun g hg => hV.block g (q.lt g hg).2⟩, h.pS, own_keep h.vw fun g hg => hV.block g (h.vw.lt g hg).2, h.vS⟩

/-- A step that asks. -/
theorem PatI.step {w wr : World} {S : Nat → Prop} {vb o : Nat} {st st' : St} {d : Cv} {ids : List Int} {bv vv : Value} (h : PatI w wr S vb o st st' d ids bv vv) (hne : ids ≠ []) (hl : ids.length ≤ 100000) (t : StepD) (ht : StepOk t) (h3 : 3 ≤ t.k) (h11 : t.k ≤ 11) :
    Calls Tryz.prog 13 #[.pointer (some ⟨vb, 0, none⟩), .agg t.cells] wr fun e w' => e = .returned (.tuple #[]) ∧ ∃ S' st2, PatI w w' S' vb o st st2 d ids bv vv := by
  refine (h.run.step hl t ht).mono ?_
  rintro e w' ⟨rfl, ⟨d', hd, hr⟩, ho⟩
  have hk : kindM ids t = t.k := by
    unfold kindM
    rw [if_neg hne]
    unfold pickI
    rw [if_neg (by omega)]
    omega
  obtain ⟨n1, n2, n3⟩ := stepM_now h.run.fine (ids := ids) (t := t) (by omega) (by omega)
  rw [n3] at hd
  have e1 : d' = d := hd
  subst e1
  rw [n2] at hr
  refine ⟨rfl, _, _, hr.cntTo (Nat.le_refl _), h.now.trans n1, h.pix.elim fun hi q => ⟨hi, own_keep q fun g hg => ho.block g (q.lt g hg).2 (h.pS g hg)⟩, fun g hg hA => ?_, own_keep h.vw fun g hg => ho.block g (h.vw.lt g hg).2 (h.vS g hg), fun g hg hA => ?_⟩
  · obtain ⟨_, q⟩ := h.pix
    exact grow_not (h.pS g hg) (q.lt g hg).2 hA
  · exact grow_not (h.vS g hg) (h.vw.lt g hg).2 hA

theorem vCells_now {st st' : St} (h : NowS st st') (i : Nat) : vCells st' i = vCells st i := by
  unfold vCells
  rw [(h.pcs.px i).1, (h.pcs.px i).2, h.now, h.pcs.seen]

/-- The views are the same. -/
theorem views_now {st st' : St} (h : NowS st st') : st'.vis (st'.dfs (-1)) = st.vis (st.dfs (-1)) ∧ (st'.vis (st'.dfs (-1))).flatMap (vCells st') = (st.vis (st.dfs (-1))).flatMap (vCells st) := by
  have e : st'.vis (st'.dfs (-1)) = st.vis (st.dfs (-1)) := by rw [h.pcs.dfs, h.pcs.vis]
  refine ⟨e, ?_⟩
  rw [e]
  congr 1
  funext i
  exact vCells_now h i

/-- A buffer that was painted just now. -/
def PFresh (d : Cv) : Prop := ∃ hi : 0 < d.bufs.length, d.bufs[0].age = 1 ∧ ∀ x y, d.stale 1 x y = false

theorem pat_rp1 {w wr : World} {S A : Nat → Prop} {vb x m o : Nat} {lv : Value} {st : St} {d : Cv} {ids : List Int} (h : Run w wr S vb 1 m o st d ids) (ha : AlvX wr S A vb x lv st d ids) (ho : o ≤ 4611686018427387904) :
    Calls Tryz.prog 14 #[.pointer (some ⟨x, 0, none⟩), .int .i64 0] wr fun e w' => ∃ ra rn rq z, e = .returned (.tuple #[.agg #[.slice ra rn rq, .int .i64 z], .int .i64 0]) ∧ ∃ S' A' d', Run w w' S' vb 1 m (o + 1) st d' ids ∧ AlvX w' S' A' vb x lv st d' ids ∧ PFresh d' := by
  refine (h.repaint ha ho 0 (by omega)).mono ?_
  rintro e w' ⟨hi, rv, O, d', rfl, _, _, hr, rfl, hR, _, A', hA⟩
  obtain ⟨ra, rq, hrf⟩ := hr.form
  subst hrf
  obtain ⟨p1, p2, _, p4⟩ := painted_now h.alv.ok hi (paintL d.W (rc O) (fun x y => (st.picL (st.visAll (-1)) x y).1) d.bufs[0].f)
  exact ⟨ra, _, rq, _, rfl, _, A', _, hR, hA, p1, p2, p4⟩

theorem pat_rp2 {w wr : World} {S A : Nat → Prop} {vb x o : Nat} {lv : Value} {st st' : St} {d : Cv} {ids : List Int} {bv vv : Value} (h : PatI w wr S vb o st st' d ids bv vv) (ha : AlvX wr S A vb x lv st' d ids) (ho : o ≤ 4611686018427387904) (hf : PFresh d) :
    Calls Tryz.prog 14 #[.pointer (some ⟨x, 0, none⟩), .int .i64 0] wr fun e w' => ∃ z, e = .returned (.tuple #[.agg #[.slice none 0 0, .int .i64 z], .int .i64 0]) ∧ ∃ S' d', PatI w w' S' vb (o + 1) st st' d' ids bv vv := by
  refine (h.run.repaint ha ho 0 (by omega)).mono ?_
  rintro e w' ⟨hi, rv, O, d', rfl, hG, hm, hr, rfl, hR, hon, A', hA⟩
  obtain ⟨f1, f2, f3⟩ := hf
  have hrc : rc O = [] := rc_none hG fun x y => by rw [hm, f2]; exact f3 x y
  rw [hrc] at hr hR ⊢
  obtain ⟨p1, p2, p3, p4⟩ := painted_now h.run.alv.ok hi (paintL d.W [] (fun x y => (st'.picL (st'.visAll (-1)) x y).1) d.bufs[0].f)
  have hrv : rv = .slice none 0 0 := hr.2 rfl
  subst hrv
  have hpx : pxL (paintL d.W [] (fun x y => (st'.picL (st'.visAll (-1)) x y).1) d.bufs[0].f) 56 = pxL d.bufs[0].f 56 := by
    unfold pxL
    refine List.map_congr_left fun k _ => ?_
    unfold paintL
    rw [if_neg (by simp [hasB])]
  refine ⟨_, rfl, _, _, ⟨hR, h.now, ⟨p1, ?_⟩, fun g hg hA => ?_, own_keep h.vw fun g hg => hon.block g (h.vw.lt g hg).2 (h.vS g hg), fun g hg hA => ?_⟩⟩
  · obtain ⟨_, q⟩ := h.pix
    rw [p3, hpx]
    exact own_keep q fun g hg => hon.block g (q.lt g hg).2 (h.pS g hg)
  · obtain ⟨_, q⟩ := h.pix
    exact grow_not (h.pS g hg) (q.lt g hg).2 hA
  · exact grow_not (h.vS g hg) (h.vw.lt g hg).2 hA

theorem own_zero {w : World} {base T k n : Nat} {v : Value} {xs : List Value} (h : w.ownsRow base T k v n xs) : w.ownsRow 0 T k v n xs :=
  ⟨h.1, h.2.imp id fun ⟨g, cap, cur, a1, _, a3⟩ => ⟨g, cap, cur, a1, Nat.zero_le _, a3⟩⟩

theorem pat_start {w W3 w5 w6 : World} {S : Nat → Prop} {vb m o : Nat} {st : St} {d : Cv} {ids : List Int} {bv vv : Value} (h : Run w W3 S vb 1 m o st d ids) (hi : 0 < d.bufs.length) (hp : w5.ownsRow W3.heap.size 51 4 bv 56 (pixCells (pxL d.bufs[0].f 56))) (h5 : Below W3.heap.size W3 w5)
    (hv : OwnV w6 w5.heap.size vv st (st.vis (st.dfs (-1)))) (h6 : Below w5.heap.size w5 w6) : PatI w w6 S vb o st st d ids bv vv := by
  have s5 := h5.size
  refine ⟨((h.below h5).below h6).cntTo (Nat.le_refl _), NowS.refl _, ⟨hi, own_zero (own_keep hp fun g hg => h6.block g (hp.lt g hg).2)⟩, fun g hg hS => ?_, own_zero hv, fun g hg hS => ?_⟩
  · have := (hp.lt g hg).1
    have := (h.lo g hS).2
    omega
  · have := (World.ownsRow.lt hv g hg).1
    have := (h.lo g hS).2
    omega

theorem PatI.fresh {w wr : World} {S : Nat → Prop} {vb o : Nat} {st st' : St} {d : Cv} {ids : List Int} {bv vv : Value} (h : PatI w wr S vb o st st' d ids bv vv) {w' : World} {v : Value} (hb : Below wr.heap.size wr w') (hv : OwnV w' wr.heap.size v st' (st'.vis (st'.dfs (-1)))) :
    w'.ownsRow 0 59 9 vv (st.vis (st.dfs (-1))).length ((st.vis (st.dfs (-1))).flatMap (vCells st)) ∧ w'.ownsRow 0 59 9 v (st.vis (st.dfs (-1))).length ((st.vis (st.dfs (-1))).flatMap (vCells st)) := by
  refine ⟨own_keep h.vw fun g hg => hb.block g (h.vw.lt g hg).2, ?_⟩
  obtain ⟨e1, e2⟩ := views_now h.now
  have := own_zero hv
  rw [e2, e1] at this
  exact this

set_option maxRecDepth 100000 in
set_option maxHeartbeats 4000000 in
theorem patient_walk (D E : List StepD) (u v : Value) (w : World) (hu : StepsAt w u D) (hv : StepsAt w v E) :
    Calls Tryz.prog 10 #[u, v] w fun e w' => e = .returned (.bool true) ∧ Below w.heap.size w w' := by
  obtain ⟨ua, uc, rfl⟩ := hu.form
  obtain ⟨va, vc, rfl⟩ := hv.form
  obtain ⟨n, hn⟩ : ∃ n, D.length = n := ⟨_, rfl⟩
  obtain ⟨m, hm⟩ : ∃ m, E.length = m := ⟨_, rfl⟩
  rw [hn] at hu ⊢
  rw [hm] at hv ⊢
  have HU := hide (And.intro hu hn)
  have HV := hide (And.intro hv hm)
  have HB := hide (begun_any 1 (by omega) w)
  clear hu hv hn hm
  go_enter Tryz.func10, Tryz.ntmps10
  go_wp2_with (go_at_call 12; refine HB.out.mono ?_; rintro e w1 ⟨vb, rfl, d1, ha, hd, hb⟩; have HR1 := hide (run_start ha hd hb); clear ha hd hb HB)
  go_loopg [7] (min n 60) (fun gg s7 wr => ∃ (k : Nat) (S : Nat → Prop) (st : St) (d : Cv) (ids : List Int), s7 = .int .i64 k ∧ gg + k = min n 60 ∧ Hid (Run w wr S vb 1 k 2 st d ids))
  case atStart => exact ⟨0, _, _, _, _, rfl, by omega, HR1.out⟩
  case round =>
    rename World => wr
    clear HR1
    obtain ⟨k, S, st, d, ids, rfl, hgk, HR⟩ := hrel
    cases gk with
    | succ gk =>
      have h1 : (k : Int) < (n : Int) := by omega
      have h2 : (k : Int) < 60 := by omega
      have hk : k < D.length := by have := HU.out.2; omega
      obtain ⟨hc, b, off, hab, _, c0, c1, c2, c3, c4, c5⟩ := HU.out.1.at HU.out.2 HR.out.bel k hk
      subst hab
      obtain ⟨t, ht⟩ : ∃ t, D[k] = t := ⟨_, rfl⟩
      rw [ht] at c0 c1 c2 c3 c4 c5
      have hkc : k < uc := by omega
      have hk0 : (0 : Int) ≤ (k : Int) := by omega
      have HS : Hid (Calls Tryz.prog 13 #[.pointer (some ⟨vb, 0, none⟩), .agg #[.int .i64 t.k, .int .i64 t.a, .int .i64 t.b, .int .i64 t.c, .int .i64 t.d, .bool t.y]] wr fun e w' => e = .returned (.tuple #[]) ∧ ∃ S' st' d' ids', Run w w' S' vb 1 (k + 1) 2 st' d' ids') :=
        (HR.out.step (by omega) t (HU.out.1.ok t (ht ▸ List.getElem_mem hk))).mono fun e w' ⟨q1, ⟨d', _, q2⟩, _⟩ => ⟨q1, _, _, d', _, q2⟩
      clear ht hc
      go_wp2_with (go_at_call 13; refine HS.out.mono ?_; rintro e w2 ⟨rfl, S2, st2, d2, ids2, hR⟩; have HR2 := hide hR; clear hR)
      go_roundg gk
      case measure => omega
      case rel => exact ⟨k + 1, S2, st2, d2, ids2, by go_num, by omega, HR2.out⟩
    | zero =>
      have hex : ¬ (k : Int) < (n : Int) ∨ ((k : Int) < (n : Int) ∧ ¬ (k : Int) < 60) := by omega
      have hk60 : k ≤ 60 := by omega
      go_upto_region 5 with fail
      go_cut [32] (fun s32 wx => s32 = .bool false ∧ wx = wr)
      case first =>
        rcases hex with h | ⟨h1, h2⟩
        · go_wp2_with fail
          go_meet
          exact ⟨rfl, rfl⟩
        · go_wp2_with fail
          go_meet
          exact ⟨rfl, rfl⟩
      case rest =>
        obtain ⟨rfl, hwx⟩ := hcut
        replace hwx := hwx.symm
        subst hwx
        clear hex
        obtain ⟨A, x, lv, ha⟩ := HR.out.alv
        obtain ⟨la, lc, hlf⟩ := row_form ha.row
        obtain ⟨q, hq⟩ : ∃ q, ids.length = q := ⟨_, rfl⟩
        rw [hq] at hlf
        subst hlf
        have v0 : wr.cell? ⟨vb, 0, none⟩ = some (.pointer (some ⟨x, 0, none⟩)) := ha.blk.cell 0
        have v1 : wr.cell? ⟨vb, 1, none⟩ = some (.slice la q lc) := ha.blk.cell 1
        have HA := hide ha
        have HQ := hide hq
        have hkq : q ≤ 60 := by have := HR.out.cnt; omega
        clear ha hq
        by_cases hq0 : (q : Int) = 0
        · go_wp2_with fail
          go_ret
          exact ⟨rfl, HR.out.bel⟩
        · have HRp := hide (pat_rp1 HR.out HA.out (by omega))
          go_upto_region 11 with (go_at_call 14; refine HRp.out.mono ?_; rintro e w3 ⟨ra, rn, rq, z, rfl, S3, A3, d3, hR, hA, hF⟩; have HR3 := hide hR; have HA3 := hide hA; have HF := hide hF; clear hR hA hF)
          clear HRp v0 v1
          obtain ⟨W3, hW3⟩ : ∃ W, W = w3.alloc (.cells #[.slice ra rn rq, .int .i64 z] 35) := ⟨_, rfl⟩
          have hb3 : Below w3.heap.size w3 W3 := by rw [hW3]; exact (Below.refl _ _).alloc (Nat.le_refl _) _
          rw [← hW3]
          have HR4 := hide (HR3.out.below hb3)
          have HA4 := hide (HA3.out.below hb3)
          clear hb3 hW3 HR3 HA3
          go_wp2_with (first
            | (go_at_call 19; refine (alook_any HR4.out 0 (by omega)).mono ?_; rintro e w5 ⟨hi5, ba, bq, rfl, ho5, hb5⟩; have HO5 := hide ho5; have HB5 := hide hb5; have v5 : w5.cell? ⟨vb, 0, none⟩ = some (.pointer (some ⟨x, 0, none⟩)) := (HA4.out.below hb5).blk.cell 0; clear ho5 hb5)
            | (go_at_call 23; refine (fuViews_any HR4.out.fine.wf (HA4.out.below HB5.out).scr).mono ?_; rintro e w6 ⟨vv, rfl, hov, hb6⟩; obtain ⟨xa, xc, hvf⟩ := row_form hov; subst hvf; have HP6 := hide (pat_start HR4.out hi5 HO5.out HB5.out hov hb6); clear hov hb6 v5))
          obtain ⟨nl, hnl⟩ : ∃ nl, (st.vis (st.dfs (-1))).length = nl := ⟨_, rfl⟩
          have HNL := hide hnl
          have hnlb : nl ≤ 12 := by rw [← hnl]; exact Nat.le_trans (vis_len _) (dfs_len HR4.out.fine.wf (by omega))
          rw [hnl] at HP6 ⊢
          clear HO5 HB5 HR4 HA4 hnl HA HR
          go_loopg [12] (min m 30) (fun gg s12 wq => ∃ (j : Nat) (T : Nat → Prop) (st' : St), s12 = .int .i64 j ∧ gg + j = min m 30 ∧ Hid (PatI w wq T vb 3 st st' d3 ids (.slice ba 56 bq) (.slice xa nl xc)))
          case atStart => exact ⟨0, _, _, rfl, by omega, HP6.out⟩
          case round =>
            rename World => wq
            rename Nat => gj
            clear HP6
            obtain ⟨j, T, st', rfl, hgj, HP⟩ := hrel
            cases gj with
            | succ gj =>
              have h1 : (j : Int) < (m : Int) := by omega
              have h2 : (j : Int) < 30 := by omega
              have hj : j < E.length := by have := HV.out.2; omega
              obtain ⟨hc, b, off, hab, _, c0, c1, c2, c3, c4, c5⟩ := HV.out.1.at HV.out.2 HP.out.run.bel j hj
              subst hab
              obtain ⟨t, ht⟩ : ∃ t, E[j] = t := ⟨_, rfl⟩
              rw [ht] at c0 c1 c2 c3 c4 c5
              have hto := HV.out.1.ok t (ht ▸ List.getElem_mem hj)
              have hjc : j < vc := by omega
              have hj0 : (0 : Int) ≤ (j : Int) := by omega
              obtain ⟨P, hP⟩ : ∃ P, pickI t.k 9 = P := ⟨_, rfl⟩
              have bP := pick_bd t.k 9 (by omega)
              rw [hP] at bP
              have HPk : Hid (∀ V : World, Calls Tryz.prog 15 #[.int .i64 t.k, .int .i64 9] V fun e w' => e = .returned (.int .i64 P) ∧ w' = V) := fun V => by rw [← hP]; exact pick_any t.k 9 V hto.k.1 hto.k.2 (by omega) (by omega)
              obtain ⟨K3, hK3⟩ : ∃ z, 3 + P = z := ⟨_, rfl⟩
              have w3 : IntKind.i64.wrap (3 + P) = K3 := by rw [IntKind.wrap_i64]; omega
              have HS : Hid (∀ V : World, Below wq.heap.size wq V → Calls Tryz.prog 13 #[.pointer (some ⟨vb, 0, none⟩), .agg #[.int .i64 K3, .int .i64 t.a, .int .i64 t.b, .int .i64 t.c, .int .i64 t.d, .bool t.y]] V fun e w' => e = .returned (.tuple #[]) ∧ ∃ T' st2, PatI w w' T' vb 3 st st2 d3 ids (.slice ba 56 bq) (.slice xa nl xc)) := fun V hV =>
                (HP.out.below hV).step (fun e => hq0 (by have := HQ.out; rw [e] at this; simp at this; omega)) (by have := HQ.out; have := hkq; omega) ⟨K3, t.a, t.b, t.c, t.d, t.y⟩ ⟨by unfold I64; simp only; omega, hto.a, hto.b, hto.c, hto.d⟩ (by simp only; omega) (by simp only; omega)
              clear ht hc hto hP bP hK3
              go_wp2_with (first
                | (go_at_call 15; refine (HPk.out _).mono ?_; rintro e w7 ⟨rfl, hw7⟩; replace hw7 := hw7.symm; subst hw7)
                | (go_at_call 13; refine (HS.out _ ?_).mono ?_; (repeat (first | with_reducible exact Below.refl _ _ | with_reducible refine Below.drew ?_ | with_reducible refine Below.setCell ?_ (by simp) _ | with_reducible refine Below.alloc ?_ (by first | omega | (simp <;> omega)) _)); rintro e w8 ⟨rfl, T2, st2, hI⟩; have HP8 := hide hI; clear hI))
              go_roundg gj
              case measure => omega
              case rel => exact ⟨j + 1, T2, st2, by go_num, by omega, HP8.out⟩
            | zero =>
              have hex : ¬ (j : Int) < (m : Int) ∨ ((j : Int) < (m : Int) ∧ ¬ (j : Int) < 30) := by omega
              go_upto_region 14 with fail
              go_cut [69] (fun s69 wx => s69 = .bool false ∧ wx = wq)
              case first =>
                rcases hex with h | ⟨h1, h2⟩
                · go_wp2_with fail
                  go_meet
                  exact ⟨rfl, rfl⟩
                · go_wp2_with fail
                  go_meet
                  exact ⟨rfl, rfl⟩
              case rest =>
                obtain ⟨rfl, hwx⟩ := hcut
                replace hwx := hwx.symm
                subst hwx
                clear hex
                obtain ⟨A7, x7, lv7, ha7⟩ := HP.out.run.alv
                have v7 : wq.cell? ⟨vb, 0, none⟩ = some (.pointer (some ⟨x7, 0, none⟩)) := ha7.blk.cell 0
                have HRp := hide (pat_rp2 HP.out ha7 (by omega) HF.out)
                clear ha7
                go_upto_region 20 with (go_at_call 14; refine HRp.out.mono ?_; rintro e w8 ⟨z8, rfl, S8, d8, hI⟩; have HP8 := hide hI; clear hI)
                clear HRp v7 HP
                obtain ⟨pb, hpb⟩ : ∃ pb, w8.heap.size = pb := ⟨_, rfl⟩
                obtain ⟨W8, hW8⟩ : ∃ W, W = w8.alloc (.cells #[.slice none 0 0, .int .i64 z8] 35) := ⟨_, rfl⟩
                have hb8 : Below w8.heap.size w8 W8 := by rw [hW8]; exact (Below.refl _ _).alloc (Nat.le_refl _) _
                have hpt : Blk W8 pb 35 #[.slice none 0 0, .int .i64 z8] := by rw [hW8, ← hpb]; exact heap_alloc_new w8 _
                rw [← hW8, hpb]
                have HP9 := hide (HP8.out.below hb8)
                have HPt := hide hpt
                clear hb8 hpt hW8 hpb HP8
                have HSm : Hid (∀ (w9 : World) (hi9 : 0 < d8.bufs.length) (ca : Option Addr) (cq : Nat), w9.ownsRow W8.heap.size 51 4 (.slice ca 56 cq) 56 (pixCells (pxL d8.bufs[0].f 56)) → Below W8.heap.size W8 w9 → Calls Tryz.prog 18 #[.slice ba 56 bq, .slice ca 56 cq] w9 fun e w' => e = .returned (.bool true) ∧ Below W8.heap.size W8 w') := fun w9 hi9 ca cq ho hb => by
                  obtain ⟨_, hp0⟩ := (HP9.out.below hb).pix
                  refine (same_yes (pxL d8.bufs[0].f 56) _ _ w9 (pixAt_own hp0 (pxL_len _ _)) (pixAt_own ho (pxL_len _ _)) (by rw [pxL_len]; omega)).mono ?_
                  rintro e w' ⟨rfl, hb'⟩
                  exact ⟨rfl, hb.trans (hb'.mono hb.size)⟩
                go_upto_region 21 with (first
                  | (go_at_call 19; refine (alook_any HP9.out.run 0 (by omega)).mono ?_; rintro e w9 ⟨hi9, ca, cq, rfl, ho9, hb9⟩; have HO9 := hide (And.intro ho9 hb9); clear ho9 hb9)
                  | (go_at_call 18; refine (HSm.out _ hi9 _ _ HO9.out.1 HO9.out.2).mono ?_; rintro e w10 ⟨rfl, hb10⟩; have HP10 := hide (And.intro (HP9.out.below hb10) (HPt.out.keep (hb10.block _ (block_lt HPt.out)))); clear hb10))
                clear HSm HO9 HP9 HPt
                obtain ⟨A10, x10, lv10, ha10⟩ := HP10.out.1.run.alv
                have v10 : w10.cell? ⟨vb, 0, none⟩ = some (.pointer (some ⟨x10, 0, none⟩)) := ha10.blk.cell 0
                have HVw := hide (fuViews_any HP10.out.1.run.fine.wf ha10.scr)
                clear ha10
                obtain ⟨nl2, hnl2⟩ : ∃ nl2, (st'.vis (st'.dfs (-1))).length = nl2 := ⟨_, rfl⟩
                have hn2 : nl2 = nl := by rw [← hnl2, (views_now HP10.out.1.now).1, HNL.out]
                have HV2 := hide hnl2
                subst hn2
                clear hnl2
                go_upto_region 22 with (go_at_call 23; refine HVw.out.mono ?_; rintro e w11 ⟨v2, rfl, hov, hb11⟩; obtain ⟨ya, yc, hvf⟩ := row_form hov; rw [HV2.out] at hvf; subst hvf; have HRw := hide (HP10.out.1.fresh hb11 hov); have HBl := hide (HP10.out.1.below hb11).run.bel; have p0 : w11.cell? ⟨pb, 0, none⟩ = some (.slice none 0 0) := (HP10.out.2.keep (hb11.block _ (block_lt HP10.out.2))).cell 0; clear hov hb11)
                obtain ⟨L, hL⟩ : ∃ L, st.vis (st.dfs (-1)) = L := ⟨_, rfl⟩
                rw [hL] at HRw HNL
                have hq2 := eqViewK
                clear hL HP10 HVw HV2 v10
                go_wp2_with fail
                clear p0
                go_loopg [18] nl2 (fun g s18 wz => ∃ i : Nat, s18 = .int .i64 i ∧ g + i = nl2 ∧ ∃ nq, wz = w11.drewN nq)
                case atStart => exact ⟨0, rfl, by omega, 0, rfl⟩
                case round =>
                  rename World => wz
                  rename Nat => gi
                  obtain ⟨i, rfl, hgi, n0, rfl⟩ := hrel
                  cases gi with
                  | zero =>
                    have hlt : ¬ (i : Int) < (nl2 : Int) := by omega
                    go_wp2_with fail
                    go_ret
                    exact ⟨rfl, HBl.out.trans ⟨rfl, rfl, rfl, Nat.le_refl _, fun _ _ => rfl⟩⟩
                  | succ gi =>
                    have hlt : (i : Int) < (nl2 : Int) := by omega
                    have hin : i < nl2 := by omega
                    have hil : i < L.length := by rw [HNL.out]; exact hin
                    obtain ⟨h1, h2⟩ := HRw.out
                    rw [HNL.out] at h1 h2
                    obtain ⟨g1, c1, e1, _, _, _, qq, _⟩ := RowS.open (S := fun _ => True) ⟨h1, fun _ _ => trivial⟩ (by omega)
                    obtain ⟨g2, c2, e2, _, _, _, rr, _⟩ := RowS.open (S := fun _ => True) ⟨h2, fun _ _ => trivial⟩ (by omega)
                    injection e1 with e11 e12 e13
                    injection e2 with e21 e22 e23
                    clear e12 e22
                    subst e11 e13 e21 e23
                    have hf := fun j hj => flat9K st L i j hil hj
                    have q0 := qq _ _ ((hf 0 (by omega)).trans rfl)
                    have q1 := qq _ _ ((hf 1 (by omega)).trans rfl)
                    have q2 := qq _ _ ((hf 2 (by omega)).trans rfl)
                    have q3 := qq _ _ ((hf 3 (by omega)).trans rfl)
                    have q4 := qq _ _ ((hf 4 (by omega)).trans rfl)
                    have q5 := qq _ _ ((hf 5 (by omega)).trans rfl)
                    have q6 := qq _ _ ((hf 6 (by omega)).trans rfl)
                    have q7 := qq _ _ ((hf 7 (by omega)).trans rfl)
                    have q8 := qq _ _ ((hf 8 (by omega)).trans rfl)
                    have r0 := rr _ _ ((hf 0 (by omega)).trans rfl)
                    have r1 := rr _ _ ((hf 1 (by omega)).trans rfl)
                    have r2 := rr _ _ ((hf 2 (by omega)).trans rfl)
                    have r3 := rr _ _ ((hf 3 (by omega)).trans rfl)
                    have r4 := rr _ _ ((hf 4 (by omega)).trans rfl)
                    have r5 := rr _ _ ((hf 5 (by omega)).trans rfl)
                    have r6 := rr _ _ ((hf 6 (by omega)).trans rfl)
                    have r7 := rr _ _ ((hf 7 (by omega)).trans rfl)
                    have r8 := rr _ _ ((hf 8 (by omega)).trans rfl)
                    generalize L[i] = x0 at q0 q1 q2 q3 q4 q5 q6 q7 q8 r0 r1 r2 r3 r4 r5 r6 r7 r8
                    generalize (st.seen x0) = z0 at q5 q6 q7 q8 r5 r6 r7 r8
                    generalize (st.px x0) = z1 at q1 r1
                    generalize (st.py x0) = z2 at q2 r2
                    generalize (st.sf x0).now.w = z3 at q3 r3
                    generalize (st.sf x0).now.h = z4 at q4 r4
                    obtain ⟨y0, y1, y2, y3⟩ := z0
                    simp only [Nat.add_zero] at q0 q1 q2 q3 q4 q5 q6 q7 q8 r0 r1 r2 r3 r4 r5 r6 r7 r8
                    clear hf qq rr h1 h2
                    go_wp2_with fail
                    go_quiet (fail)
                    go_wp2_with fail
                    go_roundg gi
                    case measure => omega
                    case rel => exact ⟨i + 1, by go_num, by omega, _, rfl⟩

end Go.Proofs.YtofinpocigbbeaaGreat
