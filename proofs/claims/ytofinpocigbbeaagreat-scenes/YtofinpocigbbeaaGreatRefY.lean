import Derived.Test.YtofinpocigbbeaaGreatRefX
namespace Go.Proofs.YtofinpocigbbeaaGreat
open Go.RowKit
attribute [local go_sem ↓] Go.wp_at_zero Go.wp_at_succ

theorem stk_sf (st : St) (id j : Nat) (hi : id < st.sfs.length) : (stk st id).sf j = if j = id then stSf (st.sf id) else st.sf j := upd_sf st id stSf j hi

theorem stk_perm {st : St} (hw : Wf st) (hs : SibOk st) {id : Nat} (hid : id ∈ st.order) : (stk st id).order.Perm st.order := cm_perm hw hs hid

theorem stk_wf {st : St} (hw : Wf st) (hs : SibOk st) {id : Nat} (hid : id ∈ st.order) : Wf (stk st id) := by
  have hi := hw.lt hid
  have hP := stk_perm hw hs hid
  have hu := upd_wf (g := stSf) hw hi (fun _ => rfl) (fun _ => rfl) ⟨(hw.lk id).1, (hw.lk id).2⟩
  refine ⟨hu.par, hP.nodup_iff.2 hw.nd, fun j => ?_, fun j hj p hp => ?_, ?_, hu.made, hw.ww, hw.hh, hu.lk⟩
  · rw [hP.mem_iff]; exact hu.mem j
  · rw [hP.mem_iff] at hj ⊢; exact hu.up j hj p hp
  · rw [hP.length_eq]; exact hw.len

theorem stk_kids_len {st : St} (hw : Wf st) (hs : SibOk st) {id : Nat} (hid : id ∈ st.order) (p : Int) : ((stk st id).kids p).length = (st.kids p).length := by
  have hP := (stk_perm hw hs hid).filter fun i => decide (((stk st id).sf i).parent = p)
  have e : (fun i => decide (((stk st id).sf i).parent = p)) = fun i => decide ((st.sf i).parent = p) := by
    funext i
    rw [stk_sf st id i (hw.lt hid)]
    split
    · rename_i e; subst e; rfl
    · rfl
  unfold St.kids
  rw [hP.length_eq, e]

set_option maxRecDepth 100000 in
set_option maxHeartbeats 2000000 in
/-- (*Screen).stacked, where it is put next to another one. -/
theorem stacked_yes {S : Nat → Prop} {c : Nat} {st : St} (hw : Wf st) (hsb : SibOk st) (id : Nat) (hid : id ∈ st.order) (hp : st.puts id = true) (w : World) (h : RefOk w S c st) :
    Calls Tryz.prog 131 #[.pointer (some ⟨c, 0, none⟩), .int .i64 id] w (StackPost S c st id w) := by
  have hil := hw.lt hid
  obtain ⟨sb, hsib, hsne, hsin, hspar⟩ := puts_sib hw hsb hid hp
  have hIs := is_any (S := S) (c := c) (st := st) (st.sf id).sib w h hw.made
  have hput : (st.sf id).ask = true ∧ st.isB (st.sf id).sib = true := by unfold St.puts at hp; rwa [Bool.and_eq_true] at hp
  rw [hput.2, hsib] at hIs
  obtain ⟨bv, sv, ov, F, hr, hs⟩ := h
  obtain ⟨k0, k1, k2, k3, k4, kf, kl⟩ := hr.cells
  obtain ⟨g, cap, e1, e2, e3, e4, e5, e6⟩ := hr.at (by omega)
  subst e1
  obtain ⟨oa, ocap, hov⟩ := hr.ovForm
  subst hov
  have c1 := e5 id hil 1 (by omega)
  have c24 := e5 id hil 24 (by omega)
  have c25 := e5 id hil 25 (by omega)
  have c26 := e5 id hil 26 (by omega)
  rw [(hs.rel id hil).parent] at c1
  rw [(hs.rel id hil).ask, hput.1] at c24
  rw [(hs.rel id hil).sib, hsib] at c25
  rw [(hs.rel id hil).above] at c26
  have f24 := e6 (id * 28 + 24)
  have f4 := kf 4
  obtain ⟨n, hn⟩ : ∃ n, st.sfs.length = n := ⟨_, rfl⟩
  obtain ⟨m, hm⟩ : ∃ m, st.order.length = m := ⟨_, rfl⟩
  have hmd := hw.made
  have hm12 := hw.len
  rw [hn] at k3 e3 hmd
  rw [hm] at k4 hm12
  have hin : id < n := by omega
  have hcap : id < cap := by omega
  obtain ⟨_, cur, hcur⟩ := hr.gType
  -- behind the first store
  have hr1 := hr.set hil (show 24 < 28 by omega) (.bool false)
  have hs1 := hs.ask hil hcur
  have hw1 : Wf (upd st id stSf) := upd_wf (g := stSf) hw hil (fun _ => rfl) (fun _ => rfl) ⟨(hw.lk id).1, (hw.lk id).2⟩
  have ho1 : Only S w (w.setCell ⟨g, id * 28 + 24, none⟩ (.bool false)) := (Only.refl S w).set (.inl e2) _
  have hne : ¬ c = g := ne_of_type hr.scr hcur (by decide)
  have q3 : (w.setCell ⟨g, id * 28 + 24, none⟩ (.bool false)).cell? ⟨c, 3, none⟩ = some (.slice (some ⟨g, 0, none⟩) n cap) := (World.cell?_of_block (heap_setCell_other w ⟨g, id * 28 + 24, none⟩ c _ hne)).trans k3
  have q4 : (w.setCell ⟨g, id * 28 + 24, none⟩ (.bool false)).cell? ⟨c, 4, none⟩ = some (.slice oa m ocap) := (World.cell?_of_block (heap_setCell_other w ⟨g, id * 28 + 24, none⟩ c _ hne)).trans k4
  have hz1 : (w.setCell ⟨g, id * 28 + 24, none⟩ (.bool false)).heap.size = w.heap.size := by simp
  have hcg : ∀ o, o < 28 → o ≠ 24 → (w.setCell ⟨g, id * 28 + 24, none⟩ (.bool false)).cell? ⟨g, id * 28 + o, none⟩ = some (F id o) := fun o ho hne2 => by
    obtain ⟨g2, cap2, a1, a2, a3, a4, a5, a6⟩ := hr1.at (by omega)
    injection a1 with a11 a12 a13
    injection a11 with a11
    injection a11 with a11
    subst a11
    rw [a5 id hil o ho, upF_at]
    show some (if o = 24 then _ else F id o) = _
    rw [if_neg hne2]
  have y1 := (hcg 1 (by omega) (by omega)).trans ((e5 id hil 1 (by omega)).symm.trans c1)
  have y25 := (hcg 25 (by omega) (by omega)).trans ((e5 id hil 25 (by omega)).symm.trans c25)
  have y26 := (hcg 26 (by omega) (by omega)).trans ((e5 id hil 26 (by omega)).symm.trans c26)
  have hR1 : RefOk (w.setCell ⟨g, id * 28 + 24, none⟩ (.bool false)) S c (upd st id stSf) := ⟨bv, _, _, _, by have h9 := hr1; rw [← upd_len st id stSf] at h9; exact h9, hs1⟩
  have HStk : Hid (∀ (wr : World) (v : Value) (B : Nat), Below w.heap.size (w.setCell ⟨g, id * 28 + 24, none⟩ (.bool false)) wr → w.heap.size ≤ B → OwnN wr B v (rsL st.order id sb (st.sf id).above) → RefOk (wr.setCell ⟨c, 4, none⟩ v) (grow S w wr) c (stk st id) ∧ Only S w (wr.setCell ⟨c, 4, none⟩ v) ∧ ∀ (b : Nat) (cb : Array Value), w.heap[b]? = some (.cells cb 51 (0, 0)) → (wr.setCell ⟨c, 4, none⟩ v).heap[b]? = w.heap[b]?) := by
    intro wr v B hb hB hv
    have hb2 : Below (w.setCell ⟨g, id * 28 + 24, none⟩ (.bool false)).heap.size (w.setCell ⟨g, id * 28 + 24, none⟩ (.bool false)) wr := by rw [hz1]; exact hb
    have r2 := hr1.below hb2
    have s2 := hs1.below hb2
    have eo : (stk st id).order = rsL st.order id sb (st.sf id).above := by
      show (if st.puts id = true then rsL st.order id (st.sf id).sib.toNat (st.sf id).above else st.order) = _
      rw [if_pos hp, hsib, Int.toNat_natCast]
    refine ⟨⟨bv, .slice (some ⟨g, 0, none⟩) (upd st id stSf).sfs.length cap, v, upF F id 24 (.bool false), ?_, ?_⟩, ?_, fun b cb hb9 => ?_⟩
    · have r3 := r2.setOrd (S' := grow S w wr) (ov' := v) (ord' := (stk st id).order) (fun b hb => grow_self hb) ⟨by rw [eo]; exact ⟨hv.1, hv.2.imp (fun h => h) fun ⟨g, c, cur, e1, e2, e3⟩ => ⟨g, c, cur, e1, Nat.zero_le _, e3⟩⟩, fun b hb => .inr ⟨by have := (hv.lt b hb).1; omega, (hv.lt b hb).2⟩⟩
      rw [← upd_len st id stSf] at r3
      exact r3
    · have s3 := s2.setC (S' := grow S w wr) (j := 4) (u := v) (fun b hb => grow_self hb) r2.scr
      exact ⟨s3.rel, s3.pixN, s3.pixX⟩
    · exact (ho1.after hb2).set (.inl hr.own) _
    · have hbl := (Array.getElem?_eq_some_iff.1 hb9).1
      rw [heap_setCell_other wr ⟨c, 4, none⟩ b v (ne_of_type hb9 hr.scr (by decide)), hb2.block b (by omega), heap_setCell_other w ⟨g, id * 28 + 24, none⟩ b _ (ne_of_type hb9 hcur (by decide))]
  have HK := hide (And.intro hw1 (And.intro (stk_wf hw hsb hid) (And.intro hn (And.intro hm (And.intro hw (stk_kids_len hw hsb hid (st.sf id).parent))))))
  have HW := hide (And.intro hr1 (And.intro ho1 hR1))
  have HKd : Hid ((upd st id stSf).kids (st.sf id).parent = st.kids (st.sf id).parent) := (upd_alike (g := stSf) hil (fun _ => rfl)).kids _
  have hKl : (st.kids (st.sf id).parent).length ≤ 12 := Nat.le_trans (List.length_filter_le _ _) hw.len
  obtain ⟨P, hP⟩ : ∃ P, (st.sf id).parent = P := ⟨_, rfl⟩
  obtain ⟨ab, hab⟩ : ∃ b, (st.sf id).above = b := ⟨_, rfl⟩
  rw [hP] at y1 HK HKd hKl
  rw [hab] at y26 HStk
  have f4' : (w.setCell ⟨g, id * 28 + 24, none⟩ (.bool false)).frozen? ⟨c, 4, none⟩ = false := by rw [World.frozen?_of_block (heap_setCell_other w ⟨g, id * 28 + 24, none⟩ c _ hne)]; exact f4
  have hIsW := hide hIs
  clear hr hs kf hn hm e5 e6 hcur hr1 hs1 hw1 ho1 hR1 hcg hP hab hIs k4 hput hp hspar f4
  go_enter Tryz.func131, Tryz.ntmps131
  go_upto_region 7 with (go_at_call 127; refine hIsW.out.mono ?_; rintro e w' ⟨rfl, hw'⟩; replace hw' := hw'.symm; subst hw')
  clear c1 c24 c25 c26 f24 k3
  generalize w.setCell ⟨g, id * 28 + 24, none⟩ (.bool false) = w1 at *
  have kl1 : c < w1.heap.size := by omega
  have hg1 : g < w1.heap.size := by omega
  go_wp2_with (go_at_call 179; refine (siblings_any HK.out.1 P _ HW.out.2.2).mono ?_; rintro e w2 ⟨vb, rfl, hvb, hb2⟩; have H2 := hide (And.intro hvb hb2); have hs2 := hb2.size; clear hvb hb2)
  have z3 := (H2.out.2.cell (p := ⟨c, 3, none⟩) kl1).trans q3
  have z4 := (H2.out.2.cell (p := ⟨c, 4, none⟩) kl1).trans q4
  have x1 := (H2.out.2.cell (p := ⟨g, id * 28 + 1, none⟩) hg1).trans y1
  have x25 := (H2.out.2.cell (p := ⟨g, id * 28 + 25, none⟩) hg1).trans y25
  have x26 := (H2.out.2.cell (p := ⟨g, id * 28 + 26, none⟩) hg1).trans y26
  have xf := (H2.out.2.frozen (p := ⟨c, 4, none⟩) kl1).trans f4'
  clear q3 q4 y1 y25 y26 f4' k0 k1 k2
  go_loopg [8, 9] m (fun gg s8 s9 wr => ∃ k : Nat, s9 = .int .i64 k ∧ gg + k = m ∧ OwnN wr w2.heap.size s8 (rsL (st.order.take k) id sb ab) ∧ Below w2.heap.size w2 wr)
  case atStart => exact ⟨0, rfl, by omega, World.ownsRow_nil _ _ _ _, Below.refl _ _⟩
  case round =>
    rename World => wr
    obtain ⟨k, rfl, hgk, hown, hbel⟩ := hrel
    obtain ⟨la, lc, hlf⟩ := row_form hown
    obtain ⟨nL, hnL⟩ : ∃ nL, (rsL (st.order.take k) id sb ab).length = nL := ⟨_, rfl⟩
    rw [hnL] at hlf
    subst hlf
    have hsz := hbel.size
    have v3 := (hbel.cell (p := ⟨c, 3, none⟩) (by show c < w2.heap.size; omega)).trans z3
    have v4 := (hbel.cell (p := ⟨c, 4, none⟩) (by show c < w2.heap.size; omega)).trans z4
    have v1 := (hbel.cell (p := ⟨g, id * 28 + 1, none⟩) (by show g < w2.heap.size; omega)).trans x1
    have v25 := (hbel.cell (p := ⟨g, id * 28 + 25, none⟩) (by show g < w2.heap.size; omega)).trans x25
    have v26 := (hbel.cell (p := ⟨g, id * 28 + 26, none⟩) (by show g < w2.heap.size; omega)).trans x26
    have vf := (hbel.frozen (p := ⟨c, 4, none⟩) (by show c < w2.heap.size; omega)).trans xf
    have HO := hide (And.intro hown (And.intro hbel hnL))
    cases gk with
    | zero =>
      have hlt : ¬ (k : Int) < (m : Int) := by omega
      have hfull : st.order.take k = st.order := List.take_of_length_le (by have := HK.out.2.2.2.1; omega)
      rw [hfull] at hown
      obtain ⟨R3, O3, P3⟩ := HStk.out wr _ w2.heap.size ((H2.out.2.mono (by omega)).trans (hbel.mono (by omega))) (by omega) hown
      have hc3 : ∀ (u : Value), (wr.setCell ⟨c, 4, none⟩ u).cell? ⟨g, id * 28 + 1, none⟩ = some (.int .i64 P) := fun u => (World.cell?_of_block (heap_setCell_other wr ⟨c, 4, none⟩ g u (fun e => hne e.symm))).trans v1
      have hsz3 : ∀ (u : Value), (wr.setCell ⟨c, 4, none⟩ u).heap.size = wr.heap.size := fun u => by simp
      have hvb3 : ∀ (u : Value), OwnN (wr.setCell ⟨c, 4, none⟩ u) w1.heap.size vb (st.kids P) := fun u => by
        have h8 := H2.out.1
        rw [HKd.out] at h8
        refine own_keep h8 fun b hb => ?_
        have h9 := h8.lt b hb
        rw [heap_setCell_other wr ⟨c, 4, none⟩ b u (show b ≠ c by omega)]
        exact hbel.block b h9.2
      have h31 := hc3 (.slice la nL lc)
      have hs31 := hsz3 (.slice la nL lc)
      have hv31 := hvb3 (.slice la nL lc)
      clear hc3 hsz3 hvb3 hown hbel hnL
      have H3 := hide (And.intro R3 (And.intro O3 (And.intro hv31 P3)))
      clear R3 O3 hv31 P3
      go_upto_region 20 with fail
      generalize wr.setCell ⟨c, 4, none⟩ (.slice la nL lc) = w3 at *
      go_wp2_with (go_at_call 179; refine (siblings_any HK.out.2.1 P _ H3.out.1).mono ?_; rintro e w4 ⟨va, rfl, hva, hb4⟩; have H4 := hide (And.intro hva hb4); have hs4 := hb4.size; clear hva hb4)
      obtain ⟨nK, hnK⟩ : ∃ nK, (st.kids P).length = nK := ⟨_, rfl⟩
      obtain ⟨ba, bc, hbf⟩ := row_form H3.out.2.2.1
      obtain ⟨aa, ac, haf⟩ := row_form H4.out.1
      rw [HK.out.2.2.2.2.2, hnK] at haf
      rw [hnK] at hbf hKl
      have HV := hide (And.intro hbf (And.intro haf hnK))
      subst hbf haf
      clear hnK
      go_wp2
      go_loopg [12] nK (fun gg s12 wq => ∃ i : Nat, s12 = .int .i64 i ∧ gg + i = nK ∧ ∃ nq, wq = w4.drewN nq)
      case atStart => exact ⟨0, rfl, by omega, 0, rfl⟩
      case round =>
        obtain ⟨i, rfl, hgi, n0, rfl⟩ := hrel
        have HFin : Hid (∀ (b : Bool) (W : World), Below w4.heap.size w4 W → StackPost S c st id w (.returned (.bool b)) W) := fun b W hW => by
          refine ⟨b, rfl, ?_, (H3.out.2.1.after H4.out.2).after hW, fun x cx hx => ?_⟩
          rotate_left
          · have hxl := (Array.getElem?_eq_some_iff.1 hx).1
            have h7 : w.heap.size ≤ w3.heap.size := by omega
            rw [hW.block x (by omega), H4.out.2.block x (by omega), H3.out.2.2.2 x cx hx]
          refine ((H3.out.1.keep (w' := W) fun g _ hg => (hW.block g (by omega)).trans (H4.out.2.block g hg))).mono fun g hg => ?_
          have h8 := hW.size
          rcases hg with hg | hg
          · exact .inl hg
          · exact .inr ⟨hg.1, by omega⟩
        cases gk with
        | zero =>
          have hlti : ¬ (i : Int) < (nK : Int) := by omega
          go_wp2
          go_ret
          exact HFin.out false _ (below_drewN (Below.refl _ _) _)
        | succ gi =>
          have hlti : (i : Int) < (nK : Int) := by omega
          have hin2 : i < nK := by omega
          have hiK : i < (st.kids P).length := by rw [HV.out.2.2]; exact hin2
          have hiA : i < ((stk st id).kids P).length := by rw [HK.out.2.2.2.2.2]; exact hiK
          have hbo := own_keep H3.out.2.2.1 (w' := w4) fun b hb => H4.out.2.block b (H3.out.2.2.1.lt b hb).2
          have hbp : 0 < (st.kids P).length := by omega
          have hap : 0 < ((stk st id).kids P).length := by omega
          obtain ⟨bg, bcc, hbe, _, _⟩ := hbo.form hbp
          obtain ⟨ag, acc, hae, _, _⟩ := H4.out.1.form hap
          have bcs := hbo.cells (g := bg) (by rw [hbe]; rfl) i (.int .i64 ((st.kids P)[i] : Int)) (by rw [List.getElem?_map, List.getElem?_eq_getElem hiK]; rfl)
          have acs := H4.out.1.cells (g := ag) (by rw [hae]; rfl) i (.int .i64 (((stk st id).kids P)[i] : Int)) (by rw [List.getElem?_map, List.getElem?_eq_getElem hiA]; rfl)
          have bcap := own_cap (by rw [hbe] at hbo; exact hbo)
          have acap := own_cap (by have h9 := H4.out.1; unfold OwnN at h9; rw [hae] at h9; exact h9)
          rw [add_at] at bcs acs
          injection hbe with b1 b2 b3
          injection hae with a1 a2 a3
          subst b1 b3 a1 a3
          have hib : i < bc := by omega
          have hia : i < ac := by omega
          generalize (st.kids P)[i] = kb at *
          generalize ((stk st id).kids P)[i] = ka at *
          have hi0 : (0 : Int) ≤ (i : Int) := by omega
          clear hbo bcap acap b2 a2 hiK hiA hbp hap
          by_cases hkk : (kb : Int) = (ka : Int)
          · rw [hkk] at bcs
            go_upto_region 24 with fail
            go_quiet (fail)
            go_wp2
            go_roundg gi
            case measure => omega
            case rel => exact ⟨i + 1, by go_num, by omega, _, rfl⟩
          · go_upto_region 24 with fail
            go_quiet (fail)
            go_wp2
            go_ret
            exact HFin.out true _ (below_drewN (below_drewN (Below.refl _ _) _) _)
    | succ gk =>
      have hlt : (k : Int) < (m : Int) := by omega
      have hkL : k < st.order.length := by have := HK.out.2.2.2.1; omega
      obtain ⟨og, oc, eo, _, hoc, ogl, ocs⟩ := HW.out.1.ordAt (by omega)
      rw [HK.out.2.2.2.1] at hoc
      injection eo with eo1 eo2 eo3
      subst eo1 eo3
      have co := (hbel.cell (p := ⟨og, k, none⟩) (by show og < w2.heap.size; omega)).trans ((H2.out.2.cell (p := ⟨og, k, none⟩) ogl).trans (ocs k hkL))
      obtain ⟨j, hj⟩ : ∃ j, st.order[k] = j := ⟨_, rfl⟩
      rw [hj] at co
      have HN := hide (rsL_next hkL id sb ab)
      rw [hj] at HN
      have hkc : k < ocap := by omega
      have hnL24 : nL ≤ 24 := by
        have h1 := rsL_len id sb ab (st.order.take k)
        rw [List.length_take, hnL] at h1
        have h2 := HK.out.2.2.2.1
        omega
      have HNL : Hid ((rsL (st.order.take k) id sb ab).length = nL) := hnL
      clear hown hbel ocs eo2 hkL hj hnL
      by_cases hji : j = id
      · subst hji
        have hjs : ¬ (j : Int) = (sb : Int) := by omega
        go_wp2_with fail
        go_roundg gk
        case measure => omega
        case rel =>
          refine ⟨k + 1, by go_num, by omega, ?_, HO.out.2.1⟩
          have e9 : rsL (st.order.take (k + 1)) j sb ab = rsL (st.order.take k) j sb ab := by
            rw [HN.out]
            have : ¬ j = sb := by omega
            simp [this]
          rw [e9]
          exact HO.out.1
      · have hjI : ¬ (j : Int) = (id : Int) := by omega
        by_cases hjs : j = sb
        · subst hjs
          cases ab with
          | false =>
            go_wp2_with (first
              | (at_builtin; refine wpList_append_nat rfl (.tmp 75) (.tmp 77) rfl w2.heap.size _ _ rfl (HO.out.1.alloc _) wr.heap.size id rfl (heap_alloc_new wr _) (by rw [HNL.out]; omega) (by simp; omega) ?_; intro v5 w5 ho5 hg5; have HB5 := hide ((HO.out.2.1.alloc hsz _).grown hg5 (by simp; omega) (fun k hk => (HO.out.1.lt k hk).1)); have H5 := hide ho5; have hs5 : w2.heap.size ≤ w5.heap.size := HB5.out.size; have t1 := (HB5.out.cell (p := ⟨g, id * 28 + 25, none⟩) (by show g < w2.heap.size; omega)).trans x25; clear ho5 hg5)
              | (at_builtin; refine wpList_append_nat rfl (.tmp 82) (.tmp 84) rfl w2.heap.size _ _ rfl (H5.out.alloc _) w5.heap.size j rfl (heap_alloc_new w5 _) (by rw [List.length_append, HNL.out]; simp; omega) (by simp; omega) ?_; intro v6 w6 ho6 hg6; have HB6 := hide ((HB5.out.alloc hs5 _).grown hg6 (by simp; omega) (fun k hk => (H5.out.lt k hk).1)); have H6 := hide ho6; have u1 := (HB6.out.cell (p := ⟨g, id * 28 + 25, none⟩) (by show g < w2.heap.size; omega)).trans x25; have u2 := (HB6.out.cell (p := ⟨g, id * 28 + 26, none⟩) (by show g < w2.heap.size; omega)).trans x26; clear ho6 hg6))
            go_roundg gk
            case measure => omega
            case rel =>
              refine ⟨k + 1, by go_num, by omega, ?_, HB6.out⟩
              have e9 : rsL (st.order.take (k + 1)) id j false = rsL (st.order.take k) id j false ++ [id] ++ [j] := by
                rw [HN.out]
                simp [hji]
              rw [e9]
              exact H6.out
          | true =>
            go_wp2_with (first
              | (at_builtin; refine wpList_append_nat rfl (.tmp 82) (.tmp 84) rfl w2.heap.size _ _ rfl (HO.out.1.alloc _) wr.heap.size j rfl (heap_alloc_new wr _) (by rw [HNL.out]; omega) (by simp; omega) ?_; intro v5 w5 ho5 hg5; have HB5 := hide ((HO.out.2.1.alloc hsz _).grown hg5 (by simp; omega) (fun k hk => (HO.out.1.lt k hk).1)); have H5 := hide ho5; have hs5 : w2.heap.size ≤ w5.heap.size := HB5.out.size; have t1 := (HB5.out.cell (p := ⟨g, id * 28 + 25, none⟩) (by show g < w2.heap.size; omega)).trans x25; have t2 := (HB5.out.cell (p := ⟨g, id * 28 + 26, none⟩) (by show g < w2.heap.size; omega)).trans x26; clear ho5 hg5)
              | (at_builtin; refine wpList_append_nat rfl (.tmp 98) (.tmp 100) rfl w2.heap.size _ _ rfl (H5.out.alloc _) w5.heap.size id rfl (heap_alloc_new w5 _) (by rw [List.length_append, HNL.out]; simp; omega) (by simp; omega) ?_; intro v6 w6 ho6 hg6; have HB6 := hide ((HB5.out.alloc hs5 _).grown hg6 (by simp; omega) (fun k hk => (H5.out.lt k hk).1)); have H6 := hide ho6; clear ho6 hg6))
            go_roundg gk
            case measure => omega
            case rel =>
              refine ⟨k + 1, by go_num, by omega, ?_, HB6.out⟩
              have e9 : rsL (st.order.take (k + 1)) id j true = rsL (st.order.take k) id j true ++ [j] ++ [id] := by
                rw [HN.out]
                simp [hji]
              rw [e9]
              exact H6.out
        · have hjsI : ¬ (j : Int) = (sb : Int) := by omega
          go_wp2_with (at_builtin; refine wpList_append_nat rfl (.tmp 82) (.tmp 84) rfl w2.heap.size _ _ rfl (HO.out.1.alloc _) wr.heap.size j rfl (heap_alloc_new wr _) (by rw [HNL.out]; omega) (by simp; omega) ?_; intro v5 w5 ho5 hg5; have HB5 := hide ((HO.out.2.1.alloc hsz _).grown hg5 (by simp; omega) (fun k hk => (HO.out.1.lt k hk).1)); have H5 := hide ho5; have t1 := (HB5.out.cell (p := ⟨g, id * 28 + 25, none⟩) (by show g < w2.heap.size; omega)).trans x25; clear ho5 hg5)
          go_roundg gk
          case measure => omega
          case rel =>
            refine ⟨k + 1, by go_num, by omega, ?_, HB5.out⟩
            have e9 : rsL (st.order.take (k + 1)) id sb ab = rsL (st.order.take k) id sb ab ++ [j] := by
              rw [HN.out]
              simp [hji, hjs]
            rw [e9]
            exact H5.out

end Go.Proofs.YtofinpocigbbeaaGreat
