import Derived.Test.YtofinpocigbbeaaGreatKbb
import Derived.Test.YtofinpocigbbeaaGreatKay
import Derived.Test.YtofinpocigbbeaaGreatKal
import Derived.Deep.RegionLaw
import Derived.Deep.AppendLies
namespace Go.Proofs.YtofinpocigbbeaaGreat
open Go.RowKit
attribute [local go_sem ↓] Go.wp_at_zero Go.wp_at_succ

theorem seenP_nat (st : St) (i : Nat) : st.seenP (i : Int) = st.seen i := by
  unfold St.seenP St.seen St.buf mv
  rw [lookP_nat]
  simp only [Int.zero_add]
  rw [Int.add_comm (st.px i), Int.add_comm (st.py i)]

theorem viewC_nat (st : St) (i : Nat) : viewC st (i : Int) = (vCells st i).toArray := by
  unfold viewC vCells
  rw [seenP_nat, lookP_nat]

theorem seenP_top {st : St} (hw : Wf st) : has4 (st.seenP (-1)) = false := by
  unfold St.seenP
  rw [chain_neg st (by omega), px_neg st (by omega), py_neg st (by omega)]
  have h1 := hw.ww
  have h2 := hw.hh
  unfold meet has4 lookP St.openL
  simp
  omega

/-- What is seen of a surface itself. -/
def St.visP (st : St) (p : Int) : List Nat := if p = -1 then [] else st.vis [p.toNat]

/-- What is seen of a surface and of all that is on it. -/
def St.visAll (st : St) (p : Int) : List Nat := st.visP p ++ st.vis (st.dfs p)

def St.kidsTo (st : St) (p : Int) (k : Nat) : List Nat := ((st.kids p).take k).flatMap fun (j : Nat) => st.visAll j

theorem vis_append (st : St) (a b : List Nat) : st.vis (a ++ b) = st.vis a ++ st.vis b := by unfold St.vis; rw [List.filter_append]

theorem visAll_nat (st : St) (i : Nat) : st.visAll i = st.vis (i :: st.dfs i) := by
  unfold St.visAll St.visP
  rw [if_neg (nat_ne_top i), Int.toNat_natCast, ← vis_append]
  rfl

theorem kidsTo_all {st : St} (hw : Wf st) {p : Int} (hp : -1 ≤ p) (k : Nat) (hk : (st.kids p).length ≤ k) : st.visP p ++ st.kidsTo p k = st.visAll p := by
  unfold St.kidsTo St.visAll
  rw [List.take_of_length_le hk, dfs_step hw p hp]
  congr 1
  unfold St.vis
  rw [List.filter_flatMap]
  congr 1
  funext j
  exact visAll_nat st j

theorem kidsTo_succ (st : St) (p : Int) (k : Nat) (h : k < (st.kids p).length) : st.kidsTo p (k + 1) = st.kidsTo p k ++ st.visAll ((st.kids p)[k] : Nat) := by
  unfold St.kidsTo
  rw [List.take_succ_eq_append_getElem h, List.flatMap_append]
  simp

theorem kidsTo_le {st : St} (hw : Wf st) {p : Int} (hp : -1 ≤ p) (k : Nat) : (st.visP p).length + (st.kidsTo p k).length ≤ (st.visAll p).length := by
  rw [← kidsTo_all hw hp _ (Nat.le_refl _), List.length_append]
  unfold St.kidsTo
  have e : (st.kids p).take (st.kids p).length = (st.kids p).take k ++ (st.kids p).drop k := by rw [List.take_length, List.take_append_drop]
  rw [e, List.flatMap_append, List.length_append]
  omega

theorem live_ge {st : St} {p : Int} (h : Live st p) : -1 ≤ p := by
  rcases h with rfl | ⟨i, rfl, _⟩ <;> omega

theorem visP_nat (st : St) (i : Nat) : st.visP (i : Int) = if has4 (st.seen i) = true then [i] else [] := by
  unfold St.visP
  rw [if_neg (nat_ne_top i), Int.toNat_natCast]
  unfold St.vis
  rw [List.filter_cons]
  rfl

theorem vis_len {st : St} (L : List Nat) : (st.vis L).length ≤ L.length := List.length_filter_le _ _

/-- A layer's cells: the view, the pixels, the kept hint. -/
def layC (st : St) (G : Int → Nat → Value) (i : Nat) : List Value := [.int .i64 (i : Int), .int .i64 (st.px i), .int .i64 (st.py i), .int .i64 (st.sf i).now.w, .int .i64 (st.sf i).now.h, .int .i64 (st.seen i).1, .int .i64 (st.seen i).2.1, .int .i64 (st.seen i).2.2.1, .int .i64 (st.seen i).2.2.2, .int .i64 (st.sf i).now.w, .int .i64 (st.sf i).now.h, G i 5, .int .i64 (st.sf i).now.w, .int .i64 (st.sf i).now.h, G i 30]

def OwnL (w : World) (base : Nat) (v : Value) (st : St) (G : Int → Nat → Value) (L : List Nat) : Prop := w.ownsRow base 158 15 v L.length (L.flatMap (layC st G))

theorem layerInfo : (Tryz.prog.info? 158).map (fun i => (i.zero, i.size, i.bytes)) = some (some (.agg #[.int .i64 0, .int .i64 0, .int .i64 0, .int .i64 0, .int .i64 0, .int .i64 0, .int .i64 0, .int .i64 0, .int .i64 0, .int .i64 0, .int .i64 0, .slice none 0 0, .int .i64 0, .int .i64 0, .slice none 0 0]), 15, 152) := by kernel_rfl

set_option maxRecDepth 100000 in
set_option maxHeartbeats 1000000 in
/-- (*Surface).layers -/
theorem layers_of {w : World} {S : Nat → Prop} {x : Nat} {st : St} (hw : Wf st) {bv : Value} {sc mp : Nat} {blk : Int → Nat} {G : Int → Nat → Value} (h : PRaw w S x st bv sc mp blk G)
    (hview : ∀ p, Live st p → ∀ W : World, Below w.heap.size w W → Calls Tryz.prog 118 #[.pointer (some ⟨blk p, 0, none⟩)] W fun e w' => e = .returned (.agg (viewC st p)) ∧ Below W.heap.size W w') :
    ∀ (n : Nat) (p : Int), Live st p → st.need p ≤ n → ∀ (E : List Nat) (v : Value) (W : World), E.length + (st.visAll p).length ≤ 1000 → Below w.heap.size w W → OwnL W w.heap.size v st G E →
    Calls Tryz.prog 80 #[.pointer (some ⟨blk p, 0, none⟩), v] W fun e w' => ∃ v', e = .returned v' ∧ OwnL w' w.heap.size v' st G (E ++ st.visAll p) ∧ Below w.heap.size w w' := by
  intro n
  induction n with
  | zero => intro p _ hn; unfold St.need at hn; omega
  | succ n ih =>
    intro p hp hn E v W hE hW hv
    obtain ⟨i0, hi0, hz0, hz1, hz2⟩ := info_parts layerInfo
    have hp1 := live_ge hp
    have HV := hide (hview p hp W hW)
    have HHas := hide (hasPoints_any (st.seenP p))
    obtain ⟨kc, kf, kl⟩ := h.at hp
    obtain ⟨⟨oa, oc, ho, hocs⟩, _⟩ := h.ptrs hp
    have hko : w.cell? ⟨blk p, 2, none⟩ = some (.slice oa (st.kids p).length oc) := by rw [kc 2 (by omega), ho]
    obtain ⟨va, vc, hvf⟩ := row_form hv
    subst hvf
    have hk12 := kids_len hw p
    -- the layer is laid at hand, and appended
    have HApp : Hid (∀ (w1 : World), Below W.heap.size W w1 → has4 (st.seenP p) = true → ∃ (i : Nat) (pa : Option Addr) (pm pk : Nat) (ka : Option Addr) (km kk : Nat), st.visP p = [i] ∧ layC st G i = [.int .i64 p, .int .i64 (st.px p), .int .i64 (st.py p), .int .i64 (lookP st p).w, .int .i64 (lookP st p).h, .int .i64 (st.seenP p).1, .int .i64 (st.seenP p).2.1, .int .i64 (st.seenP p).2.2.1, .int .i64 (st.seenP p).2.2.2, .int .i64 (lookP st p).w, .int .i64 (lookP st p).h, .slice pa pm pk, .int .i64 (lookP st p).w, .int .i64 (lookP st p).h, .slice ka km kk] ∧
        (w1.cell? ⟨blk p, 3, none⟩ = some (.int .i64 (lookP st p).w) ∧ w1.cell? ⟨blk p, 4, none⟩ = some (.int .i64 (lookP st p).h) ∧ w1.cell? ⟨blk p, 5, none⟩ = some (.slice pa pm pk) ∧ w1.cell? ⟨blk p, 28, none⟩ = some (.int .i64 (lookP st p).w) ∧ w1.cell? ⟨blk p, 29, none⟩ = some (.int .i64 (lookP st p).h) ∧ w1.cell? ⟨blk p, 30, none⟩ = some (.slice ka km kk) ∧ blk p < w1.heap.size) ∧
        (∀ wx : World, Below w1.heap.size w1 wx → wx.ownsRow w.heap.size 158 15 (.slice va E.length vc) E.length (E.flatMap (layC st G)) ∧ w.heap.size ≤ wx.heap.size)) := fun w1 hb1 hseen => by
      rcases hp with rfl | ⟨i, rfl, hi⟩
      · rw [seenP_top hw] at hseen
        cases hseen
      · have q := (h.cells i (live_nat hi)).nat
        have d := h.data i hi
        obtain ⟨pa, pm, pk, hpix⟩ := q.now.pix
        obtain ⟨kw, kh, ka, km, kk, _, _, hkep⟩ := q.kep
        have hc : ∀ o, o < 31 → w1.cell? ⟨blk i, o, none⟩ = some (G i o) := fun o ho => (hb1.cell (p := ⟨blk i, o, none⟩) (Nat.lt_of_lt_of_le kl hW.size)).trans ((hW.cell (p := ⟨blk i, o, none⟩) kl).trans (kc o ho))
        have hpix2 : G i 5 = .slice pa pm pk := hpix
        refine ⟨i, pa, pm, pk, ka, km, kk, ?_, ?_, ⟨?_, ?_, ?_, ?_, ?_, ?_, Nat.lt_of_lt_of_le kl (Nat.le_trans hW.size hb1.size)⟩, fun wx hx => ⟨own_keep hv fun g hg => (hx.block g (Nat.lt_of_lt_of_le (hv.lt g hg).2 hb1.size)).trans (hb1.block g (hv.lt g hg).2), Nat.le_trans hW.size (Nat.le_trans hb1.size hx.size)⟩⟩
        · rw [visP_nat, ← seenP_nat, if_pos hseen]
        · unfold layC
          rw [hpix2, hkep, lookP_nat, seenP_nat]
        · rw [hc 3 (by omega), show G i 3 = _ from q.now.w, lookP_nat]
        · rw [hc 4 (by omega), show G i 4 = _ from q.now.h, lookP_nat]
        · rw [hc 5 (by omega), hpix2]
        · rw [hc 28 (by omega), d.kw, lookP_nat]
        · rw [hc 29 (by omega), d.kh, lookP_nat]
        · rw [hc 30 (by omega), hkep]
    have HNo : Hid (has4 (st.seenP p) = false → st.visP p = []) := fun hseen => by
      rcases hp with rfl | ⟨i, rfl, hi⟩
      · rfl
      · rw [visP_nat, ← seenP_nat, if_neg (by rw [hseen]; simp)]
    have HVr := hide hv
    have HVP : Hid ((st.visP p).length ≤ 1) := by
      unfold Hid St.visP
      split
      · simp
      · exact vis_len _
    -- the surfaces on it
    have HKid : Hid (∀ (k : Nat) (wx : World) (v' : Value), k < (st.kids p).length → Below w.heap.size w wx → OwnL wx w.heap.size v' st G (E ++ st.visP p ++ st.kidsTo p k) → ∃ (g j : Nat), oa = some ⟨g, 0, none⟩ ∧ wx.cell? ⟨g, k, none⟩ = some (.pointer (some ⟨blk j, 0, none⟩)) ∧ Calls Tryz.prog 80 #[.pointer (some ⟨blk j, 0, none⟩), v'] wx fun e w' => ∃ v'', e = .returned v'' ∧ OwnL w' w.heap.size v'' st G (E ++ st.visP p ++ st.kidsTo p (k + 1)) ∧ Below w.heap.size w w') := fun k wx v' hk hwx hv' => by
      obtain ⟨g, g1, g2, g3⟩ := hocs k hk
      obtain ⟨q1, q2⟩ := kids_mem.1 (List.getElem_mem hk)
      refine ⟨g, (st.kids p)[k], g1, (hwx.cell (p := ⟨g, k, none⟩) g2).trans g3, ?_⟩
      have hlen : (E ++ st.visP p ++ st.kidsTo p k).length + (st.visAll ((st.kids p)[k] : Nat)).length ≤ 1000 := by
        have h1 := kidsTo_le hw hp1 (k + 1)
        rw [kidsTo_succ st p k hk, List.length_append] at h1
        rw [List.length_append, List.length_append]
        omega
      refine (ih ((st.kids p)[k] : Nat) (live_kid (List.getElem_mem hk)) (by have := need_kid hw hp1 q1 q2; omega) _ v' wx hlen hwx hv').mono ?_
      rintro e w' ⟨v'', rfl, r1, r2⟩
      refine ⟨v'', rfl, ?_, r2⟩
      rw [kidsTo_succ st p k hk, ← List.append_assoc]
      exact r1
    have HEnd : Hid (∀ (wx : World) (v' : Value), OwnL wx w.heap.size v' st G (E ++ st.visP p ++ st.kidsTo p (st.kids p).length) → OwnL wx w.heap.size v' st G (E ++ st.visAll p)) := fun wx v' hv' => by
      rw [List.append_assoc, kidsTo_all hw hp1 _ (Nat.le_refl _)] at hv'
      exact hv'
    have HOn : Hid (∀ wx : World, Below w.heap.size w wx → wx.cell? ⟨blk p, 2, none⟩ = some (.slice oa (st.kids p).length oc)) := fun wx hx => (hx.cell (p := ⟨blk p, 2, none⟩) kl).trans hko
    obtain ⟨m, hm⟩ : ∃ m, (st.kids p).length = m := ⟨_, rfl⟩
    rw [hm] at HKid HEnd HOn hk12
    obtain ⟨pb, hpb⟩ : ∃ pb, blk p = pb := ⟨_, rfl⟩
    rw [hpb] at HV HOn HApp ⊢
    have HWw := hide hW
    unfold viewC at HV
    unfold r4C at HHas
    obtain ⟨R, hR⟩ : ∃ R, st.seenP p = R := ⟨_, rfl⟩
    obtain ⟨a1, ha1⟩ : ∃ a, st.px p = a := ⟨_, rfl⟩
    obtain ⟨a2, ha2⟩ : ∃ a, st.py p = a := ⟨_, rfl⟩
    obtain ⟨a3, ha3⟩ : ∃ a, (lookP st p).w = a := ⟨_, rfl⟩
    obtain ⟨a4, ha4⟩ : ∃ a, (lookP st p).h = a := ⟨_, rfl⟩
    rw [hR, ha1, ha2, ha3, ha4] at HV HApp
    rw [hR] at HHas HNo
    obtain ⟨en, hen⟩ : ∃ en, E.length = en := ⟨_, rfl⟩
    have hE2 : en ≤ 1000 := by omega
    rw [hen] at HApp
    have hvl : (Value.slice va E.length vc) = .slice va en vc := by rw [hen]
    rw [hvl]
    clear ih h hview kc kf ho hocs hko hv hm hpb hW hR ha1 ha2 ha3 ha4 hw hp hn hp1 hE hvl
    go_enter Tryz.func80, Tryz.ntmps80
    obtain ⟨t, ht⟩ : ∃ t, has4 R = t := ⟨_, rfl⟩
    rw [ht] at HHas HNo HApp
    go_upto_if 12 with (first
      | (go_at_call 118; refine HV.out.mono ?_; rintro e w1 ⟨rfl, hb1⟩; have HB1 := hide hb1; clear hb1)
      | (go_at_call 119; refine (HHas.out _).mono ?_; rintro e w2 ⟨rfl, o1, rfl⟩))
    have hbb : Below W.heap.size W ((w1.alloc (.cells #[.int .i64 p, .int .i64 a1, .int .i64 a2, .int .i64 a3, .int .i64 a4, .int .i64 R.1, .int .i64 R.2.1, .int .i64 R.2.2.1, .int .i64 R.2.2.2] 59)).alloc o1) := (HB1.out.alloc HB1.out.size _).alloc (by have := HB1.out.size; simp; omega) _
    have HBB := hide hbb
    clear hbb
    go_cut [1] (fun s1 wx => ∃ v', s1 = v' ∧ Hid (OwnL wx w.heap.size v' st G (E ++ st.visP p) ∧ Below w.heap.size w wx))
    case first =>
      cases t with
      | true =>
        obtain ⟨i, pa, pm, pk, ka, km, kk, hvi, hci, ⟨e3, e4, e5, e28, e29, e30, hpl⟩, hrow⟩ := HApp.out _ HBB.out rfl
        have HA2 := hide (And.intro hvi hci)
        have HRow := hide hrow
        have hvb : ((w1.alloc (.cells #[.int .i64 p, .int .i64 a1, .int .i64 a2, .int .i64 a3, .int .i64 a4, .int .i64 R.1, .int .i64 R.2.1, .int .i64 R.2.2.1, .int .i64 R.2.2.2] 59)).alloc o1).heap[w1.heap.size]? = some (.cells #[.int .i64 p, .int .i64 a1, .int .i64 a2, .int .i64 a3, .int .i64 a4, .int .i64 R.1, .int .i64 R.2.1, .int .i64 R.2.2.1, .int .i64 R.2.2.2] 59 (0, 0)) := (heap_old _ _ _ (by simp)).trans (heap_alloc_new w1 _)
        clear hvi hci hrow HApp HNo
        generalize hVV : (w1.alloc (.cells #[.int .i64 p, .int .i64 a1, .int .i64 a2, .int .i64 a3, .int .i64 a4, .int .i64 R.1, .int .i64 R.2.1, .int .i64 R.2.2.1, .int .i64 R.2.2.2] 59)).alloc o1 = V at *
        clear hVV
        have v0 := cell_of_row _ _ 0 _ _ _ hvb
        have v1 := cell_of_row _ _ 1 _ _ _ hvb
        have v2 := cell_of_row _ _ 2 _ _ _ hvb
        have v3 := cell_of_row _ _ 3 _ _ _ hvb
        have v4 := cell_of_row _ _ 4 _ _ _ hvb
        have v5 := cell_of_row _ _ 5 _ _ _ hvb
        have v6 := cell_of_row _ _ 6 _ _ _ hvb
        have v7 := cell_of_row _ _ 7 _ _ _ hvb
        have v8 := cell_of_row _ _ 8 _ _ _ hvb
        simp only [List.getElem?_toArray, List.getElem?_cons_zero, List.getElem?_cons_succ] at v0 v1 v2 v3 v4 v5 v6 v7 v8
        have hvl := block_lt hvb
        clear hvb
        have HFin : Hid (∀ (ga cp : Nat) (w6 : World), w6.ownsRow w.heap.size 158 15 (.slice (some ⟨ga, 0, none⟩) (en + 1) cp) (en + 1) (E.flatMap (layC st G) ++ [.int .i64 p, .int .i64 a1, .int .i64 a2, .int .i64 a3, .int .i64 a4, .int .i64 R.1, .int .i64 R.2.1, .int .i64 R.2.2.1, .int .i64 R.2.2.2, .int .i64 a3, .int .i64 a4, .slice pa pm pk, .int .i64 a3, .int .i64 a4, .slice ka km kk]) → (V.drew.alloc (.cells #[.int .i64 p, .int .i64 a1, .int .i64 a2, .int .i64 a3, .int .i64 a4, .int .i64 R.1, .int .i64 R.2.1, .int .i64 R.2.2.1, .int .i64 R.2.2.2, .int .i64 a3, .int .i64 a4, .slice pa pm pk, .int .i64 a3, .int .i64 a4, .slice ka km kk] 158)).grownBy w6 (Value.slice va en vc).ownBlock → OwnL w6 w.heap.size (.slice (some ⟨ga, 0, none⟩) (en + 1) cp) st G (E ++ st.visP p) ∧ Below w.heap.size w w6) := fun ga cp w6 h1 h2 => by
          refine ⟨?_, ?_⟩
          · rw [HA2.out.1]
            unfold OwnL
            rw [List.length_append, hen, List.flatMap_append, List.flatMap_singleton, HA2.out.2]
            exact h1
          · exact (((HWw.out.trans (HBB.out.mono HWw.out.size)).drew.alloc (HRow.out _ (Below.refl _ _)).2 _)).grown h2 (HRow.out _ (((Below.refl V.heap.size V).drew).alloc (Nat.le_refl _) _)).2 fun b hb => ((HRow.out _ (Below.refl _ _)).1.lt b hb).1
        go_wp2_with fail
        go_region_law (refine step_append_lies _ (by rfl) (.tmp 13) (.tmp 25) 93 (by rfl) w.heap.size 158 i0 _ 15 152 Tryz.underlying93 hi0 hz0 hz1 hz2 rfl (by omega) (.slice va en vc) en (E.flatMap (layC st G)) (by rfl) (HRow.out _ (((Below.refl V.heap.size V).drew).alloc (Nat.le_refl _) _)).1 ⟨V.heap.size, 0, none⟩ 1 1 [.int .i64 p, .int .i64 a1, .int .i64 a2, .int .i64 a3, .int .i64 a4, .int .i64 R.1, .int .i64 R.2.1, .int .i64 R.2.2.1, .int .i64 R.2.2.2, .int .i64 a3, .int .i64 a4, .slice pa pm pk, .int .i64 a3, .int .i64 a4, .slice ka km kk] (by rfl) (by rfl) (World.news_of_block (cs := #[.int .i64 p, .int .i64 a1, .int .i64 a2, .int .i64 a3, .int .i64 a4, .int .i64 R.1, .int .i64 R.2.1, .int .i64 R.2.2.1, .int .i64 R.2.2.2, .int .i64 a3, .int .i64 a4, .slice pa pm pk, .int .i64 a3, .int .i64 a4, .slice ka km kk]) (t := 158) (fr := (0, 0)) (heap_alloc_new V.drew _)) (by simp [Value.oneCell']) (by omega) (by unfold maxLen; omega) (by omega) (HRow.out _ (((Below.refl V.heap.size V).drew).alloc (Nat.le_refl _) _)).2 _ rfl ?_; intro ga cp w6 hown6 hgrow _ _; have H6 := hide (And.intro hown6 hgrow); clear hown6 hgrow)
        all_goals try go_wp2_with fail
        all_goals go_meet
        all_goals exact ⟨_, rfl, HFin.out _ _ _ H6.out.1 H6.out.2⟩
      | false =>
        go_wp2_with fail
        go_meet
        refine ⟨_, rfl, ?_, HWw.out.trans (HBB.out.mono HWw.out.size)⟩
        rw [HNo.out trivial, List.append_nil]
        subst hen
        exact own_keep HVr.out fun g hg => HBB.out.block g (HVr.out.lt g hg).2
    case rest =>
      obtain ⟨v', rfl, HO⟩ := hcut
      obtain ⟨va', vc', hvf'⟩ := row_form HO.out.1
      subst hvf'
      have c2 := HOn.out _ HO.out.2
      obtain ⟨n1, hn1⟩ : ∃ n1, (E ++ st.visP p).length = n1 := ⟨_, rfl⟩
      rw [hn1]
      go_wp2_with fail
      go_loopg [1, 32] m (fun gg s1 s32 wr => ∃ k : Nat, s32 = .int .i64 k ∧ gg + k = m ∧ OwnL wr w.heap.size s1 st G (E ++ st.visP p ++ st.kidsTo p k) ∧ Below w.heap.size w wr)
      case atStart =>
        refine ⟨0, rfl, by omega, ?_, HO.out.2⟩
        have e0 : st.kidsTo p 0 = [] := by unfold St.kidsTo; simp
        rw [e0, List.append_nil, ← hn1]
        exact HO.out.1
      case round =>
        rename World => wr
        obtain ⟨k, rfl, hgk, hown, hbel⟩ := hrel
        obtain ⟨va2, vc2, hvf2⟩ := row_form hown
        obtain ⟨nL, hnL⟩ : ∃ nL, (E ++ st.visP p ++ st.kidsTo p k).length = nL := ⟨_, rfl⟩
        rw [hnL] at hvf2
        subst hvf2
        have HO2 := hide (And.intro hown hbel)
        cases gk with
        | zero =>
          have hlt : ¬ (k : Int) < (m : Int) := by omega
          have hkm : k = m := by omega
          clear hown hbel
          go_wp2
          go_ret
          subst hkm
          exact ⟨_, rfl, HEnd.out _ _ HO2.out.1, HO2.out.2⟩
        | succ gk =>
          have hlt : (k : Int) < (m : Int) := by omega
          have hk0 : (0 : Int) ≤ (k : Int) := by omega
          obtain ⟨g, j, hoa, hcl, hcall⟩ := HKid.out k wr _ (by omega) hbel hown
          subst hoa
          have HCa := hide hcall
          clear hown hbel hcall
          go_wp2_with (go_at_call 80; refine HCa.out.mono ?_; rintro e w5 ⟨v5, rfl, r1, r2⟩; have H5 := hide (And.intro r1 r2); clear r1 r2)
          go_roundg gk
          case measure => omega
          case rel => exact ⟨k + 1, by go_num, by omega, H5.out.1, H5.out.2⟩

end Go.Proofs.YtofinpocigbbeaaGreat
