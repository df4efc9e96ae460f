import Derived.Test.YtlaflopimpnjpaaGreatSg14
import Derived.Test.YtlaflopimpnjpaaGreatSg10
import Derived.Test.YtlaflopimpnjpaaGreatSg21
import Derived.Test.YtlaflopimpnjpaaGreatSg20
/-! Pvw -/
namespace Go.Proofs.YtlaflopimpnjpaaGreat
open Go.RowKit
attribute [local go_sem ↓] Go.wp_at_zero Go.wp_at_succ

theorem seenP_nat (st : St) (i : Nat) : st.seenP (i : Int) = st.seen i := by
  unfold St.seenP St.seen St.buf mv
  rw [lookP_nat]
  simp only [Int.zero_add]
  rw [Int.add_comm (st.px i), Int.add_comm (st.py i)]

theorem viewC_nat (st : St) (i : Nat) : viewC st (i : Int) = (vCells st i).toArray := by
  unfold viewC vCells
  rw [seenP_nat, lookP_nat]

theorem seenP_top {st : St} (hw : Wf st) : has4 (st.seenP (-1)) = false := by
  unfold St.seenP
  rw [chain_neg st (by omega), px_neg st (by omega), py_neg st (by omega)]
  have h1 := hw.ww
  have h2 := hw.hh
  unfold meet has4 lookP St.openL
  simp
  omega

/-- What is seen of a surface itself. -/
def St.visP (st : St) (p : Int) : List Nat := if p = -1 then [] else st.vis [p.toNat]

/-- What is seen of a surface and of all that is on it. -/
def St.visAll (st : St) (p : Int) : List Nat := st.visP p ++ st.vis (st.dfs p)

def St.kidsTo (st : St) (p : Int) (k : Nat) : List Nat := ((st.kids p).take k).flatMap fun (j : Nat) => st.visAll j

theorem vis_append (st : St) (a b : List Nat) : st.vis (a ++ b) = st.vis a ++ st.vis b := by unfold St.vis; rw [List.filter_append]

theorem visAll_nat (st : St) (i : Nat) : st.visAll i = st.vis (i :: st.dfs i) := by
  unfold St.visAll St.visP
  rw [if_neg (nat_ne_top i), Int.toNat_natCast, ← vis_append]
  rfl

theorem kidsTo_all {st : St} (hw : Wf st) {p : Int} (hp : -1 ≤ p) (k : Nat) (hk : (st.kids p).length ≤ k) : st.visP p ++ st.kidsTo p k = st.visAll p := by
  unfold St.kidsTo St.visAll
  rw [List.take_of_length_le hk, dfs_step hw p hp]
  congr 1
  unfold St.vis
  rw [List.filter_flatMap]
  congr 1
  funext j
  exact visAll_nat st j

theorem kidsTo_succ (st : St) (p : Int) (k : Nat) (h : k < (st.kids p).length) : st.kidsTo p (k + 1) = st.kidsTo p k ++ st.visAll ((st.kids p)[k] : Nat) := by
  unfold St.kidsTo
  rw [List.take_succ_eq_append_getElem h, List.flatMap_append]
  simp

theorem kidsTo_le {st : St} (hw : Wf st) {p : Int} (hp : -1 ≤ p) (k : Nat) : (st.visP p).length + (st.kidsTo p k).length ≤ (st.visAll p).length := by
  rw [← kidsTo_all hw hp _ (Nat.le_refl _), List.length_append]
  unfold St.kidsTo
  have e : (st.kids p).take (st.kids p).length = (st.kids p).take k ++ (st.kids p).drop k := by rw [List.take_length, List.take_append_drop]
  rw [e, List.flatMap_append, List.length_append]
  omega

theorem live_ge {st : St} {p : Int} (h : Live st p) : -1 ≤ p := by
  rcases h with rfl | ⟨i, rfl, _⟩ <;> omega

theorem visP_nat (st : St) (i : Nat) : st.visP (i : Int) = if has4 (st.seen i) = true then [i] else [] := by
  unfold St.visP
  rw [if_neg (nat_ne_top i), Int.toNat_natCast]
  unfold St.vis
  rw [List.filter_cons]
  rfl

theorem vis_len {st : St} (L : List Nat) : (st.vis L).length ≤ L.length := List.length_filter_le _ _

theorem third_news (u : World) (o1 o2 : Obj) (cs : Array Value) : ∀ j q, cs.toList[j]? = some q → (((u.alloc o1).alloc o2).alloc (.cells cs 63)).cell? ((⟨u.heap.size + 1 + 1, 0, none⟩ : Addr).add j) = some q := by
  intro j q hj
  have h : (((u.alloc o1).alloc o2).alloc (.cells cs 63)).heap[u.heap.size + 1 + 1]? = some (.cells cs 63 (0, 0)) := by
    have := heap_alloc_new ((u.alloc o1).alloc o2) (.cells cs 63)
    simpa using this
  rw [addr_off, cell_of_row _ _ _ _ _ _ h, Nat.zero_add]
  simpa using hj

set_option maxRecDepth 100000 in
set_option maxHeartbeats 1000000 in
/-- (*Surface).views -/
theorem views_of {w : World} {S : Nat → Prop} {x : Nat} {st : St} (hw : Wf st) {bv : Value} {sc mp : Nat} {blk : Int → Nat} {G : Int → Nat → Value} (h : PRaw w S x st bv sc mp blk G)
    (hview : ∀ p, Live st p → ∀ W : World, Below w.heap.size w W → Calls Tryz.prog 126 #[.pointer (some ⟨blk p, 0, none⟩)] W fun e w' => e = .returned (.agg (viewC st p)) ∧ Below W.heap.size W w') :
    ∀ (n : Nat) (p : Int), Live st p → st.need p ≤ n → ∀ (E : List Nat) (v : Value) (W : World), E.length + (st.visAll p).length ≤ 1000 → Below w.heap.size w W → OwnV W w.heap.size v st E →
    Calls Tryz.prog 107 #[.pointer (some ⟨blk p, 0, none⟩), v] W fun e w' => ∃ v', e = .returned v' ∧ OwnV w' w.heap.size v' st (E ++ st.visAll p) ∧ Below w.heap.size w w' := by
  intro n
  induction n with
  | zero => intro p _ hn; unfold St.need at hn; omega
  | succ n ih =>
    intro p hp hn E v W hE hW hv
    obtain ⟨i0, hi0, hz0, hz1, hz2⟩ := info_parts viewInfo
    have hp1 := live_ge hp
    have HV := hide (hview p hp W hW)
    have HHas := hide (hasPoints_any (st.seenP p))
    obtain ⟨kc, kf, kl⟩ := h.at hp
    obtain ⟨⟨oa, oc, ho, hocs⟩, _⟩ := h.ptrs hp
    have hko : w.cell? ⟨blk p, 2, none⟩ = some (.slice oa (st.kids p).length oc) := by rw [kc 2 (by omega), ho]
    obtain ⟨va, vc, hvf⟩ := row_form hv
    subst hvf
    have hk12 := kids_len hw p
    -- the view is laid at hand, and appended
    have HApp : Hid (∀ (w1 : World), Below W.heap.size W w1 → has4 (st.seenP p) = true → ∃ i : Nat, p = i ∧ st.visP p = [i] ∧ viewC st p = (vCells st i).toArray ∧ w1.ownsRow w.heap.size 63 9 (.slice va E.length vc) E.length (E.flatMap (vCells st)) ∧ w.heap.size ≤ w1.heap.size) := fun w1 hb1 hseen => by
      rcases hp with rfl | ⟨i, rfl, hi⟩
      · rw [seenP_top hw] at hseen
        cases hseen
      · refine ⟨i, rfl, ?_, viewC_nat st i, own_keep hv fun g hg => hb1.block g (hv.lt g hg).2, Nat.le_trans hW.size hb1.size⟩
        rw [visP_nat, ← seenP_nat, if_pos hseen]
    have HNo : Hid (has4 (st.seenP p) = false → st.visP p = []) := fun hseen => by
      rcases hp with rfl | ⟨i, rfl, hi⟩
      · rfl
      · rw [visP_nat, ← seenP_nat, if_neg (by rw [hseen]; simp)]
    have HVr := hide hv
    have HVP : Hid ((st.visP p).length ≤ 1) := by
      unfold Hid St.visP
      split
      · simp
      · exact vis_len _
    -- the surfaces on it
    have HKid : Hid (∀ (k : Nat) (wx : World) (v' : Value), k < (st.kids p).length → Below w.heap.size w wx → OwnV wx w.heap.size v' st (E ++ st.visP p ++ st.kidsTo p k) → ∃ (g j : Nat), oa = some ⟨g, 0, none⟩ ∧ wx.cell? ⟨g, k, none⟩ = some (.pointer (some ⟨blk j, 0, none⟩)) ∧ Calls Tryz.prog 107 #[.pointer (some ⟨blk j, 0, none⟩), v'] wx fun e w' => ∃ v'', e = .returned v'' ∧ OwnV w' w.heap.size v'' st (E ++ st.visP p ++ st.kidsTo p (k + 1)) ∧ Below w.heap.size w w') := fun k wx v' hk hwx hv' => by
      obtain ⟨g, g1, g2, g3⟩ := hocs k hk
      obtain ⟨q1, q2⟩ := kids_mem.1 (List.getElem_mem hk)
      refine ⟨g, (st.kids p)[k], g1, (hwx.cell (p := ⟨g, k, none⟩) g2).trans g3, ?_⟩
      have hlen : (E ++ st.visP p ++ st.kidsTo p k).length + (st.visAll ((st.kids p)[k] : Nat)).length ≤ 1000 := by
        have h1 := kidsTo_le hw hp1 (k + 1)
        rw [kidsTo_succ st p k hk, List.length_append] at h1
        rw [List.length_append, List.length_append]
        omega
      refine (ih ((st.kids p)[k] : Nat) (live_kid (List.getElem_mem hk)) (by have := need_kid hw hp1 q1 q2; omega) _ v' wx hlen hwx hv').mono ?_
      rintro e w' ⟨v'', rfl, r1, r2⟩
      refine ⟨v'', rfl, ?_, r2⟩
      rw [kidsTo_succ st p k hk, ← List.append_assoc]
      exact r1
    have HEnd : Hid (∀ (wx : World) (v' : Value), OwnV wx w.heap.size v' st (E ++ st.visP p ++ st.kidsTo p (st.kids p).length) → OwnV wx w.heap.size v' st (E ++ st.visAll p)) := fun wx v' hv' => by
      rw [List.append_assoc, kidsTo_all hw hp1 _ (Nat.le_refl _)] at hv'
      exact hv'
    have HOn : Hid (∀ wx : World, Below w.heap.size w wx → wx.cell? ⟨blk p, 2, none⟩ = some (.slice oa (st.kids p).length oc)) := fun wx hx => (hx.cell (p := ⟨blk p, 2, none⟩) kl).trans hko
    obtain ⟨m, hm⟩ : ∃ m, (st.kids p).length = m := ⟨_, rfl⟩
    rw [hm] at HKid HEnd HOn hk12
    obtain ⟨pb, hpb⟩ : ∃ pb, blk p = pb := ⟨_, rfl⟩
    rw [hpb] at HV HOn ⊢
    have HWw := hide hW
    unfold viewC at HV HApp
    unfold r4C at HHas
    obtain ⟨R, hR⟩ : ∃ R, st.seenP p = R := ⟨_, rfl⟩
    obtain ⟨a1, ha1⟩ : ∃ a, st.px p = a := ⟨_, rfl⟩
    obtain ⟨a2, ha2⟩ : ∃ a, st.py p = a := ⟨_, rfl⟩
    obtain ⟨a3, ha3⟩ : ∃ a, (lookP st p).w = a := ⟨_, rfl⟩
    obtain ⟨a4, ha4⟩ : ∃ a, (lookP st p).h = a := ⟨_, rfl⟩
    rw [hR, ha1, ha2, ha3, ha4] at HV HApp
    rw [hR] at HHas HNo
    obtain ⟨en, hen⟩ : ∃ en, E.length = en := ⟨_, rfl⟩
    have hE2 : en ≤ 1000 := by omega
    rw [hen] at HApp
    have hvl : (Value.slice va E.length vc) = .slice va en vc := by rw [hen]
    rw [hvl]
    clear ih h hview kc kf ho hocs hko hv hm hpb hW hR ha1 ha2 ha3 ha4 hw hp hn hp1 hE hvl
    go_enter Tryz.func107, Tryz.ntmps107
    obtain ⟨t, ht⟩ : ∃ t, has4 R = t := ⟨_, rfl⟩
    rw [ht] at HHas HNo HApp
    go_upto_if 12 with (first
      | (go_at_call 126; refine HV.out.mono ?_; rintro e w1 ⟨rfl, hb1⟩; have HB1 := hide hb1; clear hb1)
      | (go_at_call 122; refine (HHas.out _).mono ?_; rintro e w2 ⟨rfl, o1, rfl⟩))
    have hbb : Below W.heap.size W ((w1.alloc (.cells #[.int .i64 p, .int .i64 a1, .int .i64 a2, .int .i64 a3, .int .i64 a4, .int .i64 R.1, .int .i64 R.2.1, .int .i64 R.2.2.1, .int .i64 R.2.2.2] 63)).alloc o1) := (HB1.out.alloc HB1.out.size _).alloc (by have := HB1.out.size; simp; omega) _
    have HBB := hide hbb
    clear hbb
    go_cut [1] (fun s1 wx => ∃ v', s1 = v' ∧ Hid (OwnV wx w.heap.size v' st (E ++ st.visP p) ∧ Below w.heap.size w wx))
    case first =>
      cases t with
      | true =>
        obtain ⟨i, hpi, hvi, hci, hrow, hsz⟩ := HApp.out _ HBB.out rfl
        have HA2 := hide (And.intro hvi (And.intro hci (And.intro hrow hsz)))
        clear hvi hci hrow hsz hpi
        go_wp2_with (at_builtin; refine wpList_append_row (P := Tryz.prog) rfl (.tmp 13) (.tmp 15) 61 rfl w.heap.size 63 i0 _ 9 72 Tryz.underlying61 hi0 hz0 hz1 hz2 rfl (by decide) (.slice va en vc) en (E.flatMap (vCells st)) rfl (HA2.out.2.2.1.alloc _) (.slice (some ⟨w1.heap.size + 1 + 1, 0, none⟩) 1 1) 1 [.int .i64 p, .int .i64 a1, .int .i64 a2, .int .i64 a3, .int .i64 a4, .int .i64 R.1, .int .i64 R.2.1, .int .i64 R.2.2.1, .int .i64 R.2.2.2] rfl rfl (.inr ⟨_, _, rfl, third_news _ _ _ _⟩) (by simp [Value.oneCell']) (by unfold maxLen; omega) (by omega) (by have := HA2.out.2.2.2; simp at this ⊢; omega) ?_; intro v6 w6 r6 g6 _ _; have HR6 := hide (And.intro r6 g6); clear r6 g6)
        try go_wp2_with fail
        go_meet
        refine ⟨_, rfl, ?_, ?_⟩
        · have e9 := congrArg Array.toList HA2.out.2.1
          simp only at e9
          rw [HA2.out.1]
          unfold OwnV
          rw [List.length_append, hen, List.flatMap_append, List.flatMap_singleton, ← e9]
          exact HR6.out.1
        · exact (((HWw.out.trans (HBB.out.mono HWw.out.size)).alloc (by have := HA2.out.2.2.2; simpa using this) _)).grown HR6.out.2 (by have := HA2.out.2.2.2; simp at this ⊢; omega) fun b hb => (HA2.out.2.2.1.lt b hb).1
      | false =>
        go_wp2_with fail
        go_meet
        refine ⟨_, rfl, ?_, HWw.out.trans (HBB.out.mono HWw.out.size)⟩
        rw [HNo.out trivial, List.append_nil]
        subst hen
        exact own_keep HVr.out fun g hg => HBB.out.block g (HVr.out.lt g hg).2
    case rest =>
      obtain ⟨v', rfl, HO⟩ := hcut
      obtain ⟨va', vc', hvf'⟩ := row_form HO.out.1
      subst hvf'
      have c2 := HOn.out _ HO.out.2
      obtain ⟨n1, hn1⟩ : ∃ n1, (E ++ st.visP p).length = n1 := ⟨_, rfl⟩
      rw [hn1]
      go_wp2_with fail
      go_loopg [1, 22] m (fun gg s1 s22 wr => ∃ k : Nat, s22 = .int .i64 k ∧ gg + k = m ∧ OwnV wr w.heap.size s1 st (E ++ st.visP p ++ st.kidsTo p k) ∧ Below w.heap.size w wr)
      case atStart =>
        refine ⟨0, rfl, by omega, ?_, HO.out.2⟩
        have e0 : st.kidsTo p 0 = [] := by unfold St.kidsTo; simp
        rw [e0, List.append_nil, ← hn1]
        exact HO.out.1
      case round =>
        rename World => wr
        obtain ⟨k, rfl, hgk, hown, hbel⟩ := hrel
        obtain ⟨va2, vc2, hvf2⟩ := row_form hown
        obtain ⟨nL, hnL⟩ : ∃ nL, (E ++ st.visP p ++ st.kidsTo p k).length = nL := ⟨_, rfl⟩
        rw [hnL] at hvf2
        subst hvf2
        have HO2 := hide (And.intro hown hbel)
        cases gk with
        | zero =>
          have hlt : ¬ (k : Int) < (m : Int) := by omega
          have hkm : k = m := by omega
          clear hown hbel
          go_wp2
          go_ret
          subst hkm
          exact ⟨_, rfl, HEnd.out _ _ HO2.out.1, HO2.out.2⟩
        | succ gk =>
          have hlt : (k : Int) < (m : Int) := by omega
          have hk0 : (0 : Int) ≤ (k : Int) := by omega
          obtain ⟨g, j, hoa, hcl, hcall⟩ := HKid.out k wr _ (by omega) hbel hown
          subst hoa
          have HCa := hide hcall
          clear hown hbel hcall
          go_wp2_with (go_at_call 107; refine HCa.out.mono ?_; rintro e w5 ⟨v5, rfl, r1, r2⟩; have H5 := hide (And.intro r1 r2); clear r1 r2)
          go_roundg gk
          case measure => omega
          case rel => exact ⟨k + 1, by go_num, by omega, H5.out.1, H5.out.2⟩

end Go.Proofs.YtlaflopimpnjpaaGreat

/-! Pvs -/
namespace Go.Proofs.YtlaflopimpnjpaaGreat
open Go.RowKit
attribute [local go_sem ↓] Go.wp_at_zero Go.wp_at_succ

set_option maxRecDepth 100000 in
set_option maxHeartbeats 1000000 in
/-- (*pane.Screen).Views -/
theorem paViews_of {w : World} {S : Nat → Prop} {x : Nat} {st : St} (hw : Wf st) {bv : Value} {sc mp : Nat} {blk : Int → Nat} {G : Int → Nat → Value} (h : PRaw w S x st bv sc mp blk G)
    (hview : ∀ p, Live st p → ∀ W : World, Below w.heap.size w W → Calls Tryz.prog 126 #[.pointer (some ⟨blk p, 0, none⟩)] W fun e w' => e = .returned (.agg (viewC st p)) ∧ Below W.heap.size W w') :
    Calls Tryz.prog 28 #[.pointer (some ⟨x, 0, none⟩)] w (ViewsPost st w) := by
  have hlen : ([] : List Nat).length + (st.visAll (-1)).length ≤ 1000 := by
    have h1 := vis_len (st := st) (st.dfs (-1))
    have h2 := dfs_len hw (p := -1) (by omega)
    unfold St.visAll St.visP
    simp
    omega
  have hall : ([] : List Nat) ++ st.visAll (-1) = st.vis (st.dfs (-1)) := by
    unfold St.visAll St.visP
    simp
  have hv := views_of hw h hview (st.need (-1)) (-1) (.inl rfl) (Nat.le_refl _) [] (.slice none 0 0) w hlen (Below.refl _ _) (World.ownsRow_nil _ _ _ _)
  rw [hall] at hv
  have HV := hide hv
  have c1 : w.cell? ⟨sc, 0, none⟩ = some (.pointer (some ⟨blk (-1), 0, none⟩)) := by rw [cell_of_row _ _ _ _ _ _ h.sce]; rfl
  have c0 : w.cell? ⟨x, 0, none⟩ = some (.pointer (some ⟨sc, 0, none⟩)) := by rw [cell_of_row _ _ _ _ _ _ h.scr]; rfl
  have HS : Hid (Calls Tryz.prog 60 #[.pointer (some ⟨sc, 0, none⟩)] w (ViewsPost st w)) := by
    unfold Hid
    clear c0
    go_enter Tryz.func60, Tryz.ntmps60
    go_wp2_with (go_at_call 107; refine HV.out.mono ?_; rintro e w5 ⟨v5, rfl, r1, r2⟩; have H5 := hide (And.intro r1 r2); clear r1 r2)
    go_ret
    exact ⟨_, rfl, H5.out.1, H5.out.2⟩
  go_enter Tryz.func28, Tryz.ntmps28
  go_wp2_with (go_at_call 60; refine HS.out.mono ?_; rintro e w5 ⟨v5, rfl, r1, r2⟩; have H5 := hide (And.intro r1 r2); clear r1 r2)
  go_ret
  exact ⟨_, rfl, H5.out.1, H5.out.2⟩

theorem paViews_any {w : World} {S : Nat → Prop} {x : Nat} {st : St} (hw : Wf st) (h : PaneOk w S x st) :
    Calls Tryz.prog 28 #[.pointer (some ⟨x, 0, none⟩)] w (ViewsPost st w) := by
  obtain ⟨bv, sc, mp, blk, G, h⟩ := h
  exact paViews_of hw h fun p hp W hW => view_any hw h p hp W hW

end Go.Proofs.YtlaflopimpnjpaaGreat

/-! RefX -/
namespace Go.Proofs.YtlaflopimpnjpaaGreat
open Go.RowKit
attribute [local go_sem ↓] Go.wp_at_zero Go.wp_at_succ

theorem OwnN.alloc {w : World} {base : Nat} {v : Value} {E : List Nat} (h : OwnN w base v E) (o : Obj) : OwnN (w.alloc o) base v E := World.ownsRow.alloc h o

/-- append of one number. -/
theorem wpList_append_nat {w : World} {ops : Array Oper} {rest : List Oper} {o : Oper} {a : Act} {Q : Exit → Act → World → Prop} (hgd : o.guard = none) (s x : Operand)
    (ho : o.op = .call { callee := .builtin .append, args := #[s, x], argTypes := #[24, 24] }) (base : Nat) (v : Value) (E : List Nat) (hs : a.eval s = v) (hown : OwnN w base v E) (b j : Nat) (hx : a.eval x = .slice (some ⟨b, 0, none⟩) 1 1)
    (hb : w.heap[b]? = some (.cells #[.int .i64 (j : Int)] 3 (0, 0))) (hl : E.length ≤ 1000) (hbase : base ≤ w.heap.size)
    (h : ∀ v' w', OwnN w' base v' (E ++ [j]) → w.grownBy w' v.ownBlock → wpList Tryz.prog ops Q rest (a.put o.dst v') w') : wpList Tryz.prog ops Q (o :: rest) a w := by
  obtain ⟨i0, hi0, hz0, hz1, hz2⟩ := info_parts intInfo
  refine wpList_append_row (P := Tryz.prog) hgd s x 24 ho base 3 i0 _ 1 8 Tryz.underlying24 hi0 hz0 hz1 hz2 rfl (by decide) v E.length (E.map fun (i : Nat) => Value.int .i64 (i : Int)) hs hown _ 1 [.int .i64 j] hx rfl (.inr ⟨_, _, rfl, World.news_of_block (cs := #[.int .i64 j]) (t := 3) (fr := (0, 0)) hb⟩) (by simp [Value.oneCell']) (by unfold maxLen; omega) (by omega) hbase ?_
  intro v' w' h1 h2 _ _
  refine h v' w' ?_ h2
  unfold OwnN
  rw [List.length_append, List.map_append]
  exact h1

def stSf (s : Sf) : Sf := { s with ask := false }

def stk (st : St) (id : Nat) : St :=
  { upd st id stSf with order := if st.puts id = true then rsL st.order id (st.sf id).sib.toNat (st.sf id).above else st.order }

def StackPost (S : Nat → Prop) (c : Nat) (st : St) (id : Nat) (w : World) (e : Ending) (w' : World) : Prop := ∃ b : Bool, e = .returned (.bool b) ∧ RefOk w' (grow S w w') c (stk st id) ∧ Only S w w' ∧ ∀ (b : Nat) (cur : Array Value), w.heap[b]? = some (.cells cur 55 (0, 0)) → w'.heap[b]? = w.heap[b]?

/-- It is no longer asked for. -/
theorem RSem.ask {w : World} {S : Nat → Prop} {st : St} {F : Nat → Nat → Value} (h : RSem w S st F) {id g : Nat} {cur : Array Value} (hid : id < st.sfs.length) (hg : w.heap[g]? = some (.cells cur 118 (0, 0))) : RSem (w.setCell ⟨g, id * 28 + 24, none⟩ (.bool false)) S (upd st id stSf) (upF F id 24 (.bool false)) := by
  refine ⟨fun i hi => ?_, fun i hi => ?_, fun i hi => ?_⟩
  · rw [upd_len] at hi
    rw [upd_sf st id stSf i hid]
    by_cases e : i = id
    · subst e
      rw [if_pos rfl, upF_at]
      have q := h.rel i hi
      exact ⟨q.alive, q.parent, q.nw, q.nh, q.nx, q.ny, q.ncut, q.n0, q.n1, q.n2, q.n3, q.nhint, q.xw, q.xh, q.xx, q.xy, q.xcut, q.x0, q.x1, q.x2, q.x3, q.xhint, rfl, q.sib, q.above, q.kept⟩
    · rw [if_neg e, upF_ne _ _ _ _ e]
      exact h.rel i hi
  · rw [upd_len] at hi
    have q := (h.pixN i hi).setOther (j := id * 28 + 24) (u := .bool false) hg
    rw [upd_sf st id stSf i hid]
    by_cases e : i = id
    · subst e
      rw [if_pos rfl, upF_at]
      exact q
    · rw [if_neg e, upF_ne _ _ _ _ e]
      exact q
  · rw [upd_len] at hi
    have q := (h.pixX i hi).setOther (j := id * 28 + 24) (u := .bool false) hg
    rw [upd_sf st id stSf i hid]
    by_cases e : i = id
    · subst e
      rw [if_pos rfl, upF_at]
      exact q
    · rw [if_neg e, upF_ne _ _ _ _ e]
      exact q

/-- The screen has another order. -/
theorem RRaw.setOrd {w : World} {S S' : Nat → Prop} {c : Nat} {W H : Int} {n : Nat} {ord ord' : List Nat} {bv sv ov ov' : Value} {F : Nat → Nat → Value} (h : RRaw w S c W H n ord bv sv ov F) (hS : ∀ g, S g → S' g) (ho : RowS w S' 3 1 ov' ord'.length (ord'.map fun (i : Nat) => .int .i64 (i : Int))) : RRaw (w.setCell ⟨c, 4, none⟩ ov') S' c W H n ord' bv sv ov' F := by
  obtain ⟨h1, h2, ⟨xs, h3, h4⟩, h5, nb, ys, h6, h7, h8⟩ := h
  have hk : ∀ (T : TypeId), T ≠ 93 → ∀ (b : Nat) (cur : Array Value), w.heap[b]? = some (.cells cur T (0, 0)) → (w.setCell ⟨c, 4, none⟩ ov').heap[b]? = w.heap[b]? := fun T hT b cur hb => heap_setCell_other w ⟨c, 4, none⟩ b ov' (ne_of_type hb h1 hT)
  refine ⟨heap_setCell_same w c 4 _ _ ov' h1, hS _ h2, ⟨xs, (h3.mono hS).other (hk _ (by decide)), h4⟩, ho.other (hk _ (by decide)), nb, ys, h6, (h7.mono hS).other (hk _ (by decide)), fun k hk2 => ?_⟩
  obtain ⟨dv, m, e1, e2, zs, e3⟩ := h8 k hk2
  exact ⟨dv, m, e1, e2, zs, (e3.mono hS).other (hk _ (by decide))⟩

theorem RSem.setC {w : World} {S S' : Nat → Prop} {st : St} {F : Nat → Nat → Value} (h : RSem w S st F) (hS : ∀ g, S g → S' g) {c j : Nat} {cur : Array Value} {u : Value} (hc : w.heap[c]? = some (.cells cur 93 (0, 0))) : RSem (w.setCell ⟨c, j, none⟩ u) S' st F :=
  ⟨h.rel, fun i hi => ((h.pixN i hi).mono hS).other fun b _ hb => heap_setCell_other w ⟨c, j, none⟩ b u (ne_of_type hb hc (by decide)), fun i hi => ((h.pixX i hi).mono hS).other fun b _ hb => heap_setCell_other w ⟨c, j, none⟩ b u (ne_of_type hb hc (by decide))⟩

theorem rsL_next {l : List Nat} {k : Nat} (hk : k < l.length) (id sib : Nat) (above : Bool) : rsL (l.take (k + 1)) id sib above = rsL (l.take k) id sib above ++ ((if l[k] = sib ∧ above = false then [id] else []) ++ ((if l[k] ≠ id then [l[k]] else []) ++ (if l[k] = sib ∧ above = true then [id] else []))) := by
  unfold rsL
  rw [List.take_succ_eq_append_getElem hk, List.flatMap_append]
  simp

theorem rsL_len (id sib : Nat) (above : Bool) : ∀ l : List Nat, (rsL l id sib above).length ≤ 2 * l.length := by
  intro l
  induction l with
  | nil => simp [rsL]
  | cons a l ih =>
    unfold rsL at *
    rw [List.flatMap_cons, List.length_append, List.length_cons]
    have : ((if a = sib ∧ above = false then [id] else []) ++ ((if a ≠ id then [a] else []) ++ (if a = sib ∧ above = true then [id] else []))).length ≤ 2 := by
      split <;> split <;> split <;> simp_all
    omega

theorem stk_no {st : St} {id : Nat} (h : st.puts id = false) : stk st id = upd st id stSf := by
  unfold stk
  rw [h]
  rfl

set_option maxRecDepth 100000 in
set_option maxHeartbeats 2000000 in
/-- (*Screen).stacked, where nothing comes of it. -/
theorem stacked_no {S : Nat → Prop} {c : Nat} {st : St} (hw : Wf st) (id : Nat) (hid : id ∈ st.order) (hp : st.puts id = false) (w : World) (h : RefOk w S c st) :
    Calls Tryz.prog 58 #[.pointer (some ⟨c, 0, none⟩), .int .i64 id] w (StackPost S c st id w) := by
  have hil := hw.lt hid
  have hIs := fun (W : World) (hW : W = w) => is_any (S := S) (c := c) (st := st) (st.sf id).sib W (by rw [hW]; exact h) hw.made
  obtain ⟨bv, sv, ov, F, hr, hs⟩ := h
  obtain ⟨k0, k1, k2, k3, k4, kf, kl⟩ := hr.cells
  obtain ⟨g, cap, e1, e2, e3, e4, e5, e6⟩ := hr.at (by omega)
  subst e1
  have c24 := e5 id hil 24 (by omega)
  have c25 := e5 id hil 25 (by omega)
  rw [(hs.rel id hil).ask] at c24
  rw [(hs.rel id hil).sib] at c25
  have f24 := e6 (id * 28 + 24)
  obtain ⟨n, hn⟩ : ∃ n, st.sfs.length = n := ⟨_, rfl⟩
  have hmd := hw.made
  rw [hn] at k3 e3 hmd
  have hin : id < n := by omega
  have hcap : id < cap := by omega
  obtain ⟨_, cur, hcur⟩ := hr.gType
  have HFin : Hid (StackPost S c st id w (.returned (.bool false)) (w.setCell ⟨g, id * 28 + 24, none⟩ (.bool false))) := by
    refine ⟨false, rfl, ?_, (Only.refl S w).set (.inl e2) _, fun b cb hb => heap_setCell_other w ⟨g, id * 28 + 24, none⟩ b _ (ne_of_type hb hcur (by decide))⟩
    rw [stk_no hp]
    refine RefOk.mono ?_ (fun b hb => grow_self hb)
    exact ⟨bv, _, ov, _, by have h9 := hr.set hil (show 24 < 28 by omega) (.bool false); rw [← upd_len st id stSf] at h9; exact h9, hs.ask hil hcur⟩
  unfold St.puts at hp
  generalize (st.sf id).sib = sb at *
  generalize (st.sf id).ask = ak at *
  obtain ⟨t, ht⟩ : ∃ t, st.isB sb = t := ⟨_, rfl⟩
  rw [ht] at hIs hp
  clear hr hs kf hn e5 e6 ht hcur hil
  have HIs := hide hIs
  clear hIs
  cases ak <;> cases t <;> simp at hp
  all_goals
    go_enter Tryz.func58, Tryz.ntmps58
    go_wp2_with (go_at_call 51; refine (HIs.out _ rfl).mono ?_; rintro e w' ⟨rfl, hw'⟩; replace hw' := hw'.symm; subst hw')
    go_ret
    exact HFin.out

end Go.Proofs.YtlaflopimpnjpaaGreat
