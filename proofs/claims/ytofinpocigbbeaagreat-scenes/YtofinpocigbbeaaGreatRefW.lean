import Derived.Test.YtofinpocigbbeaaGreatRefV
namespace Go.Proofs.YtofinpocigbbeaaGreat
open Go.RowKit
attribute [local go_sem ↓] Go.wp_at_zero Go.wp_at_succ

/-- One cell of one surface is written. -/
def upF (F : Nat → Nat → Value) (i o : Nat) (u : Value) : Nat → Nat → Value := fun j => if j = i then (fun p => if p = o then u else F i p) else F j

theorem upF_at (F : Nat → Nat → Value) (i o : Nat) (u : Value) : upF F i o u i = fun p => if p = o then u else F i p := by unfold upF; rw [if_pos rfl]
theorem upF_ne (F : Nat → Nat → Value) (i o : Nat) (u : Value) {j : Nat} (h : j ≠ i) : upF F i o u j = F j := by unfold upF; rw [if_neg h]

theorem ne_of_type {w : World} {a b : Nat} {ca cb : Array Value} {ta tb : TypeId} (h1 : w.heap[a]? = some (.cells ca ta (0, 0))) (h2 : w.heap[b]? = some (.cells cb tb (0, 0))) (h : ta ≠ tb) : a ≠ b := by
  intro e
  rw [e, h2] at h1
  injection h1 with h1
  injection h1 with _ h1
  exact h h1.symm

theorem RRaw.set {w : World} {S : Nat → Prop} {c : Nat} {W H : Int} {n g cap : Nat} {ord : List Nat} {bv ov : Value} {F : Nat → Nat → Value} (h : RRaw w S c W H n ord bv (.slice (some ⟨g, 0, none⟩) n cap) ov F) {i o : Nat} (hi : i < n) (ho : o < 28) (u : Value) :
    RRaw (w.setCell ⟨g, i * 28 + o, none⟩ u) S c W H n ord bv (.slice (some ⟨g, 0, none⟩) n cap) ov (upF F i o u) := by
  obtain ⟨h1, h2, ⟨xs, h3, h4⟩, h5, nb, ys, h6, h7, h8⟩ := h
  obtain ⟨cg, hg⟩ := h3.type (g := g) rfl
  have hk : ∀ (T : TypeId), T ≠ 214 → ∀ (b : Nat) (cur : Array Value), w.heap[b]? = some (.cells cur T (0, 0)) → (w.setCell ⟨g, i * 28 + o, none⟩ u).heap[b]? = w.heap[b]? := fun T hT b cur hb => heap_setCell_other w ⟨g, i * 28 + o, none⟩ b u (ne_of_type hb hg hT)
  have hl := h3.len
  refine ⟨(hk _ (by decide) c _ h1).trans h1, h2, ⟨_, h3.set _ u, fun j hj p hp => ?_⟩, h5.other (hk _ (by decide)), nb, ys, h6, h7.other (hk _ (by decide)), fun k hk2 => ?_⟩
  · rw [List.getElem?_set]
    by_cases e : i * 28 + o = j * 28 + p
    · have e1 : j = i := by omega
      have e2 : p = o := by omega
      subst e1 e2
      rw [if_pos rfl, if_pos (by omega), upF_at]
      simp
    · rw [if_neg e, h4 j hj p hp]
      by_cases e1 : j = i
      · subst e1
        rw [upF_at]
        show some (F j p) = some (if p = o then u else F j p)
        rw [if_neg (by omega)]
      · rw [upF_ne _ _ _ _ e1]
  · obtain ⟨dv, m, e1, e2, zs, e3⟩ := h8 k hk2
    exact ⟨dv, m, e1, e2, zs, e3.other (hk _ (by decide))⟩

theorem RRaw.gType {w : World} {S : Nat → Prop} {c : Nat} {W H : Int} {n g cap : Nat} {ord : List Nat} {bv ov : Value} {F : Nat → Nat → Value} (h : RRaw w S c W H n ord bv (.slice (some ⟨g, 0, none⟩) n cap) ov F) : S g ∧ ∃ cur : Array Value, w.heap[g]? = some (.cells cur 214 (0, 0)) := by
  obtain ⟨xs, h3, h4⟩ := h.sfs
  exact ⟨h3.2 g rfl, h3.type (g := g) rfl⟩

theorem PixRow.setOther {w : World} {S : Nat → Prop} {v : Value} {n : Int} {g j : Nat} {cur : Array Value} {u : Value} (h : PixRow w S v n) (hg : w.heap[g]? = some (.cells cur 214 (0, 0))) : PixRow (w.setCell ⟨g, j, none⟩ u) S v n :=
  h.other fun b cb hb => heap_setCell_other w ⟨g, j, none⟩ b u (ne_of_type hb hg (by decide))

set_option maxRecDepth 100000 in
set_option maxHeartbeats 1000000 in
/-- (*Screen).siblings -/
theorem siblings_any {S : Nat → Prop} {c : Nat} {st : St} (hw : Wf st) (p : Int) (w : World) (h : RefOk w S c st) :
    Calls Tryz.prog 179 #[.pointer (some ⟨c, 0, none⟩), .int .i64 p] w fun e w' => ∃ v, e = .returned v ∧ OwnN w' w.heap.size v (st.kids p) ∧ Below w.heap.size w w' := by
  obtain ⟨i0, hi0, hz0, hz1, hz2⟩ := info_parts intInfo
  obtain ⟨bv, sv, ov, F, hr, hs⟩ := h
  obtain ⟨k0, k1, k2, k3, k4, kf, kl⟩ := hr.cells
  obtain ⟨sa, scap, hsv⟩ := hr.svForm
  obtain ⟨oa, ocap, hov⟩ := hr.ovForm
  subst hsv hov
  obtain ⟨n, hn⟩ : ∃ n, st.sfs.length = n := ⟨_, rfl⟩
  obtain ⟨m, hm⟩ : ∃ m, st.order.length = m := ⟨_, rfl⟩
  have hm12 := hw.len
  have hn60 := hw.made
  rw [hm] at hm12 k4
  rw [hn] at hn60 k3
  have HH := hide (And.intro hr (And.intro hs (And.intro hn (And.intro hm hw))))
  clear hr hs kf hn hm
  go_enter Tryz.func179, Tryz.ntmps179
  go_wp2
  go_loopg [5, 6] m (fun gg s5 s6 wr => ∃ k : Nat, s6 = .int .i64 k ∧ gg + k = m ∧ OwnN wr w.heap.size s5 ((st.order.take k).filter fun i => decide ((st.sf i).parent = p)) ∧ Below w.heap.size w wr)
  case atStart => exact ⟨0, rfl, by omega, World.ownsRow_nil _ _ _ _, Below.refl _ _⟩
  case round =>
    rename World => wr
    obtain ⟨k, rfl, hgk, hown, hbel⟩ := hrel
    obtain ⟨va, vc, hvf⟩ := row_form hown
    obtain ⟨nL, hnL⟩ : ∃ nL, ((st.order.take k).filter fun i => decide ((st.sf i).parent = p)).length = nL := ⟨_, rfl⟩
    rw [hnL] at hvf
    subst hvf
    have hsz := hbel.size
    have y3 := (hbel.cell (p := ⟨c, 3, none⟩) kl).trans k3
    have y4 := (hbel.cell (p := ⟨c, 4, none⟩) kl).trans k4
    cases gk with
    | zero =>
      have hlt : ¬ (k : Int) < (m : Int) := by omega
      have HO := hide (And.intro hown hbel)
      clear hown hbel
      go_wp2
      go_ret
      refine ⟨_, rfl, ?_, HO.out.2⟩
      have h9 := HO.out.1
      rw [List.take_of_length_le (by have := HH.out.2.2.2.1; omega)] at h9
      exact h9
    | succ gk =>
      have hlt : (k : Int) < (m : Int) := by omega
      have hkm : k < m := by omega
      have hkL : k < st.order.length := by have := HH.out.2.2.2.1; omega
      obtain ⟨og, oc, eo, _, hoc, ogl, ocs⟩ := HH.out.1.ordAt (by omega)
      rw [HH.out.2.2.2.1] at hoc
      injection eo with eo1 eo2 eo3
      subst eo1 eo3
      have co := (hbel.cell (p := ⟨og, k, none⟩) ogl).trans (ocs k hkL)
      obtain ⟨j, hj⟩ : ∃ j, st.order[k] = j := ⟨_, rfl⟩
      have hjo : j ∈ st.order := by rw [← hj]; exact List.getElem_mem hkL
      have hjl := HH.out.2.2.2.2.lt hjo
      obtain ⟨sg, sc, es, _, hscap, sgl, scs, _⟩ := HH.out.1.at (by omega)
      injection es with es1 es2 es3
      subst es1 es3
      have c1 := (hbel.cell (p := ⟨sg, j * 28 + 1, none⟩) sgl).trans (scs j hjl 1 (by omega))
      rw [(HH.out.2.1.rel j hjl).parent] at c1
      rw [hj] at co
      obtain ⟨q, hq⟩ : ∃ q, (st.sf j).parent = q := ⟨_, rfl⟩
      rw [hq] at c1
      have hjn : (j : Int) < (n : Int) := by have := HH.out.2.2.1; omega
      have hjn2 : j < n := by have := HH.out.2.2.1; omega
      have hj0 : (0 : Int) ≤ (j : Int) := by omega
      have hk0 : (0 : Int) ≤ (k : Int) := by omega
      have hjc : j < scap := by have := HH.out.2.2.1; omega
      have HN : Hid ((st.order.take (k + 1)).filter (fun i => decide ((st.sf i).parent = p)) = (st.order.take k).filter (fun i => decide ((st.sf i).parent = p)) ++ if q = p then [j] else []) := by
        unfold Hid
        rw [List.take_succ_eq_append_getElem hkL, List.filter_append, hj, List.filter_cons, hq]
        by_cases e : q = p
        · rw [if_pos (by simpa using e), if_pos e]; rfl
        · rw [if_neg (by simpa using e), if_neg e]; rfl
      have hnL12 : nL ≤ 12 := by
        have h1 := List.length_filter_le (fun i => decide ((st.sf i).parent = p)) (st.order.take k)
        rw [List.length_take] at h1
        have h2 := HH.out.2.2.2.1
        omega
      have HO := hide (And.intro hown hbel)
      have hkc : k < ocap := by omega
      have HNL := hide hnL
      clear hown hbel hj hjo hq ocs scs hnL eo2 es2 hjl hkL
      by_cases hpq : q = p
      · rw [hpq] at c1 HN
        go_upto_region 5 with fail
        go_quiet (fail)
        go_wp2_with (at_builtin; refine wpList_append_row (P := Tryz.prog) rfl (.tmp 32) (.tmp 40) 24 rfl w.heap.size 3 i0 _ 1 8 Tryz.underlying24 hi0 hz0 hz1 hz2 rfl (by decide) (.slice va nL vc) nL (((st.order.take k).filter fun i => decide ((st.sf i).parent = p)).map fun (i : Nat) => Value.int .i64 (i : Int)) rfl ?_ (.slice (some ⟨wr.heap.size, 0, none⟩) 1 1) 1 [.int .i64 j] rfl rfl (.inr ⟨_, _, rfl, World.news_of_block (cs := #[.int .i64 j]) (t := 3) (fr := (0, 0)) (heap_alloc_new wr _)⟩) (by simp [Value.oneCell']) (by unfold maxLen; omega) (by omega) (by simp; omega) ?_; exact (by have h9 := HO.out.1; unfold OwnN at h9; rw [HNL.out] at h9; exact h9.alloc _); intro v3 w3 ho3 hg3 hn3 ha3; have HB3 := hide (((below_drewN HO.out.2 _).alloc hsz _).grown hg3 (by simp; omega) (fun k hk => (HO.out.1.lt k hk).1)); have HO3 := hide ho3; clear ho3 hg3 hn3 ha3)
        go_roundg gk
        case measure => omega
        case rel =>
          refine ⟨k + 1, by go_num, by omega, ?_, HB3.out⟩
          have e1 := HN.out
          rw [if_pos trivial] at e1
          unfold OwnN
          rw [e1, List.length_append, HNL.out, List.map_append]
          exact HO3.out
      · go_upto_region 5 with fail
        go_quiet (fail)
        go_wp2
        go_roundg gk
        case measure => omega
        case rel =>
          refine ⟨k + 1, by go_num, by omega, ?_, below_drewN HO.out.2 _⟩
          rw [HN.out, if_neg hpq, List.append_nil]
          exact HO.out.1

end Go.Proofs.YtofinpocigbbeaaGreat
