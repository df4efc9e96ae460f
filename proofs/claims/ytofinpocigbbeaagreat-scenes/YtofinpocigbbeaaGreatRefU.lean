import Derived.Test.YtofinpocigbbeaaGreatRefB
import Derived.Test.YtofinpocigbbeaaGreatSceC
namespace Go.Proofs.YtofinpocigbbeaaGreat
open Go.RowKit
attribute [local go_sem ↓] Go.wp_at_zero Go.wp_at_succ

/-- A row of numbers of one's own. -/
def OwnN (w : World) (base : Nat) (v : Value) (E : List Nat) : Prop := w.ownsRow base 3 1 v E.length (E.map fun (i : Nat) => Value.int .i64 (i : Int))

theorem OwnN.src {w : World} {base : Nat} {v : Value} {E : List Nat} (h : OwnN w base v E) : (v = .slice none 0 0 ∧ E.length = 0) ∨ ∃ ad c, v = .slice (some ad) E.length c ∧ ∀ j u, (E.map fun (i : Nat) => Value.int .i64 (i : Int))[j]? = some u → w.cell? (ad.add j) = some u := by
  rcases h.2 with ⟨h1, h2⟩ | ⟨g, cap, cur, e1, _⟩
  · exact .inl ⟨h1, h2⟩
  · subst e1
    exact .inr ⟨⟨g, 0, none⟩, cap, rfl, fun j u hu => h.cells (g := g) rfl j u hu⟩

theorem nat_oneCell (L : List Nat) : ∀ u ∈ L.map (fun (i : Nat) => Value.int .i64 (i : Int)), u.oneCell' = true := by
  intro u hu
  rw [List.mem_map] at hu
  obtain ⟨x, _, rfl⟩ := hu
  rfl

set_option maxRecDepth 100000 in
set_option maxHeartbeats 1000000 in
/-- (*Screen).under -/
theorem under_any {S : Nat → Prop} {c : Nat} {st : St} (hw : Wf st) : ∀ (fuel : Nat) (p : Int) (w : World), -1 ≤ p → st.need p ≤ fuel → RefOk w S c st →
    Calls Tryz.prog 133 #[.pointer (some ⟨c, 0, none⟩), .int .i64 p] w fun e w' => ∃ v, e = .returned v ∧ OwnN w' w.heap.size v (st.dfs p) ∧ Below w.heap.size w w' := by
  intro fuel
  induction fuel with
  | zero => intro p w _ h _; unfold St.need at h; omega
  | succ fuel ih =>
    intro p w hp hf h
    obtain ⟨i0, hi0, hz0, hz1, hz2⟩ := info_parts intInfo
    have HR := hide h
    obtain ⟨bv, sv, ov, F, hr, hs⟩ := h
    obtain ⟨k0, k1, k2, k3, k4, kf, kl⟩ := hr.cells
    obtain ⟨sa, scap, hsv⟩ := hr.svForm
    obtain ⟨oa, ocap, hov⟩ := hr.ovForm
    subst hsv hov
    obtain ⟨n, hn⟩ : ∃ n, st.sfs.length = n := ⟨_, rfl⟩
    obtain ⟨m, hm⟩ : ∃ m, st.order.length = m := ⟨_, rfl⟩
    have hm12 := hw.len
    have hn60 := hw.made
    rw [hm] at hm12 k4
    rw [hn] at hn60 k3
    have HH := hide (And.intro hr (And.intro hs (And.intro hn (And.intro hm hw))))
    have HIH := hide ih
    have HF := hide hf
    clear hr hs kf hn hm ih hf
    go_enter Tryz.func133, Tryz.ntmps133
    go_wp2
    go_loopg [5, 6] m (fun gg s5 s6 wr => ∃ k : Nat, s6 = .int .i64 k ∧ gg + k = m ∧ OwnN wr w.heap.size s5 (st.upto p k) ∧ Below w.heap.size w wr)
    case atStart => exact ⟨0, rfl, by omega, World.ownsRow_nil _ _ _ _, Below.refl _ _⟩
    case round =>
      rename World => wr
      obtain ⟨k, rfl, hgk, hown, hbel⟩ := hrel
      obtain ⟨va, vc, hvf⟩ := row_form hown
      obtain ⟨nL, hnL⟩ : ∃ nL, (st.upto p k).length = nL := ⟨_, rfl⟩
      rw [hnL] at hvf
      subst hvf
      have hsz := hbel.size
      have y3 := (hbel.cell (p := ⟨c, 3, none⟩) kl).trans k3
      have y4 := (hbel.cell (p := ⟨c, 4, none⟩) kl).trans k4
      cases gk with
      | zero =>
        have hlt : ¬ (k : Int) < (m : Int) := by omega
        have HO := hide (And.intro hown hbel)
        clear hown hbel
        go_wp2
        go_ret
        refine ⟨_, rfl, ?_, HO.out.2⟩
        rw [← upto_all HH.out.2.2.2.2 hp (show st.order.length ≤ k by have := HH.out.2.2.2.1; omega)]
        exact HO.out.1
      | succ gk =>
        have hlt : (k : Int) < (m : Int) := by omega
        have hkm : k < m := by omega
        have hkL : k < st.order.length := by have := HH.out.2.2.2.1; omega
        obtain ⟨og, oc, eo, _, hoc, ogl, ocs⟩ := HH.out.1.ordAt (by omega)
        rw [HH.out.2.2.2.1] at hoc
        injection eo with eo1 eo2 eo3
        subst eo1 eo3
        have co := (hbel.cell (p := ⟨og, k, none⟩) ogl).trans (ocs k hkL)
        obtain ⟨j, hj⟩ : ∃ j, st.order[k] = j := ⟨_, rfl⟩
        have hjo : j ∈ st.order := by rw [← hj]; exact List.getElem_mem hkL
        have hjl := HH.out.2.2.2.2.lt hjo
        obtain ⟨sg, sc, es, _, hscap, sgl, scs, _⟩ := HH.out.1.at (by omega)
        injection es with es1 es2 es3
        subst es1 es3
        have c1 := (hbel.cell (p := ⟨sg, j * 28 + 1, none⟩) sgl).trans (scs j hjl 1 (by omega))
        rw [(HH.out.2.1.rel j hjl).parent] at c1
        rw [hj] at co
        obtain ⟨q, hq⟩ : ∃ q, (st.sf j).parent = q := ⟨_, rfl⟩
        rw [hq] at c1
        have hjn : j < n := by have := HH.out.2.2.1; omega
        have hjc : j < scap := by have := HH.out.2.2.1; omega
        have HN := hide (upto_next (st := st) (p := p) hkL)
        rw [hj, hq] at HN
        have HU := hide (upto_len HH.out.2.2.2.2 hp k)
        have HO := hide (And.intro hown (And.intro hbel (And.intro hjo hq)))
        have hkc : k < ocap := by omega
        have hnL12 : nL ≤ 12 := by have := HU.out; omega
        have HNL := hide hnL
        clear hown hbel hj hjo hq ocs scs hnL eo2 es2 hjl hkL
        by_cases hpq : q = p
        · have HD := hide (dfs_len HH.out.2.2.2.2 (st := st) (p := j) (by omega))
          obtain ⟨nD, hnD⟩ : ∃ nD, (st.dfs j).length = nD := ⟨_, rfl⟩
          have hnD12 : nD ≤ 12 := by have := HD.out; omega
          have HND := hide hnD
          have HNE : Hid (st.need j ≤ fuel) := by have h1 := need_kid HH.out.2.2.2.2 hp HO.out.2.2.1 (HO.out.2.2.2.trans hpq); have h2 := HF.out; unfold Hid; omega
          rw [hpq] at c1 HN
          clear hnD
          go_wp2_with (first
            | (go_at_call 133; refine (HIH.out j _ (by omega) HNE.out (HR.out.keep fun g _ hg => HB3.out.block g hg)).mono ?_; rintro e w5 ⟨v5, rfl, hv5, hb5⟩; have H5 := hide (And.intro hv5 hb5); have hs5 := hb5.size; clear hv5 hb5)
            | (at_builtin; refine wpList_append_row (P := Tryz.prog) rfl (.tmp 34) (.tmp 36) 24 rfl w.heap.size 3 i0 _ 1 8 Tryz.underlying24 hi0 hz0 hz1 hz2 rfl (by decide) (.slice va nL vc) nL ((st.upto p k).map fun (i : Nat) => Value.int .i64 (i : Int)) rfl ?_ (.slice (some ⟨wr.heap.size, 0, none⟩) 1 1) 1 [.int .i64 j] rfl rfl (.inr ⟨_, _, rfl, World.news_of_block (cs := #[.int .i64 j]) (t := 3) (fr := (0, 0)) (heap_alloc_new wr _)⟩) (by simp [Value.oneCell']) (by unfold maxLen; omega) (by omega) (by simp; omega) ?_; exact (by have h9 := HO.out.1; unfold OwnN at h9; rw [HNL.out] at h9; exact h9.alloc _); intro v3 w3 ho3 hg3 hn3 ha3; have HB3 := hide ((HO.out.2.1.alloc hsz _).grown hg3 (by simp; omega) (fun k hk => (HO.out.1.lt k hk).1)); have hs3 : w.heap.size ≤ w3.heap.size := HB3.out.size; have HO3 := hide ho3; clear ho3 hg3 hn3 ha3)
            | (at_builtin; refine wpList_append_row (P := Tryz.prog) rfl (.tmp 38) (.tmp 41) 24 rfl w.heap.size 3 i0 _ 1 8 Tryz.underlying24 hi0 hz0 hz1 hz2 rfl (by decide) v3 (nL + 1) ((st.upto p k).map (fun (i : Nat) => Value.int .i64 (i : Int)) ++ [.int .i64 j]) rfl ?_ v5 nD ((st.dfs j).map fun (i : Nat) => Value.int .i64 (i : Int)) rfl ?_ ?_ (nat_oneCell _) (by unfold maxLen; omega) (by omega) (by omega) ?_; exact own_keep HO3.out (fun g hg => H5.out.2.block g (HO3.out.lt g hg).2); (rw [List.length_map, HND.out, Nat.mul_one]); exact (by have h9 := H5.out.1.src; rw [HND.out] at h9; exact h9); intro v6 w6 ho6 hg6 hn6 ha6; have HB6 := hide ((HB3.out.trans (H5.out.2.mono hs3)).grown hg6 (by omega) (fun k hk => (HO3.out.lt k hk).1)); have HO6 := hide ho6; clear ho6 hg6 hn6 ha6))
          go_roundg gk
          case measure => omega
          case rel =>
            refine ⟨k + 1, by go_num, by omega, ?_, HB6.out⟩
            have e1 : st.upto p (k + 1) = st.upto p k ++ (j :: st.dfs j) := by rw [HN.out]; simp
            unfold OwnN
            rw [e1]
            have e2 : (st.upto p k ++ (j :: st.dfs j)).length = nL + 1 + nD := by rw [List.length_append, List.length_cons, HNL.out, HND.out]; omega
            have e3 : (st.upto p k ++ (j :: st.dfs j)).map (fun (i : Nat) => Value.int .i64 (i : Int)) = (st.upto p k).map (fun (i : Nat) => Value.int .i64 (i : Int)) ++ [.int .i64 j] ++ (st.dfs j).map (fun (i : Nat) => Value.int .i64 (i : Int)) := by simp
            rw [e2, e3]
            exact HO6.out
        · go_wp2_with fail
          go_roundg gk
          case measure => omega
          case rel =>
            refine ⟨k + 1, by go_num, by omega, ?_, HO.out.2.1⟩
            rw [HN.out, if_neg hpq, List.append_nil]
            exact HO.out.1

end Go.Proofs.YtofinpocigbbeaaGreat
