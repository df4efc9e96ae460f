import Derived.Test.YtlaflopimpnjpaaGreatSg27
import Derived.Test.YtlaflopimpnjpaaGreatRows
import Derived.WalkKit
import Derived.WalkSpells
import Derived.WalkLawsBesides
import Derived.RegionTactic
import Derived.BigRegion
/-! RefI -/
namespace Go.Proofs.YtlaflopimpnjpaaGreat
open Go.RowKit
attribute [local go_sem ↓] Go.wp_at_zero Go.wp_at_succ

/-- Some surfaces are there no more. -/
def goneF (F : Nat → Nat → Value) (L : List Nat) : Nat → Nat → Value := fun j => if j ∈ L then (fun o => if o = 0 then .bool false else F j o) else F j

theorem goneF_nil (F : Nat → Nat → Value) : goneF F [] = F := by
  funext j
  unfold goneF
  simp

theorem goneF_more (F : Nat → Nat → Value) (L : List Nat) (i : Nat) : upF (goneF F L) i 0 (.bool false) = goneF F (L ++ [i]) := by
  funext j o
  unfold upF goneF
  by_cases e : j = i <;> by_cases h : j ∈ L <;> by_cases e2 : o = 0 <;> simp_all

theorem rsem_gone {w w2 : World} {S S' : Nat → Prop} {st : St} {F : Nat → Nat → Value} (hw : Wf st) (h : RSem w S st F) (hS : ∀ g, S g → S' g) (hk : ∀ (b : Nat) (cur : Array Value), w.heap[b]? = some (.cells cur 55 (0, 0)) → w2.heap[b]? = w.heap[b]?) (id : Nat) : RSem w2 S' (rm st id) (goneF F (st.gone id)) := by
  refine ⟨fun j hj => ?_, fun j hj => ?_, fun j hj => ?_⟩
  · rw [rm_len] at hj
    rw [rm_sf st hw]
    unfold goneF
    have q := h.rel j hj
    by_cases e : j ∈ st.gone id
    · rw [if_pos e, if_pos e]
      exact ⟨rfl, q.parent, q.nw, q.nh, q.nx, q.ny, q.ncut, q.n0, q.n1, q.n2, q.n3, q.nhint, q.xw, q.xh, q.xx, q.xy, q.xcut, q.x0, q.x1, q.x2, q.x3, q.xhint, q.ask, q.sib, q.above, q.kept⟩
    · rw [if_neg e, if_neg e]
      exact q
  · rw [rm_len] at hj
    rw [rm_sf st hw]
    unfold goneF
    have q := ((h.pixN j hj).mono hS).other hk
    by_cases e : j ∈ st.gone id
    · rw [if_pos e, if_pos e]; exact q
    · rw [if_neg e, if_neg e]; exact q
  · rw [rm_len] at hj
    rw [rm_sf st hw]
    unfold goneF
    have q := ((h.pixX j hj).mono hS).other hk
    by_cases e : j ∈ st.gone id
    · rw [if_pos e, if_pos e]; exact q
    · rw [if_neg e, if_neg e]; exact q

theorem OwnN.at {w : World} {base : Nat} {v : Value} {E : List Nat} (h : OwnN w base v E) {i : Nat} (hi : i < E.length) : ∃ g c, v = .slice (some ⟨g, 0, none⟩) E.length c ∧ E.length ≤ c ∧ g < w.heap.size ∧ w.cell? ⟨g, i, none⟩ = some (.int .i64 (E[i] : Int)) := by
  obtain ⟨g, c, hv, _, hl⟩ := World.ownsRow.form h (by omega)
  have cs := World.ownsRow.cells h (g := g) (by rw [hv]; rfl) i (.int .i64 (E[i] : Int)) (by rw [List.getElem?_map, List.getElem?_eq_getElem hi]; rfl)
  rw [add_at] at cs
  refine ⟨g, c, hv, ?_, hl, cs⟩
  have h9 := h
  unfold OwnN at h9
  rw [hv] at h9
  exact own_cap h9

theorem OwnN.keep {w w' : World} {base : Nat} {v : Value} {E : List Nat} (h : OwnN w base v E) (hk : ∀ g, v.ownBlock = some g → w'.heap[g]? = w.heap[g]?) : OwnN w' base v E := own_keep h hk

theorem OwnN.rowS {w : World} {S : Nat → Prop} {base : Nat} {v : Value} {E : List Nat} (h : OwnN w base v E) (hS : ∀ g, v.ownBlock = some g → S g) : RowS w S 3 1 v E.length (E.map fun (i : Nat) => .int .i64 (i : Int)) :=
  ⟨⟨h.1, h.2.imp (fun h => h) fun ⟨g, c, cur, e1, _, e3⟩ => ⟨g, c, cur, e1, Nat.zero_le _, e3⟩⟩, hS⟩

theorem take_filter_next (P : Nat → Bool) {l : List Nat} {k : Nat} (hk : k < l.length) : (l.take (k + 1)).filter P = (l.take k).filter P ++ if P l[k] = true then [l[k]] else [] := by
  rw [List.take_succ_eq_append_getElem hk, List.filter_append, List.filter_cons]
  rfl

set_option maxRecDepth 100000 in
set_option maxHeartbeats 2000000 in
/-- (*Screen).Destroy -/
theorem refDestroy_any {S : Nat → Prop} {c : Nat} {st : St} (hw : Wf st) (id : Int) (w : World) (h : RefOk w S c st) :
    Calls Tryz.prog 25 #[.pointer (some ⟨c, 0, none⟩), .int .i64 id] w (RPost S c (opDestroy st id) w) := by
  have hIs := is_any (S := S) (c := c) (st := st) id w h hw.made
  have hB := isB_iff hw id
  have HE6 := hide (RPost.same (er := 6) h (Below.refl _ _))
  unfold opDestroy
  obtain ⟨t, ht⟩ : ∃ t, st.isB id = t := ⟨_, rfl⟩
  rw [ht] at hIs hB ⊢
  clear ht
  cases t with
  | false =>
    rw [if_neg (by simp)]
    clear hB h
    go_enter Tryz.func25, Tryz.ntmps25
    go_wp2_with (go_at_call 51; refine hIs.mono ?_; rintro e w' ⟨rfl, hw'⟩; replace hw' := hw'.symm; subst hw')
    go_ret
    exact HE6.out
  | true =>
    rw [if_pos rfl]
    obtain ⟨i, rfl, hio⟩ := hB.1 rfl
    rw [Int.toNat_natCast]
    have HR := hide h
    have HPa := hide (parts_any hw i w h)
    have HHu : Hid (∀ (W : World) (v : Value) (l : List (Int × Int × Int × Int)), Below w.heap.size w W → OwnR W w.heap.size v l → l.length ≤ 12 → Calls Tryz.prog 54 #[.pointer (some ⟨c, 0, none⟩), v] W fun e w' => e = .returned (.tuple #[]) ∧ TurT S 4 W w') := fun W v l hW hv hl => hurt_any hw l v w.heap.size W (h.keep fun g _ hg => hW.block g hg) hv (by omega)
    obtain ⟨m, hm⟩ : ∃ n, st.order.length = n := ⟨_, rfl⟩
    have hm12 := hw.len
    rw [hm] at hm12
    have HI := hide hIs
    have HHm := hide hm
    clear hIs hB HE6 h hm
    go_enter Tryz.func25, Tryz.ntmps25
    go_wp2_with (first
      | (go_at_call 51; refine HI.out.mono ?_; rintro e w' ⟨rfl, hw'⟩; replace hw' := hw'.symm; subst hw')
      | (go_at_call 55; refine HPa.out.mono ?_; rintro e w1 ⟨v1, l1, rfl, hv1, hl1, hb1⟩; have H1 := hide (And.intro hv1 (And.intro hl1 hb1)); clear hv1 hl1 hb1)
      | (go_at_call 54; refine (HHu.out _ _ _ H1.out.2.2 H1.out.1 H1.out.2.1).mono ?_; rintro e w2 ⟨rfl, ht2⟩; have H2 := hide ht2; clear ht2))
    have HR2 := hide ((HR.out.keep fun g _ hg => H1.out.2.2.block g hg).tur H2.out)
    have HO2 : Hid (Only S w w2) := (Only.below H1.out.2.2).trans ((H2.out.only).mono fun g _ hg => grow_self hg)
    obtain ⟨bv, sv, ov, F, hr, hs⟩ := HR2.out
    obtain ⟨k0, k1, k2, k3, k4, kf, kl⟩ := hr.cells
    obtain ⟨oa, ocap, hov⟩ := hr.ovForm
    subst hov
    rw [HHm.out] at k4
    have f4 := kf 4
    have HH := hide (And.intro hr hs)
    clear hr hs kf k0 k1 k2
    go_loopg [6, 7, 8] m (fun gg s6 s7 s8 wr => ∃ k : Nat, s8 = .int .i64 k ∧ gg + k = m ∧ OwnN wr w2.heap.size s6 ((st.order.take k).filter fun (o : Nat) => !(st.chain o).contains i) ∧ OwnN wr w2.heap.size s7 ((st.order.take k).filter fun (o : Nat) => (st.chain o).contains i) ∧ (∀ g, s6.ownBlock = some g → s7.ownBlock ≠ some g) ∧ Below w2.heap.size w2 wr)
    case atStart => exact ⟨0, rfl, by omega, World.ownsRow_nil _ _ _ _, World.ownsRow_nil _ _ _ _, fun g hg => by simp [Value.ownBlock] at hg, Below.refl _ _⟩
    case round =>
      rename World => wr
      obtain ⟨k, rfl, hgk, hol, hog, hdis, hbel⟩ := hrel
      obtain ⟨la, lc, hlf⟩ := row_form hol
      obtain ⟨ga, gc, hgf⟩ := row_form hog
      obtain ⟨nL, hnL⟩ : ∃ x, ((st.order.take k).filter fun (o : Nat) => !(st.chain o).contains i).length = x := ⟨_, rfl⟩
      obtain ⟨nG, hnG⟩ : ∃ x, ((st.order.take k).filter fun (o : Nat) => (st.chain o).contains i).length = x := ⟨_, rfl⟩
      rw [hnL] at hlf
      rw [hnG] at hgf
      subst hlf hgf
      have hsz := hbel.size
      have v4 := (hbel.cell (p := ⟨c, 4, none⟩) kl).trans k4
      have v3 := (hbel.cell (p := ⟨c, 3, none⟩) kl).trans k3
      have vf := (hbel.frozen (p := ⟨c, 4, none⟩) kl).trans f4
      have hbL : nL ≤ 12 := by
        have h1 := List.length_filter_le (fun (o : Nat) => !(st.chain o).contains i) (st.order.take k)
        rw [List.length_take] at h1
        have h2 := HHm.out
        omega
      have hbG : nG ≤ 12 := by
        have h1 := List.length_filter_le (fun (o : Nat) => (st.chain o).contains i) (st.order.take k)
        rw [List.length_take] at h1
        have h2 := HHm.out
        omega
      cases gk with
      | zero =>
        have hlt : ¬ (k : Int) < (m : Int) := by omega
        have hfull : st.order.take k = st.order := List.take_of_length_le (by have := HHm.out; omega)
        rw [hfull] at hol hog hnL hnG
        have hrr := HH.out.1.below hbel
        have hsr := HH.out.2.below hbel
        have hS : ∀ g, S g → grow S w wr g := fun _ h => grow_self h
        have hz2 := HO2.out.size
        have r3 := hrr.setOrd (S' := grow S w wr) (ov' := .slice la nL lc) (ord' := (rm st i).order) hS (OwnN.rowS (E := (rm st i).order) hol fun g hg => .inr ⟨by have := (hol.lt g hg).1; omega, (hol.lt g hg).2⟩)
        have hsS := hsr.setC (S' := grow S w wr) (j := 4) (u := .slice la nL lc) hS hrr.scr
        have hO3 : Only S w (wr.setCell ⟨c, 4, none⟩ (.slice la nL lc)) := (HO2.out.after hbel).set (p := ⟨c, 4, none⟩) (.inl hrr.own) _
        have hog3 : OwnN (wr.setCell ⟨c, 4, none⟩ (.slice la nL lc)) w2.heap.size (.slice ga nG gc) (st.gone i) := OwnN.keep hog fun b hb => heap_setCell_other wr ⟨c, 4, none⟩ b _ (by have h1 := (hog.lt b hb).1; show b ≠ c; omega)
        have hz3 : (wr.setCell ⟨c, 4, none⟩ (.slice la nL lc)).heap.size = wr.heap.size := by simp
        obtain ⟨sg, scap, es, hSg, hsc, hsgl, _, _⟩ := hrr.at (show 0 < st.sfs.length from by have := hw.lt hio; omega)
        rw [es] at r3
        have H3 := hide (And.intro r3 (And.intro hsS (And.intro hO3 hog3)))
        have hnG2 : (st.gone i).length = nG := hnG
        have HNG := hide hnG2
        clear r3 hsS hO3 hog3 hol hog hrr hsr hdis hnL hnG hnG2 hbel
        go_upto_region 15 with fail
        generalize wr.setCell ⟨c, 4, none⟩ (.slice la nL lc) = w3 at *
        go_wp2
        go_loopg [10] nG (fun gg s10 wq => ∃ j : Nat, s10 = .int .i64 j ∧ gg + j = nG ∧ RRaw wq (grow S w wr) c st.w st.h st.sfs.length (rm st i).order bv (.slice (some ⟨sg, 0, none⟩) st.sfs.length scap) (.slice la nL lc) (goneF F ((st.gone i).take j)) ∧ TurT (grow S w wr) 118 w3 wq)
        case atStart => exact ⟨0, rfl, by omega, by rw [List.take_zero, goneF_nil]; exact H3.out.1, TurT.refl _ _ _⟩
        case round =>
          rename World => wq
          obtain ⟨j, rfl, hgj, hrq, htq⟩ := hrel
          obtain ⟨q0, q1, q2, q3, q4, qf, ql⟩ := hrq.cells
          have hogq : OwnN wq w2.heap.size (.slice ga nG gc) (st.gone i) := OwnN.keep H3.out.2.2.2 fun b hb => by
            obtain ⟨cc, hc⟩ := own_type H3.out.2.2.2 hb
            exact htq.other hc (by decide)
          cases gk with
          | zero =>
            have hlt2 : ¬ (j : Int) < (nG : Int) := by omega
            have HQ := hide (And.intro hrq htq)
            clear hrq htq
            go_wp2
            go_ret
            have hfg : (st.gone i).take j = st.gone i := List.take_of_length_le (by have := HNG.out; omega)
            have hr9 := HQ.out.1
            rw [hfg] at hr9
            have hzq := HQ.out.2.size
            refine ⟨rfl, RefOk.mono (S := grow S w wr) ⟨bv, .slice (some ⟨sg, 0, none⟩) (rm st i).sfs.length scap, .slice la nL lc, goneF F (st.gone i), by rw [← rm_len st i] at hr9; exact hr9, ?_⟩ (fun g hg => ?_), ?_⟩
            · have h8 := rsem_gone (S' := grow S w wr) (w2 := wq) hw H3.out.2.1 (fun _ h => h) (fun b cur hb => HQ.out.2.other hb (by decide)) i
              exact h8
            · rcases hg with hg | hg
              · exact .inl hg
              · exact .inr ⟨hg.1, by omega⟩
            · refine H3.out.2.2.1.trans ((HQ.out.2.only).mono fun g hg hs9 => ?_)
              rcases hs9 with hs9 | hs9
              · exact .inl hs9
              · exact .inr ⟨hs9.1, by omega⟩
          | succ gj =>
            have hlt2 : (j : Int) < (nG : Int) := by omega
            have hjG : j < (st.gone i).length := by have := HNG.out; omega
            obtain ⟨gg9, gc9, eg, hgcap, _, cg⟩ := hogq.at hjG
            rw [HNG.out] at eg hgcap
            injection eg with eg1 eg2 eg3
            subst eg1 eg3
            obtain ⟨d, hd⟩ : ∃ d, (st.gone i)[j] = d := ⟨_, rfl⟩
            rw [hd] at cg
            have hdl : d < st.sfs.length := by rw [← hd]; exact hw.lt (gone_mem.1 (List.getElem_mem hjG)).1
            obtain ⟨sg2, sc2, es2, _, hsc2, _, ec, ef⟩ := hrq.at (by omega)
            injection es2 with es21 es22 es23
            injection es21 with es21
            injection es21 with es21
            subst es21 es23
            have cd := ec d hdl 0 (by omega)
            have fd := ef (d * 28)
            rw [Nat.add_zero] at cd
            have hrq2 := hrq.set hdl (show 0 < 28 by omega) (.bool false)
            rw [goneF_more, Nat.add_zero] at hrq2
            obtain ⟨hSg2, cur, hcur⟩ := hrq.gType
            have htq2 := htq.trans (TurT.set hcur hSg2 (d * 28) (.bool false))
            have e9 : (st.gone i).take j ++ [d] = (st.gone i).take (j + 1) := by rw [List.take_succ_eq_append_getElem hjG, hd]
            rw [e9] at hrq2
            obtain ⟨nS, hnS⟩ : ∃ x, st.sfs.length = x := ⟨_, rfl⟩
            rw [hnS] at q3 hsc2 hdl
            have hmd := hw.made
            rw [hnS] at hmd
            have hdI : (d : Int) < (nS : Int) := by omega
            have hd0 : (0 : Int) ≤ (d : Int) := by omega
            have hj0 : (0 : Int) ≤ (j : Int) := by omega
            have hdc : d < scap := by omega
            have hjc : j < gc := by omega
            have HQ := hide (And.intro hrq2 htq2)
            clear hrq htq hrq2 htq2 hogq ec ef hcur e9 hd hnS hjG
            go_upto_region 18 with fail
            go_region
            all_goals
              go_wp2
              go_roundg gj
              case measure => omega
              case rel => exact ⟨j + 1, by go_num, by omega, HQ.out.1.keep (w' := (wq.setCell ⟨sg, d * 28, none⟩ (.bool false)).drew) (fun _ _ _ => rfl), HQ.out.2.drew⟩
      | succ gk =>
        have hlt : (k : Int) < (m : Int) := by omega
        have hkL : k < st.order.length := by have := HHm.out; omega
        obtain ⟨og, oc, eo, _, hoc, ogl, ocs⟩ := HH.out.1.ordAt (by omega)
        rw [HHm.out] at hoc eo
        injection eo with eo1 eo2 eo3
        subst eo1 eo3
        have co := (hbel.cell (p := ⟨og, k, none⟩) ogl).trans (ocs k hkL)
        obtain ⟨j, hj⟩ : ∃ j, st.order[k] = j := ⟨_, rfl⟩
        rw [hj] at co
        have hjl : j < st.sfs.length := by rw [← hj]; exact hw.lt (List.getElem_mem hkL)
        have hOn := on_any (S := S) (c := c) (st := st) j i wr (HR2.out.keep fun g _ hg => hbel.block g hg) hw hjl
        have HN1 := hide (take_filter_next (fun (o : Nat) => !(st.chain o).contains i) hkL)
        have HN2 := hide (take_filter_next (fun (o : Nat) => (st.chain o).contains i) hkL)
        obtain ⟨t, ht⟩ : ∃ t, (st.chain j).contains i = t := ⟨_, rfl⟩
        rw [hj] at HN1 HN2
        simp only [ht] at HN1 HN2
        rw [ht] at hOn
        have hkc : k < ocap := by omega
        have HO := hide (And.intro hol (And.intro hog (And.intro hdis (And.intro hbel (And.intro hnL hnG)))))
        have HOn := hide hOn
        clear hol hog hdis hbel hnL hnG ocs eo2 hkL hj hjl ht hOn
        cases t with
        | true =>
          go_wp2_with (first
            | (go_at_call 56; refine HOn.out.mono ?_; rintro e w' ⟨rfl, hw'⟩; replace hw' := hw'.symm; subst hw')
            | (at_builtin; refine wpList_append_natL rfl (.tmp 41) (.tmp 49) rfl w2.heap.size _ _ rfl (HO.out.2.1.alloc _) wr.heap.size j rfl (heap_alloc_new wr _) (by rw [HO.out.2.2.2.2.2]; omega) (by simp; omega) ?_; intro v5 w5 ho5 hg5 ha5; have HB5 := hide ((HO.out.2.2.2.1.alloc hsz _).grown hg5 (by simp; omega) (fun k hk => (HO.out.2.1.lt k hk).1)); have H5 := hide (And.intro ho5 (And.intro hg5 ha5)); clear ho5 hg5 ha5))
          go_roundg gk
          case measure => omega
          case rel =>
            have hk9 : ∀ g, (Value.slice la nL lc).ownBlock = some g → w5.heap[g]? = wr.heap[g]? := fun g hg => by
              have h1 := HO.out.1.lt g hg
              rw [H5.out.2.1.block g (by simp; omega) (fun e => HO.out.2.2.1 g hg e.symm)]
              exact heap_old wr _ g h1.2
            refine ⟨k + 1, by go_num, by omega, ?_, ?_, fun g hg e => ?_, HB5.out⟩
            · have e9 : (st.order.take (k + 1)).filter (fun (o : Nat) => !(st.chain o).contains i) = (st.order.take k).filter fun (o : Nat) => !(st.chain o).contains i := by rw [HN1.out]; simp
              rw [e9]
              exact HO.out.1.keep hk9
            · have e9 : (st.order.take (k + 1)).filter (fun (o : Nat) => (st.chain o).contains i) = (st.order.take k).filter (fun (o : Nat) => (st.chain o).contains i) ++ [j] := by rw [HN2.out]; simp
              rw [e9]
              exact H5.out.1
            · rcases H5.out.2.2 with h | h
              · rw [h] at e; exact HO.out.2.2.1 g hg e
              · rw [h] at e
                have h1 := (HO.out.1.lt g hg).2
                simp at e
                omega
        | false =>
          go_wp2_with (first
            | (go_at_call 56; refine HOn.out.mono ?_; rintro e w' ⟨rfl, hw'⟩; replace hw' := hw'.symm; subst hw')
            | (at_builtin; refine wpList_append_natL rfl (.tmp 51) (.tmp 59) rfl w2.heap.size _ _ rfl (HO.out.1.alloc _) wr.heap.size j rfl (heap_alloc_new wr _) (by rw [HO.out.2.2.2.2.1]; omega) (by simp; omega) ?_; intro v5 w5 ho5 hg5 ha5; have HB5 := hide ((HO.out.2.2.2.1.alloc hsz _).grown hg5 (by simp; omega) (fun k hk => (HO.out.1.lt k hk).1)); have H5 := hide (And.intro ho5 (And.intro hg5 ha5)); clear ho5 hg5 ha5))
          go_roundg gk
          case measure => omega
          case rel =>
            have hk9 : ∀ g, (Value.slice ga nG gc).ownBlock = some g → w5.heap[g]? = wr.heap[g]? := fun g hg => by
              have h1 := HO.out.2.1.lt g hg
              rw [H5.out.2.1.block g (by simp; omega) (fun e => HO.out.2.2.1 g e.symm hg)]
              exact heap_old wr _ g h1.2
            refine ⟨k + 1, by go_num, by omega, ?_, ?_, fun g hg e => ?_, HB5.out⟩
            · have e9 : (st.order.take (k + 1)).filter (fun (o : Nat) => !(st.chain o).contains i) = (st.order.take k).filter (fun (o : Nat) => !(st.chain o).contains i) ++ [j] := by rw [HN1.out]; simp
              rw [e9]
              exact H5.out.1
            · have e9 : (st.order.take (k + 1)).filter (fun (o : Nat) => (st.chain o).contains i) = (st.order.take k).filter fun (o : Nat) => (st.chain o).contains i := by rw [HN2.out]; simp
              rw [e9]
              exact HO.out.2.1.keep hk9
            · rcases H5.out.2.2 with h | h
              · rw [h] at hg; exact HO.out.2.2.1 g hg e
              · rw [h] at hg
                have h1 := (HO.out.2.1.lt g e).2
                simp at hg
                omega

end Go.Proofs.YtlaflopimpnjpaaGreat

/-! Pix -/
namespace Go.Proofs.YtlaflopimpnjpaaGreat
open Go.RowKit

/-- May a pixel be? -/
def fitB (a b c d : Int) : Bool := decide (a ≤ d ∧ b ≤ d ∧ c ≤ d)

theorem ret_bool {a b : Bool} (h : a = b) : Ending.returned (.bool a) = .returned (.bool b) := by rw [h]

set_option maxHeartbeats 400000 in
theorem mayBe_any (a b c d : Int) (w : World) :
    Calls Tryz.prog 98 #[.agg #[.int .u8 a, .int .u8 b, .int .u8 c, .int .u8 d]] w fun e w' =>
      e = .returned (.bool (fitB a b c d)) ∧ w' = w.alloc (.cells #[.int .u8 a, .int .u8 b, .int .u8 c, .int .u8 d] 55) := by
  go_enter Tryz.func98, Tryz.ntmps98
  go_wp2
  all_goals
    go_ret
    refine ⟨ret_bool ?_, rfl⟩
    unfold fitB
    rw [decide_eq_decide]
    omega

set_option maxHeartbeats 400000 in
theorem fits_any (a b c d : Int) (w : World) :
    Calls Tryz.prog 100 #[.agg #[.int .u8 a, .int .u8 b, .int .u8 c, .int .u8 d]] w fun e w' =>
      e = .returned (.bool (fitB a b c d)) ∧ w' = w.alloc (.cells #[.int .u8 a, .int .u8 b, .int .u8 c, .int .u8 d] 55) := by
  go_enter Tryz.func100, Tryz.ntmps100
  go_wp2
  all_goals
    go_ret
    refine ⟨ret_bool ?_, rfl⟩
    unfold fitB
    rw [Bool.eq_iff_iff]
    try rw [decide_eq_true_eq]
    try rw [decide_eq_true_eq]
    simp only [Bool.false_eq_true, false_iff, *]
    try simp
    try omega

/-- One of the four of a pixel s over a pixel d: 'a' is the alpha of s. -/
def mix (s d a : Int) : Int := (s + (d * (255 - a) + 127) / 255) % 256

theorem mul_bd (e d : Int) (he : 0 ≤ e ∧ e ≤ 255) (hd : 0 ≤ d ∧ d ≤ 255) : 0 ≤ e * (255 - d) ∧ e * (255 - d) ≤ 65025 := by
  refine ⟨Int.mul_nonneg he.1 (by omega), ?_⟩
  have h1 : e * (255 - d) ≤ 255 * (255 - d) := Int.mul_le_mul_of_nonneg_right he.2 (by omega)
  omega

set_option maxHeartbeats 1000000 in
theorem over_any (a b c d e f g h : Int) (w : World) (hd : 0 ≤ d ∧ d ≤ 255) (he : 0 ≤ e ∧ e ≤ 255) (hf : 0 ≤ f ∧ f ≤ 255) (hg : 0 ≤ g ∧ g ≤ 255) (hh : 0 ≤ h ∧ h ≤ 255) :
    Calls Tryz.prog 99 #[.agg #[.int .u8 a, .int .u8 b, .int .u8 c, .int .u8 d], .agg #[.int .u8 e, .int .u8 f, .int .u8 g, .int .u8 h]] w fun x w' =>
      x = .returned (.agg #[.int .u8 (mix a e d), .int .u8 (mix b f d), .int .u8 (mix c g d), .int .u8 (mix d h d)]) ∧ Below w.heap.size w w' := by
  have m0 := mul_bd e d he hd
  have m1 := mul_bd f d hf hd
  have m2 := mul_bd g d hg hd
  have m3 := mul_bd h d hh hd
  go_enter Tryz.func99, Tryz.ntmps99
  go_wp2
  refine wp_loop_rounds 5 ?_
  rw [rounds_succ]
  go_wp2
  go_region
  go_wp2
  rw [rounds_succ]
  go_wp2
  go_region
  go_wp2
  rw [rounds_succ]
  go_wp2
  go_region
  go_wp2
  rw [rounds_succ]
  go_wp2
  go_region
  go_wp2
  rw [rounds_succ]
  go_wp2
  refine bodyPost_ret (v := .agg #[.int .u8 (mix a e d), .int .u8 (mix b f d), .int .u8 (mix c g d), .int .u8 (mix d h d)]) (by simp [results, Tryz.results99, go_sem, mix]) rfl ⟨rfl, ?_⟩
  repeat (first | exact Below.refl _ _ | refine Below.drew ?_ | refine Below.setCell ?_ (by simp) _ | refine Below.alloc ?_ (by simp <;> omega) _)

set_option maxHeartbeats 1000000 in
theorem laid_any (a b c d e f g h : Int) (w : World) (ha : 0 ≤ a ∧ a ≤ 255) (hb : 0 ≤ b ∧ b ≤ 255) (hc : 0 ≤ c ∧ c ≤ 255) (hd : 0 ≤ d ∧ d ≤ 255) (he : 0 ≤ e ∧ e ≤ 255) (hf : 0 ≤ f ∧ f ≤ 255) (hg : 0 ≤ g ∧ g ≤ 255) (hh : 0 ≤ h ∧ h ≤ 255) :
    Calls Tryz.prog 101 #[.agg #[.int .u8 a, .int .u8 b, .int .u8 c, .int .u8 d], .agg #[.int .u8 e, .int .u8 f, .int .u8 g, .int .u8 h]] w fun x w' =>
      x = .returned (.agg #[.int .u8 (mix a e d), .int .u8 (mix b f d), .int .u8 (mix c g d), .int .u8 (mix d h d)]) ∧ Below w.heap.size w w' := by
  have m0 := mul_bd e d he hd
  have m1 := mul_bd f d hf hd
  have m2 := mul_bd g d hg hd
  have m3 := mul_bd h d hh hd
  go_enter Tryz.func101, Tryz.ntmps101
  go_wp2
  refine wp_loop_rounds 5 ?_
  rw [rounds_succ]
  go_wp2
  go_region
  go_wp2
  rw [rounds_succ]
  go_wp2
  go_region
  go_wp2
  rw [rounds_succ]
  go_wp2
  go_region
  go_wp2
  rw [rounds_succ]
  go_wp2
  go_region
  go_wp2
  rw [rounds_succ]
  go_wp2
  refine bodyPost_ret (v := .agg #[.int .u8 (mix a e d), .int .u8 (mix b f d), .int .u8 (mix c g d), .int .u8 (mix d h d)]) (by simp [results, Tryz.results101, go_sem, mix]) rfl ⟨rfl, ?_⟩
  repeat (first | exact Below.refl _ _ | refine Below.drew ?_ | refine Below.setCell ?_ (by simp) _ | refine Below.alloc ?_ (by simp <;> omega) _)


theorem bcell {W w1 : World} (hb : Below W.heap.size W w1) : (∀ b o, b < W.heap.size → w1.cell? ⟨b, o, none⟩ = W.cell? ⟨b, o, none⟩) ∧ (∀ b o, b < W.heap.size → w1.frozen? ⟨b, o, none⟩ = W.frozen? ⟨b, o, none⟩) :=
  ⟨fun b o h => hb.cell (p := ⟨b, o, none⟩) h, fun b o h => hb.frozen (p := ⟨b, o, none⟩) h⟩

end Go.Proofs.YtlaflopimpnjpaaGreat
