import Derived.Test.YtofinpocigbbeaaGreatKbo
import Derived.Test.YtofinpocigbbeaaGreatKbj
namespace Go.Proofs.YtofinpocigbbeaaGreat
open Go.RowKit
attribute [local go_sem ↓] Go.wp_at_zero Go.wp_at_succ

/-- How the canvas is behind a call that damages so, or not at all. -/
def DamTo (d d' : Cv) : Option (List R4) → Prop
  | none => d' = d
  | some l => DamBy d d' l

def FDPost (S : Nat → Prop) (x : Nat) (d : Cv) (p : Int × St) (dm : Option (List R4)) (w : World) (e : Ending) (w' : World) : Prop := e = .returned (.int .i64 p.1) ∧ (∃ d', FullC w' (grow S w w') x p.2 d' ∧ DamTo d d' dm) ∧ Only S w w'

theorem FDPost.same {S : Nat → Prop} {x : Nat} {st : St} {d : Cv} {w : World} (h : FullC w S x st d) (er : Int) : FDPost S x d (er, st) none w (.returned (.int .i64 er)) w :=
  ⟨rfl, ⟨d, h.mono fun _ hg => .inl hg, rfl⟩, Only.refl _ _⟩

/-- The damage of a call is told to the canvas. -/
theorem FullM.damage {w w1 : World} {S A B : Nat → Prop} {x : Nat} {st st' : St} {d : Cv} {c : Nat} (h : FullM w A B x st d c) (hA : ∀ g, A g → S g) (hB : ∀ g, B g → S g) (hp : PaneOk w1 (grow A w w1) x st' (ptrV c)) (ho : Only A w w1) (hw : st'.w = st.w) (hh : st'.h = st.h) (l : List R4) (v : Value) (hv : OwnR w1 w.heap.size v l) (hl : ∀ r ∈ l, OnS st.w st.h r) (hn : l.length ≤ 1000) (V : World) (hV : Below w1.heap.size w1 V) :
    Calls Tryz.prog 63 #[.pointer (some ⟨c, 0, none⟩), v] V fun e w' => e = .returned (.tuple #[]) ∧ w'.heap[x]? = V.heap[x]? ∧ ∀ w2 : World, Below w'.heap.size w' w2 → FDPost S x d (0, st') (some l) w (.returned (.int .i64 0)) w2 := by
  have hm := h.scene hp ho hw hh
  have hd := h.ok
  have hW := hd.w1
  have hH := hd.h1
  have hl2 : ∀ r ∈ l, OnS d.W d.H r := fun r hr => by rw [h.dw, h.dh]; exact hl r hr
  have hmV := hm.keep hV.size fun g _ hg => hV.block g hg
  obtain ⟨bv, rg, dv, hc⟩ := hmV.cv
  have hvV : RectsAt V v l := (hv.belowR hV).rects
  refine (damage_any hc hd l v hvV hn fun r hr => (hl2 r hr).fit (by omega) (by omega)).mono ?_
  rintro e w' ⟨rfl, R, dv', hc', hG, hM, ho'⟩
  have hrgB : B rg := hc.rown
  have hs1 := ho.size
  have hs2 := hV.size
  have hs3 := ho'.size
  refine ⟨rfl, ?_, fun w2 h2 => ⟨rfl, ⟨{ d with dam := d.dam.set d.nw R }, ?_, R, rfl, hG, hM⟩, ?_⟩⟩
  · obtain ⟨sc', mp', blk', G', hr'⟩ := hmV.pane
    exact ho'.block x hr'.scrCells.2.2 fun e => hm.ap x hr'.own.1 (e ▸ hrgB)
  · have hs4 := h2.size
    have hnA : ∀ g, grow A w w1 g → g ≠ rg := fun g hg e => hm.ap g hg (e ▸ hrgB)
    have hfm : FullM w2 (grow A w w1) (grow B V w') x st' { d with dam := d.dam.set d.nw R } c := by
      refine ⟨?_, ⟨bv, rg, dv', hc'.below h2⟩, DamBy.ok ⟨R, rfl, hG, hM⟩ hd hl2, hm.dw, hm.dh, fun g hg => ?_, fun g hg => ?_, fun g hg hb => ?_⟩
      · exact (hmV.pane.keep fun g hg hl => ho'.block g hl (hnA g hg)).below h2
      · exact Nat.lt_of_lt_of_le (hm.la g hg) (by omega)
      · rcases hg with hg | hg
        · exact Nat.lt_of_lt_of_le (hm.lb g hg) (by omega)
        · omega
      · rcases hb with hb | hb
        · exact hm.ap g hg hb
        · have := hm.la g hg; omega
    exact ⟨_, _, c, hfm, fun g hg => hg.elim (fun q => .inl (hA g q)) fun q => .inr ⟨q.1, by omega⟩, fun g hg => hg.elim (fun q => .inl (hB g q)) fun q => .inr ⟨by omega, by omega⟩⟩
  · refine ((((ho.mono fun g _ hg => hA g hg).after hV).trans (ho'.mono fun g _ hg => ?_)).after h2)
    exact .inl (by rw [hg]; exact hB rg hrgB)

def St.dmDestroy (st : St) (id : Int) : Option (List R4) := if st.isB id = true then some ((st.visAll id.toNat).map st.seen) else none
def St.dmCommit (st : St) (id : Int) : Option (List R4) := if st.isB id = true then some (st.cmDam id.toNat) else none

set_option maxRecDepth 100000 in
set_option maxHeartbeats 1000000 in
theorem fuCommit_any {S : Nat → Prop} {x : Nat} {st : St} {d : Cv} (hf : Fine st) (id : Int) (w : World) (h : FullC w S x st d) :
    Calls Tryz.prog 30 #[.pointer (some ⟨x, 0, none⟩), .int .i64 id] w (FDPost S x d (opCommit st id) (st.dmCommit id) w) := by
  have hw := hf.wf
  have hB := isB_iff hw id
  have HE := hide (FDPost.same h 6)
  obtain ⟨A, B, c, h1, h2, h3⟩ := h
  obtain ⟨sc, mp, blk, G, hr⟩ := h1.pane
  obtain ⟨x0, x1, xl⟩ := hr.scrCells
  unfold opCommit St.dmCommit
  obtain ⟨t, ht⟩ : ∃ t, st.isB id = t := ⟨_, rfl⟩
  rw [ht] at hB ⊢
  cases t with
  | false =>
    rw [if_neg (by simp), if_neg (by simp)]
    have HS := hide (scSurface_no hr id (isB_no hw ht))
    unfold ptrV at x0
    clear hB hr h1 h2 h3 ht x1
    go_enter Tryz.func30, Tryz.ntmps30
    go_wp2_with (go_at_call 58; refine HS.out.mono ?_; rintro e w' ⟨rfl, hw'⟩; replace hw' := hw'.symm; subst hw')
    go_ret
    exact HE.out
  | true =>
    rw [if_pos rfl, if_pos rfl]
    obtain ⟨i, rfl, hio⟩ := hB.1 rfl
    rw [Int.toNat_natCast]
    have HS := hide (scSurface_ok hr i hio)
    have hic : i ∈ (cm st i).order := (cm_perm hw hf.sib hio).mem_iff.2 hio
    have hlen : (st.cmDam i).length ≤ 1000 := by
      have a1 := visAll_len hw (live_nat hio)
      have a2 := visAll_len (cm_wf hw hf.sib hio) (live_nat hic)
      unfold St.cmDam
      split
      · simp only [List.length_append, List.length_map]
        omega
      · simp
    obtain ⟨ib, hib⟩ : ∃ ib, blk i = ib := ⟨_, rfl⟩
    have HC : Hid (∀ V : World, Below w.heap.size w V → Calls Tryz.prog 64 #[.pointer (some ⟨ib, 0, none⟩)] V fun e w' => ∃ v, e = .returned v ∧ w'.cell? ⟨x, 1, none⟩ = some (.pointer (some ⟨c, 0, none⟩)) ∧ ∀ V2 : World, Below w'.heap.size w' V2 → Calls Tryz.prog 63 #[.pointer (some ⟨c, 0, none⟩), v] V2 fun e w3 => e = .returned (.tuple #[]) ∧ ∀ w2 : World, Below w3.heap.size w3 w2 → FDPost S x d (0, cm st i) (some (st.cmDam i)) w (.returned (.int .i64 0)) w2) := fun V hV => by
      rw [← hib]
      refine (sfCommit_any hf (hr.below hV) (fun g hg => Nat.lt_of_lt_of_le (h1.la g hg) hV.size) i hio).mono ?_
      rintro e w' ⟨v, rfl, r1, r2, r3⟩
      have hs := hV.size
      have r2' : PaneOk w' (grow A w w') x (cm st i) (ptrV c) := r2.mono fun g hg => hg.elim (fun q => .inl q) fun q => .inr ⟨by omega, q.2⟩
      refine ⟨v, rfl, ?_, fun V2 hV2 => ?_⟩
      · obtain ⟨sc', mp', blk', G', hr'⟩ := r2
        exact hr'.scrCells.2.1
      · exact (h1.damage h2 h3 r2' ((Only.below hV).trans (r3.mono fun g _ hg => .inl hg)) rfl rfl _ v (r1.lower hs) cmDam_on hlen V2 hV2).mono fun e w3 q => ⟨q.1, q.2.2⟩
    have HX : Hid (∀ V : World, Below w.heap.size w V → V.cell? ⟨x, 1, none⟩ = some (.pointer (some ⟨c, 0, none⟩))) := fun V hV => ((hr.below hV).scrCells).2.1
    unfold ptrV at x0 x1
    rw [hib] at HS
    clear hB hr h1 h2 h3 ht hlen hic hib HE hio hf hw
    go_enter Tryz.func30, Tryz.ntmps30
    go_upto_region 4 with (go_at_call 58; refine HS.out.mono ?_; rintro e w' ⟨rfl, hw'⟩; replace hw' := hw'.symm; subst hw')
    go_cut [] (fun wx => Hid (FDPost S x d (0, cm st i) (some (st.cmDam i)) w (.returned (.int .i64 0)) wx))
    case first =>
      clear x0
      go_region_with (first
        | (go_at_call 64; refine (HC.out _ ?_).mono ?_; (repeat (first | with_reducible exact Below.refl _ _ | with_reducible refine Below.drew ?_)); rintro e w1 ⟨v, rfl, hx1, hdm⟩; have HD := hide hdm; clear hdm)
        | (go_at_call 63; refine (HD.out _ ?_).mono ?_; (repeat (first | with_reducible exact Below.refl _ _ | with_reducible refine Below.drew ?_)); rintro e w2 ⟨rfl, hen⟩; have HN := hide hen; clear hen))
      all_goals go_wp2_with fail
      all_goals go_meet
      all_goals exact HN.out _ (by repeat (first | with_reducible exact Below.refl _ _ | with_reducible refine Below.drew ?_))
    case rest =>
      go_wp2_with fail
      go_ret
      exact hcut.out

set_option maxRecDepth 100000 in
set_option maxHeartbeats 1000000 in
theorem fuDestroy_any {S : Nat → Prop} {x : Nat} {st : St} {d : Cv} (hw : Wf st) (id : Int) (w : World) (h : FullC w S x st d) :
    Calls Tryz.prog 32 #[.pointer (some ⟨x, 0, none⟩), .int .i64 id] w (FDPost S x d (opDestroy st id) (st.dmDestroy id) w) := by
  have hB := isB_iff hw id
  have HE := hide (FDPost.same h 6)
  obtain ⟨A, B, c, h1, h2, h3⟩ := h
  obtain ⟨sc, mp, blk, G, hr⟩ := h1.pane
  obtain ⟨x0, x1, xl⟩ := hr.scrCells
  unfold opDestroy St.dmDestroy
  obtain ⟨t, ht⟩ : ∃ t, st.isB id = t := ⟨_, rfl⟩
  rw [ht] at hB ⊢
  cases t with
  | false =>
    rw [if_neg (by simp), if_neg (by simp)]
    have HS := hide (scSurface_no hr id (isB_no hw ht))
    unfold ptrV at x0
    clear hB hr h1 h2 h3 ht x1
    go_enter Tryz.func32, Tryz.ntmps32
    go_wp2_with (go_at_call 58; refine HS.out.mono ?_; rintro e w' ⟨rfl, hw'⟩; replace hw' := hw'.symm; subst hw')
    go_ret
    exact HE.out
  | true =>
    rw [if_pos rfl, if_pos rfl]
    obtain ⟨i, rfl, hio⟩ := hB.1 rfl
    rw [Int.toNat_natCast]
    have HS := hide (scSurface_ok hr i hio)
    have hlen : ((st.visAll i).map st.seen).length ≤ 1000 := by
      have a1 := visAll_len hw (live_nat hio)
      simp only [List.length_map]
      omega
    obtain ⟨ib, hib⟩ : ∃ ib, blk i = ib := ⟨_, rfl⟩
    have HC : Hid (∀ V : World, Below w.heap.size w V → Calls Tryz.prog 66 #[.pointer (some ⟨sc, 0, none⟩), .pointer (some ⟨ib, 0, none⟩)] V fun e w' => ∃ v, e = .returned v ∧ (∀ V2 : World, Below w'.heap.size w' V2 → V2.cell? ⟨x, 0, none⟩ = some (.pointer (some ⟨sc, 0, none⟩)) ∧ V2.cell? ⟨x, 1, none⟩ = some (.pointer (some ⟨c, 0, none⟩))) ∧ ∀ V2 : World, Below w'.heap.size w' V2 → Calls Tryz.prog 63 #[.pointer (some ⟨c, 0, none⟩), v] V2 fun e w3 => e = .returned (.tuple #[]) ∧ (w3.cell? ⟨x, 0, none⟩ = some (.pointer (some ⟨sc, 0, none⟩)) ∧ w3.cell? ⟨x, 1, none⟩ = some (.pointer (some ⟨c, 0, none⟩))) ∧ ∀ w2 : World, Below w3.heap.size w3 w2 → FDPost S x d (0, rm st i) (some ((st.visAll i).map st.seen)) w (.returned (.int .i64 0)) w2) := fun V hV => by
      rw [← hib]
      refine (scDestroy_any hw (hr.below hV) (fun g hg => Nat.lt_of_lt_of_le (h1.la g hg) hV.size) i hio).mono ?_
      rintro e w' ⟨v, rfl, r1, r2, r3⟩
      have hs := hV.size
      have r2' : PaneOk w' (grow A w w') x (rm st i) (ptrV c) := r2.ok.mono fun g hg => hg.elim (fun q => .inl q) fun q => .inr ⟨by omega, q.2⟩
      have hcl : ∀ V2 : World, Below w'.heap.size w' V2 → V2.cell? ⟨x, 0, none⟩ = some (.pointer (some ⟨sc, 0, none⟩)) ∧ V2.cell? ⟨x, 1, none⟩ = some (.pointer (some ⟨c, 0, none⟩)) := fun V2 hV2 => by
        obtain ⟨mp', blk', G', hr'⟩ := r2
        have := (hr'.below hV2).scrCells
        exact ⟨this.1, this.2.1⟩
      refine ⟨v, rfl, hcl, fun V2 hV2 => ?_⟩
      refine (h1.damage h2 h3 r2' ((Only.below hV).trans (r3.mono fun g _ hg => .inl hg)) rfl rfl _ v (r1.lower hs) (vis_on st _) hlen V2 hV2).mono fun e w3 q => ⟨q.1, ?_, q.2.2⟩
      have k := hcl V2 hV2
      rw [World.cell?_of_block (w := V2) (a := ⟨x, 0, none⟩) q.2.1, World.cell?_of_block (w := V2) (a := ⟨x, 1, none⟩) q.2.1]
      exact k
    have HX : Hid (∀ V : World, Below w.heap.size w V → V.cell? ⟨x, 0, none⟩ = some (.pointer (some ⟨sc, 0, none⟩)) ∧ V.cell? ⟨x, 1, none⟩ = some (.pointer (some ⟨c, 0, none⟩))) := fun V hV => let q := (hr.below hV).scrCells; ⟨q.1, q.2.1⟩
    unfold ptrV at x0 x1
    rw [hib] at HS
    clear hB hr h1 h2 h3 ht hlen hib HE hio hw
    go_enter Tryz.func32, Tryz.ntmps32
    go_upto_region 4 with (go_at_call 58; refine HS.out.mono ?_; rintro e w' ⟨rfl, hw'⟩; replace hw' := hw'.symm; subst hw')
    go_cut [] (fun wx => Hid (FDPost S x d (0, rm st i) (some ((st.visAll i).map st.seen)) w (.returned (.int .i64 0)) wx))
    case first =>
      clear x0 x1
      go_region_held3 (fun w' => w'.cell? ⟨x, 0, none⟩ = some (.pointer (some ⟨sc, 0, none⟩)) ∧ w'.cell? ⟨x, 1, none⟩ = some (.pointer (some ⟨c, 0, none⟩)))
        (first
          | (refine HX.out _ ?_; (repeat (first | with_reducible exact Below.refl _ _ | with_reducible refine Below.drew ?_)); done)
          | exact HZ.out
          | (refine HQ.out _ ?_; (repeat (first | with_reducible exact Below.refl _ _ | with_reducible refine Below.drew ?_)); done)
          | fail)
        (first
          | (go_at_call 66; refine (HC.out _ ?_).mono ?_; (repeat (first | with_reducible exact Below.refl _ _ | with_reducible refine Below.drew ?_)); rintro e w1 ⟨v, rfl, hq, hdm⟩; have HQ := hide hq; have HD := hide hdm; clear hdm hq)
          | (go_at_call 63; refine (HD.out _ ?_).mono ?_; (repeat (first | with_reducible exact Below.refl _ _ | with_reducible refine Below.drew ?_)); rintro e w2 ⟨rfl, hz, hen⟩; have HZ := hide hz; have HN := hide hen; clear hen hz)
          | fail)
      all_goals go_wp2_with fail
      all_goals go_meet
      all_goals exact HN.out _ (by repeat (first | with_reducible exact Below.refl _ _ | with_reducible refine Below.drew ?_))
    case rest =>
      go_wp2_with fail
      go_ret
      exact hcut.out

end Go.Proofs.YtofinpocigbbeaaGreat
