import Derived.Test.YtofinpocigbbeaaGreatKbc
import Derived.Test.YtofinpocigbbeaaGreatKaf
namespace Go.Proofs.YtofinpocigbbeaaGreat
open Go.RowKit
attribute [local go_sem ↓] Go.wp_at_zero Go.wp_at_succ

theorem flat_at {α : Type} (f : α → List Value) (m : Nat) (hf : ∀ a, (f a).length = m) : ∀ (L : List α) (k j : Nat), j < m → (h : k < L.length) → (L.flatMap f)[k * m + j]? = (f L[k])[j]?
  | [], k, j, _, h => by simp at h
  | a :: L, 0, j, hj, _ => by
    rw [List.flatMap_cons, Nat.zero_mul, Nat.zero_add, List.getElem?_append_left (by rw [hf]; exact hj)]
    rfl
  | a :: L, k + 1, j, hj, h => by
    rw [List.flatMap_cons, List.getElem?_append_right (by rw [hf, Nat.succ_mul]; omega), hf, show (k + 1) * m + j - m = k * m + j by rw [Nat.succ_mul]; omega, flat_at f m hf L k j hj (by simpa using h)]
    rfl

theorem layC_len (st : St) (G : Int → Nat → Value) (i : Nat) : (layC st G i).length = 15 := rfl

/-- A list of layers in memory, from some place of a block on. -/
def LayAt (w : World) (v : Value) (st : St) (G : Int → Nat → Value) (L : List Nat) : Prop :=
  ∃ a c, v = .slice a L.length c ∧ (0 < L.length → L.length ≤ c ∧ ∃ b off, a = some ⟨b, off, none⟩ ∧ ∀ k (_ : k < L.length) j u, (layC st G L[k])[j]? = some u → w.cell? ⟨b, off + k * 15 + j, none⟩ = some u)

theorem LayAt.below {w w' : World} {v : Value} {st : St} {G : Int → Nat → Value} {L : List Nat} (h : LayAt w v st G L) (hb : Below w.heap.size w w') : LayAt w' v st G L := by
  obtain ⟨a, c, hv, hc⟩ := h
  refine ⟨a, c, hv, fun hl => ?_⟩
  obtain ⟨h1, b, off, ha, hcs⟩ := hc hl
  refine ⟨h1, b, off, ha, fun k hk j u hu => ?_⟩
  have h2 := hcs k hk j u hu
  exact (hb.cell (p := ⟨b, off + k * 15 + j, none⟩) (cell_lt h2)).trans h2

theorem OwnL.at {w : World} {base : Nat} {v : Value} {st : St} {G : Int → Nat → Value} {L : List Nat} (h : OwnL w base v st G L) : LayAt w v st G L := by
  obtain ⟨a, c, hv⟩ := row_form h
  refine ⟨a, c, hv, fun hl => ?_⟩
  obtain ⟨g, cap, e1, e2, e3⟩ := World.ownsRow.form h hl
  have hcap := own_cap (by have h9 := h; unfold OwnL at h9; rw [e1] at h9; exact h9)
  rw [hv] at e1
  injection e1 with e1 _ e4
  subst e1 e4
  refine ⟨hcap, g, 0, rfl, fun k hk j u hu => ?_⟩
  have hj : j < 15 := by
    have := (List.getElem?_eq_some_iff.1 hu).1
    rwa [layC_len] at this
  have hc := World.ownsRow.cells h (g := g) (by rw [hv]; rfl) (k * 15 + j) u (by rw [flat_at _ 15 (layC_len st G) L k j hj hk]; exact hu)
  rw [add_at] at hc
  rw [Nat.zero_add]
  exact hc

/-- The layers of a surface and of all that is on it. -/
def LaysOf (w : World) (st : St) (G : Int → Nat → Value) (blk : Int → Nat) (p : Int) : Prop :=
  Calls Tryz.prog 80 #[.pointer (some ⟨blk p, 0, none⟩), .slice none 0 0] w fun e w' => ∃ v', e = .returned v' ∧ OwnL w' w.heap.size v' st G (st.visAll p) ∧ Below w.heap.size w w'

theorem visAll_len {st : St} (hw : Wf st) {p : Int} (hp : Live st p) : (st.visAll p).length ≤ 13 := by
  have h1 := vis_len (st := st) (st.dfs p)
  have h2 := dfs_len hw (live_ge hp)
  have h3 : (st.visP p).length ≤ 1 := by
    unfold St.visP
    split
    · simp
    · exact vis_len _
  unfold St.visAll
  rw [List.length_append]
  omega

theorem PRaw.lays {w : World} {S : Nat → Prop} {x : Nat} {st : St} (hw : Wf st) {bv : Value} {sc mp : Nat} {blk : Int → Nat} {G : Int → Nat → Value} (h : PRaw w S x st bv sc mp blk G) {p : Int} (hp : Live st p) : LaysOf w st G blk p := by
  have := layers_of hw h (fun p hp W hW => view_any hw h p hp W hW) (st.need p) p hp (Nat.le_refl _) [] (.slice none 0 0) w (by have := visAll_len hw hp; simp; omega) (Below.refl _ _) (World.ownsRow_nil _ _ _ _)
  unfold LaysOf
  simpa using this

theorem visAll_sub {st : St} (hw : Wf st) {p : Int} (hp : Live st p) {i : Nat} (h : i ∈ st.visAll p) : i ∈ st.order := by
  unfold St.visAll at h
  rcases List.mem_append.1 h with h | h
  · unfold St.visP at h
    rcases hp with rfl | ⟨k, rfl, hk⟩
    · simp at h
    · rw [if_neg (nat_ne_top k), Int.toNat_natCast] at h
      unfold St.vis at h
      rw [List.mem_filter, List.mem_singleton] at h
      rw [h.1]
      exact hk
  · unfold St.vis at h
    rw [List.mem_filter] at h
    exact dfs_sub hw (live_ge hp) h.1

theorem PRaw.sl {w : World} {S : Nat → Prop} {x : Nat} {st : St} (hw : Wf st) {bv : Value} {sc mp : Nat} {blk : Int → Nat} {G : Int → Nat → Value} (h : PRaw w S x st bv sc mp blk G) {p : Int} (hp : Live st p) : ∀ i : Nat, i ∈ st.visAll p → (∃ a m c, G i 5 = .slice a m c) ∧ ∃ a m c, G i 30 = .slice a m c := fun i hi => by
  have q := (h.cells i (live_nat (visAll_sub hw hp hi))).nat
  obtain ⟨_, _, a, m, c, _, _, e⟩ := q.kep
  exact ⟨q.now.pix, a, m, c, e⟩

set_option maxRecDepth 100000 in
set_option maxHeartbeats 2000000 in
/-- (*Surface).seenParts -/
theorem seenParts_any {w : World} {st : St} (hw : Wf st) {blk : Int → Nat} {G : Int → Nat → Value} {p : Int} (hp : Live st p) (h : LaysOf w st G blk p) (hs : ∀ i : Nat, i ∈ st.visAll p → (∃ a m c, G i 5 = .slice a m c) ∧ ∃ a m c, G i 30 = .slice a m c) :
    Calls Tryz.prog 106 #[.pointer (some ⟨blk p, 0, none⟩)] w fun e w' => ∃ v, e = .returned v ∧ OwnR w' w.heap.size v ((st.visAll p).map st.seen) ∧ Below w.heap.size w w' := by
  have hl := visAll_len hw hp
  obtain ⟨L, hL⟩ : ∃ L, st.visAll p = L := ⟨_, rfl⟩
  unfold LaysOf at h
  rw [hL] at h hl hs ⊢
  have HLy := hide h
  obtain ⟨i0, hi0, hz0, hz1, hz2⟩ := info_parts rectInfo
  obtain ⟨n, hn⟩ : ∃ n, L.length = n := ⟨_, rfl⟩
  rw [hn] at hl
  have HN := hide hn
  have HS := hide hs
  obtain ⟨pb, hpb⟩ : ∃ pb, blk p = pb := ⟨_, rfl⟩
  rw [hpb] at HLy ⊢
  clear h hn hL hpb hs
  go_enter Tryz.func106, Tryz.ntmps106
  go_wp2_with (go_at_call 80; refine HLy.out.mono ?_; rintro e w1 ⟨v1, rfl, hv1, hb1⟩; have HV1 := hide hv1.at; obtain ⟨la, lc, hvf, _⟩ := hv1.at; rw [HN.out] at hvf; subst hvf; have HB1 := hide hb1; clear hv1 hb1)
  go_loopg [3, 9] n (fun gg s3 s9 wr => ∃ k : Nat, s9 = .int .i64 k ∧ gg + k = n ∧ OwnR wr w1.heap.size s3 ((L.take k).map st.seen) ∧ Below w1.heap.size w1 wr)
  case atStart => exact ⟨0, rfl, by omega, ⟨World.ownsRow_nil _ _ _ _, fun _ => rfl⟩, Below.refl _ _⟩
  case round =>
    rename World => wr
    obtain ⟨k, rfl, hgk, hown, hbel⟩ := hrel
    obtain ⟨ra, rcp, rfl⟩ := hown.form
    have hmm : ((L.take k).map st.seen).length = k := by rw [List.length_map, List.length_take]; have := HN.out; omega
    rw [hmm]
    have HMM := hide hmm
    have HX := hide (And.intro hown hbel)
    clear hmm
    cases gk with
    | zero =>
      have hlt : ¬ (k : Int) < (n : Int) := by omega
      clear hown hbel
      go_wp2
      go_ret
      have ho := HX.out.1
      have hfull : L.take k = L := List.take_of_length_le (by have := HN.out; omega)
      refine ⟨_, rfl, ?_, HB1.out.trans (HX.out.2.mono HB1.out.size)⟩
      rw [HMM.out, hfull] at ho
      exact ho.lower HB1.out.size
    | succ gk =>
      have hlt : (k : Int) < (n : Int) := by omega
      have hkL : k < L.length := by have := HN.out; omega
      obtain ⟨a', c', hv', hcs⟩ := HV1.out.below hbel
      injection hv' with e1 e2 e3
      subst e1 e3
      clear e2
      obtain ⟨hlc, b, off, ha, hcell⟩ := hcs (by omega)
      subst ha
      have hc := hcell k hkL
      obtain ⟨i, hi⟩ : ∃ i, L[k] = i := ⟨_, rfl⟩
      rw [hi] at hc
      obtain ⟨⟨pa, pm, pk, hp5⟩, ⟨ka, km, kk, hk5⟩⟩ := HS.out i (by rw [← hi]; exact List.getElem_mem hkL)
      unfold layC at hc
      rw [hp5, hk5] at hc
      have c0 := hc 0 _ rfl
      have c1 := hc 1 _ rfl
      have c2 := hc 2 _ rfl
      have c3 := hc 3 _ rfl
      have c4 := hc 4 _ rfl
      have c5 := hc 5 _ rfl
      have c6 := hc 6 _ rfl
      have c7 := hc 7 _ rfl
      have c8 := hc 8 _ rfl
      have c9 := hc 9 _ rfl
      have c10 := hc 10 _ rfl
      have c11 := hc 11 _ rfl
      have c12 := hc 12 _ rfl
      have c13 := hc 13 _ rfl
      have c14 := hc 14 _ rfl
      rw [Nat.add_zero] at c0
      have hbl := cell_lt c0
      have hkc : k < lc := by have := HN.out; omega
      have HI := hide hi
      have hsz := HX.out.2.size
      generalize st.px i = z1 at *
      generalize st.py i = z2 at *
      generalize (st.sf i).now.w = z3 at *
      generalize (st.sf i).now.h = z4 at *
      obtain ⟨R, hR⟩ : ∃ R, st.seen i = R := ⟨_, rfl⟩
      rw [hR] at c5 c6 c7 c8
      have HR := hide hR
      clear hown hbel hcs hcell hc hR hi hp5 hk5
      go_wp2_with (at_builtin; refine wpList_append_lies _ rfl _ _ 33 rfl w1.heap.size 53 i0 _ 4 32 Tryz.underlying33 hi0 hz0 hz1 hz2 rfl (by omega) (.slice ra k rcp) k (rectCells ((L.take k).map st.seen)) rfl (by have := HX.out.1; have h2 := HMM.out; have h3 := this.1; rw [h2] at h3; exact (h3.alloc _).alloc _) ⟨wr.heap.size + 1, 0, none⟩ 1 1 [.int .i64 R.1, .int .i64 R.2.1, .int .i64 R.2.2.1, .int .i64 R.2.2.2] rfl rfl (World.news_of_block (cs := #[.int .i64 R.1, .int .i64 R.2.1, .int .i64 R.2.2.1, .int .i64 R.2.2.2]) (t := 53) (fr := (0, 0)) (boxed_new wr _ _ 0)) (by simp [Value.oneCell']) (by omega) (by unfold maxLen; omega) (by omega) (by simp; omega) _ rfl ?_; intro gg cp w2 hown2 hgrow hat hlt2; have HO2 := hide (And.intro hown2 hgrow); clear hown2 hgrow hat)
      go_roundg gk
      case measure => omega
      case rel =>
        have hl2 : (L.take (k + 1)).map st.seen = (L.take k).map st.seen ++ [R] := by
          rw [List.take_succ_eq_append_getElem hkL, List.map_append, HI.out]
          simp [HR.out]
        have ho := HX.out.1.1
        have h2 := HMM.out
        rw [h2] at ho
        refine ⟨k + 1, by go_num, by omega, ?_, ?_⟩
        · rw [hl2]
          refine ⟨?_, fun h => by simp at h⟩
          rw [List.length_append, HMM.out, rectCells_append]
          exact HO2.out.1
        · exact ((HX.out.2.alloc hsz _).alloc (by simp; omega) _).grown HO2.out.2 (by simp; omega) fun b hb => (ho.lt b hb).1

theorem OwnV.lower {w : World} {base base' : Nat} {v : Value} {st : St} {L : List Nat} (h : OwnV w base v st L) (hb : base' ≤ base) : OwnV w base' v st L :=
  ⟨h.1, h.2.imp (fun h => h) fun ⟨g, c, cur, e1, e2, e3⟩ => ⟨g, c, cur, e1, Nat.le_trans hb e2, e3⟩⟩

set_option maxRecDepth 100000 in
set_option maxHeartbeats 2000000 in
/-- (*Scene).Views -/
theorem scViews_any {w : World} {st : St} (hw : Wf st) {blk : Int → Nat} {G : Int → Nat → Value} {sc : Nat} (hsc : w.cell? ⟨sc, 0, none⟩ = some (.pointer (some ⟨blk (-1), 0, none⟩))) (h : LaysOf w st G blk (-1)) (hs : ∀ i : Nat, i ∈ st.visAll (-1) → (∃ a m c, G i 5 = .slice a m c) ∧ ∃ a m c, G i 30 = .slice a m c) :
    Calls Tryz.prog 45 #[.pointer (some ⟨sc, 0, none⟩)] w (ViewsPost st w) := by
  have hl := visAll_len hw (live_top st)
  have hall : st.visAll (-1) = st.vis (st.dfs (-1)) := by
    unfold St.visAll St.visP
    simp
  unfold ViewsPost
  rw [← hall]
  obtain ⟨L, hL⟩ : ∃ L, st.visAll (-1) = L := ⟨_, rfl⟩
  unfold LaysOf at h
  rw [hL] at h hl hs ⊢
  have HLy := hide h
  obtain ⟨i0, hi0, hz0, hz1, hz2⟩ := info_parts viewInfo
  obtain ⟨n, hn⟩ : ∃ n, L.length = n := ⟨_, rfl⟩
  rw [hn] at hl
  have HN := hide hn
  have HS := hide hs
  obtain ⟨pb, hpb⟩ : ∃ pb, blk (-1) = pb := ⟨_, rfl⟩
  rw [hpb] at HLy hsc
  clear h hn hL hpb hs hall
  go_enter Tryz.func45, Tryz.ntmps45
  go_wp2_with (go_at_call 80; refine HLy.out.mono ?_; rintro e w1 ⟨v1, rfl, hv1, hb1⟩; have HV1 := hide hv1.at; obtain ⟨la, lc, hvf, _⟩ := hv1.at; rw [HN.out] at hvf; subst hvf; have HB1 := hide hb1; clear hv1 hb1)
  go_loopg [3, 12] n (fun gg s3 s12 wr => ∃ k : Nat, s12 = .int .i64 k ∧ gg + k = n ∧ OwnV wr w1.heap.size s3 st (L.take k) ∧ Below w1.heap.size w1 wr)
  case atStart => exact ⟨0, rfl, by omega, World.ownsRow_nil _ _ _ _, Below.refl _ _⟩
  case round =>
    rename World => wr
    obtain ⟨k, rfl, hgk, hown, hbel⟩ := hrel
    obtain ⟨ra, rcp, hrf⟩ := row_form hown
    have hmm : (L.take k).length = k := by rw [List.length_take]; have := HN.out; omega
    rw [hmm] at hrf
    subst hrf
    have HMM := hide hmm
    have HX := hide (And.intro hown hbel)
    clear hmm
    cases gk with
    | zero =>
      have hlt : ¬ (k : Int) < (n : Int) := by omega
      clear hown hbel
      go_wp2
      go_ret
      have ho := HX.out.1
      have hfull : L.take k = L := List.take_of_length_le (by have := HN.out; omega)
      refine ⟨_, rfl, ?_, HB1.out.trans (HX.out.2.mono HB1.out.size)⟩
      rw [hfull] at ho
      exact ho.lower HB1.out.size
    | succ gk =>
      have hlt : (k : Int) < (n : Int) := by omega
      have hkL : k < L.length := by have := HN.out; omega
      obtain ⟨a', c', hv', hcs⟩ := HV1.out.below hbel
      injection hv' with e1 e2 e3
      subst e1 e3
      clear e2
      obtain ⟨hlc, b, off, ha, hcell⟩ := hcs (by omega)
      subst ha
      have hc := hcell k hkL
      obtain ⟨i, hi⟩ : ∃ i, L[k] = i := ⟨_, rfl⟩
      rw [hi] at hc
      obtain ⟨⟨pa, pm, pk, hp5⟩, ⟨ka, km, kk, hk5⟩⟩ := HS.out i (by rw [← hi]; exact List.getElem_mem hkL)
      unfold layC at hc
      rw [hp5, hk5] at hc
      have c0 := hc 0 _ rfl
      have c1 := hc 1 _ rfl
      have c2 := hc 2 _ rfl
      have c3 := hc 3 _ rfl
      have c4 := hc 4 _ rfl
      have c5 := hc 5 _ rfl
      have c6 := hc 6 _ rfl
      have c7 := hc 7 _ rfl
      have c8 := hc 8 _ rfl
      have c9 := hc 9 _ rfl
      have c10 := hc 10 _ rfl
      have c11 := hc 11 _ rfl
      have c12 := hc 12 _ rfl
      have c13 := hc 13 _ rfl
      have c14 := hc 14 _ rfl
      rw [Nat.add_zero] at c0
      have hbl := cell_lt c0
      have hkc : k < lc := by have := HN.out; omega
      have HI := hide hi
      have hsz := HX.out.2.size
      obtain ⟨C, hC⟩ : ∃ C, vCells st i = C := ⟨_, rfl⟩
      have HC := hide hC
      unfold vCells at HC
      generalize st.px i = z1 at *
      generalize st.py i = z2 at *
      generalize (st.sf i).now.w = z3 at *
      generalize (st.sf i).now.h = z4 at *
      obtain ⟨R, hR⟩ : ∃ R, st.seen i = R := ⟨_, rfl⟩
      rw [hR] at c5 c6 c7 c8 HC
      have HR := hide (And.intro hR hC)
      clear hown hbel hcs hcell hc hR hi hp5 hk5 hC
      go_wp2_with (at_builtin; refine wpList_append_lies _ rfl _ _ 56 rfl w1.heap.size 59 i0 _ 9 72 Tryz.underlying56 hi0 hz0 hz1 hz2 rfl (by omega) (.slice ra k rcp) k ((L.take k).flatMap (vCells st)) rfl (by have := HX.out.1; have h2 := HMM.out; unfold OwnV at this; rw [h2] at this; exact (this.alloc _).alloc _) ⟨wr.heap.size + 1, 0, none⟩ 1 1 [.int .i64 (i : Int), .int .i64 z1, .int .i64 z2, .int .i64 z3, .int .i64 z4, .int .i64 R.1, .int .i64 R.2.1, .int .i64 R.2.2.1, .int .i64 R.2.2.2] rfl rfl (World.news_of_block (cs := #[.int .i64 (i : Int), .int .i64 z1, .int .i64 z2, .int .i64 z3, .int .i64 z4, .int .i64 R.1, .int .i64 R.2.1, .int .i64 R.2.2.1, .int .i64 R.2.2.2]) (t := 59) (fr := (0, 0)) (boxed_new wr _ _ 0)) (by simp [Value.oneCell']) (by omega) (by unfold maxLen; omega) (by omega) (by simp; omega) _ rfl ?_; intro gg cp w2 hown2 hgrow hat hlt2; have HO2 := hide (And.intro hown2 hgrow); clear hown2 hgrow hat)
      go_roundg gk
      case measure => omega
      case rel =>
        have ho := HX.out.1
        unfold OwnV at ho
        have h2 := HMM.out
        rw [h2] at ho
        refine ⟨k + 1, by go_num, by omega, ?_, ?_⟩
        · unfold OwnV
          rw [List.take_succ_eq_append_getElem hkL, List.length_append, HMM.out, List.flatMap_append, HI.out, List.flatMap_singleton, HR.out.2, ← HC.out]
          exact HO2.out.1
        · exact ((HX.out.2.alloc hsz _).alloc (by simp; omega) _).grown HO2.out.2 (by simp; omega) fun b hb => (ho.lt b hb).1

end Go.Proofs.YtofinpocigbbeaaGreat
