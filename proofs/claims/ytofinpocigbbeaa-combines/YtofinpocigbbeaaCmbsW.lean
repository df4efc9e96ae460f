import Derived.Test.YtofinpocigbbeaaBokR
import Derived.Test.YtofinpocigbbeaaUni
namespace Go.Proofs.Ytofinpocigbbeaa
open Go.RowKit
attribute [local go_sem ↓] Go.wp_at_zero Go.wp_at_succ

theorem RectsAt.keep {w w' : World} {v : Value} {l : List (Int × Int × Int × Int)} (h : RectsAt w v l) (hk : ∀ b, v.ownBlock = some b → b < w.heap.size → w'.heap[b]? = w.heap[b]?) : RectsAt w' v l := by
  obtain ⟨a, c, hv, hc⟩ := h
  refine ⟨a, c, hv, fun hl => ?_⟩
  obtain ⟨b, off, ha, hcs⟩ := hc hl
  refine ⟨b, off, ha, fun k hk2 => ?_⟩
  obtain ⟨h1, h2, h3, h4⟩ := hcs k hk2
  have hlt := cell_lt h1
  have hbl := hk b (by rw [hv, ha]; rfl) hlt
  exact ⟨(World.cell?_of_block hbl).trans h1, (World.cell?_of_block hbl).trans h2, (World.cell?_of_block hbl).trans h3, (World.cell?_of_block hbl).trans h4⟩

theorem RectsAt.low {w : World} {v : Value} {l : List (Int × Int × Int × Int)} (h : RectsAt w v l) : ∀ b off c, v = .slice (some ⟨b, off, none⟩) l.length c → 0 < l.length → b < w.heap.size := by
  intro b off c hv hl
  obtain ⟨a, c', hv', hc⟩ := h
  obtain ⟨b', off', ha, hcs⟩ := hc hl
  rw [hv', ha] at hv
  simp only [Value.slice.injEq, Option.some.injEq, Addr.mk.injEq] at hv
  have := cell_lt (hcs 0 hl).1
  omega

theorem Lent.keep {w w' : World} {base : Nat} {v u : Value} {l : List (Int × Int × Int × Int)} (h : Lent w base v l u) (hk : ∀ g, u.ownBlock = some g → g < w.heap.size → w'.heap[g]? = w.heap[g]?) : Lent w' base v l u := by
  rcases h with h | ⟨h1, g, cap, rfl, h2, h3⟩
  · exact .inl h
  · refine .inr ⟨h1, g, cap, rfl, h2, ?_⟩
    rcases h3 with ⟨h3, _⟩ | ⟨g', cap', cur, e1, e2, e3, e4⟩
    · simp at h3
    · simp only [Value.slice.injEq, Option.some.injEq, Addr.mk.injEq, true_and, and_true] at e1
      obtain ⟨rfl, rfl⟩ := e1
      exact .inr ⟨g, cap, cur, rfl, e2, by rw [hk g rfl (Array.getElem?_eq_some_iff.1 e3).1]; exact e3, e4⟩

theorem Lent.lt {w : World} {base : Nat} {v u : Value} {l : List (Int × Int × Int × Int)} (h : Lent w base v l u) : ∀ g, u.ownBlock = some g → base ≤ g ∧ g < w.heap.size := by
  intro g hg
  rcases h with ⟨_, rfl, _⟩ | ⟨h1, g', cap, rfl, h2⟩
  · simp [Value.ownBlock] at hg
  · exact h2.lt g (by simpa [Value.ownBlock] using hg)

theorem Lent.rects {w : World} {base : Nat} {v u : Value} {l : List (Int × Int × Int × Int)} (h : Lent w base v l u) : RectsAt w u l := by
  rcases h with ⟨_, rfl, rfl⟩ | ⟨h1, g, cap, rfl, hown⟩
  · exact ⟨none, 0, rfl, fun h => by simp at h⟩
  · have cs := hown.cells (g := g) rfl
    refine ⟨_, cap, rfl, fun _ => ⟨g, 0, rfl, fun k hk => ?_⟩⟩
    have hk2 : k < (l ++ [farR, farR]).length := by simp; omega
    have e : (l ++ [farR, farR])[k] = l[k] := List.getElem_append_left hk
    obtain ⟨c1, c2, c3, c4⟩ := rectCells_at (l ++ [farR, farR]) k hk2
    rw [e] at c1 c2 c3 c4
    refine ⟨?_, ?_, ?_, ?_⟩
    · have := cs _ _ c1; rw [add_at] at this; simpa using this
    · have := cs _ _ c2; rw [add_at] at this; simpa using this
    · have := cs _ _ c3; rw [add_at] at this; simpa using this
    · have := cs _ _ c4; rw [add_at] at this; simpa using this

/-- What an answer says, but for its world's frame. -/
def Told (kind : Int) (la lb : List (Int × Int × Int × Int)) (base : Nat) (w' : World) (v : Value) (er : Int) : Prop :=
  (¬ (0 ≤ kind ∧ kind ≤ 3) ∧ v = .slice none 0 0 ∧ er = 1) ∨ ((0 ≤ kind ∧ kind ≤ 3) ∧ errB la lb ≠ 0 ∧ v = .slice none 0 0 ∧ er = errB la lb) ∨
      ((0 ≤ kind ∧ kind ≤ 3) ∧ errB la lb = 0 ∧ er = 0 ∧ ∃ O, OwnR w' base v (rc O) ∧ Good O ∧ ∀ x y, memR O x y = keepB kind (hasB la x y) (hasB lb x y))

theorem told_same {kind : Int} {la lb : List (Int × Int × Int × Int)} {b1 b2 : Nat} {w1 w2 : World} {v1 v2 : Value} {e1 e2 : Int} (h1 : Told kind la lb b1 w1 v1 e1) (h2 : Told kind la lb b2 w2 v2 e2) : e2 = e1 ∧ ∃ L, OwnR w1 b1 v1 L ∧ OwnR w2 b2 v2 L ∧ L.length ≤ 9000000 := by
  rcases h1 with ⟨a, rfl, rfl⟩ | ⟨a, b, rfl, rfl⟩ | ⟨a, b, rfl, O, ho, hg, hm⟩
  · rcases h2 with ⟨c, rfl, rfl⟩ | ⟨c, _⟩ | ⟨c, _⟩
    · exact ⟨rfl, [], ⟨World.ownsRow_nil _ _ _ _, fun _ => rfl⟩, ⟨World.ownsRow_nil _ _ _ _, fun _ => rfl⟩, by simp⟩
    · exact absurd c a
    · exact absurd c a
  · rcases h2 with ⟨c, _⟩ | ⟨c, d, rfl, rfl⟩ | ⟨c, d, _⟩
    · exact absurd a c
    · exact ⟨rfl, [], ⟨World.ownsRow_nil _ _ _ _, fun _ => rfl⟩, ⟨World.ownsRow_nil _ _ _ _, fun _ => rfl⟩, by simp⟩
    · exact absurd d b
  · rcases h2 with ⟨c, _⟩ | ⟨c, d, _⟩ | ⟨c, d, rfl, O2, ho2, hg2, hm2⟩
    · exact absurd a c
    · exact absurd b d
    · obtain rfl : O = O2 := plain_one hg hg2 fun x y => by rw [hm, hm2]
      exact ⟨rfl, rc O, ho, ho2, Nat.le_trans (rc_all hg) (by decide)⟩

set_option maxRecDepth 100000 in
set_option maxHeartbeats 1000000 in
/-- (*Play).combined. -/
theorem played_any (kind : Int) (la lb : List (Int × Int × Int × Int)) (va vb : Value) (pb : Nat) (pc : Array Value) (w : World) (ha : RectsAt w va la) (hb : RectsAt w vb lb)
    (fa : (va = .slice none 0 0 ∧ la = []) ∨ ∃ ad c, va = .slice (some ad) la.length c) (fb : (vb = .slice none 0 0 ∧ lb = []) ∨ ∃ ad c, vb = .slice (some ad) lb.length c) (ra : la.length * 32 ≤ 140737488351232) (rb : lb.length * 32 ≤ 140737488351232)
    (hpb : w.heap[pb]? = some (.cells pc 31 (0, 0))) (hp1 : pc[1]? = some (.slice none 0 0)) :
    Calls Try.prog 7 #[.pointer (some ⟨pb, 0, none⟩), .int .i64 kind, va, vb] w fun e w' => e = .returned (.bool true) ∧ Below pb w w' := by
  have hpl := (Array.getElem?_eq_some_iff.1 hpb).1
  have nilOk : ∀ (v : Value) (l : List (Int × Int × Int × Int)), ((v = .slice none 0 0 ∧ l = []) ∨ ∃ ad c, v = .slice (some ad) l.length c) → NilOk v l := fun v l h e => by
    rcases h with ⟨h, _⟩ | ⟨ad, c, h⟩
    · exact .inl h
    · exact .inr ⟨ad, c, by rw [e] at h; exact h⟩
  have HA := hide (And.intro ha (And.intro fa (And.intro ra (nilOk va la fa))))
  have HB := hide (And.intro hb (And.intro fb (And.intro rb (nilOk vb lb fb))))
  have HP := hide (And.intro hpb hp1)
  obtain ⟨xa, ca, hva⟩ := ha.form
  obtain ⟨xb, cb, hvb⟩ := hb.form
  clear ha hb fa fb ra rb hpb hp1 nilOk hva hvb xa ca xb cb
  go_enter Try.func7, Try.ntmps7
  go_wp2_with fail
  refine (lent_any la va _ HA.out.1 HA.out.2.1 HA.out.2.2.1).mono ?_
  rintro e w1 ⟨u1, rfl, hu1, b1⟩
  have H1 := hide (And.intro hu1 b1)
  clear hu1 b1
  go_wp2_with fail
  refine (lent_any lb vb _ (HB.out.1.below H1.out.2) HB.out.2.1 HB.out.2.2.1).mono ?_
  rintro e w2 ⟨u2, rfl, hu2, b2⟩
  have H2 := hide (And.intro hu2 b2)
  clear hu2 b2
  have L1 := hide (H1.out.1.keep (w' := w2) fun g _ hlt => H2.out.2.block g hlt)
  go_wp2_with fail
  refine (pcombine_any kind la lb u1 u2 _ L1.out.rects H2.out.1.rects (by have := HA.out.2.2.1; unfold maxLen; omega) (by have := HB.out.2.2.1; unfold maxLen; omega)).mono ?_
  rintro e w3 ⟨b3, v3, er, rfl, h3⟩
  have B12 := hide (H1.out.2.trans (H2.out.2.mono H1.out.2.size))
  have B13 := hide (B12.out.trans (b3.mono B12.out.size))
  have H3 := hide (And.intro b3 (show Told kind la lb w2.heap.size w3 v3 er from h3))
  clear b3 h3
  go_wp2_with fail
  refine (refCombine_any kind la lb va vb _ (HA.out.1.below B13.out) (HB.out.1.below B13.out) HA.out.2.2.2 HB.out.2.2.2 (by have := HA.out.2.2.1; unfold maxLen; omega) (by have := HB.out.2.2.1; unfold maxLen; omega)).mono ?_
  rintro e w4 ⟨b4, v4, er4, rfl, h4⟩
  obtain ⟨rfl, L, o3, o4, hL⟩ := told_same H3.out.2 (show Told kind la lb w3.heap.size w4 v4 er4 from h4)
  have B14 := hide (B13.out.trans (b4.mono B13.out.size))
  have H4 := hide (And.intro (o3.stay b4) (And.intro o4 hL))
  have L14 := hide (L1.out.keep (w' := w4) fun g _ hlt => (H3.out.1.trans (b4.mono H3.out.1.size)).block g hlt)
  have L24 := hide (H2.out.1.keep (w' := w4) fun g _ hlt => (H3.out.1.trans (b4.mono H3.out.1.size)).block g hlt)
  have z12 := H2.out.2.size
  have z01 := H1.out.2.size
  have z23 := H3.out.1.size
  have z34 := b4.size
  clear b4 h4 o3 o4 hL
  go_wp2_with fail
  refine (returned_any la u1 va w.heap.size _ (HA.out.1.below B14.out) HA.out.1.low L14.out HA.out.2.2.1).mono ?_
  rintro e w5 ⟨rfl, g5⟩
  have q1 := hide L14.out.lt
  have q2 := hide L24.out.lt
  have q1' := hide H1.out.1.lt
  have q2' := hide H2.out.1.lt
  have G5 := hide g5
  have z45 := g5.size
  clear g5
  go_wp2_with fail
  refine (returned_any lb u2 vb w1.heap.size _ (HB.out.1.keep fun b _ hlt => ?_) (fun b off c hv hl => by have := HB.out.1.low b off c hv hl; omega) (L24.out.keep fun g hg hlt => ?_) HB.out.2.2.1).mono ?_
  · rw [G5.out.block b (by omega) (fun e => by have := (q1.out b e.symm).1; omega)]
    exact B14.out.block b hlt
  · exact G5.out.block g hlt (fun e => by have h1 := (q1'.out g e.symm).2; have h2 := (q2.out g hg).1; omega)
  rintro e w6 ⟨rfl, g6⟩
  have B16 := hide ((B14.out.grown G5.out (by omega) fun k hk => (q1.out k hk).1).grown g6 (by omega) fun k hk => by have := (q2.out k hk).1; omega)
  have z56 := g6.size
  have O3 := hide (H4.out.1.keep (w' := w6) fun g hg => by
    have h1 := H4.out.1.1.lt g hg
    rw [g6.block g (by omega) (fun e => by have := (q2'.out g e.symm).2; omega), G5.out.block g (by omega) (fun e => by have := (q1'.out g e.symm).2; omega)])
  have O4 := hide (H4.out.2.1.keep (w' := w6) fun g hg => by
    have h1 := H4.out.2.1.1.lt g hg
    rw [g6.block g (by omega) (fun e => by have := (q2'.out g e.symm).2; omega), G5.out.block g (by omega) (fun e => by have := (q1'.out g e.symm).2; omega)])
  clear g6
  go_wp2_with fail
  refine (same_any L v3 v4 _ O3.out.rects O4.out.rects H4.out.2.2).mono ?_
  rintro e w7 ⟨rfl, nq, rfl⟩
  go_wp2_with fail
  refine (book_any v3 L.length pb pb pc (w6.drewN nq) H4.out.2.2 (show pb ≤ w6.heap.size by omega) (Nat.le_refl _) ?_ HP.out.2 (show RowO w6 pb v3 L.length from ⟨_, (O3.out.low (base' := pb) (by omega)).1⟩)).mono ?_
  · exact (B16.out.block pb hpl).trans HP.out.1
  rintro e w8 ⟨rfl, b8⟩
  have H8 := hide b8
  clear b8
  go_wp2
  go_ret
  exact ⟨rfl, (below_drewN (B16.out.mono (by omega)) nq).trans H8.out⟩

end Go.Proofs.Ytofinpocigbbeaa
