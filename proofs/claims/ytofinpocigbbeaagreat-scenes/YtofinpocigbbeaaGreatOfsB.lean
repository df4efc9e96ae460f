import Derived.Test.YtofinpocigbbeaaGreatOfs
namespace Go.Proofs.YtofinpocigbbeaaGreat
open Go.RowKit
attribute [local go_sem ↓] Go.wp_at_zero Go.wp_at_succ

theorem BandsAt.form {w : World} {u : Value} {O : List (Int × Int × List (Int × Int))} (hu : BandsAt w u O) : ∃ a n c, u = .slice a n c := by
  rcases hu with ⟨h, _⟩ | ⟨_, _, h, _⟩
  · exact ⟨_, _, _, h⟩
  · exact ⟨_, _, _, h⟩

/-- Behind two calls that make new memory alone: the box is as it was. -/
theorem box_later {wr W w1 w2 : World} {p : Nat} {v : Value} {t : TypeId} (hW : Below wr.heap.size wr W) (h1 : Below W.heap.size W w1) (h2 : Below w1.heap.size w1 w2) (hp : wr.heap[p]? = some (.cells #[v] t (0, 0))) : w2.cell? ⟨p, 0, none⟩ = some v ∧ w2.frozen? ⟨p, 0, none⟩ = false ∧ Below wr.heap.size wr w2 := by
  have hb := (hW.trans (h1.mono hW.size)).trans (h2.mono (Nat.le_trans hW.size h1.size))
  have hl := block_lt hp
  exact ⟨(hb.cell (p := ⟨p, 0, none⟩) hl).trans (cell_of_one hp), (hb.frozen (p := ⟨p, 0, none⟩) hl).trans (free_of_one hp), hb⟩

/-- A region stands while a box is written. -/
theorem BandsAt.setBox {w : World} {v x : Value} {A : List (Int × Int × List (Int × Int))} {p : Nat} (h : BandsAt w v A) (hp : w.heap[p]? = some (.cells #[x] 136 (0, 0))) (y : Value) : BandsAt (w.setCell ⟨p, 0, none⟩ y) v A := by
  rcases h with h | ⟨b, c, hv, hne, hc⟩
  · exact .inl h
  · refine .inr ⟨b, c, hv, hne, fun k hk => ?_⟩
    obtain ⟨h1, h2, u, h3, h4⟩ := hc k hk
    have hbp : b ≠ p := by
      intro e
      subst e
      rw [cell_of_row w b (k * 3 + 1) _ _ _ hp] at h2
      simp at h2
    have hcell : ∀ o, (w.setCell ⟨p, 0, none⟩ y).cell? ⟨b, o, none⟩ = w.cell? ⟨b, o, none⟩ := fun o => World.cell?_of_block (a := ⟨b, o, none⟩) (Below.heap_setCell w ⟨p, 0, none⟩ y b hbp)
    refine ⟨(hcell _).trans h1, (hcell _).trans h2, u, (hcell _).trans h3, h4.kept fun b' cur e => Below.heap_setCell w ⟨p, 0, none⟩ y b' ?_⟩
    intro e'
    subst e'
    have e2 : w.heap[b']? = some (.cells #[x] 136 (0, 0)) := hp
    rw [e2] at e
    simp at e

theorem hasB_snoc (l : List (Int × Int × Int × Int)) (k : Nat) (h : k < l.length) (x y : Int) : hasB (l.take (k + 1)) x y = (hasB (l.take k) x y || inR l[k] x y) := by
  unfold hasB
  rw [List.take_succ_eq_append_getElem h, List.any_append]
  simp

theorem keepB_union (p q : Bool) : keepB 0 p q = (p || q) := rfl

theorem OutAt.lower {w : World} {base base' : Nat} {v : Value} {O : List (Int × Int × List (Int × Int))} (h : OutAt w base v O) (hb : base' ≤ base) : OutAt w base' v O := by
  obtain ⟨P, h1, h2, h3, h4⟩ := h
  exact ⟨P, h1, ⟨h2.1, h2.2.imp id fun ⟨g, cap, cur, hv, hg, r⟩ => ⟨g, cap, cur, hv, Nat.le_trans hb hg, r⟩⟩, fun p hp => ⟨(h3 p hp).1, fun g hg => Nat.le_trans hb ((h3 p hp).2 g hg)⟩, h4⟩

/-- So does one that was made. -/
theorem OutAt.setBox {w : World} {base : Nat} {v x : Value} {A : List (Int × Int × List (Int × Int))} {p : Nat} (h : OutAt w base v A) (hp : w.heap[p]? = some (.cells #[x] 136 (0, 0))) (y : Value) : OutAt (w.setCell ⟨p, 0, none⟩ y) base v A :=
  h.rows fun b cur t ht e => Below.heap_setCell w ⟨p, 0, none⟩ y b fun e' => by
    subst e'
    have e2 : w.heap[b]? = some (.cells #[x] 136 (0, 0)) := hp
    rw [e2] at e
    simp at e
    exact ht e.2.symm

set_option maxRecDepth 100000 in
set_option maxHeartbeats 2000000 in
theorem of_out (l : List (Int × Int × Int × Int)) (v : Value) (w : World) (h : RectsAt w v l) (hl : l.length ≤ 1000) (hf : ∀ r ∈ l, fitR r = true) :
    Calls Tryz.prog 73 #[v] w fun e w' => ∃ u O, e = .returned (.agg #[u]) ∧ OutAt w' w.heap.size u O ∧ Good O ∧ (∀ x y, memR O x y = hasB l x y) ∧ Below w.heap.size w w' := by
  have HF := hide hf
  obtain ⟨a, c, rfl, hc⟩ := h
  have HC := hide hc
  clear hc hf
  obtain ⟨n, hn⟩ : ∃ n, l.length = n := ⟨_, rfl⟩
  rw [hn]
  rw [hn] at hl
  have HN := hide hn
  clear hn
  go_enter Tryz.func73, Tryz.ntmps73
  go_wp2
  go_loopg [8] n (fun g s8 wr => ∃ (k : Nat) (u : Value) (O : List (Int × Int × List (Int × Int))), s8 = .int .i64 k ∧ g + k = n ∧ OutAt wr w.heap.size u O ∧ Good O ∧ (∀ x y, memR O x y = hasB (l.take k) x y) ∧ wr.heap[w.heap.size]? = some (.cells #[.slice none 0 0] 136 (0, 0)) ∧ wr.heap[w.heap.size + 1]? = some (.cells #[u] 136 (0, 0)) ∧ Below w.heap.size w wr)
  case atStart =>
    refine ⟨0, .slice none 0 0, [], rfl, by omega, out_nil _ _, good_nil, fun x y => by simp [memR, hasB], ?_, ?_, ?_⟩
    · exact (heap_old _ _ _ (by simp)).trans (heap_alloc_new w _)
    · have h := heap_alloc_new (w.alloc (.cells #[.slice none 0 0] 136)) (.cells #[.slice none 0 0] 136)
      rw [show (w.alloc (.cells #[.slice none 0 0] 136)).heap.size = w.heap.size + 1 by simp] at h
      exact h
    · repeat (first | exact Below.refl _ _ | refine Below.alloc ?_ (by simp <;> omega) _)
  case round =>
    obtain ⟨k, u, O, rfl, hgk, hu, hO, hmem, b0, b1, hbel⟩ := hrel
    obtain ⟨ua, un, uc, rfl⟩ := hu.bands.form
    cases gk with
    | zero =>
      have hlt : ¬ (k : Int) < (n : Int) := by omega
      have k0 := cell_of_one b0
      have k1 := cell_of_one b1
      have f0 := free_of_one b0
      have z0 := cell_lt k0
      have z1 := cell_lt k1
      have HE := hide (And.intro hu (And.intro hO (And.intro hmem (And.intro b0 hbel))))
      clear hu hO hmem hbel b0 b1
      go_wp2
      refine bodyPost_ret (v := .agg #[.slice ua un uc]) (by simp [results, Tryz.results73, go_sem, k0]) rfl ⟨_, rfl, O, ?_, HE.out.2.1, ?_, ?_⟩
      · exact HE.out.1.setBox HE.out.2.2.2.1 _
      · have := HE.out.2.2.1
        rw [List.take_of_length_le (by have := HN.out; omega)] at this
        exact this
      · exact HE.out.2.2.2.2.setCell (by simp) _
    | succ g =>
      have hkl : k < l.length := by have := HN.out; omega
      obtain ⟨b, off, rfl, hcs⟩ := HC.out (by omega)
      obtain ⟨c1, c2, c3, c4⟩ := hcs k hkl
      have hfk := HF.out l[k] (List.getElem_mem hkl)
      have hlb := cell_lt c1
      obtain ⟨r, hr⟩ : ∃ r, l[k] = r := ⟨_, rfl⟩
      rw [hr] at c1 c2 c3 c4 hfk
      obtain ⟨x0, y0, x1, y1⟩ := r
      replace c1 := (hbel.cell hlb).trans c1
      replace c2 := (hbel.cell hlb).trans c2
      replace c3 := (hbel.cell hlb).trans c3
      replace c4 := (hbel.cell hlb).trans c4
      have k0 := cell_of_one b0
      have k1 := cell_of_one b1
      have f1 := free_of_one b1
      have z0 := cell_lt k0
      have z1 := cell_lt k1
      have zb := cell_lt c1
      have hlt : (k : Int) < (n : Int) := by omega
      have hltn : k < n := by omega
      have hBig : n ≤ 1000 := hl
      have hCm : ∀ W v, Below wr.heap.size wr W → BandsAt W v (oneB (x0, y0, x1, y1)) → Calls Tryz.prog 103 #[.int .i64 0, .agg #[.slice ua un uc], .agg #[v]] W fun e w' => ∃ v2 O2, e = .returned (.agg #[v2]) ∧ OutAt w' w.heap.size v2 O2 ∧ Good O2 ∧ (∀ x y, memR O2 x y = keepB 0 (memR O x y) (memR (oneB (x0, y0, x1, y1)) x y)) ∧ Below W.heap.size W w' := fun W v hb hv =>
        (combine_out 0 O (oneB (x0, y0, x1, y1)) _ _ W hO (oneB_good _ hfk) (hu.bands.below hb) hv).mono fun _ _ ⟨v2, O2, q1, q2, q3⟩ => ⟨v2, O2, q1, q2.lower (Nat.le_trans hbel.size hb.size), q3⟩
      have HE := hide (And.intro hu (And.intro hO (And.intro hmem (And.intro b0 (And.intro b1 hbel)))))
      have HH := hide (And.intro hr hfk)
      clear hu hO hmem hbel b0 b1 hr hfk hcs
      go_wp2_with fail
      go_region_with (first
        | (go_at_call 114; refine (one_any x0 y0 x1 y1 _).mono ?_; rintro e w1 ⟨vo, rfl, hvo, hb1⟩; obtain ⟨qa, qb, qc⟩ := box_later (Below.drew ((Below.refl _ wr).alloc (Nat.le_refl _) _)) hb1 (Below.refl _ _) HE.out.2.2.2.2.1; have HB1 := hide hb1; clear hb1 qc)
        | (go_at_call 103; refine (hCm _ _ ?_ hvo).mono ?_; exact (Below.trans (Below.drew ((Below.refl _ wr).alloc (Nat.le_refl _) _)) (HB1.out.mono (by simp <;> omega))); rintro e w2 ⟨v2, O2, rfl, hv2, hO2, hm2, hb2⟩; obtain ⟨va, vn, vc, rfl⟩ := hv2.bands.form; obtain ⟨q1, q2, q3⟩ := box_later (Below.drew ((Below.refl _ wr).alloc (Nat.le_refl _) _)) HB1.out hb2 HE.out.2.2.2.2.1; have HQ := hide (And.intro hv2 (And.intro hO2 (And.intro hm2 q3))); clear hv2 hO2 hm2 hb2 q3 hvo))
      all_goals
        go_wp2
        go_roundg g
        case measure => omega
        case rel =>
          obtain ⟨hv2, hO2, hm2, hbw⟩ := HQ.out
          obtain ⟨hu, hO, hmem, b0, b1, hbel⟩ := HE.out
          have b0' := (hbw.block _ (block_lt b0)).trans b0
          have b1' := (hbw.block _ (block_lt b1)).trans b1
          refine ⟨k + 1, .slice va vn vc, O2, by go_num, by omega, hv2.setBox b1' _, hO2, fun x y => ?_, ?_, one_setCell b1', (hbel.trans (hbw.mono hbel.size)).setCell (by simp) _⟩
          · rw [hm2, keepB_union, hmem, oneB_mem, hasB_snoc l k hkl, HH.out.1]
          · exact (Below.heap_setCell _ _ _ _ (by simp)).trans b0'

theorem of_any (l : List (Int × Int × Int × Int)) (v : Value) (w : World) (h : RectsAt w v l) (hl : l.length ≤ 1000) (hf : ∀ r ∈ l, fitR r = true) :
    Calls Tryz.prog 73 #[v] w fun e w' => ∃ u O, e = .returned (.agg #[u]) ∧ BandsAt w' u O ∧ Good O ∧ (∀ x y, memR O x y = hasB l x y) ∧ Below w.heap.size w w' :=
  (of_out l v w h hl hf).mono fun _ _ ⟨u, O, h1, h2, h3⟩ => ⟨u, O, h1, h2.bands, h3⟩

end Go.Proofs.YtofinpocigbbeaaGreat
