import Derived.Test.YtofinpocigbbeaaGreatKae
namespace Go.Proofs.YtofinpocigbbeaaGreat
open Go.RowKit
attribute [local go_sem ↓] Go.wp_at_zero Go.wp_at_succ

/-! ### Rectangles: X0, Y0, X1, Y1 -/

/-- A list of rectangles in memory. -/
def RectsAt (w : World) (v : Value) (l : List (Int × Int × Int × Int)) : Prop :=
  ∃ a c, v = .slice a l.length c ∧ (0 < l.length → ∃ b off, a = some ⟨b, off, none⟩ ∧ ∀ k (h : k < l.length), w.cell? ⟨b, off + k * 4, none⟩ = some (.int .i64 l[k].1) ∧ w.cell? ⟨b, off + k * 4 + 1, none⟩ = some (.int .i64 l[k].2.1) ∧ w.cell? ⟨b, off + k * 4 + 2, none⟩ = some (.int .i64 l[k].2.2.1) ∧ w.cell? ⟨b, off + k * 4 + 3, none⟩ = some (.int .i64 l[k].2.2.2))

theorem RectsAt.below {w w' : World} {v : Value} {l : List (Int × Int × Int × Int)} (h : RectsAt w v l) (hb : Below w.heap.size w w') : RectsAt w' v l := by
  obtain ⟨a, c, hv, hc⟩ := h
  refine ⟨a, c, hv, fun hl => ?_⟩
  obtain ⟨b, off, ha, hcs⟩ := hc hl
  refine ⟨b, off, ha, fun k hk => ?_⟩
  obtain ⟨h1, h2, h3, h4⟩ := hcs k hk
  have hlt := cell_lt h1
  exact ⟨(hb.cell hlt).trans h1, (hb.cell hlt).trans h2, (hb.cell hlt).trans h3, (hb.cell hlt).trans h4⟩

def fitR (r : Int × Int × Int × Int) : Bool := decide (-2000 ≤ r.1 ∧ r.1 ≤ r.2.2.1 ∧ r.2.2.1 ≤ 2000 ∧ -2000 ≤ r.2.1 ∧ r.2.1 ≤ r.2.2.2 ∧ r.2.2.2 ≤ 2000)

def inR (r : Int × Int × Int × Int) (x y : Int) : Bool := decide (r.1 ≤ x ∧ x < r.2.2.1 ∧ r.2.1 ≤ y ∧ y < r.2.2.2)
def hasB (l : List (Int × Int × Int × Int)) (x y : Int) : Bool := l.any fun r => inR r x y

set_option maxHeartbeats 400000 in
theorem mayBeR_any (a b c d : Int) (w : World) :
    Calls Tryz.prog 68 #[.agg #[.int .i64 a, .int .i64 b, .int .i64 c, .int .i64 d]] w fun e w' => e = .returned (.bool (fitR (a, b, c, d))) ∧ w' = w.alloc (.cells #[.int .i64 a, .int .i64 b, .int .i64 c, .int .i64 d] 53) := by
  go_enter Tryz.func68, Tryz.ntmps68
  go_wp2
  all_goals
    go_ret
    refine ⟨ret_b ?_, rfl⟩
    unfold fitR
    rw [Bool.eq_iff_iff]
    try rw [decide_eq_true_eq]
    try rw [decide_eq_true_eq]
    simp only [Bool.false_eq_true, false_iff, *]
    try simp
    try omega

/-- A rectangle's points, as a region. -/
def oneB (r : Int × Int × Int × Int) : List (Int × Int × List (Int × Int)) := if r.1 < r.2.2.1 ∧ r.2.1 < r.2.2.2 then [(r.2.1, r.2.2.2, [(r.1, r.2.2.1)])] else []

theorem oneB_good (r : Int × Int × Int × Int) (h : fitR r = true) : Good (oneB r) := by
  unfold fitR at h
  simp only [decide_eq_true_eq] at h
  unfold oneB
  split
  · rename_i hc
    refine ⟨?_, ?_, ?_, ?_, ?_⟩
    · rw [levels_cons, levels_nil]; simp; omega
    · intro b hb; simp at hb; subst hb; exact hc.2
    · intro e he
      rw [levels_cons, levels_nil] at he
      simp at he
      rcases he with he | he <;> subst he <;> omega
    · intro b hb
      simp at hb
      subst hb
      refine ⟨⟨?_, ?_⟩, by simp⟩
      · rw [edges_cons, edges_nil]; simp; omega
      · intro e he
        rw [edges_cons, edges_nil] at he
        simp at he
        rcases he with he | he <;> subst he <;> omega
    · intro k hk; simp at hk
  · exact good_nil

theorem oneB_mem (r : Int × Int × Int × Int) (x y : Int) : memR (oneB r) x y = inR r x y := by
  unfold oneB inR
  split
  · unfold memR memS
    simp
    rw [Bool.eq_iff_iff]
    simp
    omega
  · rename_i h
    unfold memR
    symm
    simp
    omega

theorem five_blocks (w : World) (o1 o2 o3 o4 o5 : Obj) : (((((w.alloc o1).alloc o2).alloc o3).alloc o4).alloc o5).heap[w.heap.size + 1 + 1 + 1]? = some o4 ∧ (((((w.alloc o1).alloc o2).alloc o3).alloc o4).alloc o5).heap[w.heap.size + 1 + 1 + 1 + 1]? = some o5 := by
  have n3 := heap_alloc_new (((w.alloc o1).alloc o2).alloc o3) o4
  have n4 := heap_alloc_new ((((w.alloc o1).alloc o2).alloc o3).alloc o4) o5
  rw [show (((w.alloc o1).alloc o2).alloc o3).heap.size = w.heap.size + 1 + 1 + 1 by simp] at n3
  rw [show ((((w.alloc o1).alloc o2).alloc o3).alloc o4).heap.size = w.heap.size + 1 + 1 + 1 + 1 by simp] at n4
  exact ⟨(heap_old _ _ _ (by simp)).trans n3, n4⟩

theorem four_blocks (w : World) (o1 o2 o3 o4 : Obj) : ((((w.alloc o1).alloc o2).alloc o3).alloc o4).heap[w.heap.size + 1 + 1]? = some o3 ∧ ((((w.alloc o1).alloc o2).alloc o3).alloc o4).heap[w.heap.size + 1 + 1 + 1]? = some o4 := by
  have n3 := heap_alloc_new ((w.alloc o1).alloc o2) o3
  have n4 := heap_alloc_new (((w.alloc o1).alloc o2).alloc o3) o4
  rw [show ((w.alloc o1).alloc o2).heap.size = w.heap.size + 1 + 1 by simp] at n3
  rw [show (((w.alloc o1).alloc o2).alloc o3).heap.size = w.heap.size + 1 + 1 + 1 by simp] at n4
  exact ⟨(heap_old _ _ _ (by simp)).trans n3, n4⟩

set_option maxHeartbeats 1000000 in
theorem one_any (a b c d : Int) (w : World) :
    Calls Tryz.prog 114 #[.agg #[.int .i64 a, .int .i64 b, .int .i64 c, .int .i64 d]] w fun e w' => ∃ v, e = .returned (.agg #[v]) ∧ BandsAt w' v (oneB (a, b, c, d)) ∧ Below w.heap.size w w' := by
  by_cases h : a < c ∧ b < d
  · obtain ⟨h1, h2⟩ := h
    have hO : Hid (oneB (a, b, c, d) = [(b, d, [(a, c)])]) := by rw [Hid]; unfold oneB; rw [if_pos ⟨h1, h2⟩]
    go_enter Tryz.func114, Tryz.ntmps114
    go_wp2
    refine bodyPost_ret (v := .agg #[.slice (some ⟨w.heap.size + 1 + 1 + 1 + 1, 0, none⟩) 1 1]) (by simp [results, Tryz.results114, go_sem]) rfl ⟨_, rfl, ?_, ?_⟩
    · rw [hO.out]
      refine .inr ⟨w.heap.size + 1 + 1 + 1 + 1, 1, rfl, by simp, fun k hk => ?_⟩
      have hk0 : k = 0 := by simpa using hk
      subst hk0
      obtain ⟨f3, f4⟩ := five_blocks w (.cells #[.int .i64 a, .int .i64 b, .int .i64 c, .int .i64 d] 53) (.cells #[.slice (some ⟨w.heap.size + 1 + 1 + 1 + 1, 0, none⟩) 1 1] 136) (.cells #[.int .i64 a, .int .i64 b, .int .i64 c, .int .i64 d] 53) (.cells #[.int .i64 a, .int .i64 c] 194) (.cells #[.int .i64 b, .int .i64 d, .slice (some ⟨w.heap.size + 1 + 1 + 1, 0, none⟩) 1 1] 192)
      refine ⟨cell_of_row _ _ 0 _ _ _ f4, cell_of_row _ _ 1 _ _ _ f4, .slice (some ⟨w.heap.size + 1 + 1 + 1, 0, none⟩) 1 1, cell_of_row _ _ 2 _ _ _ f4, .inr ⟨w.heap.size + 1 + 1 + 1, 1, #[.int .i64 a, .int .i64 c], rfl, by simp, ?_, fun j hj => ?_⟩⟩
      · exact f3
      · have hj2 : j = 0 ∨ j = 1 := by simp at hj; omega
        rcases hj2 with rfl | rfl <;> rfl
    · repeat (first | exact Below.refl _ _ | refine Below.setCell ?_ (by simp <;> omega) _ | refine Below.alloc ?_ (by simp <;> omega) _)
  · have hO : Hid (oneB (a, b, c, d) = []) := by rw [Hid]; unfold oneB; rw [if_neg h]
    by_cases h1 : a < c
    · have h2 : ¬ b < d := fun h2 => h ⟨h1, h2⟩
      clear h
      go_enter Tryz.func114, Tryz.ntmps114
      go_wp2
      refine bodyPost_ret (v := .agg #[.slice none 0 0]) (by simp [results, Tryz.results114, go_sem]) rfl ⟨_, rfl, .inl ⟨rfl, hO.out⟩, ?_⟩
      repeat (first | exact Below.refl _ _ | refine Below.setCell ?_ (by simp <;> omega) _ | refine Below.alloc ?_ (by simp <;> omega) _)
    · clear h
      go_enter Tryz.func114, Tryz.ntmps114
      go_wp2
      refine bodyPost_ret (v := .agg #[.slice none 0 0]) (by simp [results, Tryz.results114, go_sem]) rfl ⟨_, rfl, .inl ⟨rfl, hO.out⟩, ?_⟩
      repeat (first | exact Below.refl _ _ | refine Below.setCell ?_ (by simp <;> omega) _ | refine Below.alloc ?_ (by simp <;> omega) _)

end Go.Proofs.YtofinpocigbbeaaGreat

namespace Go.Proofs.YtofinpocigbbeaaGreat
open Go.RowKit
attribute [local go_sem ↓] Go.wp_at_zero Go.wp_at_succ

theorem BandsAt.form {w : World} {u : Value} {O : List (Int × Int × List (Int × Int))} (hu : BandsAt w u O) : ∃ a n c, u = .slice a n c := by
  rcases hu with ⟨h, _⟩ | ⟨_, _, h, _⟩
  · exact ⟨_, _, _, h⟩
  · exact ⟨_, _, _, h⟩

/-- Behind two calls that make new memory alone: the box is as it was. -/
theorem box_later {wr W w1 w2 : World} {p : Nat} {v : Value} {t : TypeId} (hW : Below wr.heap.size wr W) (h1 : Below W.heap.size W w1) (h2 : Below w1.heap.size w1 w2) (hp : wr.heap[p]? = some (.cells #[v] t (0, 0))) : w2.cell? ⟨p, 0, none⟩ = some v ∧ w2.frozen? ⟨p, 0, none⟩ = false ∧ Below wr.heap.size wr w2 := by
  have hb := (hW.trans (h1.mono hW.size)).trans (h2.mono (Nat.le_trans hW.size h1.size))
  have hl := block_lt hp
  exact ⟨(hb.cell (p := ⟨p, 0, none⟩) hl).trans (cell_of_one hp), (hb.frozen (p := ⟨p, 0, none⟩) hl).trans (free_of_one hp), hb⟩

/-- A region stands while a box is written. -/
theorem BandsAt.setBox {w : World} {v x : Value} {A : List (Int × Int × List (Int × Int))} {p : Nat} (h : BandsAt w v A) (hp : w.heap[p]? = some (.cells #[x] 136 (0, 0))) (y : Value) : BandsAt (w.setCell ⟨p, 0, none⟩ y) v A := by
  rcases h with h | ⟨b, c, hv, hne, hc⟩
  · exact .inl h
  · refine .inr ⟨b, c, hv, hne, fun k hk => ?_⟩
    obtain ⟨h1, h2, u, h3, h4⟩ := hc k hk
    have hbp : b ≠ p := by
      intro e
      subst e
      rw [cell_of_row w b (k * 3 + 1) _ _ _ hp] at h2
      simp at h2
    have hcell : ∀ o, (w.setCell ⟨p, 0, none⟩ y).cell? ⟨b, o, none⟩ = w.cell? ⟨b, o, none⟩ := fun o => World.cell?_of_block (a := ⟨b, o, none⟩) (Below.heap_setCell w ⟨p, 0, none⟩ y b hbp)
    refine ⟨(hcell _).trans h1, (hcell _).trans h2, u, (hcell _).trans h3, h4.kept fun b' cur e => Below.heap_setCell w ⟨p, 0, none⟩ y b' ?_⟩
    intro e'
    subst e'
    have e2 : w.heap[b']? = some (.cells #[x] 136 (0, 0)) := hp
    rw [e2] at e
    simp at e

theorem hasB_snoc (l : List (Int × Int × Int × Int)) (k : Nat) (h : k < l.length) (x y : Int) : hasB (l.take (k + 1)) x y = (hasB (l.take k) x y || inR l[k] x y) := by
  unfold hasB
  rw [List.take_succ_eq_append_getElem h, List.any_append]
  simp

theorem keepB_union (p q : Bool) : keepB 0 p q = (p || q) := rfl

theorem OutAt.lower {w : World} {base base' : Nat} {v : Value} {O : List (Int × Int × List (Int × Int))} (h : OutAt w base v O) (hb : base' ≤ base) : OutAt w base' v O := by
  obtain ⟨P, h1, h2, h3, h4⟩ := h
  exact ⟨P, h1, ⟨h2.1, h2.2.imp id fun ⟨g, cap, cur, hv, hg, r⟩ => ⟨g, cap, cur, hv, Nat.le_trans hb hg, r⟩⟩, fun p hp => ⟨(h3 p hp).1, fun g hg => Nat.le_trans hb ((h3 p hp).2 g hg)⟩, h4⟩

/-- So does one that was made. -/
theorem OutAt.setBox {w : World} {base : Nat} {v x : Value} {A : List (Int × Int × List (Int × Int))} {p : Nat} (h : OutAt w base v A) (hp : w.heap[p]? = some (.cells #[x] 136 (0, 0))) (y : Value) : OutAt (w.setCell ⟨p, 0, none⟩ y) base v A :=
  h.rows fun b cur t ht e => Below.heap_setCell w ⟨p, 0, none⟩ y b fun e' => by
    subst e'
    have e2 : w.heap[b]? = some (.cells #[x] 136 (0, 0)) := hp
    rw [e2] at e
    simp at e
    exact ht e.2.symm

set_option maxRecDepth 100000 in
set_option maxHeartbeats 2000000 in
theorem of_out (l : List (Int × Int × Int × Int)) (v : Value) (w : World) (h : RectsAt w v l) (hl : l.length ≤ 1000) (hf : ∀ r ∈ l, fitR r = true) :
    Calls Tryz.prog 73 #[v] w fun e w' => ∃ u O, e = .returned (.agg #[u]) ∧ OutAt w' w.heap.size u O ∧ Good O ∧ (∀ x y, memR O x y = hasB l x y) ∧ Below w.heap.size w w' := by
  have HF := hide hf
  obtain ⟨a, c, rfl, hc⟩ := h
  have HC := hide hc
  clear hc hf
  obtain ⟨n, hn⟩ : ∃ n, l.length = n := ⟨_, rfl⟩
  rw [hn]
  rw [hn] at hl
  have HN := hide hn
  clear hn
  go_enter Tryz.func73, Tryz.ntmps73
  go_wp2
  go_loopg [8] n (fun g s8 wr => ∃ (k : Nat) (u : Value) (O : List (Int × Int × List (Int × Int))), s8 = .int .i64 k ∧ g + k = n ∧ OutAt wr w.heap.size u O ∧ Good O ∧ (∀ x y, memR O x y = hasB (l.take k) x y) ∧ wr.heap[w.heap.size]? = some (.cells #[.slice none 0 0] 136 (0, 0)) ∧ wr.heap[w.heap.size + 1]? = some (.cells #[u] 136 (0, 0)) ∧ Below w.heap.size w wr)
  case atStart =>
    refine ⟨0, .slice none 0 0, [], rfl, by omega, out_nil _ _, good_nil, fun x y => by simp [memR, hasB], ?_, ?_, ?_⟩
    · exact (heap_old _ _ _ (by simp)).trans (heap_alloc_new w _)
    · have h := heap_alloc_new (w.alloc (.cells #[.slice none 0 0] 136)) (.cells #[.slice none 0 0] 136)
      rw [show (w.alloc (.cells #[.slice none 0 0] 136)).heap.size = w.heap.size + 1 by simp] at h
      exact h
    · repeat (first | exact Below.refl _ _ | refine Below.alloc ?_ (by simp <;> omega) _)
  case round =>
    obtain ⟨k, u, O, rfl, hgk, hu, hO, hmem, b0, b1, hbel⟩ := hrel
    obtain ⟨ua, un, uc, rfl⟩ := hu.bands.form
    cases gk with
    | zero =>
      have hlt : ¬ (k : Int) < (n : Int) := by omega
      have k0 := cell_of_one b0
      have k1 := cell_of_one b1
      have f0 := free_of_one b0
      have z0 := cell_lt k0
      have z1 := cell_lt k1
      have HE := hide (And.intro hu (And.intro hO (And.intro hmem (And.intro b0 hbel))))
      clear hu hO hmem hbel b0 b1
      go_wp2
      refine bodyPost_ret (v := .agg #[.slice ua un uc]) (by simp [results, Tryz.results73, go_sem, k0]) rfl ⟨_, rfl, O, ?_, HE.out.2.1, ?_, ?_⟩
      · exact HE.out.1.setBox HE.out.2.2.2.1 _
      · have := HE.out.2.2.1
        rw [List.take_of_length_le (by have := HN.out; omega)] at this
        exact this
      · exact HE.out.2.2.2.2.setCell (by simp) _
    | succ g =>
      have hkl : k < l.length := by have := HN.out; omega
      obtain ⟨b, off, rfl, hcs⟩ := HC.out (by omega)
      obtain ⟨c1, c2, c3, c4⟩ := hcs k hkl
      have hfk := HF.out l[k] (List.getElem_mem hkl)
      have hlb := cell_lt c1
      obtain ⟨r, hr⟩ : ∃ r, l[k] = r := ⟨_, rfl⟩
      rw [hr] at c1 c2 c3 c4 hfk
      obtain ⟨x0, y0, x1, y1⟩ := r
      replace c1 := (hbel.cell hlb).trans c1
      replace c2 := (hbel.cell hlb).trans c2
      replace c3 := (hbel.cell hlb).trans c3
      replace c4 := (hbel.cell hlb).trans c4
      have k0 := cell_of_one b0
      have k1 := cell_of_one b1
      have f1 := free_of_one b1
      have z0 := cell_lt k0
      have z1 := cell_lt k1
      have zb := cell_lt c1
      have hlt : (k : Int) < (n : Int) := by omega
      have hltn : k < n := by omega
      have hBig : n ≤ 1000 := hl
      have hCm : ∀ W v, Below wr.heap.size wr W → BandsAt W v (oneB (x0, y0, x1, y1)) → Calls Tryz.prog 103 #[.int .i64 0, .agg #[.slice ua un uc], .agg #[v]] W fun e w' => ∃ v2 O2, e = .returned (.agg #[v2]) ∧ OutAt w' w.heap.size v2 O2 ∧ Good O2 ∧ (∀ x y, memR O2 x y = keepB 0 (memR O x y) (memR (oneB (x0, y0, x1, y1)) x y)) ∧ Below W.heap.size W w' := fun W v hb hv =>
        (combine_out 0 O (oneB (x0, y0, x1, y1)) _ _ W hO (oneB_good _ hfk) (hu.bands.below hb) hv).mono fun _ _ ⟨v2, O2, q1, q2, q3⟩ => ⟨v2, O2, q1, q2.lower (Nat.le_trans hbel.size hb.size), q3⟩
      have HE := hide (And.intro hu (And.intro hO (And.intro hmem (And.intro b0 (And.intro b1 hbel)))))
      have HH := hide (And.intro hr hfk)
      clear hu hO hmem hbel b0 b1 hr hfk hcs
      go_wp2_with fail
      go_region_with (first
        | (go_at_call 114; refine (one_any x0 y0 x1 y1 _).mono ?_; rintro e w1 ⟨vo, rfl, hvo, hb1⟩; obtain ⟨qa, qb, qc⟩ := box_later (Below.drew ((Below.refl _ wr).alloc (Nat.le_refl _) _)) hb1 (Below.refl _ _) HE.out.2.2.2.2.1; have HB1 := hide hb1; clear hb1 qc)
        | (go_at_call 103; refine (hCm _ _ ?_ hvo).mono ?_; exact (Below.trans (Below.drew ((Below.refl _ wr).alloc (Nat.le_refl _) _)) (HB1.out.mono (by simp <;> omega))); rintro e w2 ⟨v2, O2, rfl, hv2, hO2, hm2, hb2⟩; obtain ⟨va, vn, vc, rfl⟩ := hv2.bands.form; obtain ⟨q1, q2, q3⟩ := box_later (Below.drew ((Below.refl _ wr).alloc (Nat.le_refl _) _)) HB1.out hb2 HE.out.2.2.2.2.1; have HQ := hide (And.intro hv2 (And.intro hO2 (And.intro hm2 q3))); clear hv2 hO2 hm2 hb2 q3 hvo))
      all_goals
        go_wp2
        go_roundg g
        case measure => omega
        case rel =>
          obtain ⟨hv2, hO2, hm2, hbw⟩ := HQ.out
          obtain ⟨hu, hO, hmem, b0, b1, hbel⟩ := HE.out
          have b0' := (hbw.block _ (block_lt b0)).trans b0
          have b1' := (hbw.block _ (block_lt b1)).trans b1
          refine ⟨k + 1, .slice va vn vc, O2, by go_num, by omega, hv2.setBox b1' _, hO2, fun x y => ?_, ?_, one_setCell b1', (hbel.trans (hbw.mono hbel.size)).setCell (by simp) _⟩
          · rw [hm2, keepB_union, hmem, oneB_mem, hasB_snoc l k hkl, HH.out.1]
          · exact (Below.heap_setCell _ _ _ _ (by simp)).trans b0'

theorem of_any (l : List (Int × Int × Int × Int)) (v : Value) (w : World) (h : RectsAt w v l) (hl : l.length ≤ 1000) (hf : ∀ r ∈ l, fitR r = true) :
    Calls Tryz.prog 73 #[v] w fun e w' => ∃ u O, e = .returned (.agg #[u]) ∧ BandsAt w' u O ∧ Good O ∧ (∀ x y, memR O x y = hasB l x y) ∧ Below w.heap.size w w' :=
  (of_out l v w h hl hf).mono fun _ _ ⟨u, O, h1, h2, h3⟩ => ⟨u, O, h1, h2.bands, h3⟩

end Go.Proofs.YtofinpocigbbeaaGreat

namespace Go.Proofs.YtofinpocigbbeaaGreat
open Go.RowKit

/-- A region as rectangles. -/
def rc (O : List (Int × Int × List (Int × Int))) : List (Int × Int × Int × Int) := O.flatMap fun b => b.2.2.map fun s => (s.1, b.1, s.2, b.2.1)

def rectCells (l : List (Int × Int × Int × Int)) : List Value := l.flatMap fun r => [.int .i64 r.1, .int .i64 r.2.1, .int .i64 r.2.2.1, .int .i64 r.2.2.2]

theorem rectCells_append (l m : List (Int × Int × Int × Int)) : rectCells (l ++ m) = rectCells l ++ rectCells m := by simp [rectCells]
theorem rectCells_len (l : List (Int × Int × Int × Int)) : (rectCells l).length = l.length * 4 := by
  induction l with
  | nil => rfl
  | cons r l ih =>
    have : rectCells (r :: l) = .int .i64 r.1 :: .int .i64 r.2.1 :: .int .i64 r.2.2.1 :: .int .i64 r.2.2.2 :: rectCells l := rfl
    rw [this]; simp [ih]; omega
theorem rectCells_at (l : List (Int × Int × Int × Int)) (k : Nat) (h : k < l.length) :
    (rectCells l)[k * 4]? = some (.int .i64 l[k].1) ∧ (rectCells l)[k * 4 + 1]? = some (.int .i64 l[k].2.1) ∧ (rectCells l)[k * 4 + 2]? = some (.int .i64 l[k].2.2.1) ∧ (rectCells l)[k * 4 + 3]? = some (.int .i64 l[k].2.2.2) := by
  induction l generalizing k with
  | nil => simp at h
  | cons r l ih =>
    have e : rectCells (r :: l) = .int .i64 r.1 :: .int .i64 r.2.1 :: .int .i64 r.2.2.1 :: .int .i64 r.2.2.2 :: rectCells l := rfl
    cases k with
    | zero => rw [e]; simp
    | succ k =>
      have := ih k (by simpa using h)
      rw [e, show (k + 1) * 4 = k * 4 + 4 by omega]
      simpa using this

/-- A list of rectangles that the call has made. -/
def OwnR (w : World) (base : Nat) (v : Value) (l : List (Int × Int × Int × Int)) : Prop := w.ownsRow base 53 4 v l.length (rectCells l) ∧ (l = [] → v = .slice none 0 0)

theorem OwnR.form {w : World} {base : Nat} {v : Value} {l : List (Int × Int × Int × Int)} (h : OwnR w base v l) : ∃ a c, v = .slice a l.length c := by
  rcases h.1.2 with ⟨h, h0⟩ | ⟨g, cap, cur, h, _⟩
  · exact ⟨none, 0, by rw [h, h0]⟩
  · exact ⟨_, _, h⟩

theorem OwnR.alloc {w : World} {base : Nat} {v : Value} {l : List (Int × Int × Int × Int)} (h : OwnR w base v l) (o : Obj) : OwnR (w.alloc o) base v l := ⟨h.1.alloc o, h.2⟩

theorem OwnR.rects {w : World} {base : Nat} {v : Value} {l : List (Int × Int × Int × Int)} (h : OwnR w base v l) : RectsAt w v l := by
  obtain ⟨hown, hnil⟩ := h
  by_cases hl : l = []
  · have := hnil hl
    subst hl
    exact ⟨none, 0, this, fun h => by simp at h⟩
  · have hpos : 0 < l.length := by cases l with
      | nil => exact absurd rfl hl
      | cons a l => simp
    obtain ⟨g, cap, rfl, _, _⟩ := hown.form hpos
    have cs := hown.cells (g := g) rfl
    refine ⟨_, cap, rfl, fun _ => ⟨g, 0, rfl, fun k hk => ?_⟩⟩
    obtain ⟨c1, c2, c3, c4⟩ := rectCells_at l k hk
    refine ⟨?_, ?_, ?_, ?_⟩
    · have := cs _ _ c1; rw [add_at] at this; simpa using this
    · have := cs _ _ c2; rw [add_at] at this; simpa using this
    · have := cs _ _ c3; rw [add_at] at this; simpa using this
    · have := cs _ _ c4; rw [add_at] at this; simpa using this

theorem rc_take (O : List (Int × Int × List (Int × Int))) (k : Nat) (h : k < O.length) : rc (O.take (k + 1)) = rc (O.take k) ++ O[k].2.2.map fun s => (s.1, O[k].1, s.2, O[k].2.1) := by
  unfold rc
  rw [List.take_succ_eq_append_getElem h, List.flatMap_append]
  simp

theorem rc_len {O : List (Int × Int × List (Int × Int))} (hO : Good O) (k : Nat) : (rc (O.take k)).length ≤ k * 2001 := by
  induction k with
  | zero => simp [rc]
  | succ k ih =>
    by_cases h : k < O.length
    · rw [rc_take O k h, List.length_append, List.length_map]
      have := (hO.sp O[k] (List.getElem_mem h)).1.len
      rw [Nat.add_mul, Nat.one_mul]
      exact Nat.add_le_add ih this
    · rw [List.take_of_length_le (by omega)] at ih ⊢
      exact Nat.le_trans ih (Nat.mul_le_mul_right _ (Nat.le_succ k))

theorem rectInfo : (Tryz.prog.info? 53).map (fun i => (i.zero, i.size, i.bytes)) = some (some (.agg #[.int .i64 0, .int .i64 0, .int .i64 0, .int .i64 0]), 4, 32) := by kernel_rfl

set_option maxRecDepth 100000 in
set_option maxHeartbeats 2000000 in
theorem rects_any (O : List (Int × Int × List (Int × Int))) (u : Value) (w : World) (h : BandsAt w u O) (hO : Good O) :
    Calls Tryz.prog 77 #[.agg #[u]] w fun e w' => ∃ v, e = .returned v ∧ OwnR w' w.heap.size v (rc O) ∧ Below w.heap.size w w' := by
  have HO := hide hO
  have HU := hide h
  have hlen := hO.len
  obtain ⟨ua, un, uc, rfl⟩ := h.form
  obtain ⟨n, hn⟩ : ∃ n, O.length = n := ⟨_, rfl⟩
  have hun : un = n := by
    rcases h with ⟨h, h0⟩ | ⟨_, _, h, _⟩
    · simp at h; rw [← hn, h0, h.2.1]; rfl
    · simp at h; omega
  subst hun
  have HN := hide hn
  rw [hn] at hlen
  clear hO h hn
  obtain ⟨i0, hi0, hz0, hz1, hz2⟩ := info_parts rectInfo
  go_enter Tryz.func77, Tryz.ntmps77
  go_wp2
  go_loopg [3, 11] un (fun g s3 s11 wr => ∃ k : Nat, s11 = .int .i64 k ∧ g + k = un ∧ OwnR wr w.heap.size s3 (rc (O.take k)) ∧ Below w.heap.size w wr)
  case atStart => exact ⟨0, rfl, by omega, ⟨World.ownsRow_nil _ _ _ _, fun _ => rfl⟩, (Below.refl _ _).alloc (Nat.le_refl _) _⟩
  case round =>
    rename World => wo
    rename Nat => gO
    obtain ⟨k, rfl, hgk, hown, hbel⟩ := hrel
    obtain ⟨ra, rcp, rfl⟩ := hown.form
    cases gO with
    | zero =>
      have hlt : ¬ (k : Int) < (un : Int) := by omega
      have HE := hide (And.intro hown hbel)
      clear hown hbel
      go_wp2
      go_ret
      refine ⟨_, rfl, ?_, HE.out.2⟩
      have := HE.out.1
      rw [List.take_of_length_le (by have := HN.out; omega)] at this
      rw [List.take_of_length_le (by have := HN.out; omega)]
      exact this
    | succ g =>
      have hkl : k < O.length := by have := HN.out; omega
      have hlt : (k : Int) < (un : Int) := by omega
      have hltn : k < un := by omega
      rcases HU.out with ⟨h, h0⟩ | ⟨b, c, h, hne, hc⟩
      · simp [h0] at hkl
      · simp at h
        obtain ⟨rfl, h2, rfl⟩ := h
        obtain ⟨c1, c2, us, c3, hsp⟩ := hc k hkl
        have hbl := cell_lt c1
        obtain ⟨sa, sc, hus, hsc⟩ := hsp.len
        have hspl := (HO.out.sp O[k] (List.getElem_mem hkl)).1.len
        obtain ⟨⟨top, bot, L⟩, hB⟩ : ∃ b, O[k] = b := ⟨_, rfl⟩
        rw [hB] at c1 c2 hsp hus hsc hspl
        simp only at c1 c2 hsp hus hsc hspl
        subst hus
        replace c1 := (hbel.cell hbl).trans c1
        replace c2 := (hbel.cell hbl).trans c2
        replace c3 := (hbel.cell hbl).trans c3
        have hzb := cell_lt c1
        obtain ⟨ln, hln⟩ : ∃ n, L.length = n := ⟨_, rfl⟩
        rw [hln] at c3 hspl
        have HSp := hide hsp
        have HSc := hide hsc
        have HL := hide hln
        have HB := hide hB
        have HE := hide (And.intro hown hbel)
        have hLen := rc_len HO.out k
        clear hsp hsc hln hB hc h2 hne hown hbel HU
        obtain ⟨lr, hlr⟩ : ∃ n, (rc (O.take k)).length = n := ⟨_, rfl⟩
        rw [hlr] at hLen ⊢
        have HLr := hide hlr
        clear hlr
        go_wp2
        have hso := HE.out.2.size
        go_loopg [3, 18] ln (fun g s3 s18 wx => ∃ j : Nat, s18 = .int .i64 j ∧ g + j = ln ∧ OwnR wx w.heap.size s3 (rc (O.take k) ++ (L.take j).map fun s => (s.1, top, s.2, bot)) ∧ wx.heap[wo.heap.size]? = some (.cells #[.int .i64 top, .int .i64 bot, .slice sa ln sc] 192 (0, 0)) ∧ Below w.heap.size w wx)
        case atStart =>
          refine ⟨0, rfl, by omega, ?_, heap_alloc_new wo _, HE.out.2.alloc hso _⟩
          have := HE.out.1
          rw [HLr.out] at this
          simpa using this.alloc _
        case round =>
          obtain ⟨j, rfl, hgj, hown, hbox, hbx⟩ := hrel
          obtain ⟨rb, rcb, rfl⟩ := hown.form
          obtain ⟨mm, hmm⟩ : ∃ n, (rc (O.take k) ++ (L.take j).map fun s => (s.1, top, s.2, bot)).length = n := ⟨_, rfl⟩
          have hmm2 : mm = lr + j := by
            rw [← hmm, List.length_append, HLr.out, List.length_map, List.length_take]
            have := HL.out
            omega
          rw [hmm]
          have HMM := hide hmm
          cases gk with
          | zero =>
            have hjl : ¬ (j : Int) < (ln : Int) := by omega
            have HX := hide (And.intro hown hbx)
            have HM2 := hide hmm2
            clear hown hbx hmm hmm2 hbox
            go_wp2
            go_roundg g
            case measure => omega
            case rel =>
              refine ⟨k + 1, by go_num, by omega, ?_, HX.out.2⟩
              have htk : L.take j = L := List.take_of_length_le (by have := HL.out; omega)
              have := HX.out.1
              rw [HMM.out, htk] at this
              rw [rc_take O k hkl, HB.out]
              exact this
          | succ gj =>
            have hjl : (j : Int) < (ln : Int) := by omega
            have hjln : j < ln := by omega
            obtain ⟨sb, rfl, hcs⟩ := HSc.out (by have := HL.out; omega)
            obtain ⟨d1, d2⟩ := hcs j (by have := HL.out; omega)
            have hsb := cell_lt d1
            obtain ⟨⟨f, t⟩, hft⟩ : ∃ s, L.getD j (0, 0) = s := ⟨_, rfl⟩
            rw [hft] at d1 d2
            simp only at d1 d2
            replace d1 := (hbx.cell hsb).trans d1
            replace d2 := (hbx.cell hsb).trans d2
            have hzs := cell_lt d1
            have e0 : wr.cell? ⟨wo.heap.size, 0, none⟩ = some (.int .i64 top) := cell_of_row _ _ 0 _ _ _ hbox
            have e1 : wr.cell? ⟨wo.heap.size, 1, none⟩ = some (.int .i64 bot) := cell_of_row _ _ 1 _ _ _ hbox
            have hzo := cell_lt e0
            have hwl := hbx.size
            have HX := hide (And.intro hown (And.intro hbox hbx))
            have HF := hide hft
            have hb1 : mm ≤ 10000000 := by omega
            have HM2 := hide hmm2
            clear hown hbx hmm hmm2 hbox hcs hft
            go_wp2_with (at_builtin; refine wpList_append_lies _ rfl _ _ 33 rfl w.heap.size 53 i0 _ 4 32 Tryz.underlying33 hi0 hz0 hz1 hz2 rfl (by omega) (.slice rb mm rcb) mm (rectCells (rc (O.take k) ++ (L.take j).map fun s => (s.1, top, s.2, bot))) rfl (by have := HX.out.1; have h2 := HMM.out; rw [h2] at this; have h3 := this.1; rw [h2] at h3; exact (h3.alloc _).alloc _) ⟨wr.heap.size + 1, 0, none⟩ 1 1 [.int .i64 f, .int .i64 top, .int .i64 t, .int .i64 bot] rfl rfl (World.news_of_block (cs := #[.int .i64 f, .int .i64 top, .int .i64 t, .int .i64 bot]) (t := 53) (fr := (0, 0)) (boxed_new wr _ _ 0)) (by simp [Value.oneCell']) (by omega) (by unfold maxLen; omega) (by omega) (by simp; omega) _ rfl ?_; intro gg cp w1 hown1 hgrow hat hlt2; have HO1 := hide hown1; have HG1 := hide hgrow; clear hown1 hgrow hat)
            go_roundg gj
            case measure => omega
            case rel =>
              have hjL : j < L.length := by have := HL.out; omega
              have hLj : L[j] = (f, t) := by
                have := HF.out
                rw [List.getD_eq_getElem?_getD, List.getElem?_eq_getElem hjL] at this
                simpa using this
              have hl2 : (rc (O.take k) ++ (L.take (j + 1)).map fun s => (s.1, top, s.2, bot)) = (rc (O.take k) ++ (L.take j).map fun s => (s.1, top, s.2, bot)) ++ [(f, top, t, bot)] := by
                rw [List.take_succ_eq_append_getElem hjL, List.map_append, hLj, List.append_assoc]
                rfl
              obtain ⟨hown, hbox, hbx⟩ := HX.out
              rw [HMM.out] at hown
              have hown2 := ((hown.alloc (.cells #[.int .i64 f, .int .i64 t] 194)).alloc (.cells #[.int .i64 f, .int .i64 top, .int .i64 t, .int .i64 bot] 53)).1
              refine ⟨j + 1, by go_num, by omega, ?_, ?_, ?_⟩
              · rw [hl2]
                refine ⟨?_, fun h => by simp at h⟩
                rw [List.length_append, HMM.out, rectCells_append]
                exact HO1.out
              · have hb2 : ((wr.alloc (.cells #[.int .i64 f, .int .i64 t] 194)).alloc (.cells #[.int .i64 f, .int .i64 top, .int .i64 t, .int .i64 bot] 53)).heap[wo.heap.size]? = some (.cells #[.int .i64 top, .int .i64 bot, .slice (some ⟨sb, 0, none⟩) ln sc] 192 (0, 0)) := by
                  rw [heap_old _ _ _ (by simp; omega), heap_old _ _ _ (by omega)]
                  exact hbox
                exact (HG1.out.block _ (block_lt hb2) (not_own hown2 hb2 (by decide))).trans hb2
              · exact ((hbx.alloc hwl _).alloc (by simp; omega) _).grown HG1.out (by simp; omega) fun k hk => (hown2.lt k hk).1

end Go.Proofs.YtofinpocigbbeaaGreat

namespace Go.Proofs.YtofinpocigbbeaaGreat
open Go.RowKit

def errB (la lb : List (Int × Int × Int × Int)) : Int := if 20 < la.length ∨ 20 < lb.length then 2 else if la.all fitR = true ∧ lb.all fitR = true then 0 else 3

set_option maxRecDepth 100000 in
set_option maxHeartbeats 1000000 in
theorem check_many (B na ca nb cb : Nat) (aa ab : Option Addr) (w : World) (h0 : w.cell? ⟨B, 0, none⟩ = some (.slice aa na ca)) (h1 : w.cell? ⟨B, 1, none⟩ = some (.slice ab nb cb)) (hna : na ≤ maxLen) (hnb : nb ≤ maxLen) (h : 20 < na ∨ 20 < nb) :
    Calls Tryz.prog 71 #[.slice (some ⟨B, 0, none⟩) 2 2] w fun e w' => e = .returned (.int .i64 2) ∧ w' = w := by
  unfold maxLen at hna hnb
  by_cases hh : 20 < na
  · have g1 : (20 : Int) < (na : Int) := by omega
    go_enter Tryz.func71, Tryz.ntmps71
    go_wp2
    refine wp_loop_rounds 3 ?_
    rw [rounds_succ]
    go_wp2
    go_ret
    exact ⟨rfl, rfl⟩
  · have g0 : ¬ (20 : Int) < (na : Int) := by omega
    have g1 : (20 : Int) < (nb : Int) := by omega
    clear h hh
    go_enter Tryz.func71, Tryz.ntmps71
    go_wp2
    refine wp_loop_rounds 3 ?_
    rw [rounds_succ]
    go_wp2
    rw [rounds_succ]
    go_wp2
    go_ret
    exact ⟨rfl, rfl⟩

set_option maxRecDepth 100000 in
set_option maxHeartbeats 2000000 in
theorem check_few (B : Nat) (la lb : List (Int × Int × Int × Int)) (va vb : Value) (w : World) (h0 : w.cell? ⟨B, 0, none⟩ = some va) (h1 : w.cell? ⟨B, 1, none⟩ = some vb) (ha : RectsAt w va la) (hb : RectsAt w vb lb) (hla : la.length ≤ 20) (hlb : lb.length ≤ 20) :
    Calls Tryz.prog 71 #[.slice (some ⟨B, 0, none⟩) 2 2] w fun e w' => e = .returned (.int .i64 (if la.all fitR = true ∧ lb.all fitR = true then 0 else 3)) ∧ Below w.heap.size w w' := by
  have HA := hide ha
  have HBB := hide hb
  obtain ⟨aa, ca, rfl, _⟩ := ha
  obtain ⟨ab, cb, rfl, _⟩ := hb
  obtain ⟨res, hres⟩ : ∃ r : Int, (if la.all fitR = true ∧ lb.all fitR = true then 0 else 3) = r := ⟨_, rfl⟩
  rw [hres]
  have HRes := hide hres
  clear hres
  have hB := cell_lt h0
  have HL := hide (And.intro hla hlb)
  obtain ⟨na, hna⟩ : ∃ n, la.length = n := ⟨_, rfl⟩
  obtain ⟨nb, hnb⟩ : ∃ n, lb.length = n := ⟨_, rfl⟩
  rw [hna] at h0 hla
  rw [hnb] at h1 hlb
  have HN := hide (And.intro hna hnb)
  clear hna hnb
  have g0 : ¬ (20 : Int) < (na : Int) := by omega
  have g1 : ¬ (20 : Int) < (nb : Int) := by omega
  go_enter Tryz.func71, Tryz.ntmps71
  go_wp2
  refine wp_loop_rounds 3 ?_
  rw [rounds_succ]
  go_wp2
  rw [rounds_succ]
  go_wp2
  rw [rounds_succ]
  go_wp2
  go_loopg [21] 2 (fun g s21 wr => ∃ k : Nat, s21 = .int .i64 k ∧ g + k = 2 ∧ (1 ≤ k → la.all fitR = true) ∧ (2 ≤ k → lb.all fitR = true) ∧ Below w.heap.size w wr)
  case atStart => exact ⟨0, rfl, by omega, fun h => by omega, fun h => by omega, Below.refl _ _⟩
  case round =>
    rename World => wo
    rename Nat => gO
    obtain ⟨k, rfl, hgk, ok1, ok2, hbel⟩ := hrel
    cases gO with
    | zero =>
      have hk : k = 2 := by omega
      subst hk
      have HE := hide (And.intro (ok1 (by omega)) (And.intro (ok2 (by omega)) hbel))
      clear ok1 ok2 hbel
      go_wp2
      go_ret
      refine ⟨ret_int ?_, HE.out.2.2⟩
      rw [← HRes.out, if_pos ⟨HE.out.1, HE.out.2.1⟩]
    | succ g =>
      obtain ⟨l, n, x, c, hcell, hl, hn, hn20, hsel, hno⟩ : ∃ (l : List (Int × Int × Int × Int)) (n : Nat) (x : Option Addr) (c : Nat), wo.cell? ⟨B, k, none⟩ = some (.slice x n c) ∧ RectsAt w (.slice x n c) l ∧ l.length = n ∧ n ≤ 20 ∧ (l.all fitR = true → (1 ≤ k + 1 → la.all fitR = true) ∧ (2 ≤ k + 1 → lb.all fitR = true)) ∧ (l.all fitR = false → res = 3) := by
        have hk : k = 0 ∨ k = 1 := by omega
        rcases hk with rfl | rfl
        · refine ⟨la, na, aa, ca, (hbel.cell hB).trans h0, by rw [← HN.out.1]; exact HA.out, HN.out.1, hla, fun h => ⟨fun _ => h, fun h2 => by omega⟩, fun h => ?_⟩
          rw [← HRes.out, if_neg]
          rw [h]; simp
        · refine ⟨lb, nb, ab, cb, (hbel.cell hB).trans h1, by rw [← HN.out.2]; exact HBB.out, HN.out.2, hlb, fun h => ⟨fun _ => ok1 (by omega), fun _ => h⟩, fun h => ?_⟩
          rw [← HRes.out, if_neg]
          rw [h]; simp
      have hk2 : (k : Int) < 2 := by omega
      have hzB := cell_lt hcell
      have HX := hide (And.intro hl (And.intro hn (And.intro hsel (And.intro hno hbel))))
      clear hl hn hsel hno hbel ok1 ok2
      go_wp2
      go_loopg [27] n (fun gg s27 wr => ∃ q : Nat, s27 = .int .i64 q ∧ gg + q = n ∧ (∀ r ∈ l.take q, fitR r = true) ∧ Below w.heap.size w wr)
      case atStart => exact ⟨0, rfl, by omega, fun r hr => by simp at hr, HX.out.2.2.2.2⟩
      case round =>
        obtain ⟨q, rfl, hgq, hfit, hbr⟩ := hrel
        cases gk with
        | zero =>
          have hq : ¬ (q : Int) < (n : Int) := by omega
          have HY := hide (And.intro hfit hbr)
          clear hfit hbr
          go_wp2
          go_roundg g
          case measure => omega
          case rel =>
            have hall : l.all fitR = true := by
              rw [List.all_eq_true]
              have := HY.out.1
              rw [List.take_of_length_le (by have := HX.out.2.1; omega)] at this
              exact this
            have hs := HX.out.2.2.1 hall
            exact ⟨k + 1, by go_num, by omega, hs.1, hs.2, HY.out.2⟩
        | succ gq =>
          have hq : (q : Int) < (n : Int) := by omega
          have hqn : q < n := by omega
          have hql : q < l.length := by have := HX.out.2.1; omega
          obtain ⟨x', c', hx', hcs⟩ := HX.out.1
          have hx2 : x = x' := by simp at hx'; exact hx'.1
          subst hx2
          obtain ⟨b, off, rfl, hct⟩ := hcs (by omega)
          obtain ⟨c1, c2, c3, c4⟩ := hct q hql
          have hbl := cell_lt c1
          obtain ⟨⟨x0, y0, x1, y1⟩, hr⟩ : ∃ r, l[q] = r := ⟨_, rfl⟩
          rw [hr] at c1 c2 c3 c4
          simp only at c1 c2 c3 c4
          replace c1 := (hbr.cell hbl).trans c1
          replace c2 := (hbr.cell hbl).trans c2
          replace c3 := (hbr.cell hbl).trans c3
          replace c4 := (hbr.cell hbl).trans c4
          have hzb := cell_lt c1
          have hwr := hbr.size
          have hM := fun W => mayBeR_any x0 y0 x1 y1 W
          obtain ⟨p, hp⟩ : ∃ p, fitR (x0, y0, x1, y1) = p := ⟨_, rfl⟩
          rw [hp] at hM
          have HY := hide (And.intro hfit (And.intro hbr (And.intro hr hp)))
          clear hfit hbr hr hp hcs hct hx'
          cases p with
          | true =>
            go_wp2_with (go_at_call 68; refine (hM _).mono ?_; rintro e w' ⟨rfl, rfl⟩)
            go_roundg gq
            case measure => omega
            case rel =>
              obtain ⟨hfit, hbr, hr, hp⟩ := HY.out
              refine ⟨q + 1, by go_num, by omega, fun r hr' => ?_, (hbr.alloc hwr _).alloc (by simp; omega) _⟩
              rw [List.take_succ_eq_append_getElem hql, hr] at hr'
              simp at hr'
              rcases hr' with h | h
              · exact hfit r h
              · subst h; exact hp
          | false =>
            go_wp2_with (go_at_call 68; refine (hM _).mono ?_; rintro e w' ⟨rfl, rfl⟩)
            go_ret
            obtain ⟨hfit, hbr, hr, hp⟩ := HY.out
            refine ⟨ret_int ?_, (hbr.alloc hwr _).alloc (by simp; omega) _⟩
            refine (HX.out.2.2.2.1 ?_).symm
            rw [List.all_eq_false]
            exact ⟨l[q], List.getElem_mem hql, by rw [hr, hp]; simp⟩

theorem RectsAt.form {w : World} {v : Value} {l : List (Int × Int × Int × Int)} (h : RectsAt w v l) : ∃ a c, v = .slice a l.length c := by
  obtain ⟨a, c, hv, _⟩ := h
  exact ⟨a, c, hv⟩

theorem check_any (B : Nat) (la lb : List (Int × Int × Int × Int)) (va vb : Value) (w : World) (h0 : w.cell? ⟨B, 0, none⟩ = some va) (h1 : w.cell? ⟨B, 1, none⟩ = some vb) (ha : RectsAt w va la) (hb : RectsAt w vb lb) (hla : la.length ≤ maxLen) (hlb : lb.length ≤ maxLen) :
    Calls Tryz.prog 71 #[.slice (some ⟨B, 0, none⟩) 2 2] w fun e w' => e = .returned (.int .i64 (errB la lb)) ∧ Below w.heap.size w w' := by
  unfold errB
  by_cases h : 20 < la.length ∨ 20 < lb.length
  · rw [if_pos h]
    obtain ⟨aa, ca, rfl⟩ := ha.form
    obtain ⟨ab, cb, rfl⟩ := hb.form
    exact (check_many B _ ca _ cb aa ab w h0 h1 hla hlb h).mono fun e w' ⟨he, hw⟩ => ⟨he, by subst hw; exact Below.refl _ _⟩
  · rw [if_neg h]
    exact check_few B la lb va vb w h0 h1 ha hb (by omega) (by omega)

/-- What Combine answers: the error, or a list of rectangles of its own. -/
def Answer (kind : Int) (la lb : List (Int × Int × Int × Int)) (w : World) (e : Ending) (w' : World) : Prop :=
  Below w.heap.size w w' ∧ ∃ v er, e = .returned (.tuple #[v, .int .i64 er]) ∧
    ((¬ (0 ≤ kind ∧ kind ≤ 3) ∧ v = .slice none 0 0 ∧ er = 1) ∨ ((0 ≤ kind ∧ kind ≤ 3) ∧ errB la lb ≠ 0 ∧ v = .slice none 0 0 ∧ er = errB la lb) ∨
      ((0 ≤ kind ∧ kind ≤ 3) ∧ errB la lb = 0 ∧ er = 0 ∧ ∃ O, OwnR w' w.heap.size v (rc O) ∧ Good O ∧ ∀ x y, memR O x y = keepB kind (hasB la x y) (hasB lb x y)))

theorem OwnR.lower {w : World} {base base' : Nat} {v : Value} {l : List (Int × Int × Int × Int)} (h : OwnR w base v l) (hb : base' ≤ base) : OwnR w base' v l := by
  obtain ⟨⟨h1, h2⟩, h3⟩ := h
  refine ⟨⟨h1, ?_⟩, h3⟩
  rcases h2 with h2 | ⟨g, cap, cur, a1, a2, a3⟩
  · exact .inl h2
  · exact .inr ⟨g, cap, cur, a1, by omega, a3⟩

theorem errB_zero {la lb : List (Int × Int × Int × Int)} (h : errB la lb = 0) : la.length ≤ 20 ∧ lb.length ≤ 20 ∧ (∀ r ∈ la, fitR r = true) ∧ ∀ r ∈ lb, fitR r = true := by
  unfold errB at h
  split at h
  · omega
  · rename_i h1
    split at h
    · rename_i h2
      exact ⟨by omega, by omega, List.all_eq_true.1 h2.1, List.all_eq_true.1 h2.2⟩
    · omega

set_option maxRecDepth 100000 in
set_option maxHeartbeats 1000000 in
theorem pcombine_any (kind : Int) (la lb : List (Int × Int × Int × Int)) (va vb : Value) (w : World) (ha : RectsAt w va la) (hb : RectsAt w vb lb) (hla : la.length ≤ maxLen) (hlb : lb.length ≤ maxLen) :
    Calls Tryz.prog 83 #[.int .i64 kind, va, vb] w (Answer kind la lb w) := by
  by_cases hk : 0 ≤ kind ∧ kind ≤ 3
  · obtain ⟨aa, ca, rfl⟩ := ha.form
    obtain ⟨ab, cb, rfl⟩ := hb.form
    have hck : ∀ W, Below w.heap.size w W → W.cell? ⟨w.heap.size, 0, none⟩ = some (.slice aa la.length ca) → W.cell? ⟨w.heap.size, 1, none⟩ = some (.slice ab lb.length cb) → Calls Tryz.prog 71 #[.slice (some ⟨w.heap.size, 0, none⟩) 2 2] W fun e w' => e = .returned (.int .i64 (errB la lb)) ∧ Below W.heap.size W w' := fun W hW h0 h1 =>
      check_any w.heap.size la lb _ _ W h0 h1 (ha.below hW) (hb.below hW) hla hlb
    have HAns := hide (rfl : Answer kind la lb w = Answer kind la lb w)
    obtain ⟨er, her⟩ : ∃ x, errB la lb = x := ⟨_, rfl⟩
    rw [her] at hck
    have HE := hide her
    have HAB := hide (And.intro ha hb)
    have HK := hide hk
    obtain ⟨hk0, hk3⟩ := hk
    obtain ⟨na, hna⟩ : ∃ n, la.length = n := ⟨_, rfl⟩
    obtain ⟨nb, hnb⟩ : ∃ n, lb.length = n := ⟨_, rfl⟩
    rw [hna, hnb] at hck
    rw [hna, hnb]
    rw [hna, hnb] at HAB
    have HN := hide (And.intro hna hnb)
    clear hna hnb ha hb hla hlb her
    by_cases h0 : (er != 0) = true
    · go_enter Tryz.func83, Tryz.ntmps83
      go_wp2_with (go_at_call 71; refine (hck _ ?_ ?_ ?_).mono ?_; exact (Below.refl _ _).alloc (Nat.le_refl _) _; (simp); (simp); rintro e w1 ⟨rfl, hb1⟩; have HB1 := hide hb1; clear hb1)
      go_ret2
      refine ⟨((Below.refl _ _).alloc (Nat.le_refl _) _).trans (HB1.out.mono (by simp)), _, er, rfl, .inr (.inl ⟨HK.out, ?_, rfl, HE.out.symm⟩)⟩
      rw [HE.out]; simpa using h0
    · have h0 : (er != 0) = false := by simpa using h0
      have he0 : er = 0 := by simpa using h0
      have hz := errB_zero (HE.out.trans he0)
      have HZ := hide (And.intro he0 hz)
      clear he0 hz
      go_enter Tryz.func83, Tryz.ntmps83
      go_wp2_with (first
        | (go_at_call 71; refine (hck _ ?_ ?_ ?_).mono ?_; exact (Below.refl _ _).alloc (Nat.le_refl _) _; (simp); (simp); rintro e w1 ⟨rfl, hb1⟩; have HB1 := hide (((Below.refl _ w).alloc (Nat.le_refl _) _).trans (hb1.mono (by simp))); clear hb1)
        | (go_at_call_of 73 (Value.slice aa na ca); refine (of_any la _ _ (HAB.out.1.below HB1.out) (Nat.le_trans HZ.out.2.1 (by omega)) HZ.out.2.2.2.1).mono ?_; rintro e w2 ⟨u1, O1, rfl, hu1, hO1, hm1, hb2⟩; have H2 := hide (And.intro hu1 (And.intro hO1 (And.intro hm1 hb2))); clear hu1 hO1 hm1 hb2)
        | (go_at_call_of 73 (Value.slice ab nb cb); refine (of_any lb _ _ ((HAB.out.2.below HB1.out).below H2.out.2.2.2) (Nat.le_trans HZ.out.2.2.1 (by omega)) HZ.out.2.2.2.2).mono ?_; rintro e w3 ⟨u2, O2, rfl, hu2, hO2, hm2, hb3⟩; have H3 := hide (And.intro hu2 (And.intro hO2 (And.intro hm2 hb3))); clear hu2 hO2 hm2 hb3)
        | (go_at_call 103; refine (combine_any kind O1 O2 _ _ _ H2.out.2.1 H3.out.2.1 (H2.out.1.below H3.out.2.2.2) H3.out.1).mono ?_; rintro e w4 ⟨v4, O4, rfl, hv4, hO4, hm4, hb4⟩; have H4 := hide (And.intro hv4 (And.intro hO4 (And.intro hm4 hb4))); clear hv4 hO4 hm4 hb4)
        | (go_at_call 77; refine (rects_any O4 _ _ H4.out.1 H4.out.2.1).mono ?_; rintro e w5 ⟨v5, rfl, hv5, hb5⟩; have H5 := hide (And.intro hv5 hb5); clear hv5 hb5))
      go_ret2
      have hb := HB1.out
      have hb2 := hb.trans (H2.out.2.2.2.mono hb.size)
      have hb3 := hb2.trans (H3.out.2.2.2.mono hb2.size)
      have hb4 := hb3.trans (H4.out.2.2.2.mono hb3.size)
      refine ⟨hb4.trans (H5.out.2.mono hb4.size), _, 0, rfl, .inr (.inr ⟨HK.out, HE.out.trans HZ.out.1, rfl, O4, H5.out.1.lower hb4.size, H4.out.2.1, fun x y => ?_⟩)⟩
      rw [H4.out.2.2.1, H2.out.2.2.1, H3.out.2.2.1]
  · have HAns : Hid (¬ (0 ≤ kind ∧ kind ≤ 3)) := hk
    by_cases h1 : kind < 0
    · clear hk
      go_enter Tryz.func83, Tryz.ntmps83
      go_wp2
      go_ret2
      exact ⟨Below.refl _ _, _, _, rfl, .inl ⟨HAns.out, rfl, rfl⟩⟩
    · have h2 : 3 < kind := by omega
      clear hk
      go_enter Tryz.func83, Tryz.ntmps83
      go_wp2
      go_ret2
      exact ⟨Below.refl _ _, _, _, rfl, .inl ⟨HAns.out, rfl, rfl⟩⟩

end Go.Proofs.YtofinpocigbbeaaGreat
