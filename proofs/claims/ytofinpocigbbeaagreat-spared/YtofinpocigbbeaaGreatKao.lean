import Derived.Test.YtofinpocigbbeaaGreatKan
import Derived.Lib.SmallJoins
import Derived.Test.YtofinpocigbbeaaGreatKaf
namespace Go.Proofs.YtofinpocigbbeaaGreat
open Go.RowKit
attribute [local go_sem ↓] Go.wp_at_zero Go.wp_at_succ

/-- The damage that so many repaints lie behind. -/
def Cv.back (d : Cv) (k : Nat) : Rgn := (d.dam[(d.nw + 4 - k) % 4]?).getD []

def Cv.on (d : Cv) (x y : Int) : Bool := inR (0, 0, d.W, d.H) x y

/-- Where a buffer of that age may not be the picture. -/
def Cv.stale (d : Cv) (age : Nat) (x y : Int) : Bool := if age = 0 ∨ 4 < age then d.on x y else (List.range age).any fun k => memR (d.back k) x y

theorem Cv.back_good {d : Cv} (h : CvOk d) (k : Nat) : Good (d.back k) := by
  unfold Cv.back
  rcases e : d.dam[(d.nw + 4 - k) % 4]? with _ | R
  · exact good_nil
  · exact h.good R (List.mem_of_getElem? e)

theorem any_range_succ (k : Nat) (p : Nat → Bool) : (List.range (k + 1)).any p = ((List.range k).any p || p k) := by
  rw [List.range_succ, List.any_append]
  simp

set_option maxRecDepth 100000 in
set_option maxHeartbeats 1000000 in
/-- outOfDate -/
theorem outOfDate_any {w : World} {S : Nat → Prop} {c : Nat} {d : Cv} {bv : Value} {rg : Nat} {dv : Array Value} (h : CvMem w S c d bv rg dv) (hd : CvOk d) (age : Nat) (hage : age ≤ 4611686018427387904) :
    Calls Tryz.prog 76 #[.pointer (some ⟨c, 0, none⟩), .int .i64 age] w fun e w' => ∃ u O, e = .returned (.agg #[u]) ∧ BandsAt w' u O ∧ Good O ∧ (∀ x y, memR O x y = d.stale age x y) ∧ Below w.heap.size w w' := by
  have hnw := hd.nw
  have k0 : w.cell? ⟨c, 0, none⟩ = some (.int .i64 0) := h.blk.cell 0
  have k1 : w.cell? ⟨c, 1, none⟩ = some (.int .i64 0) := h.blk.cell 1
  have k2 : w.cell? ⟨c, 2, none⟩ = some (.int .i64 d.W) := h.blk.cell 2
  have k3 : w.cell? ⟨c, 3, none⟩ = some (.int .i64 d.H) := h.blk.cell 3
  have k5 : w.cell? ⟨c, 5, none⟩ = some (.slice (some ⟨rg, 0, none⟩) 4 4) := h.blk.cell 5
  have k6 : w.cell? ⟨c, 6, none⟩ = some (.int .i64 d.nw) := h.blk.cell 6
  have hcl := cell_lt k5
  have hcn : ¬ c = w.heap.size := by omega
  by_cases hb : age = 0 ∨ 4 < age
  · have HO : Hid (∀ W : World, RectsAt W (.slice (some ⟨w.heap.size + 1, 0, none⟩) 1 1) [(0, 0, (d.W : Int), (d.H : Int))] → Calls Tryz.prog 73 #[.slice (some ⟨w.heap.size + 1, 0, none⟩) 1 1] W fun e w' => ∃ u O, e = .returned (.agg #[u]) ∧ BandsAt w' u O ∧ Good O ∧ (∀ x y, memR O x y = d.stale age x y) ∧ Below W.heap.size W w') := fun W hW => (of_any _ _ W hW (by simp) (fun r hr => by
      simp at hr
      subst hr
      have := hd.w1
      have := hd.h1
      unfold fitR
      simp
      omega)).mono fun e w' ⟨u, O, q1, q2, q3, q4, q5⟩ => ⟨u, O, q1, q2, q3, fun x y => by rw [q4]; unfold Cv.stale Cv.on; rw [if_pos hb]; simp [hasB], q5⟩
    clear h hd
    obtain ⟨post, hpost⟩ : ∃ P : Ending → World → Prop, P = fun e w' => ∃ u O, e = .returned (.agg #[u]) ∧ BandsAt w' u O ∧ Good O ∧ (∀ x y, memR O x y = d.stale age x y) ∧ Below w.heap.size w w' := ⟨_, rfl⟩
    have HE : Hid (∀ (W W' : World) (u : Value) (O : Rgn), Below w.heap.size w W → W.heap[w.heap.size]? = some (.cells #[.slice none 0 0] 136 (0, 0)) → BandsAt W' u O → Good O → (∀ x y, memR O x y = d.stale age x y) → Below W.heap.size W W' → post (.returned (.agg #[u])) (W'.setCell ⟨w.heap.size, 0, none⟩ u)) := fun W W' u O h1 h2 h3 h4 h5 h6 => by
      rw [hpost]
      have h7 := (h6.block _ (block_lt h2)).trans h2
      exact ⟨u, O, rfl, h3.setBox h7 u, h4, h5, (h1.trans (h6.mono h1.size)).setCell (by simp) _⟩
    rw [← hpost]
    clear hpost
    have HO2 : Hid (Calls Tryz.prog 73 #[.slice (some ⟨w.heap.size + 1, 0, none⟩) 1 1] ((w.alloc (.cells #[.slice none 0 0] 136)).alloc (.cells #[.int .i64 0, .int .i64 0, .int .i64 d.W, .int .i64 d.H] 53)) fun e w' => ∃ ua un uc, e = .returned (.agg #[.slice ua un uc]) ∧ w'.cell? ⟨w.heap.size, 0, none⟩ = some (.slice none 0 0) ∧ w'.frozen? ⟨w.heap.size, 0, none⟩ = false ∧ Hid (post (.returned (.agg #[.slice ua un uc])) (w'.setCell ⟨w.heap.size, 0, none⟩ (.slice ua un uc)))) := by
      have e0 : ((w.alloc (.cells #[.slice none 0 0] 136)).alloc (.cells #[.int .i64 0, .int .i64 0, .int .i64 d.W, .int .i64 d.H] 53)).heap[w.heap.size]? = some (.cells #[.slice none 0 0] 136 (0, 0)) := (heap_old _ _ _ (by simp)).trans (heap_alloc_new w _)
      have e1 : ((w.alloc (.cells #[.slice none 0 0] 136)).alloc (.cells #[.int .i64 0, .int .i64 0, .int .i64 d.W, .int .i64 d.H] 53)).heap[w.heap.size + 1]? = some (.cells #[.int .i64 0, .int .i64 0, .int .i64 d.W, .int .i64 d.H] 53 (0, 0)) := by
        have q := heap_alloc_new (w.alloc (.cells #[.slice none 0 0] 136)) (.cells #[.int .i64 0, .int .i64 0, .int .i64 d.W, .int .i64 d.H] 53)
        rw [show (w.alloc (.cells #[.slice none 0 0] 136)).heap.size = w.heap.size + 1 by simp] at q
        exact q
      have ec := fun o => cell_of_row _ _ o _ _ _ e1
      refine (HO.out _ ⟨some ⟨w.heap.size + 1, 0, none⟩, 1, rfl, fun _ => ⟨w.heap.size + 1, 0, rfl, fun k hk => ?_⟩⟩).mono fun e w' ⟨u, O, q1, q2, q3, q4, q5⟩ => ?_
      · have hk0 : k = 0 := by simpa using hk
        subst hk0
        exact ⟨ec 0, ec 1, ec 2, ec 3⟩
      · obtain ⟨ua, un, uc, rfl⟩ := q2.form
        have hz := (q5.block _ (block_lt e0)).trans e0
        refine ⟨ua, un, uc, q1, cell_of_one hz, free_of_one hz, HE.out _ _ _ O ?_ e0 q2 q3 q4 q5⟩
        exact Joins.below_alloc2 w _ _
    clear HO HE
    rcases hb with rfl | h4
    · go_enter Tryz.func76, Tryz.ntmps76
      go_wp2_with (go_at_call 73; refine HO2.out.mono ?_; rintro e w1 ⟨ua, un, uc, rfl, z1, z2, HP⟩)
      refine bodyPost_ret (v := .agg #[.slice ua un uc]) (by simp [results, Tryz.results76, go_sem, z1]) rfl HP.out
    · have h40 : ¬ (age : Int) = 0 := by omega
      have h41 : (4 : Int) < (age : Int) := by omega
      go_enter Tryz.func76, Tryz.ntmps76
      go_wp2_with (go_at_call 73; refine HO2.out.mono ?_; rintro e w1 ⟨ua, un, uc, rfl, z1, z2, HP⟩)
      refine bodyPost_ret (v := .agg #[.slice ua un uc]) (by simp [results, Tryz.results76, go_sem, z1]) rfl HP.out
  · have h0 : ¬ (age : Int) = 0 := by omega
    have h4 : ¬ (4 : Int) < (age : Int) := by omega
    have hst : ∀ x y, d.stale age x y = (List.range age).any fun k => memR (d.back k) x y := fun x y => by unfold Cv.stale; rw [if_neg hb]
    have hrl := block_lt h.ring
    have HBk : Hid (∀ k : Nat, k < age → ∃ a n c', OutAt w 0 (.slice a n c') (d.back k) ∧ ∀ W : World, Below w.heap.size w W → Calls Tryz.prog 104 #[.agg #[.slice (some ⟨rg, 0, none⟩) 4 4, .int .i64 d.nw], .int .i64 k] W fun e w' => e = .returned (.agg #[.slice a n c']) ∧ Below W.heap.size W w') := fun k hk => by
      have hq : (d.nw + 4 - k) % 4 < d.dam.length := by rw [hd.ln]; omega
      obtain ⟨v0, hv0, ho0⟩ := h.regs _ _ (List.getElem?_eq_getElem hq)
      replace ho0 := ho0.out
      obtain ⟨a0, n0, c0, rfl⟩ := ho0.bands.form
      refine ⟨a0, n0, c0, ?_, fun W hW => back_any rg d.nw k _ hnw (by omega) rfl a0 n0 c0 W ((hW.cell (p := ⟨rg, _, none⟩) hrl).trans ((h.ring.cell _).trans hv0))⟩
      unfold Cv.back
      rw [List.getElem?_eq_getElem hq]
      exact ho0
    have HGd : Hid (∀ k : Nat, Good (d.back k)) := fun k => Cv.back_good hd k
    clear h hd
    go_enter Tryz.func76, Tryz.ntmps76
    go_wp2_with fail
    go_loopg [20] age (fun g s20 wr => ∃ (k : Nat) (u : Value) (O : Rgn), s20 = .int .i64 k ∧ g + k = age ∧ BandsAt wr u O ∧ Good O ∧ (∀ x y, memR O x y = (List.range k).any fun k => memR (d.back k) x y) ∧ wr.heap[w.heap.size]? = some (.cells #[.slice none 0 0] 136 (0, 0)) ∧ wr.heap[w.heap.size + 1]? = some (.cells #[u] 136 (0, 0)) ∧ Below w.heap.size w wr)
    case atStart =>
      refine ⟨0, .slice none 0 0, [], rfl, by omega, .inl ⟨rfl, rfl⟩, good_nil, fun x y => by simp [memR], ?_, ?_, ?_⟩
      · exact (heap_old _ _ _ (by simp)).trans (heap_alloc_new w _)
      · have h := heap_alloc_new (w.alloc (.cells #[.slice none 0 0] 136)) (.cells #[.slice none 0 0] 136)
        rw [show (w.alloc (.cells #[.slice none 0 0] 136)).heap.size = w.heap.size + 1 by simp] at h
        exact h
      · exact Joins.below_alloc2 w _ _
    case round =>
      obtain ⟨k, u, O, rfl, hgk, hu, hO, hmem, b0, b1, hbel⟩ := hrel
      obtain ⟨ua, un, uc, rfl⟩ := hu.form
      have z0 := cell_of_one b0
      have z1 := cell_of_one b1
      have f0 := free_of_one b0
      have f1 := free_of_one b1
      have zl0 := cell_lt z0
      have zl1 := cell_lt z1
      cases gk with
      | zero =>
        have hlt : ¬ (k : Int) < (age : Int) := by omega
        have hka : k = age := by omega
        subst hka
        have HE := hide (And.intro hu (And.intro hO (And.intro hmem (And.intro b0 hbel))))
        clear hu hO hmem hbel b0 b1
        go_wp2_with fail
        refine bodyPost_ret (v := .agg #[.slice ua un uc]) (by simp [results, Tryz.results76, go_sem, z0]) rfl ⟨_, rfl, O, ?_, HE.out.2.1, HE.out.2.2.1, ?_⟩
        · exact HE.out.1.setBox HE.out.2.2.2.1 _
        · exact HE.out.2.2.2.2.setCell (by simp) _
      | succ g =>
        have hlt : (k : Int) < (age : Int) := by omega
        obtain ⟨a2, n2, c2, ho2, hB⟩ := HBk.out k (by omega)
        have hsz := hbel.size
        have j5 : wr.cell? ⟨c, 5, none⟩ = some (.slice (some ⟨rg, 0, none⟩) 4 4) := (hbel.cell (p := ⟨c, 5, none⟩) hcl).trans k5
        have j6 : wr.cell? ⟨c, 6, none⟩ = some (.int .i64 d.nw) := (hbel.cell (p := ⟨c, 6, none⟩) hcl).trans k6
        have hcw : c < wr.heap.size := by omega
        have HB : Hid (∀ W : World, Below wr.heap.size wr W → Calls Tryz.prog 104 #[.agg #[.slice (some ⟨rg, 0, none⟩) 4 4, .int .i64 d.nw], .int .i64 k] W fun e w' => e = .returned (.agg #[.slice a2 n2 c2]) ∧ w'.cell? ⟨w.heap.size + 1, 0, none⟩ = some (.slice ua un uc) ∧ w'.frozen? ⟨w.heap.size + 1, 0, none⟩ = false ∧ Hid (Below wr.heap.size wr w')) := fun W hW => (hB W (hbel.trans (hW.mono hsz))).mono fun e w' ⟨q1, q2⟩ => by
          have q3 : Below wr.heap.size wr w' := hW.trans (q2.mono hW.size)
          exact ⟨q1, (q3.cell (p := ⟨w.heap.size + 1, 0, none⟩) zl1).trans z1, (q3.frozen (p := ⟨w.heap.size + 1, 0, none⟩) zl1).trans f1, q3⟩
        have HCm : Hid (∀ W : World, Below wr.heap.size wr W → Calls Tryz.prog 103 #[.int .i64 0, .agg #[.slice ua un uc], .agg #[.slice a2 n2 c2]] W fun e w' => ∃ a3 n3 c3, e = .returned (.agg #[.slice a3 n3 c3]) ∧ w'.cell? ⟨w.heap.size + 1, 0, none⟩ = some (.slice ua un uc) ∧ w'.frozen? ⟨w.heap.size + 1, 0, none⟩ = false ∧ Hid (∃ O2, BandsAt w' (.slice a3 n3 c3) O2 ∧ Good O2 ∧ (∀ x y, memR O2 x y = (memR O x y || memR (d.back k) x y)) ∧ Below wr.heap.size wr w')) := fun W hW => (combine_any 0 O (d.back k) _ _ W hO (HGd.out k) (hu.below hW) ((ho2.bands.below (hbel.trans (hW.mono hsz))))).mono fun e w' ⟨v2, O2, q1, q2, q3, q4, q5⟩ => by
          obtain ⟨a3, n3, c3, rfl⟩ := q2.form
          have q6 : Below wr.heap.size wr w' := hW.trans (q5.mono hW.size)
          exact ⟨a3, n3, c3, q1, (q6.cell (p := ⟨w.heap.size + 1, 0, none⟩) zl1).trans z1, (q6.frozen (p := ⟨w.heap.size + 1, 0, none⟩) zl1).trans f1, O2, q2, q3, fun x y => by rw [q4]; rfl, q6⟩
        have HE := hide (And.intro hmem (And.intro b0 (And.intro b1 hbel)))
        clear hu hO hmem hbel b0 b1 ho2 hB
        go_wp2_with fail
        go_region_with (first
          | (go_at_call 104; refine (HB.out _ (Below.refl _ _).drew).mono ?_; rintro e w1 ⟨rfl, y1, y2, H1⟩)
          | (go_at_call 103; refine (HCm.out _ H1.out).mono ?_; rintro e w2 ⟨a3, n3, c3, rfl, x1, x2, H2⟩))
        all_goals
          go_wp2_with fail
          go_roundg g
          case measure => omega
          case rel =>
            obtain ⟨O2, hv2, hO2, hm2, hbw⟩ := H2.out
            obtain ⟨hmem, b0, b1, hbel⟩ := HE.out
            have b0' := (hbw.block _ (block_lt b0)).trans b0
            have b1' := (hbw.block _ (block_lt b1)).trans b1
            refine ⟨k + 1, .slice a3 n3 c3, O2, by go_num, by omega, hv2.setBox b1' _, hO2, fun x y => ?_, ?_, one_setCell b1', (hbel.trans (hbw.mono hbel.size)).setCell (by simp) _⟩
            · rw [hm2, hmem, any_range_succ]
            · exact (Below.heap_setCell _ _ _ _ (by simp)).trans b0'

end Go.Proofs.YtofinpocigbbeaaGreat

namespace Go.Proofs.YtofinpocigbbeaaGreat
open Go.RowKit
attribute [local go_sem ↓] Go.wp_at_zero Go.wp_at_succ

theorem flat4_at {α : Type} (f : α → List Value) (hf : ∀ a, (f a).length = 4) : ∀ (L : List α) (i o : Nat) (_ : o < 4) (hi : i < L.length), (L.flatMap f)[i * 4 + o]? = (f L[i])[o]?
  | a :: L, 0, o, ho, _ => by
    rw [List.flatMap_cons, List.getElem?_append_left (by rw [hf]; omega)]
    simp
  | a :: L, i + 1, o, ho, hi => by
    rw [List.flatMap_cons, List.getElem?_append_right (by rw [hf]; omega), hf, show (i + 1) * 4 + o - 4 = i * 4 + o by omega]
    have := flat4_at f hf L i o ho (by simpa using hi)
    simpa using this
  | [], _, _, _, hi => by simp at hi

theorem flat4_set {α : Type} (f : α → List Value) (hf : ∀ a, (f a).length = 4) (u : Value) : ∀ (L : List α) (i o : Nat) (_ : o < 4) (hi : i < L.length) (b : α), f b = (f L[i]).set o u → (L.flatMap f).set (i * 4 + o) u = (L.set i b).flatMap f
  | a :: L, 0, o, ho, _, b, hb => by
    rw [List.set_cons_zero, List.flatMap_cons, List.flatMap_cons, List.set_append_left _ _ (by rw [hf]; omega), hb]
    simp
  | a :: L, i + 1, o, ho, hi, b, hb => by
    rw [List.set_cons_succ, List.flatMap_cons, List.flatMap_cons, List.set_append_right _ _ (by rw [hf]; omega), hf, show (i + 1) * 4 + o - 4 = i * 4 + o by omega, flat4_set f hf u L i o ho (by simpa using hi) b (by simpa using hb)]
  | [], _, _, _, hi, _, _ => by simp at hi

theorem bufC_len (W H : Nat) (b : Buf) : (bufC W H b).length = 4 := rfl

def Buf.older (b : Buf) : Buf := if 0 < b.age then { b with age := b.age + 1 } else b

theorem Buf.older_g (b : Buf) : b.older.g = b.g := by unfold Buf.older; split <;> rfl
theorem Buf.older_f (b : Buf) : b.older.f = b.f := by unfold Buf.older; split <;> rfl

/-- The first i are older. -/
def olderTo (i : Nat) (L : List Buf) : List Buf := L.mapIdx fun j b => if j < i then b.older else b

theorem olderTo_len (i : Nat) (L : List Buf) : (olderTo i L).length = L.length := by simp [olderTo]
theorem olderTo_zero (L : List Buf) : olderTo 0 L = L := by
  apply List.ext_getElem?
  intro j
  simp [olderTo]
theorem olderTo_all (L : List Buf) : olderTo L.length L = L.map Buf.older := by
  apply List.ext_getElem?
  intro j
  simp only [olderTo, List.getElem?_mapIdx, List.getElem?_map]
  by_cases e : j < L.length
  · rw [List.getElem?_eq_getElem e]; simp [e]
  · rw [List.getElem?_eq_none (by omega)]; rfl
theorem olderTo_at (i : Nat) (L : List Buf) (hi : i < L.length) : (olderTo i L)[i]'(by rw [olderTo_len]; exact hi) = L[i] := by simp [olderTo]
theorem olderTo_succ (i : Nat) (L : List Buf) (hi : i < L.length) : (olderTo i L).set i L[i].older = olderTo (i + 1) L := by
  apply List.ext_getElem?
  intro j
  rw [List.getElem?_set]
  simp only [olderTo, List.getElem?_mapIdx, List.length_mapIdx]
  by_cases e : i = j
  · subst e
    simp [hi]
  · rw [if_neg e]
    have : (j < i) = (j < i + 1) := by simp; omega
    simp only [this]
theorem olderTo_same (i : Nat) (L : List Buf) (hi : i < L.length) (h0 : ¬ 0 < L[i].age) : olderTo (i + 1) L = olderTo i L := by
  rw [← olderTo_succ i L hi]
  have : L[i].older = L[i] := by unfold Buf.older; rw [if_neg h0]
  rw [this]
  have h2 := olderTo_at i L hi
  conv => lhs; rw [← h2]
  simp

theorem mem_olderTo {i : Nat} {L : List Buf} {b : Buf} (h : b ∈ olderTo i L) : ∃ b' ∈ L, b.g = b'.g ∧ b.f = b'.f := by
  obtain ⟨j, hj, rfl⟩ := List.getElem_of_mem h
  rw [olderTo_len] at hj
  refine ⟨L[j], List.getElem_mem hj, ?_, ?_⟩
  · simp only [olderTo, List.getElem_mapIdx]; split; exact Buf.older_g _; rfl
  · simp only [olderTo, List.getElem_mapIdx]; split; exact Buf.older_f _; rfl

/-- A cell of the row of buffers is written: all else stays. -/
theorem CvMem.setBuf {w : World} {S : Nat → Prop} {c : Nat} {d : Cv} {bg n cap : Nat} {rg : Nat} {dv : Array Value} (h : CvMem w S c d (.slice (some ⟨bg, 0, none⟩) n cap) rg dv) (hn : n = d.bufs.length) (i o : Nat) (ho : o < 4) (hi : i < d.bufs.length) (b : Buf) (u : Value) (hb : bufC d.W d.H b = (bufC d.W d.H d.bufs[i]).set o u) (hp : S b.g ∧ PixF w b.g (d.W * d.H) b.f) :
    CvMem (w.setCell ⟨bg, i * 4 + o, none⟩ u) S c { d with bufs := d.bufs.set i b } (.slice (some ⟨bg, 0, none⟩) n cap) rg dv := by
  subst hn
  obtain ⟨cur, hcur⟩ := h.row.type (g := bg) rfl
  have hne : ∀ (g : Nat) (cur2 : Array Value) (t : TypeId), t ≠ 148 → w.heap[g]? = some (.cells cur2 t (0, 0)) → (w.setCell ⟨bg, i * 4 + o, none⟩ u).heap[g]? = w.heap[g]? := fun g cur2 t ht e => by
    refine heap_setCell_other w _ g u fun e2 => ?_
    subst e2
    have := hcur.symm.trans e
    simp at this
    exact ht this.2.symm
  have hkr : KeptR w (w.setCell ⟨bg, i * 4 + o, none⟩ u) := fun g cur2 t ht e => hne g cur2 t (by rcases ht with rfl | rfl <;> decide) e
  have pk : ∀ g f, PixF w g (d.W * d.H) f → PixF (w.setCell ⟨bg, i * 4 + o, none⟩ u) g (d.W * d.H) f := fun g f ⟨cur2, q, q2⟩ => ⟨cur2, (hne g cur2 51 (by decide) q).trans q, q2⟩
  refine ⟨h.blk.keep (hne c _ 145 (by decide) h.blk), h.own, ?_, h.ring.keep (hne rg _ 136 (by decide) h.ring), h.rown, h.size, fun j R hj => let ⟨v, h1, h2⟩ := h.regs j R hj; ⟨v, h1, h2.keptR hkr⟩, fun b' hb' => ?_⟩
  · have := h.row.set (i * 4 + o) u
    rw [flat4_set _ (bufC_len _ _) u d.bufs i o ho hi b hb] at this
    simpa using this
  · rcases List.mem_or_eq_of_mem_set hb' with q | q
    · exact ⟨(h.pix b' q).1, pk _ _ (h.pix b' q).2⟩
    · subst q
      exact ⟨hp.1, pk _ _ hp.2⟩

end Go.Proofs.YtofinpocigbbeaaGreat

namespace Go.Proofs.YtofinpocigbbeaaGreat
open Go.RowKit
attribute [local go_sem ↓] Go.wp_at_zero Go.wp_at_succ

/-- A repaint more. -/
def Cv.grown (d : Cv) : Cv := { d with bufs := d.bufs.map Buf.older, dam := d.dam.set ((d.nw + 1) % 4) [], nw := (d.nw + 1) % 4, old := d.old + 1 }

/-- Only the canvas's own rows are turned. -/
def CvS (c bg rg : Nat) : Nat → Prop := fun g => g = c ∨ g = bg ∨ g = rg

set_option maxRecDepth 100000 in
set_option maxHeartbeats 1000000 in
/-- growOlder -/
theorem growOlder_any {w : World} {S : Nat → Prop} {c : Nat} {d : Cv} {bg cap : Nat} {rg : Nat} {dv : Array Value} (h : CvMem w S c d (.slice (some ⟨bg, 0, none⟩) d.bufs.length cap) rg dv) (hd : CvOk d) (hold : d.old ≤ 4611686018427387904) :
    Calls Tryz.prog 79 #[.pointer (some ⟨c, 0, none⟩)] w fun e w' => e = .returned (.tuple #[]) ∧ (∃ dv', CvMem w' S c d.grown (.slice (some ⟨bg, 0, none⟩) d.bufs.length cap) rg dv') ∧ Only (CvS c bg rg) w w' := by
  have hnw := hd.nw
  have hn3 := hd.n
  have hcap : d.bufs.length ≤ cap := own_cap h.row.1
  obtain ⟨n, hn⟩ : ∃ n, d.bufs.length = n := ⟨_, rfl⟩
  have HM : Hid (∀ (W : World) (i : Nat), CvMem W S c { d with bufs := olderTo i d.bufs } (.slice (some ⟨bg, 0, none⟩) d.bufs.length cap) rg dv → W.cell? ⟨c, 4, none⟩ = some (.slice (some ⟨bg, 0, none⟩) n cap) ∧ ∀ hi : i < d.bufs.length, W.cell? ⟨bg, i * 4 + 3, none⟩ = some (.int .i64 d.bufs[i].age) ∧ W.frozen? ⟨bg, i * 4 + 3, none⟩ = false) := fun W i hW => by
    refine ⟨by rw [← hn]; exact hW.blk.cell 4, fun hi => ?_⟩
    obtain ⟨g', cap', q1, q2, q3, q4, q5, q6⟩ := hW.row.open (by simp only [olderTo_len]; omega)
    simp only [olderTo_len, Value.slice.injEq, Option.some.injEq, Addr.mk.injEq] at q1
    obtain ⟨⟨rfl, _⟩, _, rfl⟩ := q1
    refine ⟨q5 _ _ ?_, q6 _⟩
    show ((olderTo i d.bufs).flatMap (bufC d.W d.H))[i * 4 + 3]? = _
    rw [flat4_at _ (bufC_len _ _) _ i 3 (by omega) (by rw [olderTo_len]; exact hi), olderTo_at i _ hi]
    rfl
  have HN : Hid (∀ (W : World) (i : Nat) (hi : i < d.bufs.length), CvMem W S c { d with bufs := olderTo i d.bufs } (.slice (some ⟨bg, 0, none⟩) d.bufs.length cap) rg dv → 0 < d.bufs[i].age → CvMem (W.setCell ⟨bg, i * 4 + 3, none⟩ (.int .i64 ((d.bufs[i].age : Int) + 1))) S c { d with bufs := olderTo (i + 1) d.bufs } (.slice (some ⟨bg, 0, none⟩) d.bufs.length cap) rg dv) := fun W i hi hW ha => by
    have hi' : i < (olderTo i d.bufs).length := by rw [olderTo_len]; exact hi
    have hp := h.pix d.bufs[i] (List.getElem_mem hi)
    have := hW.setBuf (by simp [olderTo_len]) i 3 (by omega) hi' d.bufs[i].older (.int .i64 ((d.bufs[i].age : Int) + 1)) (by
      show bufC d.W d.H _ = (bufC d.W d.H ((olderTo i d.bufs)[i])).set 3 _
      rw [olderTo_at i _ hi]
      unfold Buf.older
      rw [if_pos ha]
      unfold bufC
      simp) (by
      have q := hW.pix ((olderTo i d.bufs)[i]) (List.getElem_mem hi')
      rw [olderTo_at i _ hi] at q
      rw [Buf.older_g, Buf.older_f]
      exact q)
    have e := olderTo_succ i d.bufs hi
    simp only [e] at this
    exact this
  have HAg : Hid (∀ (i : Nat) (hi : i < d.bufs.length), d.bufs[i].age ≤ 4611686018427387904) := fun i hi => Nat.le_trans (hd.age _ (List.getElem_mem hi)) hold
  have HZ : Hid (CvMem w S c { d with bufs := olderTo 0 d.bufs } (.slice (some ⟨bg, 0, none⟩) d.bufs.length cap) rg dv) := by rw [Hid, olderTo_zero]; exact h
  have HSa : Hid (∀ (W : World) (i : Nat) (hi : i < d.bufs.length), CvMem W S c { d with bufs := olderTo i d.bufs } (.slice (some ⟨bg, 0, none⟩) d.bufs.length cap) rg dv → ¬ 0 < d.bufs[i].age → CvMem W S c { d with bufs := olderTo (i + 1) d.bufs } (.slice (some ⟨bg, 0, none⟩) d.bufs.length cap) rg dv) := fun W i hi hW ha => by rw [olderTo_same i _ hi ha]; exact hW
  have HA : Hid (∀ W : World, CvMem W S c { d with bufs := olderTo n d.bufs } (.slice (some ⟨bg, 0, none⟩) d.bufs.length cap) rg dv → Calls Tryz.prog 117 #[.pointer (some ⟨c, 5, none⟩), .agg #[.slice none 0 0]] W fun e w' => e = .returned (.tuple #[]) ∧ (∃ dv', CvMem w' S c d.grown (.slice (some ⟨bg, 0, none⟩) d.bufs.length cap) rg dv') ∧ Only (CvS c bg rg) W w') := fun W hW => by
    have hcr : c ≠ rg := fun e => by
      subst e
      have := hW.blk.symm.trans hW.ring
      simp at this
    refine (ringAdd_any c rg d.nw _ hnw rfl none 0 0 _ _ _ W hW.blk rfl rfl hW.ring hW.size hcr).mono fun e w' ⟨q1, q2, q3, q4⟩ => ⟨q1, ⟨dv.setIfInBounds ((d.nw + 1) % 4) (.slice none 0 0), ?_⟩, q4.mono fun g _ hg => hg.elim .inl fun hg => .inr (.inr hg)⟩
    have hne : ∀ (g : Nat) (cur2 : Array Value) (t : TypeId), t ≠ 145 → t ≠ 136 → W.heap[g]? = some (.cells cur2 t (0, 0)) → w'.heap[g]? = W.heap[g]? := fun g cur2 t ht ht2 e => q4.block g (block_lt e) fun hg => by
      rcases hg with rfl | rfl
      · have := hW.blk.symm.trans e
        simp at this
        exact ht this.2.symm
      · have := hW.ring.symm.trans e
        simp at this
        exact ht2 this.2.symm
    have hkr : KeptR W w' := fun g cur2 t ht e => hne g cur2 t (by rcases ht with rfl | rfl <;> decide) (by rcases ht with rfl | rfl <;> decide) e
    rw [← hn, olderTo_all] at hW
    refine ⟨?_, hW.own, ?_, q3, hW.rown, by simpa using hW.size, fun i R hi => ?_, fun b hb => ⟨(hW.pix b hb).1, let ⟨cur2, k1, k2⟩ := (hW.pix b hb).2; ⟨cur2, (hne b.g cur2 51 (by decide) (by decide) k1).trans k1, k2⟩⟩⟩
    · have e : canvasC d.grown (.slice (some ⟨bg, 0, none⟩) d.bufs.length cap) (.slice (some ⟨rg, 0, none⟩) 4 4) = (canvasC { d with bufs := olderTo n d.bufs } (.slice (some ⟨bg, 0, none⟩) d.bufs.length cap) (.slice (some ⟨rg, 0, none⟩) 4 4)).setIfInBounds 6 (.int .i64 (((d.nw + 1) % 4 : Nat) : Int)) := rfl
      rw [e]
      exact q2
    · exact hW.row.other fun g cur2 e => hne g cur2 148 (by decide) (by decide) e
    · have hi2 : (d.dam.set ((d.nw + 1) % 4) [])[i]? = some R := hi
      by_cases e : i = (d.nw + 1) % 4
      · subst e
        have hlt : (d.nw + 1) % 4 < d.dam.length := by rw [hd.ln]; omega
        have : R = [] := by simpa [List.getElem?_set_self hlt] using hi2.symm
        subst this
        exact ⟨.slice none 0 0, by rw [Array.getElem?_setIfInBounds_self_of_lt (by rw [hW.size]; omega)], RegS.nil _ _⟩
      · have hi' : d.dam[i]? = some R := by simpa [List.getElem?_set_ne (fun q => e q.symm)] using hi2
        obtain ⟨v', k1, k2⟩ := hW.regs i R hi'
        exact ⟨v', by rw [Array.getElem?_setIfInBounds_ne (fun q => e q.symm)]; exact k1, k2.keptR hkr⟩
  have hcl := block_lt h.blk
  have c4 : w.cell? ⟨c, 4, none⟩ = some (.slice (some ⟨bg, 0, none⟩) n cap) := (HM.out w 0 HZ.out).1
  rw [hn] at hcap
  clear h hd
  go_enter Tryz.func79, Tryz.ntmps79
  go_wp2_with fail
  go_loopg [8] n (fun gg s8 wr => ∃ i : Nat, s8 = .int .i64 i ∧ gg + i = n ∧ CvMem wr S c { d with bufs := olderTo i d.bufs } (.slice (some ⟨bg, 0, none⟩) d.bufs.length cap) rg dv ∧ Only (CvS c bg rg) w wr)
  case atStart => exact ⟨0, rfl, by omega, HZ.out, Only.refl _ _⟩
  case round =>
    rename World => wr
    obtain ⟨i, rfl, hgi, hI, ho⟩ := hrel
    have HI := hide hI
    have HO := hide ho
    clear hI ho
    have j4 := (HM.out wr i HI.out).1
    cases gk with
    | zero =>
      have hlt : ¬ (i : Int) < (n : Int) := by omega
      have hin : i = n := by omega
      subst hin
      go_wp2_with (go_at_call 117; refine (HA.out _ HI.out).mono ?_; rintro e w1 ⟨rfl, q1, q2⟩; have H1 := hide (And.intro q1 (HO.out.trans (q2.mono fun g _ hg => .inl hg))); clear q1 q2)
      exact bodyPost_end (v := .tuple #[]) (by simp [results, Tryz.results79]) rfl ⟨rfl, H1.out⟩
    | succ gk =>
      have hlt : (i : Int) < (n : Int) := by omega
      have hi0 : (0 : Int) ≤ (i : Int) := by omega
      have hid : i < d.bufs.length := by omega
      have hic : i < cap := by omega
      obtain ⟨a3, f3⟩ := (HM.out wr i HI.out).2 hid
      have hag := HAg.out i hid
      have HN2 := hide (HN.out wr i hid HI.out)
      have HS2 := hide (HSa.out wr i hid HI.out)
      obtain ⟨ag, hagd⟩ : ∃ ag, d.bufs[i].age = ag := ⟨_, rfl⟩
      rw [hagd] at a3 hag HN2 HS2
      by_cases ha : 0 < ag
      · have ha' : (0 : Int) < (ag : Int) := by omega
        go_wp2_with fail
        go_roundg gk
        case measure => omega
        case rel => exact ⟨i + 1, by go_num, by omega, HN2.out ha, HO.out.set (.inl (.inr (.inl rfl))) _⟩
      · have ha' : ¬ (0 : Int) < (ag : Int) := by omega
        go_wp2_with fail
        go_roundg gk
        case measure => omega
        case rel => exact ⟨i + 1, by go_num, by omega, HS2.out ha, HO.out⟩

end Go.Proofs.YtofinpocigbbeaaGreat

namespace Go.Proofs.YtofinpocigbbeaaGreat
open Go.RowKit
attribute [local go_sem ↓] Go.wp_at_zero Go.wp_at_succ

def pixC (p : R4) : Array Value := #[.int .u8 p.1, .int .u8 p.2.1, .int .u8 p.2.2.1, .int .u8 p.2.2.2]

theorem PixF.set4 {w : World} {g n : Nat} {f : Nat → R4} (h : PixF w g n f) (k : Nat) (hk : k < n) (p : R4) :
    PixF ((((w.setCell ⟨g, k * 4, none⟩ (.int .u8 p.1)).setCell ⟨g, k * 4 + 1, none⟩ (.int .u8 p.2.1)).setCell ⟨g, k * 4 + 2, none⟩ (.int .u8 p.2.2.1)).setCell ⟨g, k * 4 + 3, none⟩ (.int .u8 p.2.2.2)) g n (fun j => if j = k then p else f j) := by
  obtain ⟨cur, h1, h2, h3⟩ := h
  have b1 : Blk w g 51 cur := h1
  have b2 := (((b1.set (k * 4) (.int .u8 p.1)).set (k * 4 + 1) (.int .u8 p.2.1)).set (k * 4 + 2) (.int .u8 p.2.2.1)).set (k * 4 + 3) (.int .u8 p.2.2.2)
  refine ⟨_, b2, by simpa using h2, fun j hj => ?_⟩
  have q := h3 j hj
  simp only [Array.getElem?_setIfInBounds, Array.size_setIfInBounds]
  by_cases e : j = k
  · subst e
    rw [if_pos rfl]
    refine ⟨?_, ?_, ?_, ?_⟩
    · rw [if_neg (by omega), if_neg (by omega), if_neg (by omega), if_pos rfl, if_pos (by omega)] <;> simp
    · rw [if_neg (by omega), if_neg (by omega), if_pos rfl, if_pos (by omega)] <;> simp
    · rw [if_neg (by omega), if_pos rfl, if_pos (by omega)] <;> simp
    · rw [if_pos rfl, if_pos (by omega)] <;> simp
  · rw [show (if j = k then p else f j) = f j from if_neg e]
    refine ⟨?_, ?_, ?_, ?_⟩
    · rw [if_neg (by omega), if_neg (by omega), if_neg (by omega), if_neg (by omega)]; exact q.1
    · rw [if_neg (by omega), if_neg (by omega), if_neg (by omega), if_neg (by omega)]; exact q.2.1
    · rw [if_neg (by omega), if_neg (by omega), if_neg (by omega), if_neg (by omega)]; exact q.2.2.1
    · rw [if_neg (by omega), if_neg (by omega), if_neg (by omega), if_neg (by omega)]; exact q.2.2.2

theorem PixF.has {w : World} {g n : Nat} {f : Nat → R4} (h : PixF w g n f) : HasB w g 51 (n * 4) := let ⟨cur, h1, h2, _⟩ := h; ⟨cur, h1, h2⟩

set_option maxRecDepth 100000 in
set_option maxHeartbeats 1000000 in
/-- Grid.Set -/
theorem gridSet_any (W H n g x y K : Nat) (hW : W ≤ 24) (hy : y < 24) (hK : y * W + x = K) (hKn : K < n) (hn : n ≤ 576) (p : R4) (f : Nat → R4) (w : World) (h : PixF w g n f) :
    Calls Tryz.prog 116 #[.agg #[.int .i64 W, .int .i64 H, .slice (some ⟨g, 0, none⟩) n n], .int .i64 x, .int .i64 y, .agg (pixC p)] w fun e w' => e = .returned (.tuple #[]) ∧ PixF w' g n (fun j => if j = K then p else f j) ∧ Only (fun b => b = g) w w' := by
  have hl := h.has.lt
  obtain ⟨u0, c0⟩ := h.has.cell (K * 4) (by omega)
  obtain ⟨u1, c1⟩ := h.has.cell (K * 4 + 1) (by omega)
  obtain ⟨u2, c2⟩ := h.has.cell (K * 4 + 2) (by omega)
  obtain ⟨u3, c3⟩ := h.has.cell (K * 4 + 3) (by omega)
  have f0 := h.has.free (K * 4)
  have f1 := h.has.free (K * 4 + 1)
  have f2 := h.has.free (K * 4 + 2)
  have f3 := h.has.free (K * 4 + 3)
  have HE : Hid (∀ o1 o2 : Obj, PixF ((((((w.setCell ⟨g, K * 4, none⟩ (.int .u8 p.1)).setCell ⟨g, K * 4 + 1, none⟩ (.int .u8 p.2.1)).setCell ⟨g, K * 4 + 2, none⟩ (.int .u8 p.2.2.1)).setCell ⟨g, K * 4 + 3, none⟩ (.int .u8 p.2.2.2)).alloc o1).alloc o2) g n (fun j => if j = K then p else f j) ∧ Only (fun b => b = g) w ((((((w.setCell ⟨g, K * 4, none⟩ (.int .u8 p.1)).setCell ⟨g, K * 4 + 1, none⟩ (.int .u8 p.2.1)).setCell ⟨g, K * 4 + 2, none⟩ (.int .u8 p.2.2.1)).setCell ⟨g, K * 4 + 3, none⟩ (.int .u8 p.2.2.2)).alloc o1).alloc o2)) := fun o1 o2 => by
    refine ⟨((h.set4 K hKn p).keep (heap_old _ _ _ (by simpa using hl))).keep (heap_old _ _ _ (by simp; omega)), ?_⟩
    exact ((((((Only.refl (fun b => b = g) w).set (.inl rfl) _).set (.inl rfl) _).set (.inl rfl) _).set (.inl rfl) _).alloc _).alloc _
  have e1 : (y : Int) * (W : Int) = ((y * W : Nat) : Int) := by simp
  obtain ⟨M, hM⟩ : ∃ M, y * W = M := ⟨_, rfl⟩
  have hMb : M ≤ 576 := by rw [← hM]; exact Nat.le_trans (Nat.mul_le_mul (show y ≤ 24 by omega) hW) (by omega)
  rw [hM] at e1 hK
  have e2 : (M : Int) + (x : Int) = (K : Int) := by omega
  have hKn' : (K : Int) < (n : Int) := by omega
  have hK0 : (0 : Int) ≤ (K : Int) := by omega
  clear h hM hK
  unfold pixC
  go_enter Tryz.func116, Tryz.ntmps116
  go_wp2_with fail
  refine bodyPost_end (v := .tuple #[]) (by simp [results, Tryz.results116]) rfl ⟨rfl, ?_⟩
  exact HE.out _ _

end Go.Proofs.YtofinpocigbbeaaGreat

namespace Go.Proofs.YtofinpocigbbeaaGreat
open Go.RowKit
attribute [local go_sem ↓] Go.wp_at_zero Go.wp_at_succ

theorem PixF.congr {w : World} {g n : Nat} {f f' : Nat → R4} (h : PixF w g n f) (he : ∀ k, k < n → f k = f' k) : PixF w g n f' := by
  obtain ⟨cur, h1, h2, h3⟩ := h
  exact ⟨cur, h1, h2, fun k hk => by rw [← he k hk]; exact h3 k hk⟩

/-! ### Painting: plain mathematics -/

abbrev inN (x0 y0 x1 y1 x y : Nat) : Prop := x0 ≤ x ∧ x < x1 ∧ y0 ≤ y ∧ y < y1

/-- Painted so far: all rows above y, and of row y what is left of x. -/
def paintTo (W x0 y0 x1 y1 : Nat) (pic : Nat → Nat → R4) (f : Nat → R4) (y x : Nat) (k : Nat) : R4 :=
  if inN x0 y0 x1 y1 (k % W) (k / W) ∧ (k / W < y ∨ (k / W = y ∧ k % W < x)) then pic (k % W) (k / W) else f k

def paintF (W x0 y0 x1 y1 : Nat) (pic : Nat → Nat → R4) (f : Nat → R4) (k : Nat) : R4 :=
  if inN x0 y0 x1 y1 (k % W) (k / W) then pic (k % W) (k / W) else f k

theorem paintTo_start (W x0 y0 x1 y1 : Nat) (pic : Nat → Nat → R4) (f : Nat → R4) (k : Nat) : f k = paintTo W x0 y0 x1 y1 pic f y0 x0 k := by
  unfold paintTo inN
  rw [if_neg]
  omega

theorem paintTo_row (W x0 y0 x1 y1 : Nat) (pic : Nat → Nat → R4) (f : Nat → R4) (y x : Nat) (hx : x1 ≤ x) (k : Nat) : paintTo W x0 y0 x1 y1 pic f y x k = paintTo W x0 y0 x1 y1 pic f (y + 1) x0 k := by
  unfold paintTo inN
  by_cases h : (x0 ≤ k % W ∧ k % W < x1 ∧ y0 ≤ k / W ∧ k / W < y1) ∧ (k / W < y ∨ (k / W = y ∧ k % W < x))
  · rw [if_pos h, if_pos (by omega)]
  · rw [if_neg h, if_neg (by omega)]

theorem paintTo_end (W x0 y0 x1 y1 : Nat) (pic : Nat → Nat → R4) (f : Nat → R4) (y x : Nat) (hy : y1 ≤ y) (k : Nat) : paintTo W x0 y0 x1 y1 pic f y x k = paintF W x0 y0 x1 y1 pic f k := by
  unfold paintTo paintF inN
  by_cases h : x0 ≤ k % W ∧ k % W < x1 ∧ y0 ≤ k / W ∧ k / W < y1
  · rw [if_pos ⟨h, by omega⟩, if_pos h]
  · rw [if_neg (fun q => h q.1), if_neg h]

theorem paintTo_set (W x0 y0 x1 y1 : Nat) (pic : Nat → Nat → R4) (f : Nat → R4) (y x : Nat) (hxW : x < W) (hx : x0 ≤ x ∧ x < x1) (hy : y0 ≤ y ∧ y < y1) (k : Nat) :
    (if k = y * W + x then pic x y else paintTo W x0 y0 x1 y1 pic f y x k) = paintTo W x0 y0 x1 y1 pic f y (x + 1) k := by
  have hm : k = y * W + x ↔ k % W = x ∧ k / W = y := by
    constructor
    · intro h
      subst h
      rw [Nat.mul_comm y W]
      exact ⟨by rw [Nat.mul_add_mod, Nat.mod_eq_of_lt hxW], by rw [Nat.mul_add_div (by omega), Nat.div_eq_of_lt hxW]; omega⟩
    · rintro ⟨h1, h2⟩
      have := Nat.div_add_mod k W
      rw [h1, h2, Nat.mul_comm] at this
      exact this.symm
  by_cases e : k = y * W + x
  · rw [if_pos e]
    obtain ⟨e1, e2⟩ := hm.1 e
    unfold paintTo inN
    rw [e1, e2, if_pos (by omega)]
  · rw [if_neg e]
    unfold paintTo inN
    have e3 : ¬ (k % W = x ∧ k / W = y) := fun h => e (hm.2 h)
    by_cases h : (x0 ≤ k % W ∧ k % W < x1 ∧ y0 ≤ k / W ∧ k / W < y1) ∧ (k / W < y ∨ (k / W = y ∧ k % W < x))
    · rw [if_pos h, if_pos (by omega)]
    · rw [if_neg h, if_neg (by omega)]

def sumTo (h : Nat → Int) : Nat → Int
  | 0 => 0
  | m + 1 => sumTo h m + h m

theorem sumTo_bound (h : Nat → Int) (b : Int) (hb : 0 ≤ b) : ∀ m, (∀ i, i < m → 0 ≤ h i ∧ h i ≤ b) → 0 ≤ sumTo h m ∧ sumTo h m ≤ m * b
  | 0, _ => by simp [sumTo]
  | m + 1, hh => by
    have h1 := sumTo_bound h b hb m fun i hi => hh i (by omega)
    have h2 := hh m (by omega)
    unfold sumTo
    have e : ((m + 1 : Nat) : Int) * b = m * b + b := by rw [Int.natCast_add, Int.add_mul]; simp
    omega

/-- How many pixels are laid in a rectangle. -/
def laidIn (laid : Nat → Nat → Int) (x0 y0 x1 y1 : Nat) : Int := sumTo (fun j => sumTo (fun i => laid (x0 + i) (y0 + j)) (x1 - x0)) (y1 - y0)

set_option maxRecDepth 100000 in
set_option maxHeartbeats 1000000 in
/-- paint -/
theorem paint_any (W H n g age x0 y0 x1 y1 : Nat) (hW : W ≤ 24) (hH : H ≤ 24) (hn : W * H = n) (hx : x0 ≤ x1 ∧ x1 ≤ W) (hy : y0 ≤ y1 ∧ y1 ≤ H) (la : Option Addr) (ln lc : Nat) (pic : Nat → Nat → R4) (laid : Nat → Nat → Int) (f : Nat → R4) (w : World) (h : PixF w g n f)
    (hl : ∀ x y, 0 ≤ laid x y ∧ laid x y ≤ 1000)
    (hAt : ∀ (V : World) (x y : Nat), Only (fun b => b = g) w V → x < W → y < H → Calls Tryz.prog 115 #[.agg #[.slice la ln lc], .int .i64 x, .int .i64 y] V fun e w' => e = .returned (.tuple #[.agg (pixC (pic x y)), .int .i64 (laid x y)]) ∧ Below V.heap.size V w') :
    Calls Tryz.prog 78 #[.agg #[.int .i64 W, .int .i64 H, .slice (some ⟨g, 0, none⟩) n n, .int .i64 age], .agg #[.int .i64 x0, .int .i64 y0, .int .i64 x1, .int .i64 y1], .agg #[.slice la ln lc]] w fun e w' => e = .returned (.int .i64 (laidIn laid x0 y0 x1 y1)) ∧ PixF w' g n (paintF W x0 y0 x1 y1 pic f) ∧ Only (fun b => b = g) w w' := by
  have hn2 : n ≤ 576 := by rw [← hn]; exact Nat.le_trans (Nat.mul_le_mul hW hH) (by omega)
  have hgl := h.has.lt
  have HS : Hid (∀ V : World, Only (fun b => b = g) (((w.alloc (.cells #[.int .i64 W, .int .i64 H, .slice (some ⟨g, 0, none⟩) n n, .int .i64 age] 148)).alloc (.cells #[.int .i64 x0, .int .i64 y0, .int .i64 x1, .int .i64 y1] 53)).alloc (.cells #[.slice la ln lc] 95)) V → Only (fun b => b = g) w V ∧ V.heap[w.heap.size]? = some (.cells #[.int .i64 W, .int .i64 H, .slice (some ⟨g, 0, none⟩) n n, .int .i64 age] 148 (0, 0)) ∧ V.heap[w.heap.size + 1]? = some (.cells #[.int .i64 x0, .int .i64 y0, .int .i64 x1, .int .i64 y1] 53 (0, 0)) ∧ V.heap[w.heap.size + 1 + 1]? = some (.cells #[.slice la ln lc] 95 (0, 0))) := fun V hV => by
    refine ⟨((((Only.refl _ w).alloc _).alloc _).alloc _).trans (hV.mono fun b _ hb => .inl hb), ?_, ?_, ?_⟩
    · rw [hV.block _ (by simp; omega) (by omega)]
      exact ((heap_old _ _ _ (by simp; omega)).trans (heap_old _ _ _ (by simp))).trans (heap_alloc_new w _)
    · rw [hV.block _ (by simp) (by omega)]
      refine (heap_old _ _ _ (by simp)).trans ?_
      have q := heap_alloc_new (w.alloc (.cells #[.int .i64 W, .int .i64 H, .slice (some ⟨g, 0, none⟩) n n, .int .i64 age] 148)) (.cells #[.int .i64 x0, .int .i64 y0, .int .i64 x1, .int .i64 y1] 53)
      rw [show (w.alloc (.cells #[.int .i64 W, .int .i64 H, .slice (some ⟨g, 0, none⟩) n n, .int .i64 age] 148)).heap.size = w.heap.size + 1 by simp] at q
      exact q
    · rw [hV.block _ (by simp) (by omega)]
      have q := heap_alloc_new ((w.alloc (.cells #[.int .i64 W, .int .i64 H, .slice (some ⟨g, 0, none⟩) n n, .int .i64 age] 148)).alloc (.cells #[.int .i64 x0, .int .i64 y0, .int .i64 x1, .int .i64 y1] 53)) (.cells #[.slice la ln lc] 95)
      rw [show ((w.alloc (.cells #[.int .i64 W, .int .i64 H, .slice (some ⟨g, 0, none⟩) n n, .int .i64 age] 148)).alloc (.cells #[.int .i64 x0, .int .i64 y0, .int .i64 x1, .int .i64 y1] 53)).heap.size = w.heap.size + 1 + 1 by simp] at q
      exact q
  have HAt := hide hAt
  have HL := hide hl
  have HF : Hid (PixF (((w.alloc (.cells #[.int .i64 W, .int .i64 H, .slice (some ⟨g, 0, none⟩) n n, .int .i64 age] 148)).alloc (.cells #[.int .i64 x0, .int .i64 y0, .int .i64 x1, .int .i64 y1] 53)).alloc (.cells #[.slice la ln lc] 95)) g n (paintTo W x0 y0 x1 y1 pic f y0 x0)) :=
    ((((h.keep (heap_old _ _ _ hgl)).keep (heap_old _ _ _ (by simp; omega))).keep (heap_old _ _ _ (by simp; omega)))).congr fun k _ => paintTo_start W x0 y0 x1 y1 pic f k
  clear h hAt hl
  go_enter Tryz.func78, Tryz.ntmps78
  go_wp2_with fail
  generalize ((w.alloc (.cells #[.int .i64 W, .int .i64 H, .slice (some ⟨g, 0, none⟩) n n, .int .i64 age] 148)).alloc (.cells #[.int .i64 x0, .int .i64 y0, .int .i64 x1, .int .i64 y1] 53)).alloc (.cells #[.slice la ln lc] 95) = W3 at *
  have HR : Hid (∀ j m, m ≤ x1 - x0 → 0 ≤ sumTo (fun i => laid (x0 + i) (y0 + j)) m ∧ sumTo (fun i => laid (x0 + i) (y0 + j)) m ≤ 24000) := fun j m hm => by
    have := sumTo_bound (fun i => laid (x0 + i) (y0 + j)) 1000 (by omega) m fun i _ => HL.out _ _
    have hm' : (m : Int) ≤ 24 := by omega
    omega
  have HT : Hid (∀ j, j ≤ y1 - y0 → 0 ≤ sumTo (fun j => sumTo (fun i => laid (x0 + i) (y0 + j)) (x1 - x0)) j ∧ sumTo (fun j => sumTo (fun i => laid (x0 + i) (y0 + j)) (x1 - x0)) j ≤ 576000) := fun j hj => by
    have := sumTo_bound (fun j => sumTo (fun i => laid (x0 + i) (y0 + j)) (x1 - x0)) 24000 (by omega) j fun i _ => HR.out i _ (Nat.le_refl _)
    have hm' : (j : Int) ≤ 24 := by omega
    omega
  go_loopg [7, 8] (y1 - y0) (fun gg s7 s8 wr => ∃ (j Y : Nat) (B : Int), s8 = .int .i64 Y ∧ Y = y0 + j ∧ gg + j = y1 - y0 ∧ s7 = .int .i64 B ∧ B = sumTo (fun j => sumTo (fun i => laid (x0 + i) (y0 + j)) (x1 - x0)) j ∧ PixF wr g n (paintTo W x0 y0 x1 y1 pic f Y x0) ∧ Only (fun b => b = g) W3 wr)
  case atStart => exact ⟨0, y0, 0, rfl, rfl, rfl, rfl, rfl, HF.out, Only.refl _ _⟩
  case round =>
    rename World => wr
    obtain ⟨j, Y, B, rfl, hY, hgj, rfl, hB, hp, ho⟩ := hrel
    obtain ⟨ow, bb, bq, bp⟩ := HS.out wr ho
    have q1 : wr.cell? ⟨w.heap.size + 1, 0, none⟩ = some (.int .i64 x0) := cell_of_row _ _ 0 _ _ _ bq
    have q3 : wr.cell? ⟨w.heap.size + 1, 3, none⟩ = some (.int .i64 y1) := cell_of_row _ _ 3 _ _ _ bq
    have HI := hide (And.intro hp ho)
    clear ow bb bq bp hp ho
    cases gk with
    | zero =>
      have hlt : ¬ (Y : Int) < (y1 : Int) := by omega
      have HE : Hid (Value.int .i64 B = .int .i64 (laidIn laid x0 y0 x1 y1)) := by
        unfold Hid laidIn
        rw [hB, show j = y1 - y0 by omega]
      have hYe : y1 ≤ Y := by omega
      clear hB hY
      go_wp2_with fail
      go_ret
      exact ⟨congrArg Ending.returned HE.out, HI.out.1.congr fun k _ => paintTo_end W x0 y0 x1 y1 pic f Y x0 hYe k, (HS.out _ HI.out.2).1⟩
    | succ gj =>
      have hlt : (Y : Int) < (y1 : Int) := by omega
      have hBb := HT.out j (by omega)
      rw [← hB] at hBb
      have HY := hide (And.intro hY hB)
      have hYy : Y < y1 := by omega
      clear hY hB
      go_wp2_with fail
      go_loopg [7, 9] (x1 - x0) (fun gg s7 s9 wi => ∃ (i X : Nat) (C : Int), s9 = .int .i64 X ∧ X = x0 + i ∧ gg + i = x1 - x0 ∧ s7 = .int .i64 C ∧ C = B + sumTo (fun i => laid (x0 + i) (y0 + j)) i ∧ PixF wi g n (paintTo W x0 y0 x1 y1 pic f Y X) ∧ Only (fun b => b = g) W3 wi)
      case atStart => exact ⟨0, x0, B, rfl, rfl, rfl, rfl, by simp [sumTo], HI.out.1, HI.out.2⟩
      case round =>
        rename World => wi
        rename Nat => gi
        obtain ⟨i, X, C, rfl, hX, hgi, rfl, hC, hp, ho⟩ := hrel
        obtain ⟨ow, bb, bq, bp⟩ := HS.out wi ho
        have r2 : wi.cell? ⟨w.heap.size + 1, 2, none⟩ = some (.int .i64 x1) := cell_of_row _ _ 2 _ _ _ bq
        have t0 : wi.cell? ⟨w.heap.size + 1 + 1, 0, none⟩ = some (.slice la ln lc) := cell_of_row _ _ 0 _ _ _ bp
        have HJ := hide (And.intro hp (And.intro ho ow))
        have hrb := HR.out j i (by omega)
        have hb1 := block_lt bb
        clear ow bb bq bp hp ho
        cases gi with
        | zero =>
          have hlt2 : ¬ (X : Int) < (x1 : Int) := by omega
          have HX := hide (And.intro hX hC)
          clear hX hC
          go_wp2_with fail
          go_roundg gj
          case measure => omega
          case rel =>
            have hX := HX.out.1
            refine ⟨j + 1, Y + 1, C, by go_num, by have := HY.out.1; omega, by omega, rfl, ?_, HJ.out.1.congr fun k _ => ?_, HJ.out.2.1⟩
            · rw [HX.out.2, HY.out.2, show i = x1 - x0 by omega]
              rfl
            · exact paintTo_row W x0 y0 x1 y1 pic f Y X (by omega) k
        | succ gi =>
          have hlt2 : (X : Int) < (x1 : Int) := by omega
          have HA2 := hide (HAt.out wi X Y HJ.out.2.2 (by omega) (by omega))
          have hlb := HL.out X Y
          have HX := hide (And.intro hX hC)
          have hXx : X < x1 := by omega
          have hCb : 0 ≤ C ∧ C ≤ 700000 := by omega
          clear hX hC
          obtain ⟨P, hP⟩ : ∃ P, pic X Y = P := ⟨_, rfl⟩
          obtain ⟨L, hL⟩ : ∃ L, laid X Y = L := ⟨_, rfl⟩
          rw [hP, hL] at HA2
          rw [hL] at hlb
          unfold pixC at HA2
          have HPL := hide (And.intro hP hL)
          clear hP hL
          have hKn : Y * W + X < n := by
            have e1 : (Y + 1) * W ≤ H * W := Nat.mul_le_mul_right W (by omega)
            have e2 : (Y + 1) * W = Y * W + W := Nat.succ_mul Y W
            have e3 : H * W = n := by rw [Nat.mul_comm]; exact hn
            omega
          have HB5 : Hid (∀ w5 : World, Below wi.heap.size wi w5 → w5.cell? ⟨w.heap.size, 0, none⟩ = some (.int .i64 W) ∧ w5.cell? ⟨w.heap.size, 1, none⟩ = some (.int .i64 H) ∧ w5.cell? ⟨w.heap.size, 2, none⟩ = some (.slice (some ⟨g, 0, none⟩) n n) ∧ w.heap.size < w5.heap.size) := fun w5 b5 => by
            obtain ⟨_, bb, _, _⟩ := HS.out w5 (HJ.out.2.1.after b5)
            exact ⟨cell_of_row _ _ 0 _ _ _ bb, cell_of_row _ _ 1 _ _ _ bb, cell_of_row _ _ 2 _ _ _ bb, block_lt bb⟩
          have HSt : Hid (∀ (w5 : World) (o : Obj), Below wi.heap.size wi w5 → Calls Tryz.prog 116 #[.agg #[.int .i64 W, .int .i64 H, .slice (some ⟨g, 0, none⟩) n n], .int .i64 X, .int .i64 Y, .agg #[.int .u8 P.1, .int .u8 P.2.1, .int .u8 P.2.2.1, .int .u8 P.2.2.2]] (w5.alloc o) fun e w' => e = .returned (.tuple #[]) ∧ Hid (PixF w' g n (paintTo W x0 y0 x1 y1 pic f Y (X + 1)) ∧ Only (fun b => b = g) W3 w')) := fun w5 o b5 => by
            have hpx := HJ.out.1
            have hlt5 : g < wi.heap.size := hpx.has.lt
            have hp5 := (hpx.keep (b5.block g hlt5)).keep (heap_old w5 o g (Nat.lt_of_lt_of_le hlt5 b5.size))
            refine (gridSet_any W H n g X Y (Y * W + X) hW (by omega) rfl hKn hn2 P _ (w5.alloc o) hp5).mono fun e w' ⟨q1, q2, q3⟩ => ⟨q1, q2.congr fun k _ => ?_, ((HJ.out.2.1.after b5).alloc o).trans (q3.mono fun b _ hb => .inl hb)⟩
            have := paintTo_set W x0 y0 x1 y1 pic f Y X (by omega) (by have := HX.out.1; omega) (by have := HY.out.1; omega) k
            rw [HPL.out.1] at this
            exact this
          go_wp2_with (first
            | (go_at_call 115; refine HA2.out.mono ?_; rintro e w5 ⟨rfl, b5⟩; obtain ⟨s0, s1, s2, s3⟩ := HB5.out w5 b5; have HSt2 := hide (fun o => HSt.out w5 o b5); clear b5)
            | (go_at_call 116; refine (HSt2.out _).mono ?_; rintro e w6 ⟨rfl, H6⟩)
            | fail)
          go_roundg gi
          case measure => omega
          case rel =>
            refine ⟨i + 1, X + 1, C + L, by go_num, by have := HX.out.1; omega, by omega, by go_num, ?_, H6.out⟩
            show C + L = B + (sumTo _ i + laid (x0 + i) (y0 + j))
            rw [HX.out.2, ← HPL.out.2, HX.out.1, HY.out.1]
            omega

end Go.Proofs.YtofinpocigbbeaaGreat

namespace Go.Proofs.YtofinpocigbbeaaGreat
open Go.RowKit

/-! ### Painting a list of rectangles -/

def paintL (W : Nat) (l : List R4) (pic : Nat → Nat → R4) (f : Nat → R4) (k : Nat) : R4 := if hasB l ((k % W : Nat) : Int) ((k / W : Nat) : Int) then pic (k % W) (k / W) else f k

def laidR (laid : Nat → Nat → Int) (r : R4) : Int := laidIn laid r.1.toNat r.2.1.toNat r.2.2.1.toNat r.2.2.2.toNat

def laidL (laid : Nat → Nat → Int) (l : List R4) (m : Nat) : Int := sumTo (fun j => laidR laid (l.getD j (0, 0, 0, 0))) m

theorem paintL_zero (W : Nat) (l : List R4) (pic : Nat → Nat → R4) (f : Nat → R4) (k : Nat) : paintL W (l.take 0) pic f k = f k := by simp [paintL, hasB]

theorem paintL_succ (W : Nat) (l : List R4) (pic : Nat → Nat → R4) (f : Nat → R4) (m : Nat) (hm : m < l.length) (x0 y0 x1 y1 : Nat) (hr : l[m] = ((x0 : Int), (y0 : Int), (x1 : Int), (y1 : Int))) (k : Nat) :
    paintF W x0 y0 x1 y1 pic (paintL W (l.take m) pic f) k = paintL W (l.take (m + 1)) pic f k := by
  unfold paintF paintL
  rw [hasB_snoc l m hm, hr]
  have e : inR ((x0 : Int), (y0 : Int), (x1 : Int), (y1 : Int)) ((k % W : Nat) : Int) ((k / W : Nat) : Int) = decide (inN x0 y0 x1 y1 (k % W) (k / W)) := by
    unfold inR
    rw [Bool.eq_iff_iff]
    simp only [decide_eq_true_eq]
    omega
  rw [e]
  by_cases h : inN x0 y0 x1 y1 (k % W) (k / W)
  · rw [if_pos h]; simp [h]
  · rw [if_neg h]; simp [h]

theorem laidIn_bound (laid : Nat → Nat → Int) (hl : ∀ x y, 0 ≤ laid x y ∧ laid x y ≤ 1000) (x0 y0 x1 y1 : Nat) (hx : x1 - x0 ≤ 24) (hy : y1 - y0 ≤ 24) : 0 ≤ laidIn laid x0 y0 x1 y1 ∧ laidIn laid x0 y0 x1 y1 ≤ 576000 := by
  have h1 : ∀ j, 0 ≤ sumTo (fun i => laid (x0 + i) (y0 + j)) (x1 - x0) ∧ sumTo (fun i => laid (x0 + i) (y0 + j)) (x1 - x0) ≤ 24000 := fun j => by
    have := sumTo_bound (fun i => laid (x0 + i) (y0 + j)) 1000 (by omega) (x1 - x0) fun i _ => hl _ _
    omega
  have := sumTo_bound (fun j => sumTo (fun i => laid (x0 + i) (y0 + j)) (x1 - x0)) 24000 (by omega) (y1 - y0) fun j _ => h1 j
  unfold laidIn
  omega

/-- On the screen, as numbers that are not below zero. -/
def OnScr (W H : Nat) (r : R4) : Prop := 0 ≤ r.1 ∧ r.1 ≤ r.2.2.1 ∧ r.2.2.1 ≤ W ∧ 0 ≤ r.2.1 ∧ r.2.1 ≤ r.2.2.2 ∧ r.2.2.2 ≤ H

theorem OnScr.nats {W H : Nat} {r : R4} (h : OnScr W H r) : ∃ x0 y0 x1 y1 : Nat, r = ((x0 : Int), (y0 : Int), (x1 : Int), (y1 : Int)) ∧ x0 ≤ x1 ∧ x1 ≤ W ∧ y0 ≤ y1 ∧ y1 ≤ H := by
  obtain ⟨a, b, c, d⟩ := r
  unfold OnScr at h
  simp only at h
  refine ⟨a.toNat, b.toNat, c.toNat, d.toNat, ?_, by omega, by omega, by omega, by omega⟩
  simp only [Prod.mk.injEq]
  omega

theorem edges_lt : ∀ {S : List (Int × Int)}, (edges S).Pairwise (· < ·) → ∀ s ∈ S, s.1 < s.2
  | a :: S, h, s, hs => by
    have e : edges (a :: S) = a.1 :: a.2 :: edges S := rfl
    rw [e, List.pairwise_cons, List.pairwise_cons] at h
    rcases List.mem_cons.1 hs with rfl | hs
    · exact h.1 _ (List.mem_cons_self ..)
    · exact edges_lt h.2.2 s hs

/-- The region's rectangles have points, and no others than the region's. -/
theorem rc_points {O : Rgn} (hO : Good O) {r : R4} (hr : r ∈ rc O) : r.1 < r.2.2.1 ∧ r.2.1 < r.2.2.2 ∧ ∀ x y, inR r x y = true → memR O x y = true := by
  unfold rc at hr
  rw [List.mem_flatMap] at hr
  obtain ⟨b, hb, hs⟩ := hr
  rw [List.mem_map] at hs
  obtain ⟨s, hs, rfl⟩ := hs
  have h1 := hO.tb b hb
  have h2 := (hO.sp b hb).1
  refine ⟨edges_lt h2.rising s hs, h1, fun x y hxy => ?_⟩
  unfold memR
  rw [List.any_eq_true]
  refine ⟨b, hb, ?_⟩
  unfold inR at hxy
  simp only [decide_eq_true_eq] at hxy
  rw [Bool.and_eq_true]
  refine ⟨decide_eq_true (by omega), ?_⟩
  unfold memS
  rw [List.any_eq_true]
  exact ⟨s, hs, decide_eq_true (by omega)⟩

theorem hasB_rc' (O : Rgn) (x y : Int) : hasB (rc O) x y = memR O x y := by
  rw [Bool.eq_iff_iff]
  unfold hasB memR memS rc
  simp only [List.any_eq_true, Bool.and_eq_true, decide_eq_true_eq, inR, List.mem_flatMap, List.mem_map]
  constructor
  · rintro ⟨r, ⟨b, hb, s, hs, rfl⟩, h⟩
    simp only at h
    exact ⟨b, hb, by omega, s, hs, by omega⟩
  · rintro ⟨b, hb, h1, s, hs, h2⟩
    exact ⟨_, ⟨b, hb, s, hs, rfl⟩, by simp only; omega⟩

/-- Of a region on the screen each rectangle is on the screen. -/
theorem rc_on {O : Rgn} (hO : Good O) {W H : Nat} (h : ∀ x y, memR O x y = true → inR (0, 0, (W : Int), (H : Int)) x y = true) {r : R4} (hr : r ∈ rc O) : OnScr W H r := by
  obtain ⟨h1, h2, h3⟩ := rc_points hO hr
  have q1 := h _ _ (h3 r.1 r.2.1 (by unfold inR; exact decide_eq_true (by omega)))
  have q2 := h _ _ (h3 (r.2.2.1 - 1) (r.2.2.2 - 1) (by unfold inR; exact decide_eq_true (by omega)))
  unfold inR at q1 q2
  simp only [decide_eq_true_eq] at q1 q2
  unfold OnScr
  omega

theorem set_same {α : Type} {l : List α} {i : Nat} {u : α} (h : l[i]? = some u) : l.set i u = l := by
  apply List.ext_getElem?
  intro j
  rw [List.getElem?_set]
  by_cases e : i = j
  · subst e
    rw [if_pos rfl, if_pos (List.getElem?_eq_some_iff.1 h).1, h]
  · rw [if_neg e]

/-- A buffer's pixels are another's: all else stays. -/
theorem CvMem.painted {w w' : World} {S : Nat → Prop} {c : Nat} {d : Cv} {bv : Value} {rg : Nat} {dv : Array Value} (h : CvMem w S c d bv rg dv) (hd : CvOk d) (i : Nat) (hi : i < d.bufs.length) (f : Nat → R4) (ho : Only (fun b => b = d.bufs[i].g) w w') (hf : PixF w' d.bufs[i].g (d.W * d.H) f) :
    CvMem w' S c { d with bufs := d.bufs.set i { d.bufs[i] with f := f } } bv rg dv := by
  obtain ⟨hSi, cur0, hc0, _⟩ := h.pix d.bufs[i] (List.getElem_mem hi)
  have hne : ∀ (g : Nat) (cur2 : Array Value) (t : TypeId), t ≠ 51 → w.heap[g]? = some (.cells cur2 t (0, 0)) → w'.heap[g]? = w.heap[g]? := fun g cur2 t ht e => ho.block g (block_lt e) fun e2 => by
    subst e2
    have := hc0.symm.trans e
    simp at this
    exact ht this.2.symm
  have hkr : KeptR w w' := fun g cur2 t ht e => hne g cur2 t (by rcases ht with rfl | rfl <;> decide) e
  refine ⟨h.blk.keep (hne c _ 145 (by decide) h.blk), h.own, ?_, h.ring.keep (hne rg _ 136 (by decide) h.ring), h.rown, h.size, fun j R hj => let ⟨v, h1, h2⟩ := h.regs j R hj; ⟨v, h1, h2.keptR hkr⟩, fun b hb => ?_⟩
  · have e : (d.bufs.set i { d.bufs[i] with f := f }).flatMap (bufC d.W d.H) = d.bufs.flatMap (bufC d.W d.H) := by
      have h4 := flat4_set (bufC d.W d.H) (bufC_len _ _) (.int .i64 d.bufs[i].age) d.bufs i 3 (by omega) hi { d.bufs[i] with f := f } rfl
      rw [← h4]
      refine set_same ?_
      rw [flat4_at _ (bufC_len _ _) _ i 3 (by omega) hi]
      rfl
    show RowS w' S _ 4 bv (d.bufs.set i _).length _
    rw [e, List.length_set]
    exact h.row.other fun g cur2 e => hne g cur2 148 (by decide) e
  · obtain ⟨j, hj, rfl⟩ := List.getElem_of_mem hb
    simp only [List.length_set] at hj
    simp only [List.getElem_set]
    by_cases e : i = j
    · subst e
      rw [if_pos rfl]
      exact ⟨hSi, hf⟩
    · rw [if_neg e]
      have hp := h.pix d.bufs[j] (List.getElem_mem hj)
      refine ⟨hp.1, hp.2.keep (ho.block _ hp.2.has.lt fun e2 => e ?_)⟩
      exact hd.apart i j _ _ (List.getElem?_eq_getElem hi) (List.getElem?_eq_getElem hj) e2.symm

end Go.Proofs.YtofinpocigbbeaaGreat
