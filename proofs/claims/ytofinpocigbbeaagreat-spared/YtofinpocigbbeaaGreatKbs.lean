import Derived.Test.YtofinpocigbbeaaGreatKbq
import Derived.Test.YtofinpocigbbeaaGreatKbr
import Derived.Test.YtofinpocigbbeaaGreatKbo
import Derived.Test.YtofinpocigbbeaaGreatKaw
import Derived.Deep.RegionHeld3
import Derived.Test.YtofinpocigbbeaaGreatKal
namespace Go.Proofs.YtofinpocigbbeaaGreat
open Go.RowKit
attribute [local go_sem ↓] Go.wp_at_zero Go.wp_at_succ

/-- What Look answers of a buffer that there is. -/
def LkPost (d : Cv) (i : Nat) (w : World) (e : Ending) (w' : World) : Prop :=
  ∃ (hi : i < d.bufs.length) (v : Value), e = .returned (.tuple #[v, .int .i64 d.bufs[i].age, .int .i64 0]) ∧ w'.ownsRow w.heap.size 51 4 v (d.W * d.H) (pixCells (pxL d.bufs[i].f (d.W * d.H))) ∧ v ≠ .slice none 0 0 ∧ Below w.heap.size w w'

set_option maxRecDepth 100000 in
set_option maxHeartbeats 1000000 in
theorem fuLook_any {S : Nat → Prop} {x : Nat} {st : St} {d : Cv} (i : Nat) (hi : i < d.bufs.length) (w : World) (h : FullC w S x st d) :
    Calls Tryz.prog 31 #[.pointer (some ⟨x, 0, none⟩), .int .i64 i] w (LkPost d i w) := by
  obtain ⟨A, B, c, h1, h2, h3⟩ := h
  obtain ⟨x1, xl⟩ := h1.cells
  have HH := hide (h1.has i w (Below.refl _ _))
  have hdc : decide (0 ≤ (i : Int) ∧ (i : Int) < d.bufs.length) = true := decide_eq_true (by omega)
  rw [hdc] at HH
  obtain ⟨bv, rg, dv, hc⟩ := h1.cv
  have hn3 := h1.ok.n
  obtain ⟨bg, cap, rfl, _⟩ := hc.row.open (by omega)
  obtain ⟨n, hn⟩ : ∃ n, d.W * d.H = n := ⟨_, rfl⟩
  obtain ⟨ag, hag⟩ : ∃ ag, d.bufs[i].age = ag := ⟨_, rfl⟩
  have HL : Hid (Calls Tryz.prog 65 #[.pointer (some ⟨c, 0, none⟩), .int .i64 i] w fun e w' => ∃ a q, e = .returned (.tuple #[.slice a n q, .int .i64 ag]) ∧ LkPost d i w (.returned (.tuple #[.slice a n q, .int .i64 ag, .int .i64 0])) w') := by
    refine (look_any hc h1.ok i hi).mono ?_
    rintro e w' ⟨v, rfl, ho, hv, hb⟩
    obtain ⟨a, q, hvf⟩ := row_form ho
    rw [hn] at hvf
    subst hvf
    rw [← hag]
    exact ⟨a, q, rfl, hi, _, rfl, ho, hv, hb⟩
  clear h1 h2 h3 hc hdc hn hag hi hn3
  go_enter Tryz.func31, Tryz.ntmps31
  go_wp2_with (first
    | (go_at_call 39; refine HH.out.mono ?_; rintro e w1 ⟨rfl, hw1⟩; replace hw1 := hw1.symm; subst hw1)
    | (go_at_call 65; refine HL.out.mono ?_; rintro e w1 ⟨a, q, rfl, hp⟩; have HP := hide hp; clear hp))
  exact bodyPost_ret (v := .tuple #[.slice a n q, .int .i64 ag, .int .i64 0]) (by simp [results, Tryz.results31, go_sem]) rfl HP.out

theorem filled_ok {d : Cv} (hd : CvOk d) (i g : Nat) (f : Nat → R4) (hg : ∀ b ∈ d.bufs, b.g ≠ g) : CvOk (d.filled i g f) := by
  refine ⟨hd.w1, hd.h1, ?_, hd.nw, hd.ln, hd.good, fun b hb => ?_, hd.inside, fun j k a b hj hk e => ?_⟩
  · show 1 ≤ (d.bufs.set _ _).length ∧ (d.bufs.set _ _).length ≤ 3
    rw [List.length_set]
    exact hd.n
  · rcases List.mem_or_eq_of_mem_set hb with hb | rfl
    · exact hd.age b hb
    · exact Nat.zero_le _
  · have hj : (d.bufs.set i ⟨g, 0, f⟩)[j]? = some a := hj
    have hk : (d.bufs.set i ⟨g, 0, f⟩)[k]? = some b := hk
    rw [List.getElem?_set] at hj hk
    by_cases ej : i = j <;> by_cases ek : i = k
    · omega
    · rw [if_neg ek] at hk
      rw [if_pos ej] at hj
      split at hj
      · injection hj with hj
        subst hj
        exact absurd e.symm (hg b (List.mem_of_getElem? hk))
      · cases hj
    · rw [if_neg ej] at hj
      rw [if_pos ek] at hk
      split at hk
      · injection hk with hk
        subst hk
        exact absurd e (hg a (List.mem_of_getElem? hj))
      · cases hk
    · rw [if_neg ej] at hj
      rw [if_neg ek] at hk
      exact hd.apart j k a b hj hk e

/-- What Garbage leaves of a buffer that there is. -/
def GbPost (S : Nat → Prop) (x : Nat) (st : St) (d : Cv) (i : Nat) (l : List R4) (w : World) (e : Ending) (w' : World) : Prop :=
  e = .returned (.int .i64 0) ∧ (∃ g, FullC w' (grow S w w') x st (d.filled i g fun k => l.getD k (0, 0, 0, 0))) ∧ Only S w w'

set_option maxRecDepth 100000 in
set_option maxHeartbeats 1000000 in
theorem fuGarbage_any {S : Nat → Prop} {x : Nat} {st : St} {d : Cv} (i : Nat) (hi : i < d.bufs.length) (l : List R4) (v : Value) (w : World) (h : FullC w S x st d) (hv : PixAt w v l) (hl : l.length = d.W * d.H) :
    Calls Tryz.prog 16 #[.pointer (some ⟨x, 0, none⟩), .int .i64 i, v] w (GbPost S x st d i l w) := by
  obtain ⟨A, B, c, h1, h2, h3⟩ := h
  obtain ⟨x1, xl⟩ := h1.cells
  have HH := hide (h1.has i w (Below.refl _ _))
  have hdc : decide (0 ≤ (i : Int) ∧ (i : Int) < d.bufs.length) = true := decide_eq_true (by omega)
  rw [hdc] at HH
  have hn3 := h1.ok.n
  have hW := h1.ok.w1
  have hH := h1.ok.h1
  have hN : d.W * d.H ≤ 576 := Nat.le_trans (Nat.mul_le_mul hW.2 hH.2) (by omega)
  obtain ⟨n, hn⟩ : ∃ n, d.W * d.H = n := ⟨_, rfl⟩
  obtain ⟨va, vc, hvf, _⟩ := id hv
  have HX : Hid (∀ V : World, Below w.heap.size w V → V.cell? ⟨x, 1, none⟩ = some (.pointer (some ⟨c, 0, none⟩))) := fun V hV => (h1.keep hV.size fun g _ hg => hV.block g hg).cells.1
  have HP : Hid (∀ V : World, Below w.heap.size w V → Calls Tryz.prog 42 #[.pointer (some ⟨c, 0, none⟩)] V fun e w' => e = .returned (.int .i64 (n : Int)) ∧ Below w.heap.size w w') := fun V hV => by
    obtain ⟨bv, rg, dv, hc⟩ := (h1.keep hV.size fun g _ hg => hV.block g hg).cv
    have := points_any hc h1.ok
    rw [hn] at this
    exact this.mono fun e w' ⟨q1, q2⟩ => ⟨q1, hV.trans (q2.mono hV.size)⟩
  have HF : Hid (∀ V : World, Below w.heap.size w V → Calls Tryz.prog 43 #[.pointer (some ⟨c, 0, none⟩), .int .i64 i, v] V fun e w' => e = .returned (.tuple #[]) ∧ GbPost S x st d i l w (.returned (.int .i64 0)) w') := fun V hV => by
    have hm := h1.keep hV.size fun g _ hg => hV.block g hg
    obtain ⟨bv, rg, dv, hc⟩ := hm.cv
    obtain ⟨bg, cap, rfl, hbgS, _⟩ := hc.row.open (by omega)
    refine (fill_any hc h1.ok i hi l v (hv.below hV) hl).mono ?_
    rintro e w' ⟨rfl, g, hg1, hg2, hc', ho⟩
    have hs1 := hV.size
    have hs2 := ho.size
    refine ⟨rfl, rfl, ⟨g, A, grow B V w', c, ⟨hm.pane.keep fun b hb hl => ho.block b hl fun e => h1.ap b hb (e ▸ hbgS), ⟨_, rg, dv, hc'⟩, filled_ok h1.ok i g _ (fun b hb e => ?_), h1.dw, h1.dh, fun b hb => Nat.lt_of_lt_of_le (hm.la b hb) hs2, fun b hb => ?_, fun b hb hb2 => ?_⟩, fun b hb => .inl (h2 b hb), fun b hb => ?_⟩, (Only.below hV).trans (ho.mono fun b _ hb => .inl (by rw [hb]; exact h3 bg hbgS))⟩
    · have := hm.lb b.g (hc.pix b hb).1
      omega
    · rcases hb with hb | hb
      · exact Nat.lt_of_lt_of_le (hm.lb b hb) hs2
      · exact hb.2
    · rcases hb2 with hb2 | hb2
      · exact h1.ap b hb hb2
      · have := hm.la b hb
        omega
    · rcases hb with hb | hb
      · exact .inl (h3 b hb)
      · exact .inr ⟨by omega, hb.2⟩
  rw [hl, hn] at hvf
  have hn9 : n ≤ 576 := by omega
  have hnn : ((n : Int) != (n : Int)) = false := by simp
  have hi3 : (i : Int) < 3 := by omega
  clear h1 h2 h3 hdc hn hi hn3 hv hl hN hW hH
  subst hvf
  go_enter Tryz.func16, Tryz.ntmps16
  go_wp2_with (first
    | (go_at_call 39; refine HH.out.mono ?_; rintro e w1 ⟨rfl, hw1⟩; replace hw1 := hw1.symm; subst hw1)
    | (go_at_call 42; refine (HP.out _ (Below.refl _ _)).mono ?_; rintro e w1 ⟨rfl, hb⟩; have y1 := HX.out w1 hb; have HB := hide hb; clear hb)
    | (go_at_call 43; refine (HF.out _ HB.out).mono ?_; rintro e w2 ⟨rfl, hp⟩; have HG := hide hp; clear hp))
  go_ret
  exact HG.out

end Go.Proofs.YtofinpocigbbeaaGreat

namespace Go.Proofs.YtofinpocigbbeaaGreat
open Go.RowKit
attribute [local go_sem ↓] Go.wp_at_zero Go.wp_at_succ

/-! ### panekeep's alive: a screen, and the numbers of its surfaces -/

structure AlvX (w : World) (S A : Nat → Prop) (vb x : Nat) (lv : Value) (st : St) (d : Cv) (ids : List Int) : Prop where
  blk : Blk w vb 40 #[.pointer (some ⟨x, 0, none⟩), lv]
  row : w.ownsRow 0 3 1 lv ids.length (ids.map (Value.int .i64))
  scr : FullC w A x st d
  la : ∀ g, A g → S g ∧ g < w.heap.size
  vS : S vb
  vA : ¬ A vb
  rS : ∀ g, lv.ownBlock = some g → S g ∧ ¬ A g

def AlvOk (w : World) (S : Nat → Prop) (vb : Nat) (st : St) (d : Cv) (ids : List Int) : Prop := ∃ A x lv, AlvX w S A vb x lv st d ids

theorem AlvX.call {w w' : World} {S A : Nat → Prop} {vb x : Nat} {lv : Value} {st st' : St} {d d' : Cv} {ids : List Int} (h : AlvX w S A vb x lv st d ids) (hs : FullC w' (grow A w w') x st' d') (ho : Only A w w') : AlvX w' (grow S w w') (grow A w w') vb x lv st' d' ids := by
  have hsz := ho.size
  have hvl := block_lt h.blk
  refine ⟨h.blk.keep (ho.block vb hvl h.vA), own_keep h.row fun g hg => ho.block g (h.row.lt g hg).2 (h.rS g hg).2, hs, fun g hg => ?_, .inl h.vS, fun hg => ?_, fun g hg => ⟨.inl (h.rS g hg).1, fun hA => ?_⟩⟩
  · rcases hg with hg | hg
    · exact ⟨.inl (h.la g hg).1, Nat.lt_of_lt_of_le (h.la g hg).2 hsz⟩
    · exact ⟨.inr hg, hg.2⟩
  · rcases hg with hg | hg
    · exact h.vA hg
    · omega
  · have := (h.row.lt g hg).2
    rcases hA with hA | hA
    · exact (h.rS g hg).2 hA
    · omega

theorem AlvX.onlyS {w w' : World} {S A : Nat → Prop} {vb x : Nat} {lv : Value} {st : St} {d : Cv} {ids : List Int} (h : AlvX w S A vb x lv st d ids) (ho : Only A w w') : Only S w w' := ho.mono fun g _ hg => (h.la g hg).1

theorem AlvX.below {w w' : World} {S A : Nat → Prop} {vb x : Nat} {lv : Value} {st : St} {d : Cv} {ids : List Int} (h : AlvX w S A vb x lv st d ids) (hb : Below w.heap.size w w') : AlvX w' S A vb x lv st d ids :=
  ⟨h.blk.keep (hb.block vb (block_lt h.blk)), own_keep h.row fun g hg => hb.block g (h.row.lt g hg).2, h.scr.below hb, fun g hg => ⟨(h.la g hg).1, Nat.lt_of_lt_of_le (h.la g hg).2 hb.size⟩, h.vS, h.vA, h.rS⟩

theorem AlvX.mono {w : World} {S S' A : Nat → Prop} {vb x : Nat} {lv : Value} {st : St} {d : Cv} {ids : List Int} (h : AlvX w S A vb x lv st d ids) (hS : ∀ g, S g → S' g) : AlvX w S' A vb x lv st d ids :=
  ⟨h.blk, h.row, h.scr, fun g hg => ⟨hS g (h.la g hg).1, (h.la g hg).2⟩, hS vb h.vS, h.vA, fun g hg => ⟨hS g (h.rS g hg).1, (h.rS g hg).2⟩⟩

theorem intInfo9 : (Tryz.prog.info? 3).map (fun i => (i.zero, i.size, i.bytes)) = some (some (.int .i64 0), 1, 8) := by kernel_rfl

def St.stays (st : St) (ids : List Int) : List Int := ids.filter fun i => st.isB i

/-- left, on its way. -/
structure LeftI (w wr : World) (S A : Nat → Prop) (vb x : Nat) (lv s2 : Value) (st : St) (d : Cv) (ids L : List Int) : Prop where
  alv : AlvX wr (grow S w wr) A vb x lv st d ids
  only : Only S w wr
  row : wr.ownsRow w.heap.size 3 1 s2 L.length (L.map (Value.int .i64))
  apart : ∀ g, s2.ownBlock = some g → ¬ A g

theorem LeftI.call {w wr w' : World} {S A : Nat → Prop} {vb x : Nat} {lv s2 : Value} {st : St} {d : Cv} {ids L : List Int} (h : LeftI w wr S A vb x lv s2 st d ids L) (hs : FullC w' (grow A wr w') x st d) (ho : Only A wr w') : LeftI w w' S (grow A wr w') vb x lv s2 st d ids L := by
  have hsz := ho.size
  have h1 := h.only.size
  refine ⟨(h.alv.call hs ho).mono fun g hg => ?_, h.only.trans (h.alv.onlyS ho), own_keep h.row fun g hg => ho.block g (h.row.lt g hg).2 (h.apart g hg), fun g hg hA => ?_⟩
  · rcases hg with (hg | hg) | hg
    · exact .inl hg
    · exact .inr ⟨hg.1, by omega⟩
    · exact .inr ⟨by omega, hg.2⟩
  · have := (h.row.lt g hg).2
    rcases hA with hA | hA
    · exact h.apart g hg hA
    · omega

/-- A number more. -/
theorem LeftI.more {w wr w1 w' : World} {S A : Nat → Prop} {vb x : Nat} {lv s2 v' : Value} {st : St} {d : Cv} {ids L : List Int} {z : Int} (h : LeftI w wr S A vb x lv s2 st d ids L) (hb : Below wr.heap.size wr w1) (hr : w'.ownsRow w.heap.size 3 1 v' (L.length + 1) (L.map (Value.int .i64) ++ [.int .i64 z])) (hg : w1.grownBy w' s2.ownBlock) (hv : v'.ownBlock = s2.ownBlock ∨ v'.ownBlock = some w1.heap.size) (hlv : ∀ g, lv.ownBlock = some g → s2.ownBlock ≠ some g) (hvb : s2.ownBlock ≠ some vb) : LeftI w w' S A vb x lv v' st d ids (L ++ [z]) := by
  have hs1 := hb.size
  have hs2 := hg.size
  have h1 := h.only.size
  have ha := h.alv.below hb
  have hkeep : ∀ g, g < w1.heap.size → s2.ownBlock ≠ some g → w'.heap[g]? = w1.heap[g]? := fun g hl hn => hg.block g hl fun e => hn e.symm
  refine ⟨⟨ha.blk.keep (hkeep vb (block_lt ha.blk) hvb), own_keep ha.row fun g hg' => hkeep g (ha.row.lt g hg').2 (hlv g hg'), ?_, fun g hg' => ?_, ?_, ha.vA, fun g hg' => ⟨?_, (ha.rS g hg').2⟩⟩, (h.only.after hb).grown hg fun g e => .inr (h.row.lt g e).1, by rw [List.length_append, List.map_append]; exact hr, fun g hg' hA => ?_⟩
  · exact ha.scr.keep (by omega) fun g hA hl => hkeep g hl fun e => h.apart g e hA
  · exact ⟨(ha.la g hg').1.elim .inl fun q => .inr ⟨q.1, by omega⟩, by have := (ha.la g hg').2; omega⟩
  · exact ha.vS.elim .inl fun q => .inr ⟨q.1, by omega⟩
  · exact (ha.rS g hg').1.elim .inl fun q => .inr ⟨q.1, by omega⟩
  · rcases hv with hv | hv
    · exact h.apart g (hv ▸ hg') hA
    · rw [hv] at hg'
      injection hg' with hg'
      have := (ha.la g hA).2
      omega

end Go.Proofs.YtofinpocigbbeaaGreat

namespace Go.Proofs.YtofinpocigbbeaaGreat
open Go.RowKit
attribute [local go_sem ↓] Go.wp_at_zero Go.wp_at_succ

def AlvPost (S : Nat → Prop) (vb : Nat) (st : St) (d : Cv) (ids : List Int) (w : World) (e : Ending) (w' : World) : Prop := e = .returned (.tuple #[]) ∧ AlvOk w' (grow S w w') vb st d ids ∧ Only S w w'

theorem LeftI.done {w wr : World} {S A : Nat → Prop} {vb x : Nat} {lv s2 : Value} {st : St} {d : Cv} {ids L : List Int} (h : LeftI w wr S A vb x lv s2 st d ids L) (hvl : vb < w.heap.size) (hvS : S vb) : AlvPost S vb st d L w (.returned (.tuple #[])) (wr.setCell ⟨vb, 1, none⟩ s2) := by
  have hk : ∀ g, g ≠ vb → (wr.setCell ⟨vb, 1, none⟩ s2).heap[g]? = wr.heap[g]? := fun g hne => heap_setCell_other wr ⟨vb, 1, none⟩ g s2 hne
  have hlo : ∀ g, s2.ownBlock = some g → w.heap.size ≤ g ∧ g < wr.heap.size := fun g hg => h.row.lt g hg
  have h0 : wr.ownsRow 0 3 1 s2 L.length (L.map (Value.int .i64)) := ⟨h.row.1, h.row.2.imp id fun ⟨g, cap, cur, a1, _, a3⟩ => ⟨g, cap, cur, a1, Nat.zero_le _, a3⟩⟩
  refine ⟨rfl, ⟨A, x, s2, ⟨h.alv.blk.set 1 s2, own_keep h0 fun g hg => hk g (by have := (hlo g hg).1; omega), ?_, fun g hg => ?_, .inl hvS, h.alv.vA, fun g hg => ⟨.inr ⟨(hlo g hg).1, by simp; exact (hlo g hg).2⟩, h.apart g hg⟩⟩⟩, h.only.set (.inl hvS) _⟩
  · exact h.alv.scr.keep (by simp) fun g hg _ => hk g fun e => h.alv.vA (e ▸ hg)
  · have := h.alv.la g hg
    exact ⟨this.1.elim .inl fun q => .inr ⟨q.1, by simp; exact q.2⟩, by simp; exact this.2⟩

set_option maxRecDepth 100000 in
set_option maxHeartbeats 2000000 in
/-- (*alive).left -/
theorem left_any {w : World} {S : Nat → Prop} {vb : Nat} {st : St} (hw : Wf st) {d : Cv} {ids : List Int} (h : AlvOk w S vb st d ids) (hn : ids.length ≤ 100000) :
    Calls Tryz.prog 34 #[.pointer (some ⟨vb, 0, none⟩)] w (AlvPost S vb st d (st.stays ids) w) := by
  obtain ⟨i0, hi0, hz0, hz1, hz2⟩ := info_parts intInfo9
  obtain ⟨A, x, lv, h⟩ := h
  obtain ⟨n, hnn⟩ : ∃ n, ids.length = n := ⟨_, rfl⟩
  obtain ⟨la, lc, hlf⟩ := row_form h.row
  rw [hnn] at hlf hn
  subst hlf
  have hvl : vb < w.heap.size := block_lt h.blk
  have HI0 : Hid (LeftI w w S A vb x (.slice la n lc) (.slice none 0 0) st d ids (st.stays (ids.take 0))) := by
    refine ⟨h.mono fun g hg => .inl hg, Only.refl _ _, ?_, fun g hg => ?_⟩
    · simp [St.stays]
      exact World.ownsRow_nil _ _ _ _
    · simp [Value.ownBlock] at hg
  have HV := hide (And.intro hvl (And.intro h.vS (And.intro h.row hnn)))
  clear h hnn
  go_enter Tryz.func34, Tryz.ntmps34
  go_wp2_with fail
  go_loopg [2, 3] n (fun gg s2 s3 wr => ∃ (k : Nat) (B : Nat → Prop), s3 = .int .i64 k ∧ gg + k = n ∧ Hid (LeftI w wr S B vb x (.slice la n lc) s2 st d ids (st.stays (ids.take k))))
  case atStart => exact ⟨0, A, rfl, by omega, HI0.out⟩
  case round =>
    rename World => wr
    obtain ⟨k, B, rfl, hgk, HI⟩ := hrel
    obtain ⟨ra, rc', hrf⟩ := row_form HI.out.row
    obtain ⟨m, hm⟩ : ∃ m, (st.stays (ids.take k)).length = m := ⟨_, rfl⟩
    rw [hm] at hrf
    subst hrf
    have c1 : wr.cell? ⟨vb, 1, none⟩ = some (.slice la n lc) := HI.out.alv.blk.cell 1
    have f1 : wr.frozen? ⟨vb, 1, none⟩ = false := HI.out.alv.blk.has.free 1
    have hk9 : (k : Int) < 1000000 := by omega
    have HM := hide hm
    cases gk with
    | zero =>
      have hlt : ¬ (k : Int) < (n : Int) := by omega
      clear HI0 hm
      go_wp2_with fail
      have hfin := HI.out.done HV.out.1 HV.out.2.1
      have hfull : ids.take k = ids := List.take_of_length_le (by have := HV.out.2.2.2; omega)
      rw [hfull] at hfin
      exact bodyPost_end (v := .tuple #[]) (by simp [results, Tryz.results34]) rfl hfin
    | succ gk =>
      have hlt : (k : Int) < (n : Int) := by omega
      have hkn : k < n := by omega
      have hki : k < ids.length := by have := HV.out.2.2.2; omega
      obtain ⟨z, hz⟩ : ∃ z, ids[k] = z := ⟨_, rfl⟩
      obtain ⟨lg, hlg⟩ : ∃ lg, la = some ⟨lg, 0, none⟩ := by
        obtain ⟨g, cap, e1, e2, e3⟩ := World.ownsRow.form HV.out.2.2.1 (by omega)
        injection e1 with e1 _ _
        exact ⟨g, e1⟩
      subst hlg
      have HCl : Hid (∀ (V : World) (B' : Nat → Prop), AlvX V (grow S w V) B' vb x (.slice (some ⟨lg, 0, none⟩) n lc) st d ids → V.cell? ⟨vb, 0, none⟩ = some (.pointer (some ⟨x, 0, none⟩)) ∧ V.cell? ⟨vb, 1, none⟩ = some (.slice (some ⟨lg, 0, none⟩) n lc) ∧ V.cell? ⟨lg, k, none⟩ = some (.int .i64 z)) := fun V B' hA => by
        refine ⟨hA.blk.cell 0, hA.blk.cell 1, ?_⟩
        have := World.ownsRow.cells hA.row (g := lg) rfl k (.int .i64 z) (by rw [List.getElem?_map, List.getElem?_eq_getElem hki, hz]; rfl)
        rw [add_at] at this
        simpa using this
      have hcs := HCl.out wr B HI.out.alv
      obtain ⟨t, ht⟩ : ∃ t, st.isB z = t := ⟨_, rfl⟩
      obtain ⟨er, her⟩ : ∃ er : Int, (if t = true then (7 : Int) else 6) = er := ⟨_, rfl⟩
      have HOf : Hid (∀ V : World, Below wr.heap.size wr V → Calls Tryz.prog 29 #[.pointer (some ⟨x, 0, none⟩), .int .i64 z, .int .i64 5000, .int .i64 5000] V fun e w' => e = .returned (.int .i64 er) ∧ (∃ B', LeftI w w' S B' vb x (.slice (some ⟨lg, 0, none⟩) n lc) (.slice ra m rc') st d ids (st.stays (ids.take k)))) := fun V hV => by
        have hI : LeftI w V S B vb x (.slice (some ⟨lg, 0, none⟩) n lc) (.slice ra m rc') st d ids (st.stays (ids.take k)) :=
          ⟨(HI.out.alv.below hV).mono fun g hg => hg.elim .inl fun q => .inr ⟨q.1, Nat.lt_of_lt_of_le q.2 hV.size⟩, HI.out.only.after hV, own_keep HI.out.row fun g hg => hV.block g (HI.out.row.lt g hg).2, HI.out.apart⟩
        refine (fuOffset_any hw z 5000 5000 V hI.alv.scr).mono ?_
        rintro e w' ⟨rfl, q1, q2⟩
        have hst : (opOffset st z 5000 5000) = (er, st) := by
          unfold opOffset
          rw [ht, ← her]
          cases t
          · rw [if_neg (by simp), if_neg (by simp)]
          · rw [if_pos rfl, if_neg (by omega), if_pos rfl]
        rw [hst] at q1 ⊢
        exact ⟨rfl, _, hI.call q1 q2⟩
      have hcap : n ≤ lc := by
        have q := HV.out.2.2.1
        rw [HV.out.2.2.2] at q
        exact own_cap q
      have hkc : k < lc := by omega
      have hnext : st.stays (ids.take (k + 1)) = st.stays (ids.take k) ++ if t = true then [z] else [] := by
        unfold St.stays
        rw [List.take_succ_eq_append_getElem hki, List.filter_append, hz, List.filter_cons, ht]
        rfl
      have HX := hide hnext
      have hlgl : lg < w.heap.size := (HV.out.2.2.1.lt lg rfl).2
      have HLo : Hid (∀ g, (Value.slice ra m rc').ownBlock = some g → w.heap.size ≤ g) := fun g hg => (HI.out.row.lt g hg).1
      have HFr : Hid (∀ V : World, Below wr.heap.size wr V → V.cell? ⟨vb, 0, none⟩ = some (.pointer (some ⟨x, 0, none⟩)) ∧ V.cell? ⟨vb, 1, none⟩ = some (.slice (some ⟨lg, 0, none⟩) n lc) ∧ V.cell? ⟨lg, k, none⟩ = some (.int .i64 z)) := fun V hV => HCl.out V B ((HI.out.alv.below hV).mono fun g hg => hg.elim .inl fun q => .inr ⟨q.1, Nat.lt_of_lt_of_le q.2 hV.size⟩)
      have HT := hide her
      clear hnext hcs hz ht her HI0 HI hm f1 c1
      have c1 : wr.cell? ⟨vb, 1, none⟩ = some (.slice (some ⟨lg, 0, none⟩) n lc) := (HFr.out wr (Below.refl _ _)).2.1
      go_upto_region 4 with fail
      clear c1
      go_cut [4] (fun s4 wx => s4 = .int .i64 er ∧ Hid (∃ B', LeftI w wx S B' vb x (.slice (some ⟨lg, 0, none⟩) n lc) (.slice ra m rc') st d ids (st.stays (ids.take k))))
      case first =>
        go_region_held3 (fun w' => w'.cell? ⟨vb, 0, none⟩ = some (.pointer (some ⟨x, 0, none⟩)) ∧ w'.cell? ⟨vb, 1, none⟩ = some (.slice (some ⟨lg, 0, none⟩) n lc) ∧ w'.cell? ⟨lg, k, none⟩ = some (.int .i64 z))
          (first
            | (refine HFr.out _ ?_; (repeat (first | with_reducible exact Below.refl _ _ | with_reducible refine Below.drew ?_)); done)
            | exact HQ1.out
            | fail)
          (first
            | (go_at_call 29; refine (HOf.out _ ?_).mono ?_; (repeat (first | with_reducible exact Below.refl _ _ | with_reducible refine Below.drew ?_)); rintro e w1 ⟨rfl, hI1⟩; have HI1 := hide hI1; have HQ1 := hide (let ⟨B', q⟩ := hI1; HCl.out w1 B' q.alv); clear hI1)
            | fail)
        all_goals go_wp2_with fail
        all_goals go_meet
        all_goals exact ⟨rfl, HI1.out⟩
      case rest =>
        obtain ⟨rfl, HI2⟩ := hcut
        cases t with
        | false =>
          have h6 : er = 6 := by rw [← HT.out]; rfl
          subst h6
          go_wp2_with fail
          go_roundg gk
          case measure => omega
          case rel =>
            obtain ⟨B', q⟩ := HI2.out
            refine ⟨k + 1, B', by go_num, by omega, ?_⟩
            rw [HX.out, if_neg (by simp), List.append_nil]
            exact q
        | true =>
          have h7 : er = 7 := by rw [← HT.out]; rfl
          subst h7
          obtain ⟨B', hI2⟩ := HI2.out
          obtain ⟨d0, d1, dk⟩ := HCl.out wc B' hI2.alv
          have hro := hI2.row
          rw [HM.out] at hro
          have hml : m ≤ n := by
            rw [← HM.out]
            refine Nat.le_trans (List.length_filter_le _ _) ?_
            rw [List.length_take]
            omega
          have hs2 : w.heap.size ≤ wc.heap.size := hI2.only.size
          have HI3 := hide (And.intro hI2 hro)
          have hl1 := cell_lt dk
          have hv1 := cell_lt d1
          clear hI2 hro HI2 HFr HOf HCl d0
          go_wp2_with (at_builtin; refine wpList_append_row (P := Tryz.prog) rfl (.tmp 28) (.tmp 36) 24 rfl w.heap.size 3 i0 _ 1 8 Tryz.underlying24 hi0 hz0 hz1 hz2 rfl (by decide) (.slice ra m rc') m ((st.stays (ids.take k)).map (Value.int .i64)) rfl (HI3.out.2.alloc _) (.slice (some ⟨wc.heap.size, 0, none⟩) 1 1) 1 [.int .i64 z] rfl rfl (.inr ⟨_, _, rfl, cell_one_new _ _ _⟩) (by simp [Value.oneCell']) (by unfold maxLen; omega) (by omega) (by simp; omega) ?_; intro v9 w9 ho9 hg9 hn9 ha9; obtain ⟨ga, gc, hvf⟩ := row_form ho9; have H9 := hide (And.intro ho9 (And.intro hg9 ha9)); subst hvf; clear ho9 hg9 hn9 ha9)
          go_roundg gk
          case measure => omega
          case rel =>
            obtain ⟨ho9, hg9, ha9⟩ := H9.out
            refine ⟨k + 1, B', by go_num, by omega, ?_⟩
            rw [HX.out, if_pos (by simp)]
            have hm := HM.out
            refine HI3.out.1.more ((Below.refl _ _).alloc (Nat.le_refl _) _) (by rw [hm]; exact ho9) hg9 (by simpa using ha9) (fun g hg e => ?_) fun e => ?_
            · have h1 := HLo.out g e
              simp [Value.ownBlock] at hg
              omega
            · have h1 := HLo.out vb e
              have := HV.out.1
              omega

end Go.Proofs.YtofinpocigbbeaaGreat

namespace Go.Proofs.YtofinpocigbbeaaGreat
open Go.RowKit

/-! ### A step of panekeep, on plain data -/

structure StepD where
  k : Int
  a : Int
  b : Int
  c : Int
  d : Int
  y : Bool

def StepD.cells (t : StepD) : Array Value := #[.int .i64 t.k, .int .i64 t.a, .int .i64 t.b, .int .i64 t.c, .int .i64 t.d, .bool t.y]

def I64 (x : Int) : Prop := -9223372036854775808 ≤ x ∧ x ≤ 9223372036854775807

structure StepOk (t : StepD) : Prop where
  k : I64 t.k
  a : I64 t.a
  b : I64 t.b
  c : I64 t.c
  d : I64 t.d

def kindM (ids : List Int) (t : StepD) : Int := if ids = [] then 0 else pickI t.k 16
def idM (ids : List Int) (c : Int) : Int := if ids = [] then 0 else ids.getD (pickI c ids.length).toNat 0
def StepD.X (t : StepD) : Int := pickI t.c 12 - 3
def StepD.Y (t : StepD) : Int := pickI t.d 12 - 3

def attM (st : St) (id w h raw : Int) : St :=
  (opAttach st id w h (imgL raw (w * h).toNat).length ((imgL raw (w * h).toNat).all fitP) fun k => (imgL raw (w * h).toNat).getD k (0, 0, 0, 0)).2

def parM (ids : List Int) (t : StepD) : Int := if t.y = true ∧ ids ≠ [] then idM ids t.a else -1

/-- Behind the Make of a step. -/
def madeM (st : St) (n : Int) (t : StepD) : St := (opOffset (attM st n (1 + pickI t.b 5) (1 + pickI (t.b.tdiv 8) 5) t.c) n t.X t.Y).2

def makeM (st : St) (ids : List Int) (p : Int) (t : StepD) : St × List Int × Option (List R4) :=
  if (opMake st p).2.1 = 0 then ((opCommit (madeM (opMake st p).2.2 (opMake st p).1 t) (opMake st p).1).2, ids ++ [(opMake st p).1], (madeM (opMake st p).2.2 (opMake st p).1 t).dmCommit (opMake st p).1)
  else ((opMake st p).2.2, ids, none)

def stepM (st : St) (ids : List Int) (t : StepD) : St × List Int × Option (List R4) :=
  if kindM ids t = 0 ∨ kindM ids t = 1 then makeM st ids (parM ids t) t
  else if kindM ids t = 2 then ((opDestroy st (idM ids t.a)).2, (if (opDestroy st (idM ids t.a)).1 = 0 then (opDestroy st (idM ids t.a)).2.stays ids else ids), st.dmDestroy (idM ids t.a))
  else if kindM ids t = 3 ∨ kindM ids t = 4 then (attM st (idM ids t.a) (pickI t.b 6) (pickI (t.b.tdiv 8) 6) t.c, ids, none)
  else if kindM ids t = 5 ∨ kindM ids t = 6 then ((opOffset st (idM ids t.a) t.X t.Y).2, ids, none)
  else if kindM ids t = 7 then ((opClip st (idM ids t.a) (t.X, t.Y, t.X + 4, t.Y + pickI t.b 6) (fitR (t.X, t.Y, t.X + 4, t.Y + pickI t.b 6))).2, ids, none)
  else if kindM ids t = 8 then ((opUnclip st (idM ids t.a)).2, ids, none)
  else if kindM ids t = 9 ∨ kindM ids t = 10 then ((opOpaque st (idM ids t.a) 1 ([(t.X, t.Y, t.X + pickI t.b 9, t.Y + 5)].all fitR) (hasB [(t.X, t.Y, t.X + pickI t.b 9, t.Y + 5)])).2, ids, none)
  else if kindM ids t = 11 then ((opStack st (idM ids t.a) (idM ids t.b) t.y).2, ids, none)
  else ((opCommit st (idM ids t.a)).2, ids, st.dmCommit (idM ids t.a))

def DoPost (S : Nat → Prop) (vb : Nat) (d : Cv) (p : St × List Int × Option (List R4)) (w : World) (e : Ending) (w' : World) : Prop := e = .returned (.tuple #[]) ∧ (∃ d', AlvOk w' (grow S w w') vb p.1 d' p.2.1 ∧ DamTo d d' p.2.2) ∧ Only S w w'

theorem imgL_byte (raw : Int) (n : Nat) : ByteL (imgL raw n) := by
  intro r hr
  unfold imgL at hr
  obtain ⟨i, _, rfl⟩ := List.mem_map.1 hr
  have := pixI_fits (IntKind.i64.wrap (raw + (i : Int) / (1 + pickI raw 7) * 12345))
  unfold imgI
  omega

theorem fine_att {st : St} (h : Fine st) (id w h' raw : Int) : Fine (attM st id w h' raw) := fine_attach h id w h' _ (imgL_byte _ _)

theorem stepM_fine {st : St} (h : Fine st) (ids : List Int) (t : StepD) : Fine (stepM st ids t).1 := by
  unfold stepM
  split
  · unfold makeM
    split
    · exact fine_commit (fine_offset (fine_att (fine_make h _) _ _ _ _) _ _ _) _
    · exact fine_make h _
  · split
    · exact fine_destroy h _
    · split
      · exact fine_att h _ _ _ _
      · split
        · exact fine_offset h _ _ _
        · split
          · exact fine_clip h _ _
          · split
            · exact fine_unclip h _
            · split
              · exact fine_hint h _ _ _ _
              · split
                · exact fine_stack h _ _ _
                · exact fine_commit h _

/-- A call has ended. -/
theorem AlvX.fin {w V w' : World} {S A : Nat → Prop} {vb x : Nat} {lv : Value} {st st' : St} {d d' : Cv} {ids : List Int} (h : AlvX w S A vb x lv st d ids) (hV : Below w.heap.size w V) (hs : FullC w' (grow A V w') x st' d') (ho : Only A V w') : AlvX w' (grow S w w') (grow A V w') vb x lv st' d' ids ∧ Only S w w' := by
  have h1 := hV.size
  have h2 := ho.size
  refine ⟨((h.below hV).call hs ho).mono fun g hg => hg.elim .inl fun q => .inr ⟨by omega, q.2⟩, (Only.below hV).trans (ho.mono fun g _ hg => .inl (h.la g hg).1)⟩

theorem AlvX.fp {w V w' : World} {S A : Nat → Prop} {vb x : Nat} {lv : Value} {st : St} {d : Cv} {ids : List Int} {p : Int × St} {e : Ending} (h : AlvX w S A vb x lv st d ids) (hV : Below w.heap.size w V) (hp : FPost A x d p V e w') : DoPost S vb d (p.2, ids, none) w (.returned (.tuple #[])) w' :=
  ⟨rfl, ⟨d, ⟨_, _, _, (h.fin hV hp.2.1 hp.2.2).1⟩, rfl⟩, (h.fin hV hp.2.1 hp.2.2).2⟩

theorem AlvX.fd {w V w' : World} {S A : Nat → Prop} {vb x : Nat} {lv : Value} {st : St} {d : Cv} {ids : List Int} {p : Int × St} {dm : Option (List R4)} {e : Ending} (h : AlvX w S A vb x lv st d ids) (hV : Below w.heap.size w V) (hp : FDPost A x d p dm V e w') : DoPost S vb d (p.2, ids, dm) w (.returned (.tuple #[])) w' := by
  obtain ⟨_, ⟨d', h1, h2⟩, h3⟩ := hp
  exact ⟨rfl, ⟨d', ⟨_, _, _, (h.fin hV h1 h3).1⟩, h2⟩, (h.fin hV h1 h3).2⟩

theorem pixAt_own {w : World} {base : Nat} {v : Value} {l : List R4} {n : Nat} (h : w.ownsRow base 51 4 v n (pixCells l)) (hl : l.length = n) : PixAt w v l := by
  obtain ⟨a, c, hv⟩ := row_form h
  subst hl
  refine ⟨a, c, hv, fun hpos => ?_⟩
  obtain ⟨g, cap, e1, _, _⟩ := World.ownsRow.form h hpos
  rw [hv] at e1
  injection e1 with e1 _ e3
  subst e1 e3
  have hc := own_cap (by rw [hv] at h; exact h)
  refine ⟨hc, g, 0, rfl, fun k hk => ?_⟩
  obtain ⟨p0, p1, p2, p3⟩ := pixCells_at l k hk
  have c0 := World.ownsRow.cells h (g := g) (by rw [hv]; rfl) _ _ p0
  have c1 := World.ownsRow.cells h (g := g) (by rw [hv]; rfl) _ _ p1
  have c2 := World.ownsRow.cells h (g := g) (by rw [hv]; rfl) _ _ p2
  have c3 := World.ownsRow.cells h (g := g) (by rw [hv]; rfl) _ _ p3
  rw [add_at] at c0 c1 c2 c3
  simp only [Nat.zero_add]
  exact ⟨c0, c1, c2, c3⟩

theorem tdiv8_bd (x : Int) : (0 ≤ x → 0 ≤ x.tdiv 8 ∧ x.tdiv 8 ≤ x) ∧ (x ≤ 0 → x ≤ x.tdiv 8 ∧ x.tdiv 8 ≤ 0) := by
  constructor
  · intro h
    rw [Int.tdiv_eq_ediv_of_nonneg h]
    omega
  · intro h
    have e := Int.neg_tdiv (a := x) (b := 8)
    rw [Int.tdiv_eq_ediv_of_nonneg (by omega)] at e
    omega

end Go.Proofs.YtofinpocigbbeaaGreat
