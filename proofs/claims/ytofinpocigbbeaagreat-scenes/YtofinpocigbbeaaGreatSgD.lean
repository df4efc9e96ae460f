import Derived.Test.YtofinpocigbbeaaGreatPanT
import Derived.Laws.Tables
import Derived.Test.YtofinpocigbbeaaGreatPanE
import Derived.LaidEqlPtr
import Derived.Lib.Builder
import Derived.Laws.StructEq
import Derived.Test.YtofinpocigbbeaaGreatSgP
import Derived.Deep.RegionLaw
import Derived.Deep.AppendLies
import Derived.Test.YtofinpocigbbeaaGreatPcm
/-! PanU -/
namespace Go.Proofs.YtofinpocigbbeaaGreat
open Go.RowKit
attribute [local go_sem ↓] Go.wp_at_zero Go.wp_at_succ

def St.seenP (st : St) (p : Int) : R4 := meet (st.openL (st.chain p)) (st.px p, st.py p, st.px p + (lookP st p).w, st.py p + (lookP st p).h)

def viewC (st : St) (p : Int) : Array Value := #[.int .i64 p, .int .i64 (st.px p), .int .i64 (st.py p), .int .i64 (lookP st p).w, .int .i64 (lookP st p).h, .int .i64 (st.seenP p).1, .int .i64 (st.seenP p).2.1, .int .i64 (st.seenP p).2.2.1, .int .i64 (st.seenP p).2.2.2]

/-- What view has at hand. -/
structure ViewM (W wx : World) (sb : Nat) (x y : Int) (r : R4) : Prop where
  bel : Below W.heap.size W wx
  s : Blk wx sb 241 #[.int .i64 x, .int .i64 y, .int .i64 r.1, .int .i64 r.2.1, .int .i64 r.2.2.1, .int .i64 r.2.2.2]
  res : HasB wx W.heap.size 59 9
  lo : W.heap.size < sb

theorem ViewM.lt {W wx : World} {sb : Nat} {x y : Int} {r : R4} (h : ViewM W wx sb x y r) : sb < wx.heap.size := (Array.getElem?_eq_some_iff.1 h.s).1

theorem ViewM.cells {W wx : World} {sb : Nat} {x y : Int} {r : R4} (h : ViewM W wx sb x y r) : wx.cell? ⟨sb, 0, none⟩ = some (.int .i64 x) ∧ wx.cell? ⟨sb, 1, none⟩ = some (.int .i64 y) ∧ wx.cell? ⟨sb, 2, none⟩ = some (.int .i64 r.1) ∧ wx.cell? ⟨sb, 3, none⟩ = some (.int .i64 r.2.1) ∧ wx.cell? ⟨sb, 4, none⟩ = some (.int .i64 r.2.2.1) ∧ wx.cell? ⟨sb, 5, none⟩ = some (.int .i64 r.2.2.2) :=
  ⟨by rw [h.s.cell]; rfl, by rw [h.s.cell]; rfl, by rw [h.s.cell]; rfl, by rw [h.s.cell]; rfl, by rw [h.s.cell]; rfl, by rw [h.s.cell]; rfl⟩

theorem ViewM.below {W wx wy : World} {sb : Nat} {x y : Int} {r : R4} (h : ViewM W wx sb x y r) (hb : Below wx.heap.size wx wy) : ViewM W wy sb x y r :=
  ⟨h.bel.trans (hb.mono h.bel.size), (hb.block sb h.lt).trans h.s, h.res.keep (hb.block _ (Nat.lt_of_lt_of_le h.lo (Nat.le_of_lt h.lt))), h.lo⟩

/-- Nine cells are written. -/
theorem HasB.nine {w : World} {b : Nat} {T : TypeId} (h : HasB w b T 9) (u0 u1 u2 u3 u4 u5 u6 u7 u8 : Value) : Blk (((((((((w.setCell ⟨b, 0, none⟩ u0).setCell ⟨b, 1, none⟩ u1).setCell ⟨b, 2, none⟩ u2).setCell ⟨b, 3, none⟩ u3).setCell ⟨b, 4, none⟩ u4).setCell ⟨b, 5, none⟩ u5).setCell ⟨b, 6, none⟩ u6).setCell ⟨b, 7, none⟩ u7).setCell ⟨b, 8, none⟩ u8) b T #[u0, u1, u2, u3, u4, u5, u6, u7, u8] := by
  obtain ⟨cur, h1, h2⟩ := h
  have h3 : Blk w b T cur := h1
  have h4 := ((((((((h3.set 0 u0).set 1 u1).set 2 u2).set 3 u3).set 4 u4).set 5 u5).set 6 u6).set 7 u7).set 8 u8
  have e : ((((((((cur.setIfInBounds 0 u0).setIfInBounds 1 u1).setIfInBounds 2 u2).setIfInBounds 3 u3).setIfInBounds 4 u4).setIfInBounds 5 u5).setIfInBounds 6 u6).setIfInBounds 7 u7).setIfInBounds 8 u8 = #[u0, u1, u2, u3, u4, u5, u6, u7, u8] := by
    apply Array.ext_getElem?
    intro j
    match j with
    | 0 => simp [h2]
    | 1 => simp [h2]
    | 2 => simp [h2]
    | 3 => simp [h2]
    | 4 => simp [h2]
    | 5 => simp [h2]
    | 6 => simp [h2]
    | 7 => simp [h2]
    | 8 => simp [h2]
    | j + 9 =>
      rw [Array.getElem?_eq_none (by simp; omega), Array.getElem?_eq_none (by simp)]
  rw [e] at h4
  exact h4

theorem below_nine {B : Nat} {w wr : World} (h : Below B w wr) {b : Nat} (hb : B ≤ b) (u0 u1 u2 u3 u4 u5 u6 u7 u8 : Value) : Below B w (((((((((wr.setCell ⟨b, 0, none⟩ u0).setCell ⟨b, 1, none⟩ u1).setCell ⟨b, 2, none⟩ u2).setCell ⟨b, 3, none⟩ u3).setCell ⟨b, 4, none⟩ u4).setCell ⟨b, 5, none⟩ u5).setCell ⟨b, 6, none⟩ u6).setCell ⟨b, 7, none⟩ u7).setCell ⟨b, 8, none⟩ u8) := ((((((((h.setCell hb _).setCell hb _).setCell hb _).setCell hb _).setCell hb _).setCell hb _).setCell hb _).setCell hb _).setCell hb _

theorem ViewM.alloc {W wx : World} {sb : Nat} {x y : Int} {r : R4} (h : ViewM W wx sb x y r) (o : Obj) : ViewM W (wx.alloc o) sb x y r := h.below (al1 (Nat.le_refl _) o)

theorem ViewM.drew {W wx : World} {sb : Nat} {x y : Int} {r : R4} (h : ViewM W wx sb x y r) : ViewM W wx.drew sb x y r := h.below (Below.refl _ _).drew

/-- The spot is laid down. -/
theorem ViewM.store {W u : World} {sb : Nat} {x y : Int} {r : R4} (hb : Below W.heap.size W u) (hz : HasB u W.heap.size 59 9) (hs : HasB u sb 241 6) (hlo : W.heap.size < sb) :
    ViewM W (u.setRow sb #[.int .i64 x, .int .i64 y, .int .i64 r.1, .int .i64 r.2.1, .int .i64 r.2.2.1, .int .i64 r.2.2.2]) sb x y r := by
  obtain ⟨old, hs, _⟩ := hs
  refine ⟨⟨hb.os, hb.tape, hb.output, by rw [setRow_size]; exact hb.size, fun g hg => (setRow_other u sb g _ (by omega)).trans (hb.block g hg)⟩, setRow_heap u sb _ _ _ _ hs, hz.keep (setRow_other u sb _ _ (by omega)), hlo⟩

theorem hasB_at {u : World} {n : Nat} (hn : u.heap.size = n) : HasB (u.alloc (.cells #[.int .i64 0, .int .i64 0, .int .i64 0, .int .i64 0, .int .i64 0, .int .i64 0] 241)) n 241 6 := by
  subst hn
  exact HasB.new u _ _

theorem ViewM.finish {W wx : World} {sb : Nat} {x y : Int} {r : R4} (h : ViewM W wx sb x y r) (cs : Array Value) : Blk (wx.setRow W.heap.size cs) W.heap.size 59 cs ∧ Below W.heap.size W (wx.setRow W.heap.size cs) := by
  obtain ⟨cur, h1, h2⟩ := h.res
  exact ⟨setRow_heap wx _ _ _ _ _ h1, ⟨h.bel.os, h.bel.tape, h.bel.output, by rw [setRow_size]; exact h.bel.size, fun g hg => (setRow_other wx _ g _ (by omega)).trans (h.bel.block g hg)⟩⟩

theorem HasB.row {w : World} {g : Nat} {T : TypeId} {k : Nat} (h : HasB w g T k) (vs : List Value) (hs : vs.length = k) (h1 : ∀ v ∈ vs, v.oneCell' = true) :
    (storeCells ⟨g, 0, none⟩ vs 0).run Tryz.prog w = .ok () (w.setRow g vs.toArray) := by
  obtain ⟨cur, h2, h3⟩ := h
  have := run_storeCells_from (P := Tryz.prog) g T vs 0 cur w h2 (by omega) h1
  simpa using this

/-- All cells of a block are stored: told apart from the walk's own way. -/
def St9 (ad : Addr) (vs : List Value) : Sem Unit := storeCells ad vs 0

theorem to_nine (ad : Addr) (a0 a1 a2 a3 a4 a5 a6 a7 a8 : Int) : storeCells ad [.int .i64 a0, .int .i64 a1, .int .i64 a2, .int .i64 a3, .int .i64 a4, .int .i64 a5, .int .i64 a6, .int .i64 a7, .int .i64 a8] 0 = St9 ad [.int .i64 a0, .int .i64 a1, .int .i64 a2, .int .i64 a3, .int .i64 a4, .int .i64 a5, .int .i64 a6, .int .i64 a7, .int .i64 a8] := rfl

theorem to_six (ad : Addr) (a0 a1 a2 a3 a4 a5 : Int) : storeCells ad [.int .i64 a0, .int .i64 a1, .int .i64 a2, .int .i64 a3, .int .i64 a4, .int .i64 a5] 0 = St9 ad [.int .i64 a0, .int .i64 a1, .int .i64 a2, .int .i64 a3, .int .i64 a4, .int .i64 a5] := rfl

theorem run_nine {w : World} {g : Nat} (h : HasB w g 59 9) (a0 a1 a2 a3 a4 a5 a6 a7 a8 : Int) :
    (St9 ⟨g, 0, none⟩ [.int .i64 a0, .int .i64 a1, .int .i64 a2, .int .i64 a3, .int .i64 a4, .int .i64 a5, .int .i64 a6, .int .i64 a7, .int .i64 a8]).run Tryz.prog w = .ok () (w.setRow g #[.int .i64 a0, .int .i64 a1, .int .i64 a2, .int .i64 a3, .int .i64 a4, .int .i64 a5, .int .i64 a6, .int .i64 a7, .int .i64 a8]) :=
  h.row _ rfl (by simp [Value.oneCell'])

theorem run_six {w : World} {g : Nat} (h : HasB w g 241 6) (a0 a1 a2 a3 a4 a5 : Int) :
    (St9 ⟨g, 0, none⟩ [.int .i64 a0, .int .i64 a1, .int .i64 a2, .int .i64 a3, .int .i64 a4, .int .i64 a5]).run Tryz.prog w = .ok () (w.setRow g #[.int .i64 a0, .int .i64 a1, .int .i64 a2, .int .i64 a3, .int .i64 a4, .int .i64 a5]) :=
  h.row _ rfl (by simp [Value.oneCell'])

/-- An object of the spot's making. -/
def SpotO (o : Obj) : Prop := ∃ cs : Array Value, o = .cells cs 241 (0, 0) ∧ cs.size = 6

theorem spotO_new : SpotO (.cells #[.int .i64 0, .int .i64 0, .int .i64 0, .int .i64 0, .int .i64 0, .int .i64 0] 241) := ⟨_, rfl, rfl⟩

theorem hasB_alloc {u : World} {n : Nat} {o : Obj} : HasB (u.alloc o) n 241 6 ↔ (n = u.heap.size ∧ SpotO o) ∨ HasB u n 241 6 := by
  constructor
  · intro h
    by_cases e : n = u.heap.size
    · subst e
      obtain ⟨cs, h1, h2⟩ := h
      rw [heap_alloc_new] at h1
      injection h1 with h1
      exact .inl ⟨rfl, cs, h1, h2⟩
    · have hl := h.lt
      simp at hl
      exact .inr (h.keep (heap_old u o n (by omega)).symm)
  · rintro (⟨rfl, cs, rfl, h2⟩ | h)
    · exact ⟨cs, heap_alloc_new u _, h2⟩
    · exact h.alloc o

theorem hasB_drew {u : World} {n : Nat} {T : TypeId} {k : Nat} : HasB u.drew n T k ↔ HasB u n T k := Iff.rfl

theorem HasB.under {V u : World} {n : Nat} {T : TypeId} {k : Nat} (hb : Below V.heap.size V u) (h : HasB V n T k) : HasB u n T k := h.keep (hb.block n h.lt)

theorem Below.setRow {B : Nat} {w u : World} (h : Below B w u) {g : Nat} (hg : B ≤ g) (cs : Array Value) : Below B w (u.setRow g cs) :=
  ⟨h.os, h.tape, h.output, by rw [setRow_size]; exact h.size, fun b hb => (setRow_other u g b _ (by omega)).trans (h.block b hb)⟩

attribute [local go_sem high] to_nine to_six run_nine run_six
attribute [local go_sem] spotO_new hasB_alloc hasB_drew

set_option linter.unusedSimpArgs false in
set_option maxRecDepth 100000 in
set_option maxHeartbeats 4000000 in
/-- (*Surface).view -/
theorem view_any {w : World} {S : Nat → Prop} {x : Nat} {st : St} (hw : Wf st) {bv : Value} {sc mp : Nat} {blk : Int → Nat} {G : Int → Nat → Value} (h : PRaw w S x st bv sc mp blk G) (p : Int) (hp : Live st p) (W : World) (hW : Below w.heap.size w W) :
    Calls Tryz.prog 118 #[.pointer (some ⟨blk p, 0, none⟩)] W fun e w' => e = .returned (.agg (viewC st p)) ∧ Below W.heap.size W w' := by
  obtain ⟨kc, kf, kl⟩ := h.at hp
  have q := h.cells p hp
  have hgl : blk p < W.heap.size := Nat.lt_of_lt_of_le kl hW.size
  obtain ⟨pa, pm, pk, hpix⟩ := q.now.pix
  have hpix2 : G p 5 = .slice pa pm pk := hpix
  have HSp := hide (fun (W' : World) (hW' : Below W.heap.size W W') => spot_any hw h (p + 1).toNat p hp (Nat.le_refl _) W' (hW.trans (hW'.mono hW.size)))
  have HC : Hid (∀ (W' : World), Below W.heap.size W W' → blk p < W'.heap.size ∧ W'.cell? ⟨blk p, 0, none⟩ = some (.int .i64 p) ∧ W'.cell? ⟨blk p, 3, none⟩ = some (.int .i64 (lookP st p).w) ∧ W'.cell? ⟨blk p, 4, none⟩ = some (.int .i64 (lookP st p).h) ∧ W'.cell? ⟨blk p, 5, none⟩ = some (.slice pa pm pk)) := fun W' hW' => by
    have hb := hW.trans (hW'.mono hW.size)
    exact ⟨Nat.lt_of_lt_of_le hgl hW'.size, (hb.cell (p := ⟨blk p, 0, none⟩) kl).trans ((kc 0 (by omega)).trans (by rw [q.num])), (hb.cell (p := ⟨blk p, 3, none⟩) kl).trans ((kc 3 (by omega)).trans (by rw [show G p 3 = _ from q.now.w])), (hb.cell (p := ⟨blk p, 4, none⟩) kl).trans ((kc 4 (by omega)).trans (by rw [show G p 4 = _ from q.now.h])), (hb.cell (p := ⟨blk p, 5, none⟩) kl).trans ((kc 5 (by omega)).trans (by rw [hpix2]))⟩
  have hlook : LookOk (lookP st p) := by
    unfold lookP
    split
    · refine ⟨⟨by simp, by simp⟩, ⟨by simp, by simp⟩, ⟨by simp, by simp⟩, ⟨by simp, by simp⟩, ⟨by simp, by simp⟩, ⟨by simp, by simp⟩, ?_, ?_, fun k hk => by simp at hk; omega⟩
      · have := hw.ww
        exact ⟨by simp; omega, by simp; omega⟩
      · have := hw.hh
        exact ⟨by simp; omega, by simp; omega⟩
    · exact (hw.lk _).1
  have hpl : p < st.sfs.length := by
    rcases hp with rfl | ⟨i, rfl, hi⟩
    · omega
    · have := hw.lt hi; omega
  have ppl := px_lim hw p hpl
  have lw := hlook.w
  have lh := hlook.h
  have HMt : Hid (∀ W', Calls Tryz.prog 173 #[.agg (r4C (st.openL (st.chain p))), .agg (r4C (st.px p, st.py p, st.px p + (lookP st p).w, st.py p + (lookP st p).h))] W' fun e w' => e = .returned (.agg (r4C (st.seenP p))) ∧ Below W'.heap.size W' w') := fun W' => (meetP_any _ _ W').mono fun e w' ⟨h1, o1, o2, o3, h2⟩ => ⟨h1, by rw [h2]; exact al3 (Nat.le_refl _) o1 o2 o3⟩
  have HWd : Hid (∀ W', Calls Tryz.prog 157 #[.agg #[.int .i64 (lookP st p).w, .int .i64 (lookP st p).h, .slice pa pm pk]] W' fun e w' => e = .returned (.int .i64 (lookP st p).w) ∧ w' = W'.alloc (.cells #[.int .i64 (lookP st p).w, .int .i64 (lookP st p).h, .slice pa pm pk] 122)) := fun W' => width_any _ _ _ W'
  have HHt : Hid (∀ W', Calls Tryz.prog 158 #[.agg #[.int .i64 (lookP st p).w, .int .i64 (lookP st p).h, .slice pa pm pk]] W' fun e w' => e = .returned (.int .i64 (lookP st p).h) ∧ w' = W'.alloc (.cells #[.int .i64 (lookP st p).w, .int .i64 (lookP st p).h, .slice pa pm pk] 122)) := fun W' => height_any _ _ _ W'
  unfold viewC
  unfold spotC at HSp
  unfold r4C at HMt
  obtain ⟨X, hX⟩ : ∃ X, st.px p = X := ⟨_, rfl⟩
  obtain ⟨Y, hY⟩ : ∃ Y, st.py p = Y := ⟨_, rfl⟩
  obtain ⟨O, hO⟩ : ∃ O, st.openL (st.chain p) = O := ⟨_, rfl⟩
  obtain ⟨R, hR⟩ : ∃ R, st.seenP p = R := ⟨_, rfl⟩
  obtain ⟨a, ha⟩ : ∃ a, (lookP st p).w = a := ⟨_, rfl⟩
  obtain ⟨b, hb⟩ : ∃ b, (lookP st p).h = b := ⟨_, rfl⟩
  obtain ⟨gb, hgb⟩ : ∃ gb, blk p = gb := ⟨_, rfl⟩
  rw [hX, hY, hO, hgb] at HSp
  rw [hX, hY] at ppl
  rw [hX, hY, hO, hR, ha, hb] at HMt
  rw [ha, hb] at HWd HHt
  rw [ha, hb, hgb] at HC
  rw [ha] at lw
  rw [hb] at lh
  rw [hgb] at hgl
  rw [hX, hY, hR, ha, hb, hgb]
  simp only at HMt
  clear h kc kf kl q hpix hpix2 hlook hpl hX hY hO hR ha hb hgb hw
  go_enter Tryz.func118, Tryz.ntmps118
  go_upto_region 1 with fail
  have HZ : Hid (Below W.heap.size W (W.alloc (.cells #[.int .i64 0, .int .i64 0, .int .i64 0, .int .i64 0, .int .i64 0, .int .i64 0, .int .i64 0, .int .i64 0, .int .i64 0] 59)) ∧ HasB (W.alloc (.cells #[.int .i64 0, .int .i64 0, .int .i64 0, .int .i64 0, .int .i64 0, .int .i64 0, .int .i64 0, .int .i64 0, .int .i64 0] 59)) W.heap.size 59 9) := ⟨al1 (Nat.le_refl _) _, HasB.new W _ _⟩
  generalize W.alloc (.cells #[.int .i64 0, .int .i64 0, .int .i64 0, .int .i64 0, .int .i64 0, .int .i64 0, .int .i64 0, .int .i64 0, .int .i64 0] 59) = V0 at *
  obtain ⟨n0, d0, d3, d4, d5⟩ := HC.out V0 HZ.out.1
  have hWV : W.heap.size < V0.heap.size := HZ.out.2.lt
  have HS2 : Hid (∀ V' : World, Below V0.heap.size V0 V' → Calls Tryz.prog 172 #[.pointer (some ⟨gb, 0, none⟩)] V' fun e w' => e = .returned (.agg #[.int .i64 X, .int .i64 Y, .int .i64 O.1, .int .i64 O.2.1, .int .i64 O.2.2.1, .int .i64 O.2.2.2]) ∧ Below V'.heap.size V' w' ∧ Below V0.heap.size V0 w') := fun V' hV' => (HSp.out V' (HZ.out.1.trans (hV'.mono HZ.out.1.size))).mono fun e w' ⟨h1, h2⟩ => ⟨h1, h2, hV'.trans (h2.mono hV'.size)⟩
  have hgn : gb ≠ V0.heap.size := by omega
  have FG : Hid (∀ (W' : World), Below W.heap.size W W' → W'.cell? ⟨gb, 3, none⟩ = some (.int .i64 a) ∧ W'.cell? ⟨gb, 4, none⟩ = some (.int .i64 b) ∧ W'.cell? ⟨gb, 5, none⟩ = some (.slice pa pm pk)) := fun W' hW' => (HC.out W' hW').2.2
  go_cut [3, 4, 5] (fun s3 s4 s5 wx => ∃ sb, s3 = .pointer (some ⟨sb, 0, none⟩) ∧ s4 = .int .i64 a ∧ s5 = .int .i64 b ∧ Hid (ViewM W wx sb X Y O))
  case first =>
    go_region_held3 (fun w' => w'.cell? ⟨gb, 3, none⟩ = some (.int .i64 a) ∧ w'.cell? ⟨gb, 4, none⟩ = some (.int .i64 b) ∧ w'.cell? ⟨gb, 5, none⟩ = some (.slice pa pm pk))
      (first
        | (refine FG.out _ ?_; (repeat (first | with_reducible exact Below.refl _ _ | with_reducible exact HB1.out.2.1 | with_reducible exact HZ.out.1 | with_reducible refine Below.drew ?_ | with_reducible refine Below.setRow ?_ (by first | omega | (simp <;> omega)) _ | with_reducible refine Below.alloc ?_ (by first | omega | (simp <;> omega)) _)); done)
        | fail)
      (first
        | (go_at_call 172; refine (HS2.out _ ?_).mono ?_; (repeat (first | exact Below.refl _ _ | refine Below.drew ?_ | refine Below.alloc ?_ (by first | omega | (simp <;> omega)) _)); rintro e w1 ⟨rfl, hb1, B⟩; have n1 : V0.heap.size ≤ w1.heap.size := B.size; have HB1 := hide (And.intro hb1 (And.intro (HZ.out.1.trans (B.mono HZ.out.1.size)) (HZ.out.2.keep (B.block _ hWV)))); (try (have q0 := HasB.under (n := V0.heap.size) (T := 241) (k := 6) hb1; simp [spotO_new, hasB_alloc, hasB_drew] at q0)); (try (have q1 := HasB.under (n := V0.heap.size + 1) (T := 241) (k := 6) hb1; simp [spotO_new, hasB_alloc, hasB_drew] at q1)); (try (have q2 := HasB.under (n := V0.heap.size + 1 + 1) (T := 241) (k := 6) hb1; simp [spotO_new, hasB_alloc, hasB_drew] at q2)); clear B hb1)
        | (go_at_call 157; refine (HWd.out _).mono ?_; rintro e w2 ⟨rfl, rfl⟩)
        | (go_at_call 158; refine (HHt.out _).mono ?_; rintro e w3 ⟨rfl, rfl⟩)
        | fail)
    all_goals go_wp2_with fail
    all_goals go_meet
    all_goals refine ⟨_, rfl, rfl, rfl, ?_⟩
    all_goals unfold Hid
    all_goals (repeat (first
      | (with_reducible refine ViewM.store ?_ ?_ ?_ ?_)
      | (with_reducible refine ViewM.drew ?_)
      | (with_reducible refine ViewM.alloc ?_ _)))
    all_goals first
      | omega
      | ((repeat (first | with_reducible exact Below.refl _ _ | with_reducible exact HB1.out.2.1 | with_reducible exact HZ.out.1 | with_reducible refine Below.drew ?_ | with_reducible refine Below.setRow ?_ (by first | omega | (simp <;> omega)) _ | with_reducible refine Below.alloc ?_ (by first | omega | (simp <;> omega)) _)); done)
      | ((repeat (first | with_reducible exact HB1.out.2.2 | with_reducible assumption | with_reducible exact hasB_at (by simp) | with_reducible refine HasB.drew ?_ | with_reducible refine HasB.alloc ?_ _)); done)
  case rest =>
    obtain ⟨sb, rfl, rfl, rfl, HV1⟩ := hcut
    clear d0 d3 d4 d5 n0 hgn HS2 HZ
    obtain ⟨m0, m1, m2, m3, m4, m5⟩ := HV1.out.cells
    have hsl := HV1.out.lt
    have hsn : ¬ sb = wc.heap.size := by omega
    go_upto_region 3 with fail
    have HV2 : Hid (ViewM W (wc.alloc (.cells #[.int .i64 X, .int .i64 Y, .int .i64 (X + a), .int .i64 (Y + b)] 53)) sb X Y O ∧ Blk (wc.alloc (.cells #[.int .i64 X, .int .i64 Y, .int .i64 (X + a), .int .i64 (Y + b)] 53)) wc.heap.size 53 #[.int .i64 X, .int .i64 Y, .int .i64 (X + a), .int .i64 (Y + b)]) := ⟨HV1.out.alloc _, heap_alloc_new wc _⟩
    generalize X + a = XA at *
    generalize Y + b = YB at *
    have HRb : Hid (W.heap.size < wc.heap.size) := Nat.lt_trans HV1.out.lo HV1.out.lt
    clear m0 m1 m2 m3 m4 m5 hsl hsn HV1
    generalize wc.alloc (.cells #[.int .i64 X, .int .i64 Y, .int .i64 XA, .int .i64 YB] 53) = V1 at *
    generalize wc.heap.size = rb at *
    have FC : Hid (∀ wx : World, Below V1.heap.size V1 wx → wx.cell? ⟨gb, 0, none⟩ = some (.int .i64 p) ∧ wx.cell? ⟨sb, 0, none⟩ = some (.int .i64 X) ∧ wx.cell? ⟨sb, 1, none⟩ = some (.int .i64 Y) ∧ wx.cell? ⟨sb, 2, none⟩ = some (.int .i64 O.1) ∧ wx.cell? ⟨sb, 3, none⟩ = some (.int .i64 O.2.1) ∧ wx.cell? ⟨sb, 4, none⟩ = some (.int .i64 O.2.2.1) ∧ wx.cell? ⟨sb, 5, none⟩ = some (.int .i64 O.2.2.2) ∧ wx.cell? ⟨rb, 0, none⟩ = some (.int .i64 X) ∧ wx.cell? ⟨rb, 1, none⟩ = some (.int .i64 Y) ∧ wx.cell? ⟨rb, 2, none⟩ = some (.int .i64 XA) ∧ wx.cell? ⟨rb, 3, none⟩ = some (.int .i64 YB) ∧ (∃ q, wx.cell? ⟨W.heap.size, 0, none⟩ = some q) ∧ (∃ q, wx.cell? ⟨W.heap.size, 1, none⟩ = some q) ∧ (∃ q, wx.cell? ⟨W.heap.size, 2, none⟩ = some q) ∧ (∃ q, wx.cell? ⟨W.heap.size, 3, none⟩ = some q) ∧ (∃ q, wx.cell? ⟨W.heap.size, 4, none⟩ = some q) ∧ (∃ q, wx.cell? ⟨W.heap.size, 5, none⟩ = some q) ∧ (∃ q, wx.cell? ⟨W.heap.size, 6, none⟩ = some q) ∧ (∃ q, wx.cell? ⟨W.heap.size, 7, none⟩ = some q) ∧ (∃ q, wx.cell? ⟨W.heap.size, 8, none⟩ = some q) ∧ ∀ j, wx.frozen? ⟨W.heap.size, j, none⟩ = false) := fun wx hx => by
      have hm := HV2.out.1.below hx
      obtain ⟨a0, a1, a2, a3, a4, a5⟩ := hm.cells
      have hr : Blk wx rb 53 #[.int .i64 X, .int .i64 Y, .int .i64 XA, .int .i64 YB] := (hx.block rb (Array.getElem?_eq_some_iff.1 HV2.out.2).1).trans HV2.out.2
      exact ⟨(HC.out wx hm.bel).2.1, a0, a1, a2, a3, a4, a5, by rw [hr.cell]; rfl, by rw [hr.cell]; rfl, by rw [hr.cell]; rfl, by rw [hr.cell]; rfl, hm.res.cell 0 (by omega), hm.res.cell 1 (by omega), hm.res.cell 2 (by omega), hm.res.cell 3 (by omega), hm.res.cell 4 (by omega), hm.res.cell 5 (by omega), hm.res.cell 6 (by omega), hm.res.cell 7 (by omega), hm.res.cell 8 (by omega), fun j => hm.res.free j⟩
    obtain ⟨d0, m0, m1, m2, m3, m4, m5, t0, t1, t2, t3, _⟩ := FC.out V1 (Below.refl _ _)
    have FcS : Hid (∀ wx : World, Below V1.heap.size V1 wx → wx.cell? ⟨gb, 0, none⟩ = some (.int .i64 p) ∧ wx.cell? ⟨sb, 0, none⟩ = some (.int .i64 X) ∧ wx.cell? ⟨sb, 1, none⟩ = some (.int .i64 Y) ∧ wx.cell? ⟨sb, 2, none⟩ = some (.int .i64 O.1) ∧ wx.cell? ⟨sb, 3, none⟩ = some (.int .i64 O.2.1) ∧ wx.cell? ⟨sb, 4, none⟩ = some (.int .i64 O.2.2.1) ∧ wx.cell? ⟨sb, 5, none⟩ = some (.int .i64 O.2.2.2) ∧ wx.cell? ⟨rb, 0, none⟩ = some (.int .i64 X) ∧ wx.cell? ⟨rb, 1, none⟩ = some (.int .i64 Y) ∧ wx.cell? ⟨rb, 2, none⟩ = some (.int .i64 XA) ∧ wx.cell? ⟨rb, 3, none⟩ = some (.int .i64 YB)) := fun wx hx => by
      obtain ⟨q0, q1, q2, q3, q4, q5, q6, q7, q8, q9, q10, _⟩ := FC.out wx hx
      exact ⟨q0, q1, q2, q3, q4, q5, q6, q7, q8, q9, q10⟩
    have FS2 : Hid (∀ wx : World, Below V1.heap.size V1 wx → ∀ cs, (wx.setRow W.heap.size cs).cell? ⟨gb, 0, none⟩ = some (.int .i64 p) ∧ (wx.setRow W.heap.size cs).cell? ⟨sb, 0, none⟩ = some (.int .i64 X) ∧ (wx.setRow W.heap.size cs).cell? ⟨sb, 1, none⟩ = some (.int .i64 Y) ∧ (wx.setRow W.heap.size cs).cell? ⟨sb, 2, none⟩ = some (.int .i64 O.1) ∧ (wx.setRow W.heap.size cs).cell? ⟨sb, 3, none⟩ = some (.int .i64 O.2.1) ∧ (wx.setRow W.heap.size cs).cell? ⟨sb, 4, none⟩ = some (.int .i64 O.2.2.1) ∧ (wx.setRow W.heap.size cs).cell? ⟨sb, 5, none⟩ = some (.int .i64 O.2.2.2) ∧ (wx.setRow W.heap.size cs).cell? ⟨rb, 0, none⟩ = some (.int .i64 X) ∧ (wx.setRow W.heap.size cs).cell? ⟨rb, 1, none⟩ = some (.int .i64 Y) ∧ (wx.setRow W.heap.size cs).cell? ⟨rb, 2, none⟩ = some (.int .i64 XA) ∧ (wx.setRow W.heap.size cs).cell? ⟨rb, 3, none⟩ = some (.int .i64 YB)) := fun wx hx cs => by
      obtain ⟨q0, q1, q2, q3, q4, q5, q6, q7, q8, q9, q10⟩ := FcS.out wx hx
      have hs0 := HV2.out.1.lo
      have e1 : ∀ j, (wx.setRow W.heap.size cs).cell? ⟨sb, j, none⟩ = wx.cell? ⟨sb, j, none⟩ := fun j => cell_setRow_other _ _ _ _ (by show sb ≠ W.heap.size; omega)
      have e2 : ∀ j, (wx.setRow W.heap.size cs).cell? ⟨rb, j, none⟩ = wx.cell? ⟨rb, j, none⟩ := fun j => cell_setRow_other _ _ _ _ (by show rb ≠ W.heap.size; have := HRb.out; omega)
      have e0 : (wx.setRow W.heap.size cs).cell? ⟨gb, 0, none⟩ = wx.cell? ⟨gb, 0, none⟩ := cell_setRow_other _ _ _ _ (by show gb ≠ W.heap.size; omega)
      exact ⟨e0.trans q0, (e1 0).trans q1, (e1 1).trans q2, (e1 2).trans q3, (e1 3).trans q4, (e1 4).trans q5, (e1 5).trans q6, (e2 0).trans q7, (e2 1).trans q8, (e2 2).trans q9, (e2 3).trans q10⟩
    go_cut [] (fun wx => Hid (Blk wx W.heap.size 59 #[.int .i64 p, .int .i64 X, .int .i64 Y, .int .i64 a, .int .i64 b, .int .i64 R.1, .int .i64 R.2.1, .int .i64 R.2.2.1, .int .i64 R.2.2.2] ∧ Below W.heap.size W wx))
    case first =>
      go_region_held3 (fun w' => w'.cell? ⟨gb, 0, none⟩ = some (.int .i64 p) ∧ w'.cell? ⟨sb, 0, none⟩ = some (.int .i64 X) ∧ w'.cell? ⟨sb, 1, none⟩ = some (.int .i64 Y) ∧ w'.cell? ⟨sb, 2, none⟩ = some (.int .i64 O.1) ∧ w'.cell? ⟨sb, 3, none⟩ = some (.int .i64 O.2.1) ∧ w'.cell? ⟨sb, 4, none⟩ = some (.int .i64 O.2.2.1) ∧ w'.cell? ⟨sb, 5, none⟩ = some (.int .i64 O.2.2.2) ∧ w'.cell? ⟨rb, 0, none⟩ = some (.int .i64 X) ∧ w'.cell? ⟨rb, 1, none⟩ = some (.int .i64 Y) ∧ w'.cell? ⟨rb, 2, none⟩ = some (.int .i64 XA) ∧ w'.cell? ⟨rb, 3, none⟩ = some (.int .i64 YB))
        (first
          | with_reducible exact FS2.out _ HB2.out _
          | with_reducible exact FcS.out _ HB2.out
          | with_reducible exact FcS.out _ (Below.refl _ _)
          | with_reducible exact FcS.out _ (Below.refl _ _).drew
          | fail)
        (first
          | (go_at_call 173; refine (HMt.out _).mono ?_; rintro e w2 ⟨rfl, hb2⟩; have B2 := ((Below.refl V1.heap.size V1).drew).trans hb2; have q9 := (HV2.out.1.below B2).res; have HB2 := hide B2; clear B2 hb2)
          | fail)
      all_goals go_wp2_with fail
      all_goals go_meet
      all_goals exact (HV2.out.1.below HB2.out).finish _
    case rest =>
      have HF := hcut
      clear hcut d0 m0 m1 m2 m3 m4 m5 t0 t1 t2 t3 FC HV2 FcS FS2 HRb
      have g0 := HF.out.1.cell 0
      have g1 := HF.out.1.cell 1
      have g2 := HF.out.1.cell 2
      have g3 := HF.out.1.cell 3
      have g4 := HF.out.1.cell 4
      have g5 := HF.out.1.cell 5
      have g6 := HF.out.1.cell 6
      have g7 := HF.out.1.cell 7
      have g8 := HF.out.1.cell 8
      simp only [List.getElem?_toArray, List.getElem?_cons_zero, List.getElem?_cons_succ] at g0 g1 g2 g3 g4 g5 g6 g7 g8
      go_wp2_with fail
      exact bodyPost_ret (v := .agg #[.int .i64 p, .int .i64 X, .int .i64 Y, .int .i64 a, .int .i64 b, .int .i64 R.1, .int .i64 R.2.1, .int .i64 R.2.2.1, .int .i64 R.2.2.2]) (by simp [results, Tryz.results118, go_sem, g0, g1, g2, g3, g4, g5, g6, g7, g8]) rfl ⟨rfl, HF.out.2⟩

end Go.Proofs.YtofinpocigbbeaaGreat

/-! PanF -/
namespace Go.Proofs.YtofinpocigbbeaaGreat
open Go.RowKit
attribute [local go_sem ↓] Go.wp_at_zero Go.wp_at_succ

theorem PPost.after {S : Nat → Prop} {x : Nat} {bv : Value} {p : Int × St} {w W : World} {e : Ending} {w' : World} (hb : Below w.heap.size w W) (h : PPost S x bv p W e w') : PPost S x bv p w e w' := by
  obtain ⟨h1, h2, h3⟩ := h
  refine ⟨h1, h2.mono fun g hg => ?_, (Only.below hb).trans (h3.mono fun g _ hs => .inl hs)⟩
  rcases hg with hg | ⟨hg1, hg2⟩
  · exact .inl hg
  · exact .inr ⟨Nat.le_trans hb.size hg1, hg2⟩

theorem PPost.then {S : Nat → Prop} {x : Nat} {bv : Value} {p : Int × St} {w : World} {e : Ending} {w1 w2 : World} (h : PPost S x bv p w e w1) (hb : Below w1.heap.size w1 w2) : PPost S x bv p w e w2 := by
  obtain ⟨h1, h2, h3⟩ := h
  refine ⟨h1, (h2.keep fun g _ hg => hb.block g hg).mono fun g hg => ?_, h3.after hb⟩
  rcases hg with hg | ⟨hg1, hg2⟩
  · exact .inl hg
  · exact .inr ⟨hg1, Nat.lt_of_lt_of_le hg2 hb.size⟩

set_option maxRecDepth 100000 in
set_option maxHeartbeats 1000000 in
/-- (*Surface).Clip -/
theorem sfClip_any (g : Nat) (a0 a1 a2 a3 : Int) (F : Nat → Value) (w : World) (h : SrfB w g F) :
    Calls Tryz.prog 69 #[.pointer (some ⟨g, 0, none⟩), .agg #[.int .i64 a0, .int .i64 a1, .int .i64 a2, .int .i64 a3]] w fun e w' => e = .returned (.tuple #[]) ∧
      w' = (((((w.setCell ⟨g, 19, none⟩ (.int .i64 a0)).setCell ⟨g, 20, none⟩ (.int .i64 a1)).setCell ⟨g, 21, none⟩ (.int .i64 a2)).setCell ⟨g, 22, none⟩ (.int .i64 a3)).setCell ⟨g, 23, none⟩ (.bool true)).alloc (.cells #[.int .i64 a0, .int .i64 a1, .int .i64 a2, .int .i64 a3] 53) := by
  obtain ⟨cur, h1, h2, h3⟩ := h
  have hlt : g < w.heap.size := (Array.getElem?_eq_some_iff.1 h1).1
  have hc : ∀ j, j < 31 → w.cell? ⟨g, j, none⟩ = some (F j) := fun j hj => by
    rw [cell_of_row _ _ _ _ _ _ h1]
    exact h3 j hj
  have hf : ∀ j, w.frozen? ⟨g, j, none⟩ = false := fun j => by simp [World.frozen?, h1]
  have c18 := hc 19 (by omega)
  have c19 := hc 20 (by omega)
  have c20 := hc 21 (by omega)
  have c21 := hc 22 (by omega)
  have c22 := hc 23 (by omega)
  have f18 := hf 19
  have f19 := hf 20
  have f20 := hf 21
  have f21 := hf 22
  have f22 := hf 23
  have hgn : ¬ g = w.heap.size := by omega
  clear hc hf h1 h2 h3
  go_enter Tryz.func69, Tryz.ntmps69
  go_wp2_with fail
  exact bodyPost_end (v := .tuple #[]) (by simp [results, Tryz.results69]) rfl ⟨rfl, rfl⟩

set_option maxRecDepth 100000 in
set_option maxHeartbeats 1000000 in
/-- (*Screen).Clip -/
theorem paClip_any {S : Nat → Prop} {x : Nat} {st : St} (hw : Wf st) (id a0 a1 a2 a3 : Int) (w : World) {bv : Value} (h : PaneOk w S x st bv) :
    Calls Tryz.prog 35 #[.pointer (some ⟨x, 0, none⟩), .int .i64 id, .agg #[.int .i64 a0, .int .i64 a1, .int .i64 a2, .int .i64 a3]] w (PPost S x bv (opClip st id (a0, a1, a2, a3) (fitR (a0, a1, a2, a3))) w) := by
  have hB := isB_iff hw id
  have hb1 := fun o => al1 (Nat.le_refl w.heap.size) o
  have hb2 := fun o1 o2 => al2 (Nat.le_refl w.heap.size) o1 o2
  have HE6 := hide (fun o => PPost.same (er := 6) h (hb1 o))
  have HE3 := hide (fun o1 o2 => PPost.same (er := 3) h (hb2 o1 o2))
  obtain ⟨sc, mp, blk, G, h⟩ := h
  obtain ⟨x0, x1, xl⟩ := h.scrCells
  have hxn : ¬ x = w.heap.size := by omega
  unfold opClip
  obtain ⟨t, ht⟩ : ∃ t, st.isB id = t := ⟨_, rfl⟩
  rw [ht] at hB ⊢
  cases t with
  | false =>
    rw [if_neg (by simp)]
    have HS := hide (fun o => scSurface_no (h.below (hb1 o)) id (isB_no hw ht))
    clear hB h hb1 hb2 HE3
    go_enter Tryz.func35, Tryz.ntmps35
    go_wp2_with (go_at_call 58; refine (HS.out _).mono ?_; rintro e w' ⟨rfl, rfl⟩)
    go_ret
    exact HE6.out _
  | true =>
    rw [if_pos rfl]
    obtain ⟨i, rfl, hio⟩ := hB.1 rfl
    have hil := hw.lt hio
    rw [Int.toNat_natCast]
    have HS := hide (fun o => scSurface_ok (h.below (hb1 o)) i hio)
    have HOk : Hid (∀ W : World, Below w.heap.size w W → PPost S x bv (0, upd st i (sfClip (a0, a1, a2, a3))) w (.returned (.int .i64 0)) (((((W.setCell ⟨blk i, 19, none⟩ (.int .i64 a0)).setCell ⟨blk i, 20, none⟩ (.int .i64 a1)).setCell ⟨blk i, 21, none⟩ (.int .i64 a2)).setCell ⟨blk i, 22, none⟩ (.int .i64 a3)).setCell ⟨blk i, 23, none⟩ (.bool true))) := fun W hW => by
      have h := h.below hW
      have hs : SrfB W (blk i) (G i) := h.srf i (live_nat hio)
      have q := (h.cells i (live_nat hio)).nat
      have q2 := q.next
      have ho := h.own.2.2.2 i (live_nat hio)
      refine PPost.after hW ⟨rfl, PaneOk.mono ⟨sc, mp, blk, _, h.upd (gf := sfClip (a0, a1, a2, a3)) hio hil (fun _ => rfl) (fun g hg hne => ?_) (((((hs.set 19 _).set 20 _).set 21 _).set 22 _).set 23 _) rfl (NCells.upd hil ⟨q.num, q.par, ⟨q.now.w, q.now.h, q.now.pix, q.now.x, q.now.y, q.now.c0, q.now.c1, q.now.c2, q.now.c3, q.now.cut, q.now.hint⟩, ⟨q2.w, q2.h, q2.pix, q2.x, q2.y, rfl, rfl, rfl, rfl, rfl, q2.hint⟩, q.stk, q.kep⟩) ⟨(h.data i hio).pix, (h.data i hio).hint, (h.data i hio).npix, (h.data i hio).nhint, (h.data i hio).kw, (h.data i hio).kh, (h.data i hio).kept⟩⟩ (fun _ h => grow_self h), (((((Only.refl S W).set (.inl ho) _).set (.inl ho) _).set (.inl ho) _).set (.inl ho) _).set (.inl ho) _⟩
      rw [setOther 23 _ g (by simpa using hg) hne, setOther 22 _ g (by simpa using hg) hne, setOther 21 _ g (by simpa using hg) hne, setOther 20 _ g (by simpa using hg) hne, setOther 19 _ g hg hne]
    have HM := hide (mayBeR_any a0 a1 a2 a3)
    obtain ⟨ok, hok⟩ : ∃ ok, fitR (a0, a1, a2, a3) = ok := ⟨_, rfl⟩
    rw [hok] at HM ⊢
    obtain ⟨g, hg⟩ : ∃ g, blk i = g := ⟨_, rfl⟩
    have HC := hide (fun o1 o2 => sfClip_any (blk i) a0 a1 a2 a3 (G i) _ ((h.below (hb2 o1 o2)).srf i (live_nat hio)))
    have HL := hide hb2
    rw [hg] at HS HOk HC
    have HA := hide (fun (W : World) (o : Obj) => al1 (Nat.le_refl W.heap.size) o)
    clear h hB hg hb1 hb2 HE6 hok
    cases ok with
    | false =>
      rw [if_neg (by simp)]
      go_enter Tryz.func35, Tryz.ntmps35
      go_wp2_with (first
        | (go_at_call 58; refine (HS.out _).mono ?_; rintro e w' ⟨rfl, rfl⟩)
        | (go_at_call 68; refine (HM.out _).mono ?_; rintro e w' ⟨rfl, rfl⟩)
        | go_in)
      try go_ret
      exact HE3.out _ _
    | true =>
      rw [if_pos rfl]
      go_enter Tryz.func35, Tryz.ntmps35
      go_wp2_with (first
        | (go_at_call 58; refine (HS.out _).mono ?_; rintro e w' ⟨rfl, rfl⟩)
        | (go_at_call 68; refine (HM.out _).mono ?_; rintro e w' ⟨rfl, rfl⟩)
        | (go_at_call 69; refine (HC.out _ _).mono ?_; rintro e w' ⟨rfl, rfl⟩))
      try go_ret
      exact (HOk.out _ (HL.out _ _)).then (HA.out _ _)

end Go.Proofs.YtofinpocigbbeaaGreat

/-! PanG -/
namespace Go.Proofs.YtofinpocigbbeaaGreat
open Go.RowKit
attribute [local go_sem ↓] Go.wp_at_zero Go.wp_at_succ

theorem surfSize : ∃ j, Tryz.prog.info? 174 = some j ∧ j.size = 31 := by
  have h : (Tryz.prog.info? 174).map (·.size) = some 31 := by kernel_rfl
  cases hq : Tryz.prog.info? 174 with
  | none => rw [hq] at h; cases h
  | some j => rw [hq] at h; simp at h; exact ⟨j, rfl, h⟩

theorem ptr_same (a : Nat) (w : World) : (binOp .eql 117 (.pointer (some ⟨a, 0, none⟩)) (.pointer (some ⟨a, 0, none⟩))).run Tryz.prog w = .ok (.bool true) w ∧ (binOp .neq 117 (.pointer (some ⟨a, 0, none⟩)) (.pointer (some ⟨a, 0, none⟩))).run Tryz.prog w = .ok (.bool false) w := by
  obtain ⟨j, hj, _⟩ := surfSize
  exact ⟨run_eql_ptr_same w _ Tryz.underlying117 hj, Lib.run_neq_ptr_same w _ Tryz.underlying117 hj⟩

theorem ptr_other {a b : Nat} (hab : a ≠ b) (w : World) {ca cb : Array Value} {ta tb : TypeId} (ha : w.heap[a]? = some (.cells ca ta (0, 0))) (hb : w.heap[b]? = some (.cells cb tb (0, 0))) : (binOp .eql 117 (.pointer (some ⟨a, 0, none⟩)) (.pointer (some ⟨b, 0, none⟩))).run Tryz.prog w = .ok (.bool false) w ∧ (binOp .neq 117 (.pointer (some ⟨a, 0, none⟩)) (.pointer (some ⟨b, 0, none⟩))).run Tryz.prog w = .ok (.bool true) w := by
  obtain ⟨j, hj, hs⟩ := surfSize
  have hne : (⟨a, 0, none⟩ : Addr) ≠ ⟨b, 0, none⟩ := fun e => hab (by injection e)
  have hsz : j.size ≠ 0 := by omega
  refine ⟨run_eql_ptr_other w Tryz.underlying117 hj hsz hne ha hb, ?_⟩
  have h : ∀ d : Nat, (Op.equalIn (d + 1) 117 (.pointer (some ⟨a, 0, none⟩)) (.pointer (some ⟨b, 0, none⟩))).run Tryz.prog w = .ok false w := fun d => by
    simp [Op.equalIn, run_underlying (P := Tryz.prog) Tryz.underlying117, sizeOf, typeInfo, hj, hsz, run_sameAddr_other w hne ha hb]
  simp only [binOp]
  simp [Op.equal, Op.maxDepth, h 9999]

set_option maxRecDepth 100000 in
set_option maxHeartbeats 1000000 in
/-- (*Surface).Beside -/
theorem beside_any (a b pa pb : Nat) (w : World) (ha : w.cell? ⟨a, 1, none⟩ = some (.pointer (some ⟨pa, 0, none⟩))) (hb : w.cell? ⟨b, 1, none⟩ = some (.pointer (some ⟨pb, 0, none⟩))) (fa : ∃ F, SrfB w a F) (fb : ∃ F, SrfB w b F) (ga : ∃ F, SrfB w pa F) (gb : ∃ F, SrfB w pb F) :
    Calls Tryz.prog 74 #[.pointer (some ⟨a, 0, none⟩), .pointer (some ⟨b, 0, none⟩)] w fun e w' => e = .returned (.bool (decide (a ≠ b ∧ pa = pb))) ∧ ∃ n, w' = w.drewN n := by
  obtain ⟨F1, c1, k1, _⟩ := fa
  obtain ⟨F2, c2, k2, _⟩ := fb
  obtain ⟨F3, c3, k3, _⟩ := ga
  obtain ⟨F4, c4, k4, _⟩ := gb
  by_cases e : a = b
  · have hd : decide (a ≠ b ∧ pa = pb) = false := decide_eq_false fun h => h.1 e
    rw [hd]
    clear hd
    subst e
    have hn := fun n => (ptr_same a (w.drewN n)).2
    clear k1 k2 k3 k4
    go_enter Tryz.func74, Tryz.ntmps74
    go_wp2_with fail
    go_quiet (fail)
    go_wp2_with fail
    go_ret
    exact ⟨rfl, _, rfl⟩
  · by_cases e2 : pa = pb
    · have hd : decide (a ≠ b ∧ pa = pb) = true := decide_eq_true ⟨e, e2⟩
      rw [hd]
      clear hd
      subst e2
      have hn := fun n => (ptr_other e (w.drewN n) k1 k2).2
      have hp := fun n => (ptr_same pa (w.drewN n)).1
      clear k1 k2 k3 k4
      go_enter Tryz.func74, Tryz.ntmps74
      go_wp2_with fail
      go_quiet (fail)
      go_wp2_with fail
      go_ret
      exact ⟨rfl, _, rfl⟩
    · have hd : decide (a ≠ b ∧ pa = pb) = false := decide_eq_false fun h => e2 h.2
      rw [hd]
      clear hd
      have hn := fun n => (ptr_other e (w.drewN n) k1 k2).2
      have hp := fun n => (ptr_other e2 (w.drewN n) k3 k4).1
      clear k1 k2 k3 k4
      go_enter Tryz.func74, Tryz.ntmps74
      go_wp2_with fail
      go_quiet (fail)
      go_wp2_with fail
      go_ret
      exact ⟨rfl, _, rfl⟩

def srfV (st : St) (blk : Int → Nat) (id : Int) : Value := if st.isB id = true then .pointer (some ⟨blk id, 0, none⟩) else .pointer none

theorem scSurface_all {w : World} {S : Nat → Prop} {x : Nat} {st : St} (hw : Wf st) {bv : Value} {sc mp : Nat} {blk : Int → Nat} {G : Int → Nat → Value} (h : PRaw w S x st bv sc mp blk G) (id : Int) :
    Calls Tryz.prog 58 #[.pointer (some ⟨sc, 0, none⟩), .int .i64 id] w fun e w' => e = .returned (srfV st blk id) ∧ w' = w := by
  unfold srfV
  cases ht : st.isB id with
  | false =>
    rw [if_neg (by simp)]
    exact scSurface_no h id (isB_no hw ht)
  | true =>
    rw [if_pos rfl]
    obtain ⟨i, rfl, hi⟩ := (isB_iff hw id).1 ht
    exact scSurface_ok h i hi

theorem PRaw.drewN {w : World} {S : Nat → Prop} {x : Nat} {st : St} {bv : Value} {sc mp : Nat} {blk : Int → Nat} {G : Int → Nat → Value} (h : PRaw w S x st bv sc mp blk G) (n : Nat) : PRaw (w.drewN n) S x st bv sc mp blk G := h.below (below_drewN (Below.refl _ _) n)

set_option maxRecDepth 100000 in
set_option maxHeartbeats 1000000 in
/-- (*Screen).Stack -/
theorem paStack_any {S : Nat → Prop} {x : Nat} {st : St} (hw : Wf st) (id sb : Int) (ab : Bool) (w : World) {bv : Value} (h : PaneOk w S x st bv) :
    Calls Tryz.prog 38 #[.pointer (some ⟨x, 0, none⟩), .int .i64 id, .int .i64 sb, .bool ab] w (PPost S x bv (opStack st id sb ab) w) := by
  have HE6 := hide (fun n => PPost.same (er := 6) h (below_drewN (Below.refl w.heap.size w) n))
  have HE8 := hide (fun n => PPost.same (er := 8) h (below_drewN (Below.refl w.heap.size w) n))
  obtain ⟨sc, mp, blk, G, h⟩ := h
  obtain ⟨x0, x1, xl⟩ := h.scrCells
  have HS := hide (fun (k : Int) (n : Nat) => scSurface_all hw (h.drewN n) k)
  have hB1 := isB_iff hw id
  have hB2 := isB_iff hw sb
  unfold opStack
  cases ht1 : st.isB id with
  | false =>
    have v1 : srfV st blk id = .pointer none := by unfold srfV; rw [ht1]; rfl
    rw [if_neg (by simp)]
    clear hB1 hB2 h
    go_enter Tryz.func38, Tryz.ntmps38
    go_wp2_with fail
    go_quiet ((go_at_call 58; exact Calls.quiet_of_same (HS.out _ _)))
    go_wp2_with fail
    try go_ret
    exact HE6.out _
  | true =>
    obtain ⟨i, rfl, hio⟩ := hB1.1 ht1
    cases ht2 : st.isB sb with
    | false =>
      have v1 : srfV st blk i = .pointer (some ⟨blk i, 0, none⟩) := by unfold srfV; rw [ht1]; rfl
      have v2 : srfV st blk sb = .pointer none := by unfold srfV; rw [ht2]; rfl
      rw [if_neg (by simp)]
      clear hB1 hB2 h
      go_enter Tryz.func38, Tryz.ntmps38
      go_wp2_with fail
      go_quiet ((go_at_call 58; exact Calls.quiet_of_same (HS.out _ _)))
      go_wp2_with fail
      try go_ret
      exact HE6.out _
    | true =>
      obtain ⟨j, rfl, hjo⟩ := hB2.1 ht2
      have v1 : srfV st blk i = .pointer (some ⟨blk i, 0, none⟩) := by unfold srfV; rw [ht1]; rfl
      have v2 : srfV st blk j = .pointer (some ⟨blk j, 0, none⟩) := by unfold srfV; rw [ht2]; rfl
      have hil := hw.lt hio
      rw [if_pos ⟨rfl, rfl⟩, Int.toNat_natCast, Int.toNat_natCast]
      have qi := (h.cells i (live_nat hio)).nat
      have qj := (h.cells j (live_nat hjo)).nat
      obtain ⟨kc, kf, kl⟩ := h.at (live_nat hio)
      obtain ⟨jc, jf, jl⟩ := h.at (live_nat hjo)
      have c23 := kc 25 (by omega)
      have c24 := kc 26 (by omega)
      have c25 := kc 27 (by omega)
      have f23 := kf 25
      have f24 := kf 26
      have f25 := kf 27
      have j0 := jc 0 (by omega)
      rw [qj.num] at j0
      have k1 := kc 1 (by omega)
      have j1 := jc 1 (by omega)
      rw [qi.par] at k1
      rw [qj.par] at j1
      have HN := hide (fun n => beside_any (blk i) (blk j) (blk (st.sf i).parent) (blk (st.sf j).parent) (w.drewN n) k1 j1 ⟨_, h.srf i (live_nat hio)⟩ ⟨_, h.srf j (live_nat hjo)⟩ ⟨_, h.srf _ (live_par hw hio)⟩ ⟨_, h.srf _ (live_par hw hjo)⟩)
      have hdec : (decide (blk i ≠ blk j ∧ blk (st.sf i).parent = blk (st.sf j).parent)) = decide ((i : Int) ≠ (j : Int) ∧ (st.sf i).parent = (st.sf j).parent) := by
        congr 1
        apply propext
        refine and_congr (not_congr ⟨fun e => h.inj i j (live_nat hio) (live_nat hjo) e, fun e => by rw [e]⟩) ⟨fun e => h.inj _ _ (live_par hw hio) (live_par hw hjo) e, fun e => by rw [e]⟩
      rw [hdec] at HN
      have HOk : Hid (∀ n, PPost S x bv (0, upd st i (sfStack j ab)) w (.returned (.int .i64 0)) ((((w.drewN n).setCell ⟨blk i, 25, none⟩ (.bool true)).setCell ⟨blk i, 26, none⟩ (.int .i64 (j : Int))).setCell ⟨blk i, 27, none⟩ (.bool ab))) := fun n => by
        have hW := below_drewN (Below.refl w.heap.size w) n
        have h := h.below hW
        have hs : SrfB (w.drewN n) (blk i) (G i) := h.srf i (live_nat hio)
        have ho := h.own.2.2.2 i (live_nat hio)
        refine PPost.after hW ⟨rfl, PaneOk.mono ⟨sc, mp, blk, _, h.upd (gf := sfStack j ab) hio hil (fun _ => rfl) (fun g hg hne => ?_) (((hs.set 25 _).set 26 _).set 27 _) rfl (NCells.upd hil ⟨qi.num, qi.par, ⟨qi.now.w, qi.now.h, qi.now.pix, qi.now.x, qi.now.y, qi.now.c0, qi.now.c1, qi.now.c2, qi.now.c3, qi.now.cut, qi.now.hint⟩, ⟨qi.next.w, qi.next.h, qi.next.pix, qi.next.x, qi.next.y, qi.next.c0, qi.next.c1, qi.next.c2, qi.next.c3, qi.next.cut, qi.next.hint⟩, ⟨_, _, _, rfl, rfl, rfl, rfl, fun _ => ⟨rfl, rfl⟩⟩, qi.kep⟩) ⟨(h.data i hio).pix, (h.data i hio).hint, (h.data i hio).npix, (h.data i hio).nhint, (h.data i hio).kw, (h.data i hio).kh, (h.data i hio).kept⟩⟩ (fun _ h => grow_self h), (((Only.refl S (w.drewN n)).set (.inl ho) _).set (.inl ho) _).set (.inl ho) _⟩
        rw [setOther 27 _ g (by simpa using hg) hne, setOther 26 _ g (by simpa using hg) hne, setOther 25 _ g hg hne]
      obtain ⟨g, hg⟩ : ∃ g, blk i = g := ⟨_, rfl⟩
      obtain ⟨g2, hg2⟩ : ∃ g2, blk j = g2 := ⟨_, rfl⟩
      rw [hg] at c23 c24 c25 f23 f24 f25 HOk HN v1
      rw [hg2] at j0 HN v2
      clear hB1 hB2 h kc kf kl jc jf jl qi qj k1 j1 hdec HE6
      by_cases hc : (i : Int) ≠ (j : Int) ∧ (st.sf i).parent = (st.sf j).parent
      · rw [decide_eq_true hc] at HN
        rw [if_pos hc]
        clear hc HE8
        go_enter Tryz.func38, Tryz.ntmps38
        go_wp2_with fail
        go_quiet ((go_at_call 58; exact Calls.quiet_of_same (HS.out _ _)))
        go_wp2_with (first
          | (go_at_call 74; refine (HN.out _).mono ?_; rintro e w' ⟨rfl, zz, rfl⟩)
          | go_in)
        try go_ret
        exact HOk.out _
      · rw [decide_eq_false hc] at HN
        rw [if_neg hc]
        clear hc HOk
        go_enter Tryz.func38, Tryz.ntmps38
        go_wp2_with fail
        go_quiet ((go_at_call 58; exact Calls.quiet_of_same (HS.out _ _)))
        go_wp2_with (first
          | (go_at_call 74; refine (HN.out _).mono ?_; rintro e w' ⟨rfl, zz, rfl⟩)
          | go_in)
        try go_ret
        exact HE8.out _

end Go.Proofs.YtofinpocigbbeaaGreat

/-! PanH -/
namespace Go.Proofs.YtofinpocigbbeaaGreat
open Go.RowKit
attribute [local go_sem ↓] Go.wp_at_zero Go.wp_at_succ

/-- The cells of a new surface. -/
def newP (n : Int) (pb : Nat) : Array Value := #[.int .i64 n, .pointer (some ⟨pb, 0, none⟩), .slice none 0 0, .int .i64 0, .int .i64 0, .slice none 0 0, .int .i64 0, .int .i64 0, .int .i64 0, .int .i64 0, .int .i64 0, .int .i64 0, .bool false, .slice none 0 0, .int .i64 0, .int .i64 0, .slice none 0 0, .int .i64 0, .int .i64 0, .int .i64 0, .int .i64 0, .int .i64 0, .int .i64 0, .bool false, .slice none 0 0, .bool false, .int .i64 0, .bool false, .int .i64 0, .int .i64 0, .slice none 0 0]

def upB (blk : Int → Nat) (n : Nat) (nb : Nat) : Int → Nat := fun p => if p = (n : Int) then nb else blk p

theorem upB_old {blk : Int → Nat} {n nb : Nat} {p : Int} (h : p ≠ n) : upB blk n nb p = blk p := by unfold upB; rw [if_neg h]
theorem upB_new (blk : Int → Nat) (n nb : Nat) : upB blk n nb (n : Int) = nb := by unfold upB; rw [if_pos rfl]

theorem live_lt {st : St} (hw : Wf st) {p : Int} (h : Live st p) : p ≠ st.sfs.length := by
  rcases h with rfl | ⟨i, rfl, hi⟩
  · omega
  · have := hw.lt hi
    omega

theorem mk_live {st : St} {p q : Int} : Live (mk st p) q ↔ Live st q ∨ q = st.sfs.length := by
  unfold Live
  show (q = -1 ∨ ∃ i : Nat, q = i ∧ i ∈ st.order ++ [st.sfs.length]) ↔ _
  constructor
  · rintro (h | ⟨i, rfl, hi⟩)
    · exact .inl (.inl h)
    · rw [List.mem_append, List.mem_singleton] at hi
      rcases hi with hi | rfl
      · exact .inl (.inr ⟨i, rfl, hi⟩)
      · exact .inr rfl
  · rintro ((h | ⟨i, rfl, hi⟩) | rfl)
    · exact .inl h
    · exact .inr ⟨i, rfl, List.mem_append_left _ hi⟩
    · exact .inr ⟨_, rfl, by simp⟩

/-- One surface more. -/
theorem PRaw.more {w w' : World} {S S' : Nat → Prop} {x : Nat} {st : St} (hw : Wf st) {bv : Value} {sc mp : Nat} {blk : Int → Nat} {G : Int → Nat → Value} (h : PRaw w S x st bv sc mp blk G) {p : Int} (hp : Live st p) (hS : ∀ g, S g → S' g) {nb : Nat} (hnb : w.heap.size ≤ nb) (hnS : S' nb) {v : Value}
    (hsce : w'.heap[sc]? = some (.cells #[ptrV (blk (-1)), .map (some mp), .int .i64 ((st.sfs.length : Int) + 1)] 152 (0, 0)))
    (hmap : MapOf w' mp (st.order ++ [st.sfs.length]) fun (i : Nat) => upB blk st.sfs.length nb i)
    (hnew : w'.heap[nb]? = some (.cells (newP st.sfs.length (blk p)) 174 (0, 0)))
    (hpar : SrfB w' (blk p) (upO (G p) 2 v))
    (hrow : RowS w' S' 117 1 v ((st.kids p).length + 1) (((st.kids p).map fun (i : Nat) => ptrV (blk i)) ++ [ptrV nb]))
    (hvb : v.ownBlock = (G p 2).ownBlock ∨ ∃ g, v.ownBlock = some g ∧ w.heap.size ≤ g)
    (hoth : ∀ g, g < w.heap.size → g ≠ sc → g ≠ mp → g ≠ blk p → some g ≠ (G p 2).ownBlock → w'.heap[g]? = w.heap[g]?) :
    PRaw w' S' x (Go.Proofs.YtofinpocigbbeaaGreat.mk st p) bv sc mp (upB blk st.sfs.length nb) (upG (upG G p (upO (G p) 2 v)) (st.sfs.length : Int) fun o => (newP st.sfs.length (blk p)).getD o undef) := by
  have hlt : ∀ {g : Nat} {o : Obj}, w.heap[g]? = some o → g < w.heap.size := fun {g o} hg => (Array.getElem?_eq_some_iff.1 hg).1
  obtain ⟨pc, hpc, hpcs⟩ := h.srf p hp
  have rowT : ∀ g, some g = (G p 2).ownBlock → ∃ cur, w.heap[g]? = some (.cells cur 117 (0, 0)) := fun g hg => (h.on p hp).type hg.symm
  have blt : ∀ q, Live st q → blk q < w.heap.size := fun q hq => by
    obtain ⟨c, hc, _⟩ := h.srf q hq
    exact hlt hc
  have oldb : ∀ q, Live st q → upB blk st.sfs.length nb q = blk q := fun q hq => upB_old (live_lt hw hq)
  have hnp : (st.sfs.length : Int) ≠ p := fun e => live_lt hw hp e.symm
  have G2 : ∀ q, Live st q → upG (upG G p (upO (G p) 2 v)) (st.sfs.length : Int) (fun o => (newP st.sfs.length (blk p)).getD o undef) q = if q = p then upO (G p) 2 v else G q := fun q hq => by
    unfold upG
    rw [if_neg (live_lt hw hq)]
  have Gn : upG (upG G p (upO (G p) 2 v)) (st.sfs.length : Int) (fun o => (newP st.sfs.length (blk p)).getD o undef) (st.sfs.length : Int) = fun o => (newP st.sfs.length (blk p)).getD o undef := by
    unfold upG
    rw [if_pos rfl]
  have kmap : ∀ q, ((st.kids q).map fun (i : Nat) => ptrV (upB blk st.sfs.length nb i)) = (st.kids q).map fun (i : Nat) => ptrV (blk i) := fun q => List.map_congr_left fun i hi => by rw [oldb i (live_kid hi)]
  have hold : ∀ q, Live st q → upG (upG G p (upO (G p) 2 v)) (st.sfs.length : Int) (fun o => (newP st.sfs.length (blk p)).getD o undef) q 2 = if q = p then v else G q 2 := fun q hq => by
    rw [G2 q hq]
    by_cases e : q = p
    · rw [if_pos e, if_pos e]; rfl
    · rw [if_neg e, if_neg e]
  have new2 : upG (upG G p (upO (G p) 2 v)) (st.sfs.length : Int) (fun o => (newP st.sfs.length (blk p)).getD o undef) (st.sfs.length : Int) 2 = .slice none 0 0 := by rw [Gn]; rfl
  refine ⟨?_, ?_, hmap, fun q hq => ?_, ⟨hS _ h.own.1, hS _ h.own.2.1, hS _ h.own.2.2.1, fun q hq => ?_⟩, fun q q' hq hq' e => ?_, fun q hq => ?_, fun q q' hq hq' hne g hg => ?_, fun q hq => ?_, fun j hj => ?_⟩
  · refine (hoth x (hlt h.scr) (neT h.scr h.sce (by decide)) (h.map.ne h.scr) (neT h.scr hpc (by decide)) fun e => ?_).trans h.scr
    obtain ⟨c, hc⟩ := rowT x e
    exact neT h.scr hc (by decide) rfl
  · rw [mk_len, oldb (-1) (live_top st)]
    exact hsce
  · rcases mk_live.1 hq with hq | rfl
    · rw [oldb q hq, G2 q hq]
      by_cases e : q = p
      · subst e; rw [if_pos rfl]; exact hpar
      · rw [if_neg e]
        obtain ⟨c, hc, hc2⟩ := h.srf q hq
        refine ⟨c, (hoth _ (hlt hc) (neT hc h.sce (by decide)) (h.map.ne hc) (fun e2 => e (h.inj q p hq hp e2)) fun e2 => ?_).trans hc, hc2⟩
        obtain ⟨c2, hc2⟩ := rowT _ e2
        exact neT hc hc2 (by decide) rfl
    · rw [upB_new, Gn]
      refine ⟨_, hnew, rfl, fun o ho => ?_⟩
      show _ = some ((newP st.sfs.length (blk p)).getD o undef)
      rw [Array.getD_eq_getD_getElem?, Array.getElem?_eq_getElem (show o < (newP st.sfs.length (blk p)).size from ho)]
      rfl
  · rcases mk_live.1 hq with hq | rfl
    · rw [oldb q hq]; exact hS _ (h.own.2.2.2 q hq)
    · rw [upB_new]; exact hnS
  · rcases mk_live.1 hq with hq | rfl <;> rcases mk_live.1 hq' with hq' | rfl
    · rw [oldb q hq, oldb q' hq'] at e
      exact h.inj q q' hq hq' e
    · rw [oldb q hq, upB_new] at e
      have := blt q hq
      omega
    · rw [oldb q' hq', upB_new] at e
      have := blt q' hq'
      omega
    · rfl
  · rw [mk_kids hw]
    rcases mk_live.1 hq with hq | rfl
    · rw [hold q hq]
      by_cases e : q = p
      · subst e
        rw [if_pos rfl, if_pos rfl, List.length_append, List.map_append, kmap]
        show RowS _ _ _ _ _ _ (_ ++ [ptrV (upB blk st.sfs.length nb _)])
        rw [upB_new]
        exact hrow
      · rw [if_neg e, if_neg e, List.append_nil, kmap]
        have hr := h.on q hq
        refine RowS.mono ?_ hS
        refine ⟨own_keep hr.1 fun g hg => ?_, hr.2⟩
        obtain ⟨c, hc⟩ := hr.type hg
        exact hoth g (hlt hc) (neT hc h.sce (by decide)) (h.map.ne hc) (neT hc hpc (by decide)) fun e2 => h.apart q p hq hp e g hg e2.symm
    · rw [new2]
      have hk : st.kids (st.sfs.length : Int) = [] := by
        refine List.eq_nil_iff_forall_not_mem.2 fun i hi => ?_
        obtain ⟨h1, h2⟩ := kids_mem.1 hi
        have h3 := hw.lt h1
        have h4 := hw.par i
        omega
      rw [hk, if_neg hnp]
      exact RowS.nil _ _ _ _
  · rcases mk_live.1 hq with l1 | rfl <;> rcases mk_live.1 hq' with l2 | rfl
    · rw [hold q l1] at hg
      rw [hold q' l2]
      by_cases e : q = p
      · subst e
        rw [if_pos rfl] at hg
        rw [if_neg (fun e2 => hne e2.symm)]
        rcases hvb with hvb | ⟨g2, hv1, hv2⟩
        · rw [hvb] at hg
          exact h.apart q q' l1 l2 hne g hg
        · rw [hv1] at hg
          injection hg with hg
          subst hg
          intro e3
          obtain ⟨c, hc⟩ := (h.on q' l2).type e3
          have := hlt hc
          omega
      · rw [if_neg e] at hg
        by_cases e' : q' = p
        · subst e'
          rw [if_pos rfl]
          rcases hvb with hvb | ⟨g2, hv1, hv2⟩
          · rw [hvb]
            exact h.apart q q' l1 l2 hne g hg
          · rw [hv1]
            intro e3
            injection e3 with e3
            subst e3
            obtain ⟨c, hc⟩ := (h.on q l1).type hg
            have := hlt hc
            omega
        · rw [if_neg e']
          exact h.apart q q' l1 l2 hne g hg
    · rw [new2]
      exact fun e => by cases e
    · rw [new2] at hg
      cases hg
    · exact absurd rfl hne
  · rcases mk_live.1 hq with hq | rfl
    · rw [G2 q hq]
      have hc := h.cells q hq
      have hc2 : PCells (upB blk st.sfs.length nb) st q (G q) := by
        refine ⟨hc.num, ?_, hc.now, hc.next, hc.stk, hc.kep⟩
        rw [hc.par]
        rcases hq with rfl | ⟨i, rfl, hi⟩
        · rfl
        · rw [if_neg (nat_ne_top i), if_neg (nat_ne_top i), Int.toNat_natCast, oldb _ (live_par hw hi)]
      have hc3 : PCells (upB blk st.sfs.length nb) (Go.Proofs.YtofinpocigbbeaaGreat.mk st p) q (G q) := by
        refine hc2.other rfl rfl fun hq1 => ?_
        rw [mk_sf, if_neg]
        rcases hq with rfl | ⟨i, rfl, hi⟩
        · exact absurd rfl hq1
        · rw [Int.toNat_natCast]
          have := hw.lt hi
          omega
      by_cases e : q = p
      · rw [if_pos e]
        subst e
        exact ⟨hc3.num, hc3.par, ⟨hc3.now.w, hc3.now.h, hc3.now.pix, hc3.now.x, hc3.now.y, hc3.now.c0, hc3.now.c1, hc3.now.c2, hc3.now.c3, hc3.now.cut, hc3.now.hint⟩, (by obtain ⟨l, h1, h2⟩ := hc3.next; exact ⟨l, ⟨h1.w, h1.h, h1.pix, h1.x, h1.y, h1.c0, h1.c1, h1.c2, h1.c3, h1.cut, h1.hint⟩, h2⟩), hc3.stk, hc3.kep⟩
      · rw [if_neg e]
        exact hc3
    · rw [Gn]
      refine NCells.toP ?_
      rw [mk_sf, if_pos rfl]
      refine ⟨rfl, ?_, ⟨rfl, rfl, ⟨_, _, _, rfl⟩, rfl, rfl, rfl, rfl, rfl, rfl, rfl, ⟨_, _, _, rfl⟩⟩, ⟨rfl, rfl, ⟨_, _, _, rfl⟩, rfl, rfl, rfl, rfl, rfl, rfl, rfl, ⟨_, _, _, rfl⟩⟩, ⟨_, _, _, rfl, rfl, rfl, rfl, fun e => by cases e⟩, ⟨_, _, _, _, _, rfl, rfl, rfl⟩⟩
      show _ = ptrV (upB blk st.sfs.length nb p)
      rw [oldb p hp]
      rfl
  · have hkd : KeptD w w' := fun g cur t ht e => hoth g (hlt e) (neT e h.sce (ht.ne (by unfold DataT; decide))) (h.map.ne e) (neT e hpc (ht.ne (by unfold DataT; decide))) fun e2 => by
      obtain ⟨c, hc⟩ := rowT g e2
      exact neT e hc (ht.ne (by unfold DataT; decide)) rfl
    have hj2 : j ∈ st.order ++ [st.sfs.length] := hj
    rw [List.mem_append, List.mem_singleton] at hj2
    rcases hj2 with hj2 | rfl
    · have e1 : (Go.Proofs.YtofinpocigbbeaaGreat.mk st p).sf j = st.sf j := by
        rw [mk_sf, if_neg (by have := hw.lt hj2; omega)]
      rw [G2 j (live_nat hj2), e1]
      have hd := ((h.data j hj2).kd hkd).mono hS
      by_cases e : (j : Int) = p
      · rw [if_pos e]
        subst e
        exact ⟨hd.pix, hd.hint, hd.npix, hd.nhint, hd.kw, hd.kh, hd.kept⟩
      · rw [if_neg e]
        exact hd
    · rw [Gn, mk_sf, if_pos rfl]
      exact ⟨PixV.nil _ _ rfl _, HintV.nil _ _, PixV.nil _ _ rfl _, HintV.nil _ _, rfl, rfl, BoolV.nil _ _ rfl _⟩

end Go.Proofs.YtofinpocigbbeaaGreat

/-! PanI -/
namespace Go.Proofs.YtofinpocigbbeaaGreat
open Go.RowKit
attribute [local go_sem ↓] Go.wp_at_zero Go.wp_at_succ

set_option maxRecDepth 100000 in
set_option maxHeartbeats 1000000 in
/-- (*Scene).Parent -/
theorem scParent_all {w : World} {S : Nat → Prop} {x : Nat} {st : St} (hw : Wf st) {bv : Value} {sc mp : Nat} {blk : Int → Nat} {G : Int → Nat → Value} (h : PRaw w S x st bv sc mp blk G) (id : Int) :
    Calls Tryz.prog 55 #[.pointer (some ⟨sc, 0, none⟩), .int .i64 id] w fun e w' => e = .returned (if id = -1 then .pointer (some ⟨blk (-1), 0, none⟩) else srfV st blk id) ∧ w' = w := by
  obtain ⟨k0, k1, k2, k3, k4⟩ := h.sceCells
  by_cases hid : id = -1
  · subst hid
    rw [if_pos rfl]
    clear h
    unfold ptrV at k0
    go_enter Tryz.func55, Tryz.ntmps55
    go_wp2_with fail
    go_ret
    exact ⟨rfl, rfl⟩
  · rw [if_neg hid]
    obtain ⟨v, hl, hv⟩ := h.map.lookup Tryz.underlying150 Tryz.underlying3 (ptrZero w) id
    have hsv : srfV st blk id = .pointer v := by
      unfold srfV
      rcases hv with ⟨rfl, hv⟩ | ⟨i, hi, rfl, rfl⟩
      · rw [if_neg]
        intro e
        obtain ⟨i, e1, e2⟩ := (isB_iff hw id).1 e
        exact hv i e2 e1.symm
      · rw [if_pos ((isB_iff hw _).2 ⟨i, rfl, hi⟩)]
    rw [hsv]
    clear h hv hsv
    go_enter Tryz.func55, Tryz.ntmps55
    go_wp2_with fail
    go_ret
    exact ⟨rfl, rfl⟩

set_option maxRecDepth 100000 in
set_option maxHeartbeats 1000000 in
/-- (*Scene).Full -/
theorem scFull_any {w : World} {S : Nat → Prop} {x : Nat} {st : St} (hw : Wf st) {bv : Value} {sc mp : Nat} {blk : Int → Nat} {G : Int → Nat → Value} (h : PRaw w S x st bv sc mp blk G) :
    Calls Tryz.prog 56 #[.pointer (some ⟨sc, 0, none⟩)] w fun e w' => e = .returned (.bool (!decide (st.order.length < 12 ∧ st.sfs.length < 60))) ∧ w' = w := by
  obtain ⟨k0, k1, k2, k3, k4⟩ := h.sceCells
  have hl := h.map.len (P := Tryz.prog) (ty := 3) Tryz.underlying150
  have hlen := hw.len
  have hmade := hw.made
  obtain ⟨n, hn⟩ : ∃ n, st.order.length = n := ⟨_, rfl⟩
  obtain ⟨m, hm⟩ : ∃ m, st.sfs.length = m := ⟨_, rfl⟩
  rw [hn] at hl hlen ⊢
  rw [hm] at k2 hmade ⊢
  clear h hn hm
  by_cases h1 : n < 12
  · have h1' : ¬ (12 : Int) ≤ (n : Int) := by omega
    by_cases h2 : m < 60
    · have h2' : ¬ (60 : Int) ≤ (m : Int) := by omega
      rw [decide_eq_true ⟨h1, h2⟩]
      go_enter Tryz.func56, Tryz.ntmps56
      go_wp2_with fail
      go_ret
      exact ⟨rfl, rfl⟩
    · have h2' : (60 : Int) ≤ (m : Int) := by omega
      rw [decide_eq_false fun h => h2 h.2]
      go_enter Tryz.func56, Tryz.ntmps56
      go_wp2_with fail
      go_ret
      exact ⟨rfl, rfl⟩
  · have h1' : (12 : Int) ≤ (n : Int) := by omega
    rw [decide_eq_false fun h => h1 h.1]
    go_enter Tryz.func56, Tryz.ntmps56
    go_wp2_with fail
    go_ret
    exact ⟨rfl, rfl⟩

end Go.Proofs.YtofinpocigbbeaaGreat

/-! PanJ -/
namespace Go.Proofs.YtofinpocigbbeaaGreat
open Go.RowKit
attribute [local go_sem ↓] Go.wp_at_zero Go.wp_at_succ

theorem grownBy_cell {w w' : World} {u : Option Nat} (h : w.grownBy w' u) {g j : Nat} {q : Value} (hc : w.cell? ⟨g, j, none⟩ = some q) (hne : some g ≠ u) : w'.cell? ⟨g, j, none⟩ = some q := h.cell hc hne

theorem grownBy_frozen {w w' : World} {u : Option Nat} (h : w.grownBy w' u) {g j : Nat} (hl : g < w.heap.size) (hc : w.frozen? ⟨g, j, none⟩ = false) (hne : some g ≠ u) : w'.frozen? ⟨g, j, none⟩ = false := (World.frozen?_of_block (h.block g hl hne)).trans hc

/-- What a call on the program's screen leaves that hands a number back. -/
def PMPost (S : Nat → Prop) (x : Nat) (bv : Value) (p : Int × Int × St) (w : World) (e : Ending) (w' : World) : Prop := e = .returned (.tuple #[.int .i64 p.1, .int .i64 p.2.1]) ∧ PaneOk w' (grow S w w') x p.2.2 bv ∧ Only S w w'

set_option maxRecDepth 100000 in
set_option maxHeartbeats 1000000 in
/-- (*Scene).Make -/
theorem scMake_any {w : World} {S : Nat → Prop} {x : Nat} {st : St} (hw : Wf st) {bv : Value} {sc mp : Nat} {blk : Int → Nat} {G : Int → Nat → Value} (h : PRaw w S x st bv sc mp blk G) (p : Int) (hp : Live st p) (hmade : st.sfs.length < 60) :
    Calls Tryz.prog 57 #[.pointer (some ⟨sc, 0, none⟩), .pointer (some ⟨blk p, 0, none⟩)] w fun e w' => e = .returned (.int .i64 (st.sfs.length : Int)) ∧ PaneOk w' (grow S w w') x (mk st p) bv ∧ Only S w w' := by
  obtain ⟨i0, hi0, hz0, hz1, hz2⟩ := info_parts ptrInfo
  obtain ⟨k0, k1, k2, k3, k4⟩ := h.sceCells
  obtain ⟨pc, pf, pl⟩ := h.at hp
  have p2 := pc 2 (by omega)
  have hrow := h.on p hp
  obtain ⟨oa, oc, ho⟩ := hrow.form
  have hkl : (st.kids p).length ≤ 12 := Nat.le_trans (List.length_filter_le _ _) hw.len
  have f2 := k4 2
  have hscn : ¬ sc = w.heap.size := by omega
  have hpn : ¬ blk p = w.heap.size := by omega
  obtain ⟨pcur, hpcur, _⟩ := h.srf p hp
  have hmpl := h.map.lt
  have hmpn : mp ≠ w.heap.size := by omega
  have hscp : sc ≠ blk p := neT h.sce hpcur (by decide)
  have hpmp : blk p ≠ mp := h.map.ne hpcur
  have hscmp : sc ≠ mp := h.map.ne h.sce
  -- the world ahead of the map
  obtain ⟨A, hA⟩ : ∃ A, A = (w.setCell ⟨sc, 2, none⟩ (.int .i64 ((st.sfs.length : Int) + 1))).alloc (.cells (newP st.sfs.length (blk p)) 174) := ⟨_, rfl⟩
  have hAs : A.heap.size = w.heap.size + 1 := by rw [hA]; simp
  have hAo : ∀ g, g < w.heap.size → g ≠ sc → A.heap[g]? = w.heap[g]? := fun g hg hne => by
    rw [hA, heap_old _ _ g (by simpa using hg), heap_setCell_other w ⟨sc, 2, none⟩ g _ hne]
  have hAn : A.heap[w.heap.size]? = some (.cells (newP st.sfs.length (blk p)) 174 (0, 0)) := by
    rw [hA]
    have := heap_alloc_new (w.setCell ⟨sc, 2, none⟩ (.int .i64 ((st.sfs.length : Int) + 1))) (.cells (newP st.sfs.length (blk p)) 174)
    simpa using this
  have hAsc : A.heap[sc]? = some (.cells #[ptrV (blk (-1)), .map (some mp), .int .i64 ((st.sfs.length : Int) + 1)] 152 (0, 0)) := by
    rw [hA, heap_old _ _ sc (by simpa using k3), heap_setCell_same w sc 2 _ _ _ h.sce]
    rfl
  have hOA : Only S w A := by
    rw [hA]
    exact ((Only.refl S w).set (.inl h.own.2.1) _).alloc _
  have HM : Hid (MapOf A.drew mp st.order fun (i : Nat) => upB blk st.sfs.length w.heap.size i) := by
    refine MapOf.congr (h.map.keep (hAo mp hmpl (fun e => hscmp e.symm))) (List.Perm.refl _) fun i hi => ?_
    have := hw.lt hi
    exact upB_old (by omega)
  have HNo : Hid (st.sfs.length ∉ st.order) := fun hi => by have := hw.lt hi; omega
  have HU : Hid (upB blk st.sfs.length w.heap.size ((st.sfs.length : Nat) : Int) = w.heap.size) := upB_new _ _ _
  -- behind the map
  have HF2 : Hid (∀ w2 : World, A.drew.grownBy w2 (some mp) → w2.heap.size = A.drew.heap.size → w2.cell? ⟨blk p, 2, none⟩ = some (.slice oa (st.kids p).length oc) ∧ w2.frozen? ⟨blk p, 2, none⟩ = false ∧ w2.cell? ⟨w.heap.size, 0, none⟩ = some (.int .i64 (st.sfs.length : Int)) ∧ w2.heap.size = w.heap.size + 1 ∧ w2.ownsRow 0 117 1 (.slice oa (st.kids p).length oc) (st.kids p).length ((st.kids p).map fun (i : Nat) => ptrV (blk i))) := fun w2 g2 s2 => by
    refine ⟨grownBy_cell g2 ?_ (fun e => hpmp (by injection e)), grownBy_frozen g2 (show blk p < A.heap.size by omega) ?_ (fun e => hpmp (by injection e)), grownBy_cell g2 ?_ (fun e => hmpn (by injection e with e; exact e.symm)), ?_, ?_⟩
    · show A.cell? _ = _
      rw [World.cell?_of_block (w := w) (a := ⟨blk p, 2, none⟩) (hAo _ pl (fun e => hscp e.symm)), p2, ho]
    · show A.frozen? _ = _
      rw [World.frozen?_of_block (w := w) (a := ⟨blk p, 2, none⟩) (hAo _ pl (fun e => hscp e.symm))]
      exact pf 2
    · show A.cell? _ = _
      rw [cell_of_row A _ _ _ _ _ hAn]
      rfl
    · rw [s2]; exact hAs
    · have hr := hrow.1
      rw [ho] at hr
      refine own_keep hr fun g hg => ?_
      obtain ⟨c, hc⟩ := own_type hr hg
      have hgl := (Array.getElem?_eq_some_iff.1 hc).1
      rw [g2.block g (show g < A.heap.size by omega) (fun e => h.map.ne hc (by injection e))]
      exact hAo g hgl (neT hc h.sce (by decide))
  have HEnd : Hid (∀ (w2 w4 : World) (v : Value), MapOf w2 mp (st.order ++ [st.sfs.length]) (fun (i : Nat) => upB blk st.sfs.length w.heap.size i) → A.drew.grownBy w2 (some mp) → w2.heap.size = w.heap.size + 1 → w4.ownsRow 0 117 1 v ((st.kids p).length + 1) (((st.kids p).map fun (i : Nat) => ptrV (blk i)) ++ [ptrV w.heap.size]) → (w2.alloc (.cells #[.pointer (some ⟨w.heap.size, 0, none⟩)] 117)).grownBy w4 (Value.slice oa (st.kids p).length oc).ownBlock → (v.ownBlock = (Value.slice oa (st.kids p).length oc).ownBlock ∨ v.ownBlock = some (w.heap.size + 1 + 1)) →
      w4.cell? ⟨blk p, 2, none⟩ = some (.slice oa (st.kids p).length oc) ∧ w4.frozen? ⟨blk p, 2, none⟩ = false ∧ w4.cell? ⟨w.heap.size, 0, none⟩ = some (.int .i64 (st.sfs.length : Int)) ∧ PaneOk (w4.setCell ⟨blk p, 2, none⟩ v) (grow S w (w4.setCell ⟨blk p, 2, none⟩ v)) x (mk st p) bv ∧ Only S w (w4.setCell ⟨blk p, 2, none⟩ v)) := fun w2 w4 v m2 g2 s2 r4 g4 hv => by
    have hob : ∀ g, (Value.slice oa (st.kids p).length oc).ownBlock = some g → ∃ c, w.heap[g]? = some (.cells c 117 (0, 0)) := fun g hg => by
      rw [← ho] at hg
      exact hrow.type hg
    have hobn : ∀ {g : Nat} {c : Array Value} {t : TypeId}, w.heap[g]? = some (.cells c t (0, 0)) → t ≠ 117 → some g ≠ (Value.slice oa (st.kids p).length oc).ownBlock := fun {g c t} hg ht e => by
      obtain ⟨c2, hc2⟩ := hob g e.symm
      exact neT hg hc2 ht rfl
    have h43 : ∀ g, g < w.heap.size + 1 → some g ≠ (Value.slice oa (st.kids p).length oc).ownBlock → w4.heap[g]? = w2.heap[g]? := fun g hg hne => by
      rw [g4.block g (by simp; omega) hne, heap_old _ _ g (by omega)]
    have h42 : ∀ g, g < w.heap.size → g ≠ sc → g ≠ mp → some g ≠ (Value.slice oa (st.kids p).length oc).ownBlock → w4.heap[g]? = w.heap[g]? := fun g hg h1 h2 hne => by
      rw [h43 g (by omega) hne, g2.block g (show g < A.heap.size by omega) (fun e => h2 (by injection e))]
      exact hAo g hg h1
    have hnn : some w.heap.size ≠ (Value.slice oa (st.kids p).length oc).ownBlock := fun e => by
      obtain ⟨c, hc⟩ := hob _ e.symm
      have := (Array.getElem?_eq_some_iff.1 hc).1
      omega
    have h4n : w4.heap[w.heap.size]? = some (.cells (newP st.sfs.length (blk p)) 174 (0, 0)) := by
      rw [h43 _ (by omega) hnn, g2.block _ (show w.heap.size < A.heap.size by omega) (fun e => hmpn (by injection e with e; exact e.symm))]
      exact hAn
    have h4p := h42 (blk p) pl (fun e => hscp e.symm) hpmp (hobn hpcur (by decide))
    have h4c : w4.cell? ⟨blk p, 2, none⟩ = some (.slice oa (st.kids p).length oc) := by
      rw [World.cell?_of_block (w := w) (a := ⟨blk p, 2, none⟩) h4p, p2, ho]
    have hmpo : some mp ≠ (Value.slice oa (st.kids p).length oc).ownBlock := fun e => by
      obtain ⟨c, hc⟩ := hob _ e.symm
      exact h.map.ne hc rfl
    have hsco := hobn h.sce (by decide)
    have h4s : w.heap.size + 1 + 1 ≤ w4.heap.size := by
      have := g4.size
      simp at this
      omega
    have hO4 : Only S w w4 := by
      have o2 : Only S w w2 := hOA.drew.grown g2 fun g e => .inl (by injection e with e; rw [← e]; exact h.own.2.2.1)
      refine (o2.alloc _).grown g4 fun g e => .inl ?_
      rw [← ho] at e
      exact hrow.2 g e
    have hO5 : Only S w (w4.setCell ⟨blk p, 2, none⟩ v) := hO4.set (.inl (h.own.2.2.2 p hp)) v
    have hpcs : SrfB w (blk p) (G p) := h.srf p hp
    have h5o : ∀ g, g ≠ blk p → (w4.setCell ⟨blk p, 2, none⟩ v).heap[g]? = w4.heap[g]? := fun g hne => heap_setCell_other w4 ⟨blk p, 2, none⟩ g v hne
    have hS5 : grow S w (w4.setCell ⟨blk p, 2, none⟩ v) w.heap.size := .inr ⟨Nat.le_refl _, by simp; omega⟩
    refine ⟨h4c, by rw [World.frozen?_of_block (w := w) (a := ⟨blk p, 2, none⟩) h4p]; exact pf 2, by rw [cell_of_row w4 _ _ _ _ _ h4n]; rfl, ⟨sc, mp, _, _, h.more hw hp (fun _ hg => grow_self hg) (Nat.le_refl _) hS5 (v := v) ?_ ?_ ?_ ?_ ?_ ?_ ?_⟩, hO5⟩
    · rw [h5o sc hscp, h43 sc (by omega) hsco, g2.block sc (show sc < A.heap.size by omega) (fun e => hscmp (by injection e))]
      exact hAsc
    · refine m2.keep ?_
      rw [h5o mp (fun e => hpmp e.symm), h43 mp (by omega) hmpo]
    · rw [h5o _ (fun e => hpn e.symm)]
      exact h4n
    · exact (hpcs.keep h4p).set 2 v
    · refine ⟨own_keep r4 fun g hg => h5o g ?_, fun g hg => ?_⟩
      · rintro rfl
        rcases hv with hv | hv
        · rw [hv] at hg
          exact hobn hpcur (by decide) hg.symm
        · rw [hv] at hg
          injection hg with hg
          omega
      · rcases hv with hv | hv
        · rw [hv, ← ho] at hg
          exact .inl (hrow.2 g hg)
        · rw [hv] at hg
          injection hg with hg
          subst hg
          refine .inr ⟨by omega, ?_⟩
          obtain ⟨c, hc⟩ := own_type r4 (k := w.heap.size + 1 + 1) hv
          have := (Array.getElem?_eq_some_iff.1 hc).1
          simpa using this
    · rcases hv with hv | hv
      · exact .inl (by rw [hv, ho])
      · exact .inr ⟨_, hv, by omega⟩
    · intro g hg h1 h2 h3 h4
      rw [h5o g h3]
      exact h42 g hg h1 h2 (by rw [← ho]; exact h4)
  have HA := hide hA
  have a1 : A.cell? ⟨sc, 1, none⟩ = some (.map (some mp)) := by rw [cell_of_row A _ _ _ _ _ hAsc]; rfl
  have a2 : A.cell? ⟨w.heap.size, 0, none⟩ = some (.int .i64 (st.sfs.length : Int)) := by rw [cell_of_row A _ _ _ _ _ hAn]; rfl
  have HA1 := hide (And.intro a1 a2)
  clear a1 a2
  have hmade2 : (st.sfs.length : Int) < 60 := by omega
  clear hrow h pc pf hw hAo hAn hAsc hOA hA
  obtain ⟨n, hn⟩ : ∃ n, st.sfs.length = n := ⟨_, rfl⟩
  obtain ⟨kn, hkn⟩ : ∃ kn, (st.kids p).length = kn := ⟨_, rfl⟩
  obtain ⟨ks, hks⟩ : ∃ ks, ((st.kids p).map fun (i : Nat) => ptrV (blk i)) = ks := ⟨_, rfl⟩
  rw [hn] at hmade2 HM HNo HU HF2 HEnd HA HA1 k2 ⊢
  rw [hkn] at HF2 HEnd ho hkl
  rw [hks] at HF2 HEnd
  unfold newP at HA
  obtain ⟨pb, hpb⟩ : ∃ pb, blk p = pb := ⟨_, rfl⟩
  rw [hpb] at HA HF2 HEnd p2 hpn hscp hpmp pl ⊢
  clear hpb
  go_enter Tryz.func57, Tryz.ntmps57
  go_wp2_with fail
  rw [← HA.out]
  obtain ⟨a1, a2⟩ := HA1.out
  obtain ⟨w2, hrun, m2, g2, s2⟩ := HM.out.store (P := Tryz.prog) Tryz.underlying150 Tryz.underlying3 HNo.out w.heap.size HU.out
  go_region
  obtain ⟨q1, q2, q3, q4, q5⟩ := HF2.out w2 g2 s2
  have H2 := hide (And.intro m2 (And.intro g2 q4))
  have HQ5 := hide q5
  have hw2n : ¬ w.heap.size = w2.heap.size := by omega
  have hpbn : ¬ pb = w2.heap.size := by omega
  clear m2 g2 s2 q4 q5 HF2 hrun
  go_wp2_with (at_builtin; refine wpList_append_row (P := Tryz.prog) rfl (.tmp 33) (.tmp 35) 170 rfl 0 117 i0 _ 1 8 Tryz.underlying170 hi0 hz0 hz1 hz2 rfl (by decide) (.slice oa kn oc) kn ks rfl (HQ5.out.alloc _) (.slice (some ⟨w2.heap.size, 0, none⟩) 1 1) 1 [ptrV w.heap.size] rfl rfl (.inr ⟨_, _, rfl, cell_one_new _ _ _⟩) (by simp [Value.oneCell', ptrV]) (by unfold maxLen; omega) (by omega) (by simp) ?_; intro v w4 r4 g4 z4 hv; obtain ⟨va, vc, rfl⟩ := row_form r4; rw [show (w2.alloc (.cells #[.pointer (some ⟨w.heap.size, 0, none⟩)] 117)).heap.size = w.heap.size + 1 + 1 by simp; exact H2.out.2.2] at hv; obtain ⟨e1, e2, e3, e4, e5⟩ := HEnd.out w2 w4 _ H2.out.1 H2.out.2.1 H2.out.2.2 r4 g4 hv; have HR := hide (And.intro e4 e5); clear e4 e5 r4 g4 z4 hv)
  go_ret
  exact ⟨rfl, HR.out.1, HR.out.2⟩

set_option maxRecDepth 100000 in
set_option maxHeartbeats 1000000 in
/-- (*Screen).Make -/
theorem paMake_any {S : Nat → Prop} {x : Nat} {st : St} (hw : Wf st) (p : Int) (w : World) {bv : Value} (h : PaneOk w S x st bv) :
    Calls Tryz.prog 27 #[.pointer (some ⟨x, 0, none⟩), .int .i64 p] w (PMPost S x bv (opMake st p) w) := by
  have HE : Hid (∀ er : Int, PMPost S x bv (0, er, st) w (.returned (.tuple #[.int .i64 0, .int .i64 er])) w) := fun er => ⟨rfl, h.mono fun _ hg => grow_self hg, Only.refl _ _⟩
  obtain ⟨sc, mp, blk, G, h⟩ := h
  obtain ⟨x0, x1, xl⟩ := h.scrCells
  have HP := hide (scParent_all hw h p)
  have HF := hide (scFull_any hw h)
  have HM := hide (scMake_any hw h p)
  unfold opMake
  by_cases hp : p = -1 ∨ st.isB p = true
  · rw [if_pos hp]
    have hl : Live st p := by
      rcases hp with hp | hp
      · exact .inl hp
      · exact .inr ((isB_iff hw p).1 hp)
    have hv : (if p = -1 then Value.pointer (some ⟨blk (-1), 0, none⟩) else srfV st blk p) = .pointer (some ⟨blk p, 0, none⟩) := by
      by_cases e : p = -1
      · rw [if_pos e, e]
      · rw [if_neg e]
        unfold srfV
        rw [if_pos (hp.resolve_left e)]
    rw [hv] at HP
    by_cases hc : st.order.length < 12 ∧ st.sfs.length < 60
    · rw [if_pos hc]
      rw [decide_eq_true hc] at HF
      have HM2 := hide (HM.out hl hc.2)
      clear h hp hv HM hl hc
      go_enter Tryz.func27, Tryz.ntmps27
      go_wp2_with (first
        | (go_at_call 55; refine HP.out.mono ?_; rintro e w' ⟨rfl, hw'⟩; replace hw' := hw'.symm; subst hw')
        | (go_at_call 56; refine HF.out.mono ?_; rintro e w' ⟨rfl, hw'⟩; replace hw' := hw'.symm; subst hw')
        | (go_at_call 57; refine HM2.out.mono ?_; rintro e w' ⟨rfl, r1, r2⟩; have HR := hide (And.intro r1 r2); clear r1 r2))
      go_ret2
      exact ⟨rfl, HR.out.1, HR.out.2⟩
    · rw [if_neg hc]
      rw [decide_eq_false hc] at HF
      clear h hp hv HM hl hc
      go_enter Tryz.func27, Tryz.ntmps27
      go_wp2_with (first
        | (go_at_call 55; refine HP.out.mono ?_; rintro e w' ⟨rfl, hw'⟩; replace hw' := hw'.symm; subst hw')
        | (go_at_call 56; refine HF.out.mono ?_; rintro e w' ⟨rfl, hw'⟩; replace hw' := hw'.symm; subst hw'))
      go_ret2
      exact HE.out 9
  · rw [if_neg hp]
    have hv : (if p = -1 then Value.pointer (some ⟨blk (-1), 0, none⟩) else srfV st blk p) = .pointer none := by
      rw [if_neg (fun e => hp (.inl e))]
      unfold srfV
      rw [if_neg (fun e => hp (.inr e))]
    rw [hv] at HP
    clear h hp hv HM HF
    go_enter Tryz.func27, Tryz.ntmps27
    go_wp2_with (go_at_call 55; refine HP.out.mono ?_; rintro e w' ⟨rfl, hw'⟩; replace hw' := hw'.symm; subst hw')
    go_ret2
    exact HE.out 6

end Go.Proofs.YtofinpocigbbeaaGreat

/-! PanK -/
namespace Go.Proofs.YtofinpocigbbeaaGreat
open Go.RowKit
attribute [local go_sem ↓] Go.wp_at_zero Go.wp_at_succ

/-- Less some numbers. -/
def rmF (L D : List Nat) : List Nat := L.filter fun a => !D.contains a

theorem rmF_nil (L : List Nat) : rmF L [] = L := by unfold rmF; simp
theorem rmF_app (L D E : List Nat) : rmF (rmF L D) E = rmF L (D ++ E) := by
  unfold rmF
  rw [List.filter_filter]
  refine List.filter_congr fun a _ => ?_
  simp only [List.contains_append, Bool.not_or]
  exact Bool.and_comm _ _

theorem rmF_one {L : List Nat} (h : L.Nodup) (a : Nat) : L.erase a = rmF L [a] := by
  rw [h.erase_eq_filter]
  unfold rmF
  refine List.filter_congr fun b _ => ?_
  rw [Bool.eq_iff_iff]
  simp

theorem rmF_mem {L D : List Nat} {a : Nat} : a ∈ rmF L D ↔ a ∈ L ∧ a ∉ D := by
  unfold rmF
  rw [List.mem_filter]
  simp

/-- What forget reads of a surface. -/
structure FT (w : World) (st : St) (blk : Int → Nat) (mp : Nat) (j : Nat) : Prop where
  num : w.cell? ⟨blk j, 0, none⟩ = some (.int .i64 (j : Int))
  lt : blk j < w.heap.size
  ne : blk j ≠ mp
  on : ∃ a c, w.cell? ⟨blk j, 2, none⟩ = some (.slice a (st.kids j).length c) ∧ ∀ k (h : k < (st.kids j).length), ∃ g, a = some ⟨g, 0, none⟩ ∧ g < w.heap.size ∧ g ≠ mp ∧ w.cell? ⟨g, k, none⟩ = some (.pointer (some ⟨blk ((st.kids j)[k] : Nat), 0, none⟩))

theorem FT.grown {w w' : World} {st : St} {blk : Int → Nat} {mp j : Nat} (h : FT w st blk mp j) (hg : w.grownBy w' (some mp)) : FT w' st blk mp j := by
  obtain ⟨a, c, h1, h2⟩ := h.on
  refine ⟨grownBy_cell hg h.num fun e => h.ne (by injection e), Nat.lt_of_lt_of_le h.lt hg.size, h.ne, a, c, grownBy_cell hg h1 fun e => h.ne (by injection e), fun k hk => ?_⟩
  obtain ⟨g, e1, e2, e3, e4⟩ := h2 k hk
  exact ⟨g, e1, Nat.lt_of_lt_of_le e2 hg.size, e3, grownBy_cell hg e4 fun e => e3 (by injection e)⟩

/-- All kids up to the k-th, each with all that is on it. -/
def St.kupto (st : St) (i : Nat) (k : Nat) : List Nat := ((st.kids i).take k).flatMap fun j => j :: st.dfs j

theorem kupto_zero (st : St) (i : Nat) : st.kupto i 0 = [] := rfl
theorem kupto_succ (st : St) (i k : Nat) (h : k < (st.kids i).length) : st.kupto i (k + 1) = st.kupto i k ++ ((st.kids i)[k] :: st.dfs (st.kids i)[k]) := by
  unfold St.kupto
  rw [List.take_succ_eq_append_getElem h, List.flatMap_append]
  simp
theorem kupto_all {st : St} (hw : Wf st) (i k : Nat) (h : (st.kids i).length ≤ k) : st.kupto i k = st.dfs i := by
  unfold St.kupto
  rw [List.take_of_length_le h, dfs_step hw i (by omega)]

theorem kids_len {st : St} (hw : Wf st) (p : Int) : (st.kids p).length ≤ 12 := Nat.le_trans (List.length_filter_le _ _) hw.len

theorem sub_nodup {st : St} (hw : Wf st) (i : Nat) : (i :: st.dfs i).Nodup := by
  rw [List.nodup_cons]
  exact ⟨fun h => ((dfs_mem hw st.sfs.length i (by omega) i).1 h).2.1 rfl, dfs_nodup hw st.sfs.length i (by omega)⟩

/-- A kid's part is not among the earlier ones. -/
theorem kupto_apart {st : St} (hw : Wf st) (i k : Nat) (h : k < (st.kids i).length) {m : Nat} (hm : m ∈ (st.kids i)[k] :: st.dfs (st.kids i)[k]) : m ∉ i :: st.kupto i k := by
  have hn := sub_nodup hw i
  rw [dfs_step hw i (by omega)] at hn
  have e : (st.kids i).flatMap (fun j => j :: st.dfs j) = st.kupto i (k + 1) ++ ((st.kids i).drop (k + 1)).flatMap fun j => j :: st.dfs j := by
    unfold St.kupto
    rw [← List.flatMap_append, List.take_append_drop]
  rw [e, kupto_succ st i k h, ← List.cons_append, ← List.cons_append, List.nodup_append, List.nodup_append] at hn
  intro h2
  exact hn.1.2.2 m h2 m hm rfl

theorem kid_sub {st : St} (hw : Wf st) (i k : Nat) (h : k < (st.kids i).length) {m : Nat} (hm : m ∈ (st.kids i)[k] :: st.dfs (st.kids i)[k]) : m ∈ i :: st.dfs i := by
  rw [dfs_step hw i (by omega)]
  exact List.mem_cons_of_mem _ (List.mem_flatMap.2 ⟨_, List.getElem_mem h, hm⟩)

set_option maxRecDepth 100000 in
set_option maxHeartbeats 1000000 in
/-- (*Scene).forget -/
theorem forget_any {st : St} (hw : Wf st) {blk : Int → Nat} {sc mp : Nat} (hscm : sc ≠ mp) : ∀ (n : Nat) (i : Nat) (L : List Nat) (w : World), i ∈ st.order → st.need i ≤ n → L.Nodup → (∀ j ∈ i :: st.dfs i, FT w st blk mp j ∧ j ∈ L) → MapOf w mp L (fun (j : Nat) => blk j) → w.cell? ⟨sc, 1, none⟩ = some (.map (some mp)) →
    Calls Tryz.prog 113 #[.pointer (some ⟨sc, 0, none⟩), .pointer (some ⟨blk i, 0, none⟩)] w fun e w' => e = .returned (.tuple #[]) ∧ MapOf w' mp (rmF L (i :: st.dfs i)) (fun (j : Nat) => blk j) ∧ w.grownBy w' (some mp) ∧ w'.heap.size = w.heap.size := by
  intro n
  induction n with
  | zero => intro i L w _ h; unfold St.need at h; omega
  | succ n ih =>
    intro i L w hio hneed hnd hFT hm hsc
    have hi := (hFT i (by simp)).1
    obtain ⟨oa, oc, ho1, ho2⟩ := hi.on
    have hnum := hi.num
    obtain ⟨m, hmk⟩ : ∃ m, (st.kids i).length = m := ⟨_, rfl⟩
    have hm12 : m ≤ 12 := by rw [← hmk]; exact kids_len hw i
    obtain ⟨w1, hrun, m1, g1, s1⟩ := (hm.keep (w' := w.drew) rfl).delete (P := Tryz.prog) (ty := 0) Tryz.underlying150 Tryz.underlying3 (hFT i (by simp)).2
    rw [rmF_one hnd] at m1
    have ho3 : w1.cell? ⟨blk i, 2, none⟩ = some (.slice oa (st.kids i).length oc) := grownBy_cell g1 ho1 fun e => hi.ne (by injection e)
    rw [hmk] at ho3
    have HL : Hid (∀ (k : Nat) (W : World), MapOf W mp (rmF L (i :: st.kupto i k)) (fun (j : Nat) => blk j) → w1.grownBy W (some mp) → W.heap.size = w.heap.size → k < m → ∃ (g : Nat) (j : Nat), oa = some ⟨g, 0, none⟩ ∧ W.cell? ⟨g, k, none⟩ = some (.pointer (some ⟨blk j, 0, none⟩)) ∧
        Calls Tryz.prog 113 #[.pointer (some ⟨sc, 0, none⟩), .pointer (some ⟨blk j, 0, none⟩)] W fun e w' => e = .returned (.tuple #[]) ∧ MapOf w' mp (rmF L (i :: st.kupto i (k + 1))) (fun (j : Nat) => blk j) ∧ w1.grownBy w' (some mp) ∧ w'.heap.size = w.heap.size) := fun k W mW gW sW hkm => by
      have hkl : k < (st.kids i).length := by omega
      obtain ⟨g, e1, e2, e3, e4⟩ := ho2 k hkl
      obtain ⟨q1, q2⟩ := kids_mem.1 (List.getElem_mem hkl)
      have gw : w.grownBy W (some mp) := ⟨gW.os.trans g1.os, gW.tape.trans g1.tape, gW.output.trans g1.output, by omega, fun b hb hne => by rw [gW.block b (Nat.lt_of_lt_of_le hb g1.size) hne, g1.block b hb hne]; rfl⟩
      refine ⟨g, (st.kids i)[k], e1, grownBy_cell gw e4 fun e => e3 (by injection e), ?_⟩
      refine (ih (st.kids i)[k] (rmF L (i :: st.kupto i k)) W q1 (by have := need_kid hw (by omega) q1 q2; omega) (hnd.filter _) (fun j hj => ?_) mW (grownBy_cell gw hsc fun e => hscm (by injection e))).mono ?_
      · have := hFT j (kid_sub hw i k hkl hj)
        exact ⟨this.1.grown gw, rmF_mem.2 ⟨this.2, kupto_apart hw i k hkl hj⟩⟩
      · rintro e w' ⟨rfl, r1, r2, r3⟩
        rw [rmF_app, List.cons_append, ← kupto_succ st i k hkl] at r1
        exact ⟨rfl, r1, ⟨r2.os.trans gW.os, r2.tape.trans gW.tape, r2.output.trans gW.output, Nat.le_trans gW.size r2.size, fun b hb hne => by rw [r2.block b (Nat.lt_of_lt_of_le hb gW.size) hne, gW.block b hb hne]⟩, by omega⟩
    have HEnd : Hid (∀ (W : World), MapOf W mp (rmF L (i :: st.kupto i m)) (fun (j : Nat) => blk j) → w1.grownBy W (some mp) → W.heap.size = w.heap.size → MapOf W mp (rmF L (i :: st.dfs i)) (fun (j : Nat) => blk j) ∧ w.grownBy W (some mp)) := fun W mW gW sW => by
      rw [kupto_all hw i m (by omega)] at mW
      exact ⟨mW, ⟨gW.os.trans g1.os, gW.tape.trans g1.tape, gW.output.trans g1.output, by omega, fun b hb hne => by rw [gW.block b (Nat.lt_of_lt_of_le hb g1.size) hne, g1.block b hb hne]; rfl⟩⟩
    have HI1 : Hid (MapOf w1 mp (rmF L (i :: st.kupto i 0)) (fun (j : Nat) => blk j) ∧ w1.grownBy w1 (some mp) ∧ w1.heap.size = w.heap.size) := ⟨m1, ⟨rfl, rfl, rfl, Nat.le_refl _, fun _ _ _ => rfl⟩, s1⟩
    clear ih hFT hm ho2 hi m1 g1 s1 ho1
    obtain ⟨ib, hib⟩ : ∃ ib, blk i = ib := ⟨_, rfl⟩
    rw [hib] at hnum ho3 ⊢
    go_enter Tryz.func113, Tryz.ntmps113
    go_wp2_with fail
    go_region
    go_wp2_with fail
    clear hsc hnum ho3 hrun
    go_loopg [19] m (fun gg s19 wr => ∃ k : Nat, s19 = .int .i64 (k : Int) ∧ gg + k = m ∧ Hid (MapOf wr mp (rmF L (i :: st.kupto i k)) (fun (j : Nat) => blk j) ∧ w1.grownBy wr (some mp) ∧ wr.heap.size = w.heap.size))
    case atStart => exact ⟨0, rfl, by omega, HI1.out⟩
    case round =>
      obtain ⟨k, rfl, hgk, HR⟩ := hrel
      cases gk with
      | zero =>
        have hlt : ¬ (k : Int) < (m : Int) := by omega
        have hkm : k = m := by omega
        subst hkm
        go_wp2_with fail
        exact bodyPost_end (v := .tuple #[]) (by simp [results, Tryz.results113]) rfl ⟨rfl, (HEnd.out _ HR.out.1 HR.out.2.1 HR.out.2.2).1, (HEnd.out _ HR.out.1 HR.out.2.1 HR.out.2.2).2, HR.out.2.2⟩
      | succ gg =>
        have hlt : (k : Int) < (m : Int) := by omega
        obtain ⟨g, j, rfl, hc, hcall⟩ := HL.out k _ HR.out.1 HR.out.2.1 HR.out.2.2 (by omega)
        have HC := hide hcall
        have hkm : k < m := by omega
        clear hcall
        go_wp2_with (go_at_call 113; refine HC.out.mono ?_; rintro e w' ⟨rfl, r1⟩; have HR1 := hide r1; clear r1)
        go_roundg gg
        case measure => omega
        case rel => exact ⟨k + 1, by go_num, by omega, HR1.out⟩

end Go.Proofs.YtofinpocigbbeaaGreat

/-! PanX -/
namespace Go.Proofs.YtofinpocigbbeaaGreat
open Go.RowKit

/-- The row of what lies on a surface, as find reads it. -/
theorem PRaw.ptrs {w : World} {S : Nat → Prop} {x : Nat} {st : St} {bv : Value} {sc mp : Nat} {blk : Int → Nat} {G : Int → Nat → Value} (h : PRaw w S x st bv sc mp blk G) {p : Int} (hp : Live st p) : Ptrs w (G p 2) (st.kids p) fun (j : Nat) => blk j := by
  have hr := h.on p hp
  obtain ⟨a, c, ha⟩ := hr.form
  refine ⟨⟨a, c, ha, fun k hk => ?_⟩, fun j hj => ?_⟩
  · obtain ⟨g, cap, e1, e2, e3, e4, e5, e6⟩ := hr.open (by omega)
    rw [ha] at e1
    injection e1 with e1
    refine ⟨g, e1, e4, e5 k _ ?_⟩
    rw [List.getElem?_map, List.getElem?_eq_getElem hk]
    rfl
  · obtain ⟨kc, kf, kl⟩ := h.at (live_kid hj)
    refine ⟨?_, kl⟩
    rw [kc 0 (by omega), (h.cells j (live_kid hj)).num]

/-- The row of what lies on a surface on which something lies. -/
theorem PRaw.rowAt {w : World} {S : Nat → Prop} {x : Nat} {st : St} {bv : Value} {sc mp : Nat} {blk : Int → Nat} {G : Int → Nat → Value} (h : PRaw w S x st bv sc mp blk G) {p : Int} (hp : Live st p) (hne : st.kids p ≠ []) :
    ∃ g n cap cur, G p 2 = .slice (some ⟨g, 0, none⟩) (n + 1) cap ∧ (st.kids p).length = n + 1 ∧ w.heap[g]? = some (.cells cur 117 (0, 0)) ∧ cur.size = cap ∧ cap ≤ maxLen ∧ n + 1 ≤ cap ∧ cur.toList.take (n + 1) = ((st.kids p).map fun (j : Nat) => ptrV (blk j)) ∧ S g := by
  have hr := h.on p hp
  have hl : 0 < (st.kids p).length := List.length_pos_iff.2 hne
  obtain ⟨h1, h2⟩ := hr
  obtain ⟨h3, h4⟩ := h1
  rcases h4 with ⟨_, h4⟩ | ⟨g, cap, cur, e1, e2, e3, e4, e5, e6, e7⟩
  · omega
  · obtain ⟨n, hn⟩ : ∃ n, (st.kids p).length = n + 1 := ⟨(st.kids p).length - 1, by omega⟩
    rw [hn] at e1 e4 e7
    exact ⟨g, n, cap, cur, e1, hn, e3, by rw [e6, Nat.mul_one], e5, e4, by rw [← e7, Nat.mul_one], h2 g (by rw [e1]; rfl)⟩

theorem idx_is {L : List Nat} {i : Nat} (hi : i ∈ L) {r : Int} (h : IdxIs L (i : Int) r) : ∃ k : Nat, r = k ∧ L[k]? = some i := by
  rcases h with ⟨_, h⟩ | ⟨k, j, h1, h2, h3⟩
  · exact absurd rfl (h i hi)
  · have : j = i := by omega
    subst this
    exact ⟨k, h1, h2⟩

end Go.Proofs.YtofinpocigbbeaaGreat

/-! Otl -/
namespace Go.Proofs.YtofinpocigbbeaaGreat
open Go.RowKit
attribute [local go_sem ↓] Go.wp_at_zero Go.wp_at_succ

/-- Where a surface stands among its siblings. -/
def St.pos (st : St) (i : Nat) : Nat := (st.kids (st.sf i).parent).idxOf i

theorem idxOf_of {L : List Nat} (hn : L.Nodup) {k i : Nat} (h : L[k]? = some i) : L.idxOf i = k := by
  induction L generalizing k with
  | nil => simp at h
  | cons a L ih =>
    rw [List.nodup_cons] at hn
    cases k with
    | zero =>
      simp at h
      subst h
      simp
    | succ k =>
      have h2 : L[k]? = some i := by simpa using h
      have hne : a ≠ i := fun e => hn.1 (e ▸ List.mem_of_getElem? h2)
      rw [List.idxOf_cons, show (a == i) = false by simpa using hne, ih hn.2 h2]
      rfl

/-- The cells of an outline. -/
def olC (l : Look) (k : Int) : Array Value := #[.int .i64 l.w, .int .i64 l.h, .int .i64 l.x, .int .i64 l.y, .int .i64 l.clip.1, .int .i64 l.clip.2.1, .int .i64 l.clip.2.2.1, .int .i64 l.clip.2.2.2, .bool l.cut, .int .i64 k]

theorem to_ten (ad : Addr) (a0 a1 a2 a3 a4 a5 a6 a7 : Int) (b : Bool) (a9 : Int) : storeCells ad [.int .i64 a0, .int .i64 a1, .int .i64 a2, .int .i64 a3, .int .i64 a4, .int .i64 a5, .int .i64 a6, .int .i64 a7, .bool b, .int .i64 a9] 0 = St9 ad [.int .i64 a0, .int .i64 a1, .int .i64 a2, .int .i64 a3, .int .i64 a4, .int .i64 a5, .int .i64 a6, .int .i64 a7, .bool b, .int .i64 a9] := rfl

theorem run_ten {w : World} {g : Nat} (h : HasB w g 181 10) (a0 a1 a2 a3 a4 a5 a6 a7 : Int) (b : Bool) (a9 : Int) :
    (St9 ⟨g, 0, none⟩ [.int .i64 a0, .int .i64 a1, .int .i64 a2, .int .i64 a3, .int .i64 a4, .int .i64 a5, .int .i64 a6, .int .i64 a7, .bool b, .int .i64 a9]).run Tryz.prog w = .ok () (w.setRow g #[.int .i64 a0, .int .i64 a1, .int .i64 a2, .int .i64 a3, .int .i64 a4, .int .i64 a5, .int .i64 a6, .int .i64 a7, .bool b, .int .i64 a9]) :=
  h.row _ rfl (by simp [Value.oneCell'])

attribute [local go_sem high] to_ten run_ten

/-- What an outline's block holds. -/
theorem outl_finish {W w1 : World} (hb : Below W.heap.size W w1) (hr : HasB w1 W.heap.size 181 10) (cs : Array Value) : Blk (w1.setRow W.heap.size cs) W.heap.size 181 cs ∧ Below W.heap.size W (w1.setRow W.heap.size cs) := by
  obtain ⟨cur, h1, h2⟩ := hr
  exact ⟨setRow_heap w1 _ _ _ _ _ h1, Below.setRow hb (Nat.le_refl _) _⟩

set_option linter.unusedSimpArgs false in
set_option maxRecDepth 100000 in
set_option maxHeartbeats 4000000 in
/-- (*Surface).outline -/
theorem outline_any {w : World} {S : Nat → Prop} {x : Nat} {st : St} (hw : Wf st) {bv : Value} {sc mp : Nat} {blk : Int → Nat} {G : Int → Nat → Value} (h : PRaw w S x st bv sc mp blk G) (i : Nat) (hi : i ∈ st.order) (W : World) (hW : Below w.heap.size w W) :
    Calls Tryz.prog 105 #[.pointer (some ⟨blk i, 0, none⟩)] W fun e w' => e = .returned (.agg (olC (st.sf i).now (st.pos i))) ∧ Below W.heap.size W w' := by
  obtain ⟨p, hpe⟩ : ∃ p, (st.sf i).parent = p := ⟨_, rfl⟩
  have hp : Live st p := by rw [← hpe]; exact live_par hw hi
  have hik : i ∈ st.kids p := kids_mem.2 ⟨hi, hpe⟩
  obtain ⟨kc, kf, kl⟩ := h.at (live_nat hi)
  obtain ⟨pc, pf, pl⟩ := h.at hp
  have q := (h.cells i (live_nat hi)).nat
  obtain ⟨pa, pm, pk, hpix⟩ := q.now.pix
  obtain ⟨ha, hm, hk, hhint⟩ := q.now.hint
  have hpix2 : G i 5 = .slice pa pm pk := hpix
  have hhint2 : G i 13 = .slice ha hm hk := hhint
  obtain ⟨N, hN⟩ : ∃ N, (st.sf i).now = N := ⟨_, rfl⟩
  have qn := q.now
  rw [hN] at qn ⊢
  have hgl : blk i < W.heap.size := Nat.lt_of_lt_of_le kl hW.size
  have HC : Hid (∀ (V : World), Below W.heap.size W V → blk i < V.heap.size ∧ V.cell? ⟨blk i, 0, none⟩ = some (.int .i64 (i : Int)) ∧ V.cell? ⟨blk i, 1, none⟩ = some (.pointer (some ⟨blk p, 0, none⟩)) ∧ V.cell? ⟨blk i, 3, none⟩ = some (.int .i64 N.w) ∧ V.cell? ⟨blk i, 4, none⟩ = some (.int .i64 N.h) ∧ V.cell? ⟨blk i, 5, none⟩ = some (.slice pa pm pk) ∧ V.cell? ⟨blk i, 6, none⟩ = some (.int .i64 N.x) ∧ V.cell? ⟨blk i, 7, none⟩ = some (.int .i64 N.y) ∧ V.cell? ⟨blk i, 8, none⟩ = some (.int .i64 N.clip.1) ∧ V.cell? ⟨blk i, 9, none⟩ = some (.int .i64 N.clip.2.1) ∧ V.cell? ⟨blk i, 10, none⟩ = some (.int .i64 N.clip.2.2.1) ∧ V.cell? ⟨blk i, 11, none⟩ = some (.int .i64 N.clip.2.2.2) ∧ V.cell? ⟨blk i, 12, none⟩ = some (.bool N.cut) ∧ V.cell? ⟨blk i, 13, none⟩ = some (.slice ha hm hk)) := fun V hV => by
    have hb := hW.trans (hV.mono hW.size)
    have hc : ∀ o, o < 31 → V.cell? ⟨blk i, o, none⟩ = some (G i o) := fun o ho => (hb.cell (p := ⟨blk i, o, none⟩) kl).trans (kc o ho)
    refine ⟨Nat.lt_of_lt_of_le hgl hV.size, by rw [hc 0 (by omega), q.num], ?_, by rw [hc 3 (by omega), show G i 3 = _ from qn.w], by rw [hc 4 (by omega), show G i 4 = _ from qn.h], by rw [hc 5 (by omega), hpix2], by rw [hc 6 (by omega), show G i 6 = _ from qn.x], by rw [hc 7 (by omega), show G i 7 = _ from qn.y], by rw [hc 8 (by omega), show G i 8 = _ from qn.c0], by rw [hc 9 (by omega), show G i 9 = _ from qn.c1], by rw [hc 10 (by omega), show G i 10 = _ from qn.c2], by rw [hc 11 (by omega), show G i 11 = _ from qn.c3], by rw [hc 12 (by omega), show G i 12 = _ from qn.cut], by rw [hc 13 (by omega), hhint2]⟩
    rw [hc 1 (by omega), q.par, hpe]
    rfl
  have HFd : Hid (∀ V : World, Below W.heap.size W V → Calls Tryz.prog 111 #[.pointer (some ⟨blk p, 0, none⟩), .int .i64 (i : Int)] V fun e w' => e = .returned (.int .i64 (st.pos i : Int)) ∧ Below V.heap.size V w') := fun V hV => by
    have hb := hW.trans (hV.mono hW.size)
    refine (find_any (st.kids p) (fun (j : Nat) => blk j) (i : Int) (G p 2) (blk p) V ?_ (Nat.lt_of_lt_of_le pl hb.size) ((h.ptrs hp).below hb) (by have := kids_len hw p; omega)).mono ?_
    · rw [hb.cell (p := ⟨blk p, 2, none⟩) pl, pc 2 (by omega)]
    · rintro e w' ⟨r, rfl, hr, hb2⟩
      obtain ⟨k, rfl, hk⟩ := idx_is hik hr
      refine ⟨?_, hb2⟩
      unfold St.pos
      rw [hpe, idxOf_of (L := st.kids p) (hw.nd.filter _) hk]
  unfold olC
  obtain ⟨K, hK⟩ : ∃ K, st.pos i = K := ⟨_, rfl⟩
  obtain ⟨gb, hgb⟩ : ∃ gb, blk i = gb := ⟨_, rfl⟩
  obtain ⟨pb, hpb⟩ : ∃ pb, blk p = pb := ⟨_, rfl⟩
  rw [hK] at HFd ⊢
  rw [hgb, hpb] at HC
  rw [hpb] at HFd
  rw [hgb] at hgl ⊢
  clear h kc kf kl pc pf pl q qn hpix hpix2 hhint hhint2 hN hK hgb hpb hw hik hp
  go_enter Tryz.func105, Tryz.ntmps105
  have hZ : Below W.heap.size W (W.alloc (.cells #[.int .i64 0, .int .i64 0, .int .i64 0, .int .i64 0, .int .i64 0, .int .i64 0, .int .i64 0, .int .i64 0, .bool false, .int .i64 0] 181)) := al1 (Nat.le_refl _) _
  obtain ⟨x0, x1, x2, x3, x4, x5, x6, x7, x8, x9, x10, x11, x12, x13⟩ := HC.out _ hZ
  have hgn : ¬ gb = W.heap.size := by omega
  have hgn2 : ¬ gb = W.heap.size + 1 := by omega
  go_upto_region 2 with fail
  have HZ : Hid (Below W.heap.size W ((W.alloc (.cells #[.int .i64 0, .int .i64 0, .int .i64 0, .int .i64 0, .int .i64 0, .int .i64 0, .int .i64 0, .int .i64 0, .bool false, .int .i64 0] 181)).alloc (.cells #[.int .i64 N.w, .int .i64 N.h, .slice pa pm pk, .int .i64 N.x, .int .i64 N.y, .int .i64 N.clip.1, .int .i64 N.clip.2.1, .int .i64 N.clip.2.2.1, .int .i64 N.clip.2.2.2, .bool N.cut, .slice ha hm hk] 169)) ∧ HasB ((W.alloc (.cells #[.int .i64 0, .int .i64 0, .int .i64 0, .int .i64 0, .int .i64 0, .int .i64 0, .int .i64 0, .int .i64 0, .bool false, .int .i64 0] 181)).alloc (.cells #[.int .i64 N.w, .int .i64 N.h, .slice pa pm pk, .int .i64 N.x, .int .i64 N.y, .int .i64 N.clip.1, .int .i64 N.clip.2.1, .int .i64 N.clip.2.2.1, .int .i64 N.clip.2.2.2, .bool N.cut, .slice ha hm hk] 169)) W.heap.size 181 10 ∧ Blk ((W.alloc (.cells #[.int .i64 0, .int .i64 0, .int .i64 0, .int .i64 0, .int .i64 0, .int .i64 0, .int .i64 0, .int .i64 0, .bool false, .int .i64 0] 181)).alloc (.cells #[.int .i64 N.w, .int .i64 N.h, .slice pa pm pk, .int .i64 N.x, .int .i64 N.y, .int .i64 N.clip.1, .int .i64 N.clip.2.1, .int .i64 N.clip.2.2.1, .int .i64 N.clip.2.2.2, .bool N.cut, .slice ha hm hk] 169)) (W.heap.size + 1) 169 #[.int .i64 N.w, .int .i64 N.h, .slice pa pm pk, .int .i64 N.x, .int .i64 N.y, .int .i64 N.clip.1, .int .i64 N.clip.2.1, .int .i64 N.clip.2.2.1, .int .i64 N.clip.2.2.2, .bool N.cut, .slice ha hm hk]) := by
    refine ⟨al2 (Nat.le_refl _) _ _, (HasB.new W _ _).alloc _, ?_⟩
    have := heap_alloc_new (W.alloc (.cells #[.int .i64 0, .int .i64 0, .int .i64 0, .int .i64 0, .int .i64 0, .int .i64 0, .int .i64 0, .int .i64 0, .bool false, .int .i64 0] 181)) (.cells #[.int .i64 N.w, .int .i64 N.h, .slice pa pm pk, .int .i64 N.x, .int .i64 N.y, .int .i64 N.clip.1, .int .i64 N.clip.2.1, .int .i64 N.clip.2.2.1, .int .i64 N.clip.2.2.2, .bool N.cut, .slice ha hm hk] 169)
    simpa [Blk] using this
  clear x0 x1 x2 x3 x4 x5 x6 x7 x8 x9 x10 x11 x12 x13 hZ
  generalize (W.alloc (.cells #[.int .i64 0, .int .i64 0, .int .i64 0, .int .i64 0, .int .i64 0, .int .i64 0, .int .i64 0, .int .i64 0, .bool false, .int .i64 0] 181)).alloc (.cells #[.int .i64 N.w, .int .i64 N.h, .slice pa pm pk, .int .i64 N.x, .int .i64 N.y, .int .i64 N.clip.1, .int .i64 N.clip.2.1, .int .i64 N.clip.2.2.1, .int .i64 N.clip.2.2.2, .bool N.cut, .slice ha hm hk] 169) = V0 at *
  have hlb : W.heap.size + 1 < V0.heap.size := block_lt HZ.out.2.2
  -- in any world behind
  have HFW : Hid (∀ V : World, Below V0.heap.size V0 V → Below W.heap.size W V ∧ HasB V W.heap.size 181 10) := fun V hV => ⟨HZ.out.1.trans (hV.mono HZ.out.1.size), HZ.out.2.1.keep (hV.block _ HZ.out.2.1.lt)⟩
  have FG : Hid (∀ V : World, Below V0.heap.size V0 V → V.cell? ⟨gb, 0, none⟩ = some (.int .i64 (i : Int)) ∧ V.cell? ⟨gb, 1, none⟩ = some (.pointer (some ⟨pb, 0, none⟩)) ∧ V.cell? ⟨W.heap.size + 1, 0, none⟩ = some (.int .i64 N.w) ∧ V.cell? ⟨W.heap.size + 1, 1, none⟩ = some (.int .i64 N.h) ∧ V.cell? ⟨W.heap.size + 1, 2, none⟩ = some (.slice pa pm pk) ∧ V.cell? ⟨W.heap.size + 1, 3, none⟩ = some (.int .i64 N.x) ∧ V.cell? ⟨W.heap.size + 1, 4, none⟩ = some (.int .i64 N.y) ∧ V.cell? ⟨W.heap.size + 1, 5, none⟩ = some (.int .i64 N.clip.1) ∧ V.cell? ⟨W.heap.size + 1, 6, none⟩ = some (.int .i64 N.clip.2.1) ∧ V.cell? ⟨W.heap.size + 1, 7, none⟩ = some (.int .i64 N.clip.2.2.1) ∧ V.cell? ⟨W.heap.size + 1, 8, none⟩ = some (.int .i64 N.clip.2.2.2) ∧ V.cell? ⟨W.heap.size + 1, 9, none⟩ = some (.bool N.cut)) := fun V hV => by
    have q : Blk V (W.heap.size + 1) 169 _ := HZ.out.2.2.keep (hV.block _ hlb)
    obtain ⟨_, y0, y1, _⟩ := HC.out V (HFW.out V hV).1
    exact ⟨y0, y1, q.cell 0, q.cell 1, q.cell 2, q.cell 3, q.cell 4, q.cell 5, q.cell 6, q.cell 7, q.cell 8, q.cell 9⟩
  have FG2 : Hid (∀ V : World, Below V0.heap.size V0 V → ∀ cs : Array Value, (V.setRow W.heap.size cs).cell? ⟨gb, 0, none⟩ = some (.int .i64 (i : Int)) ∧ (V.setRow W.heap.size cs).cell? ⟨gb, 1, none⟩ = some (.pointer (some ⟨pb, 0, none⟩)) ∧ (V.setRow W.heap.size cs).cell? ⟨W.heap.size + 1, 0, none⟩ = some (.int .i64 N.w) ∧ (V.setRow W.heap.size cs).cell? ⟨W.heap.size + 1, 1, none⟩ = some (.int .i64 N.h) ∧ (V.setRow W.heap.size cs).cell? ⟨W.heap.size + 1, 2, none⟩ = some (.slice pa pm pk) ∧ (V.setRow W.heap.size cs).cell? ⟨W.heap.size + 1, 3, none⟩ = some (.int .i64 N.x) ∧ (V.setRow W.heap.size cs).cell? ⟨W.heap.size + 1, 4, none⟩ = some (.int .i64 N.y) ∧ (V.setRow W.heap.size cs).cell? ⟨W.heap.size + 1, 5, none⟩ = some (.int .i64 N.clip.1) ∧ (V.setRow W.heap.size cs).cell? ⟨W.heap.size + 1, 6, none⟩ = some (.int .i64 N.clip.2.1) ∧ (V.setRow W.heap.size cs).cell? ⟨W.heap.size + 1, 7, none⟩ = some (.int .i64 N.clip.2.2.1) ∧ (V.setRow W.heap.size cs).cell? ⟨W.heap.size + 1, 8, none⟩ = some (.int .i64 N.clip.2.2.2) ∧ (V.setRow W.heap.size cs).cell? ⟨W.heap.size + 1, 9, none⟩ = some (.bool N.cut)) := fun V hV cs => by
    obtain ⟨y0, y1, l0, l1, l2, l3, l4, l5, l6, l7, l8, l9⟩ := FG.out V hV
    have e1 : ∀ j, (V.setRow W.heap.size cs).cell? ⟨gb, j, none⟩ = V.cell? ⟨gb, j, none⟩ := fun j => cell_setRow_other _ _ _ _ (by show gb ≠ W.heap.size; omega)
    have e2 : ∀ j, (V.setRow W.heap.size cs).cell? ⟨W.heap.size + 1, j, none⟩ = V.cell? ⟨W.heap.size + 1, j, none⟩ := fun j => cell_setRow_other _ _ _ _ (by show W.heap.size + 1 ≠ W.heap.size; omega)
    exact ⟨(e1 0).trans y0, (e1 1).trans y1, (e2 0).trans l0, (e2 1).trans l1, (e2 2).trans l2, (e2 3).trans l3, (e2 4).trans l4, (e2 5).trans l5, (e2 6).trans l6, (e2 7).trans l7, (e2 8).trans l8, (e2 9).trans l9⟩
  have HW2 : Hid (∀ V : World, Below V0.heap.size V0 V → Calls Tryz.prog 157 #[.agg #[.int .i64 N.w, .int .i64 N.h, .slice pa pm pk]] V fun e w' => e = .returned (.int .i64 N.w) ∧ Below V0.heap.size V0 w') := fun V hV => (width_any _ _ _ V).mono fun e w' ⟨h1, h2⟩ => ⟨h1, by rw [h2]; exact hV.alloc hV.size _⟩
  have HH2 : Hid (∀ V : World, Below V0.heap.size V0 V → Calls Tryz.prog 158 #[.agg #[.int .i64 N.w, .int .i64 N.h, .slice pa pm pk]] V fun e w' => e = .returned (.int .i64 N.h) ∧ Below V0.heap.size V0 w') := fun V hV => (height_any _ _ _ V).mono fun e w' ⟨h1, h2⟩ => ⟨h1, by rw [h2]; exact hV.alloc hV.size _⟩
  have HF2 : Hid (∀ V : World, Below V0.heap.size V0 V → Calls Tryz.prog 111 #[.pointer (some ⟨pb, 0, none⟩), .int .i64 (i : Int)] V fun e w' => e = .returned (.int .i64 (K : Int)) ∧ Below V0.heap.size V0 w') := fun V hV => (HFd.out V (HFW.out V hV).1).mono fun e w' ⟨h1, h2⟩ => ⟨h1, hV.trans (h2.mono hV.size)⟩
  obtain ⟨y0, y1, l0, l1, l2, l3, l4, l5, l6, l7, l8, l9⟩ := FG.out V0 (Below.refl _ _)
  have hgl0 : gb < V0.heap.size := (HC.out V0 HZ.out.1).1
  clear HC HFd hgn hgn2
  go_cut [] (fun wx => Hid (Blk wx W.heap.size 181 #[.int .i64 N.w, .int .i64 N.h, .int .i64 N.x, .int .i64 N.y, .int .i64 N.clip.1, .int .i64 N.clip.2.1, .int .i64 N.clip.2.2.1, .int .i64 N.clip.2.2.2, .bool N.cut, .int .i64 (K : Int)] ∧ Below W.heap.size W wx))
  case first =>
    go_region_held3 (fun w' => w'.cell? ⟨gb, 0, none⟩ = some (.int .i64 (i : Int)) ∧ w'.cell? ⟨gb, 1, none⟩ = some (.pointer (some ⟨pb, 0, none⟩)) ∧ w'.cell? ⟨W.heap.size + 1, 0, none⟩ = some (.int .i64 N.w) ∧ w'.cell? ⟨W.heap.size + 1, 1, none⟩ = some (.int .i64 N.h) ∧ w'.cell? ⟨W.heap.size + 1, 2, none⟩ = some (.slice pa pm pk) ∧ w'.cell? ⟨W.heap.size + 1, 3, none⟩ = some (.int .i64 N.x) ∧ w'.cell? ⟨W.heap.size + 1, 4, none⟩ = some (.int .i64 N.y) ∧ w'.cell? ⟨W.heap.size + 1, 5, none⟩ = some (.int .i64 N.clip.1) ∧ w'.cell? ⟨W.heap.size + 1, 6, none⟩ = some (.int .i64 N.clip.2.1) ∧ w'.cell? ⟨W.heap.size + 1, 7, none⟩ = some (.int .i64 N.clip.2.2.1) ∧ w'.cell? ⟨W.heap.size + 1, 8, none⟩ = some (.int .i64 N.clip.2.2.2) ∧ w'.cell? ⟨W.heap.size + 1, 9, none⟩ = some (.bool N.cut))
      (first
        | with_reducible exact FG2.out _ HB1.out _
        | with_reducible exact FG2.out _ HB2.out _
        | with_reducible exact FG2.out _ HB3.out _
        | (refine FG.out _ ?_; (repeat (first | with_reducible exact Below.refl _ _ | with_reducible exact HB1.out | with_reducible exact HB2.out | with_reducible exact HB3.out | with_reducible refine Below.drew ?_)); done)
        | fail)
      (first
        | (go_at_call 111; refine (HF2.out _ ?_).mono ?_; (repeat (first | with_reducible exact Below.refl _ _ | with_reducible exact HB2.out | with_reducible exact HB3.out | with_reducible refine Below.drew ?_)); rintro e w1 ⟨rfl, hb⟩; have q1 := (HFW.out w1 hb).2; have HB1 := hide hb; clear hb)
        | (go_at_call 157; refine (HW2.out _ ?_).mono ?_; (repeat (first | with_reducible exact Below.refl _ _ | with_reducible exact HB1.out | with_reducible exact HB3.out | with_reducible refine Below.drew ?_)); rintro e w2 ⟨rfl, hb⟩; have q2 := (HFW.out w2 hb).2; have HB2 := hide hb; clear hb)
        | (go_at_call 158; refine (HH2.out _ ?_).mono ?_; (repeat (first | with_reducible exact Below.refl _ _ | with_reducible exact HB1.out | with_reducible exact HB2.out | with_reducible refine Below.drew ?_)); rintro e w3 ⟨rfl, hb⟩; have q3 := (HFW.out w3 hb).2; have HB3 := hide hb; clear hb)
        | fail)
    all_goals go_wp2_with fail
    all_goals go_meet
    all_goals first
      | exact outl_finish (HFW.out _ HB1.out).1 q1 _
      | exact outl_finish (HFW.out _ HB2.out).1 q2 _
      | exact outl_finish (HFW.out _ HB3.out).1 q3 _
  case rest =>
    have HF := hcut
    clear hcut y0 y1 l0 l1 l2 l3 l4 l5 l6 l7 l8 l9 FG FG2 HFW HF2 HW2 HH2 HZ
    have g0 := HF.out.1.cell 0
    have g1 := HF.out.1.cell 1
    have g2 := HF.out.1.cell 2
    have g3 := HF.out.1.cell 3
    have g4 := HF.out.1.cell 4
    have g5 := HF.out.1.cell 5
    have g6 := HF.out.1.cell 6
    have g7 := HF.out.1.cell 7
    have g8 := HF.out.1.cell 8
    have g9 := HF.out.1.cell 9
    simp only [List.getElem?_toArray, List.getElem?_cons_zero, List.getElem?_cons_succ] at g0 g1 g2 g3 g4 g5 g6 g7 g8 g9
    go_wp2_with fail
    exact bodyPost_ret (v := .agg #[.int .i64 N.w, .int .i64 N.h, .int .i64 N.x, .int .i64 N.y, .int .i64 N.clip.1, .int .i64 N.clip.2.1, .int .i64 N.clip.2.2.1, .int .i64 N.clip.2.2.2, .bool N.cut, .int .i64 (K : Int)]) (by simp [results, Tryz.results105, go_sem, g0, g1, g2, g3, g4, g5, g6, g7, g8, g9]) rfl ⟨rfl, HF.out.2⟩

end Go.Proofs.YtofinpocigbbeaaGreat

/-! EqO -/
namespace Go.Proofs.YtofinpocigbbeaaGreat
open Go.RowKit
attribute [local go_sem ↓] Go.wp_at_zero Go.wp_at_succ

def olEq (l : Look) (k : Int) (l' : Look) (k' : Int) : Bool := l.w == l'.w && (l.h == l'.h && (l.x == l'.x && (l.y == l'.y && ((l.clip.1 == l'.clip.1 && (l.clip.2.1 == l'.clip.2.1 && (l.clip.2.2.1 == l'.clip.2.2.1 && l.clip.2.2.2 == l'.clip.2.2.2))) && (l.cut == l'.cut && k == k')))))

set_option maxRecDepth 100000 in
set_option maxHeartbeats 1000000 in
theorem eqRectG (a0 a1 a2 a3 b0 b1 b2 b3 : Int) (d : Nat) (w : World) : (Op.equalIn (d + 1 + 1) 53 (.agg #[.int .i64 a0, .int .i64 a1, .int .i64 a2, .int .i64 a3]) (.agg #[.int .i64 b0, .int .i64 b1, .int .i64 b2, .int .i64 b3])).run Tryz.prog w = .ok (a0 == b0 && (a1 == b1 && (a2 == b2 && a3 == b3))) w := by
  have u3 := Tryz.underlying3
  rw [run_equalIn_struct w (d + 1) 53 _ _ (by kernel_rfl) (by kernel_rfl)]
  go_simp
  by_cases h1 : a0 = b0 <;> by_cases h2 : a1 = b1 <;> by_cases h3 : a2 = b2 <;> by_cases h4 : a3 = b3 <;> simp [h1, h2, h3, h4]

set_option maxRecDepth 100000 in
set_option maxHeartbeats 1000000 in
theorem eqOl (l : Look) (k : Int) (l' : Look) (k' : Int) (w : World) : (Op.equalIn 10000 181 (.agg (olC l k)) (.agg (olC l' k'))).run Tryz.prog w = .ok (olEq l k l' k') w := by
  have u3 := Tryz.underlying3
  have u4 := Tryz.underlying4
  have hr := eqRectG l.clip.1 l.clip.2.1 l.clip.2.2.1 l.clip.2.2.2 l'.clip.1 l'.clip.2.1 l'.clip.2.2.1 l'.clip.2.2.2 9997
  unfold olC olEq
  rw [show (10000 : Nat) = 9999 + 1 from rfl, run_equalIn_struct w 9999 181 _ _ (by kernel_rfl) (by kernel_rfl)]
  go_simp
  by_cases h1 : l.w = l'.w
  rotate_left
  · rw [if_neg h1]; simp [h1]
  rw [if_pos h1]
  by_cases h2 : l.h = l'.h
  rotate_left
  · rw [if_neg h2]; simp [h2]
  rw [if_pos h2]
  by_cases h3 : l.x = l'.x
  rotate_left
  · rw [if_neg h3]; simp [h3]
  rw [if_pos h3]
  by_cases h4 : l.y = l'.y
  rotate_left
  · rw [if_neg h4]; simp [h4]
  rw [if_pos h4]
  by_cases c1 : l.clip.1 = l'.clip.1
  rotate_left
  · rw [if_pos (fun e => absurd e c1)]; simp [c1]
  by_cases c2 : l.clip.2.1 = l'.clip.2.1
  rotate_left
  · rw [if_pos (fun _ e => absurd e c2)]; simp [c2]
  by_cases c3 : l.clip.2.2.1 = l'.clip.2.2.1
  rotate_left
  · rw [if_pos (fun _ _ e => absurd e c3)]; simp [c3]
  by_cases c4 : l.clip.2.2.2 = l'.clip.2.2.2
  rotate_left
  · rw [if_pos (fun _ _ _ => c4)]; simp [c4]
  rw [if_neg (fun h => h c1 c2 c3 c4)]
  by_cases h5 : l.cut = l'.cut
  rotate_left
  · rw [if_neg h5]; simp [h5]
  rw [if_pos h5]
  by_cases h6 : k = k'
  rotate_left
  · rw [if_neg h6]; simp [h6]
  rw [if_pos h6]
  simp [h1, h2, h3, h4, c1, c2, c3, c4, h5, h6]

end Go.Proofs.YtofinpocigbbeaaGreat

/-! PanL -/
namespace Go.Proofs.YtofinpocigbbeaaGreat
open Go.RowKit
attribute [local go_sem ↓] Go.wp_at_zero Go.wp_at_succ

theorem filter_erase : ∀ (l : List Nat) (k i : Nat), l.Nodup → l[k]? = some i → (l.filter fun j => decide (j ≠ i)) = l.eraseIdx k
  | [], k, i, _, h => by simp at h
  | a :: l, 0, i, hn, h => by
    simp at h
    subst h
    rw [List.nodup_cons] at hn
    rw [List.filter_cons, if_neg (by simp), List.eraseIdx_cons_zero, List.filter_eq_self]
    intro b hb
    simp
    rintro rfl
    exact hn.1 hb
  | a :: l, k + 1, i, hn, h => by
    rw [List.nodup_cons] at hn
    have h2 : l[k]? = some i := by simpa using h
    have hi : i ∈ l := List.mem_of_getElem? h2
    rw [List.filter_cons, if_pos (by simp; rintro rfl; exact hn.1 hi), List.eraseIdx_cons_succ, filter_erase l k i hn.2 h2]

theorem rm_live {st : St} {i : Nat} {q : Int} (h : Live (rm st i) q) : Live st q ∧ i ∉ st.chain q := by
  rcases h with rfl | ⟨j, rfl, hj⟩
  · exact ⟨live_top st, by rw [chain_neg st (by omega)]; simp⟩
  · have hj2 : j ∈ st.order.filter fun (o : Nat) => !(st.chain o).contains i := hj
    rw [List.mem_filter] at hj2
    exact ⟨live_nat hj2.1, by simpa using hj2.2⟩

/-- A surface is gone, with all that was on it. -/
theorem PRaw.less {w w' : World} {S : Nat → Prop} {x : Nat} {st : St} (hw : Wf st) {bv : Value} {sc mp : Nat} {blk : Int → Nat} {G : Int → Nat → Value} (h : PRaw w S x st bv sc mp blk G) {i : Nat} (hi : i ∈ st.order) {p : Int} (hpe : (st.sf i).parent = p) {k : Nat} (hk : (st.kids p)[k]? = some i) {v : Value}
    (hmap : MapOf w' mp (rm st i).order fun (j : Nat) => blk j)
    (hpar : SrfB w' (blk p) (upO (G p) 2 v))
    (hrow : RowS w' S 117 1 v ((st.kids p).length - 1) (((st.kids p).eraseIdx k).map fun (j : Nat) => ptrV (blk j)))
    (hvb : v.ownBlock = (G p 2).ownBlock)
    (hoth : ∀ g, g < w.heap.size → g ≠ mp → g ≠ blk p → some g ≠ (G p 2).ownBlock → w'.heap[g]? = w.heap[g]?) :
    PRaw w' S x (rm st i) bv sc mp blk (upG G p (upO (G p) 2 v)) := by
  have hp : Live st p := by rw [← hpe]; exact live_par hw hi
  have hlt : ∀ {g : Nat} {o : Obj}, w.heap[g]? = some o → g < w.heap.size := fun {g o} hg => (Array.getElem?_eq_some_iff.1 hg).1
  obtain ⟨pc, hpc, hpcs⟩ := h.srf p hp
  have rowT : ∀ g, some g = (G p 2).ownBlock → ∃ cur, w.heap[g]? = some (.cells cur 117 (0, 0)) := fun g hg => (h.on p hp).type hg.symm
  have hown : ∀ q, (upG G p (upO (G p) 2 v) q 2).ownBlock = (G q 2).ownBlock := fun q => by
    unfold upG
    by_cases e : q = p
    · subst e
      rw [if_pos rfl]
      show v.ownBlock = _
      exact hvb
    · rw [if_neg e]
  refine ⟨?_, ?_, hmap, fun q hq => ?_, ⟨h.own.1, h.own.2.1, h.own.2.2.1, fun q hq => h.own.2.2.2 q (rm_live hq).1⟩, fun q q' hq hq' e => h.inj q q' (rm_live hq).1 (rm_live hq').1 e, fun q hq => ?_, fun q q' hq hq' hne g hg => ?_, fun q hq => ?_, fun j hj => ?_⟩
  · refine (hoth x (hlt h.scr) (h.map.ne h.scr) (neT h.scr hpc (by decide)) fun e => ?_).trans h.scr
    obtain ⟨c, hc⟩ := rowT x e
    exact neT h.scr hc (by decide) rfl
  · rw [rm_len]
    refine (hoth sc (hlt h.sce) (h.map.ne h.sce) (neT h.sce hpc (by decide)) fun e => ?_).trans h.sce
    obtain ⟨c, hc⟩ := rowT sc e
    exact neT h.sce hc (by decide) rfl
  · unfold upG
    by_cases e : q = p
    · subst e; rw [if_pos rfl]; exact hpar
    · rw [if_neg e]
      obtain ⟨c, hc, hc2⟩ := h.srf q (rm_live hq).1
      refine ⟨c, (hoth _ (hlt hc) (h.map.ne hc) (fun e2 => e (h.inj q p (rm_live hq).1 hp e2)) fun e2 => ?_).trans hc, hc2⟩
      obtain ⟨c2, hc2⟩ := rowT _ e2
      exact neT hc hc2 (by decide) rfl
  · rw [rm_kids hw i q (rm_live hq).2]
    unfold upG
    by_cases e : q = p
    · subst e
      rw [if_pos rfl, filter_erase (st.kids q) k i (hw.nd.filter _) hk, List.length_eraseIdx, if_pos (List.getElem?_eq_some_iff.1 hk).1]
      exact hrow
    · rw [if_neg e]
      have hsame : ((st.kids q).filter fun j => decide (j ≠ i)) = st.kids q := by
        rw [List.filter_eq_self]
        intro j hj
        simp
        rintro rfl
        exact e (by rw [← (kids_mem.1 hj).2, hpe])
      rw [hsame]
      have hr := h.on q (rm_live hq).1
      refine ⟨own_keep hr.1 fun g hg => ?_, hr.2⟩
      obtain ⟨c, hc⟩ := hr.type hg
      exact hoth g (hlt hc) (h.map.ne hc) (neT hc hpc (by decide)) fun e2 => h.apart q p (rm_live hq).1 hp e g hg e2.symm
  · rw [hown] at hg ⊢
    exact h.apart q q' (rm_live hq).1 (rm_live hq').1 hne g hg
  · have hc := h.cells q (rm_live hq).1
    have hc3 : PCells blk (rm st i) q (G q) := by
      refine hc.other rfl rfl fun hq1 => ?_
      rw [rm_sf st hw, if_neg]
      intro hg
      have h1 := (rm_live hq).2
      rcases hq with rfl | ⟨j, rfl, hj⟩
      · exact hq1 rfl
      · rw [Int.toNat_natCast] at hg
        exact h1 (gone_mem.1 hg).2
    unfold upG
    by_cases e : q = p
    · rw [if_pos e]
      subst e
      exact ⟨hc3.num, hc3.par, ⟨hc3.now.w, hc3.now.h, hc3.now.pix, hc3.now.x, hc3.now.y, hc3.now.c0, hc3.now.c1, hc3.now.c2, hc3.now.c3, hc3.now.cut, hc3.now.hint⟩, (by obtain ⟨l, h1, h2⟩ := hc3.next; exact ⟨l, ⟨h1.w, h1.h, h1.pix, h1.x, h1.y, h1.c0, h1.c1, h1.c2, h1.c3, h1.cut, h1.hint⟩, h2⟩), hc3.stk, hc3.kep⟩
    · rw [if_neg e]
      exact hc3
  · have hkd : KeptD w w' := fun g cur t ht e => hoth g (hlt e) (h.map.ne e) (neT e hpc (ht.ne (by unfold DataT; decide))) fun e2 => by
      obtain ⟨c, hc⟩ := rowT g e2
      exact neT e hc (ht.ne (by unfold DataT; decide)) rfl
    have hlv : Live (rm st i) (j : Int) := live_nat hj
    have hjo : j ∈ st.order := by
      rcases (rm_live hlv).1 with e | ⟨k, e, hk⟩
      · omega
      · have : j = k := by omega
        subst this
        exact hk
    have hd := (h.data j hjo).kd hkd
    rw [rm_sf st hw, if_neg (fun hg => (rm_live hlv).2 (gone_mem.1 hg).2)]
    unfold upG
    by_cases e : (j : Int) = p
    · rw [if_pos e]
      subst e
      exact ⟨hd.pix, hd.hint, hd.npix, hd.nhint, hd.kw, hd.kh, hd.kept⟩
    · rw [if_neg e]
      exact hd

theorem rm_order {st : St} (hw : Wf st) {i : Nat} (hi : i ∈ st.order) : rmF st.order (i :: st.dfs i) = (rm st i).order := by
  unfold rmF
  show _ = st.order.filter _
  refine List.filter_congr fun o ho => ?_
  congr 1
  rw [Bool.eq_iff_iff]
  have := (gone_perm hw i hi).mem_iff (a := o)
  rw [gone_mem] at this
  simp only [List.contains_iff_mem]
  rw [this]
  exact ⟨fun h => h.2, fun h => ⟨ho, h⟩⟩

end Go.Proofs.YtofinpocigbbeaaGreat

/-! Lay -/
namespace Go.Proofs.YtofinpocigbbeaaGreat
open Go.RowKit
attribute [local go_sem ↓] Go.wp_at_zero Go.wp_at_succ

theorem seenP_nat (st : St) (i : Nat) : st.seenP (i : Int) = st.seen i := by
  unfold St.seenP St.seen St.buf mv
  rw [lookP_nat]
  simp only [Int.zero_add]
  rw [Int.add_comm (st.px i), Int.add_comm (st.py i)]

theorem viewC_nat (st : St) (i : Nat) : viewC st (i : Int) = (vCells st i).toArray := by
  unfold viewC vCells
  rw [seenP_nat, lookP_nat]

theorem seenP_top {st : St} (hw : Wf st) : has4 (st.seenP (-1)) = false := by
  unfold St.seenP
  rw [chain_neg st (by omega), px_neg st (by omega), py_neg st (by omega)]
  have h1 := hw.ww
  have h2 := hw.hh
  unfold meet has4 lookP St.openL
  simp
  omega

/-- What is seen of a surface itself. -/
def St.visP (st : St) (p : Int) : List Nat := if p = -1 then [] else st.vis [p.toNat]

/-- What is seen of a surface and of all that is on it. -/
def St.visAll (st : St) (p : Int) : List Nat := st.visP p ++ st.vis (st.dfs p)

def St.kidsTo (st : St) (p : Int) (k : Nat) : List Nat := ((st.kids p).take k).flatMap fun (j : Nat) => st.visAll j

theorem vis_append (st : St) (a b : List Nat) : st.vis (a ++ b) = st.vis a ++ st.vis b := by unfold St.vis; rw [List.filter_append]

theorem visAll_nat (st : St) (i : Nat) : st.visAll i = st.vis (i :: st.dfs i) := by
  unfold St.visAll St.visP
  rw [if_neg (nat_ne_top i), Int.toNat_natCast, ← vis_append]
  rfl

theorem kidsTo_all {st : St} (hw : Wf st) {p : Int} (hp : -1 ≤ p) (k : Nat) (hk : (st.kids p).length ≤ k) : st.visP p ++ st.kidsTo p k = st.visAll p := by
  unfold St.kidsTo St.visAll
  rw [List.take_of_length_le hk, dfs_step hw p hp]
  congr 1
  unfold St.vis
  rw [List.filter_flatMap]
  congr 1
  funext j
  exact visAll_nat st j

theorem kidsTo_succ (st : St) (p : Int) (k : Nat) (h : k < (st.kids p).length) : st.kidsTo p (k + 1) = st.kidsTo p k ++ st.visAll ((st.kids p)[k] : Nat) := by
  unfold St.kidsTo
  rw [List.take_succ_eq_append_getElem h, List.flatMap_append]
  simp

theorem kidsTo_le {st : St} (hw : Wf st) {p : Int} (hp : -1 ≤ p) (k : Nat) : (st.visP p).length + (st.kidsTo p k).length ≤ (st.visAll p).length := by
  rw [← kidsTo_all hw hp _ (Nat.le_refl _), List.length_append]
  unfold St.kidsTo
  have e : (st.kids p).take (st.kids p).length = (st.kids p).take k ++ (st.kids p).drop k := by rw [List.take_length, List.take_append_drop]
  rw [e, List.flatMap_append, List.length_append]
  omega

theorem live_ge {st : St} {p : Int} (h : Live st p) : -1 ≤ p := by
  rcases h with rfl | ⟨i, rfl, _⟩ <;> omega

theorem visP_nat (st : St) (i : Nat) : st.visP (i : Int) = if has4 (st.seen i) = true then [i] else [] := by
  unfold St.visP
  rw [if_neg (nat_ne_top i), Int.toNat_natCast]
  unfold St.vis
  rw [List.filter_cons]
  rfl

theorem vis_len {st : St} (L : List Nat) : (st.vis L).length ≤ L.length := List.length_filter_le _ _

/-- A layer's cells: the view, the pixels, the kept hint. -/
def layC (st : St) (G : Int → Nat → Value) (i : Nat) : List Value := [.int .i64 (i : Int), .int .i64 (st.px i), .int .i64 (st.py i), .int .i64 (st.sf i).now.w, .int .i64 (st.sf i).now.h, .int .i64 (st.seen i).1, .int .i64 (st.seen i).2.1, .int .i64 (st.seen i).2.2.1, .int .i64 (st.seen i).2.2.2, .int .i64 (st.sf i).now.w, .int .i64 (st.sf i).now.h, G i 5, .int .i64 (st.sf i).now.w, .int .i64 (st.sf i).now.h, G i 30]

def OwnL (w : World) (base : Nat) (v : Value) (st : St) (G : Int → Nat → Value) (L : List Nat) : Prop := w.ownsRow base 158 15 v L.length (L.flatMap (layC st G))

theorem layerInfo : (Tryz.prog.info? 158).map (fun i => (i.zero, i.size, i.bytes)) = some (some (.agg #[.int .i64 0, .int .i64 0, .int .i64 0, .int .i64 0, .int .i64 0, .int .i64 0, .int .i64 0, .int .i64 0, .int .i64 0, .int .i64 0, .int .i64 0, .slice none 0 0, .int .i64 0, .int .i64 0, .slice none 0 0]), 15, 152) := by kernel_rfl

set_option maxRecDepth 100000 in
set_option maxHeartbeats 1000000 in
/-- (*Surface).layers -/
theorem layers_of {w : World} {S : Nat → Prop} {x : Nat} {st : St} (hw : Wf st) {bv : Value} {sc mp : Nat} {blk : Int → Nat} {G : Int → Nat → Value} (h : PRaw w S x st bv sc mp blk G)
    (hview : ∀ p, Live st p → ∀ W : World, Below w.heap.size w W → Calls Tryz.prog 118 #[.pointer (some ⟨blk p, 0, none⟩)] W fun e w' => e = .returned (.agg (viewC st p)) ∧ Below W.heap.size W w') :
    ∀ (n : Nat) (p : Int), Live st p → st.need p ≤ n → ∀ (E : List Nat) (v : Value) (W : World), E.length + (st.visAll p).length ≤ 1000 → Below w.heap.size w W → OwnL W w.heap.size v st G E →
    Calls Tryz.prog 80 #[.pointer (some ⟨blk p, 0, none⟩), v] W fun e w' => ∃ v', e = .returned v' ∧ OwnL w' w.heap.size v' st G (E ++ st.visAll p) ∧ Below w.heap.size w w' := by
  intro n
  induction n with
  | zero => intro p _ hn; unfold St.need at hn; omega
  | succ n ih =>
    intro p hp hn E v W hE hW hv
    obtain ⟨i0, hi0, hz0, hz1, hz2⟩ := info_parts layerInfo
    have hp1 := live_ge hp
    have HV := hide (hview p hp W hW)
    have HHas := hide (hasPoints_any (st.seenP p))
    obtain ⟨kc, kf, kl⟩ := h.at hp
    obtain ⟨⟨oa, oc, ho, hocs⟩, _⟩ := h.ptrs hp
    have hko : w.cell? ⟨blk p, 2, none⟩ = some (.slice oa (st.kids p).length oc) := by rw [kc 2 (by omega), ho]
    obtain ⟨va, vc, hvf⟩ := row_form hv
    subst hvf
    have hk12 := kids_len hw p
    -- the layer is laid at hand, and appended
    have HApp : Hid (∀ (w1 : World), Below W.heap.size W w1 → has4 (st.seenP p) = true → ∃ (i : Nat) (pa : Option Addr) (pm pk : Nat) (ka : Option Addr) (km kk : Nat), st.visP p = [i] ∧ layC st G i = [.int .i64 p, .int .i64 (st.px p), .int .i64 (st.py p), .int .i64 (lookP st p).w, .int .i64 (lookP st p).h, .int .i64 (st.seenP p).1, .int .i64 (st.seenP p).2.1, .int .i64 (st.seenP p).2.2.1, .int .i64 (st.seenP p).2.2.2, .int .i64 (lookP st p).w, .int .i64 (lookP st p).h, .slice pa pm pk, .int .i64 (lookP st p).w, .int .i64 (lookP st p).h, .slice ka km kk] ∧
        (w1.cell? ⟨blk p, 3, none⟩ = some (.int .i64 (lookP st p).w) ∧ w1.cell? ⟨blk p, 4, none⟩ = some (.int .i64 (lookP st p).h) ∧ w1.cell? ⟨blk p, 5, none⟩ = some (.slice pa pm pk) ∧ w1.cell? ⟨blk p, 28, none⟩ = some (.int .i64 (lookP st p).w) ∧ w1.cell? ⟨blk p, 29, none⟩ = some (.int .i64 (lookP st p).h) ∧ w1.cell? ⟨blk p, 30, none⟩ = some (.slice ka km kk) ∧ blk p < w1.heap.size) ∧
        (∀ wx : World, Below w1.heap.size w1 wx → wx.ownsRow w.heap.size 158 15 (.slice va E.length vc) E.length (E.flatMap (layC st G)) ∧ w.heap.size ≤ wx.heap.size)) := fun w1 hb1 hseen => by
      rcases hp with rfl | ⟨i, rfl, hi⟩
      · rw [seenP_top hw] at hseen
        cases hseen
      · have q := (h.cells i (live_nat hi)).nat
        have d := h.data i hi
        obtain ⟨pa, pm, pk, hpix⟩ := q.now.pix
        obtain ⟨kw, kh, ka, km, kk, _, _, hkep⟩ := q.kep
        have hc : ∀ o, o < 31 → w1.cell? ⟨blk i, o, none⟩ = some (G i o) := fun o ho => (hb1.cell (p := ⟨blk i, o, none⟩) (Nat.lt_of_lt_of_le kl hW.size)).trans ((hW.cell (p := ⟨blk i, o, none⟩) kl).trans (kc o ho))
        have hpix2 : G i 5 = .slice pa pm pk := hpix
        refine ⟨i, pa, pm, pk, ka, km, kk, ?_, ?_, ⟨?_, ?_, ?_, ?_, ?_, ?_, Nat.lt_of_lt_of_le kl (Nat.le_trans hW.size hb1.size)⟩, fun wx hx => ⟨own_keep hv fun g hg => (hx.block g (Nat.lt_of_lt_of_le (hv.lt g hg).2 hb1.size)).trans (hb1.block g (hv.lt g hg).2), Nat.le_trans hW.size (Nat.le_trans hb1.size hx.size)⟩⟩
        · rw [visP_nat, ← seenP_nat, if_pos hseen]
        · unfold layC
          rw [hpix2, hkep, lookP_nat, seenP_nat]
        · rw [hc 3 (by omega), show G i 3 = _ from q.now.w, lookP_nat]
        · rw [hc 4 (by omega), show G i 4 = _ from q.now.h, lookP_nat]
        · rw [hc 5 (by omega), hpix2]
        · rw [hc 28 (by omega), d.kw, lookP_nat]
        · rw [hc 29 (by omega), d.kh, lookP_nat]
        · rw [hc 30 (by omega), hkep]
    have HNo : Hid (has4 (st.seenP p) = false → st.visP p = []) := fun hseen => by
      rcases hp with rfl | ⟨i, rfl, hi⟩
      · rfl
      · rw [visP_nat, ← seenP_nat, if_neg (by rw [hseen]; simp)]
    have HVr := hide hv
    have HVP : Hid ((st.visP p).length ≤ 1) := by
      unfold Hid St.visP
      split
      · simp
      · exact vis_len _
    -- the surfaces on it
    have HKid : Hid (∀ (k : Nat) (wx : World) (v' : Value), k < (st.kids p).length → Below w.heap.size w wx → OwnL wx w.heap.size v' st G (E ++ st.visP p ++ st.kidsTo p k) → ∃ (g j : Nat), oa = some ⟨g, 0, none⟩ ∧ wx.cell? ⟨g, k, none⟩ = some (.pointer (some ⟨blk j, 0, none⟩)) ∧ Calls Tryz.prog 80 #[.pointer (some ⟨blk j, 0, none⟩), v'] wx fun e w' => ∃ v'', e = .returned v'' ∧ OwnL w' w.heap.size v'' st G (E ++ st.visP p ++ st.kidsTo p (k + 1)) ∧ Below w.heap.size w w') := fun k wx v' hk hwx hv' => by
      obtain ⟨g, g1, g2, g3⟩ := hocs k hk
      obtain ⟨q1, q2⟩ := kids_mem.1 (List.getElem_mem hk)
      refine ⟨g, (st.kids p)[k], g1, (hwx.cell (p := ⟨g, k, none⟩) g2).trans g3, ?_⟩
      have hlen : (E ++ st.visP p ++ st.kidsTo p k).length + (st.visAll ((st.kids p)[k] : Nat)).length ≤ 1000 := by
        have h1 := kidsTo_le hw hp1 (k + 1)
        rw [kidsTo_succ st p k hk, List.length_append] at h1
        rw [List.length_append, List.length_append]
        omega
      refine (ih ((st.kids p)[k] : Nat) (live_kid (List.getElem_mem hk)) (by have := need_kid hw hp1 q1 q2; omega) _ v' wx hlen hwx hv').mono ?_
      rintro e w' ⟨v'', rfl, r1, r2⟩
      refine ⟨v'', rfl, ?_, r2⟩
      rw [kidsTo_succ st p k hk, ← List.append_assoc]
      exact r1
    have HEnd : Hid (∀ (wx : World) (v' : Value), OwnL wx w.heap.size v' st G (E ++ st.visP p ++ st.kidsTo p (st.kids p).length) → OwnL wx w.heap.size v' st G (E ++ st.visAll p)) := fun wx v' hv' => by
      rw [List.append_assoc, kidsTo_all hw hp1 _ (Nat.le_refl _)] at hv'
      exact hv'
    have HOn : Hid (∀ wx : World, Below w.heap.size w wx → wx.cell? ⟨blk p, 2, none⟩ = some (.slice oa (st.kids p).length oc)) := fun wx hx => (hx.cell (p := ⟨blk p, 2, none⟩) kl).trans hko
    obtain ⟨m, hm⟩ : ∃ m, (st.kids p).length = m := ⟨_, rfl⟩
    rw [hm] at HKid HEnd HOn hk12
    obtain ⟨pb, hpb⟩ : ∃ pb, blk p = pb := ⟨_, rfl⟩
    rw [hpb] at HV HOn HApp ⊢
    have HWw := hide hW
    unfold viewC at HV
    unfold r4C at HHas
    obtain ⟨R, hR⟩ : ∃ R, st.seenP p = R := ⟨_, rfl⟩
    obtain ⟨a1, ha1⟩ : ∃ a, st.px p = a := ⟨_, rfl⟩
    obtain ⟨a2, ha2⟩ : ∃ a, st.py p = a := ⟨_, rfl⟩
    obtain ⟨a3, ha3⟩ : ∃ a, (lookP st p).w = a := ⟨_, rfl⟩
    obtain ⟨a4, ha4⟩ : ∃ a, (lookP st p).h = a := ⟨_, rfl⟩
    rw [hR, ha1, ha2, ha3, ha4] at HV HApp
    rw [hR] at HHas HNo
    obtain ⟨en, hen⟩ : ∃ en, E.length = en := ⟨_, rfl⟩
    have hE2 : en ≤ 1000 := by omega
    rw [hen] at HApp
    have hvl : (Value.slice va E.length vc) = .slice va en vc := by rw [hen]
    rw [hvl]
    clear ih h hview kc kf ho hocs hko hv hm hpb hW hR ha1 ha2 ha3 ha4 hw hp hn hp1 hE hvl
    go_enter Tryz.func80, Tryz.ntmps80
    obtain ⟨t, ht⟩ : ∃ t, has4 R = t := ⟨_, rfl⟩
    rw [ht] at HHas HNo HApp
    go_upto_if 12 with (first
      | (go_at_call 118; refine HV.out.mono ?_; rintro e w1 ⟨rfl, hb1⟩; have HB1 := hide hb1; clear hb1)
      | (go_at_call 119; refine (HHas.out _).mono ?_; rintro e w2 ⟨rfl, o1, rfl⟩))
    have hbb : Below W.heap.size W ((w1.alloc (.cells #[.int .i64 p, .int .i64 a1, .int .i64 a2, .int .i64 a3, .int .i64 a4, .int .i64 R.1, .int .i64 R.2.1, .int .i64 R.2.2.1, .int .i64 R.2.2.2] 59)).alloc o1) := (HB1.out.alloc HB1.out.size _).alloc (by have := HB1.out.size; simp; omega) _
    have HBB := hide hbb
    clear hbb
    go_cut [1] (fun s1 wx => ∃ v', s1 = v' ∧ Hid (OwnL wx w.heap.size v' st G (E ++ st.visP p) ∧ Below w.heap.size w wx))
    case first =>
      cases t with
      | true =>
        obtain ⟨i, pa, pm, pk, ka, km, kk, hvi, hci, ⟨e3, e4, e5, e28, e29, e30, hpl⟩, hrow⟩ := HApp.out _ HBB.out rfl
        have HA2 := hide (And.intro hvi hci)
        have HRow := hide hrow
        have hvb : ((w1.alloc (.cells #[.int .i64 p, .int .i64 a1, .int .i64 a2, .int .i64 a3, .int .i64 a4, .int .i64 R.1, .int .i64 R.2.1, .int .i64 R.2.2.1, .int .i64 R.2.2.2] 59)).alloc o1).heap[w1.heap.size]? = some (.cells #[.int .i64 p, .int .i64 a1, .int .i64 a2, .int .i64 a3, .int .i64 a4, .int .i64 R.1, .int .i64 R.2.1, .int .i64 R.2.2.1, .int .i64 R.2.2.2] 59 (0, 0)) := (heap_old _ _ _ (by simp)).trans (heap_alloc_new w1 _)
        clear hvi hci hrow HApp HNo
        generalize hVV : (w1.alloc (.cells #[.int .i64 p, .int .i64 a1, .int .i64 a2, .int .i64 a3, .int .i64 a4, .int .i64 R.1, .int .i64 R.2.1, .int .i64 R.2.2.1, .int .i64 R.2.2.2] 59)).alloc o1 = V at *
        clear hVV
        have v0 := cell_of_row _ _ 0 _ _ _ hvb
        have v1 := cell_of_row _ _ 1 _ _ _ hvb
        have v2 := cell_of_row _ _ 2 _ _ _ hvb
        have v3 := cell_of_row _ _ 3 _ _ _ hvb
        have v4 := cell_of_row _ _ 4 _ _ _ hvb
        have v5 := cell_of_row _ _ 5 _ _ _ hvb
        have v6 := cell_of_row _ _ 6 _ _ _ hvb
        have v7 := cell_of_row _ _ 7 _ _ _ hvb
        have v8 := cell_of_row _ _ 8 _ _ _ hvb
        simp only [List.getElem?_toArray, List.getElem?_cons_zero, List.getElem?_cons_succ] at v0 v1 v2 v3 v4 v5 v6 v7 v8
        have hvl := block_lt hvb
        clear hvb
        have HFin : Hid (∀ (ga cp : Nat) (w6 : World), w6.ownsRow w.heap.size 158 15 (.slice (some ⟨ga, 0, none⟩) (en + 1) cp) (en + 1) (E.flatMap (layC st G) ++ [.int .i64 p, .int .i64 a1, .int .i64 a2, .int .i64 a3, .int .i64 a4, .int .i64 R.1, .int .i64 R.2.1, .int .i64 R.2.2.1, .int .i64 R.2.2.2, .int .i64 a3, .int .i64 a4, .slice pa pm pk, .int .i64 a3, .int .i64 a4, .slice ka km kk]) → (V.drew.alloc (.cells #[.int .i64 p, .int .i64 a1, .int .i64 a2, .int .i64 a3, .int .i64 a4, .int .i64 R.1, .int .i64 R.2.1, .int .i64 R.2.2.1, .int .i64 R.2.2.2, .int .i64 a3, .int .i64 a4, .slice pa pm pk, .int .i64 a3, .int .i64 a4, .slice ka km kk] 158)).grownBy w6 (Value.slice va en vc).ownBlock → OwnL w6 w.heap.size (.slice (some ⟨ga, 0, none⟩) (en + 1) cp) st G (E ++ st.visP p) ∧ Below w.heap.size w w6) := fun ga cp w6 h1 h2 => by
          refine ⟨?_, ?_⟩
          · rw [HA2.out.1]
            unfold OwnL
            rw [List.length_append, hen, List.flatMap_append, List.flatMap_singleton, HA2.out.2]
            exact h1
          · exact (((HWw.out.trans (HBB.out.mono HWw.out.size)).drew.alloc (HRow.out _ (Below.refl _ _)).2 _)).grown h2 (HRow.out _ (((Below.refl V.heap.size V).drew).alloc (Nat.le_refl _) _)).2 fun b hb => ((HRow.out _ (Below.refl _ _)).1.lt b hb).1
        go_wp2_with fail
        go_region_law (refine step_append_lies _ (by rfl) (.tmp 13) (.tmp 25) 93 (by rfl) w.heap.size 158 i0 _ 15 152 Tryz.underlying93 hi0 hz0 hz1 hz2 rfl (by omega) (.slice va en vc) en (E.flatMap (layC st G)) (by rfl) (HRow.out _ (((Below.refl V.heap.size V).drew).alloc (Nat.le_refl _) _)).1 ⟨V.heap.size, 0, none⟩ 1 1 [.int .i64 p, .int .i64 a1, .int .i64 a2, .int .i64 a3, .int .i64 a4, .int .i64 R.1, .int .i64 R.2.1, .int .i64 R.2.2.1, .int .i64 R.2.2.2, .int .i64 a3, .int .i64 a4, .slice pa pm pk, .int .i64 a3, .int .i64 a4, .slice ka km kk] (by rfl) (by rfl) (World.news_of_block (cs := #[.int .i64 p, .int .i64 a1, .int .i64 a2, .int .i64 a3, .int .i64 a4, .int .i64 R.1, .int .i64 R.2.1, .int .i64 R.2.2.1, .int .i64 R.2.2.2, .int .i64 a3, .int .i64 a4, .slice pa pm pk, .int .i64 a3, .int .i64 a4, .slice ka km kk]) (t := 158) (fr := (0, 0)) (heap_alloc_new V.drew _)) (by simp [Value.oneCell']) (by omega) (by unfold maxLen; omega) (by omega) (HRow.out _ (((Below.refl V.heap.size V).drew).alloc (Nat.le_refl _) _)).2 _ rfl ?_; intro ga cp w6 hown6 hgrow _ _; have H6 := hide (And.intro hown6 hgrow); clear hown6 hgrow)
        all_goals try go_wp2_with fail
        all_goals go_meet
        all_goals exact ⟨_, rfl, HFin.out _ _ _ H6.out.1 H6.out.2⟩
      | false =>
        go_wp2_with fail
        go_meet
        refine ⟨_, rfl, ?_, HWw.out.trans (HBB.out.mono HWw.out.size)⟩
        rw [HNo.out trivial, List.append_nil]
        subst hen
        exact own_keep HVr.out fun g hg => HBB.out.block g (HVr.out.lt g hg).2
    case rest =>
      obtain ⟨v', rfl, HO⟩ := hcut
      obtain ⟨va', vc', hvf'⟩ := row_form HO.out.1
      subst hvf'
      have c2 := HOn.out _ HO.out.2
      obtain ⟨n1, hn1⟩ : ∃ n1, (E ++ st.visP p).length = n1 := ⟨_, rfl⟩
      rw [hn1]
      go_wp2_with fail
      go_loopg [1, 32] m (fun gg s1 s32 wr => ∃ k : Nat, s32 = .int .i64 k ∧ gg + k = m ∧ OwnL wr w.heap.size s1 st G (E ++ st.visP p ++ st.kidsTo p k) ∧ Below w.heap.size w wr)
      case atStart =>
        refine ⟨0, rfl, by omega, ?_, HO.out.2⟩
        have e0 : st.kidsTo p 0 = [] := by unfold St.kidsTo; simp
        rw [e0, List.append_nil, ← hn1]
        exact HO.out.1
      case round =>
        rename World => wr
        obtain ⟨k, rfl, hgk, hown, hbel⟩ := hrel
        obtain ⟨va2, vc2, hvf2⟩ := row_form hown
        obtain ⟨nL, hnL⟩ : ∃ nL, (E ++ st.visP p ++ st.kidsTo p k).length = nL := ⟨_, rfl⟩
        rw [hnL] at hvf2
        subst hvf2
        have HO2 := hide (And.intro hown hbel)
        cases gk with
        | zero =>
          have hlt : ¬ (k : Int) < (m : Int) := by omega
          have hkm : k = m := by omega
          clear hown hbel
          go_wp2
          go_ret
          subst hkm
          exact ⟨_, rfl, HEnd.out _ _ HO2.out.1, HO2.out.2⟩
        | succ gk =>
          have hlt : (k : Int) < (m : Int) := by omega
          have hk0 : (0 : Int) ≤ (k : Int) := by omega
          obtain ⟨g, j, hoa, hcl, hcall⟩ := HKid.out k wr _ (by omega) hbel hown
          subst hoa
          have HCa := hide hcall
          clear hown hbel hcall
          go_wp2_with (go_at_call 80; refine HCa.out.mono ?_; rintro e w5 ⟨v5, rfl, r1, r2⟩; have H5 := hide (And.intro r1 r2); clear r1 r2)
          go_roundg gk
          case measure => omega
          case rel => exact ⟨k + 1, by go_num, by omega, H5.out.1, H5.out.2⟩

end Go.Proofs.YtofinpocigbbeaaGreat

/-! Sep -/
namespace Go.Proofs.YtofinpocigbbeaaGreat
open Go.RowKit
attribute [local go_sem ↓] Go.wp_at_zero Go.wp_at_succ

theorem flat_at {α : Type} (f : α → List Value) (m : Nat) (hf : ∀ a, (f a).length = m) : ∀ (L : List α) (k j : Nat), j < m → (h : k < L.length) → (L.flatMap f)[k * m + j]? = (f L[k])[j]?
  | [], k, j, _, h => by simp at h
  | a :: L, 0, j, hj, _ => by
    rw [List.flatMap_cons, Nat.zero_mul, Nat.zero_add, List.getElem?_append_left (by rw [hf]; exact hj)]
    rfl
  | a :: L, k + 1, j, hj, h => by
    rw [List.flatMap_cons, List.getElem?_append_right (by rw [hf, Nat.succ_mul]; omega), hf, show (k + 1) * m + j - m = k * m + j by rw [Nat.succ_mul]; omega, flat_at f m hf L k j hj (by simpa using h)]
    rfl

theorem layC_len (st : St) (G : Int → Nat → Value) (i : Nat) : (layC st G i).length = 15 := rfl

/-- A list of layers in memory, from some place of a block on. -/
def LayAt (w : World) (v : Value) (st : St) (G : Int → Nat → Value) (L : List Nat) : Prop :=
  ∃ a c, v = .slice a L.length c ∧ (0 < L.length → L.length ≤ c ∧ ∃ b off, a = some ⟨b, off, none⟩ ∧ ∀ k (_ : k < L.length) j u, (layC st G L[k])[j]? = some u → w.cell? ⟨b, off + k * 15 + j, none⟩ = some u)

theorem LayAt.below {w w' : World} {v : Value} {st : St} {G : Int → Nat → Value} {L : List Nat} (h : LayAt w v st G L) (hb : Below w.heap.size w w') : LayAt w' v st G L := by
  obtain ⟨a, c, hv, hc⟩ := h
  refine ⟨a, c, hv, fun hl => ?_⟩
  obtain ⟨h1, b, off, ha, hcs⟩ := hc hl
  refine ⟨h1, b, off, ha, fun k hk j u hu => ?_⟩
  have h2 := hcs k hk j u hu
  exact (hb.cell (p := ⟨b, off + k * 15 + j, none⟩) (cell_lt h2)).trans h2

theorem OwnL.at {w : World} {base : Nat} {v : Value} {st : St} {G : Int → Nat → Value} {L : List Nat} (h : OwnL w base v st G L) : LayAt w v st G L := by
  obtain ⟨a, c, hv⟩ := row_form h
  refine ⟨a, c, hv, fun hl => ?_⟩
  obtain ⟨g, cap, e1, e2, e3⟩ := World.ownsRow.form h hl
  have hcap := own_cap (by have h9 := h; unfold OwnL at h9; rw [e1] at h9; exact h9)
  rw [hv] at e1
  injection e1 with e1 _ e4
  subst e1 e4
  refine ⟨hcap, g, 0, rfl, fun k hk j u hu => ?_⟩
  have hj : j < 15 := by
    have := (List.getElem?_eq_some_iff.1 hu).1
    rwa [layC_len] at this
  have hc := World.ownsRow.cells h (g := g) (by rw [hv]; rfl) (k * 15 + j) u (by rw [flat_at _ 15 (layC_len st G) L k j hj hk]; exact hu)
  rw [add_at] at hc
  rw [Nat.zero_add]
  exact hc

/-- The layers of a surface and of all that is on it. -/
def LaysOf (w : World) (st : St) (G : Int → Nat → Value) (blk : Int → Nat) (p : Int) : Prop :=
  Calls Tryz.prog 80 #[.pointer (some ⟨blk p, 0, none⟩), .slice none 0 0] w fun e w' => ∃ v', e = .returned v' ∧ OwnL w' w.heap.size v' st G (st.visAll p) ∧ Below w.heap.size w w'

theorem visAll_len {st : St} (hw : Wf st) {p : Int} (hp : Live st p) : (st.visAll p).length ≤ 13 := by
  have h1 := vis_len (st := st) (st.dfs p)
  have h2 := dfs_len hw (live_ge hp)
  have h3 : (st.visP p).length ≤ 1 := by
    unfold St.visP
    split
    · simp
    · exact vis_len _
  unfold St.visAll
  rw [List.length_append]
  omega

theorem PRaw.lays {w : World} {S : Nat → Prop} {x : Nat} {st : St} (hw : Wf st) {bv : Value} {sc mp : Nat} {blk : Int → Nat} {G : Int → Nat → Value} (h : PRaw w S x st bv sc mp blk G) {p : Int} (hp : Live st p) : LaysOf w st G blk p := by
  have := layers_of hw h (fun p hp W hW => view_any hw h p hp W hW) (st.need p) p hp (Nat.le_refl _) [] (.slice none 0 0) w (by have := visAll_len hw hp; simp; omega) (Below.refl _ _) (World.ownsRow_nil _ _ _ _)
  unfold LaysOf
  simpa using this

theorem visAll_sub {st : St} (hw : Wf st) {p : Int} (hp : Live st p) {i : Nat} (h : i ∈ st.visAll p) : i ∈ st.order := by
  unfold St.visAll at h
  rcases List.mem_append.1 h with h | h
  · unfold St.visP at h
    rcases hp with rfl | ⟨k, rfl, hk⟩
    · simp at h
    · rw [if_neg (nat_ne_top k), Int.toNat_natCast] at h
      unfold St.vis at h
      rw [List.mem_filter, List.mem_singleton] at h
      rw [h.1]
      exact hk
  · unfold St.vis at h
    rw [List.mem_filter] at h
    exact dfs_sub hw (live_ge hp) h.1

theorem PRaw.sl {w : World} {S : Nat → Prop} {x : Nat} {st : St} (hw : Wf st) {bv : Value} {sc mp : Nat} {blk : Int → Nat} {G : Int → Nat → Value} (h : PRaw w S x st bv sc mp blk G) {p : Int} (hp : Live st p) : ∀ i : Nat, i ∈ st.visAll p → (∃ a m c, G i 5 = .slice a m c) ∧ ∃ a m c, G i 30 = .slice a m c := fun i hi => by
  have q := (h.cells i (live_nat (visAll_sub hw hp hi))).nat
  obtain ⟨_, _, a, m, c, _, _, e⟩ := q.kep
  exact ⟨q.now.pix, a, m, c, e⟩

set_option maxRecDepth 100000 in
set_option maxHeartbeats 2000000 in
/-- (*Surface).seenParts -/
theorem seenParts_any {w : World} {st : St} (hw : Wf st) {blk : Int → Nat} {G : Int → Nat → Value} {p : Int} (hp : Live st p) (h : LaysOf w st G blk p) (hs : ∀ i : Nat, i ∈ st.visAll p → (∃ a m c, G i 5 = .slice a m c) ∧ ∃ a m c, G i 30 = .slice a m c) :
    Calls Tryz.prog 106 #[.pointer (some ⟨blk p, 0, none⟩)] w fun e w' => ∃ v, e = .returned v ∧ OwnR w' w.heap.size v ((st.visAll p).map st.seen) ∧ Below w.heap.size w w' := by
  have hl := visAll_len hw hp
  obtain ⟨L, hL⟩ : ∃ L, st.visAll p = L := ⟨_, rfl⟩
  unfold LaysOf at h
  rw [hL] at h hl hs ⊢
  have HLy := hide h
  obtain ⟨i0, hi0, hz0, hz1, hz2⟩ := info_parts rectInfo
  obtain ⟨n, hn⟩ : ∃ n, L.length = n := ⟨_, rfl⟩
  rw [hn] at hl
  have HN := hide hn
  have HS := hide hs
  obtain ⟨pb, hpb⟩ : ∃ pb, blk p = pb := ⟨_, rfl⟩
  rw [hpb] at HLy ⊢
  clear h hn hL hpb hs
  go_enter Tryz.func106, Tryz.ntmps106
  go_wp2_with (go_at_call 80; refine HLy.out.mono ?_; rintro e w1 ⟨v1, rfl, hv1, hb1⟩; have HV1 := hide hv1.at; obtain ⟨la, lc, hvf, _⟩ := hv1.at; rw [HN.out] at hvf; subst hvf; have HB1 := hide hb1; clear hv1 hb1)
  go_loopg [3, 9] n (fun gg s3 s9 wr => ∃ k : Nat, s9 = .int .i64 k ∧ gg + k = n ∧ OwnR wr w1.heap.size s3 ((L.take k).map st.seen) ∧ Below w1.heap.size w1 wr)
  case atStart => exact ⟨0, rfl, by omega, ⟨World.ownsRow_nil _ _ _ _, fun _ => rfl⟩, Below.refl _ _⟩
  case round =>
    rename World => wr
    obtain ⟨k, rfl, hgk, hown, hbel⟩ := hrel
    obtain ⟨ra, rcp, rfl⟩ := hown.form
    have hmm : ((L.take k).map st.seen).length = k := by rw [List.length_map, List.length_take]; have := HN.out; omega
    rw [hmm]
    have HMM := hide hmm
    have HX := hide (And.intro hown hbel)
    clear hmm
    cases gk with
    | zero =>
      have hlt : ¬ (k : Int) < (n : Int) := by omega
      clear hown hbel
      go_wp2
      go_ret
      have ho := HX.out.1
      have hfull : L.take k = L := List.take_of_length_le (by have := HN.out; omega)
      refine ⟨_, rfl, ?_, HB1.out.trans (HX.out.2.mono HB1.out.size)⟩
      rw [HMM.out, hfull] at ho
      exact ho.lower HB1.out.size
    | succ gk =>
      have hlt : (k : Int) < (n : Int) := by omega
      have hkL : k < L.length := by have := HN.out; omega
      obtain ⟨a', c', hv', hcs⟩ := HV1.out.below hbel
      injection hv' with e1 e2 e3
      subst e1 e3
      clear e2
      obtain ⟨hlc, b, off, ha, hcell⟩ := hcs (by omega)
      subst ha
      have hc := hcell k hkL
      obtain ⟨i, hi⟩ : ∃ i, L[k] = i := ⟨_, rfl⟩
      rw [hi] at hc
      obtain ⟨⟨pa, pm, pk, hp5⟩, ⟨ka, km, kk, hk5⟩⟩ := HS.out i (by rw [← hi]; exact List.getElem_mem hkL)
      unfold layC at hc
      rw [hp5, hk5] at hc
      have c0 := hc 0 _ rfl
      have c1 := hc 1 _ rfl
      have c2 := hc 2 _ rfl
      have c3 := hc 3 _ rfl
      have c4 := hc 4 _ rfl
      have c5 := hc 5 _ rfl
      have c6 := hc 6 _ rfl
      have c7 := hc 7 _ rfl
      have c8 := hc 8 _ rfl
      have c9 := hc 9 _ rfl
      have c10 := hc 10 _ rfl
      have c11 := hc 11 _ rfl
      have c12 := hc 12 _ rfl
      have c13 := hc 13 _ rfl
      have c14 := hc 14 _ rfl
      rw [Nat.add_zero] at c0
      have hbl := cell_lt c0
      have hkc : k < lc := by have := HN.out; omega
      have HI := hide hi
      have hsz := HX.out.2.size
      generalize st.px i = z1 at *
      generalize st.py i = z2 at *
      generalize (st.sf i).now.w = z3 at *
      generalize (st.sf i).now.h = z4 at *
      obtain ⟨R, hR⟩ : ∃ R, st.seen i = R := ⟨_, rfl⟩
      rw [hR] at c5 c6 c7 c8
      have HR := hide hR
      clear hown hbel hcs hcell hc hR hi hp5 hk5
      go_wp2_with (at_builtin; refine wpList_append_lies _ rfl _ _ 33 rfl w1.heap.size 53 i0 _ 4 32 Tryz.underlying33 hi0 hz0 hz1 hz2 rfl (by omega) (.slice ra k rcp) k (rectCells ((L.take k).map st.seen)) rfl (by have := HX.out.1; have h2 := HMM.out; have h3 := this.1; rw [h2] at h3; exact (h3.alloc _).alloc _) ⟨wr.heap.size + 1, 0, none⟩ 1 1 [.int .i64 R.1, .int .i64 R.2.1, .int .i64 R.2.2.1, .int .i64 R.2.2.2] rfl rfl (World.news_of_block (cs := #[.int .i64 R.1, .int .i64 R.2.1, .int .i64 R.2.2.1, .int .i64 R.2.2.2]) (t := 53) (fr := (0, 0)) (boxed_new wr _ _ 0)) (by simp [Value.oneCell']) (by omega) (by unfold maxLen; omega) (by omega) (by simp; omega) _ rfl ?_; intro gg cp w2 hown2 hgrow hat hlt2; have HO2 := hide (And.intro hown2 hgrow); clear hown2 hgrow hat)
      go_roundg gk
      case measure => omega
      case rel =>
        have hl2 : (L.take (k + 1)).map st.seen = (L.take k).map st.seen ++ [R] := by
          rw [List.take_succ_eq_append_getElem hkL, List.map_append, HI.out]
          simp [HR.out]
        have ho := HX.out.1.1
        have h2 := HMM.out
        rw [h2] at ho
        refine ⟨k + 1, by go_num, by omega, ?_, ?_⟩
        · rw [hl2]
          refine ⟨?_, fun h => by simp at h⟩
          rw [List.length_append, HMM.out, rectCells_append]
          exact HO2.out.1
        · exact ((HX.out.2.alloc hsz _).alloc (by simp; omega) _).grown HO2.out.2 (by simp; omega) fun b hb => (ho.lt b hb).1

theorem OwnV.lower {w : World} {base base' : Nat} {v : Value} {st : St} {L : List Nat} (h : OwnV w base v st L) (hb : base' ≤ base) : OwnV w base' v st L :=
  ⟨h.1, h.2.imp (fun h => h) fun ⟨g, c, cur, e1, e2, e3⟩ => ⟨g, c, cur, e1, Nat.le_trans hb e2, e3⟩⟩

set_option maxRecDepth 100000 in
set_option maxHeartbeats 2000000 in
/-- (*Scene).Views -/
theorem scViews_any {w : World} {st : St} (hw : Wf st) {blk : Int → Nat} {G : Int → Nat → Value} {sc : Nat} (hsc : w.cell? ⟨sc, 0, none⟩ = some (.pointer (some ⟨blk (-1), 0, none⟩))) (h : LaysOf w st G blk (-1)) (hs : ∀ i : Nat, i ∈ st.visAll (-1) → (∃ a m c, G i 5 = .slice a m c) ∧ ∃ a m c, G i 30 = .slice a m c) :
    Calls Tryz.prog 45 #[.pointer (some ⟨sc, 0, none⟩)] w (ViewsPost st w) := by
  have hl := visAll_len hw (live_top st)
  have hall : st.visAll (-1) = st.vis (st.dfs (-1)) := by
    unfold St.visAll St.visP
    simp
  unfold ViewsPost
  rw [← hall]
  obtain ⟨L, hL⟩ : ∃ L, st.visAll (-1) = L := ⟨_, rfl⟩
  unfold LaysOf at h
  rw [hL] at h hl hs ⊢
  have HLy := hide h
  obtain ⟨i0, hi0, hz0, hz1, hz2⟩ := info_parts viewInfo
  obtain ⟨n, hn⟩ : ∃ n, L.length = n := ⟨_, rfl⟩
  rw [hn] at hl
  have HN := hide hn
  have HS := hide hs
  obtain ⟨pb, hpb⟩ : ∃ pb, blk (-1) = pb := ⟨_, rfl⟩
  rw [hpb] at HLy hsc
  clear h hn hL hpb hs hall
  go_enter Tryz.func45, Tryz.ntmps45
  go_wp2_with (go_at_call 80; refine HLy.out.mono ?_; rintro e w1 ⟨v1, rfl, hv1, hb1⟩; have HV1 := hide hv1.at; obtain ⟨la, lc, hvf, _⟩ := hv1.at; rw [HN.out] at hvf; subst hvf; have HB1 := hide hb1; clear hv1 hb1)
  go_loopg [3, 12] n (fun gg s3 s12 wr => ∃ k : Nat, s12 = .int .i64 k ∧ gg + k = n ∧ OwnV wr w1.heap.size s3 st (L.take k) ∧ Below w1.heap.size w1 wr)
  case atStart => exact ⟨0, rfl, by omega, World.ownsRow_nil _ _ _ _, Below.refl _ _⟩
  case round =>
    rename World => wr
    obtain ⟨k, rfl, hgk, hown, hbel⟩ := hrel
    obtain ⟨ra, rcp, hrf⟩ := row_form hown
    have hmm : (L.take k).length = k := by rw [List.length_take]; have := HN.out; omega
    rw [hmm] at hrf
    subst hrf
    have HMM := hide hmm
    have HX := hide (And.intro hown hbel)
    clear hmm
    cases gk with
    | zero =>
      have hlt : ¬ (k : Int) < (n : Int) := by omega
      clear hown hbel
      go_wp2
      go_ret
      have ho := HX.out.1
      have hfull : L.take k = L := List.take_of_length_le (by have := HN.out; omega)
      refine ⟨_, rfl, ?_, HB1.out.trans (HX.out.2.mono HB1.out.size)⟩
      rw [hfull] at ho
      exact ho.lower HB1.out.size
    | succ gk =>
      have hlt : (k : Int) < (n : Int) := by omega
      have hkL : k < L.length := by have := HN.out; omega
      obtain ⟨a', c', hv', hcs⟩ := HV1.out.below hbel
      injection hv' with e1 e2 e3
      subst e1 e3
      clear e2
      obtain ⟨hlc, b, off, ha, hcell⟩ := hcs (by omega)
      subst ha
      have hc := hcell k hkL
      obtain ⟨i, hi⟩ : ∃ i, L[k] = i := ⟨_, rfl⟩
      rw [hi] at hc
      obtain ⟨⟨pa, pm, pk, hp5⟩, ⟨ka, km, kk, hk5⟩⟩ := HS.out i (by rw [← hi]; exact List.getElem_mem hkL)
      unfold layC at hc
      rw [hp5, hk5] at hc
      have c0 := hc 0 _ rfl
      have c1 := hc 1 _ rfl
      have c2 := hc 2 _ rfl
      have c3 := hc 3 _ rfl
      have c4 := hc 4 _ rfl
      have c5 := hc 5 _ rfl
      have c6 := hc 6 _ rfl
      have c7 := hc 7 _ rfl
      have c8 := hc 8 _ rfl
      have c9 := hc 9 _ rfl
      have c10 := hc 10 _ rfl
      have c11 := hc 11 _ rfl
      have c12 := hc 12 _ rfl
      have c13 := hc 13 _ rfl
      have c14 := hc 14 _ rfl
      rw [Nat.add_zero] at c0
      have hbl := cell_lt c0
      have hkc : k < lc := by have := HN.out; omega
      have HI := hide hi
      have hsz := HX.out.2.size
      obtain ⟨C, hC⟩ : ∃ C, vCells st i = C := ⟨_, rfl⟩
      have HC := hide hC
      unfold vCells at HC
      generalize st.px i = z1 at *
      generalize st.py i = z2 at *
      generalize (st.sf i).now.w = z3 at *
      generalize (st.sf i).now.h = z4 at *
      obtain ⟨R, hR⟩ : ∃ R, st.seen i = R := ⟨_, rfl⟩
      rw [hR] at c5 c6 c7 c8 HC
      have HR := hide (And.intro hR hC)
      clear hown hbel hcs hcell hc hR hi hp5 hk5 hC
      go_wp2_with (at_builtin; refine wpList_append_lies _ rfl _ _ 56 rfl w1.heap.size 59 i0 _ 9 72 Tryz.underlying56 hi0 hz0 hz1 hz2 rfl (by omega) (.slice ra k rcp) k ((L.take k).flatMap (vCells st)) rfl (by have := HX.out.1; have h2 := HMM.out; unfold OwnV at this; rw [h2] at this; exact (this.alloc _).alloc _) ⟨wr.heap.size + 1, 0, none⟩ 1 1 [.int .i64 (i : Int), .int .i64 z1, .int .i64 z2, .int .i64 z3, .int .i64 z4, .int .i64 R.1, .int .i64 R.2.1, .int .i64 R.2.2.1, .int .i64 R.2.2.2] rfl rfl (World.news_of_block (cs := #[.int .i64 (i : Int), .int .i64 z1, .int .i64 z2, .int .i64 z3, .int .i64 z4, .int .i64 R.1, .int .i64 R.2.1, .int .i64 R.2.2.1, .int .i64 R.2.2.2]) (t := 59) (fr := (0, 0)) (boxed_new wr _ _ 0)) (by simp [Value.oneCell']) (by omega) (by unfold maxLen; omega) (by omega) (by simp; omega) _ rfl ?_; intro gg cp w2 hown2 hgrow hat hlt2; have HO2 := hide (And.intro hown2 hgrow); clear hown2 hgrow hat)
      go_roundg gk
      case measure => omega
      case rel =>
        have ho := HX.out.1
        unfold OwnV at ho
        have h2 := HMM.out
        rw [h2] at ho
        refine ⟨k + 1, by go_num, by omega, ?_, ?_⟩
        · unfold OwnV
          rw [List.take_succ_eq_append_getElem hkL, List.length_append, HMM.out, List.flatMap_append, HI.out, List.flatMap_singleton, HR.out.2, ← HC.out]
          exact HO2.out.1
        · exact ((HX.out.2.alloc hsz _).alloc (by simp; omega) _).grown HO2.out.2 (by simp; omega) fun b hb => (ho.lt b hb).1

end Go.Proofs.YtofinpocigbbeaaGreat
