import Derived.Test.YtofinpocigbbeaaGreatKba
import Derived.Laws.Tables
namespace Go.Proofs.YtofinpocigbbeaaGreat
open Go.RowKit
attribute [local go_sem ↓] Go.wp_at_zero Go.wp_at_succ

def St.seenP (st : St) (p : Int) : R4 := meet (st.openL (st.chain p)) (st.px p, st.py p, st.px p + (lookP st p).w, st.py p + (lookP st p).h)

def viewC (st : St) (p : Int) : Array Value := #[.int .i64 p, .int .i64 (st.px p), .int .i64 (st.py p), .int .i64 (lookP st p).w, .int .i64 (lookP st p).h, .int .i64 (st.seenP p).1, .int .i64 (st.seenP p).2.1, .int .i64 (st.seenP p).2.2.1, .int .i64 (st.seenP p).2.2.2]

/-- What view has at hand. -/
structure ViewM (W wx : World) (sb : Nat) (x y : Int) (r : R4) : Prop where
  bel : Below W.heap.size W wx
  s : Blk wx sb 241 #[.int .i64 x, .int .i64 y, .int .i64 r.1, .int .i64 r.2.1, .int .i64 r.2.2.1, .int .i64 r.2.2.2]
  res : HasB wx W.heap.size 59 9
  lo : W.heap.size < sb

theorem ViewM.lt {W wx : World} {sb : Nat} {x y : Int} {r : R4} (h : ViewM W wx sb x y r) : sb < wx.heap.size := (Array.getElem?_eq_some_iff.1 h.s).1

theorem ViewM.cells {W wx : World} {sb : Nat} {x y : Int} {r : R4} (h : ViewM W wx sb x y r) : wx.cell? ⟨sb, 0, none⟩ = some (.int .i64 x) ∧ wx.cell? ⟨sb, 1, none⟩ = some (.int .i64 y) ∧ wx.cell? ⟨sb, 2, none⟩ = some (.int .i64 r.1) ∧ wx.cell? ⟨sb, 3, none⟩ = some (.int .i64 r.2.1) ∧ wx.cell? ⟨sb, 4, none⟩ = some (.int .i64 r.2.2.1) ∧ wx.cell? ⟨sb, 5, none⟩ = some (.int .i64 r.2.2.2) :=
  ⟨by rw [h.s.cell]; rfl, by rw [h.s.cell]; rfl, by rw [h.s.cell]; rfl, by rw [h.s.cell]; rfl, by rw [h.s.cell]; rfl, by rw [h.s.cell]; rfl⟩

theorem ViewM.below {W wx wy : World} {sb : Nat} {x y : Int} {r : R4} (h : ViewM W wx sb x y r) (hb : Below wx.heap.size wx wy) : ViewM W wy sb x y r :=
  ⟨h.bel.trans (hb.mono h.bel.size), (hb.block sb h.lt).trans h.s, h.res.keep (hb.block _ (Nat.lt_of_lt_of_le h.lo (Nat.le_of_lt h.lt))), h.lo⟩

/-- Nine cells are written. -/
theorem HasB.nine {w : World} {b : Nat} {T : TypeId} (h : HasB w b T 9) (u0 u1 u2 u3 u4 u5 u6 u7 u8 : Value) : Blk (((((((((w.setCell ⟨b, 0, none⟩ u0).setCell ⟨b, 1, none⟩ u1).setCell ⟨b, 2, none⟩ u2).setCell ⟨b, 3, none⟩ u3).setCell ⟨b, 4, none⟩ u4).setCell ⟨b, 5, none⟩ u5).setCell ⟨b, 6, none⟩ u6).setCell ⟨b, 7, none⟩ u7).setCell ⟨b, 8, none⟩ u8) b T #[u0, u1, u2, u3, u4, u5, u6, u7, u8] := by
  obtain ⟨cur, h1, h2⟩ := h
  have h3 : Blk w b T cur := h1
  have h4 := ((((((((h3.set 0 u0).set 1 u1).set 2 u2).set 3 u3).set 4 u4).set 5 u5).set 6 u6).set 7 u7).set 8 u8
  have e : ((((((((cur.setIfInBounds 0 u0).setIfInBounds 1 u1).setIfInBounds 2 u2).setIfInBounds 3 u3).setIfInBounds 4 u4).setIfInBounds 5 u5).setIfInBounds 6 u6).setIfInBounds 7 u7).setIfInBounds 8 u8 = #[u0, u1, u2, u3, u4, u5, u6, u7, u8] := by
    apply Array.ext_getElem?
    intro j
    match j with
    | 0 => simp [h2]
    | 1 => simp [h2]
    | 2 => simp [h2]
    | 3 => simp [h2]
    | 4 => simp [h2]
    | 5 => simp [h2]
    | 6 => simp [h2]
    | 7 => simp [h2]
    | 8 => simp [h2]
    | j + 9 =>
      rw [Array.getElem?_eq_none (by simp; omega), Array.getElem?_eq_none (by simp)]
  rw [e] at h4
  exact h4

theorem below_nine {B : Nat} {w wr : World} (h : Below B w wr) {b : Nat} (hb : B ≤ b) (u0 u1 u2 u3 u4 u5 u6 u7 u8 : Value) : Below B w (((((((((wr.setCell ⟨b, 0, none⟩ u0).setCell ⟨b, 1, none⟩ u1).setCell ⟨b, 2, none⟩ u2).setCell ⟨b, 3, none⟩ u3).setCell ⟨b, 4, none⟩ u4).setCell ⟨b, 5, none⟩ u5).setCell ⟨b, 6, none⟩ u6).setCell ⟨b, 7, none⟩ u7).setCell ⟨b, 8, none⟩ u8) := ((((((((h.setCell hb _).setCell hb _).setCell hb _).setCell hb _).setCell hb _).setCell hb _).setCell hb _).setCell hb _).setCell hb _

theorem ViewM.alloc {W wx : World} {sb : Nat} {x y : Int} {r : R4} (h : ViewM W wx sb x y r) (o : Obj) : ViewM W (wx.alloc o) sb x y r := h.below (al1 (Nat.le_refl _) o)

theorem ViewM.drew {W wx : World} {sb : Nat} {x y : Int} {r : R4} (h : ViewM W wx sb x y r) : ViewM W wx.drew sb x y r := h.below (Below.refl _ _).drew

/-- The spot is laid down. -/
theorem ViewM.store {W u : World} {sb : Nat} {x y : Int} {r : R4} (hb : Below W.heap.size W u) (hz : HasB u W.heap.size 59 9) (hs : HasB u sb 241 6) (hlo : W.heap.size < sb) :
    ViewM W (u.setRow sb #[.int .i64 x, .int .i64 y, .int .i64 r.1, .int .i64 r.2.1, .int .i64 r.2.2.1, .int .i64 r.2.2.2]) sb x y r := by
  obtain ⟨old, hs, _⟩ := hs
  refine ⟨⟨hb.os, hb.tape, hb.output, by rw [setRow_size]; exact hb.size, fun g hg => (setRow_other u sb g _ (by omega)).trans (hb.block g hg)⟩, setRow_heap u sb _ _ _ _ hs, hz.keep (setRow_other u sb _ _ (by omega)), hlo⟩

theorem hasB_at {u : World} {n : Nat} (hn : u.heap.size = n) : HasB (u.alloc (.cells #[.int .i64 0, .int .i64 0, .int .i64 0, .int .i64 0, .int .i64 0, .int .i64 0] 241)) n 241 6 := by
  subst hn
  exact HasB.new u _ _

theorem ViewM.finish {W wx : World} {sb : Nat} {x y : Int} {r : R4} (h : ViewM W wx sb x y r) (cs : Array Value) : Blk (wx.setRow W.heap.size cs) W.heap.size 59 cs ∧ Below W.heap.size W (wx.setRow W.heap.size cs) := by
  obtain ⟨cur, h1, h2⟩ := h.res
  exact ⟨setRow_heap wx _ _ _ _ _ h1, ⟨h.bel.os, h.bel.tape, h.bel.output, by rw [setRow_size]; exact h.bel.size, fun g hg => (setRow_other wx _ g _ (by omega)).trans (h.bel.block g hg)⟩⟩

theorem HasB.row {w : World} {g : Nat} {T : TypeId} {k : Nat} (h : HasB w g T k) (vs : List Value) (hs : vs.length = k) (h1 : ∀ v ∈ vs, v.oneCell' = true) :
    (storeCells ⟨g, 0, none⟩ vs 0).run Tryz.prog w = .ok () (w.setRow g vs.toArray) := by
  obtain ⟨cur, h2, h3⟩ := h
  have := run_storeCells_from (P := Tryz.prog) g T vs 0 cur w h2 (by omega) h1
  simpa using this

/-- All cells of a block are stored: told apart from the walk's own way. -/
def St9 (ad : Addr) (vs : List Value) : Sem Unit := storeCells ad vs 0

theorem to_nine (ad : Addr) (a0 a1 a2 a3 a4 a5 a6 a7 a8 : Int) : storeCells ad [.int .i64 a0, .int .i64 a1, .int .i64 a2, .int .i64 a3, .int .i64 a4, .int .i64 a5, .int .i64 a6, .int .i64 a7, .int .i64 a8] 0 = St9 ad [.int .i64 a0, .int .i64 a1, .int .i64 a2, .int .i64 a3, .int .i64 a4, .int .i64 a5, .int .i64 a6, .int .i64 a7, .int .i64 a8] := rfl

theorem to_six (ad : Addr) (a0 a1 a2 a3 a4 a5 : Int) : storeCells ad [.int .i64 a0, .int .i64 a1, .int .i64 a2, .int .i64 a3, .int .i64 a4, .int .i64 a5] 0 = St9 ad [.int .i64 a0, .int .i64 a1, .int .i64 a2, .int .i64 a3, .int .i64 a4, .int .i64 a5] := rfl

theorem run_nine {w : World} {g : Nat} (h : HasB w g 59 9) (a0 a1 a2 a3 a4 a5 a6 a7 a8 : Int) :
    (St9 ⟨g, 0, none⟩ [.int .i64 a0, .int .i64 a1, .int .i64 a2, .int .i64 a3, .int .i64 a4, .int .i64 a5, .int .i64 a6, .int .i64 a7, .int .i64 a8]).run Tryz.prog w = .ok () (w.setRow g #[.int .i64 a0, .int .i64 a1, .int .i64 a2, .int .i64 a3, .int .i64 a4, .int .i64 a5, .int .i64 a6, .int .i64 a7, .int .i64 a8]) :=
  h.row _ rfl (by simp [Value.oneCell'])

theorem run_six {w : World} {g : Nat} (h : HasB w g 241 6) (a0 a1 a2 a3 a4 a5 : Int) :
    (St9 ⟨g, 0, none⟩ [.int .i64 a0, .int .i64 a1, .int .i64 a2, .int .i64 a3, .int .i64 a4, .int .i64 a5]).run Tryz.prog w = .ok () (w.setRow g #[.int .i64 a0, .int .i64 a1, .int .i64 a2, .int .i64 a3, .int .i64 a4, .int .i64 a5]) :=
  h.row _ rfl (by simp [Value.oneCell'])

/-- An object of the spot's making. -/
def SpotO (o : Obj) : Prop := ∃ cs : Array Value, o = .cells cs 241 (0, 0) ∧ cs.size = 6

theorem spotO_new : SpotO (.cells #[.int .i64 0, .int .i64 0, .int .i64 0, .int .i64 0, .int .i64 0, .int .i64 0] 241) := ⟨_, rfl, rfl⟩

theorem hasB_alloc {u : World} {n : Nat} {o : Obj} : HasB (u.alloc o) n 241 6 ↔ (n = u.heap.size ∧ SpotO o) ∨ HasB u n 241 6 := by
  constructor
  · intro h
    by_cases e : n = u.heap.size
    · subst e
      obtain ⟨cs, h1, h2⟩ := h
      rw [heap_alloc_new] at h1
      injection h1 with h1
      exact .inl ⟨rfl, cs, h1, h2⟩
    · have hl := h.lt
      simp at hl
      exact .inr (h.keep (heap_old u o n (by omega)).symm)
  · rintro (⟨rfl, cs, rfl, h2⟩ | h)
    · exact ⟨cs, heap_alloc_new u _, h2⟩
    · exact h.alloc o

theorem hasB_drew {u : World} {n : Nat} {T : TypeId} {k : Nat} : HasB u.drew n T k ↔ HasB u n T k := Iff.rfl

theorem HasB.under {V u : World} {n : Nat} {T : TypeId} {k : Nat} (hb : Below V.heap.size V u) (h : HasB V n T k) : HasB u n T k := h.keep (hb.block n h.lt)

theorem Below.setRow {B : Nat} {w u : World} (h : Below B w u) {g : Nat} (hg : B ≤ g) (cs : Array Value) : Below B w (u.setRow g cs) :=
  ⟨h.os, h.tape, h.output, by rw [setRow_size]; exact h.size, fun b hb => (setRow_other u g b _ (by omega)).trans (h.block b hb)⟩

attribute [local go_sem high] to_nine to_six run_nine run_six
attribute [local go_sem] spotO_new hasB_alloc hasB_drew

set_option linter.unusedSimpArgs false in
set_option maxRecDepth 100000 in
set_option maxHeartbeats 4000000 in
/-- (*Surface).view -/
theorem view_any {w : World} {S : Nat → Prop} {x : Nat} {st : St} (hw : Wf st) {bv : Value} {sc mp : Nat} {blk : Int → Nat} {G : Int → Nat → Value} (h : PRaw w S x st bv sc mp blk G) (p : Int) (hp : Live st p) (W : World) (hW : Below w.heap.size w W) :
    Calls Tryz.prog 118 #[.pointer (some ⟨blk p, 0, none⟩)] W fun e w' => e = .returned (.agg (viewC st p)) ∧ Below W.heap.size W w' := by
  obtain ⟨kc, kf, kl⟩ := h.at hp
  have q := h.cells p hp
  have hgl : blk p < W.heap.size := Nat.lt_of_lt_of_le kl hW.size
  obtain ⟨pa, pm, pk, hpix⟩ := q.now.pix
  have hpix2 : G p 5 = .slice pa pm pk := hpix
  have HSp := hide (fun (W' : World) (hW' : Below W.heap.size W W') => spot_any hw h (p + 1).toNat p hp (Nat.le_refl _) W' (hW.trans (hW'.mono hW.size)))
  have HC : Hid (∀ (W' : World), Below W.heap.size W W' → blk p < W'.heap.size ∧ W'.cell? ⟨blk p, 0, none⟩ = some (.int .i64 p) ∧ W'.cell? ⟨blk p, 3, none⟩ = some (.int .i64 (lookP st p).w) ∧ W'.cell? ⟨blk p, 4, none⟩ = some (.int .i64 (lookP st p).h) ∧ W'.cell? ⟨blk p, 5, none⟩ = some (.slice pa pm pk)) := fun W' hW' => by
    have hb := hW.trans (hW'.mono hW.size)
    exact ⟨Nat.lt_of_lt_of_le hgl hW'.size, (hb.cell (p := ⟨blk p, 0, none⟩) kl).trans ((kc 0 (by omega)).trans (by rw [q.num])), (hb.cell (p := ⟨blk p, 3, none⟩) kl).trans ((kc 3 (by omega)).trans (by rw [show G p 3 = _ from q.now.w])), (hb.cell (p := ⟨blk p, 4, none⟩) kl).trans ((kc 4 (by omega)).trans (by rw [show G p 4 = _ from q.now.h])), (hb.cell (p := ⟨blk p, 5, none⟩) kl).trans ((kc 5 (by omega)).trans (by rw [hpix2]))⟩
  have hlook : LookOk (lookP st p) := by
    unfold lookP
    split
    · refine ⟨⟨by simp, by simp⟩, ⟨by simp, by simp⟩, ⟨by simp, by simp⟩, ⟨by simp, by simp⟩, ⟨by simp, by simp⟩, ⟨by simp, by simp⟩, ?_, ?_, fun k hk => by simp at hk; omega⟩
      · have := hw.ww
        exact ⟨by simp; omega, by simp; omega⟩
      · have := hw.hh
        exact ⟨by simp; omega, by simp; omega⟩
    · exact (hw.lk _).1
  have hpl : p < st.sfs.length := by
    rcases hp with rfl | ⟨i, rfl, hi⟩
    · omega
    · have := hw.lt hi; omega
  have ppl := px_lim hw p hpl
  have lw := hlook.w
  have lh := hlook.h
  have HMt : Hid (∀ W', Calls Tryz.prog 173 #[.agg (r4C (st.openL (st.chain p))), .agg (r4C (st.px p, st.py p, st.px p + (lookP st p).w, st.py p + (lookP st p).h))] W' fun e w' => e = .returned (.agg (r4C (st.seenP p))) ∧ Below W'.heap.size W' w') := fun W' => (meetP_any _ _ W').mono fun e w' ⟨h1, o1, o2, o3, h2⟩ => ⟨h1, by rw [h2]; exact al3 (Nat.le_refl _) o1 o2 o3⟩
  have HWd : Hid (∀ W', Calls Tryz.prog 157 #[.agg #[.int .i64 (lookP st p).w, .int .i64 (lookP st p).h, .slice pa pm pk]] W' fun e w' => e = .returned (.int .i64 (lookP st p).w) ∧ w' = W'.alloc (.cells #[.int .i64 (lookP st p).w, .int .i64 (lookP st p).h, .slice pa pm pk] 122)) := fun W' => width_any _ _ _ W'
  have HHt : Hid (∀ W', Calls Tryz.prog 158 #[.agg #[.int .i64 (lookP st p).w, .int .i64 (lookP st p).h, .slice pa pm pk]] W' fun e w' => e = .returned (.int .i64 (lookP st p).h) ∧ w' = W'.alloc (.cells #[.int .i64 (lookP st p).w, .int .i64 (lookP st p).h, .slice pa pm pk] 122)) := fun W' => height_any _ _ _ W'
  unfold viewC
  unfold spotC at HSp
  unfold r4C at HMt
  obtain ⟨X, hX⟩ : ∃ X, st.px p = X := ⟨_, rfl⟩
  obtain ⟨Y, hY⟩ : ∃ Y, st.py p = Y := ⟨_, rfl⟩
  obtain ⟨O, hO⟩ : ∃ O, st.openL (st.chain p) = O := ⟨_, rfl⟩
  obtain ⟨R, hR⟩ : ∃ R, st.seenP p = R := ⟨_, rfl⟩
  obtain ⟨a, ha⟩ : ∃ a, (lookP st p).w = a := ⟨_, rfl⟩
  obtain ⟨b, hb⟩ : ∃ b, (lookP st p).h = b := ⟨_, rfl⟩
  obtain ⟨gb, hgb⟩ : ∃ gb, blk p = gb := ⟨_, rfl⟩
  rw [hX, hY, hO, hgb] at HSp
  rw [hX, hY] at ppl
  rw [hX, hY, hO, hR, ha, hb] at HMt
  rw [ha, hb] at HWd HHt
  rw [ha, hb, hgb] at HC
  rw [ha] at lw
  rw [hb] at lh
  rw [hgb] at hgl
  rw [hX, hY, hR, ha, hb, hgb]
  simp only at HMt
  clear h kc kf kl q hpix hpix2 hlook hpl hX hY hO hR ha hb hgb hw
  go_enter Tryz.func118, Tryz.ntmps118
  go_upto_region 1 with fail
  have HZ : Hid (Below W.heap.size W (W.alloc (.cells #[.int .i64 0, .int .i64 0, .int .i64 0, .int .i64 0, .int .i64 0, .int .i64 0, .int .i64 0, .int .i64 0, .int .i64 0] 59)) ∧ HasB (W.alloc (.cells #[.int .i64 0, .int .i64 0, .int .i64 0, .int .i64 0, .int .i64 0, .int .i64 0, .int .i64 0, .int .i64 0, .int .i64 0] 59)) W.heap.size 59 9) := ⟨al1 (Nat.le_refl _) _, HasB.new W _ _⟩
  generalize W.alloc (.cells #[.int .i64 0, .int .i64 0, .int .i64 0, .int .i64 0, .int .i64 0, .int .i64 0, .int .i64 0, .int .i64 0, .int .i64 0] 59) = V0 at *
  obtain ⟨n0, d0, d3, d4, d5⟩ := HC.out V0 HZ.out.1
  have hWV : W.heap.size < V0.heap.size := HZ.out.2.lt
  have HS2 : Hid (∀ V' : World, Below V0.heap.size V0 V' → Calls Tryz.prog 172 #[.pointer (some ⟨gb, 0, none⟩)] V' fun e w' => e = .returned (.agg #[.int .i64 X, .int .i64 Y, .int .i64 O.1, .int .i64 O.2.1, .int .i64 O.2.2.1, .int .i64 O.2.2.2]) ∧ Below V'.heap.size V' w' ∧ Below V0.heap.size V0 w') := fun V' hV' => (HSp.out V' (HZ.out.1.trans (hV'.mono HZ.out.1.size))).mono fun e w' ⟨h1, h2⟩ => ⟨h1, h2, hV'.trans (h2.mono hV'.size)⟩
  have hgn : gb ≠ V0.heap.size := by omega
  have FG : Hid (∀ (W' : World), Below W.heap.size W W' → W'.cell? ⟨gb, 3, none⟩ = some (.int .i64 a) ∧ W'.cell? ⟨gb, 4, none⟩ = some (.int .i64 b) ∧ W'.cell? ⟨gb, 5, none⟩ = some (.slice pa pm pk)) := fun W' hW' => (HC.out W' hW').2.2
  go_cut [3, 4, 5] (fun s3 s4 s5 wx => ∃ sb, s3 = .pointer (some ⟨sb, 0, none⟩) ∧ s4 = .int .i64 a ∧ s5 = .int .i64 b ∧ Hid (ViewM W wx sb X Y O))
  case first =>
    go_region_held3 (fun w' => w'.cell? ⟨gb, 3, none⟩ = some (.int .i64 a) ∧ w'.cell? ⟨gb, 4, none⟩ = some (.int .i64 b) ∧ w'.cell? ⟨gb, 5, none⟩ = some (.slice pa pm pk))
      (first
        | (refine FG.out _ ?_; (repeat (first | with_reducible exact Below.refl _ _ | with_reducible exact HB1.out.2.1 | with_reducible exact HZ.out.1 | with_reducible refine Below.drew ?_ | with_reducible refine Below.setRow ?_ (by first | omega | (simp <;> omega)) _ | with_reducible refine Below.alloc ?_ (by first | omega | (simp <;> omega)) _)); done)
        | fail)
      (first
        | (go_at_call 172; refine (HS2.out _ ?_).mono ?_; (repeat (first | exact Below.refl _ _ | refine Below.drew ?_ | refine Below.alloc ?_ (by first | omega | (simp <;> omega)) _)); rintro e w1 ⟨rfl, hb1, B⟩; have n1 : V0.heap.size ≤ w1.heap.size := B.size; have HB1 := hide (And.intro hb1 (And.intro (HZ.out.1.trans (B.mono HZ.out.1.size)) (HZ.out.2.keep (B.block _ hWV)))); (try (have q0 := HasB.under (n := V0.heap.size) (T := 241) (k := 6) hb1; simp [spotO_new, hasB_alloc, hasB_drew] at q0)); (try (have q1 := HasB.under (n := V0.heap.size + 1) (T := 241) (k := 6) hb1; simp [spotO_new, hasB_alloc, hasB_drew] at q1)); (try (have q2 := HasB.under (n := V0.heap.size + 1 + 1) (T := 241) (k := 6) hb1; simp [spotO_new, hasB_alloc, hasB_drew] at q2)); clear B hb1)
        | (go_at_call 157; refine (HWd.out _).mono ?_; rintro e w2 ⟨rfl, rfl⟩)
        | (go_at_call 158; refine (HHt.out _).mono ?_; rintro e w3 ⟨rfl, rfl⟩)
        | fail)
    all_goals go_wp2_with fail
    all_goals go_meet
    all_goals refine ⟨_, rfl, rfl, rfl, ?_⟩
    all_goals unfold Hid
    all_goals (repeat (first
      | (with_reducible refine ViewM.store ?_ ?_ ?_ ?_)
      | (with_reducible refine ViewM.drew ?_)
      | (with_reducible refine ViewM.alloc ?_ _)))
    all_goals first
      | omega
      | ((repeat (first | with_reducible exact Below.refl _ _ | with_reducible exact HB1.out.2.1 | with_reducible exact HZ.out.1 | with_reducible refine Below.drew ?_ | with_reducible refine Below.setRow ?_ (by first | omega | (simp <;> omega)) _ | with_reducible refine Below.alloc ?_ (by first | omega | (simp <;> omega)) _)); done)
      | ((repeat (first | with_reducible exact HB1.out.2.2 | with_reducible assumption | with_reducible exact hasB_at (by simp) | with_reducible refine HasB.drew ?_ | with_reducible refine HasB.alloc ?_ _)); done)
  case rest =>
    obtain ⟨sb, rfl, rfl, rfl, HV1⟩ := hcut
    clear d0 d3 d4 d5 n0 hgn HS2 HZ
    obtain ⟨m0, m1, m2, m3, m4, m5⟩ := HV1.out.cells
    have hsl := HV1.out.lt
    have hsn : ¬ sb = wc.heap.size := by omega
    go_upto_region 3 with fail
    have HV2 : Hid (ViewM W (wc.alloc (.cells #[.int .i64 X, .int .i64 Y, .int .i64 (X + a), .int .i64 (Y + b)] 53)) sb X Y O ∧ Blk (wc.alloc (.cells #[.int .i64 X, .int .i64 Y, .int .i64 (X + a), .int .i64 (Y + b)] 53)) wc.heap.size 53 #[.int .i64 X, .int .i64 Y, .int .i64 (X + a), .int .i64 (Y + b)]) := ⟨HV1.out.alloc _, heap_alloc_new wc _⟩
    generalize X + a = XA at *
    generalize Y + b = YB at *
    have HRb : Hid (W.heap.size < wc.heap.size) := Nat.lt_trans HV1.out.lo HV1.out.lt
    clear m0 m1 m2 m3 m4 m5 hsl hsn HV1
    generalize wc.alloc (.cells #[.int .i64 X, .int .i64 Y, .int .i64 XA, .int .i64 YB] 53) = V1 at *
    generalize wc.heap.size = rb at *
    have FC : Hid (∀ wx : World, Below V1.heap.size V1 wx → wx.cell? ⟨gb, 0, none⟩ = some (.int .i64 p) ∧ wx.cell? ⟨sb, 0, none⟩ = some (.int .i64 X) ∧ wx.cell? ⟨sb, 1, none⟩ = some (.int .i64 Y) ∧ wx.cell? ⟨sb, 2, none⟩ = some (.int .i64 O.1) ∧ wx.cell? ⟨sb, 3, none⟩ = some (.int .i64 O.2.1) ∧ wx.cell? ⟨sb, 4, none⟩ = some (.int .i64 O.2.2.1) ∧ wx.cell? ⟨sb, 5, none⟩ = some (.int .i64 O.2.2.2) ∧ wx.cell? ⟨rb, 0, none⟩ = some (.int .i64 X) ∧ wx.cell? ⟨rb, 1, none⟩ = some (.int .i64 Y) ∧ wx.cell? ⟨rb, 2, none⟩ = some (.int .i64 XA) ∧ wx.cell? ⟨rb, 3, none⟩ = some (.int .i64 YB) ∧ (∃ q, wx.cell? ⟨W.heap.size, 0, none⟩ = some q) ∧ (∃ q, wx.cell? ⟨W.heap.size, 1, none⟩ = some q) ∧ (∃ q, wx.cell? ⟨W.heap.size, 2, none⟩ = some q) ∧ (∃ q, wx.cell? ⟨W.heap.size, 3, none⟩ = some q) ∧ (∃ q, wx.cell? ⟨W.heap.size, 4, none⟩ = some q) ∧ (∃ q, wx.cell? ⟨W.heap.size, 5, none⟩ = some q) ∧ (∃ q, wx.cell? ⟨W.heap.size, 6, none⟩ = some q) ∧ (∃ q, wx.cell? ⟨W.heap.size, 7, none⟩ = some q) ∧ (∃ q, wx.cell? ⟨W.heap.size, 8, none⟩ = some q) ∧ ∀ j, wx.frozen? ⟨W.heap.size, j, none⟩ = false) := fun wx hx => by
      have hm := HV2.out.1.below hx
      obtain ⟨a0, a1, a2, a3, a4, a5⟩ := hm.cells
      have hr : Blk wx rb 53 #[.int .i64 X, .int .i64 Y, .int .i64 XA, .int .i64 YB] := (hx.block rb (Array.getElem?_eq_some_iff.1 HV2.out.2).1).trans HV2.out.2
      exact ⟨(HC.out wx hm.bel).2.1, a0, a1, a2, a3, a4, a5, by rw [hr.cell]; rfl, by rw [hr.cell]; rfl, by rw [hr.cell]; rfl, by rw [hr.cell]; rfl, hm.res.cell 0 (by omega), hm.res.cell 1 (by omega), hm.res.cell 2 (by omega), hm.res.cell 3 (by omega), hm.res.cell 4 (by omega), hm.res.cell 5 (by omega), hm.res.cell 6 (by omega), hm.res.cell 7 (by omega), hm.res.cell 8 (by omega), fun j => hm.res.free j⟩
    obtain ⟨d0, m0, m1, m2, m3, m4, m5, t0, t1, t2, t3, _⟩ := FC.out V1 (Below.refl _ _)
    have FcS : Hid (∀ wx : World, Below V1.heap.size V1 wx → wx.cell? ⟨gb, 0, none⟩ = some (.int .i64 p) ∧ wx.cell? ⟨sb, 0, none⟩ = some (.int .i64 X) ∧ wx.cell? ⟨sb, 1, none⟩ = some (.int .i64 Y) ∧ wx.cell? ⟨sb, 2, none⟩ = some (.int .i64 O.1) ∧ wx.cell? ⟨sb, 3, none⟩ = some (.int .i64 O.2.1) ∧ wx.cell? ⟨sb, 4, none⟩ = some (.int .i64 O.2.2.1) ∧ wx.cell? ⟨sb, 5, none⟩ = some (.int .i64 O.2.2.2) ∧ wx.cell? ⟨rb, 0, none⟩ = some (.int .i64 X) ∧ wx.cell? ⟨rb, 1, none⟩ = some (.int .i64 Y) ∧ wx.cell? ⟨rb, 2, none⟩ = some (.int .i64 XA) ∧ wx.cell? ⟨rb, 3, none⟩ = some (.int .i64 YB)) := fun wx hx => by
      obtain ⟨q0, q1, q2, q3, q4, q5, q6, q7, q8, q9, q10, _⟩ := FC.out wx hx
      exact ⟨q0, q1, q2, q3, q4, q5, q6, q7, q8, q9, q10⟩
    have FS2 : Hid (∀ wx : World, Below V1.heap.size V1 wx → ∀ cs, (wx.setRow W.heap.size cs).cell? ⟨gb, 0, none⟩ = some (.int .i64 p) ∧ (wx.setRow W.heap.size cs).cell? ⟨sb, 0, none⟩ = some (.int .i64 X) ∧ (wx.setRow W.heap.size cs).cell? ⟨sb, 1, none⟩ = some (.int .i64 Y) ∧ (wx.setRow W.heap.size cs).cell? ⟨sb, 2, none⟩ = some (.int .i64 O.1) ∧ (wx.setRow W.heap.size cs).cell? ⟨sb, 3, none⟩ = some (.int .i64 O.2.1) ∧ (wx.setRow W.heap.size cs).cell? ⟨sb, 4, none⟩ = some (.int .i64 O.2.2.1) ∧ (wx.setRow W.heap.size cs).cell? ⟨sb, 5, none⟩ = some (.int .i64 O.2.2.2) ∧ (wx.setRow W.heap.size cs).cell? ⟨rb, 0, none⟩ = some (.int .i64 X) ∧ (wx.setRow W.heap.size cs).cell? ⟨rb, 1, none⟩ = some (.int .i64 Y) ∧ (wx.setRow W.heap.size cs).cell? ⟨rb, 2, none⟩ = some (.int .i64 XA) ∧ (wx.setRow W.heap.size cs).cell? ⟨rb, 3, none⟩ = some (.int .i64 YB)) := fun wx hx cs => by
      obtain ⟨q0, q1, q2, q3, q4, q5, q6, q7, q8, q9, q10⟩ := FcS.out wx hx
      have hs0 := HV2.out.1.lo
      have e1 : ∀ j, (wx.setRow W.heap.size cs).cell? ⟨sb, j, none⟩ = wx.cell? ⟨sb, j, none⟩ := fun j => cell_setRow_other _ _ _ _ (by show sb ≠ W.heap.size; omega)
      have e2 : ∀ j, (wx.setRow W.heap.size cs).cell? ⟨rb, j, none⟩ = wx.cell? ⟨rb, j, none⟩ := fun j => cell_setRow_other _ _ _ _ (by show rb ≠ W.heap.size; have := HRb.out; omega)
      have e0 : (wx.setRow W.heap.size cs).cell? ⟨gb, 0, none⟩ = wx.cell? ⟨gb, 0, none⟩ := cell_setRow_other _ _ _ _ (by show gb ≠ W.heap.size; omega)
      exact ⟨e0.trans q0, (e1 0).trans q1, (e1 1).trans q2, (e1 2).trans q3, (e1 3).trans q4, (e1 4).trans q5, (e1 5).trans q6, (e2 0).trans q7, (e2 1).trans q8, (e2 2).trans q9, (e2 3).trans q10⟩
    go_cut [] (fun wx => Hid (Blk wx W.heap.size 59 #[.int .i64 p, .int .i64 X, .int .i64 Y, .int .i64 a, .int .i64 b, .int .i64 R.1, .int .i64 R.2.1, .int .i64 R.2.2.1, .int .i64 R.2.2.2] ∧ Below W.heap.size W wx))
    case first =>
      go_region_held3 (fun w' => w'.cell? ⟨gb, 0, none⟩ = some (.int .i64 p) ∧ w'.cell? ⟨sb, 0, none⟩ = some (.int .i64 X) ∧ w'.cell? ⟨sb, 1, none⟩ = some (.int .i64 Y) ∧ w'.cell? ⟨sb, 2, none⟩ = some (.int .i64 O.1) ∧ w'.cell? ⟨sb, 3, none⟩ = some (.int .i64 O.2.1) ∧ w'.cell? ⟨sb, 4, none⟩ = some (.int .i64 O.2.2.1) ∧ w'.cell? ⟨sb, 5, none⟩ = some (.int .i64 O.2.2.2) ∧ w'.cell? ⟨rb, 0, none⟩ = some (.int .i64 X) ∧ w'.cell? ⟨rb, 1, none⟩ = some (.int .i64 Y) ∧ w'.cell? ⟨rb, 2, none⟩ = some (.int .i64 XA) ∧ w'.cell? ⟨rb, 3, none⟩ = some (.int .i64 YB))
        (first
          | with_reducible exact FS2.out _ HB2.out _
          | with_reducible exact FcS.out _ HB2.out
          | with_reducible exact FcS.out _ (Below.refl _ _)
          | with_reducible exact FcS.out _ (Below.refl _ _).drew
          | fail)
        (first
          | (go_at_call 173; refine (HMt.out _).mono ?_; rintro e w2 ⟨rfl, hb2⟩; have B2 := ((Below.refl V1.heap.size V1).drew).trans hb2; have q9 := (HV2.out.1.below B2).res; have HB2 := hide B2; clear B2 hb2)
          | fail)
      all_goals go_wp2_with fail
      all_goals go_meet
      all_goals exact (HV2.out.1.below HB2.out).finish _
    case rest =>
      have HF := hcut
      clear hcut d0 m0 m1 m2 m3 m4 m5 t0 t1 t2 t3 FC HV2 FcS FS2 HRb
      have g0 := HF.out.1.cell 0
      have g1 := HF.out.1.cell 1
      have g2 := HF.out.1.cell 2
      have g3 := HF.out.1.cell 3
      have g4 := HF.out.1.cell 4
      have g5 := HF.out.1.cell 5
      have g6 := HF.out.1.cell 6
      have g7 := HF.out.1.cell 7
      have g8 := HF.out.1.cell 8
      simp only [List.getElem?_toArray, List.getElem?_cons_zero, List.getElem?_cons_succ] at g0 g1 g2 g3 g4 g5 g6 g7 g8
      go_wp2_with fail
      exact bodyPost_ret (v := .agg #[.int .i64 p, .int .i64 X, .int .i64 Y, .int .i64 a, .int .i64 b, .int .i64 R.1, .int .i64 R.2.1, .int .i64 R.2.2.1, .int .i64 R.2.2.2]) (by simp [results, Tryz.results118, go_sem, g0, g1, g2, g3, g4, g5, g6, g7, g8]) rfl ⟨rfl, HF.out.2⟩

end Go.Proofs.YtofinpocigbbeaaGreat
