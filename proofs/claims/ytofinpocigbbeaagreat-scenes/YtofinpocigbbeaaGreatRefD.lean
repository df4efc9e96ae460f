import Derived.Test.YtofinpocigbbeaaGreatRefC
namespace Go.Proofs.YtofinpocigbbeaaGreat
open Go.RowKit
attribute [local go_sem ↓] Go.wp_at_zero Go.wp_at_succ

/-- What 'changed' has at hand: but for one block all is as it was. -/
structure ChM (W0 wr : World) (b : Nat) : Prop where
  gr : W0.grownBy wr (some b)
  out : IntB wr b 53 4

theorem ChM.set {W0 wr : World} {b : Nat} (h : ChM W0 wr b) (i : Nat) (x : Int) : ChM W0 (wr.setCell ⟨b, i, none⟩ (.int .i64 x)) b :=
  ⟨⟨h.gr.os, h.gr.tape, h.gr.output, by have := h.gr.size; simpa using this, fun k hk hne => by
    rw [heap_setCell_other wr ⟨b, i, none⟩ k _ (fun e => hne (by rw [e]))]
    exact h.gr.block k hk hne⟩, h.out.set i x⟩

theorem ChM.alloc {W0 wr : World} {b : Nat} (h : ChM W0 wr b) (o : Obj) : ChM W0 (wr.alloc o) b :=
  ⟨⟨h.gr.os, h.gr.tape, h.gr.output, by have := h.gr.size; simp; omega, fun k hk hne => by
    rw [heap_old wr o k (by have := h.gr.size; omega)]
    exact h.gr.block k hk hne⟩, h.out.alloc o⟩

theorem ChM.drewN {W0 wr : World} {b : Nat} (h : ChM W0 wr b) (n : Nat) : ChM W0 (wr.drewN n) b := ⟨⟨h.gr.os, h.gr.tape, h.gr.output, h.gr.size, h.gr.block⟩, h.out⟩

theorem chW0 (w : World) (a b x y : Int) (t : Bool) (c0 c1 c2 c3 : Int) (pa : Option Addr) (pm pc : Nat) (r : R4) :
    let W0 := ((w.alloc (.cells #[.int .i64 r.1, .int .i64 r.2.1, .int .i64 r.2.2.1, .int .i64 r.2.2.2] 53)).alloc (.cells #[.int .i64 a, .int .i64 b, .slice pa pm pc, .int .i64 x, .int .i64 y, .bool t, .int .i64 c0, .int .i64 c1, .int .i64 c2, .int .i64 c3, .slice none 0 0] 212)).alloc (.cells #[.int .i64 0, .int .i64 0, .int .i64 0, .int .i64 0] 53)
    Below w.heap.size w W0 ∧ W0.heap.size = w.heap.size + 3 ∧ W0.cell? ⟨w.heap.size, 0, none⟩ = some (.int .i64 r.1) ∧ W0.cell? ⟨w.heap.size, 1, none⟩ = some (.int .i64 r.2.1) ∧ W0.cell? ⟨w.heap.size, 2, none⟩ = some (.int .i64 r.2.2.1) ∧ W0.cell? ⟨w.heap.size, 3, none⟩ = some (.int .i64 r.2.2.2) ∧ W0.cell? ⟨w.heap.size + 1, 0, none⟩ = some (.int .i64 a) ∧ W0.cell? ⟨w.heap.size + 1, 2, none⟩ = some (.slice pa pm pc) ∧ IntB W0 (w.heap.size + 2) 53 4 := by
  intro W0
  have z1 : (w.alloc (.cells #[.int .i64 r.1, .int .i64 r.2.1, .int .i64 r.2.2.1, .int .i64 r.2.2.2] 53)).heap.size = w.heap.size + 1 := by simp
  have b1 : Blk (w.alloc (.cells #[.int .i64 r.1, .int .i64 r.2.1, .int .i64 r.2.2.1, .int .i64 r.2.2.2] 53)) w.heap.size 53 #[.int .i64 r.1, .int .i64 r.2.1, .int .i64 r.2.2.1, .int .i64 r.2.2.2] := heap_alloc_new w _
  have hb1 := (Below.refl w.heap.size w).alloc (Nat.le_refl _) (.cells #[.int .i64 r.1, .int .i64 r.2.1, .int .i64 r.2.2.1, .int .i64 r.2.2.2] 53)
  unfold W0
  generalize w.alloc (.cells #[.int .i64 r.1, .int .i64 r.2.1, .int .i64 r.2.2.1, .int .i64 r.2.2.2] 53) = W1 at *
  have b2 : Blk (W1.alloc (.cells #[.int .i64 a, .int .i64 b, .slice pa pm pc, .int .i64 x, .int .i64 y, .bool t, .int .i64 c0, .int .i64 c1, .int .i64 c2, .int .i64 c3, .slice none 0 0] 212)) W1.heap.size 212 #[.int .i64 a, .int .i64 b, .slice pa pm pc, .int .i64 x, .int .i64 y, .bool t, .int .i64 c0, .int .i64 c1, .int .i64 c2, .int .i64 c3, .slice none 0 0] := heap_alloc_new W1 _
  have b1' := b1.alloc (.cells #[.int .i64 a, .int .i64 b, .slice pa pm pc, .int .i64 x, .int .i64 y, .bool t, .int .i64 c0, .int .i64 c1, .int .i64 c2, .int .i64 c3, .slice none 0 0] 212)
  have z2 : (W1.alloc (.cells #[.int .i64 a, .int .i64 b, .slice pa pm pc, .int .i64 x, .int .i64 y, .bool t, .int .i64 c0, .int .i64 c1, .int .i64 c2, .int .i64 c3, .slice none 0 0] 212)).heap.size = W1.heap.size + 1 := by simp
  have hb2 := hb1.alloc (by omega) (.cells #[.int .i64 a, .int .i64 b, .slice pa pm pc, .int .i64 x, .int .i64 y, .bool t, .int .i64 c0, .int .i64 c1, .int .i64 c2, .int .i64 c3, .slice none 0 0] 212)
  generalize W1.alloc (.cells #[.int .i64 a, .int .i64 b, .slice pa pm pc, .int .i64 x, .int .i64 y, .bool t, .int .i64 c0, .int .i64 c1, .int .i64 c2, .int .i64 c3, .slice none 0 0] 212) = W2 at *
  rw [z1] at b2 z2
  have b3 : Blk (W2.alloc (.cells #[.int .i64 0, .int .i64 0, .int .i64 0, .int .i64 0] 53)) W2.heap.size 53 (r4C (0, 0, 0, 0)) := heap_alloc_new W2 _
  rw [z2] at b3
  have b1'' := b1'.alloc (.cells #[.int .i64 0, .int .i64 0, .int .i64 0, .int .i64 0] 53)
  have b2' := b2.alloc (.cells #[.int .i64 0, .int .i64 0, .int .i64 0, .int .i64 0] 53)
  exact ⟨hb2.alloc (by omega) _, by simp [z2], b1''.cell 0, b1''.cell 1, b1''.cell 2, b1''.cell 3, b2'.cell 0, b2'.cell 2, b3.ints4⟩

set_option maxRecDepth 100000 in
set_option maxHeartbeats 2000000 in
/-- (*Screen).changed: a rectangle, whatever it is, or none. -/
theorem changed_any {S S' : Nat → Prop} {c : Nat} {st : St} (hw : Wf st) (id : Nat) (hid : id < st.sfs.length) (vo : Value) (w : World) (h : RefOk w S c st) (hold : PixRow w S' vo ((st.sf id).now.w * (st.sf id).now.h)) :
    Calls Tryz.prog 132 #[.pointer (some ⟨c, 0, none⟩), .int .i64 id, vo] w (PartsPost w) := by
  have hSeen := seen_any id w h hw hid
  have hPl := fun (W : World) (hW : Below w.heap.size w W) => place_any (S := S) (c := c) (st := st) id W (h.keep fun g _ hg => hW.block g hg) hw hid
  obtain ⟨bv, sv, ov, F, hr, hs⟩ := h
  obtain ⟨k0, k1, k2, k3, k4, kf, kl⟩ := hr.cells
  obtain ⟨g, cap, e1, e2, e3, e4, e5, e6⟩ := hr.at (by omega)
  subst e1
  obtain ⟨n, hn⟩ : ∃ n, st.sfs.length = n := ⟨_, rfl⟩
  have hmd := hw.made
  have hidn : id < n := by omega
  rw [hn] at k3 e3 hmd
  have hR := hs.rel id hid
  have c2 := e5 id hid 2 (by omega)
  have c3 := e5 id hid 3 (by omega)
  have c4 := e5 id hid 4 (by omega)
  have c5 := e5 id hid 5 (by omega)
  have c6 := e5 id hid 6 (by omega)
  have c7 := e5 id hid 7 (by omega)
  have c8 := e5 id hid 8 (by omega)
  have c9 := e5 id hid 9 (by omega)
  have c10 := e5 id hid 10 (by omega)
  have c11 := e5 id hid 11 (by omega)
  have c12 := e5 id hid 12 (by omega)
  obtain ⟨pa, pm, pc, hpx, _⟩ := (hs.pixN id hid).form
  have hpix := hs.pixN id hid
  rw [hpx] at hpix
  rw [hR.nw] at c2; rw [hR.nh] at c3; rw [hpx] at c4; rw [hR.nx] at c5; rw [hR.ny] at c6; rw [hR.ncut] at c7; rw [hR.n0] at c8; rw [hR.n1] at c9; rw [hR.n2] at c10; rw [hR.n3] at c11; rw [hR.nhint] at c12
  have lk := (hw.lk id).1
  have pl := px_lim hw id (by omega)
  obtain ⟨r, hr0⟩ : ∃ r, nrm (st.seen id) = r := ⟨_, rfl⟩
  have hbox := seen_box hr0
  rw [hr0] at hSeen
  unfold r4C at hSeen
  have lw := lk.w
  have lh := lk.h
  obtain ⟨PX, hPX⟩ : ∃ p, st.px id = p := ⟨_, rfl⟩
  obtain ⟨PY, hPY⟩ : ∃ p, st.py id = p := ⟨_, rfl⟩
  rw [hPX, hPY] at pl hbox hPl
  obtain ⟨oa, om, oc, hof, _⟩ := hold.form
  subst hof
  generalize (st.sf id).now = N at *
  have HS := hide hSeen
  have HP := hide hPl
  have HX := hide (And.intro hpix hold)
  have hicap : id < cap := by omega
  have hbx : r = (0, 0, 0, 0) ∨ (r.1 < r.2.2.1 ∧ r.2.1 < r.2.2.2 ∧ PX ≤ r.1 ∧ r.2.2.1 ≤ PX + N.w ∧ PY ≤ r.2.1 ∧ r.2.2.2 ≤ PY + N.h) := hbox
  have hle : r.2.1 ≤ r.2.2.2 ∧ r.1 ≤ r.2.2.1 := by
    rcases hbx with h | h
    · rw [h]; exact ⟨Int.le_refl _, Int.le_refl _⟩
    · omega
  have HBox := hide hbx
  have hlim : -100000 ≤ r.1 ∧ r.1 ≤ 100000 ∧ -100000 ≤ r.2.1 ∧ r.2.1 ≤ 100000 ∧ -100000 ≤ r.2.2.1 ∧ r.2.2.1 ≤ 100000 ∧ -100000 ≤ r.2.2.2 ∧ r.2.2.2 ≤ 100000 := by
    rcases hbx with h | h
    · rw [h]; simp
    · omega
  clear hr hs kf hn e5 e6 hR hpx lk hr0 hSeen hPl hpix hold hbox hbx
  go_enter Tryz.func132, Tryz.ntmps132
  go_wp2_with (first
    | (go_at_call 134; refine HS.out.mono ?_; rintro e w1 ⟨rfl, hb1⟩; have HB1 := hide hb1; have hs1 := hb1.size; have kl1 : c < w1.heap.size := (by omega); have hg1 : g < w1.heap.size := (by omega); have t3 := (hb1.cell (p := ⟨c, 3, none⟩) kl).trans k3; have t := (fun o => hb1.cell (p := ⟨g, id * 28 + o, none⟩) e4); have c2 := (t 2).trans c2; have c3 := (t 3).trans c3; have c4 := (t 4).trans c4; have c5 := (t 5).trans c5; have c6 := (t 6).trans c6; have c7 := (t 7).trans c7; have c8 := (t 8).trans c8; have c9 := (t 9).trans c9; have c10 := (t 10).trans c10; have c11 := (t 11).trans c11; have c12 := (t 12).trans c12; clear t hb1)
    | (go_at_call 135; refine (HP.out _ (HB1.out.alloc hs1 _)).mono ?_; rintro e w' ⟨rfl, hw'⟩; replace hw' := hw'.symm; subst hw'))
  have F0 := chW0 w1 N.w N.h N.x N.y N.cut N.clip.1 N.clip.2.1 N.clip.2.2.1 N.clip.2.2.2 pa pm pc r
  generalize ((w1.alloc (.cells #[.int .i64 r.1, .int .i64 r.2.1, .int .i64 r.2.2.1, .int .i64 r.2.2.2] 53)).alloc (.cells #[.int .i64 N.w, .int .i64 N.h, .slice pa pm pc, .int .i64 N.x, .int .i64 N.y, .bool N.cut, .int .i64 N.clip.1, .int .i64 N.clip.2.1, .int .i64 N.clip.2.2.1, .int .i64 N.clip.2.2.2, .slice none 0 0] 212)).alloc (.cells #[.int .i64 0, .int .i64 0, .int .i64 0, .int .i64 0] 53) = W0 at *
  obtain ⟨f1, f2, f3, f4, f5, f6, f7, f8, f9⟩ := F0
  have HC : Hid (∀ W, ChM W0 W (w1.heap.size + 2) → W.cell? ⟨w1.heap.size, 0, none⟩ = some (.int .i64 r.1) ∧ W.cell? ⟨w1.heap.size, 1, none⟩ = some (.int .i64 r.2.1) ∧ W.cell? ⟨w1.heap.size, 2, none⟩ = some (.int .i64 r.2.2.1) ∧ W.cell? ⟨w1.heap.size, 3, none⟩ = some (.int .i64 r.2.2.2) ∧ W.cell? ⟨w1.heap.size + 1, 0, none⟩ = some (.int .i64 N.w) ∧ W.cell? ⟨w1.heap.size + 1, 2, none⟩ = some (.slice pa pm pc) ∧ PixRow W S (.slice pa pm pc) (N.w * N.h) ∧ PixRow W S' (.slice oa om oc) (N.w * N.h)) := by
    intro W hW
    have hb : ∀ k, k < w1.heap.size + 2 → W.heap[k]? = W0.heap[k]? := fun k hk => hW.gr.block k (by omega) (by simp; omega)
    have hk2 : ∀ k, k < w.heap.size → W.heap[k]? = w.heap[k]? := fun k hk => by rw [hb k (by omega), f1.block k (by omega), HB1.out.block k hk]
    have cc : ∀ (b j : Nat), b < w1.heap.size + 2 → W.cell? ⟨b, j, none⟩ = W0.cell? ⟨b, j, none⟩ := fun b j hb2 => World.cell?_of_block (a := ⟨b, j, none⟩) (hb b hb2)
    have pk : ∀ {Q : Nat → Prop} {v : Value} {z : Int}, PixRow w Q v z → PixRow W Q v z := fun {Q v z} hq => hq.other fun b cur hc => hk2 b (Array.getElem?_eq_some_iff.1 hc).1
    exact ⟨(cc _ _ (by omega)).trans f3, (cc _ _ (by omega)).trans f4, (cc _ _ (by omega)).trans f5, (cc _ _ (by omega)).trans f6, (cc _ _ (by omega)).trans f7, (cc _ _ (by omega)).trans f8, pk HX.out.1, pk HX.out.2⟩
  have hM0 : ChM W0 W0 (w1.heap.size + 2) := ⟨⟨rfl, rfl, rfl, Nat.le_refl _, fun _ _ _ => rfl⟩, f9⟩
  have HFin : Hid (∀ W, ChM W0 W (w1.heap.size + 2) → Below w.heap.size w W) := by
    intro W hW
    have h1 : Below w.heap.size w W0 := HB1.out.trans (f1.mono hs1)
    exact h1.grown hW.gr h1.size fun k hk => by cases hk; omega
  have HM0 := hide hM0
  clear hM0 f1 f3 f4 f5 f6 f7 f8 f9 c2 c3 c4 c5 c6 c7 c8 c9 c10 c11 c12 t3 k0 k1 k2 k3 k4
  go_loopg [12, 13] (r.2.2.2 - r.2.1).toNat (fun gg s12 s13 wr => ∃ (any : Bool) (y : Int), s12 = .bool any ∧ s13 = .int .i64 y ∧ r.2.1 ≤ y ∧ (gg : Int) + y = r.2.2.2 ∧ ChM W0 wr (w1.heap.size + 2))
  case atStart => exact ⟨false, r.2.1, rfl, rfl, by omega, by omega, HM0.out⟩
  case round =>
    rename World => wo
    rename Nat => gO
    obtain ⟨any, y, rfl, rfl, hy1, hy2, hM⟩ := hrel
    obtain ⟨q0, q1, q2, q3, q4, q5, q6, q7⟩ := HC.out wo hM
    have HMo := hide hM
    have hso := hM.gr.size
    cases gO with
    | zero =>
      have hlt : ¬ y < r.2.2.2 := by omega
      obtain ⟨o0, p0⟩ := hM.out.at 0 (by omega)
      obtain ⟨o1, p1⟩ := hM.out.at 1 (by omega)
      obtain ⟨o2, p2⟩ := hM.out.at 2 (by omega)
      obtain ⟨o3, p3⟩ := hM.out.at 3 (by omega)
      clear hM q6 q7
      cases any with
      | false =>
        go_wp2
        go_ret
        exact ⟨_, [], rfl, ⟨World.ownsRow_nil _ _ _ _, fun _ => rfl⟩, by simp, HFin.out _ HMo.out⟩
      | true =>
        go_wp2
        go_ret
        refine ⟨_, [(o0, o1, o2, o3)], rfl, ⟨⟨rfl, .inr ⟨wo.heap.size, 1, _, rfl, ?_, heap_alloc_new wo _, Nat.le_refl _, by unfold maxLen; omega, rfl, rfl⟩⟩, fun h => by simp at h⟩, by simp, (HFin.out _ HMo.out).alloc (HFin.out _ HMo.out).size _⟩
        exact (HFin.out _ HMo.out).size
    | succ gO =>
      have hlt : y < r.2.2.2 := by omega
      clear hM q6 q7
      go_wp2
      go_loopg [12, 14] (r.2.2.1 - r.1).toNat (fun gg s12 s14 wr => ∃ (any : Bool) (x : Int), s12 = .bool any ∧ s14 = .int .i64 x ∧ r.1 ≤ x ∧ (gg : Int) + x = r.2.2.1 ∧ ChM W0 wr (w1.heap.size + 2))
      case atStart => exact ⟨any, r.1, rfl, rfl, by omega, by omega, HMo.out⟩
      case round =>
        rename World => wi
        obtain ⟨any2, x, rfl, rfl, hx1, hx2, hM⟩ := hrel
        clear q0 q1 q2 q3 q4 q5
        obtain ⟨q0, q1, q2, q3, q4, q5, q6, q7⟩ := HC.out wi hM
        have HMi := hide hM
        have hsi := hM.gr.size
        obtain ⟨o0, p0⟩ := hM.out.at 0 (by omega)
        obtain ⟨o1, p1⟩ := hM.out.at 1 (by omega)
        obtain ⟨o2, p2⟩ := hM.out.at 2 (by omega)
        obtain ⟨o3, p3⟩ := hM.out.at 3 (by omega)
        have v0 := hM.out.has.free 0
        have v1 := hM.out.has.free 1
        have v2 := hM.out.has.free 2
        have v3 := hM.out.has.free 3
        cases gk with
        | zero =>
          have hltx : ¬ x < r.2.2.1 := by omega
          clear hM q6 q7
          have w8 : IntKind.i64.wrap (y + 1) = y + 1 := by rw [IntKind.wrap_i64]; omega
          go_wp2
          go_roundg gO
          case measure => omega
          case rel => exact ⟨any2, y + 1, rfl, rfl, by omega, by omega, HMi.out⟩
        | succ gi =>
          have hltx : x < r.2.2.1 := by omega
          have hb9 : PX ≤ r.1 ∧ r.2.2.1 ≤ PX + N.w ∧ PY ≤ r.2.1 ∧ r.2.2.2 ≤ PY + N.h := by
            rcases HBox.out with h | h
            · rw [h] at hlt hltx hy1; simp at hlt hltx hy1; omega
            · omega
          have hat := pix_at (W := N.w) (H := N.h) (x := x - PX) (y := y - PY) (by omega) (by omega)
          have hWH : N.w * N.h ≤ 24 * 24 := Int.mul_le_mul (by omega) (by omega) (by omega) (by omega)
          obtain ⟨yW, hyW⟩ : ∃ z, (y - PY) * N.w = z := ⟨_, rfl⟩
          rw [hyW] at hat
          obtain ⟨kk, hkk⟩ : ∃ k : Nat, (k : Int) = yW + (x - PX) := ⟨(yW + (x - PX)).toNat, by omega⟩
          have w1' : IntKind.i64.wrap (y - PY) = y - PY := by rw [IntKind.wrap_i64]; omega
          have w2' : IntKind.i64.wrap ((y - PY) * N.w) = yW := by rw [IntKind.wrap_i64]; omega
          have w3' : IntKind.i64.wrap (yW + x) = yW + x := by rw [IntKind.wrap_i64]; omega
          have w4' : IntKind.i64.wrap (yW + x - PX) = (kk : Int) := by rw [IntKind.wrap_i64]; omega
          have hkW : (kk : Int) < N.w * N.h := by omega
          obtain ⟨pg, pcap, pm', ep, hpm, hpc, _, a1, a2, a3, a4, m1, m2, m3, m4⟩ := q6.at hkW
          obtain ⟨og, ocap, om', eo, hom, hoc, _, b1, b2, b3, b4, n1, n2, n3, n4⟩ := q7.at hkW
          injection ep with ep1 ep2 ep3
          injection eo with eo1 eo2 eo3
          subst ep1 ep3 eo1 eo3
          have hk1 : (kk : Int) < (pm : Int) := by omega
          have hk2 : (kk : Int) < (om : Int) := by omega
          have hk3 : kk < pc := by omega
          have hk4 : kk < oc := by omega
          have hk0 : (0 : Int) ≤ (kk : Int) := by omega
          have w5 : IntKind.i64.wrap (x + 1) = x + 1 := by rw [IntKind.wrap_i64]; omega
          have w6 : IntKind.i64.wrap (y + 1) = y + 1 := by rw [IntKind.wrap_i64]; omega
          have heq := eqPx a1 a2 a3 a4 b1 b2 b3 b4
          obtain ⟨t, ht⟩ : ∃ t, (a1 == b1 && (a2 == b2 && (a3 == b3 && a4 == b4))) = t := ⟨_, rfl⟩
          rw [ht] at heq
          clear hM q6 q7 ht hyW hkk hat hWH hpm hom hkW ep2 eo2 hpc hoc
          cases t with
          | true =>
            go_upto_region 13 with fail
            go_quiet (fail)
            go_wp2
            go_roundg gi
            case measure => omega
            case rel => exact ⟨any2, x + 1, rfl, rfl, by omega, by omega, HMi.out.drewN _⟩
          | false =>
            go_upto_region 13 with fail
            go_quiet (fail)
            have hMz := HMi.out.drewN nq
            clear p0 p1 p2 p3 v0 v1 v2 v3
            generalize wi.drewN nq = wz at *
            obtain ⟨o0, p0⟩ := hMz.out.at 0 (by omega)
            obtain ⟨o1, p1⟩ := hMz.out.at 1 (by omega)
            obtain ⟨o2, p2⟩ := hMz.out.at 2 (by omega)
            obtain ⟨o3, p3⟩ := hMz.out.at 3 (by omega)
            have v0 := hMz.out.has.free 0
            have v1 := hMz.out.has.free 1
            have v2 := hMz.out.has.free 2
            have v3 := hMz.out.has.free 3
            have hzs := hMz.gr.size
            have pl0 : ¬ w1.heap.size + 2 = wz.heap.size := by omega
            have pl1 : w1.heap.size + 2 < wz.heap.size := by omega
            have HMz := hide hMz
            clear hMz q0 q1 q2 q3 q4 q5 m1 m2 m3 m4 n1 n2 n3 n4 heq
            cases any2 with
            | false =>
              go_wp2
              all_goals
                go_roundg gi
                case measure => omega
                case rel => exact ⟨true, x + 1, rfl, rfl, by omega, by omega, by repeat (first | exact HMz.out | refine ChM.set ?_ _ _ | refine ChM.alloc ?_ _)⟩
            | true =>
              go_wp2
              all_goals
                go_roundg gi
                case measure => omega
                case rel => exact ⟨true, x + 1, rfl, rfl, by omega, by omega, by repeat (first | exact HMz.out | refine ChM.set ?_ _ _ | refine ChM.alloc ?_ _)⟩

end Go.Proofs.YtofinpocigbbeaaGreat
