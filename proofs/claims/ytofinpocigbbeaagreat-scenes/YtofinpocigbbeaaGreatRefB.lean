import Derived.Test.YtofinpocigbbeaaGreatRefS
import Derived.Test.YtofinpocigbbeaaGreatHb
import Derived.Deep.RegionHeld3
namespace Go.Proofs.YtofinpocigbbeaaGreat
open Go.RowKit
attribute [local go_sem ↓] Go.wp_at_zero Go.wp_at_succ

/-- What seen has at hand. -/
structure SeenM (w wx : World) (rb : Nat) (r : R4) : Prop where
  bel : Below w.heap.size w wx
  r : Blk wx rb 53 (r4C r)
  lo : w.heap.size + 2 ≤ rb
  res : HasB wx w.heap.size 53 4
  n : HasB wx (w.heap.size + 1) 212 11

theorem seenW0 (w : World) (a b x y : Int) (t : Bool) (c0 c1 c2 c3 : Int) (pa : Option Addr) (pm pc : Nat) :
    Below w.heap.size w ((w.alloc (.cells #[.int .i64 0, .int .i64 0, .int .i64 0, .int .i64 0] 53)).alloc (.cells #[.int .i64 a, .int .i64 b, .slice pa pm pc, .int .i64 x, .int .i64 y, .bool t, .int .i64 c0, .int .i64 c1, .int .i64 c2, .int .i64 c3, .slice none 0 0] 212)) ∧
    ((w.alloc (.cells #[.int .i64 0, .int .i64 0, .int .i64 0, .int .i64 0] 53)).alloc (.cells #[.int .i64 a, .int .i64 b, .slice pa pm pc, .int .i64 x, .int .i64 y, .bool t, .int .i64 c0, .int .i64 c1, .int .i64 c2, .int .i64 c3, .slice none 0 0] 212)).heap.size = w.heap.size + 2 ∧
    ((w.alloc (.cells #[.int .i64 0, .int .i64 0, .int .i64 0, .int .i64 0] 53)).alloc (.cells #[.int .i64 a, .int .i64 b, .slice pa pm pc, .int .i64 x, .int .i64 y, .bool t, .int .i64 c0, .int .i64 c1, .int .i64 c2, .int .i64 c3, .slice none 0 0] 212)).cell? ⟨w.heap.size + 1, 0, none⟩ = some (.int .i64 a) ∧
    ((w.alloc (.cells #[.int .i64 0, .int .i64 0, .int .i64 0, .int .i64 0] 53)).alloc (.cells #[.int .i64 a, .int .i64 b, .slice pa pm pc, .int .i64 x, .int .i64 y, .bool t, .int .i64 c0, .int .i64 c1, .int .i64 c2, .int .i64 c3, .slice none 0 0] 212)).cell? ⟨w.heap.size + 1, 1, none⟩ = some (.int .i64 b) ∧
    HasB ((w.alloc (.cells #[.int .i64 0, .int .i64 0, .int .i64 0, .int .i64 0] 53)).alloc (.cells #[.int .i64 a, .int .i64 b, .slice pa pm pc, .int .i64 x, .int .i64 y, .bool t, .int .i64 c0, .int .i64 c1, .int .i64 c2, .int .i64 c3, .slice none 0 0] 212)) w.heap.size 53 4 ∧
    HasB ((w.alloc (.cells #[.int .i64 0, .int .i64 0, .int .i64 0, .int .i64 0] 53)).alloc (.cells #[.int .i64 a, .int .i64 b, .slice pa pm pc, .int .i64 x, .int .i64 y, .bool t, .int .i64 c0, .int .i64 c1, .int .i64 c2, .int .i64 c3, .slice none 0 0] 212)) (w.heap.size + 1) 212 11 := by
  have z : (w.alloc (.cells #[.int .i64 0, .int .i64 0, .int .i64 0, .int .i64 0] 53)).heap.size = w.heap.size + 1 := by simp
  have n1 := HasB.new w #[.int .i64 0, .int .i64 0, .int .i64 0, .int .i64 0] 53
  have b1 := (Below.refl w.heap.size w).alloc (Nat.le_refl _) (.cells #[.int .i64 0, .int .i64 0, .int .i64 0, .int .i64 0] 53)
  have n1' : HasB (w.alloc (.cells #[.int .i64 0, .int .i64 0, .int .i64 0, .int .i64 0] 53)) w.heap.size 53 4 := n1
  clear n1
  generalize w.alloc (.cells #[.int .i64 0, .int .i64 0, .int .i64 0, .int .i64 0] 53) = W1 at *
  rw [← z]
  have hb := heap_alloc_new W1 (.cells #[.int .i64 a, .int .i64 b, .slice pa pm pc, .int .i64 x, .int .i64 y, .bool t, .int .i64 c0, .int .i64 c1, .int .i64 c2, .int .i64 c3, .slice none 0 0] 212)
  exact ⟨b1.alloc (by omega) _, by simp [z], cell_of_row _ _ 0 _ _ _ hb, cell_of_row _ _ 1 _ _ _ hb, n1'.alloc _, ⟨_, hb, rfl⟩⟩

/-- The next clip has cut. -/
theorem SeenM.next {w wn wz : World} {rb : Nat} {r r' : R4} (h : SeenM w wn rb r) (hz : Below wn.heap.size wn wz) : SeenM w ((((wz.setCell ⟨rb, 0, none⟩ (.int .i64 r'.1)).setCell ⟨rb, 1, none⟩ (.int .i64 r'.2.1)).setCell ⟨rb, 2, none⟩ (.int .i64 r'.2.2.1)).setCell ⟨rb, 3, none⟩ (.int .i64 r'.2.2.2)) rb r' := by
  have hlo := h.lo
  have h1 := h.bel.size
  have hr : HasB wz rb 53 4 := h.r.has.keep (hz.block rb h.r.has.lt)
  have hn := h.n.keep (hz.block _ h.n.lt)
  have hs := h.res.keep (hz.block _ h.res.lt)
  exact ⟨below_four (h.bel.trans (hz.mono h1)) (by omega) _ _ _ _, hr.four _ _ _ _, hlo, hs.keep (other_four (by omega) _ _ _ _), hn.keep (other_four (by omega) _ _ _ _)⟩

/-- What it is at now. -/
theorem SeenM.store {w wr : World} {rb : Nat} {r : R4} (h : SeenM w wr rb r) (u0 u1 u2 u3 u4 u5 u6 u7 u8 u9 u10 : Value) : ∃ wn, (((((((((((wr.setCell ⟨w.heap.size + 1, 0, none⟩ u0).setCell ⟨w.heap.size + 1, 1, none⟩ u1).setCell ⟨w.heap.size + 1, 2, none⟩ u2).setCell ⟨w.heap.size + 1, 3, none⟩ u3).setCell ⟨w.heap.size + 1, 4, none⟩ u4).setCell ⟨w.heap.size + 1, 5, none⟩ u5).setCell ⟨w.heap.size + 1, 6, none⟩ u6).setCell ⟨w.heap.size + 1, 7, none⟩ u7).setCell ⟨w.heap.size + 1, 8, none⟩ u8).setCell ⟨w.heap.size + 1, 9, none⟩ u9).setCell ⟨w.heap.size + 1, 10, none⟩ u10) = wn ∧ SeenM w wn rb r ∧ Blk wn (w.heap.size + 1) 212 #[u0, u1, u2, u3, u4, u5, u6, u7, u8, u9, u10] := by
  have hlo := h.lo
  have e := h.n.eleven u0 u1 u2 u3 u4 u5 u6 u7 u8 u9 u10
  refine ⟨_, rfl, ⟨below_eleven h.bel (by omega) _ _ _ _ _ _ _ _ _ _ _, ?_, h.lo, h.res.keep (other_eleven (by omega) _ _ _ _ _ _ _ _ _ _ _), e.has⟩, e⟩
  exact (other_eleven (by omega) _ _ _ _ _ _ _ _ _ _ _).trans h.r

theorem SeenM.of {w W0 W1 wx : World} {r : R4} {rb : Nat} (h0 : Below w.heap.size w W0 ∧ HasB W0 w.heap.size 53 4 ∧ HasB W0 (w.heap.size + 1) 212 11) (hz : W0.heap.size = w.heap.size + 2) (h1 : Below W0.heap.size W0 W1) (h2 : Below (W1.heap.size + 1) (W1.alloc (.cells (r4C r) 53)) wx) (hrb : rb = W1.heap.size) : SeenM w wx rb r := by
  have z1 := h1.size
  have z2 : (W1.alloc (.cells (r4C r) 53)).heap.size = W1.heap.size + 1 := by simp
  have hk : ∀ k, k < W0.heap.size → wx.heap[k]? = W0.heap[k]? := fun k hk => by
    rw [h2.block k (by omega), heap_old W1 _ k (by omega), h1.block k hk]
  subst hrb
  refine ⟨?_, ?_, by omega, h0.2.1.keep (hk _ (by omega)), h0.2.2.keep (hk _ (by omega))⟩
  · have b1 := h0.1.trans (h1.mono (by omega))
    exact (b1.alloc (by omega) _).trans (h2.mono (by omega))
  · exact (h2.block W1.heap.size (by omega)).trans (heap_alloc_new W1 _)

set_option maxRecDepth 100000 in
set_option maxHeartbeats 4000000 in
/-- (*Screen).seen -/
theorem seen_any {S : Nat → Prop} {c : Nat} {st : St} (id : Nat) (w : World) (h : RefOk w S c st) (hw : Wf st) (hid : id < st.sfs.length) :
    Calls Tryz.prog 134 #[.pointer (some ⟨c, 0, none⟩), .int .i64 id] w fun e w' => e = .returned (.agg (r4C (nrm (st.seen id)))) ∧ Below w.heap.size w w' := by
  have HR := hide h
  have HP := hide (fun (i : Nat) (hi : i < st.sfs.length) (W : World) (hW : Below w.heap.size w W) => place_any (S := S) (c := c) (st := st) i W (h.keep fun g _ hg => hW.block g hg) hw hi)
  obtain ⟨bv, sv, ov, F, hr, hs⟩ := h
  obtain ⟨k0, k1, k2, k3, k4, kf, kl⟩ := hr.cells
  obtain ⟨g, cap, e1, e2, e3, e4, e5, e6⟩ := hr.at (by omega)
  subst e1
  have hsr := seen_ref st id
  obtain ⟨n, hn⟩ : ∃ n, st.sfs.length = n := ⟨_, rfl⟩
  obtain ⟨res, hres⟩ : ∃ b, nrm (st.seen id) = b := ⟨_, rfl⟩
  rw [hres] at hsr
  rw [hres]
  have hmd := hw.made
  rw [hn] at k3 e3 hmd hid
  have HH := hide (And.intro hr (And.intro hs (And.intro hn (And.intro hw hsr))))
  have HE := hide e5
  have HC : Hid (∀ W, Below w.heap.size w W → W.cell? ⟨c, 0, none⟩ = some (.int .i64 st.w) ∧ W.cell? ⟨c, 1, none⟩ = some (.int .i64 st.h) ∧ W.cell? ⟨c, 3, none⟩ = some (.slice (some ⟨g, 0, none⟩) n cap)) := fun W hW => ⟨(hW.cell (p := ⟨c, 0, none⟩) kl).trans k0, (hW.cell (p := ⟨c, 1, none⟩) kl).trans k1, (hW.cell (p := ⟨c, 3, none⟩) kl).trans k3⟩
  have hiL : id < st.sfs.length := by omega
  have hR := hs.rel id hiL
  have c2 := e5 id hiL 2 (by omega)
  have c3 := e5 id hiL 3 (by omega)
  have c4 := e5 id hiL 4 (by omega)
  have c5 := e5 id hiL 5 (by omega)
  have c6 := e5 id hiL 6 (by omega)
  have c7 := e5 id hiL 7 (by omega)
  have c8 := e5 id hiL 8 (by omega)
  have c9 := e5 id hiL 9 (by omega)
  have c10 := e5 id hiL 10 (by omega)
  have c11 := e5 id hiL 11 (by omega)
  have c12 := e5 id hiL 12 (by omega)
  obtain ⟨pa, pm, pc, hpx, _⟩ := (hs.pixN id hiL).form
  rw [hR.nw] at c2; rw [hR.nh] at c3; rw [hpx] at c4; rw [hR.nx] at c5; rw [hR.ny] at c6; rw [hR.ncut] at c7; rw [hR.n0] at c8; rw [hR.n1] at c9; rw [hR.n2] at c10; rw [hR.n3] at c11; rw [hR.nhint] at c12
  have lk := (hw.lk id).1
  have pl := px_lim hw id (by omega)
  have HB0 : Hid (st.buf id = (0 + st.px id, 0 + st.py id, (st.sf id).now.w + st.px id, (st.sf id).now.h + st.py id)) := rfl
  obtain ⟨PX, hPX⟩ : ∃ p, st.px id = p := ⟨_, rfl⟩
  obtain ⟨PY, hPY⟩ : ∃ p, st.py id = p := ⟨_, rfl⟩
  rw [hPX, hPY] at pl HB0
  have lw := lk.w
  have lh := lk.h
  have HPX := hide (And.intro hPX hPY)
  have hicap : id < cap := by omega
  generalize (st.sf id).now = N at *
  clear hr hs kf hn e5 e6 hw hsr hR hpx hres lk hiL
  have hMv : ∃ M0 M1 M2 M3 : Int, (0 + PX, 0 + PY, N.w + PX, N.h + PY) = (M0, M1, M2, M3) ∧ ∀ W, Calls Tryz.prog 181 #[.agg #[.int .i64 0, .int .i64 0, .int .i64 N.w, .int .i64 N.h], .int .i64 PX, .int .i64 PY] W fun e w' => e = .returned (.agg #[.int .i64 M0, .int .i64 M1, .int .i64 M2, .int .i64 M3]) ∧ ∃ o1 o2, w' = (W.alloc o1).alloc o2 :=
    ⟨_, _, _, _, rfl, fun W => moved_any 0 0 N.w N.h PX PY W (by omega) (by omega) (by omega) (by omega) (by omega) (by omega)⟩
  obtain ⟨M0, M1, M2, M3, hMe, hMv⟩ := hMv
  have hSh : ∃ r : R4, nrm (meet (0, 0, st.w, st.h) (M0, M1, M2, M3)) = r ∧ ∀ W, Calls Tryz.prog 180 #[.agg #[.int .i64 0, .int .i64 0, .int .i64 st.w, .int .i64 st.h], .agg #[.int .i64 M0, .int .i64 M1, .int .i64 M2, .int .i64 M3]] W fun en w' => en = .returned (.agg #[.int .i64 r.1, .int .i64 r.2.1, .int .i64 r.2.2.1, .int .i64 r.2.2.2]) ∧ ∃ o1 o2 o3, w' = ((W.alloc o1).alloc o2).alloc o3 := ⟨_, rfl, fun W => shared_any _ _ _ _ _ _ _ _ W⟩
  obtain ⟨r0, hr0, hSh⟩ := hSh
  have HR0 : Hid (nrm (meet (0, 0, st.w, st.h) (st.buf id)) = r0) := by rw [HB0.out, hMe]; exact hr0
  clear hr0 hMe
  go_enter Tryz.func134, Tryz.ntmps134
  go_upto_region 3 with (go_at_call 135; refine (HP.out id (by have := HH.out.2.2.1; omega) _ ?_).mono ?_; exact (Below.refl _ _).alloc (Nat.le_refl _) _; rintro e w' ⟨rfl, hw'⟩; replace hw' := hw'.symm; subst hw')
  have F0 := seenW0 w N.w N.h N.x N.y N.cut N.clip.1 N.clip.2.1 N.clip.2.2.1 N.clip.2.2.2 pa pm pc
  generalize (w.alloc (.cells #[.int .i64 0, .int .i64 0, .int .i64 0, .int .i64 0] 53)).alloc (.cells #[.int .i64 N.w, .int .i64 N.h, .slice pa pm pc, .int .i64 N.x, .int .i64 N.y, .bool N.cut, .int .i64 N.clip.1, .int .i64 N.clip.2.1, .int .i64 N.clip.2.2.1, .int .i64 N.clip.2.2.2, .slice none 0 0] 212) = W0 at *
  obtain ⟨f1, f2, f3, f4, f5, f6⟩ := F0
  have FC : Hid (∀ W, Below W0.heap.size W0 W → W.cell? ⟨c, 0, none⟩ = some (.int .i64 st.w) ∧ W.cell? ⟨c, 1, none⟩ = some (.int .i64 st.h) ∧ W.cell? ⟨w.heap.size + 1, 0, none⟩ = some (.int .i64 N.w) ∧ W.cell? ⟨w.heap.size + 1, 1, none⟩ = some (.int .i64 N.h)) := fun W hW =>
    ⟨(HC.out W (f1.trans (hW.mono (by omega)))).1, (HC.out W (f1.trans (hW.mono (by omega)))).2.1, (hW.cell (p := ⟨w.heap.size + 1, 0, none⟩) (by show w.heap.size + 1 < W0.heap.size; omega)).trans f3, (hW.cell (p := ⟨w.heap.size + 1, 1, none⟩) (by show w.heap.size + 1 < W0.heap.size; omega)).trans f4⟩
  have g0 := (FC.out W0 (Below.refl _ _)).1
  have g1 := (FC.out W0 (Below.refl _ _)).2.1
  clear k0 k1 c2 c3 c4 c5 c6 c7 c8 c9 c10 c11 c12
  have FM := hide (And.intro f1 (And.intro f5 f6))
  clear f1 f5 f6
  go_cut [8] (fun s8 wx => ∃ rb, s8 = .pointer (some ⟨rb, 0, none⟩) ∧ SeenM w wx rb r0)
  case first =>
    go_region_held3 (fun w' => w'.cell? ⟨c, 0, none⟩ = some (.int .i64 st.w) ∧ w'.cell? ⟨c, 1, none⟩ = some (.int .i64 st.h) ∧ w'.cell? ⟨w.heap.size + 1, 0, none⟩ = some (.int .i64 N.w) ∧ w'.cell? ⟨w.heap.size + 1, 1, none⟩ = some (.int .i64 N.h))
      (first
        | (refine FC.out _ ?_; (repeat (first | exact Below.refl _ _ | refine Below.drew ?_ | refine Below.alloc ?_ (by first | omega | (simp <;> omega)) _))))
      (first
        | (go_at_call 181; refine (hMv _).mono ?_; rintro e w' ⟨rfl, o1, o2, rfl⟩)
        | (go_at_call 180; refine (hSh _).mono ?_; rintro e w' ⟨rfl, o3, o4, o5, rfl⟩)
        | fail)
    all_goals go_wp2_with fail
    all_goals go_meet
    all_goals
      first
        | exact ⟨_, rfl, SeenM.of (W1 := ((((W0.alloc o1).alloc o2).alloc o3).alloc o4).alloc o5) FM.out f2 (al5 (Nat.le_refl _) o1 o2 o3 o4 o5) (Below.refl _ _).drew (by simp [f2])⟩
        | exact ⟨_, rfl, SeenM.of (W1 := (W0.alloc o1).alloc o2) FM.out f2 (al2 (Nat.le_refl _) o1 o2) (al3 (by simp) o3 o4 o5).drew (by simp [f2])⟩
        | exact ⟨_, rfl, SeenM.of (W1 := W0) FM.out f2 (Below.refl _ W0) (al5 (by simp) o1 o2 o3 o4 o5).drew f2.symm⟩
  case rest =>
    obtain ⟨rb, rfl, hM⟩ := hcut
    clear hMv hSh g0 g1 f3 f4
    have HM := hide hM
    clear hM
    go_wp2
    go_loopg [1, 5, 6] (id + 1) (fun gg s1 s5 s6 wr => ∃ (k x y : Int) (r : R4), s1 = .int .i64 k ∧ s5 = .int .i64 x ∧ s6 = .int .i64 y ∧ -1 ≤ k ∧ k < gg ∧ gg ≤ id + 1 ∧ (st.chain k).foldl st.cutN r = res ∧ SeenM w wr rb r)
    case atStart => exact ⟨id, PX, PY, r0, rfl, rfl, rfl, by omega, by omega, by omega, by rw [← HR0.out]; exact HH.out.2.2.2.2, HM.out⟩
    case round =>
      rename World => wr
      obtain ⟨k, x, y, r, rfl, rfl, rfl, hk1, hk2, hk3, hk4, hM⟩ := hrel
      have HK := hide hk4
      have HMr := hide hM
      have r0c := (hM.r.cell 0)
      have r1c := (hM.r.cell 1)
      have r2c := (hM.r.cell 2)
      have r3c := (hM.r.cell 3)
      simp only [r4C, List.getElem?_toArray, List.getElem?_cons_zero, List.getElem?_cons_succ] at r0c r1c r2c r3c
      have hlo := hM.lo
      have hbz := hM.bel.size
      by_cases h0 : k = -1
      · subst h0
        obtain ⟨q0, p0⟩ := hM.res.cell 0 (by omega)
        obtain ⟨q1, p1⟩ := hM.res.cell 1 (by omega)
        obtain ⟨q2, p2⟩ := hM.res.cell 2 (by omega)
        obtain ⟨q3, p3⟩ := hM.res.cell 3 (by omega)
        have z0 := hM.res.free 0
        have z1 := hM.res.free 1
        have z2 := hM.res.free 2
        have z3 := hM.res.free 3
        have hrr : r = res := by rw [← hk4, chain_neg st (by omega)]; rfl
        have HB := hide (And.intro hM.bel hM.res)
        clear hM hk4
        subst hrr
        go_wp2
        have b4 := HB.out.2.four (.int .i64 r.1) (.int .i64 r.2.1) (.int .i64 r.2.2.1) (.int .i64 r.2.2.2)
        have b5 := below_four HB.out.1 (Nat.le_refl _) (.int .i64 r.1) (.int .i64 r.2.1) (.int .i64 r.2.2.1) (.int .i64 r.2.2.2)
        generalize (((wr.setCell ⟨w.heap.size, 0, none⟩ (.int .i64 r.1)).setCell ⟨w.heap.size, 1, none⟩ (.int .i64 r.2.1)).setCell ⟨w.heap.size, 2, none⟩ (.int .i64 r.2.2.1)).setCell ⟨w.heap.size, 3, none⟩ (.int .i64 r.2.2.2) = wz at *
        have d0 : wz.cell? ⟨w.heap.size, 0, none⟩ = some (.int .i64 r.1) := b4.cell 0
        have d1 : wz.cell? ⟨w.heap.size, 1, none⟩ = some (.int .i64 r.2.1) := b4.cell 1
        have d2 : wz.cell? ⟨w.heap.size, 2, none⟩ = some (.int .i64 r.2.2.1) := b4.cell 2
        have d3 : wz.cell? ⟨w.heap.size, 3, none⟩ = some (.int .i64 r.2.2.2) := b4.cell 3
        have HB5 := hide b5
        clear b5 b4
        exact bodyPost_ret (v := .agg (r4C r)) (by simp [results, Tryz.results134, go_sem, d0, d1, d2, d3, r4C]) rfl ⟨rfl, HB5.out⟩
      · obtain ⟨i, rfl⟩ : ∃ i : Nat, k = i := ⟨k.toNat, by omega⟩
        have hi : i < st.sfs.length := by have := HH.out.2.2.1; omega
        have hR := HH.out.2.1.rel i hi
        have lk := (HH.out.2.2.2.1.lk i).1
        have pl2 := px_lim HH.out.2.2.2.1 i (by omega)
        have hp := HH.out.2.2.2.1.par i
        have hcs : ∀ o, o < 28 → wr.cell? ⟨g, i * 28 + o, none⟩ = some (F i o) := fun o ho => (hM.bel.cell (p := ⟨g, i * 28 + o, none⟩) e4).trans (HE.out i hi o ho)
        have k3' := (HC.out wr hM.bel).2.2
        have c1 := hcs 1 (by omega)
        have c2 := hcs 2 (by omega)
        have c3 := hcs 3 (by omega)
        have c4 := hcs 4 (by omega)
        have c5 := hcs 5 (by omega)
        have c6 := hcs 6 (by omega)
        have c7 := hcs 7 (by omega)
        have c8 := hcs 8 (by omega)
        have c9 := hcs 9 (by omega)
        have c10 := hcs 10 (by omega)
        have c11 := hcs 11 (by omega)
        have c12 := hcs 12 (by omega)
        obtain ⟨pa2, pm2, pc2, hpx2, _⟩ := (HH.out.2.1.pixN i hi).form
        rw [hR.parent] at c1; rw [hR.nw] at c2; rw [hR.nh] at c3; rw [hpx2] at c4; rw [hR.nx] at c5; rw [hR.ny] at c6; rw [hR.ncut] at c7; rw [hR.n0] at c8; rw [hR.n1] at c9; rw [hR.n2] at c10; rw [hR.n3] at c11; rw [hR.nhint] at c12
        have HSt := hide (chain_step HH.out.2.2.2.1.par i)
        have HCt : Hid (st.cutN r i = if (st.sf i).now.cut = true then nrm (meet r (mv (st.sf i).now.clip (st.px i) (st.py i))) else r) := rfl
        have HPc := hide (HP.out i hi)
        obtain ⟨QX, hQX⟩ : ∃ p, st.px i = p := ⟨_, rfl⟩
        obtain ⟨QY, hQY⟩ : ∃ p, st.py i = p := ⟨_, rfl⟩
        obtain ⟨P, hPar⟩ : ∃ p, (st.sf i).parent = p := ⟨_, rfl⟩
        rw [hQX, hQY] at pl2 HCt HPc
        rw [hPar] at c1 hp HSt
        obtain ⟨⟨a0, a1, a2, a3⟩, hcl⟩ : ∃ p, (st.sf i).now.clip = p := ⟨_, rfl⟩
        have l0 := lk.c0
        have l1 := lk.c1
        have l2 := lk.c2
        have l3 := lk.c3
        rw [hcl] at c8 c9 c10 c11 HCt l0 l1 l2 l3
        simp only at c8 c9 c10 c11 l0 l1 l2 l3
        obtain ⟨tc, htc⟩ : ∃ p, (st.sf i).now.cut = p := ⟨_, rfl⟩
        rw [htc] at c7 HCt
        obtain ⟨qq, hqq⟩ : ∃ q : Nat → Value, ∀ j, j < 11 → wr.cell? ⟨w.heap.size + 1, j, none⟩ = some (q j) := ⟨fun j => (wr.cell? ⟨w.heap.size + 1, j, none⟩).getD undef, fun j hj => by obtain ⟨q, hq⟩ := hM.n.cell j hj; show _ = some ((wr.cell? ⟨w.heap.size + 1, j, none⟩).getD undef); rw [hq]; rfl⟩
        have t0 := hqq 0 (by omega)
        have t1 := hqq 1 (by omega)
        have t2 := hqq 2 (by omega)
        have t3 := hqq 3 (by omega)
        have t4 := hqq 4 (by omega)
        have t5 := hqq 5 (by omega)
        have t6 := hqq 6 (by omega)
        have t7 := hqq 7 (by omega)
        have t8 := hqq 8 (by omega)
        have t9 := hqq 9 (by omega)
        have t10 := hqq 10 (by omega)
        have z0 := hM.n.free 0
        have z1 := hM.n.free 1
        have z2 := hM.n.free 2
        have z3 := hM.n.free 3
        have z4 := hM.n.free 4
        have z5 := hM.n.free 5
        have z6 := hM.n.free 6
        have z7 := hM.n.free 7
        have z8 := hM.n.free 8
        have z9 := hM.n.free 9
        have z10 := hM.n.free 10
        generalize (st.sf i).now = NI at *
        have hicap2 : i < cap := by omega
        have hneg : ¬ (i : Int) = -1 := by omega
        clear hM hk4 hR hpx2 hqq hcs hQX hQY hPar hcl htc lk
        go_upto_region 7 with (go_at_call 135; refine (HPc.out _ HMr.out.bel).mono ?_; rintro e w' ⟨rfl, hw'⟩; replace hw' := hw'.symm; subst hw')
        obtain ⟨wn, hwn, hMn, hBn⟩ := HMr.out.store (.int .i64 NI.w) (.int .i64 NI.h) (.slice pa2 pm2 pc2) (.int .i64 NI.x) (.int .i64 NI.y) (.bool tc) (.int .i64 a0) (.int .i64 a1) (.int .i64 a2) (.int .i64 a3) (.slice none 0 0)
        rw [hwn]
        clear hwn
        have b5 : wn.cell? ⟨w.heap.size + 1, 5, none⟩ = some (.bool tc) := hBn.cell 5
        have b6 : wn.cell? ⟨w.heap.size + 1, 6, none⟩ = some (.int .i64 a0) := hBn.cell 6
        have b7 : wn.cell? ⟨w.heap.size + 1, 7, none⟩ = some (.int .i64 a1) := hBn.cell 7
        have b8 : wn.cell? ⟨w.heap.size + 1, 8, none⟩ = some (.int .i64 a2) := hBn.cell 8
        have b9 : wn.cell? ⟨w.heap.size + 1, 9, none⟩ = some (.int .i64 a3) := hBn.cell 9
        have y3 := (HC.out wn hMn.bel).2.2
        have y1 : wn.cell? ⟨g, i * 28 + 1, none⟩ = some (.int .i64 P) := by
          rw [hMn.bel.cell (p := ⟨g, i * 28 + 1, none⟩) e4, ← HMr.out.bel.cell (p := ⟨g, i * 28 + 1, none⟩) e4]
          exact c1
        have s0 : wn.cell? ⟨rb, 0, none⟩ = some (.int .i64 r.1) := hMn.r.cell 0
        have s1 : wn.cell? ⟨rb, 1, none⟩ = some (.int .i64 r.2.1) := hMn.r.cell 1
        have s2 : wn.cell? ⟨rb, 2, none⟩ = some (.int .i64 r.2.2.1) := hMn.r.cell 2
        have s3 : wn.cell? ⟨rb, 3, none⟩ = some (.int .i64 r.2.2.2) := hMn.r.cell 3
        have v0 := hMn.r.has.free 0
        have v1 := hMn.r.has.free 1
        have v2 := hMn.r.has.free 2
        have v3 := hMn.r.has.free 3
        have hgr : ¬ g = rb := by omega
        have hcr : ¬ c = rb := by omega
        have HMn := hide hMn
        have hsn := hMn.bel.size
        clear hMn hBn t0 t1 t2 t3 t4 t5 t6 t7 t8 t9 t10 z0 z1 z2 z3 z4 z5 z6 z7 z8 z9 z10 c1 c2 c3 c4 c5 c6 c7 c8 c9 c10 c11 c12 k3' r0c r1c r2c r3c
        cases tc with
        | false =>
          go_wp2
          go_roundg i
          case measure => omega
          case rel =>
            refine ⟨P, QX, QY, r, rfl, rfl, rfl, hp.1, hp.2, by omega, ?_, HMn.out⟩
            have h9 := HK.out
            rw [HSt.out, List.foldl_cons, HCt.out, if_neg (by simp)] at h9
            exact h9
        | true =>
          have hMv : ∃ M0 M1 M2 M3 : Int, mv (a0, a1, a2, a3) QX QY = (M0, M1, M2, M3) ∧ ∀ W, Calls Tryz.prog 181 #[.agg #[.int .i64 a0, .int .i64 a1, .int .i64 a2, .int .i64 a3], .int .i64 QX, .int .i64 QY] W fun e w' => e = .returned (.agg #[.int .i64 M0, .int .i64 M1, .int .i64 M2, .int .i64 M3]) ∧ ∃ o1 o2, w' = (W.alloc o1).alloc o2 :=
            ⟨_, _, _, _, rfl, fun W => moved_any a0 a1 a2 a3 QX QY W (by omega) (by omega) (by omega) (by omega) (by omega) (by omega)⟩
          obtain ⟨M0, M1, M2, M3, hMe, hMv⟩ := hMv
          have hSh : ∃ r' : R4, nrm (meet r (M0, M1, M2, M3)) = r' ∧ ∀ W, Calls Tryz.prog 180 #[.agg #[.int .i64 r.1, .int .i64 r.2.1, .int .i64 r.2.2.1, .int .i64 r.2.2.2], .agg #[.int .i64 M0, .int .i64 M1, .int .i64 M2, .int .i64 M3]] W fun en w' => en = .returned (.agg #[.int .i64 r'.1, .int .i64 r'.2.1, .int .i64 r'.2.2.1, .int .i64 r'.2.2.2]) ∧ ∃ o1 o2 o3, w' = ((W.alloc o1).alloc o2).alloc o3 := ⟨_, rfl, fun W => shared_any _ _ _ _ _ _ _ _ W⟩
          obtain ⟨r', hr', hSh⟩ := hSh
          have HR' : Hid (st.cutN r i = r') := by unfold Hid; rw [HCt.out, if_pos rfl, hMe]; exact hr'
          have FcS : Hid (∀ w', Below wn.heap.size wn w' → w'.cell? ⟨rb, 0, none⟩ = some (.int .i64 r.1) ∧ w'.cell? ⟨rb, 1, none⟩ = some (.int .i64 r.2.1) ∧ w'.cell? ⟨rb, 2, none⟩ = some (.int .i64 r.2.2.1) ∧ w'.cell? ⟨rb, 3, none⟩ = some (.int .i64 r.2.2.2) ∧ w'.cell? ⟨w.heap.size + 1, 6, none⟩ = some (.int .i64 a0) ∧ w'.cell? ⟨w.heap.size + 1, 7, none⟩ = some (.int .i64 a1) ∧ w'.cell? ⟨w.heap.size + 1, 8, none⟩ = some (.int .i64 a2) ∧ w'.cell? ⟨w.heap.size + 1, 9, none⟩ = some (.int .i64 a3)) := fun W hW => by
            have q1 := HMn.out.r.has.lt
            have q2 := HMn.out.n.lt
            exact ⟨(hW.cell (p := ⟨rb, 0, none⟩) q1).trans s0, (hW.cell (p := ⟨rb, 1, none⟩) q1).trans s1, (hW.cell (p := ⟨rb, 2, none⟩) q1).trans s2, (hW.cell (p := ⟨rb, 3, none⟩) q1).trans s3, (hW.cell (p := ⟨w.heap.size + 1, 6, none⟩) q2).trans b6, (hW.cell (p := ⟨w.heap.size + 1, 7, none⟩) q2).trans b7, (hW.cell (p := ⟨w.heap.size + 1, 8, none⟩) q2).trans b8, (hW.cell (p := ⟨w.heap.size + 1, 9, none⟩) q2).trans b9⟩
          have FY : Hid (∀ w', Below wn.heap.size wn w' → w'.cell? ⟨c, 3, none⟩ = some (.slice (some ⟨g, 0, none⟩) n cap) ∧ w'.cell? ⟨g, i * 28 + 1, none⟩ = some (.int .i64 P) ∧ w'.cell? ⟨rb, 0, none⟩ = some (.int .i64 r.1) ∧ w'.cell? ⟨rb, 1, none⟩ = some (.int .i64 r.2.1) ∧ w'.cell? ⟨rb, 2, none⟩ = some (.int .i64 r.2.2.1) ∧ w'.cell? ⟨rb, 3, none⟩ = some (.int .i64 r.2.2.2) ∧ w'.frozen? ⟨rb, 0, none⟩ = false ∧ w'.frozen? ⟨rb, 1, none⟩ = false ∧ w'.frozen? ⟨rb, 2, none⟩ = false ∧ w'.frozen? ⟨rb, 3, none⟩ = false) := fun W hW => by
            have q1 := HMn.out.r.has.lt
            have q3 : HasB W rb 53 4 := HMn.out.r.has.keep (hW.block rb q1)
            exact ⟨(hW.cell (p := ⟨c, 3, none⟩) (by show c < wn.heap.size; omega)).trans y3, (hW.cell (p := ⟨g, i * 28 + 1, none⟩) (by show g < wn.heap.size; omega)).trans y1, (hW.cell (p := ⟨rb, 0, none⟩) q1).trans s0, (hW.cell (p := ⟨rb, 1, none⟩) q1).trans s1, (hW.cell (p := ⟨rb, 2, none⟩) q1).trans s2, (hW.cell (p := ⟨rb, 3, none⟩) q1).trans s3, q3.free 0, q3.free 1, q3.free 2, q3.free 3⟩
          clear hr' hMe
          go_upto_region 8 with fail
          go_region_with (first
              | (go_at_call 181; refine (hMv _).mono ?_; rintro e w5 ⟨rfl, o1, o2, he5⟩; have B5 : Hid (Below wn.heap.size wn w5) := (by rw [he5]; exact al2d (Nat.le_refl _) o1 o2); clear he5; obtain ⟨p0, p1, p2, p3, p4, p5, p6, p7⟩ := FcS.out w5 B5.out)
              | (go_at_call 180; refine (hSh _).mono ?_; rintro e w6 ⟨rfl, o3, o4, o5, he6⟩; have B6 : Hid (Below wn.heap.size wn w6) := (by rw [he6]; exact B5.out.trans (al3 B5.out.size o3 o4 o5)); clear he6; obtain ⟨f1, f2', f3, f4, f5, f6, f7, f8, f9, f10⟩ := FY.out w6 B6.out))
          all_goals
            go_wp2
            go_roundg i
            case measure => omega
            case rel =>
              refine ⟨P, QX, QY, r', rfl, rfl, rfl, hp.1, hp.2, by omega, ?_, HMn.out.next B6.out⟩
              have h9 := HK.out
              rw [HSt.out, List.foldl_cons, HR'.out] at h9
              exact h9

end Go.Proofs.YtofinpocigbbeaaGreat
