import Derived.Test.YtofinpocigbbeaaGreatKat
import Derived.Deep.RegionHeld3
namespace Go.Proofs.YtofinpocigbbeaaGreat
open Go.RowKit
attribute [local go_sem ↓] Go.wp_at_zero Go.wp_at_succ

/-- What is read of the row of buffers. -/
theorem CvMem.cells {w : World} {S : Nat → Prop} {c : Nat} {d : Cv} {bg cap : Nat} {rg : Nat} {dv : Array Value} (h : CvMem w S c d (.slice (some ⟨bg, 0, none⟩) d.bufs.length cap) rg dv) (i : Nat) (hi : i < d.bufs.length) :
    w.cell? ⟨c, 4, none⟩ = some (.slice (some ⟨bg, 0, none⟩) d.bufs.length cap) ∧ w.cell? ⟨bg, i * 4, none⟩ = some (.int .i64 d.W) ∧ w.cell? ⟨bg, i * 4 + 1, none⟩ = some (.int .i64 d.H) ∧ w.cell? ⟨bg, i * 4 + 2, none⟩ = some (.slice (some ⟨d.bufs[i].g, 0, none⟩) (d.W * d.H) (d.W * d.H)) ∧ w.cell? ⟨bg, i * 4 + 3, none⟩ = some (.int .i64 d.bufs[i].age) ∧ bg < w.heap.size ∧ c < w.heap.size := by
  obtain ⟨g', cap', q1, q2, q3, q4, q5, q6⟩ := h.row.open (Nat.lt_of_le_of_lt (Nat.zero_le _) hi)
  simp only [Value.slice.injEq, Option.some.injEq, Addr.mk.injEq] at q1
  obtain ⟨⟨rfl, _⟩, _, rfl⟩ := q1
  have hat := fun o (ho : o < 4) => flat4_at (bufC d.W d.H) (bufC_len _ _) d.bufs i o ho hi
  exact ⟨h.blk.cell 4, q5 _ _ (hat 0 (by omega)), q5 _ _ (hat 1 (by omega)), q5 _ _ (hat 2 (by omega)), q5 _ _ (hat 3 (by omega)), q4, block_lt h.blk⟩

set_option maxRecDepth 100000 in
set_option maxHeartbeats 1000000 in
/-- Look -/
theorem look_any {w : World} {S : Nat → Prop} {c : Nat} {d : Cv} {bg cap : Nat} {rg : Nat} {dv : Array Value} (h : CvMem w S c d (.slice (some ⟨bg, 0, none⟩) d.bufs.length cap) rg dv) (hd : CvOk d) (i : Nat) (hi : i < d.bufs.length) :
    Calls Tryz.prog 65 #[.pointer (some ⟨c, 0, none⟩), .int .i64 i] w fun e w' => ∃ v, e = .returned (.tuple #[v, .int .i64 d.bufs[i].age]) ∧ w'.ownsRow w.heap.size 51 4 v (d.W * d.H) (pixCells (pxL d.bufs[i].f (d.W * d.H))) ∧ v ≠ .slice none 0 0 ∧ Below w.heap.size w w' := by
  have hW := hd.w1
  have hH := hd.h1
  have hcap : d.bufs.length ≤ cap := own_cap h.row.1
  have hN : d.W * d.H ≤ 576 := Nat.le_trans (Nat.mul_le_mul hW.2 hH.2) (by omega)
  obtain ⟨b, hb⟩ : ∃ b, d.bufs[i] = b := ⟨_, rfl⟩
  have hp := (h.pix d.bufs[i] (List.getElem_mem hi)).2
  have HS : Hid (∀ W : World, Below w.heap.size w W → W.cell? ⟨c, 4, none⟩ = some (.slice (some ⟨bg, 0, none⟩) d.bufs.length cap) ∧ W.cell? ⟨bg, i * 4, none⟩ = some (.int .i64 d.W) ∧ W.cell? ⟨bg, i * 4 + 1, none⟩ = some (.int .i64 d.H) ∧ W.cell? ⟨bg, i * 4 + 2, none⟩ = some (.slice (some ⟨b.g, 0, none⟩) (d.W * d.H) (d.W * d.H)) ∧ W.cell? ⟨bg, i * 4 + 3, none⟩ = some (.int .i64 b.age) ∧ bg < W.heap.size ∧ c < W.heap.size) := fun W hW => by
    have q := (h.below hW).cells i hi
    rw [hb] at q
    exact q
  rw [hb] at hp
  rw [hb]
  obtain ⟨N, hNe⟩ : ∃ N, d.W * d.H = N := ⟨_, rfl⟩
  rw [hNe] at HS hp hN
  rw [hNe]
  have HC : Hid (∀ W : World, Below w.heap.size w W → Calls Tryz.prog 110 #[.agg #[.int .i64 d.W, .int .i64 d.H, .slice (some ⟨b.g, 0, none⟩) N N]] W fun e w' => ∃ a n cc, e = .returned (.slice a n cc) ∧ Hid (w'.ownsRow w.heap.size 51 4 (.slice a n cc) N (pixCells (pxL b.f N)) ∧ (.slice a n cc) ≠ Value.slice none 0 0 ∧ Below w.heap.size w w')) := fun W hW => (cells_any d.W d.H b.g N hN b.f W (hp.keep (hW.block _ hp.has.lt))).mono fun e w' ⟨v, q1, q2, q3, q4⟩ => by
    obtain ⟨a, cc, rfl⟩ := row_form q2
    exact ⟨a, _, cc, q1, ⟨q2.1, q2.2.imp id fun ⟨g, cap, cur, a1, a2, a3⟩ => ⟨g, cap, cur, a1, Nat.le_trans hW.size a2, a3⟩⟩, q3, hW.trans (q4.mono hW.size)⟩
  obtain ⟨n, hn⟩ : ∃ n, d.bufs.length = n := ⟨_, rfl⟩
  rw [hn] at HS hcap
  have hin : (i : Int) < (n : Int) := by omega
  have hi0 : (0 : Int) ≤ (i : Int) := by omega
  have hic : i < cap := by omega
  clear h hd hp hb
  go_enter Tryz.func65, Tryz.ntmps65
  go_wp2_with fail
  go_region_held3 (fun W => W.cell? ⟨c, 4, none⟩ = some (.slice (some ⟨bg, 0, none⟩) n cap) ∧ W.cell? ⟨bg, i * 4, none⟩ = some (.int .i64 d.W) ∧ W.cell? ⟨bg, i * 4 + 1, none⟩ = some (.int .i64 d.H) ∧ W.cell? ⟨bg, i * 4 + 2, none⟩ = some (.slice (some ⟨b.g, 0, none⟩) N N) ∧ W.cell? ⟨bg, i * 4 + 3, none⟩ = some (.int .i64 b.age) ∧ bg < W.heap.size ∧ c < W.heap.size)
    (first
      | with_reducible exact HS.out _ (Below.refl _ _).drew
      | with_reducible exact HS.out _ (Below.refl _ _)
      | with_reducible exact HS.out _ H1.out.2.2
      | fail)
    (first
      | (go_at_call 110; refine (HC.out _ (Below.refl _ _).drew).mono ?_; rintro e w1 ⟨va, vn, vc, rfl, H1⟩)
      | fail)
  all_goals go_wp2_with fail
  all_goals exact bodyPost_ret (v := .tuple #[.slice va vn vc, .int .i64 b.age]) (by simp [results, Tryz.results65, go_sem]) rfl ⟨_, rfl, H1.out⟩

set_option maxRecDepth 100000 in
set_option maxHeartbeats 1000000 in
/-- Points -/
theorem points_any {w : World} {S : Nat → Prop} {c : Nat} {d : Cv} {bv : Value} {rg : Nat} {dv : Array Value} (h : CvMem w S c d bv rg dv) (hd : CvOk d) :
    Calls Tryz.prog 42 #[.pointer (some ⟨c, 0, none⟩)] w fun e w' => e = .returned (.int .i64 ((d.W * d.H : Nat) : Int)) ∧ Below w.heap.size w w' := by
  have hW := hd.w1
  have hH := hd.h1
  have k2 : w.cell? ⟨c, 2, none⟩ = some (.int .i64 d.W) := h.blk.cell 2
  have k3 : w.cell? ⟨c, 3, none⟩ = some (.int .i64 d.H) := h.blk.cell 3
  have hcl := cell_lt k2
  have hN : d.W * d.H ≤ 576 := Nat.le_trans (Nat.mul_le_mul hW.2 hH.2) (by omega)
  obtain ⟨N, hNe⟩ : ∃ N, d.W * d.H = N := ⟨_, rfl⟩
  have e1 : (d.W : Int) * (d.H : Int) = (N : Int) := by rw [← hNe]; simp
  rw [hNe] at hN
  rw [hNe]
  clear h hd hNe
  go_enter Tryz.func42, Tryz.ntmps42
  go_wp2_with fail
  go_quiet (fail)
  go_wp2_with fail
  go_ret
  exact ⟨rfl, Joins.below_draws _ _ _⟩

/-- A whole buffer is written. -/
theorem CvMem.setBuf4 {w : World} {S : Nat → Prop} {c : Nat} {d : Cv} {bg n cap : Nat} {rg : Nat} {dv : Array Value} (h : CvMem w S c d (.slice (some ⟨bg, 0, none⟩) n cap) rg dv) (hn : n = d.bufs.length) (i : Nat) (hi : i < d.bufs.length) (b : Buf) (hp : S b.g ∧ PixF w b.g (d.W * d.H) b.f) (hbg : b.g ≠ bg) :
    CvMem ((((w.setCell ⟨bg, i * 4, none⟩ (.int .i64 d.W)).setCell ⟨bg, i * 4 + 1, none⟩ (.int .i64 d.H)).setCell ⟨bg, i * 4 + 2, none⟩ (.slice (some ⟨b.g, 0, none⟩) (d.W * d.H) (d.W * d.H))).setCell ⟨bg, i * 4 + 3, none⟩ (.int .i64 b.age)) S c { d with bufs := d.bufs.set i b } (.slice (some ⟨bg, 0, none⟩) n cap) rg dv := by
  have hs : d.bufs.set i d.bufs[i] = d.bufs := set_same (List.getElem?_eq_getElem hi)
  have kp : ∀ (V : World) (j : Nat) (u : Value) f, PixF V b.g (d.W * d.H) f → PixF (V.setCell ⟨bg, j, none⟩ u) b.g (d.W * d.H) f := fun V j u f q => q.keep (heap_setCell_other V ⟨bg, j, none⟩ b.g u hbg)
  have h1 := h.setBuf hn i 0 (by omega) hi d.bufs[i] (.int .i64 d.W) rfl (h.pix _ (List.getElem_mem hi))
  simp only [hs, Nat.add_zero] at h1
  have h2 := h1.setBuf hn i 1 (by omega) hi d.bufs[i] (.int .i64 d.H) rfl (h1.pix _ (List.getElem_mem hi))
  simp only [hs] at h2
  have h3 := h2.setBuf hn i 2 (by omega) hi ⟨b.g, d.bufs[i].age, b.f⟩ (.slice (some ⟨b.g, 0, none⟩) (d.W * d.H) (d.W * d.H)) rfl ⟨hp.1, kp _ _ _ _ (kp _ _ _ _ hp.2)⟩
  have h4 := h3.setBuf (by simpa using hn) i 3 (by omega) (by simpa using hi) b (.int .i64 b.age) (by simp [bufC]) ⟨hp.1, kp _ _ _ _ (kp _ _ _ _ (kp _ _ _ _ hp.2))⟩
  simpa using h4

/-- A buffer is given other pixels. -/
def Cv.filled (d : Cv) (i g : Nat) (f : Nat → R4) : Cv := { d with bufs := d.bufs.set i ⟨g, 0, f⟩ }

set_option maxRecDepth 100000 in
set_option maxHeartbeats 1000000 in
/-- Fill -/
theorem fill_any {w : World} {S : Nat → Prop} {c : Nat} {d : Cv} {bg cap : Nat} {rg : Nat} {dv : Array Value} (h : CvMem w S c d (.slice (some ⟨bg, 0, none⟩) d.bufs.length cap) rg dv) (hd : CvOk d) (i : Nat) (hi : i < d.bufs.length) (l : List R4) (v : Value) (hv : PixAt w v l) (hl : l.length = d.W * d.H) :
    Calls Tryz.prog 43 #[.pointer (some ⟨c, 0, none⟩), .int .i64 i, v] w fun e w' => e = .returned (.tuple #[]) ∧ ∃ g, w.heap.size ≤ g ∧ g < w'.heap.size ∧ CvMem w' (grow S w w') c (d.filled i g (fun k => l.getD k (0, 0, 0, 0))) (.slice (some ⟨bg, 0, none⟩) d.bufs.length cap) rg dv ∧ Only (fun b => b = bg) w w' := by
  have hW := hd.w1
  have hH := hd.h1
  have hcap : d.bufs.length ≤ cap := own_cap h.row.1
  obtain ⟨N, hNe⟩ : ∃ N, d.W * d.H = N := ⟨_, rfl⟩
  have hN : N ≤ 576 := by rw [← hNe]; exact Nat.le_trans (Nat.mul_le_mul hW.2 hH.2) (by omega)
  have e1 : (d.W : Int) * (d.H : Int) = (N : Int) := by rw [← hNe]; simp
  have k2 : w.cell? ⟨c, 2, none⟩ = some (.int .i64 d.W) := h.blk.cell 2
  have k3 : w.cell? ⟨c, 3, none⟩ = some (.int .i64 d.H) := h.blk.cell 3
  obtain ⟨c4, _, _, _, _, hbl, hcl⟩ := h.cells i hi
  have hrl := block_lt h.ring
  obtain ⟨n, hn⟩ : ∃ n, d.bufs.length = n := ⟨_, rfl⟩
  have HS : Hid (∀ W : World, Below w.heap.size w W → W.cell? ⟨c, 2, none⟩ = some (.int .i64 d.W) ∧ W.cell? ⟨c, 3, none⟩ = some (.int .i64 d.H) ∧ W.cell? ⟨c, 4, none⟩ = some (.slice (some ⟨bg, 0, none⟩) n cap) ∧ bg < W.heap.size ∧ c < W.heap.size) := fun W hW => ⟨(hW.cell (p := ⟨c, 2, none⟩) hcl).trans k2, (hW.cell (p := ⟨c, 3, none⟩) hcl).trans k3, by rw [← hn]; exact (hW.cell (p := ⟨c, 4, none⟩) hcl).trans c4, Nat.lt_of_lt_of_le hbl hW.size, Nat.lt_of_lt_of_le hcl hW.size⟩
  have HG : Hid (∀ W : World, Below w.heap.size w W → Calls Tryz.prog 61 #[.int .i64 d.W, .int .i64 d.H, v] W fun e w' => ∃ g, e = .returned (.agg #[.int .i64 d.W, .int .i64 d.H, .slice (some ⟨g, 0, none⟩) N N]) ∧ (∃ u0, w'.cell? ⟨bg, i * 4, none⟩ = some u0) ∧ (∃ u1, w'.cell? ⟨bg, i * 4 + 1, none⟩ = some u1) ∧ (∃ u2, w'.cell? ⟨bg, i * 4 + 2, none⟩ = some u2) ∧ (∃ u3, w'.cell? ⟨bg, i * 4 + 3, none⟩ = some u3) ∧ w'.frozen? ⟨bg, i * 4, none⟩ = false ∧ w'.frozen? ⟨bg, i * 4 + 1, none⟩ = false ∧ w'.frozen? ⟨bg, i * 4 + 2, none⟩ = false ∧ w'.frozen? ⟨bg, i * 4 + 3, none⟩ = false ∧ Hid (Below w.heap.size w w' ∧ ∃ g', w.heap.size ≤ g' ∧ g' < w'.heap.size ∧ CvMem ((((w'.setCell ⟨bg, i * 4, none⟩ (.int .i64 d.W)).setCell ⟨bg, i * 4 + 1, none⟩ (.int .i64 d.H)).setCell ⟨bg, i * 4 + 2, none⟩ (.slice (some ⟨g, 0, none⟩) N N)).setCell ⟨bg, i * 4 + 3, none⟩ (.int .i64 0)) (grow S w w') c (d.filled i g' (fun k => l.getD k (0, 0, 0, 0))) (.slice (some ⟨bg, 0, none⟩) d.bufs.length cap) rg dv)) := fun W hW => (gridOf_pix d.W d.H N e1 hN v l (by rw [hl, hNe]) W (hv.below hW)).mono fun e w' ⟨g, q1, q2, q3, q4⟩ => by
    have hb : Below w.heap.size w w' := hW.trans (q4.mono hW.size)
    have hm := (h.below hb).mono (S' := grow S w w') fun g hg => .inl hg
    have hbt : HasB w' bg 148 (cap * 4) := by
      obtain ⟨k1, k2⟩ := hm.row.1
      rcases k2 with ⟨k2, _⟩ | ⟨g9, cap9, cur, a1, a2, a3, a4, a5, a6, a7⟩
      · cases k2
      · simp only [Value.slice.injEq, Option.some.injEq, Addr.mk.injEq] at a1
        obtain ⟨⟨rfl, _⟩, _, rfl⟩ := a1
        exact ⟨cur, a3, a6⟩
    have hgl := q2.has.lt
    have hgw : w.heap.size ≤ g := Nat.le_trans hW.size q3
    refine ⟨g, q1, hbt.cell _ (by omega), hbt.cell _ (by omega), hbt.cell _ (by omega), hbt.cell _ (by omega), hbt.free _, hbt.free _, hbt.free _, hbt.free _, hb, g, hgw, hgl, ?_⟩
    have q := hm.setBuf4 rfl i hi ⟨g, 0, fun k => l.getD k (0, 0, 0, 0)⟩ ⟨.inr ⟨hgw, hgl⟩, by rw [hNe]; exact q2⟩ (show g ≠ bg by omega)
    rw [hNe] at q
    exact q
  have hcb : c ≠ bg := fun e => by
    obtain ⟨cur, hcur⟩ := h.row.type (g := bg) rfl
    have hk := h.blk
    rw [e] at hk
    have := hk.symm.trans hcur
    simp at this
  have HS2 : Hid (∀ W : World, Below w.heap.size w W → ∀ u0 u1 u2 u3, ((((W.setCell ⟨bg, i * 4, none⟩ u0).setCell ⟨bg, i * 4 + 1, none⟩ u1).setCell ⟨bg, i * 4 + 2, none⟩ u2).setCell ⟨bg, i * 4 + 3, none⟩ u3).cell? ⟨c, 2, none⟩ = some (.int .i64 d.W) ∧ ((((W.setCell ⟨bg, i * 4, none⟩ u0).setCell ⟨bg, i * 4 + 1, none⟩ u1).setCell ⟨bg, i * 4 + 2, none⟩ u2).setCell ⟨bg, i * 4 + 3, none⟩ u3).cell? ⟨c, 3, none⟩ = some (.int .i64 d.H) ∧ ((((W.setCell ⟨bg, i * 4, none⟩ u0).setCell ⟨bg, i * 4 + 1, none⟩ u1).setCell ⟨bg, i * 4 + 2, none⟩ u2).setCell ⟨bg, i * 4 + 3, none⟩ u3).cell? ⟨c, 4, none⟩ = some (.slice (some ⟨bg, 0, none⟩) n cap) ∧ bg < ((((W.setCell ⟨bg, i * 4, none⟩ u0).setCell ⟨bg, i * 4 + 1, none⟩ u1).setCell ⟨bg, i * 4 + 2, none⟩ u2).setCell ⟨bg, i * 4 + 3, none⟩ u3).heap.size ∧ c < ((((W.setCell ⟨bg, i * 4, none⟩ u0).setCell ⟨bg, i * 4 + 1, none⟩ u1).setCell ⟨bg, i * 4 + 2, none⟩ u2).setCell ⟨bg, i * 4 + 3, none⟩ u3).heap.size) := fun W hW u0 u1 u2 u3 => by
    obtain ⟨q1, q2, q3, q4, q5⟩ := HS.out W hW
    have e : ((((W.setCell ⟨bg, i * 4, none⟩ u0).setCell ⟨bg, i * 4 + 1, none⟩ u1).setCell ⟨bg, i * 4 + 2, none⟩ u2).setCell ⟨bg, i * 4 + 3, none⟩ u3).heap[c]? = W.heap[c]? := by
      rw [heap_setCell_other _ _ c _ hcb, heap_setCell_other _ _ c _ hcb, heap_setCell_other _ _ c _ hcb, heap_setCell_other _ _ c _ hcb]
    exact ⟨(World.cell?_of_block (a := ⟨c, 2, none⟩) e).trans q1, (World.cell?_of_block (a := ⟨c, 3, none⟩) e).trans q2, (World.cell?_of_block (a := ⟨c, 4, none⟩) e).trans q3, by simpa using q4, by simpa using q5⟩
  have HO4 : Hid (∀ W : World, Below w.heap.size w W → ∀ u0 u1 u2 u3, Only (fun b => b = bg) w ((((W.setCell ⟨bg, i * 4, none⟩ u0).setCell ⟨bg, i * 4 + 1, none⟩ u1).setCell ⟨bg, i * 4 + 2, none⟩ u2).setCell ⟨bg, i * 4 + 3, none⟩ u3)) := fun W hW u0 u1 u2 u3 =>
    ((((Only.below (S := fun b => b = bg) hW).set (p := ⟨bg, i * 4, none⟩) (.inl rfl) u0).set (p := ⟨bg, i * 4 + 1, none⟩) (.inl rfl) u1).set (p := ⟨bg, i * 4 + 2, none⟩) (.inl rfl) u2).set (p := ⟨bg, i * 4 + 3, none⟩) (.inl rfl) u3
  have hvf : ∃ a n c', v = .slice a n c' := let ⟨a, c', e, _⟩ := hv; ⟨a, _, c', e⟩
  obtain ⟨va, vn, vc, rfl⟩ := hvf
  rw [hn] at hcap
  have hin : (i : Int) < (n : Int) := by omega
  have hi0 : (0 : Int) ≤ (i : Int) := by omega
  have hic : i < cap := by omega
  clear h hd hv hl e1 k2 k3 c4 hrl
  go_enter Tryz.func43, Tryz.ntmps43
  go_wp2_with fail
  go_region_held3 (fun W => W.cell? ⟨c, 2, none⟩ = some (.int .i64 d.W) ∧ W.cell? ⟨c, 3, none⟩ = some (.int .i64 d.H) ∧ W.cell? ⟨c, 4, none⟩ = some (.slice (some ⟨bg, 0, none⟩) n cap) ∧ bg < W.heap.size ∧ c < W.heap.size)
    (first
      | with_reducible exact HS.out _ (Below.refl _ _).drew
      | with_reducible exact HS.out _ (Below.refl _ _)
      | with_reducible exact HS.out _ H1.out.1
      | with_reducible exact HS2.out _ H1.out.1 _ _ _ _
      | fail)
    (first
      | (go_at_call 61; refine (HG.out _ (Below.refl _ _).drew).mono ?_; rintro e w1 ⟨g, rfl, ⟨u0, x0⟩, ⟨u1, x1⟩, ⟨u2, x2⟩, ⟨u3, x3⟩, f0, f1, f2, f3, H1⟩)
      | fail)
  all_goals go_wp2_with fail
  obtain ⟨hb, g', a1, a2, cm⟩ := H1.out
  refine bodyPost_end (v := .tuple #[]) (by simp [results, Tryz.results43]) rfl ⟨rfl, g', a1, by simpa using a2, cm.mono fun b hb' => ?_, ?_⟩
  · exact hb'.imp id fun q => by simpa using q
  · exact HO4.out _ hb _ _ _ _

end Go.Proofs.YtofinpocigbbeaaGreat
