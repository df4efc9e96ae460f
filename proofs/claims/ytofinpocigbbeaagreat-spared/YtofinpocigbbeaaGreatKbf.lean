import Derived.Test.YtofinpocigbbeaaGreatKbe
namespace Go.Proofs.YtofinpocigbbeaaGreat
open Go.RowKit
attribute [local go_sem ↓] Go.wp_at_zero Go.wp_at_succ

/-! ### The picture -/

/-- Where in a surface's buffer a point of the screen lies. -/
def St.ixAt (st : St) (i : Nat) (x y : Int) : Nat := (y - st.py i).toNat * (st.sf i).now.w.toNat + (x - st.px i).toNat

def St.hidesAt (st : St) (x y : Int) (i : Nat) : Bool := inR (st.seen i) x y && (st.sf i).kept (st.ixAt i x y)

/-- From the front on: where the first one that hides stands, down to k; 0 if there is none. -/
def cutAt (p : Nat → Bool) (L : List Nat) : Nat → Nat
  | 0 => 0
  | k + 1 => if p (L.getD (k + 1) 0) = true then k + 1 else cutAt p L k

theorem cutAt_le (p : Nat → Bool) (L : List Nat) : ∀ k, cutAt p L k ≤ k
  | 0 => Nat.le_refl _
  | k + 1 => by
    unfold cutAt
    split
    · exact Nat.le_refl _
    · exact Nat.le_succ_of_le (cutAt_le p L k)

def St.unh (st : St) (L : List Nat) (x y : Int) : List Nat := L.drop (cutAt (st.hidesAt x y) L (L.length - 1))

theorem LayAt.drop {w : World} {st : St} {G : Int → Nat → Value} {L : List Nat} {b off n c : Nat} (h : LayAt w (.slice (some ⟨b, off, none⟩) n c) st G L) (k : Nat) (hk : k < n) : LayAt w (.slice (some ⟨b, off + k * 15, none⟩) (n - k) (c - k)) st G (L.drop k) := by
  obtain ⟨a', c', hv, hc⟩ := h
  injection hv with e1 e2 e3
  subst e1 e3
  obtain ⟨h1, b', off', ha, hcs⟩ := hc (by omega)
  injection ha with ha
  injection ha with ha1 ha2
  subst ha1 ha2
  refine ⟨_, _, by rw [List.length_drop, e2], fun _ => ⟨by rw [List.length_drop]; omega, b, off + k * 15, rfl, fun m hm j u hu => ?_⟩⟩
  rw [List.length_drop] at hm
  rw [List.getElem_drop] at hu
  have := hcs (k + m) (by omega) j u hu
  rw [show off + k * 15 + m * 15 + j = off + (k + m) * 15 + j by rw [Nat.add_mul]; omega]
  exact this

/-- What a layer's slices hold. -/
structure LayD (w : World) (st : St) (G : Int → Nat → Value) (i : Nat) : Prop where
  pix : PixV w (fun _ => True) (G i 5) (st.sf i).now.n (st.sf i).now.pix
  kept : BoolV w (fun _ => True) (G i 30) (st.sf i).now.n (st.sf i).kept

theorem LayD.below {w w' : World} {st : St} {G : Int → Nat → Value} {i : Nat} (h : LayD w st G i) (hb : Below w.heap.size w w') : LayD w' st G i :=
  ⟨h.pix.keepS (fun _ h => h) fun g _ _ e => hb.block g (block_lt e), h.kept.keepS (fun _ h => h) fun g _ _ e => hb.block g (block_lt e)⟩

theorem seen_in {st : St} {i : Nat} {x y : Int} (h : inR (st.seen i) x y = true) : 0 ≤ x - st.px i ∧ x - st.px i < (st.sf i).now.w ∧ 0 ≤ y - st.py i ∧ y - st.py i < (st.sf i).now.h := by
  unfold inR St.seen St.buf mv meet at h
  simp only [decide_eq_true_eq] at h
  omega

set_option maxRecDepth 100000 in
set_option maxHeartbeats 2000000 in
/-- Picture.unhidden -/
theorem unhidden_any {w : World} {st : St} (hw : Wf st) {G : Int → Nat → Value} {L : List Nat} {v : Value} (h : LayAt w v st G L) (hd : ∀ i ∈ L, i < st.sfs.length ∧ LayD w st G i) (hn : L.length ≤ 1000) (x y : Int) (hx : 0 ≤ x ∧ x ≤ 100) (hy : 0 ≤ y ∧ y ≤ 100) :
    Calls Tryz.prog 169 #[.agg #[v], .int .i64 x, .int .i64 y] w fun e w' => ∃ v', e = .returned v' ∧ LayAt w' v' st G (st.unh L x y) ∧ Below w.heap.size w w' := by
  have HL := hide h
  obtain ⟨la, lc, rfl, _⟩ := h
  obtain ⟨n, hln⟩ : ∃ n, L.length = n := ⟨_, rfl⟩
  have HN := hide hln
  have HH : Hid (∀ (k : Nat) (hk : k < L.length) (V : World), Below w.heap.size w V → ∃ (z0 z1 z2 z3 z4 : Int) (R : R4) (z5 z6 : Int) (pa : Option Addr) (pm pk : Nat) (z7 z8 : Int) (ka : Option Addr) (km kk : Nat), (layC st G L[k]).toArray = layV z0 z1 z2 z3 z4 R z5 z6 pa pm pk z7 z8 ka km kk ∧ Calls Tryz.prog 188 #[.agg (layV z0 z1 z2 z3 z4 R z5 z6 pa pm pk z7 z8 ka km kk), .int .i64 x, .int .i64 y] V fun e w' => e = .returned (.bool (st.hidesAt x y L[k])) ∧ Below V.heap.size V w') := fun k hk V hV => by
    obtain ⟨hil, hld⟩ := hd L[k] (List.getElem_mem hk)
    obtain ⟨i, hi⟩ : ∃ i, L[k] = i := ⟨_, rfl⟩
    rw [hi] at hil hld ⊢
    replace hld := hld.below hV
    obtain ⟨pa, e5, _⟩ := hld.pix
    obtain ⟨ka, e30, hkb⟩ := hld.kept
    have lk := (hw.lk i).1
    obtain ⟨W, hW⟩ : ∃ W : Nat, (st.sf i).now.w = (W : Int) := ⟨(st.sf i).now.w.toNat, by have := lk.w; omega⟩
    obtain ⟨H, hH⟩ : ∃ H : Nat, (st.sf i).now.h = (H : Int) := ⟨(st.sf i).now.h.toNat, by have := lk.h; omega⟩
    have hnn : (st.sf i).now.n = W * H := by unfold Look.n; rw [hW, hH, ← Int.natCast_mul, Int.toNat_natCast]
    have pl := px_lim hw (i : Int) (by omega)
    refine ⟨i, st.px i, st.py i, W, H, st.seen i, W, H, pa, (st.sf i).now.n, (st.sf i).now.n, W, H, ka, (st.sf i).now.n, (st.sf i).now.n, ?_, ?_⟩
    · unfold layC layV
      rw [e5, e30, hW, hH]
    · have := layHides_any i (st.px i) (st.py i) W H (st.seen i) W H pa (st.sf i).now.n (st.sf i).now.n W H ka (st.sf i).now.n x y (st.sf i).kept V (by have := lk.w; omega) (by have := lk.h; omega) hnn.symm (by omega) (by omega) (by omega) (by omega) (fun hin => by have := seen_in hin; omega) (fun hp => let ⟨g, g1, _, g3⟩ := hkb hp; ⟨g, g1, g3⟩)
      refine this.mono fun e w' ⟨q1, q2⟩ => ⟨?_, q2⟩
      rw [q1]
      unfold St.hidesAt St.ixAt
      rw [hW, Int.toNat_natCast]
  have HA := hide (fun o => al1 (Nat.le_refl w.heap.size) o)
  rw [hln] at hn ⊢
  clear hd hln
  go_enter Tryz.func169, Tryz.ntmps169
  go_wp2_with fail
  have HB0 : Hid (Below w.heap.size w (w.alloc (.cells #[.slice la n lc] 95)) ∧ Blk (w.alloc (.cells #[.slice la n lc] 95)) w.heap.size 95 #[.slice la n lc]) := ⟨HA.out _, heap_alloc_new w _⟩
  go_loopg [7] n (fun gg s7 wr => ∃ k : Int, s7 = .int .i64 k ∧ -1 ≤ k ∧ k < n ∧ k ≤ gg ∧ cutAt (st.hidesAt x y) L (n - 1) = cutAt (st.hidesAt x y) L k.toNat ∧ Below w.heap.size w wr ∧ Blk wr w.heap.size 95 #[.slice la n lc])
  case atStart => exact ⟨(n : Int) - 1, by go_num, by omega, by omega, by omega, by rw [show ((n : Int) - 1).toNat = n - 1 by omega], HB0.out⟩
  case round =>
    rename World => wr
    obtain ⟨k, rfl, hk1, hk2, hkg, hcut, hbel, hblk⟩ := hrel
    have p0 : wr.cell? ⟨w.heap.size, 0, none⟩ = some (.slice la n lc) := hblk.cell 0
    have hpl := cell_lt p0
    have HB := hide (And.intro hbel (And.intro hblk hcut))
    clear hbel hblk hcut
    by_cases hk0 : 0 < k
    · obtain ⟨m, rfl⟩ : ∃ m : Nat, k = ((m + 1 : Nat) : Int) := ⟨(k - 1).toNat, by omega⟩
      have hmn : m + 1 < L.length := by have := HN.out; omega
      obtain ⟨a', c', hv', hcs⟩ := HL.out.below HB.out.1
      injection hv' with e1 e2 e3
      subst e1 e3
      clear e2
      obtain ⟨hlc, b, off, ha, hcell⟩ := hcs (by omega)
      subst ha
      have hc := hcell (m + 1) hmn
      obtain ⟨z0, z1, z2, z3, z4, R, z5, z6, pa, pm, pk, z7, z8, ka, km, kk, hlv, hcall⟩ := HH.out (m + 1) hmn wr HB.out.1
      have hc2 : ∀ j u, (layV z0 z1 z2 z3 z4 R z5 z6 pa pm pk z7 z8 ka km kk)[j]? = some u → wr.cell? ⟨b, off + (m + 1) * 15 + j, none⟩ = some u := fun j u hu => hc j u (by rw [← hlv] at hu; simpa using hu)
      unfold layV at hc2 hcall
      have c0 := hc2 0 _ rfl
      have c1 := hc2 1 _ rfl
      have c2 := hc2 2 _ rfl
      have c3 := hc2 3 _ rfl
      have c4 := hc2 4 _ rfl
      have c5 := hc2 5 _ rfl
      have c6 := hc2 6 _ rfl
      have c7 := hc2 7 _ rfl
      have c8 := hc2 8 _ rfl
      have c9 := hc2 9 _ rfl
      have c10 := hc2 10 _ rfl
      have c11 := hc2 11 _ rfl
      have c12 := hc2 12 _ rfl
      have c13 := hc2 13 _ rfl
      have c14 := hc2 14 _ rfl
      rw [Nat.add_zero] at c0
      have hbl := cell_lt c0
      have hkc : m + 1 < lc := by have := HN.out; omega
      have hgd : L.getD (m + 1) 0 = L[m + 1] := by rw [List.getD_eq_getElem?_getD, List.getElem?_eq_getElem hmn]; rfl
      have hct : cutAt (st.hidesAt x y) L (n - 1) = if st.hidesAt x y L[m + 1] = true then m + 1 else cutAt (st.hidesAt x y) L m := by
        rw [HB.out.2.2, Int.toNat_natCast]
        conv => lhs; unfold cutAt
        rw [hgd]
      obtain ⟨t, ht⟩ : ∃ t, st.hidesAt x y L[m + 1] = t := ⟨_, rfl⟩
      rw [ht] at hcall hct
      have HC := hide hcall
      have HCt := hide hct
      obtain ⟨M, hM⟩ : ∃ M, m + 1 = M := ⟨_, rfl⟩
      rw [hM] at c0 c1 c2 c3 c4 c5 c6 c7 c8 c9 c10 c11 c12 c13 c14 hkc hk0 hk2 hk1 hkg HCt ⊢
      have hMn : M < n := by omega
      have hM0 : 0 ≤ (M : Int) := by omega
      clear hcs hcell hc hc2 hlv hcall hct hgd HH ht
      cases t with
      | true =>
        rw [if_pos rfl] at HCt
        go_wp2_with (go_at_call 188; refine HC.out.mono ?_; rintro e w2 ⟨rfl, hb2⟩; have p2 : w2.cell? ⟨w.heap.size, 0, none⟩ = some (.slice (some ⟨b, off, none⟩) n lc) := (hb2.cell (p := ⟨w.heap.size, 0, none⟩) hpl).trans p0; have hpl2 := cell_lt p2; have HB2 := hide hb2; clear hb2)
        go_ret
        refine ⟨_, rfl, ?_, HB.out.1.trans (HB2.out.mono HB.out.1.size)⟩
        unfold St.unh
        rw [HN.out, HCt.out]
        have hdr := (HL.out.below HB.out.1).below HB2.out
        rw [HN.out] at hdr
        exact hdr.drop M hMn
      | false =>
        rw [if_neg (by simp)] at HCt
        cases gk with
        | zero => omega
        | succ gk =>
          go_wp2_with (go_at_call 188; refine HC.out.mono ?_; rintro e w2 ⟨rfl, hb2⟩; have HB2 := hide hb2; clear hb2)
          go_roundg gk
          case measure => omega
          case rel =>
            refine ⟨(M : Int) - 1, by go_num, by omega, by omega, by omega, ?_, HB.out.1.trans (HB2.out.mono HB.out.1.size), HB.out.2.1.keep (HB2.out.block _ (block_lt HB.out.2.1))⟩
            rw [HCt.out, show ((M : Int) - 1).toNat = m by omega]
    · have hk0' : ¬ 0 < k := hk0
      go_wp2_with fail
      go_ret
      refine ⟨_, rfl, ?_, HB.out.1⟩
      unfold St.unh
      rw [HN.out, HB.out.2.2, show k.toNat = 0 by omega]
      show LayAt _ _ st G (L.drop 0)
      rw [List.drop_zero, ← HN.out]
      exact HL.out.below HB.out.1

end Go.Proofs.YtofinpocigbbeaaGreat

namespace Go.Proofs.YtofinpocigbbeaaGreat
open Go.RowKit

theorem ixAt_lt {st : St} (hw : Wf st) {i : Nat} {x y : Int} (h : inR (st.seen i) x y = true) : st.ixAt i x y < (st.sf i).now.n := by
  have h1 := seen_in h
  have lk := (hw.lk i).1
  obtain ⟨W, hW⟩ : ∃ W : Nat, (st.sf i).now.w = (W : Int) := ⟨(st.sf i).now.w.toNat, by have := lk.w; omega⟩
  obtain ⟨H, hH⟩ : ∃ H : Nat, (st.sf i).now.h = (H : Int) := ⟨(st.sf i).now.h.toNat, by have := lk.h; omega⟩
  unfold St.ixAt Look.n
  rw [hW, hH, ← Int.natCast_mul, Int.toNat_natCast, Int.toNat_natCast]
  rw [hW, hH] at h1
  obtain ⟨X, hX⟩ : ∃ X : Nat, x - st.px i = (X : Int) := ⟨(x - st.px i).toNat, by omega⟩
  obtain ⟨Y, hY⟩ : ∃ Y : Nat, y - st.py i = (Y : Int) := ⟨(y - st.py i).toNat, by omega⟩
  rw [hX, hY, Int.toNat_natCast, Int.toNat_natCast]
  have e1 : (Y + 1) * W ≤ H * W := Nat.mul_le_mul_right W (by omega)
  have e2 : (Y + 1) * W = Y * W + W := Nat.succ_mul Y W
  have e3 : H * W = W * H := Nat.mul_comm _ _
  omega

end Go.Proofs.YtofinpocigbbeaaGreat
