import Derived.Test.YtofinpocigbbeaaGreatKao
namespace Go.Proofs.YtofinpocigbbeaaGreat
open Go.RowKit
attribute [local go_sem ↓] Go.wp_at_zero Go.wp_at_succ

theorem CvMem.keepS {w w' : World} {S : Nat → Prop} {c : Nat} {d : Cv} {bv : Value} {rg : Nat} {dv : Array Value} (h : CvMem w S c d bv rg dv) (hk : ∀ g, S g → w'.heap[g]? = w.heap[g]?) (hr : KeptR w w') : CvMem w' S c d bv rg dv :=
  ⟨h.blk.keep (hk c h.own), h.own, h.row.keep fun g hg _ => hk g hg, h.ring.keep (hk rg h.rown), h.rown, h.size, fun i R hi => let ⟨v, h1, h2⟩ := h.regs i R hi; ⟨v, h1, h2.keptR hr⟩, fun b hb => ⟨(h.pix b hb).1, (h.pix b hb).2.keep (hk b.g (h.pix b hb).1)⟩⟩

/-- A buffer was painted: the others are older. -/
def Cv.painted (d : Cv) (i : Nat) (f : Nat → R4) : Cv := { d.grown with bufs := d.bufs.mapIdx fun j b => if j = i then ⟨b.g, 1, f⟩ else b.older }

theorem painted_bufs (d : Cv) (i : Nat) (hi : i < d.bufs.length) (f : Nat → R4) : (((d.bufs.set i { d.bufs[i] with f := f }).map Buf.older).set i ⟨d.bufs[i].g, 1, f⟩) = d.bufs.mapIdx fun j b => if j = i then ⟨b.g, 1, f⟩ else b.older := by
  apply List.ext_getElem?
  intro j
  rw [List.getElem?_set, List.getElem?_mapIdx]
  by_cases e : i = j
  · subst e
    simp [hi]
  · rw [if_neg e, List.getElem?_map, List.getElem?_set, if_neg e]
    have e2 : ¬ j = i := fun q => e q.symm
    cases d.bufs[j]? <;> simp [e2]

theorem laidL_bound (laid : Nat → Nat → Int) (hl : ∀ x y, 0 ≤ laid x y ∧ laid x y ≤ 1000) (W H : Nat) (hW : W ≤ 24) (hH : H ≤ 24) (l : List R4) (hon : ∀ r ∈ l, OnScr W H r) (m : Nat) (hm : m ≤ l.length) : 0 ≤ laidL laid l m ∧ laidL laid l m ≤ m * 576000 := by
  refine sumTo_bound _ 576000 (by omega) m fun j hj => ?_
  have hjl : j < l.length := by omega
  obtain ⟨x0, y0, x1, y1, e, h1, h2, h3, h4⟩ := (hon l[j] (List.getElem_mem hjl)).nats
  rw [List.getD_eq_getElem?_getD, List.getElem?_eq_getElem hjl, Option.getD_some, e]
  unfold laidR
  exact laidIn_bound laid hl _ _ _ _ (by simp; omega) (by simp; omega)

/-- Types that are not those of regions. -/
theorem KeptR.set {w : World} {g : Nat} {cur : Array Value} {t : TypeId} (hg : w.heap[g]? = some (.cells cur t (0, 0))) (h1 : t ≠ 192) (h2 : t ≠ 194) (j : Nat) (u : Value) : KeptR w (w.setCell ⟨g, j, none⟩ u) := fun b cur2 t2 ht e => by
  refine heap_setCell_other w ⟨g, j, none⟩ b u fun e2 => ?_
  subst e2
  have := hg.symm.trans e
  simp at this
  rcases ht with rfl | rfl
  · exact h1 this.2
  · exact h2 this.2

set_option maxRecDepth 100000 in
set_option maxHeartbeats 2000000 in
/-- Paint -/
theorem paintC_any {w : World} {S : Nat → Prop} {c : Nat} {d : Cv} {bg cap : Nat} {rg : Nat} {dv : Array Value} (h : CvMem w S c d (.slice (some ⟨bg, 0, none⟩) d.bufs.length cap) rg dv) (hS : ∀ g, S g → g < w.heap.size) (hd : CvOk d) (hold : d.old ≤ 4611686018427387904) (i : Nat) (hi : i < d.bufs.length)
    (la : Option Addr) (ln lc : Nat) (pic : Nat → Nat → R4) (laid : Nat → Nat → Int) (hl : ∀ x y, 0 ≤ laid x y ∧ laid x y ≤ 1000)
    (hAt : ∀ (V : World) (x y : Nat), Only (fun b => b = d.bufs[i].g) w V → x < d.W → y < d.H → Calls Tryz.prog 115 #[.agg #[.slice la ln lc], .int .i64 x, .int .i64 y] V fun e w' => e = .returned (.tuple #[.agg (pixC (pic x y)), .int .i64 (laid x y)]) ∧ Below V.heap.size V w') :
    Calls Tryz.prog 40 #[.pointer (some ⟨c, 0, none⟩), .int .i64 i, .agg #[.slice la ln lc]] w fun e w' => ∃ rv O, e = .returned (.agg #[rv, .int .i64 (laidL laid (rc O) (rc O).length)]) ∧ Good O ∧ (∀ x y, memR O x y = d.stale d.bufs[i].age x y) ∧ OwnR w' w.heap.size rv (rc O) ∧ (∃ dv', CvMem w' S c (d.painted i (paintL d.W (rc O) pic d.bufs[i].f)) (.slice (some ⟨bg, 0, none⟩) d.bufs.length cap) rg dv') ∧ Only (fun g => CvS c bg rg g ∨ g = d.bufs[i].g) w w' := by
  obtain ⟨b, hb⟩ : ∃ b, d.bufs[i] = b := ⟨_, rfl⟩
  have hW := hd.w1
  have hH := hd.h1
  have hn3 := hd.n
  have hcap : d.bufs.length ≤ cap := own_cap h.row.1
  have hcl : c < w.heap.size := hS c h.own
  have hbl : bg < w.heap.size := hS bg (h.row.2 bg rfl)
  have hgl : b.g < w.heap.size := hS b.g (by rw [← hb]; exact (h.pix _ (List.getElem_mem hi)).1)
  have hage : b.age ≤ 4611686018427387904 := by rw [← hb]; exact Nat.le_trans (hd.age _ (List.getElem_mem hi)) hold
  obtain ⟨n, hn⟩ : ∃ n, d.bufs.length = n := ⟨_, rfl⟩
  -- what is read of the canvas, in whatever world it stands
  have HC : Hid (∀ (V : World) (f : Nat → R4), CvMem V S c { d with bufs := d.bufs.set i { b with f := f } } (.slice (some ⟨bg, 0, none⟩) d.bufs.length cap) rg dv → V.cell? ⟨c, 4, none⟩ = some (.slice (some ⟨bg, 0, none⟩) n cap) ∧ V.cell? ⟨bg, i * 4, none⟩ = some (.int .i64 d.W) ∧ V.cell? ⟨bg, i * 4 + 1, none⟩ = some (.int .i64 d.H) ∧ V.cell? ⟨bg, i * 4 + 2, none⟩ = some (.slice (some ⟨b.g, 0, none⟩) (d.W * d.H) (d.W * d.H)) ∧ V.cell? ⟨bg, i * 4 + 3, none⟩ = some (.int .i64 b.age)) := fun V f hV => by
    have hi' : i < (d.bufs.set i { b with f := f }).length := by simpa using hi
    obtain ⟨g', cap', q1, q2, q3, q4, q5, q6⟩ := hV.row.open (Nat.lt_of_le_of_lt (Nat.zero_le _) hi')
    simp only [List.length_set, Value.slice.injEq, Option.some.injEq, Addr.mk.injEq] at q1
    obtain ⟨⟨rfl, _⟩, _, rfl⟩ := q1
    have hat := fun o (ho : o < 4) => flat4_at (bufC d.W d.H) (bufC_len _ _) (d.bufs.set i { b with f := f }) i o ho hi'
    simp only [List.getElem_set_self] at hat
    exact ⟨by rw [← hn]; exact hV.blk.cell 4, q5 _ _ (hat 0 (by omega)), q5 _ _ (hat 1 (by omega)), q5 _ _ (hat 2 (by omega)), q5 _ _ (hat 3 (by omega))⟩
  have hself : d.bufs.set i { b with f := b.f } = d.bufs := set_same (by rw [List.getElem?_eq_getElem hi, hb])
  have HM0 : Hid (CvMem w S c { d with bufs := d.bufs.set i { b with f := b.f } } (.slice (some ⟨bg, 0, none⟩) d.bufs.length cap) rg dv) := by rw [Hid, hself]; exact h
  obtain ⟨c4, b0, b1, b2, b3⟩ := HC.out w b.f HM0.out
  have HOD : Hid (∀ V : World, Below w.heap.size w V → Calls Tryz.prog 76 #[.pointer (some ⟨c, 0, none⟩), .int .i64 b.age] V fun e w' => ∃ ua un uc O, e = .returned (.agg #[.slice ua un uc]) ∧ Hid (BandsAt w' (.slice ua un uc) O ∧ Good O ∧ (∀ x y, memR O x y = d.stale b.age x y) ∧ Below V.heap.size V w')) := fun V hV => (outOfDate_any (h.below hV) hd b.age hage).mono fun e w' ⟨u, O, q1, q2, q3, q4, q5⟩ => by
    obtain ⟨ua, un, uc, rfl⟩ := q2.form
    exact ⟨ua, un, uc, O, q1, q2, q3, q4, q5⟩
  have HRc : Hid (∀ (V : World) (u : Value) (O : Rgn), BandsAt V u O → Good O → Calls Tryz.prog 77 #[.agg #[u]] V fun e w' => ∃ ra rcap, e = .returned (.slice ra (rc O).length rcap) ∧ Hid (OwnR w' V.heap.size (.slice ra (rc O).length rcap) (rc O) ∧ Below V.heap.size V w')) := fun V u O hV hO => (rects_any O u V hV hO).mono fun e w' ⟨v, q1, q2, q3⟩ => by
    obtain ⟨ra, rcap, rfl⟩ := q2.form
    exact ⟨ra, rcap, q1, q2, q3⟩
  have HIn : Hid (∀ O : Rgn, Good O → (∀ x y, memR O x y = d.stale b.age x y) → (rc O).length ≤ 10000000 ∧ ∀ r ∈ rc O, OnScr d.W d.H r) := fun O hO hm => by
    refine ⟨?_, fun r hr => rc_on hO (fun x y hxy => ?_) hr⟩
    · have h1 := rc_len hO O.length
      have h2 := hO.len
      rw [List.take_of_length_le (Nat.le_refl _)] at h1
      exact Nat.le_trans h1 (Nat.le_trans (Nat.mul_le_mul_right _ h2) (by omega))
    · rw [hm] at hxy
      unfold Cv.stale at hxy
      split at hxy
      · exact hxy
      · rw [List.any_eq_true] at hxy
        obtain ⟨k, _, hk⟩ := hxy
        unfold Cv.back at hk
        rcases e : d.dam[(d.nw + 4 - k) % 4]? with _ | R
        · rw [e] at hk; simp [memR] at hk
        · rw [e] at hk
          exact hd.inside R (List.mem_of_getElem? e) x y hk
  have HOk : Hid (∀ f : Nat → R4, CvOk { d with bufs := d.bufs.set i { b with f := f } }) := fun f => by
      refine ⟨hd.w1, hd.h1, by simpa using hd.n, hd.nw, hd.ln, hd.good, fun b' hb' => ?_, hd.inside, fun j k a a' hj hk hg => ?_⟩
      · rcases List.mem_or_eq_of_mem_set hb' with q | q
        · exact hd.age b' q
        · subst q
          have := hd.age _ (List.getElem_mem hi)
          rw [hb] at this
          exact this
      · have key : ∀ (q : Nat) (z : Buf), (d.bufs.set i { b with f := f })[q]? = some z → ∃ z', d.bufs[q]? = some z' ∧ z'.g = z.g := fun q z hz => by
          rw [List.getElem?_set] at hz
          split at hz
          · rename_i e
            subst e
            simp at hz
            subst hz
            exact ⟨b, by rw [List.getElem?_eq_getElem hi, hb], rfl⟩
          · exact ⟨z, hz, rfl⟩
        obtain ⟨z1, y1, y2⟩ := key j a hj
        obtain ⟨z2, y3, y4⟩ := key k a' hk
        exact hd.apart j k z1 z2 y1 y3 (by rw [y2, y4]; exact hg)
  have HG : Hid (∀ (V : World) (f : Nat → R4), CvMem V S c { d with bufs := d.bufs.set i { b with f := f } } (.slice (some ⟨bg, 0, none⟩) d.bufs.length cap) rg dv → Calls Tryz.prog 79 #[.pointer (some ⟨c, 0, none⟩)] V fun e w' => e = .returned (.tuple #[]) ∧ w'.cell? ⟨c, 4, none⟩ = some (.slice (some ⟨bg, 0, none⟩) n cap) ∧ (∃ u, w'.cell? ⟨bg, i * 4 + 3, none⟩ = some u) ∧ w'.frozen? ⟨bg, i * 4 + 3, none⟩ = false ∧ Only (CvS c bg rg) V w' ∧ Hid (∃ dv', CvMem (w'.setCell ⟨bg, i * 4 + 3, none⟩ (.int .i64 1)) S c (d.painted i f) (.slice (some ⟨bg, 0, none⟩) d.bufs.length cap) rg dv')) := fun V f hV => by
    have hlen : (d.bufs.set i { b with f := f }).length = d.bufs.length := by simp
    rw [← hlen] at hV
    refine (growOlder_any hV (HOk.out f) hold).mono fun e w' ⟨q1, ⟨dv', q2⟩, q3⟩ => ?_
    have hlen2 : (Cv.grown { d with bufs := d.bufs.set i { b with f := f } }).bufs.length = d.bufs.length := by simp [Cv.grown]
    have hi2 : i < (Cv.grown { d with bufs := d.bufs.set i { b with f := f } }).bufs.length := by rw [hlen2]; exact hi
    obtain ⟨g', cap', z1, z2, z3, z4, z5, z6⟩ := q2.row.open (Nat.lt_of_le_of_lt (Nat.zero_le _) hi2)
    rw [hlen, hlen2] at z1
    simp only [Value.slice.injEq, Option.some.injEq, Addr.mk.injEq] at z1
    obtain ⟨⟨rfl, _⟩, _, rfl⟩ := z1
    have hat := flat4_at (bufC d.W d.H) (bufC_len _ _) (Cv.grown { d with bufs := d.bufs.set i { b with f := f } }).bufs i 3 (by omega) hi2
    refine ⟨q1, ?_, ⟨_, z5 _ _ hat⟩, z6 _, q3, dv', ?_⟩
    · rw [← hn, ← hlen]; exact q2.blk.cell 4
    · have hbg : (Cv.grown { d with bufs := d.bufs.set i { b with f := f } }).bufs[i].g = b.g := by simp [Cv.grown, Buf.older_g]
      have hp := q2.pix _ (List.getElem_mem hi2)
      have hst := q2.setBuf (by rw [hlen2, hlen]) i 3 (by omega) hi2 ⟨b.g, 1, f⟩ (.int .i64 1) (by
        unfold bufC
        rw [hbg]
        rfl) (by
        have e2 : (Cv.grown { d with bufs := d.bufs.set i { b with f := f } }).bufs[i].f = f := by simp [Cv.grown, Buf.older_f]
        rw [hbg, e2] at hp
        exact hp)
      have hbe := painted_bufs d i hi f
      rw [hb] at hbe
      have e3 : (Cv.grown { d with bufs := d.bufs.set i { b with f := f } }).bufs.set i ⟨b.g, 1, f⟩ = (d.painted i f).bufs := hbe
      rw [e3, hlen] at hst
      exact hst
  rw [hb] at hAt
  have HAt := hide hAt
  have HL := hide hl
  have Hd := hide hd
  have HP : Hid (∀ (V V' : World) (f : Nat → R4), CvMem V S c { d with bufs := d.bufs.set i { b with f := f } } (.slice (some ⟨bg, 0, none⟩) d.bufs.length cap) rg dv → ∀ f', Only (fun g => g = b.g) V V' → PixF V' b.g (d.W * d.H) f' → CvMem V' S c { d with bufs := d.bufs.set i { b with f := f' } } (.slice (some ⟨bg, 0, none⟩) d.bufs.length cap) rg dv) := fun V V' f hV f' ho hf => by
    have hi' : i < (d.bufs.set i { b with f := f }).length := by simpa using hi
    have q := hV.painted (HOk.out f) i hi' f' (by simpa using ho) (by simpa using hf)
    simpa using q
  rw [hn] at hcap
  rw [hb]
  clear h hd hl hAt hself
  go_enter Tryz.func40, Tryz.ntmps40
  have hin' : (i : Int) < (n : Int) := by omega
  have hi0 : (0 : Int) ≤ (i : Int) := by omega
  have hic : i < cap := by omega
  go_wp2_with (first
    | (go_at_call 76; refine (HOD.out _ (Joins.below_alloc2 w _ _)).mono ?_; rintro e w1 ⟨ua, un, uc, O, rfl, H1⟩)
    | (go_at_call 77; refine (HRc.out _ _ _ H1.out.1 H1.out.2.1).mono ?_; rintro e w2 ⟨ra, rcap, rfl, H2⟩)
    | fail)
  obtain ⟨hG1, hm1⟩ : Good O ∧ ∀ x y, memR O x y = d.stale b.age x y := ⟨H1.out.2.1, H1.out.2.2.1⟩
  obtain ⟨hlm, hon⟩ := HIn.out O hG1 hm1
  have HGm := hide (And.intro hG1 hm1)
  have hVb := H1.out.2.2.2
  have hb12 := H2.out.2
  have hw2 : Below w.heap.size w w2 := (Joins.below_alloc2 w _ _).trans ((hVb.mono (by simp; omega)).trans (hb12.mono (Nat.le_trans (by simp; omega) hVb.size)))
  have x0 : w2.heap[w.heap.size]? = some (.cells #[.slice la ln lc] 95 (0, 0)) := by
    rw [hb12.block _ (Nat.lt_of_lt_of_le (by simp; omega) hVb.size), hVb.block _ (by simp; omega)]
    exact (heap_old _ _ _ (by simp)).trans (heap_alloc_new w _)
  have x1 : w2.heap[w.heap.size + 1]? = some (.cells #[.slice none 0 0, .int .i64 0] 35 (0, 0)) := by
    rw [hb12.block _ (Nat.lt_of_lt_of_le (by simp) hVb.size), hVb.block _ (by simp)]
    have q := heap_alloc_new (w.alloc (.cells #[.slice la ln lc] 95)) (.cells #[.slice none 0 0, .int .i64 0] 35)
    rw [show (w.alloc (.cells #[.slice la ln lc] 95)).heap.size = w.heap.size + 1 by simp] at q
    exact q
  have hsz2 : w.heap.size + 1 < w2.heap.size := block_lt x1
  have hor : OwnR w2 w.heap.size (.slice ra (rc O).length rcap) (rc O) := H2.out.1.lower (Nat.le_trans (by simp; omega) hVb.size)
  have HQ : Hid (∀ l, rc O = l → Good O ∧ (∀ x y, memR O x y = d.stale b.age x y) ∧ rc O = l) := fun l hl => ⟨hG1, hm1, hl⟩
  obtain ⟨l, hlq⟩ : ∃ l, rc O = l := ⟨_, rfl⟩
  rw [hlq] at hlm hon hor
  rw [hlq]
  have HO3 := hide (HQ.out l hlq)
  obtain ⟨m, hm⟩ : ∃ m, l.length = m := ⟨_, rfl⟩
  rw [hm] at hlm hor
  rw [hm]
  have HK : Hid (∀ wr : World, Only (fun g => g = b.g) w2 wr → wr.heap[w.heap.size]? = some (.cells #[.slice la ln lc] 95 (0, 0)) ∧ wr.heap[w.heap.size + 1]? = some (.cells #[.slice none 0 0, .int .i64 0] 35 (0, 0)) ∧ OwnR wr w.heap.size (.slice ra m rcap) l ∧ Only (fun g => g = b.g) w wr) := fun wr ho => by
    refine ⟨(ho.block _ (by omega) (by omega)).trans x0, (ho.block _ (by omega) (by omega)).trans x1, ⟨?_, hor.2⟩, (Only.below hw2).trans (ho.mono fun g _ hg => .inl hg)⟩
    obtain ⟨k1, k2⟩ := hor.1
    refine ⟨k1, ?_⟩
    rcases k2 with k2 | ⟨g, cap', cur, a1, a2, a3, a4⟩
    · exact .inl k2
    · exact .inr ⟨g, cap', cur, a1, a2, (ho.block g (block_lt a3) (by omega)).trans a3, a4⟩
  have HLb : Hid (∀ j, j ≤ m → 0 ≤ laidL laid l j ∧ laidL laid l j ≤ 5760000000000) := fun j hj => by
    have := laidL_bound laid HL.out d.W d.H hW.2 hH.2 l hon j (by omega)
    have hj' : (j : Int) ≤ 10000000 := by omega
    omega
  have HOn := hide hon
  clear hG1 hm1 hVb hb12 x0 x1 hor HQ hlq HIn HOD HRc H1 H2 HGm hon
  go_loopg [25] m (fun gg s25 wr => ∃ (j : Nat) (B : Int), s25 = .int .i64 j ∧ gg + j = m ∧ B = laidL laid l j ∧ wr.heap[w2.heap.size]? = some (.cells #[.slice ra m rcap, .int .i64 B] 35 (0, 0)) ∧ CvMem wr S c { d with bufs := d.bufs.set i { b with f := paintL d.W (l.take j) pic b.f } } (.slice (some ⟨bg, 0, none⟩) d.bufs.length cap) rg dv ∧ Only (fun g => g = b.g) w2 wr)
  case atStart =>
    refine ⟨0, 0, rfl, by omega, rfl, heap_alloc_new w2 _, ?_, (Only.refl _ w2).alloc _⟩
    rw [show paintL d.W (l.take 0) pic b.f = b.f from funext (paintL_zero d.W l pic b.f)]
    exact HM0.out.below (hw2.alloc hw2.size _)
  case round =>
    rename World => wr
    obtain ⟨j, B, rfl, hgj, hB, hD, hcv, ho⟩ := hrel
    obtain ⟨y0, y1, hor, how⟩ := HK.out wr ho
    have hszr : w2.heap.size < wr.heap.size := block_lt hD
    have d0 : wr.cell? ⟨w2.heap.size, 0, none⟩ = some (.slice ra m rcap) := cell_of_row _ _ 0 _ _ _ hD
    have d1 : wr.cell? ⟨w2.heap.size, 1, none⟩ = some (.int .i64 B) := cell_of_row _ _ 1 _ _ _ hD
    have nD : ¬ w2.heap.size = bg := by omega
    have nR : ¬ w.heap.size + 1 = bg := by omega
    have nDR : ¬ w2.heap.size = w.heap.size + 1 := by omega
    cases gk with
    | zero =>
      have hlt : ¬ (j : Int) < (m : Int) := by omega
      have hjm : j = m := by omega
      have HB : Hid (B = laidL laid l l.length) := by rw [Hid, hB, hm, hjm]
      have hcv2 : CvMem wr S c { d with bufs := d.bufs.set i { b with f := paintL d.W l pic b.f } } (.slice (some ⟨bg, 0, none⟩) d.bufs.length cap) rg dv := by
        rw [hjm, ← hm, List.take_of_length_le (Nat.le_refl _)] at hcv
        exact hcv
      have hrgl : rg < w.heap.size := hS rg hcv.rown
      have HG2 : Hid (Calls Tryz.prog 79 #[.pointer (some ⟨c, 0, none⟩)] wr fun e w' => e = .returned (.tuple #[]) ∧ w'.cell? ⟨c, 4, none⟩ = some (.slice (some ⟨bg, 0, none⟩) n cap) ∧ (∃ u, w'.cell? ⟨bg, i * 4 + 3, none⟩ = some u) ∧ w'.frozen? ⟨bg, i * 4 + 3, none⟩ = false ∧ w'.cell? ⟨w2.heap.size, 0, none⟩ = some (.slice ra m rcap) ∧ w'.cell? ⟨w2.heap.size, 1, none⟩ = some (.int .i64 B) ∧ w'.cell? ⟨w.heap.size + 1, 0, none⟩ = some (.slice none 0 0) ∧ w'.cell? ⟨w.heap.size + 1, 1, none⟩ = some (.int .i64 0) ∧ w'.frozen? ⟨w.heap.size + 1, 0, none⟩ = false ∧ w'.frozen? ⟨w.heap.size + 1, 1, none⟩ = false ∧ Hid (∃ O, (Good O ∧ (∀ x y, memR O x y = d.stale b.age x y) ∧ rc O = l) ∧ OwnR (((w'.setCell ⟨bg, i * 4 + 3, none⟩ (.int .i64 1)).setCell ⟨w.heap.size + 1, 0, none⟩ (.slice ra m rcap)).setCell ⟨w.heap.size + 1, 1, none⟩ (.int .i64 B)) w.heap.size (.slice ra m rcap) l ∧ (∃ dv', CvMem (((w'.setCell ⟨bg, i * 4 + 3, none⟩ (.int .i64 1)).setCell ⟨w.heap.size + 1, 0, none⟩ (.slice ra m rcap)).setCell ⟨w.heap.size + 1, 1, none⟩ (.int .i64 B)) S c (d.painted i (paintL d.W l pic b.f)) (.slice (some ⟨bg, 0, none⟩) d.bufs.length cap) rg dv') ∧ Only (fun g => CvS c bg rg g ∨ g = b.g) w (((w'.setCell ⟨bg, i * 4 + 3, none⟩ (.int .i64 1)).setCell ⟨w.heap.size + 1, 0, none⟩ (.slice ra m rcap)).setCell ⟨w.heap.size + 1, 1, none⟩ (.int .i64 B)))) := (HG.out wr _ hcv2).mono fun e w' ⟨q1, q2, q3, q4, q5, ⟨dv', q6⟩⟩ => by
        have kD := (q5.block w2.heap.size hszr (by unfold CvS; omega)).trans hD
        have kR := (q5.block (w.heap.size + 1) (by omega) (by unfold CvS; omega)).trans y1
        refine ⟨q1, q2, q3, q4, cell_of_row _ _ 0 _ _ _ kD, cell_of_row _ _ 1 _ _ _ kD, cell_of_row _ _ 0 _ _ _ kR, cell_of_row _ _ 1 _ _ _ kR, by simp [World.frozen?, kR], by simp [World.frozen?, kR], O, HO3.out, ?_, ⟨dv', ?_⟩, ?_⟩
        · refine ⟨?_, hor.2⟩
          obtain ⟨k1, k2⟩ := hor.1
          refine ⟨k1, ?_⟩
          rcases k2 with k2 | ⟨g, cap', cur, a1, a2, a3, a4⟩
          · exact .inl k2
          · refine .inr ⟨g, cap', cur, a1, a2, ?_, a4⟩
            have hgR : g ≠ w.heap.size + 1 := fun e => by
              subst e
              have := y1.symm.trans a3
              simp at this
            rw [heap_setCell_other _ _ g _ hgR, heap_setCell_other _ _ g _ hgR, heap_setCell_other _ _ g _ (show g ≠ bg by omega), q5.block g (block_lt a3) (by unfold CvS; omega)]
            exact a3
        · have kR2 : (w'.setCell ⟨bg, i * 4 + 3, none⟩ (.int .i64 1)).heap[w.heap.size + 1]? = some (.cells #[.slice none 0 0, .int .i64 0] 35 (0, 0)) := (heap_setCell_other _ ⟨bg, i * 4 + 3, none⟩ _ _ nR).trans kR
          have kR3 := heap_setCell_same _ (w.heap.size + 1) 0 _ _ (Value.slice ra m rcap) kR2
          refine (q6.keepS (fun g hg => heap_setCell_other _ _ g _ (show g ≠ w.heap.size + 1 by have := hS g hg; omega)) (KeptR.set kR2 (by decide) (by decide) _ _)).keepS (fun g hg => heap_setCell_other _ _ g _ (show g ≠ w.heap.size + 1 by have := hS g hg; omega)) (KeptR.set kR3 (by decide) (by decide) _ _)
        · refine Only.set (Only.set (Only.set ((how.mono fun g _ hg => .inr hg).trans (q5.mono fun g _ hg => .inl (.inl hg))) (.inl (.inl (.inr (.inl rfl)))) _) (.inr (by simp)) _) (.inr (by simp)) _
      clear hcv hcv2 hB hD hor how y0 y1 HG
      go_wp2_with (go_at_call 79; refine HG2.out.mono ?_; rintro e w7 ⟨rfl, z4, ⟨u3, z3⟩, zf, e0, e1, r0, r1, f0, f1, H7⟩)
      obtain ⟨O', ⟨g1, g2, g3⟩, g4, g5, g6⟩ := H7.out
      refine bodyPost_ret (v := .agg #[.slice ra m rcap, .int .i64 B]) (by simp [results, Tryz.results40, go_sem, r0, r1]) rfl ⟨.slice ra m rcap, O', ?_, g1, g2, ?_, ?_, ?_⟩
      · rw [g3, ← HB.out]
      · rw [g3]; exact g4
      · rw [g3]; exact g5
      · exact g6
    | succ gk =>
      have hlt : (j : Int) < (m : Int) := by omega
      have hjl : j < l.length := by omega
      obtain ⟨x0, y0', x1, y1', hr, hx1, hx2, hy1, hy2⟩ := (HOn.out l[j] (List.getElem_mem hjl)).nats
      obtain ⟨ar, cr, hf, hcs0⟩ := hor.rects
      simp only [Value.slice.injEq] at hf
      obtain ⟨rfl, hx9, rfl⟩ := hf
      clear hx9
      obtain ⟨rb, roff, hra, hcs⟩ := hcs0 (by omega)
      obtain ⟨k0, k1, k2, k3⟩ := hcs j hjl
      rw [hr] at k0 k1 k2 k3
      simp only at k0 k1 k2 k3
      subst hra
      have hrbl := cell_lt k0
      have hm0 : 0 < l.length := by omega
      obtain ⟨pg, pcap, hpf, _, hpg⟩ := World.ownsRow.form (by have q := hor.1; rw [hm] at q ⊢; exact q) hm0
      rw [hm] at hpf
      simp only [Value.slice.injEq, Option.some.injEq, Addr.mk.injEq] at hpf
      obtain ⟨⟨rfl, hro, _⟩, _, rfl⟩ := hpf
      subst hro
      simp only [Nat.zero_add] at k0 k1 k2 k3
      have hcapj : j < rcap := by
        have q := hor.1
        rw [hm] at q
        have := own_cap q
        omega
      obtain ⟨a4, e0, e1, e2, e3⟩ := HC.out wr _ hcv
      obtain ⟨LL, hLL⟩ : ∃ LL, laidIn laid x0 y0' x1 y1' = LL := ⟨_, rfl⟩
      have hLb : 0 ≤ LL ∧ LL ≤ 576000 := by rw [← hLL]; exact laidIn_bound laid HL.out _ _ _ _ (by omega) (by omega)
      have hBb := HLb.out j (by omega)
      rw [← hB] at hBb
      have HPt : Hid (∀ N : Nat, N = d.W * d.H → Calls Tryz.prog 78 #[.agg #[.int .i64 d.W, .int .i64 d.H, .slice (some ⟨b.g, 0, none⟩) N N, .int .i64 b.age], .agg #[.int .i64 x0, .int .i64 y0', .int .i64 x1, .int .i64 y1'], .agg #[.slice la ln lc]] (wr.alloc (.cells #[.int .i64 x0, .int .i64 y0', .int .i64 x1, .int .i64 y1'] 53)).drew fun e w' => e = .returned (.int .i64 LL) ∧ w'.cell? ⟨w2.heap.size, 1, none⟩ = some (.int .i64 B) ∧ w'.frozen? ⟨w2.heap.size, 1, none⟩ = false ∧ Hid (B + LL = laidL laid l (j + 1) ∧ (w'.setCell ⟨w2.heap.size, 1, none⟩ (.int .i64 (B + LL))).heap[w2.heap.size]? = some (.cells #[.slice (some ⟨rb, 0, none⟩) m rcap, .int .i64 (B + LL)] 35 (0, 0)) ∧ CvMem (w'.setCell ⟨w2.heap.size, 1, none⟩ (.int .i64 (B + LL))) S c { d with bufs := d.bufs.set i { b with f := paintL d.W (l.take (j + 1)) pic b.f } } (.slice (some ⟨bg, 0, none⟩) d.bufs.length cap) rg dv ∧ Only (fun g => g = b.g) w2 (w'.setCell ⟨w2.heap.size, 1, none⟩ (.int .i64 (B + LL))))) := fun N hN => by
        subst hN
        have hbV : Below wr.heap.size wr (wr.alloc (.cells #[.int .i64 x0, .int .i64 y0', .int .i64 x1, .int .i64 y1'] 53)).drew := (Joins.below_alloc1 wr _).drew
        have hcvV := hcv.below hbV
        have hi' : i < (d.bufs.set i { b with f := paintL d.W (l.take j) pic b.f }).length := by simpa using hi
        have hpx := (hcvV.pix _ (List.getElem_mem hi')).2
        simp only [List.getElem_set_self] at hpx
        refine (paint_any d.W d.H (d.W * d.H) b.g b.age x0 y0' x1 y1' hW.2 hH.2 rfl ⟨hx1, hx2⟩ ⟨hy1, hy2⟩ la ln lc pic laid _ _ hpx HL.out fun V x y hV hx hy => HAt.out V x y ((how.after hbV).trans (hV.mono fun g _ hg => .inl hg)) hx hy).mono fun e w' ⟨q1, q2, q3⟩ => ?_
        have kD : w'.heap[w2.heap.size]? = some (.cells #[.slice (some ⟨rb, 0, none⟩) m rcap, .int .i64 B] 35 (0, 0)) := (q3.block _ (Nat.lt_of_lt_of_le hszr hbV.size) (by omega)).trans ((hbV.block _ hszr).trans hD)
        refine ⟨by rw [q1, hLL], cell_of_row _ _ 1 _ _ _ kD, by simp [World.frozen?, kD], ?_, ?_, ?_, ?_⟩
        · rw [hB, ← hLL]
          unfold laidL
          show _ = sumTo _ j + laidR laid (l.getD j (0, 0, 0, 0))
          rw [List.getD_eq_getElem?_getD, List.getElem?_eq_getElem hjl, Option.getD_some, hr]
          unfold laidR
          simp
        · exact heap_setCell_same _ w2.heap.size 1 _ _ _ kD
        · have q4 := HP.out _ w' _ hcvV (paintL d.W (l.take (j + 1)) pic b.f) q3 (q2.congr fun k _ => paintL_succ d.W l pic b.f j hjl x0 y0' x1 y1' hr k)
          exact q4.keepS (fun g hg => heap_setCell_other _ _ g _ (show g ≠ w2.heap.size by have := hS g hg; omega)) (KeptR.set kD (by decide) (by decide) _ _)
        · exact Only.set ((ho.after hbV).trans (q3.mono fun g _ hg => .inl hg)) (.inr (Nat.le_refl _)) _
      obtain ⟨N, hN⟩ : ∃ N, d.W * d.H = N := ⟨_, rfl⟩
      have HPt2 := hide (HPt.out N hN.symm)
      rw [hN] at e2
      have pc : wr.cell? ⟨w.heap.size, 0, none⟩ = some (.slice la ln lc) := cell_of_one y0
      clear hcv hB hD hor how y0 y1 HG HPt hr hcs hcs0 hLL hN HC HP HM0
      have hcr : c < wr.heap.size := by omega
      have hbr : bg < wr.heap.size := by omega
      have hwr : w.heap.size < wr.heap.size := by omega
      go_wp2_with fail
      go_region_with (go_at_call 78; refine HPt2.out.mono ?_; rintro e w5 ⟨rfl, v1, v2, H5⟩)
      all_goals
        go_wp2_with fail
        go_roundg gk
        case measure => omega
        case rel => exact ⟨j + 1, B + LL, by go_num, by omega, H5.out.1, H5.out.2.1, H5.out.2.2.1, H5.out.2.2.2⟩

end Go.Proofs.YtofinpocigbbeaaGreat
