import Derived.Test.YtofinpocigbbeaaGreatPanD
namespace Go.Proofs.YtofinpocigbbeaaGreat
open Go.RowKit
attribute [local go_sem ↓] Go.wp_at_zero Go.wp_at_succ

theorem isB_no {st : St} (hw : Wf st) {id : Int} (h : st.isB id = false) : ∀ i ∈ st.order, (i : Int) ≠ id := fun i hi e => by
  have := (isB_iff hw id).2 ⟨i, e.symm, hi⟩
  rw [h] at this
  cases this

theorem setOther {w : World} {b : Nat} (o : Nat) (u : Value) : ∀ g, g < w.heap.size → g ≠ b → (w.setCell ⟨b, o, none⟩ u).heap[g]? = w.heap[g]? := fun g _ hne => heap_setCell_other w ⟨b, o, none⟩ g u hne

theorem nat_ne_top (i : Nat) : (i : Int) ≠ -1 := by omega

theorem lookP_nat (st : St) (i : Nat) : lookP st (i : Int) = (st.sf i).now := by
  unfold lookP
  rw [if_neg (nat_ne_top i), Int.toNat_natCast]

/-- The cells of a surface that there is. -/
structure NCells (blk : Int → Nat) (s : Sf) (i : Nat) (G : Nat → Value) : Prop where
  num : G 0 = .int .i64 (i : Int)
  par : G 1 = ptrV (blk s.parent)
  now : LookCells G 3 s.now
  next : LookCells G 14 s.next
  stk : ∃ (t : Bool) (z : Int) (b : Bool), G 25 = .bool t ∧ G 26 = .int .i64 z ∧ G 27 = .bool b ∧ t = s.ask ∧ (t = true → z = s.sib ∧ b = s.above)
  kep : ∃ kw kh a m c, G 28 = .int .i64 kw ∧ G 29 = .int .i64 kh ∧ G 30 = .slice a m c

theorem PCells.nat {blk : Int → Nat} {st : St} {i : Nat} {G : Nat → Value} (h : PCells blk st i G) : NCells blk (st.sf i) i G := by
  have hne := nat_ne_top i
  refine ⟨h.num, ?_, ?_, ?_, ?_, h.kep⟩
  · have := h.par
    rwa [if_neg hne, Int.toNat_natCast] at this
  · have := h.now
    rwa [lookP_nat] at this
  · obtain ⟨l, h1, h2⟩ := h.next
    have := h2 hne
    rw [Int.toNat_natCast] at this
    rwa [this] at h1
  · obtain ⟨t, z, b, h1, h2, h3, h4⟩ := h.stk
    have := h4 hne
    rw [Int.toNat_natCast] at this
    exact ⟨t, z, b, h1, h2, h3, this⟩

theorem NCells.toP {blk : Int → Nat} {st : St} {i : Nat} {G : Nat → Value} (h : NCells blk (st.sf i) i G) : PCells blk st i G := by
  have hne := nat_ne_top i
  refine ⟨h.num, ?_, ?_, ⟨_, h.next, fun _ => by rw [Int.toNat_natCast]⟩, ?_, h.kep⟩
  · rw [if_neg hne, Int.toNat_natCast]; exact h.par
  · rw [lookP_nat]; exact h.now
  · obtain ⟨t, z, b, h1, h2, h3, h4⟩ := h.stk
    exact ⟨t, z, b, h1, h2, h3, fun _ => by rw [Int.toNat_natCast]; exact h4⟩

theorem NCells.upd {blk : Int → Nat} {st : St} {i : Nat} {G : Nat → Value} (hi : i < st.sfs.length) {gf : Sf → Sf} (h : NCells blk (gf (st.sf i)) i G) : PCells blk (Go.Proofs.YtofinpocigbbeaaGreat.upd st i gf) i G := by
  refine NCells.toP ?_
  rw [upd_sf st i gf i hi, if_pos rfl]
  exact h

set_option maxRecDepth 100000 in
set_option maxHeartbeats 1000000 in
/-- (*Screen).Offset -/
theorem paOffset_any {S : Nat → Prop} {x : Nat} {st : St} (hw : Wf st) (id a b : Int) (w : World) {bv : Value} (h : PaneOk w S x st bv) :
    Calls Tryz.prog 29 #[.pointer (some ⟨x, 0, none⟩), .int .i64 id, .int .i64 a, .int .i64 b] w (PPost S x bv (opOffset st id a b) w) := by
  have hB := isB_iff hw id
  have HE6 := hide (PPost.same (er := 6) h (Below.refl _ _))
  have HE7 := hide (PPost.same (er := 7) h (Below.refl _ _))
  obtain ⟨sc, mp, blk, G, h⟩ := h
  obtain ⟨x0, x1, xl⟩ := h.scrCells
  unfold opOffset
  obtain ⟨t, ht⟩ : ∃ t, st.isB id = t := ⟨_, rfl⟩
  rw [ht] at hB ⊢
  cases t with
  | false =>
    rw [if_neg (by simp)]
    have HS := hide (scSurface_no h id (isB_no hw ht))
    clear hB h
    go_enter Tryz.func29, Tryz.ntmps29
    go_wp2_with (go_at_call 58; refine HS.out.mono ?_; rintro e w' ⟨rfl, hw'⟩; replace hw' := hw'.symm; subst hw')
    go_ret
    exact HE6.out
  | true =>
    rw [if_pos rfl]
    obtain ⟨i, rfl, hio⟩ := hB.1 rfl
    have hil := hw.lt hio
    rw [Int.toNat_natCast]
    have HS := hide (scSurface_ok h i hio)
    obtain ⟨kc, kf, kl⟩ := h.at (live_nat hio)
    have c16 := kc 17 (by omega)
    have c17 := kc 18 (by omega)
    have f16 := kf 17
    have f17 := kf 18
    have HOk : Hid (PPost S x bv (0, upd st i (sfOff a b)) w (.returned (.int .i64 0)) ((w.setCell ⟨blk i, 17, none⟩ (.int .i64 a)).setCell ⟨blk i, 18, none⟩ (.int .i64 b))) := by
      have hs : SrfB w (blk i) (G i) := h.srf i (live_nat hio)
      have q := (h.cells i (live_nat hio)).nat
      have q2 := q.next
      refine ⟨rfl, PaneOk.mono ⟨sc, mp, blk, _, h.upd (gf := sfOff a b) hio hil (fun _ => rfl) (fun g hg hne => ?_) ((hs.set 17 _).set 18 _) rfl (NCells.upd hil ⟨q.num, q.par, ⟨q.now.w, q.now.h, q.now.pix, q.now.x, q.now.y, q.now.c0, q.now.c1, q.now.c2, q.now.c3, q.now.cut, q.now.hint⟩, ⟨q2.w, q2.h, q2.pix, rfl, rfl, q2.c0, q2.c1, q2.c2, q2.c3, q2.cut, q2.hint⟩, q.stk, q.kep⟩) ⟨(h.data i hio).pix, (h.data i hio).hint, (h.data i hio).npix, (h.data i hio).nhint, (h.data i hio).kw, (h.data i hio).kh, (h.data i hio).kept⟩⟩ (fun _ h => grow_self h), ((Only.refl S w).set (.inl (h.own.2.2.2 i (live_nat hio))) _).set (.inl (h.own.2.2.2 i (live_nat hio))) _⟩
      rw [setOther 18 _ g (by simpa using hg) hne, setOther 17 _ g hg hne]
    have HPost : Hid (∀ e w', (-1000 ≤ a ∧ a ≤ 1000 ∧ -1000 ≤ b ∧ b ≤ 1000 → PPost S x bv (0, upd st i (sfOff a b)) w e w') → (¬ (-1000 ≤ a ∧ a ≤ 1000 ∧ -1000 ≤ b ∧ b ≤ 1000) → PPost S x bv (7, st) w e w') → PPost S x bv (if -1000 ≤ a ∧ a ≤ 1000 ∧ -1000 ≤ b ∧ b ≤ 1000 then (0, upd st i (sfOff a b)) else (7, st)) w e w') := fun e w' h1 h2 => by
      split
      · rename_i h; exact h1 h
      · rename_i h; exact h2 h
    obtain ⟨post, hpost⟩ : ∃ P, P = PPost S x bv (if -1000 ≤ a ∧ a ≤ 1000 ∧ -1000 ≤ b ∧ b ≤ 1000 then (0, upd st i (sfOff a b)) else (7, st)) w := ⟨_, rfl⟩
    rw [← hpost] at HPost ⊢
    obtain ⟨g, hg⟩ : ∃ g, blk i = g := ⟨_, rfl⟩
    rw [hg] at HS c16 c17 f16 f17 HOk
    clear h hB kc kf kl hpost hg
    have hcases : a < -1000 ∨ (-1000 ≤ a ∧ 1000 < a) ∨ (-1000 ≤ a ∧ a ≤ 1000 ∧ b < -1000) ∨ (-1000 ≤ a ∧ a ≤ 1000 ∧ -1000 ≤ b ∧ 1000 < b) ∨ (-1000 ≤ a ∧ a ≤ 1000 ∧ -1000 ≤ b ∧ b ≤ 1000) := by omega
    rcases hcases with h1 | ⟨h1, h2⟩ | ⟨h1, h2, h3⟩ | ⟨h1, h2, h3, h4⟩ | ⟨h1, h2, h3, h4⟩
    all_goals
      try have hd : decide (b ≤ 1000) = false := decide_eq_false (by omega)
      go_enter Tryz.func29, Tryz.ntmps29
      go_wp2_with (first
        | (go_at_call 58; refine HS.out.mono ?_; rintro e w' ⟨rfl, hw'⟩; replace hw' := hw'.symm; subst hw')
        | go_in)
      try go_ret
      refine HPost.out _ _ (fun hyes => ?_) (fun hno => ?_)
      · first
          | (exfalso; omega)
          | exact HOk.out
      · first
          | (exfalso; omega)
          | exact HE7.out

set_option maxRecDepth 100000 in
set_option maxHeartbeats 1000000 in
/-- (*Screen).Unclip -/
theorem paUnclip_any {S : Nat → Prop} {x : Nat} {st : St} (hw : Wf st) (id : Int) (w : World) {bv : Value} (h : PaneOk w S x st bv) :
    Calls Tryz.prog 36 #[.pointer (some ⟨x, 0, none⟩), .int .i64 id] w (PPost S x bv (opUnclip st id) w) := by
  have hB := isB_iff hw id
  have HE6 := hide (PPost.same (er := 6) h (Below.refl _ _))
  obtain ⟨sc, mp, blk, G, h⟩ := h
  obtain ⟨x0, x1, xl⟩ := h.scrCells
  unfold opUnclip
  obtain ⟨t, ht⟩ : ∃ t, st.isB id = t := ⟨_, rfl⟩
  rw [ht] at hB ⊢
  cases t with
  | false =>
    rw [if_neg (by simp)]
    have HS := hide (scSurface_no h id (isB_no hw ht))
    clear hB h
    go_enter Tryz.func36, Tryz.ntmps36
    go_wp2_with (go_at_call 58; refine HS.out.mono ?_; rintro e w' ⟨rfl, hw'⟩; replace hw' := hw'.symm; subst hw')
    go_ret
    exact HE6.out
  | true =>
    rw [if_pos rfl]
    obtain ⟨i, rfl, hio⟩ := hB.1 rfl
    have hil := hw.lt hio
    rw [Int.toNat_natCast]
    have HS := hide (scSurface_ok h i hio)
    obtain ⟨kc, kf, kl⟩ := h.at (live_nat hio)
    have c18 := kc 19 (by omega)
    have c19 := kc 20 (by omega)
    have c20 := kc 21 (by omega)
    have c21 := kc 22 (by omega)
    have c22 := kc 23 (by omega)
    have f18 := kf 19
    have f19 := kf 20
    have f20 := kf 21
    have f21 := kf 22
    have f22 := kf 23
    have HOk : Hid (PPost S x bv (0, upd st i sfUnclip) w (.returned (.int .i64 0)) (((((w.setCell ⟨blk i, 19, none⟩ (.int .i64 0)).setCell ⟨blk i, 20, none⟩ (.int .i64 0)).setCell ⟨blk i, 21, none⟩ (.int .i64 0)).setCell ⟨blk i, 22, none⟩ (.int .i64 0)).setCell ⟨blk i, 23, none⟩ (.bool false))) := by
      have hs : SrfB w (blk i) (G i) := h.srf i (live_nat hio)
      have q := (h.cells i (live_nat hio)).nat
      have q2 := q.next
      have ho := h.own.2.2.2 i (live_nat hio)
      refine ⟨rfl, PaneOk.mono ⟨sc, mp, blk, _, h.upd (gf := sfUnclip) hio hil (fun _ => rfl) (fun g hg hne => ?_) (((((hs.set 19 _).set 20 _).set 21 _).set 22 _).set 23 _) rfl (NCells.upd hil ⟨q.num, q.par, ⟨q.now.w, q.now.h, q.now.pix, q.now.x, q.now.y, q.now.c0, q.now.c1, q.now.c2, q.now.c3, q.now.cut, q.now.hint⟩, ⟨q2.w, q2.h, q2.pix, q2.x, q2.y, rfl, rfl, rfl, rfl, rfl, q2.hint⟩, q.stk, q.kep⟩) ⟨(h.data i hio).pix, (h.data i hio).hint, (h.data i hio).npix, (h.data i hio).nhint, (h.data i hio).kw, (h.data i hio).kh, (h.data i hio).kept⟩⟩ (fun _ h => grow_self h), (((((Only.refl S w).set (.inl ho) _).set (.inl ho) _).set (.inl ho) _).set (.inl ho) _).set (.inl ho) _⟩
      rw [setOther 23 _ g (by simpa using hg) hne, setOther 22 _ g (by simpa using hg) hne, setOther 21 _ g (by simpa using hg) hne, setOther 20 _ g (by simpa using hg) hne, setOther 19 _ g hg hne]
    obtain ⟨post, hpost⟩ : ∃ P, P = PPost S x bv (0, upd st i sfUnclip) w := ⟨_, rfl⟩
    rw [← hpost] at HOk ⊢
    obtain ⟨g, hg⟩ : ∃ g, blk i = g := ⟨_, rfl⟩
    rw [hg] at HS c18 c19 c20 c21 c22 f18 f19 f20 f21 f22 HOk
    clear h hB kc kf kl hpost hg
    go_enter Tryz.func36, Tryz.ntmps36
    go_wp2_with (first
      | (go_at_call 58; refine HS.out.mono ?_; rintro e w' ⟨rfl, hw'⟩; replace hw' := hw'.symm; subst hw')
      | go_in)
    try go_ret
    exact HOk.out

end Go.Proofs.YtofinpocigbbeaaGreat
