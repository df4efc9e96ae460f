import Derived.Test.YtofinpocigbbeaaGreatKar
import Derived.LaidEqlPtr
import Derived.Lib.Builder
namespace Go.Proofs.YtofinpocigbbeaaGreat
open Go.RowKit
attribute [local go_sem ↓] Go.wp_at_zero Go.wp_at_succ

theorem PPost.after {S : Nat → Prop} {x : Nat} {bv : Value} {p : Int × St} {w W : World} {e : Ending} {w' : World} (hb : Below w.heap.size w W) (h : PPost S x bv p W e w') : PPost S x bv p w e w' := by
  obtain ⟨h1, h2, h3⟩ := h
  refine ⟨h1, h2.mono fun g hg => ?_, (Only.below hb).trans (h3.mono fun g _ hs => .inl hs)⟩
  rcases hg with hg | ⟨hg1, hg2⟩
  · exact .inl hg
  · exact .inr ⟨Nat.le_trans hb.size hg1, hg2⟩

theorem PPost.then {S : Nat → Prop} {x : Nat} {bv : Value} {p : Int × St} {w : World} {e : Ending} {w1 w2 : World} (h : PPost S x bv p w e w1) (hb : Below w1.heap.size w1 w2) : PPost S x bv p w e w2 := by
  obtain ⟨h1, h2, h3⟩ := h
  refine ⟨h1, (h2.keep fun g _ hg => hb.block g hg).mono fun g hg => ?_, h3.after hb⟩
  rcases hg with hg | ⟨hg1, hg2⟩
  · exact .inl hg
  · exact .inr ⟨hg1, Nat.lt_of_lt_of_le hg2 hb.size⟩

set_option maxRecDepth 100000 in
set_option maxHeartbeats 1000000 in
/-- (*Surface).Clip -/
theorem sfClip_any (g : Nat) (a0 a1 a2 a3 : Int) (F : Nat → Value) (w : World) (h : SrfB w g F) :
    Calls Tryz.prog 69 #[.pointer (some ⟨g, 0, none⟩), .agg #[.int .i64 a0, .int .i64 a1, .int .i64 a2, .int .i64 a3]] w fun e w' => e = .returned (.tuple #[]) ∧
      w' = (((((w.setCell ⟨g, 19, none⟩ (.int .i64 a0)).setCell ⟨g, 20, none⟩ (.int .i64 a1)).setCell ⟨g, 21, none⟩ (.int .i64 a2)).setCell ⟨g, 22, none⟩ (.int .i64 a3)).setCell ⟨g, 23, none⟩ (.bool true)).alloc (.cells #[.int .i64 a0, .int .i64 a1, .int .i64 a2, .int .i64 a3] 53) := by
  obtain ⟨cur, h1, h2, h3⟩ := h
  have hlt : g < w.heap.size := (Array.getElem?_eq_some_iff.1 h1).1
  have hc : ∀ j, j < 31 → w.cell? ⟨g, j, none⟩ = some (F j) := fun j hj => by
    rw [cell_of_row _ _ _ _ _ _ h1]
    exact h3 j hj
  have hf : ∀ j, w.frozen? ⟨g, j, none⟩ = false := fun j => by simp [World.frozen?, h1]
  have c18 := hc 19 (by omega)
  have c19 := hc 20 (by omega)
  have c20 := hc 21 (by omega)
  have c21 := hc 22 (by omega)
  have c22 := hc 23 (by omega)
  have f18 := hf 19
  have f19 := hf 20
  have f20 := hf 21
  have f21 := hf 22
  have f22 := hf 23
  have hgn : ¬ g = w.heap.size := by omega
  clear hc hf h1 h2 h3
  go_enter Tryz.func69, Tryz.ntmps69
  go_wp2_with fail
  exact bodyPost_end (v := .tuple #[]) (by simp [results, Tryz.results69]) rfl ⟨rfl, rfl⟩

set_option maxRecDepth 100000 in
set_option maxHeartbeats 1000000 in
/-- (*Screen).Clip -/
theorem paClip_any {S : Nat → Prop} {x : Nat} {st : St} (hw : Wf st) (id a0 a1 a2 a3 : Int) (w : World) {bv : Value} (h : PaneOk w S x st bv) :
    Calls Tryz.prog 35 #[.pointer (some ⟨x, 0, none⟩), .int .i64 id, .agg #[.int .i64 a0, .int .i64 a1, .int .i64 a2, .int .i64 a3]] w (PPost S x bv (opClip st id (a0, a1, a2, a3) (fitR (a0, a1, a2, a3))) w) := by
  have hB := isB_iff hw id
  have hb1 := fun o => al1 (Nat.le_refl w.heap.size) o
  have hb2 := fun o1 o2 => al2 (Nat.le_refl w.heap.size) o1 o2
  have HE6 := hide (fun o => PPost.same (er := 6) h (hb1 o))
  have HE3 := hide (fun o1 o2 => PPost.same (er := 3) h (hb2 o1 o2))
  obtain ⟨sc, mp, blk, G, h⟩ := h
  obtain ⟨x0, x1, xl⟩ := h.scrCells
  have hxn : ¬ x = w.heap.size := by omega
  unfold opClip
  obtain ⟨t, ht⟩ : ∃ t, st.isB id = t := ⟨_, rfl⟩
  rw [ht] at hB ⊢
  cases t with
  | false =>
    rw [if_neg (by simp)]
    have HS := hide (fun o => scSurface_no (h.below (hb1 o)) id (isB_no hw ht))
    clear hB h hb1 hb2 HE3
    go_enter Tryz.func35, Tryz.ntmps35
    go_wp2_with (go_at_call 58; refine (HS.out _).mono ?_; rintro e w' ⟨rfl, rfl⟩)
    go_ret
    exact HE6.out _
  | true =>
    rw [if_pos rfl]
    obtain ⟨i, rfl, hio⟩ := hB.1 rfl
    have hil := hw.lt hio
    rw [Int.toNat_natCast]
    have HS := hide (fun o => scSurface_ok (h.below (hb1 o)) i hio)
    have HOk : Hid (∀ W : World, Below w.heap.size w W → PPost S x bv (0, upd st i (sfClip (a0, a1, a2, a3))) w (.returned (.int .i64 0)) (((((W.setCell ⟨blk i, 19, none⟩ (.int .i64 a0)).setCell ⟨blk i, 20, none⟩ (.int .i64 a1)).setCell ⟨blk i, 21, none⟩ (.int .i64 a2)).setCell ⟨blk i, 22, none⟩ (.int .i64 a3)).setCell ⟨blk i, 23, none⟩ (.bool true))) := fun W hW => by
      have h := h.below hW
      have hs : SrfB W (blk i) (G i) := h.srf i (live_nat hio)
      have q := (h.cells i (live_nat hio)).nat
      have q2 := q.next
      have ho := h.own.2.2.2 i (live_nat hio)
      refine PPost.after hW ⟨rfl, PaneOk.mono ⟨sc, mp, blk, _, h.upd (gf := sfClip (a0, a1, a2, a3)) hio hil (fun _ => rfl) (fun g hg hne => ?_) (((((hs.set 19 _).set 20 _).set 21 _).set 22 _).set 23 _) rfl (NCells.upd hil ⟨q.num, q.par, ⟨q.now.w, q.now.h, q.now.pix, q.now.x, q.now.y, q.now.c0, q.now.c1, q.now.c2, q.now.c3, q.now.cut, q.now.hint⟩, ⟨q2.w, q2.h, q2.pix, q2.x, q2.y, rfl, rfl, rfl, rfl, rfl, q2.hint⟩, q.stk, q.kep⟩) ⟨(h.data i hio).pix, (h.data i hio).hint, (h.data i hio).npix, (h.data i hio).nhint, (h.data i hio).kw, (h.data i hio).kh, (h.data i hio).kept⟩⟩ (fun _ h => grow_self h), (((((Only.refl S W).set (.inl ho) _).set (.inl ho) _).set (.inl ho) _).set (.inl ho) _).set (.inl ho) _⟩
      rw [setOther 23 _ g (by simpa using hg) hne, setOther 22 _ g (by simpa using hg) hne, setOther 21 _ g (by simpa using hg) hne, setOther 20 _ g (by simpa using hg) hne, setOther 19 _ g hg hne]
    have HM := hide (mayBeR_any a0 a1 a2 a3)
    obtain ⟨ok, hok⟩ : ∃ ok, fitR (a0, a1, a2, a3) = ok := ⟨_, rfl⟩
    rw [hok] at HM ⊢
    obtain ⟨g, hg⟩ : ∃ g, blk i = g := ⟨_, rfl⟩
    have HC := hide (fun o1 o2 => sfClip_any (blk i) a0 a1 a2 a3 (G i) _ ((h.below (hb2 o1 o2)).srf i (live_nat hio)))
    have HL := hide hb2
    rw [hg] at HS HOk HC
    have HA := hide (fun (W : World) (o : Obj) => al1 (Nat.le_refl W.heap.size) o)
    clear h hB hg hb1 hb2 HE6 hok
    cases ok with
    | false =>
      rw [if_neg (by simp)]
      go_enter Tryz.func35, Tryz.ntmps35
      go_wp2_with (first
        | (go_at_call 58; refine (HS.out _).mono ?_; rintro e w' ⟨rfl, rfl⟩)
        | (go_at_call 68; refine (HM.out _).mono ?_; rintro e w' ⟨rfl, rfl⟩)
        | go_in)
      try go_ret
      exact HE3.out _ _
    | true =>
      rw [if_pos rfl]
      go_enter Tryz.func35, Tryz.ntmps35
      go_wp2_with (first
        | (go_at_call 58; refine (HS.out _).mono ?_; rintro e w' ⟨rfl, rfl⟩)
        | (go_at_call 68; refine (HM.out _).mono ?_; rintro e w' ⟨rfl, rfl⟩)
        | (go_at_call 69; refine (HC.out _ _).mono ?_; rintro e w' ⟨rfl, rfl⟩))
      try go_ret
      exact (HOk.out _ (HL.out _ _)).then (HA.out _ _)

end Go.Proofs.YtofinpocigbbeaaGreat

namespace Go.Proofs.YtofinpocigbbeaaGreat
open Go.RowKit
attribute [local go_sem ↓] Go.wp_at_zero Go.wp_at_succ

theorem surfSize : ∃ j, Tryz.prog.info? 174 = some j ∧ j.size = 31 := by
  have h : (Tryz.prog.info? 174).map (·.size) = some 31 := by kernel_rfl
  cases hq : Tryz.prog.info? 174 with
  | none => rw [hq] at h; cases h
  | some j => rw [hq] at h; simp at h; exact ⟨j, rfl, h⟩

theorem ptr_same (a : Nat) (w : World) : (binOp .eql 117 (.pointer (some ⟨a, 0, none⟩)) (.pointer (some ⟨a, 0, none⟩))).run Tryz.prog w = .ok (.bool true) w ∧ (binOp .neq 117 (.pointer (some ⟨a, 0, none⟩)) (.pointer (some ⟨a, 0, none⟩))).run Tryz.prog w = .ok (.bool false) w := by
  obtain ⟨j, hj, _⟩ := surfSize
  exact ⟨run_eql_ptr_same w _ Tryz.underlying117 hj, Lib.run_neq_ptr_same w _ Tryz.underlying117 hj⟩

theorem ptr_other {a b : Nat} (hab : a ≠ b) (w : World) {ca cb : Array Value} {ta tb : TypeId} (ha : w.heap[a]? = some (.cells ca ta (0, 0))) (hb : w.heap[b]? = some (.cells cb tb (0, 0))) : (binOp .eql 117 (.pointer (some ⟨a, 0, none⟩)) (.pointer (some ⟨b, 0, none⟩))).run Tryz.prog w = .ok (.bool false) w ∧ (binOp .neq 117 (.pointer (some ⟨a, 0, none⟩)) (.pointer (some ⟨b, 0, none⟩))).run Tryz.prog w = .ok (.bool true) w := by
  obtain ⟨j, hj, hs⟩ := surfSize
  have hne : (⟨a, 0, none⟩ : Addr) ≠ ⟨b, 0, none⟩ := fun e => hab (by injection e)
  have hsz : j.size ≠ 0 := by omega
  refine ⟨run_eql_ptr_other w Tryz.underlying117 hj hsz hne ha hb, ?_⟩
  have h : ∀ d : Nat, (Op.equalIn (d + 1) 117 (.pointer (some ⟨a, 0, none⟩)) (.pointer (some ⟨b, 0, none⟩))).run Tryz.prog w = .ok false w := fun d => by
    simp [Op.equalIn, run_underlying (P := Tryz.prog) Tryz.underlying117, sizeOf, typeInfo, hj, hsz, run_sameAddr_other w hne ha hb]
  simp only [binOp]
  simp [Op.equal, Op.maxDepth, h 9999]

set_option maxRecDepth 100000 in
set_option maxHeartbeats 1000000 in
/-- (*Surface).Beside -/
theorem beside_any (a b pa pb : Nat) (w : World) (ha : w.cell? ⟨a, 1, none⟩ = some (.pointer (some ⟨pa, 0, none⟩))) (hb : w.cell? ⟨b, 1, none⟩ = some (.pointer (some ⟨pb, 0, none⟩))) (fa : ∃ F, SrfB w a F) (fb : ∃ F, SrfB w b F) (ga : ∃ F, SrfB w pa F) (gb : ∃ F, SrfB w pb F) :
    Calls Tryz.prog 74 #[.pointer (some ⟨a, 0, none⟩), .pointer (some ⟨b, 0, none⟩)] w fun e w' => e = .returned (.bool (decide (a ≠ b ∧ pa = pb))) ∧ ∃ n, w' = w.drewN n := by
  obtain ⟨F1, c1, k1, _⟩ := fa
  obtain ⟨F2, c2, k2, _⟩ := fb
  obtain ⟨F3, c3, k3, _⟩ := ga
  obtain ⟨F4, c4, k4, _⟩ := gb
  by_cases e : a = b
  · have hd : decide (a ≠ b ∧ pa = pb) = false := decide_eq_false fun h => h.1 e
    rw [hd]
    clear hd
    subst e
    have hn := fun n => (ptr_same a (w.drewN n)).2
    clear k1 k2 k3 k4
    go_enter Tryz.func74, Tryz.ntmps74
    go_wp2_with fail
    go_quiet (fail)
    go_wp2_with fail
    go_ret
    exact ⟨rfl, _, rfl⟩
  · by_cases e2 : pa = pb
    · have hd : decide (a ≠ b ∧ pa = pb) = true := decide_eq_true ⟨e, e2⟩
      rw [hd]
      clear hd
      subst e2
      have hn := fun n => (ptr_other e (w.drewN n) k1 k2).2
      have hp := fun n => (ptr_same pa (w.drewN n)).1
      clear k1 k2 k3 k4
      go_enter Tryz.func74, Tryz.ntmps74
      go_wp2_with fail
      go_quiet (fail)
      go_wp2_with fail
      go_ret
      exact ⟨rfl, _, rfl⟩
    · have hd : decide (a ≠ b ∧ pa = pb) = false := decide_eq_false fun h => e2 h.2
      rw [hd]
      clear hd
      have hn := fun n => (ptr_other e (w.drewN n) k1 k2).2
      have hp := fun n => (ptr_other e2 (w.drewN n) k3 k4).1
      clear k1 k2 k3 k4
      go_enter Tryz.func74, Tryz.ntmps74
      go_wp2_with fail
      go_quiet (fail)
      go_wp2_with fail
      go_ret
      exact ⟨rfl, _, rfl⟩

def srfV (st : St) (blk : Int → Nat) (id : Int) : Value := if st.isB id = true then .pointer (some ⟨blk id, 0, none⟩) else .pointer none

theorem scSurface_all {w : World} {S : Nat → Prop} {x : Nat} {st : St} (hw : Wf st) {bv : Value} {sc mp : Nat} {blk : Int → Nat} {G : Int → Nat → Value} (h : PRaw w S x st bv sc mp blk G) (id : Int) :
    Calls Tryz.prog 58 #[.pointer (some ⟨sc, 0, none⟩), .int .i64 id] w fun e w' => e = .returned (srfV st blk id) ∧ w' = w := by
  unfold srfV
  cases ht : st.isB id with
  | false =>
    rw [if_neg (by simp)]
    exact scSurface_no h id (isB_no hw ht)
  | true =>
    rw [if_pos rfl]
    obtain ⟨i, rfl, hi⟩ := (isB_iff hw id).1 ht
    exact scSurface_ok h i hi

theorem PRaw.drewN {w : World} {S : Nat → Prop} {x : Nat} {st : St} {bv : Value} {sc mp : Nat} {blk : Int → Nat} {G : Int → Nat → Value} (h : PRaw w S x st bv sc mp blk G) (n : Nat) : PRaw (w.drewN n) S x st bv sc mp blk G := h.below (below_drewN (Below.refl _ _) n)

set_option maxRecDepth 100000 in
set_option maxHeartbeats 1000000 in
/-- (*Screen).Stack -/
theorem paStack_any {S : Nat → Prop} {x : Nat} {st : St} (hw : Wf st) (id sb : Int) (ab : Bool) (w : World) {bv : Value} (h : PaneOk w S x st bv) :
    Calls Tryz.prog 38 #[.pointer (some ⟨x, 0, none⟩), .int .i64 id, .int .i64 sb, .bool ab] w (PPost S x bv (opStack st id sb ab) w) := by
  have HE6 := hide (fun n => PPost.same (er := 6) h (below_drewN (Below.refl w.heap.size w) n))
  have HE8 := hide (fun n => PPost.same (er := 8) h (below_drewN (Below.refl w.heap.size w) n))
  obtain ⟨sc, mp, blk, G, h⟩ := h
  obtain ⟨x0, x1, xl⟩ := h.scrCells
  have HS := hide (fun (k : Int) (n : Nat) => scSurface_all hw (h.drewN n) k)
  have hB1 := isB_iff hw id
  have hB2 := isB_iff hw sb
  unfold opStack
  cases ht1 : st.isB id with
  | false =>
    have v1 : srfV st blk id = .pointer none := by unfold srfV; rw [ht1]; rfl
    rw [if_neg (by simp)]
    clear hB1 hB2 h
    go_enter Tryz.func38, Tryz.ntmps38
    go_wp2_with fail
    go_quiet ((go_at_call 58; exact Calls.quiet_of_same (HS.out _ _)))
    go_wp2_with fail
    try go_ret
    exact HE6.out _
  | true =>
    obtain ⟨i, rfl, hio⟩ := hB1.1 ht1
    cases ht2 : st.isB sb with
    | false =>
      have v1 : srfV st blk i = .pointer (some ⟨blk i, 0, none⟩) := by unfold srfV; rw [ht1]; rfl
      have v2 : srfV st blk sb = .pointer none := by unfold srfV; rw [ht2]; rfl
      rw [if_neg (by simp)]
      clear hB1 hB2 h
      go_enter Tryz.func38, Tryz.ntmps38
      go_wp2_with fail
      go_quiet ((go_at_call 58; exact Calls.quiet_of_same (HS.out _ _)))
      go_wp2_with fail
      try go_ret
      exact HE6.out _
    | true =>
      obtain ⟨j, rfl, hjo⟩ := hB2.1 ht2
      have v1 : srfV st blk i = .pointer (some ⟨blk i, 0, none⟩) := by unfold srfV; rw [ht1]; rfl
      have v2 : srfV st blk j = .pointer (some ⟨blk j, 0, none⟩) := by unfold srfV; rw [ht2]; rfl
      have hil := hw.lt hio
      rw [if_pos ⟨rfl, rfl⟩, Int.toNat_natCast, Int.toNat_natCast]
      have qi := (h.cells i (live_nat hio)).nat
      have qj := (h.cells j (live_nat hjo)).nat
      obtain ⟨kc, kf, kl⟩ := h.at (live_nat hio)
      obtain ⟨jc, jf, jl⟩ := h.at (live_nat hjo)
      have c23 := kc 25 (by omega)
      have c24 := kc 26 (by omega)
      have c25 := kc 27 (by omega)
      have f23 := kf 25
      have f24 := kf 26
      have f25 := kf 27
      have j0 := jc 0 (by omega)
      rw [qj.num] at j0
      have k1 := kc 1 (by omega)
      have j1 := jc 1 (by omega)
      rw [qi.par] at k1
      rw [qj.par] at j1
      have HN := hide (fun n => beside_any (blk i) (blk j) (blk (st.sf i).parent) (blk (st.sf j).parent) (w.drewN n) k1 j1 ⟨_, h.srf i (live_nat hio)⟩ ⟨_, h.srf j (live_nat hjo)⟩ ⟨_, h.srf _ (live_par hw hio)⟩ ⟨_, h.srf _ (live_par hw hjo)⟩)
      have hdec : (decide (blk i ≠ blk j ∧ blk (st.sf i).parent = blk (st.sf j).parent)) = decide ((i : Int) ≠ (j : Int) ∧ (st.sf i).parent = (st.sf j).parent) := by
        congr 1
        apply propext
        refine and_congr (not_congr ⟨fun e => h.inj i j (live_nat hio) (live_nat hjo) e, fun e => by rw [e]⟩) ⟨fun e => h.inj _ _ (live_par hw hio) (live_par hw hjo) e, fun e => by rw [e]⟩
      rw [hdec] at HN
      have HOk : Hid (∀ n, PPost S x bv (0, upd st i (sfStack j ab)) w (.returned (.int .i64 0)) ((((w.drewN n).setCell ⟨blk i, 25, none⟩ (.bool true)).setCell ⟨blk i, 26, none⟩ (.int .i64 (j : Int))).setCell ⟨blk i, 27, none⟩ (.bool ab))) := fun n => by
        have hW := below_drewN (Below.refl w.heap.size w) n
        have h := h.below hW
        have hs : SrfB (w.drewN n) (blk i) (G i) := h.srf i (live_nat hio)
        have ho := h.own.2.2.2 i (live_nat hio)
        refine PPost.after hW ⟨rfl, PaneOk.mono ⟨sc, mp, blk, _, h.upd (gf := sfStack j ab) hio hil (fun _ => rfl) (fun g hg hne => ?_) (((hs.set 25 _).set 26 _).set 27 _) rfl (NCells.upd hil ⟨qi.num, qi.par, ⟨qi.now.w, qi.now.h, qi.now.pix, qi.now.x, qi.now.y, qi.now.c0, qi.now.c1, qi.now.c2, qi.now.c3, qi.now.cut, qi.now.hint⟩, ⟨qi.next.w, qi.next.h, qi.next.pix, qi.next.x, qi.next.y, qi.next.c0, qi.next.c1, qi.next.c2, qi.next.c3, qi.next.cut, qi.next.hint⟩, ⟨_, _, _, rfl, rfl, rfl, rfl, fun _ => ⟨rfl, rfl⟩⟩, qi.kep⟩) ⟨(h.data i hio).pix, (h.data i hio).hint, (h.data i hio).npix, (h.data i hio).nhint, (h.data i hio).kw, (h.data i hio).kh, (h.data i hio).kept⟩⟩ (fun _ h => grow_self h), (((Only.refl S (w.drewN n)).set (.inl ho) _).set (.inl ho) _).set (.inl ho) _⟩
        rw [setOther 27 _ g (by simpa using hg) hne, setOther 26 _ g (by simpa using hg) hne, setOther 25 _ g hg hne]
      obtain ⟨g, hg⟩ : ∃ g, blk i = g := ⟨_, rfl⟩
      obtain ⟨g2, hg2⟩ : ∃ g2, blk j = g2 := ⟨_, rfl⟩
      rw [hg] at c23 c24 c25 f23 f24 f25 HOk HN v1
      rw [hg2] at j0 HN v2
      clear hB1 hB2 h kc kf kl jc jf jl qi qj k1 j1 hdec HE6
      by_cases hc : (i : Int) ≠ (j : Int) ∧ (st.sf i).parent = (st.sf j).parent
      · rw [decide_eq_true hc] at HN
        rw [if_pos hc]
        clear hc HE8
        go_enter Tryz.func38, Tryz.ntmps38
        go_wp2_with fail
        go_quiet ((go_at_call 58; exact Calls.quiet_of_same (HS.out _ _)))
        go_wp2_with (first
          | (go_at_call 74; refine (HN.out _).mono ?_; rintro e w' ⟨rfl, zz, rfl⟩)
          | go_in)
        try go_ret
        exact HOk.out _
      · rw [decide_eq_false hc] at HN
        rw [if_neg hc]
        clear hc HOk
        go_enter Tryz.func38, Tryz.ntmps38
        go_wp2_with fail
        go_quiet ((go_at_call 58; exact Calls.quiet_of_same (HS.out _ _)))
        go_wp2_with (first
          | (go_at_call 74; refine (HN.out _).mono ?_; rintro e w' ⟨rfl, zz, rfl⟩)
          | go_in)
        try go_ret
        exact HE8.out _

end Go.Proofs.YtofinpocigbbeaaGreat
