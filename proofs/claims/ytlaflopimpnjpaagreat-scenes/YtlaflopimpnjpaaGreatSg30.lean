import Derived.Test.YtlaflopimpnjpaaGreatSg29
import Derived.Laws.MakeOwn
import Derived.Laws.StructEq
import Derived.Deep.OwnRows
/-! RefK -/
namespace Go.Proofs.YtlaflopimpnjpaaGreat
open Go.RowKit
attribute [local go_sem ↓] Go.wp_at_zero Go.wp_at_succ

theorem stacked_any {S : Nat → Prop} {c : Nat} {st : St} (hw : Wf st) (hsb : SibOk st) (id : Nat) (hid : id ∈ st.order) (w : World) (h : RefOk w S c st) :
    Calls Tryz.prog 58 #[.pointer (some ⟨c, 0, none⟩), .int .i64 id] w (StackPost S c st id w) := by
  cases hp : st.puts id with
  | true => exact stacked_yes hw hsb id hid hp w h
  | false => exact stacked_no hw id hid hp w h

def nowSf (s : Sf) : Sf := { s with now := s.next }

theorem stk_now (st : St) {i : Nat} (hi : i < st.sfs.length) : stk (upd st i nowSf) i = cm st i := by
  have hs : (upd st i nowSf).sf i = nowSf (st.sf i) := by rw [upd_sf st i nowSf i hi, if_pos rfl]
  have hb : ∀ x, (upd st i nowSf).isB x = st.isB x := fun x => by
    unfold St.isB
    rw [upd_len, upd_sf st i nowSf _ hi]
    split
    · rename_i e; rw [← e]; rfl
    · rfl
  have hp : (upd st i nowSf).puts i = st.puts i := by
    unfold St.puts
    rw [hs, hb]
    rfl
  unfold stk cm
  rw [hp, hs]
  have hl : (upd (upd st i nowSf) i stSf).sfs = (upd st i cmSf).sfs := by
    unfold upd
    apply List.ext_getElem?
    intro j
    simp only [List.getElem?_modify]
    cases st.sfs[j]? with
    | none => rfl
    | some a =>
      by_cases e : i = j
      · simp [e, nowSf, stSf, cmSf]
      · simp [e]
  show St.mk _ _ _ _ = St.mk _ _ _ _
  rw [hl]
  rfl

theorem rsem_upd {w w' : World} {S : Nat → Prop} {st : St} {F F' : Nat → Nat → Value} {i : Nat} {gf : Sf → Sf} (hi : i < st.sfs.length) (hs : RSem w S st F) (hF : ∀ j, j ≠ i → F' j = F j) (hpk : ∀ (b : Nat) (cur : Array Value), w.heap[b]? = some (.cells cur 55 (0, 0)) → w'.heap[b]? = w.heap[b]?) (hc : SfCells (F' i) (gf (st.sf i))) (hN : PixRow w' S (F' i 4) ((gf (st.sf i)).now.w * (gf (st.sf i)).now.h)) (hX : PixRow w' S (F' i 15) ((gf (st.sf i)).next.w * (gf (st.sf i)).next.h)) : RSem w' S (upd st i gf) F' := by
  refine ⟨fun j hj => ?_, fun j hj => ?_, fun j hj => ?_⟩
  · rw [upd_len] at hj
    rw [upd_sf st i gf j hi]
    by_cases e : j = i
    · subst e; rw [if_pos rfl]; exact hc
    · rw [if_neg e, hF j e]; exact hs.rel j hj
  · rw [upd_len] at hj
    rw [upd_sf st i gf j hi]
    by_cases e : j = i
    · subst e; rw [if_pos rfl]; exact hN
    · rw [if_neg e, hF j e]; exact (hs.pixN j hj).other hpk
  · rw [upd_len] at hj
    rw [upd_sf st i gf j hi]
    by_cases e : j = i
    · subst e; rw [if_pos rfl]; exact hX
    · rw [if_neg e, hF j e]; exact (hs.pixX j hj).other hpk

theorem Fine.now {st : St} (h : Fine st) {i : Nat} (hi : i < st.sfs.length) : Fine (Go.Proofs.YtlaflopimpnjpaaGreat.upd st i nowSf) := h.upd hi (fun _ => rfl) (fun _ => rfl) ⟨(h.wf.lk i).2, (h.wf.lk i).2⟩ (fun _ => ⟨rfl, rfl⟩)

theorem HasB.tur {S : Nat → Prop} {T t : TypeId} {w w' : World} {b k : Nat} (h : HasB w b t k) (ht : TurT S T w w') : HasB w' b t k := by
  obtain ⟨cur, h1, h2⟩ := h
  rcases ht.block b (Array.getElem?_eq_some_iff.1 h1).1 with q | ⟨_, c1, c2, q1, q2, q3⟩
  · exact ⟨cur, by rw [q]; exact h1, h2⟩
  · rw [h1] at q1
    injection q1 with q1
    injection q1 with q11 q12
    subst q11 q12
    exact ⟨c2, q2, by rw [q3]; exact h2⟩

theorem boolInfo : (Tryz.prog.info? 4).map (fun i => (i.zero, i.size, i.bytes)) = some (some (.bool false), 1, 1) := by kernel_rfl

set_option maxRecDepth 100000 in
theorem eqRc (a b c d e f g h : Int) (w : World) : (Op.equalIn 10000 37 (.agg #[.int .i64 a, .int .i64 b, .int .i64 c, .int .i64 d]) (.agg #[.int .i64 e, .int .i64 f, .int .i64 g, .int .i64 h])).run Tryz.prog w = .ok (a == e && (b == f && (c == g && d == h))) w := by
  have u3 := Tryz.underlying3
  rw [show (10000 : Nat) = 9999 + 1 from rfl, run_equalIn_struct w 9999 37 _ _ (by kernel_rfl) (by kernel_rfl)]
  go_simp
  by_cases h1 : a = e <;> by_cases h2 : b = f <;> by_cases h3 : c = g <;> by_cases h4 : d = h <;> simp [h1, h2, h3, h4]

theorem commit_tail {w w1 Wg : World} {S : Nat → Prop} {c : Nat} {st st1 : St} {bv sv ov : Value} {F1 : Nat → Nat → Value} {g : Nat} (co cn : Array Value) (hr : RRaw Wg S c st.w st.h st.sfs.length st.order bv sv ov F1) (hs : RSem Wg S st1 F1) (hO : Only S w Wg) (hz : Wg.heap.size = w1.heap.size) (ho : ∀ b, b ≠ g → Wg.heap[b]? = w1.heap[b]?) :
    (∃ F1, RRaw ((Wg.alloc (.cells co 116)).alloc (.cells cn 116)) S c st.w st.h st.sfs.length st.order bv sv ov F1 ∧ RSem ((Wg.alloc (.cells co 116)).alloc (.cells cn 116)) S st1 F1) ∧ Only S w ((Wg.alloc (.cells co 116)).alloc (.cells cn 116)) ∧ ((Wg.alloc (.cells co 116)).alloc (.cells cn 116)).heap.size = w1.heap.size + 2 ∧ Blk ((Wg.alloc (.cells co 116)).alloc (.cells cn 116)) w1.heap.size 116 co ∧ Blk ((Wg.alloc (.cells co 116)).alloc (.cells cn 116)) (w1.heap.size + 1) 116 cn ∧ ∀ b, b < w1.heap.size → b ≠ g → ((Wg.alloc (.cells co 116)).alloc (.cells cn 116)).heap[b]? = w1.heap[b]? := by
  have b0 := al2 (Nat.le_refl Wg.heap.size) (.cells co 116) (.cells cn 116)
  have b1 : Blk (Wg.alloc (.cells co 116)) Wg.heap.size 116 co := heap_alloc_new _ _
  have z1 : (Wg.alloc (.cells co 116)).heap.size = w1.heap.size + 1 := by simp [hz]
  have b2 : Blk ((Wg.alloc (.cells co 116)).alloc (.cells cn 116)) (Wg.alloc (.cells co 116)).heap.size 116 cn := heap_alloc_new _ _
  rw [hz] at b1
  rw [z1] at b2
  exact ⟨⟨F1, hr.below b0, hs.below b0⟩, hO.after b0, by simp [hz], b1.alloc _, b2, fun b hb hne => (b0.block b (by omega)).trans (ho b hne)⟩

/-- What it has is what was asked for; and two copies. -/
theorem commit_mid {w w1 : World} {S : Nat → Prop} {c : Nat} {st : St} {bv ov : Value} {F : Nat → Nat → Value} {g cap i : Nat} (hb : Below w.heap.size w w1) (hr : RRaw w S c st.w st.h st.sfs.length st.order bv (.slice (some ⟨g, 0, none⟩) st.sfs.length cap) ov F) (hs : RSem w S st F) (hi : i < st.sfs.length) {X N : Look} (hX : (st.sf i).next = X) (pa xa : Option Addr) (pm pc xm xc : Nat) (hx : F i 15 = .slice xa xm xc) :
    ∃ W2, ((((((((((((w1.setCell ⟨g, i * 28 + 2, none⟩ (.int .i64 X.w)).setCell ⟨g, i * 28 + 2 + 1, none⟩ (.int .i64 X.h)).setCell ⟨g, i * 28 + 2 + 2, none⟩ (.slice xa xm xc)).setCell ⟨g, i * 28 + 2 + 3, none⟩ (.int .i64 X.x)).setCell ⟨g, i * 28 + 2 + 4, none⟩ (.int .i64 X.y)).setCell ⟨g, i * 28 + 2 + 5, none⟩ (.bool X.cut)).setCell ⟨g, i * 28 + 2 + 6, none⟩ (.int .i64 X.clip.1)).setCell ⟨g, i * 28 + 2 + 7, none⟩ (.int .i64 X.clip.2.1)).setCell ⟨g, i * 28 + 2 + 8, none⟩ (.int .i64 X.clip.2.2.1)).setCell ⟨g, i * 28 + 2 + 9, none⟩ (.int .i64 X.clip.2.2.2)).setCell ⟨g, i * 28 + 2 + 10, none⟩ (.slice none 0 0)).alloc (.cells #[.int .i64 N.w, .int .i64 N.h, .slice pa pm pc, .int .i64 N.x, .int .i64 N.y, .bool N.cut, .int .i64 N.clip.1, .int .i64 N.clip.2.1, .int .i64 N.clip.2.2.1, .int .i64 N.clip.2.2.2, .slice none 0 0] 116)).alloc (.cells #[.int .i64 X.w, .int .i64 X.h, .slice xa xm xc, .int .i64 X.x, .int .i64 X.y, .bool X.cut, .int .i64 X.clip.1, .int .i64 X.clip.2.1, .int .i64 X.clip.2.2.1, .int .i64 X.clip.2.2.2, .slice none 0 0] 116) = W2 ∧
      (∃ F1, RRaw W2 S c st.w st.h st.sfs.length st.order bv (.slice (some ⟨g, 0, none⟩) st.sfs.length cap) ov F1 ∧ RSem W2 S (upd st i nowSf) F1) ∧ Only S w W2 ∧ W2.heap.size = w1.heap.size + 2 ∧
      Blk W2 w1.heap.size 116 #[.int .i64 N.w, .int .i64 N.h, .slice pa pm pc, .int .i64 N.x, .int .i64 N.y, .bool N.cut, .int .i64 N.clip.1, .int .i64 N.clip.2.1, .int .i64 N.clip.2.2.1, .int .i64 N.clip.2.2.2, .slice none 0 0] ∧
      Blk W2 (w1.heap.size + 1) 116 #[.int .i64 X.w, .int .i64 X.h, .slice xa xm xc, .int .i64 X.x, .int .i64 X.y, .bool X.cut, .int .i64 X.clip.1, .int .i64 X.clip.2.1, .int .i64 X.clip.2.2.1, .int .i64 X.clip.2.2.2, .slice none 0 0] ∧ ∀ b, b < w1.heap.size → b ≠ g → W2.heap[b]? = w1.heap[b]? := by
  refine ⟨_, rfl, ?_⟩
  have r1 := hr.below hb
  have s1 := hs.below hb
  obtain ⟨e2, cur, hcur⟩ := r1.gType
  have hr2 := ((((((((((r1.set hi (show 2 < 28 by omega) (.int .i64 X.w)).set hi (show 3 < 28 by omega) (.int .i64 X.h)).set hi (show 4 < 28 by omega) (.slice xa xm xc)).set hi (show 5 < 28 by omega) (.int .i64 X.x)).set hi (show 6 < 28 by omega) (.int .i64 X.y)).set hi (show 7 < 28 by omega) (.bool X.cut)).set hi (show 8 < 28 by omega) (.int .i64 X.clip.1)).set hi (show 9 < 28 by omega) (.int .i64 X.clip.2.1)).set hi (show 10 < 28 by omega) (.int .i64 X.clip.2.2.1)).set hi (show 11 < 28 by omega) (.int .i64 X.clip.2.2.2)).set hi (show 12 < 28 by omega) (.slice none 0 0)
  have hpk := pk_set (j := i * 28 + 12) (u := .slice none 0 0) hcur (pk_set (j := i * 28 + 11) (u := .int .i64 X.clip.2.2.2) hcur (pk_set (j := i * 28 + 10) (u := .int .i64 X.clip.2.2.1) hcur (pk_set (j := i * 28 + 9) (u := .int .i64 X.clip.2.1) hcur (pk_set (j := i * 28 + 8) (u := .int .i64 X.clip.1) hcur (pk_set (j := i * 28 + 7) (u := .bool X.cut) hcur (pk_set (j := i * 28 + 6) (u := .int .i64 X.y) hcur (pk_set (j := i * 28 + 5) (u := .int .i64 X.x) hcur (pk_set (j := i * 28 + 4) (u := .slice xa xm xc) hcur (pk_set (j := i * 28 + 3) (u := .int .i64 X.h) hcur (pk_set (j := i * 28 + 2) (u := .int .i64 X.w) hcur (w' := w1) fun _ _ _ => rfl))))))))))
  have q := s1.rel i hi
  have hoth : ∀ b, b ≠ g → (((((((((((w1.setCell ⟨g, i * 28 + 2, none⟩ (.int .i64 X.w)).setCell ⟨g, i * 28 + 3, none⟩ (.int .i64 X.h)).setCell ⟨g, i * 28 + 4, none⟩ (.slice xa xm xc)).setCell ⟨g, i * 28 + 5, none⟩ (.int .i64 X.x)).setCell ⟨g, i * 28 + 6, none⟩ (.int .i64 X.y)).setCell ⟨g, i * 28 + 7, none⟩ (.bool X.cut)).setCell ⟨g, i * 28 + 8, none⟩ (.int .i64 X.clip.1)).setCell ⟨g, i * 28 + 9, none⟩ (.int .i64 X.clip.2.1)).setCell ⟨g, i * 28 + 10, none⟩ (.int .i64 X.clip.2.2.1)).setCell ⟨g, i * 28 + 11, none⟩ (.int .i64 X.clip.2.2.2)).setCell ⟨g, i * 28 + 12, none⟩ (.slice none 0 0)).heap[b]? = w1.heap[b]? := fun b hne => by
    rw [heap_setCell_other _ ⟨g, i * 28 + 12, none⟩ b _ hne, heap_setCell_other _ ⟨g, i * 28 + 11, none⟩ b _ hne, heap_setCell_other _ ⟨g, i * 28 + 10, none⟩ b _ hne, heap_setCell_other _ ⟨g, i * 28 + 9, none⟩ b _ hne, heap_setCell_other _ ⟨g, i * 28 + 8, none⟩ b _ hne, heap_setCell_other _ ⟨g, i * 28 + 7, none⟩ b _ hne, heap_setCell_other _ ⟨g, i * 28 + 6, none⟩ b _ hne, heap_setCell_other _ ⟨g, i * 28 + 5, none⟩ b _ hne, heap_setCell_other _ ⟨g, i * 28 + 4, none⟩ b _ hne, heap_setCell_other _ ⟨g, i * 28 + 3, none⟩ b _ hne, heap_setCell_other _ ⟨g, i * 28 + 2, none⟩ b _ hne]
  have hO : Only S w (((((((((((w1.setCell ⟨g, i * 28 + 2, none⟩ (.int .i64 X.w)).setCell ⟨g, i * 28 + 3, none⟩ (.int .i64 X.h)).setCell ⟨g, i * 28 + 4, none⟩ (.slice xa xm xc)).setCell ⟨g, i * 28 + 5, none⟩ (.int .i64 X.x)).setCell ⟨g, i * 28 + 6, none⟩ (.int .i64 X.y)).setCell ⟨g, i * 28 + 7, none⟩ (.bool X.cut)).setCell ⟨g, i * 28 + 8, none⟩ (.int .i64 X.clip.1)).setCell ⟨g, i * 28 + 9, none⟩ (.int .i64 X.clip.2.1)).setCell ⟨g, i * 28 + 10, none⟩ (.int .i64 X.clip.2.2.1)).setCell ⟨g, i * 28 + 11, none⟩ (.int .i64 X.clip.2.2.2)).setCell ⟨g, i * 28 + 12, none⟩ (.slice none 0 0)) := by
    have h0 : Only S w w1 := Only.below hb
    exact ((((((((((h0.set (.inl e2) _).set (.inl e2) _).set (.inl e2) _).set (.inl e2) _).set (.inl e2) _).set (.inl e2) _).set (.inl e2) _).set (.inl e2) _).set (.inl e2) _).set (.inl e2) _).set (.inl e2) _
  have hRef : RSem (((((((((((w1.setCell ⟨g, i * 28 + 2, none⟩ (.int .i64 X.w)).setCell ⟨g, i * 28 + 3, none⟩ (.int .i64 X.h)).setCell ⟨g, i * 28 + 4, none⟩ (.slice xa xm xc)).setCell ⟨g, i * 28 + 5, none⟩ (.int .i64 X.x)).setCell ⟨g, i * 28 + 6, none⟩ (.int .i64 X.y)).setCell ⟨g, i * 28 + 7, none⟩ (.bool X.cut)).setCell ⟨g, i * 28 + 8, none⟩ (.int .i64 X.clip.1)).setCell ⟨g, i * 28 + 9, none⟩ (.int .i64 X.clip.2.1)).setCell ⟨g, i * 28 + 10, none⟩ (.int .i64 X.clip.2.2.1)).setCell ⟨g, i * 28 + 11, none⟩ (.int .i64 X.clip.2.2.2)).setCell ⟨g, i * 28 + 12, none⟩ (.slice none 0 0)) S (upd st i nowSf) (upF (upF (upF (upF (upF (upF (upF (upF (upF (upF (upF F i 2 (.int .i64 X.w)) i 3 (.int .i64 X.h)) i 4 (.slice xa xm xc)) i 5 (.int .i64 X.x)) i 6 (.int .i64 X.y)) i 7 (.bool X.cut)) i 8 (.int .i64 X.clip.1)) i 9 (.int .i64 X.clip.2.1)) i 10 (.int .i64 X.clip.2.2.1)) i 11 (.int .i64 X.clip.2.2.2)) i 12 (.slice none 0 0)) := rsem_upd (gf := nowSf) hi s1 (fun j hj => by simp only [upF_ne _ _ _ _ hj]) hpk (by
      simp only [upF_at]
      subst hX
      exact ⟨q.alive, q.parent, rfl, rfl, rfl, rfl, rfl, rfl, rfl, rfl, rfl, rfl, q.xw, q.xh, q.xx, q.xy, q.xcut, q.x0, q.x1, q.x2, q.x3, q.xhint, q.ask, q.sib, q.above, q.kept⟩) (by
      simp only [upF_at]
      have h9 := s1.pixX i hi
      rw [hx] at h9
      exact h9.other hpk) (by
      simp only [upF_at]
      exact (s1.pixX i hi).other hpk)
  exact commit_tail _ _ hr2 hRef hO (by simp) hoth

set_option maxRecDepth 100000 in
set_option maxHeartbeats 2000000 in
/-- (*Screen).Commit -/
theorem refCommit_any {S : Nat → Prop} {c : Nat} {st : St} (hf : Fine st) (id : Int) (w : World) (h : RefOk w S c st) (hSb : ∀ g, S g → g < w.heap.size) :
    Calls Tryz.prog 27 #[.pointer (some ⟨c, 0, none⟩), .int .i64 id] w (RPost S c (opCommit st id) w) := by
  have hw := hf.wf
  have hIs := is_any (S := S) (c := c) (st := st) id w h hw.made
  have hB := isB_iff hw id
  have HE6 := hide (RPost.same (er := 6) h (Below.refl _ _))
  unfold opCommit
  obtain ⟨t, ht⟩ : ∃ t, st.isB id = t := ⟨_, rfl⟩
  rw [ht] at hIs hB ⊢
  clear ht
  have HI := hide hIs
  clear hIs
  cases t with
  | false =>
    rw [if_neg (by simp)]
    clear hB h
    go_enter Tryz.func27, Tryz.ntmps27
    go_wp2_with (go_at_call 51; refine HI.out.mono ?_; rintro e w' ⟨rfl, hw'⟩; replace hw' := hw'.symm; subst hw')
    go_ret
    exact HE6.out
  | true =>
    rw [if_pos rfl]
    obtain ⟨i, rfl, hio⟩ := hB.1 rfl
    have hil := hw.lt hio
    rw [Int.toNat_natCast]
    have HPa := hide (parts_any hw i w h)
    have HRef := hide h
    obtain ⟨bv, sv, ov, F, hr, hs⟩ := h
    obtain ⟨g, cap, e1, e2, e3, e4, e5, e6⟩ := hr.at (by omega)
    subst e1
    obtain ⟨_, cur, hcur⟩ := hr.gType
    have hne : ¬ c = g := ne_of_type hr.scr hcur (by decide)
    have hne2 : g ≠ c := fun e => hne e.symm
    have hcl := (Array.getElem?_eq_some_iff.1 hr.scr).1
    obtain ⟨nS, hnS⟩ : ∃ x, st.sfs.length = x := ⟨_, rfl⟩
    have hmd := hw.made
    obtain ⟨pa, pm, pc, hpx, hpm⟩ := (hs.pixN i hil).form
    obtain ⟨xa, xm, xc, hxx, hxm⟩ := (hs.pixX i hil).form
    have q := hs.rel i hil
    obtain ⟨ka, km, kc, hkk⟩ := q.kept
    have HC : Hid (∀ W', Below w.heap.size w W' → W'.cell? ⟨c, 3, none⟩ = some (.slice (some ⟨g, 0, none⟩) nS cap) ∧ (∀ o, o < 28 → W'.cell? ⟨g, i * 28 + o, none⟩ = some (F i o)) ∧ ∀ j, W'.frozen? ⟨g, j, none⟩ = false) := fun W' hW => by
      have r2 := hr.below hW
      obtain ⟨k0, k1, k2, k3, k4, kf, kl⟩ := r2.cells
      obtain ⟨g', cap', q1, q2, q3, q4, q5, q6⟩ := r2.at (by omega)
      injection q1 with q11 q12 q13
      injection q11 with q11
      injection q11 with q11
      subst q11
      rw [hnS] at k3
      exact ⟨k3, fun o ho => q5 i hil o ho, q6⟩
    rw [hnS] at e3 hmd
    have hin : i < nS := by omega
    have hicap : i < cap := by omega
    have HQ := hide (And.intro hr (And.intro hs (And.intro hil (And.intro hnS hio))))
    have HF := hide (And.intro q (And.intro hpx hxx))
    have lkN := (hw.lk i).1
    have lkX := (hw.lk i).2
    obtain ⟨N, hN⟩ : ∃ x, (st.sf i).now = x := ⟨_, rfl⟩
    obtain ⟨X, hX⟩ : ∃ x, (st.sf i).next = x := ⟨_, rfl⟩
    have z2 := q.nw; have z3 := q.nh; have z5 := q.nx; have z6 := q.ny; have z7 := q.ncut; have z8 := q.n0; have z9 := q.n1; have z10 := q.n2; have z11 := q.n3; have z12 := q.nhint
    have y2 := q.xw; have y3 := q.xh; have y5 := q.xx; have y6 := q.xy; have y7 := q.xcut; have y8 := q.x0; have y9 := q.x1; have y10 := q.x2; have y11 := q.x3; have y12 := q.xhint
    rw [hN] at z2 z3 z5 z6 z7 z8 z9 z10 z11 hpm lkN
    rw [hX] at y2 y3 y5 y6 y7 y8 y9 y10 y11 hxm lkX
    have HNX := hide (And.intro hN hX)
    clear hr hs e5 e6 hcur hB HE6 hil hN hX q hnS
    go_enter Tryz.func27, Tryz.ntmps27
    go_upto_region 5 with (first
      | (go_at_call 51; refine HI.out.mono ?_; rintro e w' ⟨rfl, hw'⟩; replace hw' := hw'.symm; subst hw')
      | (go_at_call 55; refine HPa.out.mono ?_; rintro e w1 ⟨v1, l1, rfl, hv1, hl1, hb1⟩; have H1 := hide (And.intro hv1 (And.intro hl1 hb1)); have hs1 := hb1.size; clear hv1 hl1 hb1))
    obtain ⟨k3, kc9, kf⟩ := HC.out w1 H1.out.2.2
    have hclw : c < w1.heap.size := by omega
    have hglw : g < w1.heap.size := by omega
    have d2 := kc9 2 (by omega); have d3 := kc9 3 (by omega); have d4 := kc9 4 (by omega); have d5 := kc9 5 (by omega); have d6 := kc9 6 (by omega); have d7 := kc9 7 (by omega); have d8 := kc9 8 (by omega); have d9 := kc9 9 (by omega); have d10 := kc9 10 (by omega); have d11 := kc9 11 (by omega); have d12 := kc9 12 (by omega)
    have d13 := kc9 13 (by omega); have d14 := kc9 14 (by omega); have d15 := kc9 15 (by omega); have d16 := kc9 16 (by omega); have d17 := kc9 17 (by omega); have d18 := kc9 18 (by omega); have d19 := kc9 19 (by omega); have d20 := kc9 20 (by omega); have d21 := kc9 21 (by omega); have d22 := kc9 22 (by omega); have d23 := kc9 23 (by omega); have d27 := kc9 27 (by omega)
    rw [z2] at d2; rw [z3] at d3; rw [hpx] at d4; rw [z5] at d5; rw [z6] at d6; rw [z7] at d7; rw [z8] at d8; rw [z9] at d9; rw [z10] at d10; rw [z11] at d11; rw [z12] at d12
    rw [y2] at d13; rw [y3] at d14; rw [hxx] at d15; rw [y5] at d16; rw [y6] at d17; rw [y7] at d18; rw [y8] at d19; rw [y9] at d20; rw [y10] at d21; rw [y11] at d22; rw [y12] at d23; rw [hkk] at d27
    have f2 := kf (i * 28 + 2); have f3 := kf (i * 28 + 3); have f4 := kf (i * 28 + 4); have f5 := kf (i * 28 + 5); have f6 := kf (i * 28 + 6); have f7 := kf (i * 28 + 7); have f8 := kf (i * 28 + 8); have f9 := kf (i * 28 + 9); have f10 := kf (i * 28 + 10); have f11 := kf (i * 28 + 11); have f12 := kf (i * 28 + 12); have f27 := kf (i * 28 + 27)
    clear kc9 kf z2 z3 z5 z6 z7 z8 z9 z10 z11 z12 y2 y3 y5 y6 y7 y8 y9 y10 y11 y12 hpx hxx hkk
    go_upto_region 9 with fail
    obtain ⟨W2, hW2, ⟨F1, r2, s2⟩, hO2, hz2, hB8, hB9, hoth⟩ := commit_mid (N := N) H1.out.2.2 HQ.out.1 HQ.out.2.1 HQ.out.2.2.1 HNX.out.2 pa xa pm pc xm xc HF.out.2.2
    rw [hW2]
    clear hW2
    have lw := lkX.w
    have lh := lkX.h
    have hKK : 0 ≤ X.w * X.h ∧ X.w * X.h ≤ 24 * 24 := ⟨Int.mul_nonneg lw.1 lh.1, Int.mul_le_mul lw.2 lh.2 lh.1 (by omega)⟩
    obtain ⟨K, hK⟩ : ∃ K : Nat, (K : Int) = X.w * X.h := ⟨(X.w * X.h).toNat, by omega⟩
    have hK576 : K ≤ 576 := by omega
    have m1 : IntKind.i64.wrap (X.w * X.h) = (K : Int) := by rw [IntKind.wrap_i64]; omega
    have m2 : wrap64 (X.w * X.h) = (K : Int) := by unfold wrap64; omega
    have hmk : ∀ W : World, (Instr.makeSlice 94 (.int .i64 (K : Int)) (.int .i64 (K : Int))).run Tryz.prog W = .ok (.slice (some ⟨W.heap.size, 0, none⟩) K K) (W.alloc (.cells (madeCells #[.bool false] K) 4)) := fun W => run_make_row' 94 4 (.bool false) 1 Tryz.underlying94 boolInfo rfl .i64 .i64 K (by omega) (by omega) W
    obtain ⟨g', cap', p1, p2, p3, p4, p5, p6⟩ := r2.at (show 0 < st.sfs.length from by have := HQ.out.2.2.1; omega)
    injection p1 with p11 p12 p13
    injection p11 with p11
    injection p11 with p11
    subst p11
    have u27 := p5 i HQ.out.2.2.1 27 (by omega)
    have v27 := p6 (i * 28 + 27)
    have x0 : W2.cell? ⟨w1.heap.size + 1, 0, none⟩ = some (.int .i64 X.w) := hB9.cell 0
    have x1 : W2.cell? ⟨w1.heap.size + 1, 1, none⟩ = some (.int .i64 X.h) := hB9.cell 1
    have hgW : g < W2.heap.size := by omega
    have hgb : ¬ w1.heap.size + 1 = g := by omega
    have HZ2 := hide hz2
    have HM := hide (And.intro r2 (And.intro s2 (And.intro hO2 (And.intro hB8 (And.intro hB9 hoth)))))
    clear r2 s2 hO2 hB8 hB9 hoth p5 p6 p12 p13 d2 d3 d4 d5 d6 d7 d8 d9 d10 d11 d12 d13 d14 d15 d16 d17 d18 d19 d20 d21 d22 d23 d27 f2 f3 f4 f5 f6 f7 f8 f9 f10 f11 f12 f27 k3 hKK
    have HK := hide (And.intro hK hz2)
    clear hK hz2
    go_upto_region 10 with fail
    -- the marks
    have HW3 : ∃ W3, (W2.setCell ⟨g, i * 28 + 27, none⟩ (.slice (some ⟨W2.heap.size, 0, none⟩) K K)).alloc (.cells (madeCells #[.bool false] K) 4) = W3 ∧ (∃ F2, RRaw W3 S c st.w st.h st.sfs.length st.order bv (.slice (some ⟨g, 0, none⟩) st.sfs.length cap) ov F2 ∧ RSem W3 S (upd st i nowSf) F2) ∧ Only S w W3 ∧ W3.heap.size = w1.heap.size + 3 ∧ HasB W3 (w1.heap.size + 2) 4 K ∧ (∀ b, b < w1.heap.size + 2 → b ≠ g → W3.heap[b]? = W2.heap[b]?) ∧ W3.cell? ⟨g, i * 28 + 27, none⟩ = some (.slice (some ⟨w1.heap.size + 2, 0, none⟩) K K) := by
      refine ⟨_, rfl, ?_⟩
      have hz2 := HK.out.2
      obtain ⟨e29, cu9, hcu9⟩ := HM.out.1.gType
      have r3 := (HM.out.1.set HQ.out.2.2.1 (show 27 < 28 by omega) (.slice (some ⟨W2.heap.size, 0, none⟩) K K))
      have hpk := pk_set (j := i * 28 + 27) (u := .slice (some ⟨W2.heap.size, 0, none⟩) K K) hcu9 (w' := W2) fun _ _ _ => rfl
      have s3 : RSem (W2.setCell ⟨g, i * 28 + 27, none⟩ (.slice (some ⟨W2.heap.size, 0, none⟩) K K)) S (upd st i nowSf) (upF F1 i 27 (.slice (some ⟨W2.heap.size, 0, none⟩) K K)) := by
        refine ⟨fun j hj => ?_, fun j hj => ?_, fun j hj => ?_⟩
        · have q := HM.out.2.1.rel j hj
          by_cases e : j = i
          · subst e
            rw [upF_at]
            exact ⟨q.alive, q.parent, q.nw, q.nh, q.nx, q.ny, q.ncut, q.n0, q.n1, q.n2, q.n3, q.nhint, q.xw, q.xh, q.xx, q.xy, q.xcut, q.x0, q.x1, q.x2, q.x3, q.xhint, q.ask, q.sib, q.above, ⟨_, _, _, rfl⟩⟩
          · rw [upF_ne _ _ _ _ e]; exact q
        · have q := (HM.out.2.1.pixN j hj).other hpk
          by_cases e : j = i
          · subst e; rw [upF_at]; exact q
          · rw [upF_ne _ _ _ _ e]; exact q
        · have q := (HM.out.2.1.pixX j hj).other hpk
          by_cases e : j = i
          · subst e; rw [upF_at]; exact q
          · rw [upF_ne _ _ _ _ e]; exact q
      have zz : (W2.setCell ⟨g, i * 28 + 27, none⟩ (.slice (some ⟨W2.heap.size, 0, none⟩) K K)).heap.size = w1.heap.size + 2 := by simp [hz2]
      have bm := al1 (Nat.le_refl (W2.setCell ⟨g, i * 28 + 27, none⟩ (.slice (some ⟨W2.heap.size, 0, none⟩) K K)).heap.size) (.cells (madeCells #[.bool false] K) 4)
      have hbm : HasB ((W2.setCell ⟨g, i * 28 + 27, none⟩ (.slice (some ⟨W2.heap.size, 0, none⟩) K K)).alloc (.cells (madeCells #[.bool false] K) 4)) (w1.heap.size + 2) 4 K := by
        have h9 := heap_alloc_new (W2.setCell ⟨g, i * 28 + 27, none⟩ (.slice (some ⟨W2.heap.size, 0, none⟩) K K)) (.cells (madeCells #[.bool false] K) 4)
        rw [zz] at h9
        exact ⟨_, h9, by rw [size_madeCells]⟩
      obtain ⟨g9, cap9, b1, _, _, _, b5, _⟩ := r3.at (show 0 < st.sfs.length from by have := HQ.out.2.2.1; omega)
      injection b1 with b11 b12 b13
      injection b11 with b11
      injection b11 with b11
      subst b11
      have c27 := b5 i HQ.out.2.2.1 27 (by omega)
      rw [upF_at] at c27
      refine ⟨⟨_, r3.below bm, s3.below bm⟩, (HM.out.2.2.1.set (.inl e29) _).alloc _, by simp [hz2], hbm, fun b hb hne => ?_, ?_⟩
      · rw [heap_old _ _ b (by omega)]
        exact heap_setCell_other W2 ⟨g, i * 28 + 27, none⟩ b _ hne
      · rw [cell_old _ _ g _ (by omega), c27]
        show some (if (27 : Nat) = 27 then _ else _) = _
        rw [if_pos rfl, hz2]
    obtain ⟨W3, hW3, ⟨F2, r3, s3⟩, hO3, hz3, hB3, hoth3, k27⟩ := HW3
    rw [hW3]
    clear hW3 u27 v27 x0 x1 m1 m2 hmk
    have HHas : Hid (∀ (W : World) (x y : Int), Calls Tryz.prog 43 #[.slice none 0 0, .int .i64 x, .int .i64 y] W fun e w' => e = .returned (.bool false) ∧ w' = W) := fun W x y => refHas_any [] (.slice none 0 0) x y W ⟨none, 0, rfl, fun h => by simp at h⟩ (by simp)
    obtain ⟨_, cu3, hcu3⟩ := r3.gType
    have hB9' : Blk W3 (w1.heap.size + 1) 116 #[.int .i64 X.w, .int .i64 X.h, .slice xa xm xc, .int .i64 X.x, .int .i64 X.y, .bool X.cut, .int .i64 X.clip.1, .int .i64 X.clip.2.1, .int .i64 X.clip.2.2.1, .int .i64 X.clip.2.2.2, .slice none 0 0] := (hoth3 _ (by omega) (by omega)).trans HM.out.2.2.2.2.1
    have hB8' : Blk W3 w1.heap.size 116 #[.int .i64 N.w, .int .i64 N.h, .slice pa pm pc, .int .i64 N.x, .int .i64 N.y, .bool N.cut, .int .i64 N.clip.1, .int .i64 N.clip.2.1, .int .i64 N.clip.2.2.1, .int .i64 N.clip.2.2.2, .slice none 0 0] := (hoth3 _ (by omega) (by omega)).trans HM.out.2.2.2.1
    have H3 := hide (And.intro r3 (And.intro s3 (And.intro hO3 (And.intro hB3 (And.intro hoth3 (And.intro k27 (And.intro hcu3 (And.intro hB9' (And.intro hB8' hz3)))))))))
    clear r3 s3 hO3 hB3 hoth3 k27 hcu3 hB9' hB8' hz3
    go_wp2
    go_loopg [10] K (fun gg s10 wr => ∃ j : Nat, s10 = .int .i64 j ∧ gg + j = K ∧ TurT (fun b => b = w1.heap.size + 2) 4 W3 wr)
    case atStart => exact ⟨0, rfl, by omega, TurT.refl _ _ _⟩
    case round =>
      rename World => wr
      obtain ⟨j, rfl, hgj, hT⟩ := hrel
      have HT := hide hT
      have k27r : wr.cell? ⟨g, i * 28 + 27, none⟩ = some (.slice (some ⟨w1.heap.size + 2, 0, none⟩) K K) := (World.cell?_of_block (a := ⟨g, i * 28 + 27, none⟩) (hT.other H3.out.2.2.2.2.2.2.1 (by decide))).trans H3.out.2.2.2.2.2.1
      have hB9r : Blk wr (w1.heap.size + 1) 116 _ := (hT.other H3.out.2.2.2.2.2.2.2.1 (by decide)).trans H3.out.2.2.2.2.2.2.2.1
      have hKb := H3.out.2.2.2.1.tur hT
      cases gk with
      | zero =>
        have hlt : ¬ (j : Int) < (K : Int) := by omega
        clear hT hB9r hKb
        have hil := HQ.out.2.2.1
        have hf1 := hf.now hil
        have hsz3 := H3.out.2.2.2.2.2.2.2.2.2
        have hszr := HT.out.size
        have hRr : RefOk wr S c (upd st i nowSf) := ⟨bv, _, ov, F2, by have h9 := H3.out.1.tur HT.out; rw [← upd_len st i nowSf] at h9; exact h9, ⟨H3.out.2.1.rel, fun b hb => (H3.out.2.1.pixN b hb).other fun _ _ hc => HT.out.other hc (by decide), fun b hb => (H3.out.2.1.pixX b hb).other fun _ _ hc => HT.out.other hc (by decide)⟩⟩
        have hOr : Only S w wr := H3.out.2.2.1.trans ((HT.out.only).mono fun b hb he => .inr ⟨by omega, by omega⟩)
        have HSt := hide (stacked_any hf1.wf hf1.sib i HQ.out.2.2.2.2 wr hRr)
        have H1r : Hid (OwnR wr w.heap.size v1 l1) := ⟨own_keep H1.out.1.1 fun b hb => by
          have h8 := H1.out.1.1.lt b hb
          obtain ⟨cb, hcb⟩ := own_type H1.out.1.1 hb
          have e2 : W2.heap[b]? = w1.heap[b]? := HM.out.2.2.2.2.2 b h8.2 (by omega)
          have e3 : W3.heap[b]? = W2.heap[b]? := H3.out.2.2.2.2.1 b (by omega) (by omega)
          have e4 := HT.out.other (e3.trans (e2.trans hcb)) (by decide)
          rw [e4, e3, e2], H1.out.1.2⟩
        have hB8r : Blk wr w1.heap.size 116 _ := (HT.out.other H3.out.2.2.2.2.2.2.2.2.1 (by decide)).trans H3.out.2.2.2.2.2.2.2.2.1
        have hB9r : Blk wr (w1.heap.size + 1) 116 _ := (HT.out.other H3.out.2.2.2.2.2.2.2.1 (by decide)).trans H3.out.2.2.2.2.2.2.2.1
        have hpix : PixRow wr S (.slice pa pm pc) (N.w * N.h) := by
          have h9 := HQ.out.2.1.pixN i hil
          rw [HF.out.2.1, HNX.out.1] at h9
          refine h9.other fun b cb hb => ?_
          have hbl := (Array.getElem?_eq_some_iff.1 hb).1
          have e1 : w1.heap[b]? = w.heap[b]? := H1.out.2.2.block b hbl
          obtain ⟨_, cug, hcug⟩ := HQ.out.1.gType
          have hbg : b ≠ g := ne_of_type hb hcug (by decide)
          have e2 : W2.heap[b]? = w1.heap[b]? := HM.out.2.2.2.2.2 b (by omega) hbg
          have e3 : W3.heap[b]? = W2.heap[b]? := H3.out.2.2.2.2.1 b (by omega) hbg
          have e4 := HT.out.other (e3.trans (e2.trans (e1.trans hb))) (by decide)
          rw [e4, e3, e2, e1]
        have HP := hide (And.intro hpix (And.intro hB8r (And.intro hB9r hOr)))
        clear hpix hB8r hB9r hOr hRr
        go_upto_region 16 with (go_at_call 58; refine HSt.out.mono ?_; rintro e w5 ⟨bo, rfl, hR5, hO5, hP5⟩; have H5 := hide (And.intro hR5 (And.intro hO5 hP5)); have hs5 := hO5.size; clear hR5 hO5 hP5)
        have hB8 : Blk w5 w1.heap.size 116 _ := (H5.out.2.1.block _ (by omega) (fun hh => by have := hSb _ hh; omega)).trans HP.out.2.1
        have hB9 : Blk w5 (w1.heap.size + 1) 116 _ := (H5.out.2.1.block _ (by omega) (fun hh => by have := hSb _ hh; omega)).trans HP.out.2.2.1
        have H1x : Hid (OwnR w5 w.heap.size v1 l1) := ⟨own_keep H1r.out.1 fun b hb => H5.out.2.1.block b (H1r.out.1.lt b hb).2 (fun hh => by have h7 := hSb _ hh; have h8 := (H1r.out.1.lt b hb).1; omega), H1r.out.2⟩
        have HPx : Hid (PixRow w5 S (.slice pa pm pc) (N.w * N.h)) := HP.out.1.other H5.out.2.2
        have hcm : stk (upd st i nowSf) i = cm st i := stk_now st hil
        have hwc : Wf (cm st i) := by rw [← hcm]; exact stk_wf hf1.wf hf1.sib HQ.out.2.2.2.2
        have HR5 : Hid (RefOk w5 (grow S wr w5) c (cm st i)) := by unfold Hid; rw [← hcm]; exact H5.out.1
        have HFin : Hid (∀ W, RefOk W (grow S wr w5) c (cm st i) → Only (grow S wr w5) w5 W → RPost S c (0, cm st i) w (.returned (.int .i64 0)) W) := fun W h1 h2 => by
          have hz9 := h2.size
          have hzw := HP.out.2.2.2.size
          have hO5 : Only S w w5 := HP.out.2.2.2.trans (H5.out.2.1.mono fun _ _ h => grow_self h)
          refine ⟨rfl, h1.mono fun b hb => ?_, hO5.trans (h2.mono fun b hb1 hb => ?_)⟩
          · rcases hb with hb | hb
            · exact .inl hb
            · exact .inr ⟨by omega, by omega⟩
          · rcases hb with hb | hb
            · exact .inl hb
            · exact .inr ⟨by omega, by omega⟩
        have HHu : Hid (∀ (W : World) (v : Value) (l : List (Int × Int × Int × Int)) (B : Nat), RefOk W (grow S wr w5) c (cm st i) → OwnR W B v l → l.length ≤ 12 → Calls Tryz.prog 54 #[.pointer (some ⟨c, 0, none⟩), v] W fun e w' => e = .returned (.tuple #[]) ∧ TurT (grow S wr w5) 4 W w') := fun W v l B h1 h2 h3 => hurt_any hwc l v B W h1 h2 (by omega)
        have HPa2 : Hid (∀ W, RefOk W (grow S wr w5) c (cm st i) → Calls Tryz.prog 55 #[.pointer (some ⟨c, 0, none⟩), .int .i64 i] W (PartsPost W)) := fun W h1 => parts_any hwc i W h1
        have hcl9 : i < (cm st i).sfs.length := by rw [cm_len]; exact hil
        have hnx : ((cm st i).sf i).now = X := by rw [cm_sf st i i hil, if_pos rfl]; exact HNX.out.2
        have HCh : Hid (N.w * N.h = X.w * X.h → Calls Tryz.prog 59 #[.pointer (some ⟨c, 0, none⟩), .int .i64 i, .slice pa pm pc] w5 (PartsPost w5)) := fun he => changed_any (S' := S) hwc i hcl9 (.slice pa pm pc) w5 HR5.out (by rw [hnx, ← he]; exact HPx.out)
        have a0 : w5.cell? ⟨w1.heap.size, 0, none⟩ = some (.int .i64 N.w) := hB8.cell 0
        have a1 : w5.cell? ⟨w1.heap.size, 1, none⟩ = some (.int .i64 N.h) := hB8.cell 1
        have a2 : w5.cell? ⟨w1.heap.size, 2, none⟩ = some (.slice pa pm pc) := hB8.cell 2
        have a3 : w5.cell? ⟨w1.heap.size, 3, none⟩ = some (.int .i64 N.x) := hB8.cell 3
        have a4 : w5.cell? ⟨w1.heap.size, 4, none⟩ = some (.int .i64 N.y) := hB8.cell 4
        have a5 : w5.cell? ⟨w1.heap.size, 5, none⟩ = some (.bool N.cut) := hB8.cell 5
        have a6 : w5.cell? ⟨w1.heap.size, 6, none⟩ = some (.int .i64 N.clip.1) := hB8.cell 6
        have a7 : w5.cell? ⟨w1.heap.size, 7, none⟩ = some (.int .i64 N.clip.2.1) := hB8.cell 7
        have a8 : w5.cell? ⟨w1.heap.size, 8, none⟩ = some (.int .i64 N.clip.2.2.1) := hB8.cell 8
        have a9 : w5.cell? ⟨w1.heap.size, 9, none⟩ = some (.int .i64 N.clip.2.2.2) := hB8.cell 9
        have b0 : w5.cell? ⟨w1.heap.size + 1, 0, none⟩ = some (.int .i64 X.w) := hB9.cell 0
        have b1 : w5.cell? ⟨w1.heap.size + 1, 1, none⟩ = some (.int .i64 X.h) := hB9.cell 1
        have b3 : w5.cell? ⟨w1.heap.size + 1, 3, none⟩ = some (.int .i64 X.x) := hB9.cell 3
        have b4 : w5.cell? ⟨w1.heap.size + 1, 4, none⟩ = some (.int .i64 X.y) := hB9.cell 4
        have b5 : w5.cell? ⟨w1.heap.size + 1, 5, none⟩ = some (.bool X.cut) := hB9.cell 5
        have b6 : w5.cell? ⟨w1.heap.size + 1, 6, none⟩ = some (.int .i64 X.clip.1) := hB9.cell 6
        have b7 : w5.cell? ⟨w1.heap.size + 1, 7, none⟩ = some (.int .i64 X.clip.2.1) := hB9.cell 7
        have b8 : w5.cell? ⟨w1.heap.size + 1, 8, none⟩ = some (.int .i64 X.clip.2.2.1) := hB9.cell 8
        have b9 : w5.cell? ⟨w1.heap.size + 1, 9, none⟩ = some (.int .i64 X.clip.2.2.2) := hB9.cell 9
        have hq := eqRc N.clip.1 N.clip.2.1 N.clip.2.2.1 N.clip.2.2.2 X.clip.1 X.clip.2.1 X.clip.2.2.1 X.clip.2.2.2
        obtain ⟨cq, hcq⟩ : ∃ t, (N.clip.1 == X.clip.1 && (N.clip.2.1 == X.clip.2.1 && (N.clip.2.2.1 == X.clip.2.2.1 && N.clip.2.2.2 == X.clip.2.2.2))) = t := ⟨_, rfl⟩
        rw [hcq] at hq
        clear hB8 hB9 hcm hnx hcl9 hcq hf1 hil hsz3 hszr
        obtain ⟨tw, htw⟩ : ∃ t, (N.w != X.w) = t := ⟨_, rfl⟩
        obtain ⟨th, hth⟩ : ∃ t, (N.h != X.h) = t := ⟨_, rfl⟩
        have HE : Hid (tw = false → th = false → N.w * N.h = X.w * X.h) := fun e1 e2 => by
          rw [e1] at htw
          rw [e2] at hth
          have h1 : N.w = X.w := by simpa using htw
          have h2 : N.h = X.h := by simpa using hth
          rw [h1, h2]
        cases tw <;> cases th <;> cases bo
        all_goals
          go_wp2_with (first
            | (go_at_call 59; refine (HCh.out (HE.out rfl rfl)).mono ?_; rintro e w6 ⟨v6, l6, rfl, hv6, hl6, hb6⟩; have H6 := hide (And.intro hv6 (And.intro hl6 hb6)); have HR6 := hide (HR5.out.keep (w' := w6) fun b _ hb => hb6.block b hb); have HO6 : Hid (Only (grow S wr w5) w5 w6) := Only.below hb6; clear hv6 hl6 hb6)
            | (go_at_call_of 54 v1; refine (HHu.out _ _ _ _ HR5.out H1x.out H1.out.2.1).mono ?_; rintro e w6 ⟨rfl, ht6⟩; have HR6 := hide (HR5.out.tur ht6); have HO6 := hide ht6.only; clear ht6)
            | (go_at_call 55; refine (HPa2.out _ HR6.out).mono ?_; rintro e w7 ⟨v6, l6, rfl, hv6, hl6, hb6⟩; have H6 := hide (And.intro hv6 (And.intro hl6 hb6)); have HR7 := hide (HR6.out.keep (w' := w7) fun b _ hb => hb6.block b hb); have HO7 := hide (HO6.out.after hb6); clear hv6 hl6 hb6)
            | (go_at_call 54; refine (HHu.out _ _ _ _ HR7.out H6.out.1 H6.out.2.1).mono ?_; rintro e w8 ⟨rfl, ht8⟩; have HR8 := hide (HR7.out.tur ht8); have HO8 := hide (HO7.out.trans ((ht8.only).mono fun _ _ h => grow_self h)); clear ht8)
            | (go_at_call 54; refine (HHu.out _ _ _ _ HR6.out H6.out.1 H6.out.2.1).mono ?_; rintro e w8 ⟨rfl, ht8⟩; have HR8 := hide (HR6.out.tur ht8); have HO8 := hide (HO6.out.trans ((ht8.only).mono fun _ _ h => grow_self h)); clear ht8))
        all_goals
          go_ret
          exact HFin.out _ HR8.out HO8.out
      | succ gj =>
        have hlt : (j : Int) < (K : Int) := by omega
        have hxw : X.w ≠ 0 := fun e => by
          have h9 := HK.out.1
          rw [e, Int.zero_mul] at h9
          omega
        have hxw1 : 1 ≤ X.w := by omega
        have y0 : wr.cell? ⟨w1.heap.size + 1, 0, none⟩ = some (.int .i64 X.w) := hB9r.cell 0
        have y10 : wr.cell? ⟨w1.heap.size + 1, 10, none⟩ = some (.slice none 0 0) := hB9r.cell 10
        have hj0 : (0 : Int) ≤ (j : Int) := by omega
        clear hT hB9r
        have HKb := hide hKb
        clear hKb
        go_upto_region 13 with fail
        go_quiet ((go_at_call 43; exact Calls.quiet_of_same (HHas.out _ _ _)))
        have hTz := HT.out.drewN nq
        have hKz : HasB (wr.drewN nq) (w1.heap.size + 2) 4 K := HKb.out
        have k27z : (wr.drewN nq).cell? ⟨g, i * 28 + 27, none⟩ = some (.slice (some ⟨w1.heap.size + 2, 0, none⟩) K K) := k27r
        clear k27r y0 y10
        generalize wr.drewN nq = wz at *
        obtain ⟨q9, z9⟩ := hKz.cell j (by omega)
        have fz := hKz.free j
        obtain ⟨cz, hcz, hczs⟩ := hKz
        have HZ := hide (And.intro hTz hcz)
        clear hTz hcz hczs
        go_upto_region 14 with fail
        go_region
        all_goals
          go_wp2
          go_roundg gj
          case measure => omega
          case rel => exact ⟨j + 1, by go_num, by omega, (HZ.out.1.trans (TurT.set (S := fun b => b = w1.heap.size + 2) HZ.out.2 rfl j _)).drew⟩

end Go.Proofs.YtlaflopimpnjpaaGreat
