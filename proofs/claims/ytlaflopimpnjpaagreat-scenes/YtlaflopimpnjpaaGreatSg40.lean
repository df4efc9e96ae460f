import Derived.Test.YtlaflopimpnjpaaGreatSg39
import Derived.Test.YtlaflopimpnjpaaGreatSg34
import Derived.BigQuiet
import Derived.Test.YtlaflopimpnjpaaGreatSg04
import Derived.ProofKit
import Derived.OpenShut
import Derived.Deep.Slices
import Derived.Lib.SmallJoins
import Derived.SizedLaws
/-! Pls -/
namespace Go.Proofs.YtlaflopimpnjpaaGreat
open Go.RowKit
attribute [local go_sem ↓] Go.wp_at_zero Go.wp_at_succ

def kindsL : List Int := [1, 2, 3, 4, 5, 6, 7, 9, 10, 11]

/-- What is so behind i steps. -/
structure PlayI (w : World) (wr : World) (i : Nat) : Prop where
  inv : ∃ ps L N, Inv w.heap.size wr w.heap.size N ps L ∧ 0 < L.length ∧ L.length ≤ i + 1 ∧ N ≤ i + 1
  bel : Below w.heap.size w wr

theorem PlayI.below {w wr wr' : World} {i : Nat} (h : PlayI w wr i) (hb : Below wr.heap.size wr wr') : PlayI w wr' i :=
  ⟨(let ⟨ps, L, N, a, b, c, d⟩ := h.inv; ⟨ps, L, N, a.below hb, b, c, d⟩), h.bel.trans (hb.mono h.bel.size)⟩

theorem PlayI.next {w wr : World} {i : Nat} (h : PlayI w wr i) : PlayI w wr (i + 1) :=
  ⟨(let ⟨ps, L, N, a, b, c, d⟩ := h.inv; ⟨ps, L, N, a, b, Nat.le_succ_of_le c, Nat.le_succ_of_le d⟩), h.bel⟩

theorem PlayI.drewN {w wr : World} {i : Nat} (h : PlayI w wr i) (n : Nat) : PlayI w (wr.drewN n) i := h.below ⟨rfl, rfl, rfl, Nat.le_refl _, fun _ _ => rfl⟩

theorem Inv.start (w : World) : Inv w.heap.size (w.alloc (.cells #[.slice none 0 0, .slice none 0 0, .slice none 0 0, .slice none 0 0] 34)) w.heap.size 0 (.slice none 0 0) [] :=
  ⟨⟨_, .slice none 0 0, [], ⟨heap_alloc_new w _, rfl, rfl, rfl, World.ownsRow_nil _ _ _ _, fun i hi => by omega⟩, rfl, fun g hg => by simp [Value.ownBlock] at hg⟩, Nat.le_refl _, World.ownsRow_nil _ _ _ _, fun s hs => (by cases hs), fun i j s t hi => (by simp at hi)⟩

/-- A step of a script. -/
theorem step_play {w wr : World} {i : Nat} (h : PlayI w wr i) (hi : i ≤ 926000000000) (d : OpD) (hd : OpDok w d) (hk : d.kd ∈ kindsL) :
    Calls Tryz.prog 5 #[.pointer (some ⟨w.heap.size, 0, none⟩), .agg d.cells] wr fun e w' => e = .returned (.bool true) ∧ PlayI w w' (i + 1) ∧ ∃ N, BookV w' w.heap.size 1 N ∧ N ≤ 1152921504606846976 := by
  obtain ⟨ps, L, N, hI, h1, h2, h3⟩ := h.inv
  have fin : ∀ e w', StepAny w.heap.size w.heap.size N L.length (L.length + 1) wr e w' → e = .returned (.bool true) ∧ PlayI w w' (i + 1) ∧ ∃ N, BookV w' w.heap.size 1 N ∧ N ≤ 1152921504606846976 := fun e w' ⟨q1, ⟨ps', L', N', q2, q3, q4, q5⟩, _, q6⟩ => by
    refine ⟨q1, ⟨⟨ps', L', N', q5, by omega, by omega, by omega⟩, h.bel.trans (q6.to_below (fun g hg => hg) hI.size)⟩, N', ?_, by omega⟩
    obtain ⟨pc, cv, xs, hbk, _⟩ := q5.play
    exact hbk.book
  by_cases e1 : d.kd = 1
  · unfold OpD.cells
    rw [e1]
    refine Calls.mono (step_new d.k d.a d.b d.c d.y d.r d.lv d.mv d.pv fun W hW => ?_) fin
    exact opened_all (hI.below hW) (by omega) d.k d.a d.b d.c d.y d.r d.lv d.mv d.pv
  · have hk' : d.kd = 2 ∨ d.kd = 3 ∨ d.kd = 4 ∨ d.kd = 5 ∨ d.kd = 6 ∨ d.kd = 7 ∨ d.kd = 9 ∨ d.kd = 10 ∨ d.kd = 11 := by
      unfold kindsL at hk
      simp at hk
      omega
    have hp : OpPix w.heap.size wr d.pv d.l := ⟨fun W' hW' => hd.pix.below (h.bel.trans (hW'.to_below (fun g hg => hg) hI.size)), hd.form, hd.fit⟩
    exact Calls.mono (step_on hI h1 (by omega) (by omega) d.kd d.k d.a d.b d.c hd.k64 d.y d.r d.lv d.mv d.pv d.l hp hk') fun e w' q => fin e w' (q.weak (Nat.le_refl _) (by omega))

theorem first_play {w wr : World} (hb : Below (w.heap.size + 1) (w.alloc (.cells #[.slice none 0 0, .slice none 0 0, .slice none 0 0, .slice none 0 0] 34)) wr) :
    Calls Tryz.prog 5 #[.pointer (some ⟨w.heap.size, 0, none⟩), .agg (opCells 1 0 6 5 2 false (0, 0, 0, 0) (.slice none 0 0) (.slice none 0 0) (.slice none 0 0))] wr fun e w' => e = .returned (.bool true) ∧ PlayI w w' 0 := by
  have hI : Inv w.heap.size wr w.heap.size 0 (.slice none 0 0) [] := (Inv.start w).below (by simpa using hb)
  have hbw : Below w.heap.size w wr := (al1 (Nat.le_refl _) _).trans (hb.mono (by omega))
  refine Calls.mono (step_new (n0 := w.heap.size) (N := 0) (lo := 1) (hi := 1) 0 6 5 2 false (0, 0, 0, 0) (.slice none 0 0) (.slice none 0 0) (.slice none 0 0) fun W hW => ?_) fun e w' ⟨q1, ⟨ps', L', N', q2, q3, q4, q5⟩, _, q6⟩ => ?_
  · exact opened_ok (hI.below hW) (by simp) 0 6 5 2 false (0, 0, 0, 0) (.slice none 0 0) (.slice none 0 0) (.slice none 0 0) (by omega) (by omega) (by omega)
  · exact ⟨q1, ⟨ps', L', N', q5, by omega, by omega, by omega⟩, hbw.trans (q6.to_below (fun g hg => hg) hI.size)⟩

def hasK (kd : Int) (j : Nat) : Bool := decide (kd ∈ kindsL.take j)

theorem hasK_succ (kd : Int) (j : Nat) (hj : j < kindsL.length) : hasK kd (j + 1) = (hasK kd j || decide (kd = kindsL[j])) := by
  unfold hasK
  rw [List.take_succ_eq_append_getElem hj, Bool.eq_iff_iff]
  simp only [Bool.or_eq_true, decide_eq_true_eq, List.mem_append, List.mem_singleton]

theorem hasK_all (kd : Int) (h : hasK kd 10 = true) : kd ∈ kindsL := by
  unfold hasK at h
  exact of_decide_eq_true h

set_option maxRecDepth 100000 in
set_option maxHeartbeats 1000000 in
/-- plays -/
theorem plays_any (D : List OpD) (v : Value) (kb : Nat) (w : World) (h : OpsAt w v D) (hD : D.length ≤ 926000000000) (hkb : kb < w.heap.size) (hks : ∀ j (hj : j < 10), w.cell? ⟨kb, j, none⟩ = some (.int .i64 (kindsL[j]'hj))) :
    Calls Tryz.prog 4 #[v, .slice (some ⟨kb, 0, none⟩) 10 10] w fun e w' => e = .returned (.bool true) ∧ Below w.heap.size w w' := by
  obtain ⟨sa, sc, hvf⟩ := h.form
  have hcs := h.cells sa sc hvf
  have HF := hide (fun (wr : World) (hb : Below (w.heap.size + 1) (w.alloc (.cells #[.slice none 0 0, .slice none 0 0, .slice none 0 0, .slice none 0 0] 34)) wr) => first_play hb)
  have HSt : Hid (∀ (wr : World) (i : Nat) (hi : i < D.length), PlayI w wr i → D[i].kd ∈ kindsL → Calls Tryz.prog 5 #[.pointer (some ⟨w.heap.size, 0, none⟩), .agg D[i].cells] wr fun e w' => e = .returned (.bool true) ∧ PlayI w w' (i + 1) ∧ ∃ N, BookV w' w.heap.size 1 N ∧ N ≤ 1152921504606846976) := fun wr i hi hp hk => step_play hp (by omega) D[i] (h.ok _ (List.getElem_mem hi)) hk
  have HW : Hid (∀ (wr : World) (N : Nat), BookV wr w.heap.size 1 N → N ≤ 1152921504606846976 → Calls Tryz.prog 6 #[.pointer (some ⟨w.heap.size, 1, none⟩)] wr fun e w' => e = .returned (.bool true) ∧ Below wr.heap.size wr w') := fun wr N hb hn => whole_any wr hb hn
  subst hvf
  obtain ⟨m, hm⟩ : ∃ m, D.length = m := ⟨_, rfl⟩
  have HKs := hide hks
  have HCs := hide hcs
  rw [hm] at hD ⊢
  clear h hcs hks
  unfold opCells at HF
  go_enter Tryz.func4, Tryz.ntmps4
  go_wp2_with (go_at_call 5; refine (HF.out _ (Below.refl _ _)).mono ?_; rintro e w1 ⟨rfl, hp1⟩; have HP1 := hide hp1; clear hp1)
  go_loopg [7] m (fun gg s7 wr => ∃ i : Nat, s7 = .int .i64 i ∧ gg + i = m ∧ PlayI w wr i)
  case atStart => exact ⟨0, rfl, by omega, HP1.out⟩
  case round =>
    rename World => wr
    obtain ⟨i, rfl, hgi, hPI⟩ := hrel
    have HPI := hide hPI
    clear hPI
    cases gk with
    | zero =>
      have hlt : ¬ (i : Int) < (m : Int) := by omega
      go_wp2
      go_ret
      exact ⟨rfl, HPI.out.bel⟩
    | succ gk =>
      have hlt : (i : Int) < (m : Int) := by omega
      have hi0 : (0 : Int) ≤ (i : Int) := by omega
      have him : i < D.length := by omega
      obtain ⟨hcap, b, off, hsa, hbl, hcl⟩ := HCs.out i him
      subst hsa
      have hcw : ∀ o u, D[i].cells[o]? = some u → wr.cell? ⟨b, off + i * 13 + o, none⟩ = some u := fun o u hu => (HPI.out.bel.cell (p := ⟨b, off + i * 13 + o, none⟩) hbl).trans (hcl o u hu)
      have HS2 : Hid (∀ W : World, PlayI w W i → D[i].kd ∈ kindsL → Calls Tryz.prog 5 #[.pointer (some ⟨w.heap.size, 0, none⟩), .agg D[i].cells] W fun e w' => e = .returned (.bool true) ∧ PlayI w w' (i + 1) ∧ ∃ N, BookV w' w.heap.size 1 N ∧ N ≤ 1152921504606846976) := fun W hW hk => HSt.out W i him hW hk
      obtain ⟨d, hd⟩ : ∃ d, D[i] = d := ⟨_, rfl⟩
      rw [hd] at HS2 hcw
      have HCw := hide hcw
      clear hcw hcl HSt HF HP1 hd
      have c0 : wr.cell? ⟨b, off + i * 13, none⟩ = some (.int .i64 d.kd) := HCw.out 0 _ rfl
      have hic : i < sc := by omega
      go_wp2_with fail
      go_loopg [8, 9] 10 (fun gg s8 s9 wi => ∃ j nq : Nat, s9 = .int .i64 j ∧ gg + j = 10 ∧ s8 = .bool (hasK d.kd j) ∧ wi = wr.drewN nq)
      case atStart => exact ⟨0, 0, rfl, rfl, rfl, rfl⟩
      case round =>
        rename World => wi
        rename Nat => gj
        obtain ⟨j, nq, rfl, hgj, rfl, rfl⟩ := hrel
        cases gj with
        | zero =>
          have hj10 : j = 10 := by omega
          subst hj10
          cases hk : hasK d.kd 10 with
          | false =>
            go_wp2_with fail
            go_roundg gk
            case measure => omega
            case rel => exact ⟨i + 1, by go_num, by omega, (HPI.out.drewN nq).next⟩
          | true =>
            have HG : Hid (Calls Tryz.prog 5 #[.pointer (some ⟨w.heap.size, 0, none⟩), .agg #[.int .i64 d.kd, .int .i64 d.k, .int .i64 d.a, .int .i64 d.b, .int .i64 d.c, .bool d.y, .int .i64 d.r.1, .int .i64 d.r.2.1, .int .i64 d.r.2.2.1, .int .i64 d.r.2.2.2, d.lv, d.mv, d.pv]] (wr.drewN nq) fun e w' => e = .returned (.bool true) ∧ PlayI w w' (i + 1) ∧ ∃ N, BookV w' w.heap.size 1 N ∧ N ≤ 1152921504606846976) := HS2.out _ (HPI.out.drewN nq) (hasK_all _ hk)
            have c1 : wr.cell? ⟨b, off + i * 13 + 1, none⟩ = some (.int .i64 d.k) := HCw.out 1 _ rfl
            have c2 : wr.cell? ⟨b, off + i * 13 + 2, none⟩ = some (.int .i64 d.a) := HCw.out 2 _ rfl
            have c3 : wr.cell? ⟨b, off + i * 13 + 3, none⟩ = some (.int .i64 d.b) := HCw.out 3 _ rfl
            have c4 : wr.cell? ⟨b, off + i * 13 + 4, none⟩ = some (.int .i64 d.c) := HCw.out 4 _ rfl
            have c5 : wr.cell? ⟨b, off + i * 13 + 5, none⟩ = some (.bool d.y) := HCw.out 5 _ rfl
            have c6 : wr.cell? ⟨b, off + i * 13 + 6, none⟩ = some (.int .i64 d.r.1) := HCw.out 6 _ rfl
            have c7 : wr.cell? ⟨b, off + i * 13 + 7, none⟩ = some (.int .i64 d.r.2.1) := HCw.out 7 _ rfl
            have c8 : wr.cell? ⟨b, off + i * 13 + 8, none⟩ = some (.int .i64 d.r.2.2.1) := HCw.out 8 _ rfl
            have c9 : wr.cell? ⟨b, off + i * 13 + 9, none⟩ = some (.int .i64 d.r.2.2.2) := HCw.out 9 _ rfl
            have c10 : wr.cell? ⟨b, off + i * 13 + 10, none⟩ = some d.lv := HCw.out 10 _ rfl
            have c11 : wr.cell? ⟨b, off + i * 13 + 11, none⟩ = some d.mv := HCw.out 11 _ rfl
            have c12 : wr.cell? ⟨b, off + i * 13 + 12, none⟩ = some d.pv := HCw.out 12 _ rfl
            go_wp2_with (first
              | (go_at_call 5; refine HG.out.mono ?_; rintro e w5 ⟨rfl, hp5, N5, hb5, hn5⟩; have H5 := hide hp5; have HB5 := hide hb5; clear hp5 hb5)
              | (go_at_call 6; refine (HW.out _ N5 HB5.out hn5).mono ?_; rintro e w6 ⟨rfl, hb6⟩; have H6 := hide (H5.out.below hb6); clear hb6)
              | fail)
            go_roundg gk
            case measure => omega
            case rel => exact ⟨i + 1, by go_num, by omega, H6.out⟩
        | succ gj =>
          have hj : j < 10 := by omega
          have hj1 : (j : Int) < 10 := by omega
          have hj0 : (0 : Int) ≤ (j : Int) := by omega
          have hkc : wr.cell? ⟨kb, j, none⟩ = some (.int .i64 (kindsL[j]'hj)) := (HPI.out.bel.cell (p := ⟨kb, j, none⟩) hkb).trans (HKs.out j hj)
          have hsucc := hasK_succ d.kd j hj
          obtain ⟨kk, hkk⟩ : ∃ kk, kindsL[j]'hj = kk := ⟨_, rfl⟩
          rw [hkk] at hkc
          have hkk' : (kindsL[j]'hj) = kk := hkk
          cases hk : hasK d.kd j with
          | true =>
            go_upto_region 12 with fail
            go_quiet (fail)
            go_wp2_with fail
            go_roundg gj
            case measure => omega
            case rel => exact ⟨j + 1, _, by go_num, by omega, by rw [hsucc, hk]; rfl, by first | rfl | (simp; rfl)⟩
          | false =>
            go_upto_region 12 with fail
            go_quiet (fail)
            go_wp2_with fail
            go_roundg gj
            case measure => omega
            case rel => exact ⟨j + 1, _, by go_num, by omega, by rw [hsucc, hk, hkk', Bool.false_or]; rfl, by first | rfl | (simp; rfl)⟩

end Go.Proofs.YtlaflopimpnjpaaGreat

/-! Arg -/
namespace Go.Proofs.YtlaflopimpnjpaaGreat
open Go.RowKit Go.ChangeShapes Go.WideShapes Go.ChangeAt Go.Deep

theorem arg_own : ownKnob Tryz.prog.godebug = none := by kernel_rfl
theorem arg_laidOut : laidOutB Tryz.prog = true := by kernel_rfl
theorem cellsInt : Tryz.prog.cellsOf 3 = 1 := by kernel_rfl
theorem cellsRect : Tryz.prog.cellsOf 37 = 4 := by kernel_rfl

theorem int64 {x : Int} (h : (Lit.int .i64 x).wf = true) : -9223372036854775808 ≤ x ∧ x ≤ 9223372036854775807 := by
  have := bounds_i64 h
  omega

/-- A number that came in fits. -/
def fits64 (x : Int) : Prop := -9223372036854775808 ≤ x ∧ x ≤ 9223372036854775807

theorem add_off (b off o : Nat) : (⟨b, off, none⟩ : Addr).add o = ⟨b, off + o, none⟩ := by unfold Addr.add; split <;> simp_all

theorem choose_list (n : Nat) (Q : Nat → (Int × Int × Int × Int) → Prop) (h : ∀ i, i < n → ∃ r, Q i r) : ∃ l : List (Int × Int × Int × Int), l.length = n ∧ ∀ i (hi : i < l.length), Q i l[i] := by
  induction n with
  | zero => exact ⟨[], rfl, fun i hi => by simp at hi⟩
  | succ n ih =>
    obtain ⟨l, hl, hq⟩ := ih fun i hi => h i (by omega)
    obtain ⟨r, hr⟩ := h n (by omega)
    refine ⟨l ++ [r], by simp [hl], fun i hi => ?_⟩
    by_cases e : i < l.length
    · rw [List.getElem_append_left e]; exact hq i e
    · have : i = l.length := by simp at hi; omega
      subst this
      rw [List.getElem_append_right (by omega)]
      simp
      rw [hl]; exact hr

set_option maxRecDepth 100000 in
set_option maxHeartbeats 1000000 in
/-- A slice of rectangles that came in. -/
theorem open_rects {H : Type} {enc : TypeId × Value → H} {W : World} {base : Nat} {v : Value} {d : DataW H} {p : List MemPlace}
    (hv : Value.okWide Tryz.prog W .any base 38 v) (h : DataW.Trod enc Tryz.prog W 0 (fun _ => true) true 38 v d p) :
    ∃ l : List (Int × Int × Int × Int), RectsAt W v l ∧ l.length ≤ maxLen ∧ ∀ r ∈ l, fits64 r.1 ∧ fits64 r.2.1 ∧ fits64 r.2.2.1 ∧ fits64 r.2.2.2 := by
  obtain ⟨x, ln, cp, rfl⟩ := okWide_slice Tryz.underlying38 hv
  obtain ⟨fuel, hf⟩ := h
  rcases open_slice Tryz.underlying38 hf with ⟨hcs, _⟩ | ⟨a, len, cap, m, n, D, Pl, hcs, _, hl, hm, hmm, _, hx⟩
  · simp [Value.cells] at hcs
    obtain ⟨rfl, rfl, rfl⟩ := hcs
    exact ⟨[], ⟨none, 0, rfl, fun h => by simp at h⟩, by simp, fun r hr => by simp at hr⟩
  · simp [Value.cells] at hcs
    obtain ⟨rfl, rfl, rfl⟩ := hcs
    have hm' : m = cp := by simpa using hmm
    subst hm'
    obtain ⟨b, off, spot⟩ := a
    have each : ∀ i, i < ln → ∃ r : Int × Int × Int × Int, (W.cell? ((⟨b, off, spot⟩ : Addr).add (i * 4)) = some (.int .i64 r.1) ∧ W.cell? ((⟨b, off, spot⟩ : Addr).add (i * 4 + 1)) = some (.int .i64 r.2.1) ∧ W.cell? ((⟨b, off, spot⟩ : Addr).add (i * 4 + 2)) = some (.int .i64 r.2.2.1) ∧ W.cell? ((⟨b, off, spot⟩ : Addr).add (i * 4 + 3)) = some (.int .i64 r.2.2.2)) ∧ fits64 r.1 ∧ fits64 r.2.1 ∧ fits64 r.2.2.1 ∧ fits64 r.2.2.2 := by
      intro i hi
      obtain ⟨cs', h1, h2⟩ := hx i (by omega)
      rw [cellsRect] at h1
      obtain ⟨_, hlen, hcell⟩ := World.cells?_some h1
      obtain ⟨y0, y1, y2, y3, k, _, _, g0, g1, g2, g3⟩ := Go.Joins.trod_struct4 Tryz.underlying37 h2
      match cs', hlen with
      | [v0, v1, v2, v3], _ =>
        simp [cellsInt] at g0 g1 g2 g3
        obtain ⟨x0, e0, _, w0⟩ := DataW.trod_int Tryz.underlying3 g0
        obtain ⟨x1, e1, _, w1⟩ := DataW.trod_int Tryz.underlying3 g1
        obtain ⟨x2, e2, _, w2⟩ := DataW.trod_int Tryz.underlying3 g2
        obtain ⟨x3, e3, _, w3⟩ := DataW.trod_int Tryz.underlying3 g3
        simp at e0 e1 e2 e3
        subst e0 e1 e2 e3
        have q0 := hcell 0 (by omega)
        have q1 := hcell 1 (by omega)
        have q2 := hcell 2 (by omega)
        have q3 := hcell 3 (by omega)
        rw [add_add] at q0 q1 q2 q3
        exact ⟨(x0, x1, x2, x3), ⟨by simpa using q0, by simpa using q1, by simpa using q2, by simpa using q3⟩, int64 w0, int64 w1, int64 w2, int64 w3⟩
    obtain ⟨l, hll, hq⟩ := choose_list ln _ each
    subst hll
    refine ⟨l, ⟨_, m, rfl, fun hpos => ?_⟩, by omega, fun r hr => ?_⟩
    · have hs : spot = none := by
        have := (hq 0 hpos).1.1
        simpa [Addr.add] using World.cell?_spot this
      subst hs
      refine ⟨b, off, rfl, fun k hk => ?_⟩
      obtain ⟨⟨a1, a2, a3, a4⟩, _⟩ := hq k hk
      rw [add_off] at a1 a2 a3 a4
      exact ⟨a1, a2, a3, a4⟩
    · obtain ⟨i, hi, rfl⟩ := List.getElem_of_mem hr
      exact (hq i hi).2

end Go.Proofs.YtlaflopimpnjpaaGreat

/-! OpA -/
namespace Go.Proofs.YtlaflopimpnjpaaGreat
open Go.ChangeShapes Go.WideShapes Go.ChangeAt Go.RowKit Go.Deep

theorem cellsByte : Tryz.prog.cellsOf 5 = 1 := by kernel_rfl
theorem cellsBool : Tryz.prog.cellsOf 4 = 1 := by kernel_rfl
theorem cellsPixel : Tryz.prog.cellsOf 55 = 4 := by kernel_rfl
theorem cellsRects : Tryz.prog.cellsOf 38 = 1 := by kernel_rfl
theorem cellsPixels : Tryz.prog.cellsOf 39 = 1 := by kernel_rfl
theorem cellsOp : Tryz.prog.cellsOf 41 = 13 := by kernel_rfl
theorem pixelBytes : Tryz.prog.bytesOf 55 = 4 := by kernel_rfl
theorem opBytes : Tryz.prog.bytesOf 41 = 152 := by kernel_rfl

theorem choose_rows {α : Type} (n : Nat) (Q : Nat → α → Prop) (h : ∀ i, i < n → ∃ r, Q i r) : ∃ l : List α, l.length = n ∧ ∀ i (hi : i < l.length), Q i l[i] := by
  induction n with
  | zero => exact ⟨[], rfl, fun i hi => by simp at hi⟩
  | succ n ih =>
    obtain ⟨l, hl, hq⟩ := ih fun i hi => h i (by omega)
    obtain ⟨r, hr⟩ := h n (by omega)
    refine ⟨l ++ [r], by simp [hl], fun i hi => ?_⟩
    by_cases e : i < l.length
    · rw [List.getElem_append_left e]; exact hq i e
    · have : i = l.length := by simp at hi; omega
      subst this
      rw [List.getElem_append_right (by omega)]
      simp
      rw [hl]; exact hr

set_option maxRecDepth 100000 in
set_option maxHeartbeats 1000000 in
/-- A slice of pixels that came in. -/
theorem open_pixels {H : Type} {enc : TypeId × Value → H} {W : World} {fuel : Nat} {cs : List Value} {x : DataW H × List MemPlace}
    (hf : DataW.trod enc Tryz.prog W 0 (fun _ => true) true fuel 39 cs = some x) :
    ∃ (v : Value) (l : List R4), cs = [v] ∧ PixAt W v l ∧ ((v = .slice none 0 0 ∧ l = []) ∨ ((∃ ad c, v = .slice (some ad) l.length c) ∧ ∃ el sp, x.1 = .slice el sp ∧ el.length = l.length)) := by
  rcases open_slice Tryz.underlying39 hf with ⟨hcs, _⟩ | ⟨a, ln, cp, m, n, D, Pl, hcs, _, hl, hm, hmm, hd, hx⟩
  · exact ⟨_, [], hcs, ⟨none, 0, rfl, fun h => by simp at h⟩, .inl ⟨rfl, rfl⟩⟩
  · subst hcs
    have hm' : m = cp := by simpa using hmm
    subst hm'
    obtain ⟨b, off, spot⟩ := a
    have each : ∀ i, i < ln → ∃ r : R4, (W.cell? ((⟨b, off, spot⟩ : Addr).add (i * 4)) = some (.int .u8 r.1) ∧ W.cell? ((⟨b, off, spot⟩ : Addr).add (i * 4 + 1)) = some (.int .u8 r.2.1) ∧ W.cell? ((⟨b, off, spot⟩ : Addr).add (i * 4 + 2)) = some (.int .u8 r.2.2.1) ∧ W.cell? ((⟨b, off, spot⟩ : Addr).add (i * 4 + 3)) = some (.int .u8 r.2.2.2)) := by
      intro i hi
      obtain ⟨cs', h1, h2⟩ := hx i (by omega)
      rw [cellsPixel] at h1
      obtain ⟨_, hlen, hcell⟩ := World.cells?_some h1
      obtain ⟨xs, k, _, _, _, hxl, hg⟩ := DataW.trod_array Tryz.underlying55 h2
      have g0 := hg 0 (by omega)
      have g1 := hg 1 (by omega)
      have g2 := hg 2 (by omega)
      have g3 := hg 3 (by omega)
      rw [List.getElem?_eq_getElem (by omega)] at g0 g1 g2 g3
      match cs', hlen with
      | [v0, v1, v2, v3], _ =>
        simp [cellsByte] at g0 g1 g2 g3
        obtain ⟨x0, e0, _, w0⟩ := DataW.trod_int Tryz.underlying5 g0
        obtain ⟨x1, e1, _, w1⟩ := DataW.trod_int Tryz.underlying5 g1
        obtain ⟨x2, e2, _, w2⟩ := DataW.trod_int Tryz.underlying5 g2
        obtain ⟨x3, e3, _, w3⟩ := DataW.trod_int Tryz.underlying5 g3
        simp at e0 e1 e2 e3
        subst e0 e1 e2 e3
        have q0 := hcell 0 (by omega)
        have q1 := hcell 1 (by omega)
        have q2 := hcell 2 (by omega)
        have q3 := hcell 3 (by omega)
        rw [add_add] at q0 q1 q2 q3
        exact ⟨(x0, x1, x2, x3), ⟨by simpa using q0, by simpa using q1, by simpa using q2, by simpa using q3⟩⟩
    obtain ⟨l, hll, hq⟩ := choose_rows ln _ each
    subst hll
    refine ⟨_, l, rfl, ⟨_, m, rfl, fun hpos => ⟨hl, ?_⟩⟩, .inr ⟨⟨_, m, rfl⟩, _, _, (Prod.ext_iff.1 hd).1, by simp⟩⟩
    have hs : spot = none := by
      have := (hq 0 hpos).1
      simpa [Addr.add] using World.cell?_spot this
    subst hs
    refine ⟨b, off, rfl, fun k hk => ?_⟩
    obtain ⟨a1, a2, a3, a4⟩ := hq k hk
    rw [add_off] at a1 a2 a3 a4
    exact ⟨a1, a2, a3, a4⟩

theorem list13 {α : Type} {cs : List α} (h : cs.length = 13) : ∃ c0 c1 c2 c3 c4 c5 c6 c7 c8 c9 c10 c11 c12, cs = [c0, c1, c2, c3, c4, c5, c6, c7, c8, c9, c10, c11, c12] := by
  match cs, h with
  | [c0, c1, c2, c3, c4, c5, c6, c7, c8, c9, c10, c11, c12], _ => exact ⟨_, _, _, _, _, _, _, _, _, _, _, _, _, rfl⟩

set_option maxRecDepth 100000 in
set_option maxHeartbeats 1000000 in
/-- An Op that came in. -/
theorem open_op {H : Type} {enc : TypeId × Value → H} {W : World} {fuel : Nat} {cs : List Value} {x : DataW H × List MemPlace}
    (hf : DataW.trod enc Tryz.prog W 0 (fun _ => true) true fuel 41 cs = some x) (hs : ∀ n ∈ x.1.weights Tryz.prog 41, n ≤ reachBytes) :
    ∃ d : OpD, cs = d.cells.toList ∧ OpDok W d := by
  obtain ⟨xs, n, _, rfl, hlen, hxl, hfs⟩ := DataW.trod_struct Tryz.underlying41 hf
  rw [cellsOp] at hlen
  obtain ⟨c0, c1, c2, c3, c4, c5, c6, c7, c8, c9, c10, c11, c12, rfl⟩ := list13 hlen
  have g0 := hfs 0 _ rfl
  have g1 := hfs 1 _ rfl
  have g2 := hfs 2 _ rfl
  have g3 := hfs 3 _ rfl
  have g4 := hfs 4 _ rfl
  have g5 := hfs 5 _ rfl
  have g6 := hfs 6 _ rfl
  have g9 := hfs 9 _ rfl
  have hxl' : xs.length = 10 := hxl
  rw [List.getElem?_eq_getElem (by omega)] at g0 g1 g2 g3 g4 g5 g6 g9
  simp [cellsInt, cellsBool, cellsRect, cellsPixels] at g0 g1 g2 g3 g4 g5 g6 g9
  obtain ⟨x0, e0, _, w0⟩ := DataW.trod_int Tryz.underlying3 g0
  obtain ⟨x1, e1, _, w1⟩ := DataW.trod_int Tryz.underlying3 g1
  obtain ⟨x2, e2, _, w2⟩ := DataW.trod_int Tryz.underlying3 g2
  obtain ⟨x3, e3, _, w3⟩ := DataW.trod_int Tryz.underlying3 g3
  obtain ⟨x4, e4, _, w4⟩ := DataW.trod_int Tryz.underlying3 g4
  obtain ⟨x5, e5, _⟩ := DataW.trod_bool Tryz.underlying4 g5
  obtain ⟨y0, y1, y2, y3, k, _, _, r0, r1, r2, r3⟩ := Go.Joins.trod_struct4 Tryz.underlying37 g6
  simp [cellsInt] at r0 r1 r2 r3
  obtain ⟨z0, f0, _⟩ := DataW.trod_int Tryz.underlying3 r0
  obtain ⟨z1, f1, _⟩ := DataW.trod_int Tryz.underlying3 r1
  obtain ⟨z2, f2, _⟩ := DataW.trod_int Tryz.underlying3 r2
  obtain ⟨z3, f3, _⟩ := DataW.trod_int Tryz.underlying3 r3
  obtain ⟨pv, l, e9, hp, hform⟩ := open_pixels g9
  simp at e0 e1 e2 e3 e4 e5 f0 f1 f2 f3 e9
  subst e0 e1 e2 e3 e4 e5 f0 f1 f2 f3 e9
  refine ⟨⟨x0, x1, x2, x3, x4, x5, (z0, z1, z2, z3), c10, c11, c12, l⟩, rfl, ⟨int64 w1, hp, hform.imp id And.left, ?_⟩⟩
  rcases hform with ⟨_, rfl⟩ | ⟨_, el, sp, hx, hel⟩
  · simp
  · have hm := hs ((el.length + sp.length) * 4) (by
      simp only [DataW.weights, Tryz.underlying41]
      refine DataW.weights_mem_each (j := 9) rfl (d := xs[9].1) (by simp [hxl']) _ ?_
      rw [hx]
      simp [DataW.weights, Tryz.underlying39, pixelBytes])
    unfold reachBytes at hm
    show l.length * 4 ≤ _
    omega

theorem weightsAll_mem {H : Type} {P : Program} {e : TypeId} : ∀ {l : List (DataW H)} {d : DataW H}, d ∈ l → ∀ n ∈ d.weights P e, n ∈ DataW.weightsAll P e l
  | y :: l, d, h, n, hn => by
    simp only [DataW.weightsAll, List.mem_append]
    rcases List.mem_cons.1 h with rfl | h
    · exact Or.inl hn
    · exact Or.inr (weightsAll_mem h n hn)

set_option maxRecDepth 100000 in
set_option maxHeartbeats 1000000 in
/-- A script that came in. -/
theorem open_ops {H : Type} {enc : TypeId × Value → H} {W : World} {base : Nat} {v : Value} {d : DataW H} {p : List MemPlace}
    (hv : Value.okWide Tryz.prog W .any base 22 v) (h : DataW.Trod enc Tryz.prog W 0 (fun _ => true) true 22 v d p) (hs : ∀ n ∈ d.weights Tryz.prog 22, n ≤ reachBytes) :
    ∃ D : List OpD, OpsAt W v D ∧ D.length ≤ 926000000000 := by
  obtain ⟨x, ln, cp, rfl⟩ := okWide_slice Tryz.underlying22 hv
  obtain ⟨fuel, hf⟩ := h
  rcases open_slice Tryz.underlying22 hf with ⟨hcs, _⟩ | ⟨a, len, cap, m, n, D, Pl, hcs, _, hl, hm, hmm, hd, hx⟩
  · simp [Value.cells] at hcs
    obtain ⟨rfl, rfl, rfl⟩ := hcs
    exact ⟨[], ⟨⟨none, 0, rfl⟩, fun a c _ i hi => by simp at hi, fun d hd => by simp at hd⟩, by simp⟩
  · simp [Value.cells] at hcs
    obtain ⟨rfl, rfl, rfl⟩ := hcs
    have hm' : m = cp := by simpa using hmm
    subst hm'
    obtain rfl := (Prod.ext_iff.1 hd).1
    obtain ⟨b, off, spot⟩ := a
    have each : ∀ i, i < ln → ∃ o : OpD, (∀ k, k < 13 → W.cell? ((⟨b, off, spot⟩ : Addr).add (i * 13 + k)) = o.cells[k]?) ∧ OpDok W o := by
      intro i hi
      obtain ⟨cs', h1, h2⟩ := hx i (by omega)
      rw [cellsOp] at h1
      obtain ⟨_, hlen, hcell⟩ := World.cells?_some h1
      obtain ⟨o, rfl, ho⟩ := open_op h2 fun nn hn => hs nn (by
        simp only [DataW.weights, Tryz.underlying22, List.mem_cons, List.mem_append]
        exact .inr (.inl (weightsAll_mem (d := D i) (List.mem_map.2 ⟨i, List.mem_range.2 hi, rfl⟩) nn hn)))
      refine ⟨o, fun k hk => ?_, ho⟩
      have q := hcell k hk
      rw [add_add] at q
      simpa using q
    obtain ⟨l, hll, hq⟩ := choose_rows ln _ each
    subst hll
    have hsz := hs ((l.length + (m - l.length)) * 152) (by simp [DataW.weights, Tryz.underlying22, opBytes])
    unfold reachBytes at hsz
    refine ⟨l, ⟨⟨_, m, rfl⟩, fun a c e i hi => ?_, fun d hd => ?_⟩, by omega⟩
    · simp only [Value.slice.injEq] at e
      obtain ⟨rfl, _, rfl⟩ := e
      have hc0 : ∀ o : OpD, ∃ u, o.cells[0]? = some u := fun o => ⟨_, rfl⟩
      have h00 := (hq 0 (by omega)).1 0 (by omega)
      obtain ⟨u0, hu0⟩ := hc0 (l[0]'(by omega))
      rw [hu0] at h00
      have hsp : spot = none := by simpa [Addr.add] using World.cell?_spot h00
      subst hsp
      have h0 := (hq i hi).1 0 (by omega)
      obtain ⟨u, hu⟩ := hc0 l[i]
      rw [hu] at h0
      rw [add_off] at h0
      refine ⟨hl, b, off, rfl, cell_lt h0, fun o u' hu' => ?_⟩
      have ho : o < 13 := by
        have := (Array.getElem?_eq_some_iff.1 hu').1
        exact this
      have := (hq i hi).1 o ho
      rw [add_off, hu'] at this
      rw [← this]
      congr 2
      omega
    · obtain ⟨i, hi, rfl⟩ := List.getElem_of_mem hd
      exact (hq i hi).2

end Go.Proofs.YtlaflopimpnjpaaGreat
