import Derived.Test.YtofinpocigbbeaaGreatSgF
import Derived.Test.YtofinpocigbbeaaGreatSgG
import Derived.Test.YtofinpocigbbeaaGreatSgH
import Derived.Test.YtofinpocigbbeaaGreatSceD
import Derived.Test.YtofinpocigbbeaaGreatSgP
import Derived.Test.YtofinpocigbbeaaGreatOfs
import Derived.Deep.RegionHeld3
import Derived.BigQuiet
import Derived.ProofKit
import Derived.OpenShut
import Derived.Deep.Slices
import Derived.Lib.SmallJoins
import Derived.SizedLaws
/-! PaZ -/
namespace Go.Proofs.YtofinpocigbbeaaGreat
open Go.RowKit
attribute [local go_sem ↓] Go.wp_at_zero Go.wp_at_succ

set_option maxRecDepth 100000 in
set_option maxHeartbeats 1000000 in
theorem paNew_size (W H n : Int) (w : World) (h : W < 1 ∨ 24 < W ∨ H < 1 ∨ 24 < H) :
    Calls Tryz.prog 26 #[.int .i64 W, .int .i64 H, .int .i64 n] w (NRef 5 w) := by
  have hcases : W < 1 ∨ (1 ≤ W ∧ 24 < W) ∨ (1 ≤ W ∧ W ≤ 24 ∧ H < 1) ∨ (1 ≤ W ∧ W ≤ 24 ∧ 1 ≤ H ∧ 24 < H) := by omega
  clear h
  rcases hcases with h1 | ⟨h1, h2⟩ | ⟨h1, h2, h3⟩ | ⟨h1, h2, h3, h4⟩
  all_goals
    try have hd : decide (H ≤ 24) = false := decide_eq_false (by omega)
    go_enter Tryz.func26, Tryz.ntmps26
    go_wp2_with go_in
    go_ret2
    exact ⟨rfl, Below.refl _ _⟩

set_option maxRecDepth 100000 in
set_option maxHeartbeats 1000000 in
theorem paNew_buf (W H n : Int) (w : World) (hW : 1 ≤ W ∧ W ≤ 24) (hH : 1 ≤ H ∧ H ≤ 24) (h : n < 1 ∨ 3 < n) :
    Calls Tryz.prog 26 #[.int .i64 W, .int .i64 H, .int .i64 n] w (NRef 10 w) := by
  obtain ⟨hW0, hW1⟩ := hW
  obtain ⟨hH0, hH1⟩ := hH
  have hcases : n < 1 ∨ (1 ≤ n ∧ 3 < n) := by omega
  clear h
  rcases hcases with h1 | ⟨h1, h2⟩
  all_goals
    try have hd : decide (n ≤ 3) = false := decide_eq_false (by omega)
    go_enter Tryz.func26, Tryz.ntmps26
    go_wp2_with go_in
    go_ret2
    exact ⟨rfl, Below.refl _ _⟩

end Go.Proofs.YtofinpocigbbeaaGreat

/-! Ply -/
namespace Go.Proofs.YtofinpocigbbeaaGreat
open Go.RowKit

/-! ### What is played: the screens of both sides, the book -/

/-- The types of the law's own blocks. -/
def Law (t : TypeId) : Prop := t = 59 ∨ t = 56 ∨ t = 113 ∨ t = 69 ∨ t = 105 ∨ t = 72

def NotLaw (w : World) (g : Nat) : Prop := ∀ (cur : Array Value) (t : TypeId), Law t → w.heap[g]? ≠ some (.cells cur t (0, 0))

theorem NotLaw.of {w : World} {g : Nat} {cur : Array Value} {t : TypeId} (h : w.heap[g]? = some (.cells cur t (0, 0))) (ht : ¬ Law t) : NotLaw w g := fun c t' hl e => by
  rw [h] at e
  injection e with e
  injection e with _ e2
  subst e2
  exact ht hl

theorem NotLaw.keep {w w' : World} {g : Nat} (h : NotLaw w g) (e : w'.heap[g]? = w.heap[g]?) : NotLaw w' g := fun c t hl => by rw [e]; exact h c t hl

/-- Of these blocks: those that lie there, and are none of the law's. -/
def RS (S : Nat → Prop) (w : World) : Nat → Prop := fun g => S g ∧ g < w.heap.size ∧ NotLaw w g

theorem RowS.rs {w : World} {S : Nat → Prop} {T : TypeId} {k : Nat} {v : Value} {n : Nat} {xs : List Value} (h : RowS w S T k v n xs) (hT : ¬ Law T) : RowS w (RS S w) T k v n xs :=
  ⟨h.1, fun g hg => ⟨h.2 g hg, (h.1.lt g hg).2, by obtain ⟨cur, hc⟩ := h.type hg; exact .of hc hT⟩⟩

theorem rs_cells {w : World} {S : Nat → Prop} {g : Nat} {cur : Array Value} {t : TypeId} (h : w.heap[g]? = some (.cells cur t (0, 0))) (hS : S g) (ht : ¬ Law t) : RS S w g := ⟨hS, (Array.getElem?_eq_some_iff.1 h).1, .of h ht⟩

theorem PixV.rs {w : World} {S : Nat → Prop} {v : Value} {n : Nat} {f : Nat → R4} (h : PixV w S v n f) : PixV w (RS S w) v n f := by
  obtain ⟨a, h1, h2⟩ := h
  refine ⟨a, h1, fun hn => ?_⟩
  obtain ⟨g, e, hs, cur, hc, hr⟩ := h2 hn
  exact ⟨g, e, rs_cells hc hs (by unfold Law; decide), cur, hc, hr⟩

theorem BoolV.rs {w : World} {S : Nat → Prop} {v : Value} {n : Nat} {f : Nat → Bool} (h : BoolV w S v n f) : BoolV w (RS S w) v n f := by
  obtain ⟨a, h1, h2⟩ := h
  refine ⟨a, h1, fun hn => ?_⟩
  obtain ⟨g, e, hs, cur, hc, hr⟩ := h2 hn
  exact ⟨g, e, rs_cells hc hs (by unfold Law; decide), cur, hc, hr⟩

theorem RegS.rs {w : World} {S : Nat → Prop} {v : Value} {O : Rgn} (h : RegS w S v O) : RegS w (RS S w) v O := by
  obtain ⟨P, h1, h2, h3, h4, h5⟩ := h
  refine ⟨P, h1, h2, fun g hg => ?_, fun p hp => ⟨(h4 p hp).1, fun g hg => ?_⟩, h5⟩
  · obtain ⟨cur, hc⟩ := own_type h2 hg
    exact rs_cells hc (h3 g hg) (by unfold Law; decide)
  · have hs := (h4 p hp).2 g hg
    rcases (h4 p hp).1 with ⟨e, _⟩ | ⟨b, c, cur, e, _, hb, _⟩
    · rw [e] at hg
      simp [Value.ownBlock] at hg
    · rw [e] at hg
      simp [Value.ownBlock] at hg
      subst hg
      exact rs_cells hb hs (by unfold Law; decide)

theorem SfD.rs {w : World} {S : Nat → Prop} {G : Nat → Value} {s : Sf} (h : SfD w S G s) : SfD w (RS S w) G s :=
  ⟨h.pix.rs, let ⟨R, q, r⟩ := h.hint; ⟨R, q.rs, r⟩, h.npix.rs, let ⟨R, q, r⟩ := h.nhint; ⟨R, q.rs, r⟩, h.kw, h.kh, h.kept.rs⟩

theorem PaneOk.rs {w : World} {S : Nat → Prop} {x : Nat} {st : St} {bv : Value} (h : PaneOk w S x st bv) : PaneOk w (RS S w) x st bv := by
  obtain ⟨sc, mp, blk, G, h⟩ := h
  refine ⟨sc, mp, blk, G, h.scr, h.sce, h.map, h.srf, ⟨rs_cells h.scr h.own.1 (by unfold Law; decide), rs_cells h.sce h.own.2.1 (by unfold Law; decide), ⟨h.own.2.2.1, h.map.lt, fun c t _ e => h.map.ne e rfl⟩, fun p hp => ?_⟩, h.inj, fun p hp => (h.on p hp).rs (by unfold Law; decide), h.apart, h.cells, fun i hi => (h.data i hi).rs⟩
  obtain ⟨cur, h1, _⟩ := h.srf p hp
  exact rs_cells h1 (h.own.2.2.2 p hp) (by unfold Law; decide)

theorem CvMem.rs {w : World} {S : Nat → Prop} {c : Nat} {d : Cv} {bv : Value} {rg : Nat} {dv : Array Value} (h : CvMem w S c d bv rg dv) : CvMem w (RS S w) c d bv rg dv := by
  refine ⟨h.blk, rs_cells h.blk h.own (by unfold Law; decide), h.row.rs (by unfold Law; decide), h.ring, rs_cells h.ring h.rown (by unfold Law; decide), h.size, fun i R hi => ?_, fun b hb => ?_⟩
  · obtain ⟨v, h1, h2⟩ := h.regs i R hi
    exact ⟨v, h1, h2.rs⟩
  · obtain ⟨hs, cur, hc, hr⟩ := h.pix b hb
    exact ⟨rs_cells hc hs (by unfold Law; decide), cur, hc, hr⟩

theorem FullOk.rs {w : World} {S : Nat → Prop} {x : Nat} {st : St} (h : FullOk w S x st) : FullOk w (RS S w) x st := by
  obtain ⟨d, A, B, c, h1, h2, h3⟩ := h
  refine ⟨d, RS A w, RS B w, c, ⟨h1.pane.rs, let ⟨bv, rg, dv, q⟩ := h1.cv; ⟨bv, rg, dv, q.rs⟩, h1.ok, h1.dw, h1.dh, fun g hg => hg.2.1, fun g hg => hg.2.1, fun g hg hb => h1.ap g hg.1 hb.1⟩, fun g hg => ⟨h2 g hg.1, hg.2⟩, fun g hg => ⟨h3 g hg.1, hg.2⟩⟩

theorem PixRow.rs {w : World} {S : Nat → Prop} {v : Value} {n : Int} (h : PixRow w S v n) : PixRow w (RS S w) v n := by
  obtain ⟨m, xs, h1, h2, h3⟩ := h
  exact ⟨m, xs, h1, h2.rs (by unfold Law; decide), h3⟩

theorem RefOk.rs {w : World} {S : Nat → Prop} {c : Nat} {st : St} (h : RefOk w S c st) : RefOk w (RS S w) c st := by
  obtain ⟨bv, sv, ov, F, ⟨h1, h2, ⟨xs, h3, h4⟩, h5, nb, ys, h6, h7, h8⟩, q⟩ := h
  refine ⟨bv, sv, ov, F, ⟨h1, rs_cells h1 h2 (by unfold Law; decide), ⟨xs, h3.rs (by unfold Law; decide), h4⟩, h5.rs (by unfold Law; decide), nb, ys, h6, h7.rs (by unfold Law; decide), fun k hk => ?_⟩, ⟨q.rel, fun i hi => (q.pixN i hi).rs, fun i hi => (q.pixX i hi).rs⟩⟩
  obtain ⟨dv, m, e1, e2, zs, e3⟩ := h8 k hk
  exact ⟨dv, m, e1, e2, zs, e3.rs (by unfold Law; decide)⟩

/-- A screen of both sides: where it lies, how it stands, what is its own. -/
structure Scr where
  x : Nat
  c : Nat
  st : St
  A : Nat → Prop
  B : Nat → Prop

def Scr.own (s : Scr) (g : Nat) : Prop := s.A g ∨ s.B g

def Scr.cells (s : Scr) : List Value := [ptrV s.x, ptrV s.c]

structure ScrOk (w : World) (n0 : Nat) (s : Scr) : Prop where
  pan : FullOk w s.A s.x s.st
  ref : RefOk w s.B s.c s.st
  fine : Fine s.st
  own : ∀ g, s.own g → n0 ≤ g ∧ g < w.heap.size ∧ NotLaw w g
  ab : ∀ g, s.A g → ¬ s.B g

theorem ScrOk.keep {w w' : World} {n0 : Nat} {s : Scr} (h : ScrOk w n0 s) (hs : w.heap.size ≤ w'.heap.size) (hk : ∀ g, s.own g → w'.heap[g]? = w.heap[g]?) : ScrOk w' n0 s :=
  ⟨h.pan.keep fun g hg _ => hk g (.inl hg), h.ref.keep fun g hg _ => hk g (.inr hg), h.fine, fun g hg => ⟨(h.own g hg).1, Nat.lt_of_lt_of_le (h.own g hg).2.1 hs, (h.own g hg).2.2.keep (hk g hg)⟩, h.ab⟩

theorem BookO.keep {w w' : World} {pb N : Nat} {pc : Array Value} {cv : Value} {xs : List Value} (h : BookO w pb N pc cv xs) (hk : ∀ (g : Nat) (cur : Array Value) (t : TypeId), Law t → w.heap[g]? = some (.cells cur t (0, 0)) → w'.heap[g]? = w.heap[g]?) : BookO w' pb N pc cv xs := by
  refine ⟨(hk pb _ _ (by unfold Law; simp) h.blk).trans h.blk, h.p1, h.p2, h.p3, own_keep h.row fun g hg => ?_, fun i hi => ?_⟩
  · obtain ⟨cur, hc⟩ := own_type h.row hg
    exact hk g cur _ (by unfold Law; simp) hc
  · obtain ⟨v, h1, h2⟩ := h.all i hi
    refine ⟨v, h1, h2.keep fun b cur t ht hb => hk b cur t ?_ hb⟩
    unfold Law
    rcases ht with rfl | rfl <;> simp

structure Inv (n0 : Nat) (w : World) (pb N : Nat) (ps : Value) (L : List Scr) : Prop where
  play : ∃ pc cv xs, BookO w pb N pc cv xs ∧ pc[0]? = some ps ∧ ∀ g, cv.ownBlock = some g → n0 ≤ g
  lo : n0 ≤ pb
  row : w.ownsRow n0 105 2 ps L.length (L.flatMap Scr.cells)
  scr : ∀ s ∈ L, ScrOk w n0 s
  apart : ∀ (i j : Nat) (s t : Scr), L[i]? = some s → L[j]? = some t → i ≠ j → ∀ g, s.own g → ¬ t.own g

theorem Inv.size {n0 : Nat} {w : World} {pb N : Nat} {ps : Value} {L : List Scr} (h : Inv n0 w pb N ps L) : n0 ≤ w.heap.size := by
  obtain ⟨pc, cv, xs, hb, _⟩ := h.play
  have := block_lt hb.blk
  have := h.lo
  omega

/-- The law's blocks are as they were. -/
def KeptLaw (w w' : World) : Prop := ∀ (g : Nat) (cur : Array Value) (t : TypeId), Law t → w.heap[g]? = some (.cells cur t (0, 0)) → w'.heap[g]? = w.heap[g]?

theorem Inv.keep {n0 : Nat} {w w' : World} {pb N : Nat} {ps : Value} {L : List Scr} (h : Inv n0 w pb N ps L) (hs : w.heap.size ≤ w'.heap.size) (hlaw : KeptLaw w w') (hscr : ∀ s ∈ L, ∀ g, s.own g → w'.heap[g]? = w.heap[g]?) : Inv n0 w' pb N ps L := by
  obtain ⟨pc, cv, xs, hb, hp, hc⟩ := h.play
  refine ⟨⟨pc, cv, xs, hb.keep hlaw, hp, hc⟩, h.lo, own_keep h.row fun g hg => ?_, fun s hs' => (h.scr s hs').keep hs (hscr s hs'), h.apart⟩
  obtain ⟨cur, hc⟩ := own_type h.row hg
  exact hlaw g cur _ (by unfold Law; simp) hc

theorem Inv.below {n0 : Nat} {w w' : World} {pb N : Nat} {ps : Value} {L : List Scr} (h : Inv n0 w pb N ps L) (hb : Below w.heap.size w w') : Inv n0 w' pb N ps L :=
  h.keep hb.size (fun g _ _ _ hg => hb.block g (Array.getElem?_eq_some_iff.1 hg).1) fun s hs g hg => hb.block g ((h.scr s hs).own g hg).2.1

theorem cells_set (L : List Scr) (i : Nat) (s s' : Scr) (hi : L[i]? = some s) (hx : s'.x = s.x) (hc : s'.c = s.c) : (L.set i s').flatMap Scr.cells = L.flatMap Scr.cells := by
  induction L generalizing i with
  | nil => rfl
  | cons a L ih =>
    cases i with
    | zero =>
      simp at hi
      subst hi
      simp [Scr.cells, hx, hc]
    | succ i =>
      simp at hi
      simp [ih i hi]

/-- A screen has changed. -/
theorem Inv.swap {n0 : Nat} {w w' : World} {pb N : Nat} {ps : Value} {L : List Scr} (h : Inv n0 w pb N ps L) {i : Nat} {s s' : Scr} (hi : L[i]? = some s) (hx : s'.x = s.x) (hc : s'.c = s.c) (hs : w.heap.size ≤ w'.heap.size) (hlaw : KeptLaw w w')
    (hoth : ∀ (j : Nat) (t : Scr), L[j]? = some t → i ≠ j → ∀ g, t.own g → w'.heap[g]? = w.heap[g]?) (hok : ScrOk w' n0 s') (hnew : ∀ g, s'.own g → s.own g ∨ w.heap.size ≤ g) : Inv n0 w' pb N ps (L.set i s') := by
  obtain ⟨pc, cv, xs, hb, hp, hcv⟩ := h.play
  have hil : i < L.length := (List.getElem?_eq_some_iff.1 hi).1
  refine ⟨⟨pc, cv, xs, hb.keep hlaw, hp, hcv⟩, h.lo, ?_, fun t ht => ?_, fun a b t u ha hb' hab g hg => ?_⟩
  · rw [List.length_set, cells_set L i s s' hi hx hc]
    refine own_keep h.row fun g hg => ?_
    obtain ⟨cur, hc⟩ := own_type h.row hg
    exact hlaw g cur _ (by unfold Law; simp) hc
  · obtain ⟨j, hj⟩ := List.mem_iff_getElem?.1 ht
    rw [List.getElem?_set] at hj
    by_cases e : i = j
    · rw [if_pos e, if_pos (by omega)] at hj
      injection hj with hj
      subst hj
      exact hok
    · rw [if_neg e] at hj
      exact (h.scr t (List.mem_iff_getElem?.2 ⟨j, hj⟩)).keep hs (hoth j t hj e)
  · rw [List.getElem?_set] at ha hb'
    have key : ∀ (j : Nat) (q : Scr), L[j]? = some q → i ≠ j → ∀ g, s'.own g → ¬ q.own g := fun j q hj e g h1 h2 => by
      rcases hnew g h1 with h3 | h3
      · exact h.apart i j s q hi hj e g h3 h2
      · have := ((h.scr q (List.mem_iff_getElem?.2 ⟨j, hj⟩)).own g h2).2.1
        omega
    by_cases ea : i = a
    · rw [if_pos ea, if_pos (by omega)] at ha
      injection ha with ha
      subst ha
      rw [if_neg (by omega)] at hb'
      exact key b u hb' (by omega) g hg
    · rw [if_neg ea] at ha
      by_cases eb : i = b
      · rw [if_pos eb, if_pos (by omega)] at hb'
        injection hb' with hb'
        subst hb'
        exact fun h2 => key a t ha ea g h2 hg
      · rw [if_neg eb] at hb'
        exact h.apart a b t u ha hb' hab g hg

/-- What a screen is, when its calls begin. -/
theorem Inv.pane {n0 : Nat} {w w1 : World} {pb N : Nat} {ps : Value} {L : List Scr} (h : Inv n0 w pb N ps L) {i : Nat} {s : Scr} (hi : L[i]? = some s) (hb : Below w.heap.size w w1) : FullOk w1 s.A s.x s.st ∧ Fine s.st := by
  have ok := h.scr s (List.mem_iff_getElem?.2 ⟨i, hi⟩)
  exact ⟨ok.pan.keep fun g hg hl => hb.block g hl, ok.fine⟩

theorem Inv.ref {n0 : Nat} {w w1 w2 : World} {pb N : Nat} {ps : Value} {L : List Scr} (h : Inv n0 w pb N ps L) {i : Nat} {s : Scr} (hi : L[i]? = some s) (hb : Below w.heap.size w w1) (oP : Only s.A w1 w2) : RefOk w2 s.B s.c s.st ∧ ∀ g, s.B g → g < w2.heap.size := by
  have ok := h.scr s (List.mem_iff_getElem?.2 ⟨i, hi⟩)
  have h1 := hb.size
  have h2 := oP.size
  exact ⟨ok.ref.keep fun g hg hl => (oP.block g (by omega) fun ha => ok.ab g ha hg).trans (hb.block g hl), fun g hg => by have := (ok.own g (.inr hg)).2.1; omega⟩

/-- Both sides have been called. -/
theorem Inv.both {n0 : Nat} {w w1 w2 w3 w4 : World} {pb N : Nat} {ps : Value} {L : List Scr} (h : Inv n0 w pb N ps L) {i : Nat} {s : Scr} {st' : St} (hi : L[i]? = some s) (hb : Below w.heap.size w w1) (hP : FullOk w2 (grow s.A w1 w2) s.x st') (oP : Only s.A w1 w2) (hR : RefOk w3 (grow s.B w2 w3) s.c st') (oR : Only s.B w2 w3) (hf : Fine st') (o4 : Only (fun g => w.heap.size ≤ g ∧ g < w1.heap.size) w3 w4) :
    Inv n0 w4 pb N ps (L.set i ⟨s.x, s.c, st', RS (grow s.A w1 w2) w4, RS (grow s.B w2 w3) w4⟩) ∧ KeptLaw w w4 ∧ Only (fun g => n0 ≤ g) w w4 := by
  have ok := h.scr s (List.mem_iff_getElem?.2 ⟨i, hi⟩)
  have hn := h.size
  have h1 := hb.size
  have h2 := oP.size
  have h3 := oR.size
  have h4 := o4.size
  have step : ∀ g, g < w.heap.size → ¬ s.own g → w4.heap[g]? = w.heap[g]? := fun g hg hs =>
    (o4.block g (by omega) (by omega)).trans ((oR.block g (by omega) fun hh => hs (.inr hh)).trans ((oP.block g (by omega) fun hh => hs (.inl hh)).trans (hb.block g hg)))
  have law : KeptLaw w w4 := fun g cur t ht hg => step g (Array.getElem?_eq_some_iff.1 hg).1 fun hs => (ok.own g hs).2.2 cur t ht hg
  have onA : ∀ g, s.A g → n0 ≤ g ∧ g < w.heap.size := fun g hg => ⟨(ok.own g (.inl hg)).1, (ok.own g (.inl hg)).2.1⟩
  have onB : ∀ g, s.B g → n0 ≤ g ∧ g < w.heap.size := fun g hg => ⟨(ok.own g (.inr hg)).1, (ok.own g (.inr hg)).2.1⟩
  refine ⟨h.swap hi rfl rfl (by omega) law (fun j t hj hne g hg => step g ((h.scr t (List.mem_iff_getElem?.2 ⟨j, hj⟩)).own g hg).2.1 fun hs => h.apart i j s t hi hj hne g hs hg) ⟨?_, ?_, hf, fun g hg => ?_, fun g ha hbb => ?_⟩ fun g hg => ?_, law, ⟨?_, ?_, ?_, by omega, fun g hg hs => step g hg fun hh => hs (ok.own g hh).1⟩⟩
  · refine (hP.keep fun g hg hl => ?_).rs
    have hlt : g < w3.heap.size := by omega
    rcases hg with hg | hg
    · have := (onA g hg).2
      exact (o4.block g hlt (by omega)).trans (oR.block g hl fun hh => ok.ab g hg hh)
    · exact (o4.block g hlt (by omega)).trans (oR.block g hl fun hh => by have := (onB g hh).2; omega)
  · refine (hR.keep fun g hg hl => ?_).rs
    rcases hg with hg | hg
    · have := (onB g hg).2
      exact o4.block g hl (by omega)
    · exact o4.block g hl (by omega)
  · rcases hg with ⟨hg | hg, hl, hnl⟩ | ⟨hg | hg, hl, hnl⟩
    · exact ⟨(onA g hg).1, hl, hnl⟩
    · exact ⟨by omega, hl, hnl⟩
    · exact ⟨(onB g hg).1, hl, hnl⟩
    · exact ⟨by omega, hl, hnl⟩
  · rcases ha with ⟨ha | ha, _⟩
    · rcases hbb with ⟨hbb | hbb, _⟩
      · exact ok.ab g ha hbb
      · have := (onA g ha).2; omega
    · rcases hbb with ⟨hbb | hbb, _⟩
      · have := (onB g hbb).2; omega
      · omega
  · rcases hg with ⟨hg | hg, _⟩ | ⟨hg | hg, _⟩
    · exact .inl (.inl hg)
    · exact .inr (by omega)
    · exact .inl (.inr hg)
    · exact .inr (by omega)
  · exact o4.os.trans (oR.os.trans (oP.os.trans hb.os))
  · exact o4.tape.trans (oR.tape.trans (oP.tape.trans hb.tape))
  · exact o4.output.trans (oR.output.trans (oP.output.trans hb.output))

end Go.Proofs.YtofinpocigbbeaaGreat

/-! Plz -/
namespace Go.Proofs.YtofinpocigbbeaaGreat
open Go.RowKit

/-- A list of views has come out, and is its owner's. -/
theorem Inv.viewed {n0 : Nat} {w w3 w4 : World} {pb N : Nat} {ps : Value} {L : List Scr} (h : Inv n0 w pb N ps L) {pc : Array Value} {cv cv' : Value} {xs xs' : List Value} (hbk : BookO w pb N pc cv xs) (hp : pc[0]? = some ps) (hcv : ∀ g, cv.ownBlock = some g → n0 ≤ g) (hb : Below w.heap.size w w3)
    (h4 : BookO w4 pb (N + 1) (pc.setIfInBounds 3 cv') cv' xs') (hcv' : cv'.ownBlock = cv.ownBlock ∨ ∃ g, cv'.ownBlock = some g ∧ w.heap.size ≤ g) (o : Only (fun g => g = pb ∨ cv.ownBlock = some g ∨ w.heap.size ≤ g) w3 w4) :
    Inv n0 w4 pb (N + 1) ps L ∧ (∀ (g : Nat) (cur : Array Value) (t : TypeId), t = 72 ∨ t = 105 → w.heap[g]? = some (.cells cur t (0, 0)) → w4.heap[g]? = w.heap[g]?) ∧ Only (fun g => n0 ≤ g) w w4 := by
  have hn := h.size
  have hs3 := hb.size
  have hs4 := o.size
  have step : ∀ g, g < w.heap.size → g ≠ pb → cv.ownBlock ≠ some g → w4.heap[g]? = w.heap[g]? := fun g hg h1 h2 =>
    (o.block g (by omega) (by rintro (hh | hh | hh); exact h1 hh; exact h2 hh; omega)).trans (hb.block g hg)
  have other : ∀ (g : Nat) (cur : Array Value) (t : TypeId), w.heap[g]? = some (.cells cur t (0, 0)) → t ≠ 69 → t ≠ 113 → w4.heap[g]? = w.heap[g]? := fun g cur t hg t1 t2 => by
    refine step g (Array.getElem?_eq_some_iff.1 hg).1 (fun e => ?_) fun e => ?_
    · subst e
      rw [hbk.blk] at hg
      injection hg with hg
      injection hg with _ hg
      exact t1 hg.symm
    · obtain ⟨c2, hc2⟩ := own_type hbk.row e
      rw [hc2] at hg
      injection hg with hg
      injection hg with _ hg
      exact t2 hg.symm
  have scr : ∀ s ∈ L, ∀ g, s.own g → w4.heap[g]? = w.heap[g]? := fun s hs g hg => by
    obtain ⟨_, q2, q3⟩ := (h.scr s hs).own g hg
    refine step g q2 (fun e => ?_) fun e => ?_
    · subst e
      exact q3 _ _ (by unfold Law; simp) hbk.blk
    · obtain ⟨c2, hc2⟩ := own_type hbk.row e
      exact q3 _ _ (by unfold Law; simp) hc2
  refine ⟨⟨⟨_, _, _, h4, ?_, fun g hg => ?_⟩, h.lo, own_keep h.row fun g hg => ?_, fun s hs => (h.scr s hs).keep (by omega) (scr s hs), h.apart⟩, fun g cur t ht hg => other g cur t hg (by rcases ht with rfl | rfl <;> decide) (by rcases ht with rfl | rfl <;> decide), ⟨o.os.trans hb.os, o.tape.trans hb.tape, o.output.trans hb.output, by omega, fun g hg hs => step g hg (fun e => hs (e ▸ h.lo)) fun e => hs (hcv g e)⟩⟩
  · rw [Array.getElem?_setIfInBounds_ne (by omega)]
    exact hp
  · rcases hcv' with e | ⟨g', e, hg'⟩
    · rw [e] at hg
      exact hcv g hg
    · rw [e] at hg
      injection hg with hg
      omega
  · obtain ⟨cur, hc⟩ := own_type h.row hg
    exact other g cur _ hc (by decide) (by decide)

/-- A screen more. -/
theorem Inv.opened {n0 : Nat} {w w1 w2 w3 w4 : World} {pb N : Nat} {ps ps' : Value} {L : List Scr} (h : Inv n0 w pb N ps L) {x c : Nat} {st : St} (hb1 : Below w.heap.size w w1) (hP : FullOk w1 (fun g => w.heap.size ≤ g ∧ g < w1.heap.size) x st) (hb2 : Below w1.heap.size w1 w2) (hR : RefOk w2 (fun g => w1.heap.size ≤ g ∧ g < w2.heap.size) c st) (hf : Fine st)
    (hb3 : Below w2.heap.size w2 w3) (hg4 : w3.grownBy w4 ps.ownBlock) (hr4 : w4.ownsRow n0 105 2 ps' (L.length + 1) (L.flatMap Scr.cells ++ [ptrV x, ptrV c])) :
    ∃ L', L'.length = L.length + 1 ∧ Inv n0 (w4.setCell ⟨pb, 0, none⟩ ps') pb N ps' L' ∧ (∀ (g : Nat) (cur : Array Value), w.heap[g]? = some (.cells cur 72 (0, 0)) → (w4.setCell ⟨pb, 0, none⟩ ps').heap[g]? = w.heap[g]?) ∧ Only (fun g => n0 ≤ g) w (w4.setCell ⟨pb, 0, none⟩ ps') := by
  obtain ⟨pc, cv, xs, hbk, hp, hcv⟩ := h.play
  have hn := h.size
  have hs1 := hb1.size
  have hs2 := hb2.size
  have hs3 := hb3.size
  have hs4 := hg4.size
  have hpl := block_lt hbk.blk
  have to3 : ∀ g, g < w.heap.size → w3.heap[g]? = w.heap[g]? := fun g hg => (hb3.block g (by omega)).trans ((hb2.block g (by omega)).trans (hb1.block g hg))
  have to4 : ∀ g, g < w.heap.size → ps.ownBlock ≠ some g → w4.heap[g]? = w.heap[g]? := fun g hg hne => (hg4.block g (by omega) (fun e => hne e.symm)).trans (to3 g hg)
  have step : ∀ g, g < w.heap.size → g ≠ pb → ps.ownBlock ≠ some g → (w4.setCell ⟨pb, 0, none⟩ ps').heap[g]? = w.heap[g]? := fun g hg h1 h2 => (heap_setCell_other w4 ⟨pb, 0, none⟩ g ps' h1).trans (to4 g hg h2)
  have psT : ∀ (g : Nat) (cur : Array Value) (t : TypeId), w.heap[g]? = some (.cells cur t (0, 0)) → t ≠ 105 → ps.ownBlock ≠ some g := fun g cur t hg ht e => by
    obtain ⟨c2, hc2⟩ := own_type h.row e
    rw [hc2] at hg
    injection hg with hg
    injection hg with _ hg
    exact ht hg.symm
  have other : ∀ (g : Nat) (cur : Array Value) (t : TypeId), w.heap[g]? = some (.cells cur t (0, 0)) → t ≠ 69 → t ≠ 105 → (w4.setCell ⟨pb, 0, none⟩ ps').heap[g]? = w.heap[g]? := fun g cur t hg t1 t2 =>
    step g (Array.getElem?_eq_some_iff.1 hg).1 (fun e => by
      subst e
      rw [hbk.blk] at hg
      injection hg with hg
      injection hg with _ hg
      exact t1 hg.symm) (psT g cur t hg t2)
  have hpb4 : w4.heap[pb]? = some (.cells pc 69 (0, 0)) := (to4 pb hpl (psT pb _ _ hbk.blk (by decide))).trans hbk.blk
  have new : ∀ g, w.heap.size ≤ g → g < w3.heap.size → (w4.setCell ⟨pb, 0, none⟩ ps').heap[g]? = w3.heap[g]? := fun g h1 h2 => (heap_setCell_other w4 ⟨pb, 0, none⟩ g ps' (by show g ≠ pb; omega)).trans (hg4.block g h2 fun e => by
    have := (h.row.lt g e.symm).2
    omega)
  have hscr : ∀ s ∈ L, ∀ g, s.own g → (w4.setCell ⟨pb, 0, none⟩ ps').heap[g]? = w.heap[g]? := fun s hs g hg => by
    obtain ⟨_, q2, q3⟩ := (h.scr s hs).own g hg
    refine step g q2 (fun e => ?_) fun e => ?_
    · subst e
      exact q3 _ _ (by unfold Law; simp) hbk.blk
    · obtain ⟨c2, hc2⟩ := own_type h.row e
      exact q3 _ _ (by unfold Law; simp) hc2
  have hPz : FullOk (w4.setCell ⟨pb, 0, none⟩ ps') (RS (fun g => w.heap.size ≤ g ∧ g < w1.heap.size) (w4.setCell ⟨pb, 0, none⟩ ps')) x st := (hP.keep fun g hg hl => (new g hg.1 (by omega)).trans ((hb3.block g (by omega)).trans (hb2.block g hl))).rs
  have hRz : RefOk (w4.setCell ⟨pb, 0, none⟩ ps') (RS (fun g => w1.heap.size ≤ g ∧ g < w2.heap.size) (w4.setCell ⟨pb, 0, none⟩ ps')) c st := (hR.keep fun g hg hl => (new g (by omega) (by omega)).trans (hb3.block g hl)).rs
  have hsz : w.heap.size ≤ (w4.setCell ⟨pb, 0, none⟩ ps').heap.size := by simp; omega
  refine ⟨L ++ [⟨x, c, st, RS (fun g => w.heap.size ≤ g ∧ g < w1.heap.size) (w4.setCell ⟨pb, 0, none⟩ ps'), RS (fun g => w1.heap.size ≤ g ∧ g < w2.heap.size) (w4.setCell ⟨pb, 0, none⟩ ps')⟩], by simp, ⟨⟨pc.setIfInBounds 0 ps', cv, xs, ⟨?_, ?_, ?_, ?_, ?_, fun i hi => ?_⟩, ?_, hcv⟩, h.lo, ?_, fun s hs => ?_, fun i j s t hi hj hij g hg => ?_⟩, fun g cur hg => other g cur _ hg (by decide) (by decide), ⟨?_, ?_, ?_, hsz, fun g hg hs => step g hg (fun e => hs (e ▸ h.lo)) fun e => hs (h.row.lt g e).1⟩⟩
  · exact heap_setCell_same w4 pb 0 pc _ ps' hpb4
  · rw [Array.getElem?_setIfInBounds_ne (by omega)]; exact hbk.p1
  · rw [Array.getElem?_setIfInBounds_ne (by omega)]; exact hbk.p2
  · rw [Array.getElem?_setIfInBounds_ne (by omega)]; exact hbk.p3
  · refine own_keep hbk.row fun g hg => ?_
    obtain ⟨cur, hc⟩ := own_type hbk.row hg
    exact other g cur _ hc (by decide) (by decide)
  · obtain ⟨v, h1, h2⟩ := hbk.all i hi
    refine ⟨v, h1, h2.keep fun b cur t ht hb => other b cur t hb ?_ ?_⟩
    · rcases ht with rfl | rfl <;> decide
    · rcases ht with rfl | rfl <;> decide
  · have : 0 < pc.size := (Array.getElem?_eq_some_iff.1 hp).1
    rw [Array.getElem?_setIfInBounds_self_of_lt this]
  · rw [List.length_append, List.flatMap_append]
    refine own_keep hr4 fun g hg => heap_setCell_other w4 ⟨pb, 0, none⟩ g ps' fun e => ?_
    obtain ⟨cur, hc⟩ := own_type hr4 hg
    have e' : g = pb := e
    subst e'
    rw [hpb4] at hc
    injection hc with hc
    injection hc with _ hc
    exact absurd hc (by decide)
  · rcases List.mem_append.1 hs with hs | hs
    · exact (h.scr s hs).keep hsz (hscr s hs)
    · rw [List.mem_singleton] at hs
      subst hs
      refine ⟨hPz, hRz, hf, fun g hg => ?_, fun g ha hb => ?_⟩
      · rcases hg with ⟨q1, q2, q3⟩ | ⟨q1, q2, q3⟩
        · exact ⟨by omega, q2, q3⟩
        · exact ⟨by omega, q2, q3⟩
      · have h1 := ha.1
        have h2 := hb.1
        simp only at h1 h2
        omega
  · have fresh : ∀ (k : Nat) (q : Scr), L[k]? = some q → ∀ g, (w.heap.size ≤ g) → ¬ q.own g := fun k q hk g hg hq => by
      have := ((h.scr q (List.mem_iff_getElem?.2 ⟨k, hk⟩)).own g hq).2.1
      omega
    have lastOwn : ∀ g, Scr.own ⟨x, c, st, RS (fun g => w.heap.size ≤ g ∧ g < w1.heap.size) (w4.setCell ⟨pb, 0, none⟩ ps'), RS (fun g => w1.heap.size ≤ g ∧ g < w2.heap.size) (w4.setCell ⟨pb, 0, none⟩ ps')⟩ g → w.heap.size ≤ g := fun g hg => by
      rcases hg with ⟨q1, _⟩ | ⟨q1, _⟩
      · exact q1.1
      · have := q1.1; omega
    rw [List.getElem?_append] at hi hj
    by_cases ei : i < L.length
    · rw [if_pos ei] at hi
      by_cases ej : j < L.length
      · rw [if_pos ej] at hj
        exact h.apart i j s t hi hj hij g hg
      · rw [if_neg ej] at hj
        obtain ⟨_, hj⟩ := List.getElem?_eq_some_iff.1 hj
        rw [List.getElem_singleton] at hj
        subst hj
        exact fun hh => fresh i s hi g (lastOwn g hh) hg
    · rw [if_neg ei] at hi
      have hil := (List.getElem?_eq_some_iff.1 hi).1
      obtain ⟨_, hi⟩ := List.getElem?_eq_some_iff.1 hi
      rw [List.getElem_singleton] at hi
      subst hi
      by_cases ej : j < L.length
      · rw [if_pos ej] at hj
        exact fresh j t hj g (lastOwn g hg)
      · rw [if_neg ej] at hj
        have hjl := (List.getElem?_eq_some_iff.1 hj).1
        simp at hil hjl
        omega
  · exact hg4.os.trans (hb3.os.trans (hb2.os.trans hb1.os))
  · exact hg4.tape.trans (hb3.tape.trans (hb2.tape.trans hb1.tape))
  · exact hg4.output.trans (hb3.output.trans (hb2.output.trans hb1.output))

end Go.Proofs.YtofinpocigbbeaaGreat

/-! Fne -/
namespace Go.Proofs.YtofinpocigbbeaaGreat
open Go.RowKit

/-! ### What is so between calls stays so -/

theorem Fine.new {W H : Int} (hW : 1 ≤ W ∧ W ≤ 24) (hH : 1 ≤ H ∧ H ≤ 24) : Fine ⟨W, H, [], []⟩ := by
  have e : ∀ i, St.sf ⟨W, H, [], []⟩ i = sf0 := fun i => rfl
  refine ⟨⟨fun i => ?_, List.nodup_nil, fun i => ?_, fun i hi => (by cases hi), (by simp), (by simp), hW, hH, fun i => ?_⟩, fun i hi => (by cases hi)⟩
  · rw [e]
    unfold sf0
    simp
    omega
  · simp
  · rw [e]
    exact ⟨look0_ok, look0_ok⟩

theorem fine_make {st : St} (h : Fine st) (p : Int) : Fine (opMake st p).2.2 := by
  unfold opMake
  split
  · rename_i hp
    split
    · rename_i hl
      refine h.make (hp.imp id fun hb => ?_) hl.1 hl.2
      exact (isB_iff h.wf p).1 hb
    · exact h
  · exact h

theorem fine_destroy {st : St} (h : Fine st) (id : Int) : Fine (opDestroy st id).2 := by
  unfold opDestroy
  split
  · exact h.rm _
  · exact h

theorem isB_lt {st : St} (h : Fine st) {id : Int} (hb : st.isB id = true) : id.toNat ∈ st.order ∧ id.toNat < st.sfs.length ∧ id = (id.toNat : Int) := by
  obtain ⟨i, rfl, hi⟩ := (isB_iff h.wf id).1 hb
  exact ⟨by simpa using hi, by simpa using h.wf.lt hi, by simp⟩

theorem fine_commit {st : St} (h : Fine st) (id : Int) : Fine (opCommit st id).2 := by
  unfold opCommit
  split
  · rename_i hb
    exact h.cm (isB_lt h hb).1
  · exact h

theorem fine_offset {st : St} (h : Fine st) (id x y : Int) : Fine (opOffset st id x y).2 := by
  unfold opOffset
  split
  · rename_i hb
    split
    · rename_i hx
      have q := (h.wf.lk id.toNat).2
      exact h.upd (isB_lt h hb).2.1 (fun _ => rfl) (fun _ => rfl) ⟨(h.wf.lk _).1, ⟨q.w, q.h, ⟨hx.1, hx.2.1⟩, ⟨hx.2.2.1, hx.2.2.2⟩, q.c0, q.c1, q.c2, q.c3, q.pix⟩⟩ (fun _ => ⟨rfl, rfl⟩)
    · exact h
  · exact h

theorem fine_clip {st : St} (h : Fine st) (id : Int) (r : R4) : Fine (opClip st id r (fitR r)).2 := by
  unfold opClip
  split
  · rename_i hb
    split
    · rename_i hx
      unfold fitR at hx
      have hx := of_decide_eq_true hx
      have q := (h.wf.lk id.toNat).2
      refine h.upd (isB_lt h hb).2.1 (fun _ => rfl) (fun _ => rfl) ⟨(h.wf.lk _).1, ⟨q.w, q.h, q.x, q.y, ?_, ?_, ?_, ?_, q.pix⟩⟩ (fun _ => ⟨rfl, rfl⟩) <;> (simp only [sfClip]; omega)
    · exact h
  · exact h

theorem fine_unclip {st : St} (h : Fine st) (id : Int) : Fine (opUnclip st id).2 := by
  unfold opUnclip
  split
  · rename_i hb
    have q := (h.wf.lk id.toNat).2
    refine h.upd (isB_lt h hb).2.1 (fun _ => rfl) (fun _ => rfl) ⟨(h.wf.lk _).1, ⟨q.w, q.h, q.x, q.y, ?_, ?_, ?_, ?_, q.pix⟩⟩ (fun _ => ⟨rfl, rfl⟩) <;> simp [sfUnclip]
  · exact h

def ByteL (l : List R4) : Prop := ∀ r ∈ l, (0 ≤ r.1 ∧ 0 ≤ r.2.1 ∧ 0 ≤ r.2.2.1 ∧ r.2.2.2 ≤ 255)

theorem fine_attach {st : St} (h : Fine st) (id a b : Int) (l : List R4) (hl : ByteL l) : Fine (opAttach st id a b l.length (l.all fitP) fun k => l.getD k (0, 0, 0, 0)).2 := by
  unfold opAttach
  split
  · rename_i hb
    split
    · rename_i hx
      split
      · rename_i hy
        have q := (h.wf.lk id.toNat).2
        refine h.upd (isB_lt h hb).2.1 (fun _ => rfl) (fun _ => rfl) ⟨(h.wf.lk _).1, ⟨⟨hx.1, hx.2.1⟩, ⟨hx.2.2.1, hx.2.2.2⟩, q.x, q.y, q.c0, q.c1, q.c2, q.c3, fun k hk => ?_⟩⟩ (fun _ => ⟨rfl, rfl⟩)
        have hk2 : k < l.length := by
          have e : ((k : Int)) < a * b := hk
          have := hy.1
          omega
        show PixOk (l.getD k (0, 0, 0, 0))
        rw [List.getD_eq_getElem?_getD, List.getElem?_eq_getElem hk2]
        have h1 := hl _ (List.getElem_mem hk2)
        have h2 := List.all_eq_true.1 hy.2 _ (List.getElem_mem hk2)
        unfold fitP fitB at h2
        have h2 := of_decide_eq_true h2
        simp only [Option.getD_some]
        unfold PixOk
        omega
      · exact h
    · exact h
  · exact h

theorem fine_stack {st : St} (h : Fine st) (id sb : Int) (b : Bool) : Fine (opStack st id sb b).2 := by
  unfold opStack
  split
  · rename_i hb
    split
    · rename_i hx
      obtain ⟨_, h2, h3⟩ := isB_lt h hb.1
      obtain ⟨g1, _, g3⟩ := isB_lt h hb.2
      have := h.stack h2 g1 (by omega) hx.2 b
      rw [← g3] at this
      exact this
    · exact h
  · exact h

theorem fine_hint {st : St} (h : Fine st) (id : Int) (n : Nat) (ok : Bool) (f : Int → Int → Bool) : Fine (opOpaque st id n ok f).2 := by
  unfold opOpaque
  split
  · rename_i hb
    split
    · exact h
    · split
      · have q := (h.wf.lk id.toNat).2
        exact h.upd (isB_lt h hb).2.1 (fun _ => rfl) (fun _ => rfl) ⟨(h.wf.lk _).1, ⟨q.w, q.h, q.x, q.y, q.c0, q.c1, q.c2, q.c3, q.pix⟩⟩ (fun _ => ⟨rfl, rfl⟩)
      · exact h
  · exact h

end Go.Proofs.YtofinpocigbbeaaGreat

/-! Fin -/
namespace Go.Proofs.YtofinpocigbbeaaGreat

end Go.Proofs.YtofinpocigbbeaaGreat

/-! AskA -/
namespace Go.Proofs.YtofinpocigbbeaaGreat
open Go.RowKit
attribute [local go_sem ↓] Go.wp_at_zero Go.wp_at_succ

def pairV (s : Scr) : Value := .agg #[.pointer (some ⟨s.x, 0, none⟩), .pointer (some ⟨s.c, 0, none⟩)]

/-- An Op, as its cells. -/
def opCells (k s a b c : Int) (y : Bool) (r : R4) (lv mv pv : Value) : Array Value := #[.int .i64 k, .int .i64 s, .int .i64 a, .int .i64 b, .int .i64 c, .bool y, .int .i64 r.1, .int .i64 r.2.1, .int .i64 r.2.2.1, .int .i64 r.2.2.2, lv, mv, pv]

/-- What a step leaves. -/
def StepPost (n0 : Nat) (pb N : Nat) (ps : Value) (L : List Scr) (w : World) (e : Ending) (w' : World) : Prop :=
  e = .returned (.bool true) ∧ (∃ L' N', L'.length = L.length ∧ N' ≤ N + 1 ∧ Inv n0 w' pb N' ps L') ∧ (∀ (g : Nat) (cur : Array Value) (t : TypeId), t = 72 ∨ t = 105 → w.heap[g]? = some (.cells cur t (0, 0)) → w'.heap[g]? = w.heap[g]?) ∧ Only (fun g => n0 ≤ g) w w'

/-- The two boxes that a step lays down stay, behind a call on the screen. -/
theorem boxes_stay {w W : World} {S : Nat → Prop} {o1 o2 : Obj} (hS : ∀ g, S g → g < w.heap.size) (h : Only S ((w.alloc o1).alloc o2) W) : W.heap[w.heap.size]? = some o1 ∧ W.heap[w.heap.size + 1]? = some o2 := by
  have e1 : ((w.alloc o1).alloc o2).heap[w.heap.size]? = some o1 := by
    rw [heap_old (w.alloc o1) o2 w.heap.size (by simp)]
    exact heap_alloc_new w o1
  have e2 : ((w.alloc o1).alloc o2).heap[w.heap.size + 1]? = some o2 := by
    have := heap_alloc_new (w.alloc o1) o2
    simpa using this
  exact ⟨(h.block _ (by simp; omega) fun hh => by have := hS _ hh; omega).trans e1, (h.block _ (by simp) fun hh => by have := hS _ hh; omega).trans e2⟩

theorem Inv.inA {n0 : Nat} {w : World} {pb N : Nat} {ps : Value} {L : List Scr} (h : Inv n0 w pb N ps L) {i : Nat} {s : Scr} (hi : L[i]? = some s) : (∀ g, s.A g → g < w.heap.size) ∧ ∀ g, s.B g → g < w.heap.size := by
  have ok := h.scr s (List.mem_iff_getElem?.2 ⟨i, hi⟩)
  exact ⟨fun g hg => (ok.own g (.inl hg)).2.1, fun g hg => (ok.own g (.inr hg)).2.1⟩

theorem Inv.done {n0 : Nat} {w w1 w2 w3 w4 : World} {pb N : Nat} {ps : Value} {L : List Scr} (h : Inv n0 w pb N ps L) {i : Nat} {s : Scr} {st' : St} (hi : L[i]? = some s) (hb : Below w.heap.size w w1) (hP : FullOk w2 (grow s.A w1 w2) s.x st') (oP : Only s.A w1 w2) (hR : RefOk w3 (grow s.B w2 w3) s.c st') (oR : Only s.B w2 w3) (hf : Fine st') (o4 : Only (fun g => w.heap.size ≤ g ∧ g < w1.heap.size) w3 w4) :
    StepPost n0 pb N ps L w (.returned (.bool true)) w4 := by
  obtain ⟨h1, h2, h3⟩ := h.both hi hb hP oP hR oR hf o4
  exact ⟨rfl, ⟨_, N, by rw [List.length_set], by omega, h1⟩, fun g cur t ht hg => h2 g cur t (by unfold Law; rcases ht with rfl | rfl <;> simp) hg, h3⟩

set_option maxRecDepth 100000 in
set_option maxHeartbeats 1000000 in
/-- asked: Offset -/
theorem asked_offset {n0 : Nat} {w : World} {pb N : Nat} {ps : Value} {L : List Scr} (h : Inv n0 w pb N ps L) {i : Nat} {s : Scr} (hi : L[i]? = some s) (k a b c : Int) (y : Bool) (r : R4) (lv mv pv : Value) :
    Calls Tryz.prog 96 #[pairV s, .agg (opCells 5 k a b c y r lv mv pv)] w (StepPost n0 pb N ps L w) := by
  obtain ⟨er, st', ho⟩ : ∃ er st', opOffset s.st a b c = (er, st') := ⟨_, _, rfl⟩
  have hf : Fine st' := by
    have := fine_offset (h.pane hi (Below.refl _ _)).2 a b c
    rw [ho] at this
    exact this
  have HP : Hid (∀ W, Below w.heap.size w W → Calls Tryz.prog 29 #[.pointer (some ⟨s.x, 0, none⟩), .int .i64 a, .int .i64 b, .int .i64 c] W (FOk s.A s.x (er, st') W)) := fun W hW => by
    have := foOffset_any (h.pane hi hW).2.wf a b c W (h.pane hi hW).1
    rw [ho] at this
    exact this
  have HR : Hid (∀ W1 W, Below w.heap.size w W1 → Only s.A W1 W → Calls Tryz.prog 144 #[.pointer (some ⟨s.c, 0, none⟩), .int .i64 a, .int .i64 b, .int .i64 c] W (RPost s.B s.c (er, st') W)) := fun W1 W hW1 hW => by
    have := refOffset_any (h.pane hi hW1).2.wf a b c W (h.ref hi hW1 hW).1
    rw [ho] at this
    exact this
  have HIn := hide (h.inA hi)
  have HI := hide (And.intro h (And.intro hi hf))
  clear h hi hf ho
  unfold pairV opCells
  obtain ⟨post, hpost⟩ : ∃ P, P = StepPost n0 pb N ps L w := ⟨_, rfl⟩
  rw [← hpost]
  have HPo := hide hpost
  clear hpost
  go_enter Tryz.func96, Tryz.ntmps96
  go_wp2_with (first
    | (go_at_call 29; refine (HP.out _ (al2 (Nat.le_refl _) _ _)).mono ?_; rintro e w2 ⟨rfl, hP, oP⟩; obtain ⟨b1, b2⟩ := boxes_stay HIn.out.1 oP; have c1 := cell_of_row w2 _ 1 _ _ _ b1; have c2 := cell_of_row w2 _ 2 _ _ _ b2; have c3 := cell_of_row w2 _ 3 _ _ _ b2; have c4 := cell_of_row w2 _ 4 _ _ _ b2; simp only [List.getElem?_toArray, List.getElem?_cons_zero, List.getElem?_cons_succ] at c1 c2 c3 c4; have H2 := hide (And.intro hP oP); clear hP oP b1 b2)
    | (go_at_call 144; refine (HR.out _ _ (al2 (Nat.le_refl _) _ _) H2.out.2).mono ?_; rintro e w3 ⟨rfl, hR, oR⟩; have H3 := hide (And.intro hR oR); clear hR oR))
  try go_ret
  rw [HPo.out]
  exact HI.out.1.done HI.out.2.1 (al2 (Nat.le_refl _) _ _) H2.out.1 H2.out.2 H3.out.1 H3.out.2 HI.out.2.2 (Only.refl _ _)

set_option maxRecDepth 100000 in
set_option maxHeartbeats 1000000 in
/-- asked: Clip -/
theorem asked_clip {n0 : Nat} {w : World} {pb N : Nat} {ps : Value} {L : List Scr} (h : Inv n0 w pb N ps L) {i : Nat} {s : Scr} (hi : L[i]? = some s) (k a b c : Int) (y : Bool) (r : R4) (lv mv pv : Value) :
    Calls Tryz.prog 96 #[pairV s, .agg (opCells 6 k a b c y r lv mv pv)] w (StepPost n0 pb N ps L w) := by
  obtain ⟨er, st', ho⟩ : ∃ er st', opClip s.st a (r.1, r.2.1, r.2.2.1, r.2.2.2) (fitR (r.1, r.2.1, r.2.2.1, r.2.2.2)) = (er, st') := ⟨_, _, rfl⟩
  have hf : Fine st' := by
    have := fine_clip (h.pane hi (Below.refl _ _)).2 a (r.1, r.2.1, r.2.2.1, r.2.2.2)
    rw [ho] at this
    exact this
  have HP : Hid (∀ W, Below w.heap.size w W → Calls Tryz.prog 35 #[.pointer (some ⟨s.x, 0, none⟩), .int .i64 a, .agg #[.int .i64 r.1, .int .i64 r.2.1, .int .i64 r.2.2.1, .int .i64 r.2.2.2]] W (FOk s.A s.x (er, st') W)) := fun W hW => by
    have := foClip_any (h.pane hi hW).2.wf a r.1 r.2.1 r.2.2.1 r.2.2.2 W (h.pane hi hW).1
    rw [ho] at this
    exact this
  have HR : Hid (∀ W1 W, Below w.heap.size w W1 → Only s.A W1 W → Calls Tryz.prog 145 #[.pointer (some ⟨s.c, 0, none⟩), .int .i64 a, .agg #[.int .i64 r.1, .int .i64 r.2.1, .int .i64 r.2.2.1, .int .i64 r.2.2.2]] W (RPost s.B s.c (er, st') W)) := fun W1 W hW1 hW => by
    have := refClip_any (h.pane hi hW1).2.wf a r.1 r.2.1 r.2.2.1 r.2.2.2 W (h.ref hi hW1 hW).1
    rw [ho] at this
    exact this
  have HIn := hide (h.inA hi)
  have HI := hide (And.intro h (And.intro hi hf))
  clear h hi hf ho
  unfold pairV opCells
  obtain ⟨post, hpost⟩ : ∃ P, P = StepPost n0 pb N ps L w := ⟨_, rfl⟩
  rw [← hpost]
  have HPo := hide hpost
  clear hpost
  go_enter Tryz.func96, Tryz.ntmps96
  go_wp2_with (first
    | (go_at_call 35; refine (HP.out _ (al2 (Nat.le_refl _) _ _)).mono ?_; rintro e w2 ⟨rfl, hP, oP⟩; obtain ⟨b1, b2⟩ := boxes_stay HIn.out.1 oP; have c1 := cell_of_row w2 _ 1 _ _ _ b1; have c2 := cell_of_row w2 _ 2 _ _ _ b2; have c6 := cell_of_row w2 _ 6 _ _ _ b2; have c7 := cell_of_row w2 _ 7 _ _ _ b2; have c8 := cell_of_row w2 _ 8 _ _ _ b2; have c9 := cell_of_row w2 _ 9 _ _ _ b2; simp only [List.getElem?_toArray, List.getElem?_cons_zero, List.getElem?_cons_succ] at c1 c2 c6 c7 c8 c9; have H2 := hide (And.intro hP oP); clear hP oP b1 b2)
    | (go_at_call 145; refine (HR.out _ _ (al2 (Nat.le_refl _) _ _) H2.out.2).mono ?_; rintro e w3 ⟨rfl, hR, oR⟩; have H3 := hide (And.intro hR oR); clear hR oR))
  try go_ret
  rw [HPo.out]
  exact HI.out.1.done HI.out.2.1 (al2 (Nat.le_refl _) _ _) H2.out.1 H2.out.2 H3.out.1 H3.out.2 HI.out.2.2 (Only.refl _ _)

set_option maxRecDepth 100000 in
set_option maxHeartbeats 1000000 in
/-- asked: Unclip -/
theorem asked_unclip {n0 : Nat} {w : World} {pb N : Nat} {ps : Value} {L : List Scr} (h : Inv n0 w pb N ps L) {i : Nat} {s : Scr} (hi : L[i]? = some s) (k a b c : Int) (y : Bool) (r : R4) (lv mv pv : Value) :
    Calls Tryz.prog 96 #[pairV s, .agg (opCells 7 k a b c y r lv mv pv)] w (StepPost n0 pb N ps L w) := by
  obtain ⟨er, st', ho⟩ : ∃ er st', opUnclip s.st a = (er, st') := ⟨_, _, rfl⟩
  have hf : Fine st' := by
    have := fine_unclip (h.pane hi (Below.refl _ _)).2 a
    rw [ho] at this
    exact this
  have HP : Hid (∀ W, Below w.heap.size w W → Calls Tryz.prog 36 #[.pointer (some ⟨s.x, 0, none⟩), .int .i64 a] W (FOk s.A s.x (er, st') W)) := fun W hW => by
    have := foUnclip_any (h.pane hi hW).2.wf a W (h.pane hi hW).1
    rw [ho] at this
    exact this
  have HR : Hid (∀ W1 W, Below w.heap.size w W1 → Only s.A W1 W → Calls Tryz.prog 146 #[.pointer (some ⟨s.c, 0, none⟩), .int .i64 a] W (RPost s.B s.c (er, st') W)) := fun W1 W hW1 hW => by
    have := refUnclip_any (h.pane hi hW1).2.wf a W (h.ref hi hW1 hW).1
    rw [ho] at this
    exact this
  have HIn := hide (h.inA hi)
  have HI := hide (And.intro h (And.intro hi hf))
  clear h hi hf ho
  unfold pairV opCells
  obtain ⟨post, hpost⟩ : ∃ P, P = StepPost n0 pb N ps L w := ⟨_, rfl⟩
  rw [← hpost]
  have HPo := hide hpost
  clear hpost
  go_enter Tryz.func96, Tryz.ntmps96
  go_wp2_with (first
    | (go_at_call 36; refine (HP.out _ (al2 (Nat.le_refl _) _ _)).mono ?_; rintro e w2 ⟨rfl, hP, oP⟩; obtain ⟨b1, b2⟩ := boxes_stay HIn.out.1 oP; have c1 := cell_of_row w2 _ 1 _ _ _ b1; have c2 := cell_of_row w2 _ 2 _ _ _ b2; simp only [List.getElem?_toArray, List.getElem?_cons_zero, List.getElem?_cons_succ] at c1 c2; have H2 := hide (And.intro hP oP); clear hP oP b1 b2)
    | (go_at_call 146; refine (HR.out _ _ (al2 (Nat.le_refl _) _ _) H2.out.2).mono ?_; rintro e w3 ⟨rfl, hR, oR⟩; have H3 := hide (And.intro hR oR); clear hR oR))
  try go_ret
  rw [HPo.out]
  exact HI.out.1.done HI.out.2.1 (al2 (Nat.le_refl _) _ _) H2.out.1 H2.out.2 H3.out.1 H3.out.2 HI.out.2.2 (Only.refl _ _)

set_option maxRecDepth 100000 in
set_option maxHeartbeats 1000000 in
/-- asked: Stack -/
theorem asked_stack {n0 : Nat} {w : World} {pb N : Nat} {ps : Value} {L : List Scr} (h : Inv n0 w pb N ps L) {i : Nat} {s : Scr} (hi : L[i]? = some s) (k a b c : Int) (y : Bool) (r : R4) (lv mv pv : Value) :
    Calls Tryz.prog 96 #[pairV s, .agg (opCells 9 k a b c y r lv mv pv)] w (StepPost n0 pb N ps L w) := by
  obtain ⟨er, st', ho⟩ : ∃ er st', opStack s.st a b y = (er, st') := ⟨_, _, rfl⟩
  have hf : Fine st' := by
    have := fine_stack (h.pane hi (Below.refl _ _)).2 a b y
    rw [ho] at this
    exact this
  have HP : Hid (∀ W, Below w.heap.size w W → Calls Tryz.prog 38 #[.pointer (some ⟨s.x, 0, none⟩), .int .i64 a, .int .i64 b, .bool y] W (FOk s.A s.x (er, st') W)) := fun W hW => by
    have := foStack_any (h.pane hi hW).2.wf a b y W (h.pane hi hW).1
    rw [ho] at this
    exact this
  have HR : Hid (∀ W1 W, Below w.heap.size w W1 → Only s.A W1 W → Calls Tryz.prog 148 #[.pointer (some ⟨s.c, 0, none⟩), .int .i64 a, .int .i64 b, .bool y] W (RPost s.B s.c (er, st') W)) := fun W1 W hW1 hW => by
    have := refStack_any (h.pane hi hW1).2.wf a b y W (h.ref hi hW1 hW).1
    rw [ho] at this
    exact this
  have HIn := hide (h.inA hi)
  have HI := hide (And.intro h (And.intro hi hf))
  clear h hi hf ho
  unfold pairV opCells
  obtain ⟨post, hpost⟩ : ∃ P, P = StepPost n0 pb N ps L w := ⟨_, rfl⟩
  rw [← hpost]
  have HPo := hide hpost
  clear hpost
  go_enter Tryz.func96, Tryz.ntmps96
  go_wp2_with (first
    | (go_at_call 38; refine (HP.out _ (al2 (Nat.le_refl _) _ _)).mono ?_; rintro e w2 ⟨rfl, hP, oP⟩; obtain ⟨b1, b2⟩ := boxes_stay HIn.out.1 oP; have c1 := cell_of_row w2 _ 1 _ _ _ b1; have c2 := cell_of_row w2 _ 2 _ _ _ b2; have c3 := cell_of_row w2 _ 3 _ _ _ b2; have c5 := cell_of_row w2 _ 5 _ _ _ b2; simp only [List.getElem?_toArray, List.getElem?_cons_zero, List.getElem?_cons_succ] at c1 c2 c3 c5; have H2 := hide (And.intro hP oP); clear hP oP b1 b2)
    | (go_at_call 148; refine (HR.out _ _ (al2 (Nat.le_refl _) _ _) H2.out.2).mono ?_; rintro e w3 ⟨rfl, hR, oR⟩; have H3 := hide (And.intro hR oR); clear hR oR))
  try go_ret
  rw [HPo.out]
  exact HI.out.1.done HI.out.2.1 (al2 (Nat.le_refl _) _ _) H2.out.1 H2.out.2 H3.out.1 H3.out.2 HI.out.2.2 (Only.refl _ _)

end Go.Proofs.YtofinpocigbbeaaGreat

/-! AskB -/
namespace Go.Proofs.YtofinpocigbbeaaGreat
open Go.RowKit
attribute [local go_sem ↓] Go.wp_at_zero Go.wp_at_succ

theorem LentP.pix {w : World} {base : Nat} {v : Value} {l : List R4} {u : Value} (h : LentP w base v l u) : PixAt w u l := by
  rcases h with ⟨_, rfl, rfl⟩ | ⟨_, g, cap, rfl, hr⟩
  · exact ⟨none, 0, rfl, fun h => by simp at h⟩
  · refine ⟨_, cap, rfl, fun hl => ⟨by have := own_cap hr; omega, g, 0, rfl, fun k hk => ?_⟩⟩
    have cs := World.ownsRow.cells hr (g := g) rfl
    have hk2 : k < (l ++ [mkP 5, mkP 6]).length := by rw [List.length_append]; omega
    obtain ⟨p0, p1, p2, p3⟩ := pixCells_at (l ++ [mkP 5, mkP 6]) k hk2
    have e : (l ++ [mkP 5, mkP 6])[k] = l[k] := List.getElem_append_left hk
    rw [e] at p0 p1 p2 p3
    have c0 := cs _ _ p0
    have c1 := cs _ _ p1
    have c2 := cs _ _ p2
    have c3 := cs _ _ p3
    rw [add_at] at c0 c1 c2 c3
    simp only [Nat.zero_add]
    exact ⟨c0, c1, c2, c3⟩

theorem LentP.keep {w w' : World} {base : Nat} {v : Value} {l : List R4} {u : Value} (h : LentP w base v l u) (hk : ∀ g, base ≤ g → g < w.heap.size → w'.heap[g]? = w.heap[g]?) : LentP w' base v l u := by
  rcases h with h | ⟨h1, g, cap, h2, h3⟩
  · exact .inl h
  · exact .inr ⟨h1, g, cap, h2, own_keep h3 fun b hb => hk b (h3.lt b hb).1 (h3.lt b hb).2⟩

theorem LentP.own {w : World} {base : Nat} {v : Value} {l : List R4} {u : Value} (h : LentP w base v l u) : ∀ g, u.ownBlock = some g → base ≤ g ∧ g < w.heap.size := by
  rcases h with ⟨_, rfl, _⟩ | ⟨_, g, cap, rfl, h3⟩
  · intro g hg
    simp [Value.ownBlock] at hg
  · intro b hb
    exact h3.lt b hb

/-- The two boxes, behind what only makes. -/
theorem boxes_below {w W : World} {o1 o2 : Obj} (h : Below ((w.alloc o1).alloc o2).heap.size ((w.alloc o1).alloc o2) W) : W.heap[w.heap.size]? = some o1 ∧ W.heap[w.heap.size + 1]? = some o2 :=
  boxes_stay (S := fun _ => False) (fun _ hh => hh.elim) (Only.below h)

theorem boxes_only {w W W' : World} {S : Nat → Prop} {o1 o2 : Obj} (h : W.heap[w.heap.size]? = some o1 ∧ W.heap[w.heap.size + 1]? = some o2) (hS : ∀ g, S g → g < w.heap.size) (h' : Only S W W') : W'.heap[w.heap.size]? = some o1 ∧ W'.heap[w.heap.size + 1]? = some o2 :=
  ⟨(h'.block _ (Array.getElem?_eq_some_iff.1 h.1).1 fun hh => by have := hS _ hh; omega).trans h.1, (h'.block _ (Array.getElem?_eq_some_iff.1 h.2).1 fun hh => by have := hS _ hh; omega).trans h.2⟩

set_option maxRecDepth 100000 in
set_option maxHeartbeats 1000000 in
/-- asked: Attach -/
theorem asked_attach {n0 : Nat} {w : World} {pb N : Nat} {ps : Value} {L : List Scr} (h : Inv n0 w pb N ps L) {i : Nat} {s : Scr} (hi : L[i]? = some s) (k a b c : Int) (y : Bool) (r : R4) (lv mv pv : Value) (l : List R4)
    (hpx : ∀ W, Only (fun g => n0 ≤ g) w W → PixAt W pv l) (hv : (pv = .slice none 0 0 ∧ l = []) ∨ ∃ ad c, pv = .slice (some ad) l.length c) (hr : l.length * 4 ≤ 140737488351232) (hby : ByteL l) :
    Calls Tryz.prog 96 #[pairV s, .agg (opCells 4 k a b c y r lv mv pv)] w (StepPost n0 pb N ps L w) := by
  have hn := h.size
  have hml : l.length ≤ maxLen := by unfold maxLen; omega
  obtain ⟨er, st', ho⟩ : ∃ er st', opAttach s.st a b c l.length (l.all fitP) (fun k => l.getD k (0, 0, 0, 0)) = (er, st') := ⟨_, _, rfl⟩
  have hf : Fine st' := by
    have := fine_attach (h.pane hi (Below.refl _ _)).2 a b c l hby
    rw [ho] at this
    exact this
  have okA := h.inA hi
  have okN : (∀ g, s.A g → n0 ≤ g) ∧ ∀ g, s.B g → n0 ≤ g := by
    have ok := h.scr s (List.mem_iff_getElem?.2 ⟨i, hi⟩)
    exact ⟨fun g hg => (ok.own g (.inl hg)).1, fun g hg => (ok.own g (.inr hg)).1⟩
  have HL : Hid (∀ W, Below w.heap.size w W → Calls Tryz.prog 136 #[pv] W fun e w' => ∃ u, e = .returned u ∧ LentP w' W.heap.size pv l u ∧ Below W.heap.size W w') := fun W hW => lentP_any l pv W (hpx W (Only.below hW)) hv hr
  have HP : Hid (∀ W B u, Below w.heap.size w W → LentP W B pv l u → Calls Tryz.prog 28 #[.pointer (some ⟨s.x, 0, none⟩), .int .i64 a, .int .i64 b, .int .i64 c, u] W (FOk s.A s.x (er, st') W)) := fun W B u hW hu => by
    have := foAttach_any (h.pane hi hW).2.wf a b c l u W (h.pane hi hW).1 hu.pix hml
    rw [ho] at this
    exact this
  have HR : Hid (∀ W1 W, Below w.heap.size w W1 → Only s.A W1 W → Calls Tryz.prog 143 #[.pointer (some ⟨s.c, 0, none⟩), .int .i64 a, .int .i64 b, .int .i64 c, pv] W (RPost s.B s.c (er, st') W)) := fun W1 W hW1 hW => by
    have hx : PixAt W pv l := hpx W ((Only.below hW1).trans (hW.mono fun g _ hg => .inl (okN.1 g hg)))
    have := refAttach_any (h.pane hi hW1).2.wf a b c l pv W (h.ref hi hW1 hW).1 hx hml
    rw [ho] at this
    exact this
  have HT : Hid (∀ W1 W2 W3 B u, Below w.heap.size w W1 → w.heap.size ≤ B → LentP W1 B pv l u → Only s.A W1 W2 → Only s.B W2 W3 → Calls Tryz.prog 138 #[u, pv] W3 fun e w' => e = .returned (.bool true) ∧ Only (fun g => w.heap.size ≤ g ∧ g < W1.heap.size) W3 w') := fun W1 W2 W3 B u hW1 hB hu o2 o3 => by
    have hx : PixAt W3 pv l := hpx W3 (((Only.below hW1).trans (o2.mono fun g _ hg => .inl (okN.1 g hg))).trans (o3.mono fun g _ hg => .inl (okN.2 g hg)))
    have s1 := hW1.size
    have s2 := o2.size
    have hu3 : LentP W3 B pv l u := hu.keep fun g h1 h2 => (o3.block g (by omega) fun hh => by have := okA.2 g hh; omega).trans (o2.block g h2 fun hh => by have := okA.1 g hh; omega)
    refine (returnedP_any l u pv B W3 hx hu3 hr).mono ?_
    rintro e w' ⟨rfl, hg⟩
    refine ⟨rfl, (Only.refl _ _).grown hg fun g hh => .inl ?_⟩
    have := hu.own g hh
    exact ⟨by omega, this.2⟩
  have HIn := hide okA
  have HI := hide (And.intro h (And.intro hi hf))
  clear h hi hf ho hpx hv hr hml okA okN hn hby
  unfold pairV opCells
  obtain ⟨post, hpost⟩ : ∃ P, P = StepPost n0 pb N ps L w := ⟨_, rfl⟩
  rw [← hpost]
  have HPo := hide hpost
  clear hpost
  go_enter Tryz.func96, Tryz.ntmps96
  go_wp2_with (first
    | (go_at_call 136; refine (HL.out _ (al2 (Nat.le_refl _) _ _)).mono ?_; rintro e w1 ⟨u, rfl, hlent, hb1⟩; have hbx := boxes_below hb1; have c0 := cell_of_row w1 _ 0 _ _ _ hbx.1; have c2 := cell_of_row w1 _ 2 _ _ _ hbx.2; have c3 := cell_of_row w1 _ 3 _ _ _ hbx.2; have c4 := cell_of_row w1 _ 4 _ _ _ hbx.2; simp only [List.getElem?_toArray, List.getElem?_cons_zero, List.getElem?_cons_succ] at c0 c2 c3 c4; have H1 := hide (And.intro ((al2 (Nat.le_refl _) _ _).trans (hb1.mono (by simp; omega))) (And.intro hlent hbx)); clear hlent hb1 hbx)
    | (go_at_call 28; refine (HP.out _ _ _ H1.out.1 H1.out.2.1).mono ?_; rintro e w2 ⟨rfl, hP, oP⟩; have hbx := boxes_only H1.out.2.2 HIn.out.1 oP; have d1 := cell_of_row w2 _ 1 _ _ _ hbx.1; have d2 := cell_of_row w2 _ 2 _ _ _ hbx.2; have d3 := cell_of_row w2 _ 3 _ _ _ hbx.2; have d4 := cell_of_row w2 _ 4 _ _ _ hbx.2; have d12 := cell_of_row w2 _ 12 _ _ _ hbx.2; simp only [List.getElem?_toArray, List.getElem?_cons_zero, List.getElem?_cons_succ] at d1 d2 d3 d4 d12; have H2 := hide (And.intro hP (And.intro oP hbx)); clear hP oP hbx)
    | (go_at_call 143; refine (HR.out _ _ H1.out.1 H2.out.2.1).mono ?_; rintro e w3 ⟨rfl, hR, oR⟩; have hbx := boxes_only H2.out.2.2 HIn.out.2 oR; have f12 := cell_of_row w3 _ 12 _ _ _ hbx.2; simp only [List.getElem?_toArray, List.getElem?_cons_zero, List.getElem?_cons_succ] at f12; have H3 := hide (And.intro hR oR); clear hR oR hbx)
    | (go_at_call 138; refine (HT.out _ _ _ _ _ H1.out.1 (by simp; omega) H1.out.2.1 H2.out.2.1 H3.out.2).mono ?_; rintro e w4 ⟨rfl, o4⟩; have H4 := hide o4; clear o4))
  try go_ret
  rw [HPo.out]
  exact HI.out.1.done HI.out.2.1 H1.out.1 H2.out.1 H2.out.2.1 H3.out.1 H3.out.2 HI.out.2.2 H4.out

end Go.Proofs.YtofinpocigbbeaaGreat

/-! OnA -/
namespace Go.Proofs.YtofinpocigbbeaaGreat
open Go.RowKit
attribute [local go_sem ↓] Go.wp_at_zero Go.wp_at_succ

/-- The pixels of an Op are the caller's, as they were. -/
structure OpPix (n0 : Nat) (w : World) (pv : Value) (l : List R4) : Prop where
  at' : ∀ W, Only (fun g => n0 ≤ g) w W → PixAt W pv l
  form : (pv = .slice none 0 0 ∧ l = []) ∨ ∃ ad c, pv = .slice (some ad) l.length c
  fit : l.length * 4 ≤ 140737488351232
  byte : ByteL l

theorem OpPix.only {n0 : Nat} {w W : World} {pv : Value} {l : List R4} (h : OpPix n0 w pv l) (ho : Only (fun g => n0 ≤ g) w W) : OpPix n0 W pv l :=
  ⟨fun W' hW' => h.at' W' (ho.trans (hW'.mono fun _ _ hg => .inl hg)), h.form, h.fit, h.byte⟩

theorem asked_all {n0 : Nat} {w : World} {pb N : Nat} {ps : Value} {L : List Scr} (h : Inv n0 w pb N ps L) {i : Nat} {s : Scr} (hi : L[i]? = some s) (kd k a b c : Int) (y : Bool) (r : R4) (lv mv pv : Value) (l : List R4) (hp : OpPix n0 w pv l)
    (hk : kd = 4 ∨ kd = 5 ∨ kd = 6 ∨ kd = 7 ∨ kd = 9) :
    Calls Tryz.prog 96 #[pairV s, .agg (opCells kd k a b c y r lv mv pv)] w (StepPost n0 pb N ps L w) := by
  rcases hk with rfl | rfl | rfl | rfl | rfl
  · exact asked_attach h hi k a b c y r lv mv pv l hp.at' hp.form hp.fit hp.byte
  · exact asked_offset h hi k a b c y r lv mv pv
  · exact asked_clip h hi k a b c y r lv mv pv
  · exact asked_unclip h hi k a b c y r lv mv pv
  · exact asked_stack h hi k a b c y r lv mv pv

theorem StepPost.before {n0 : Nat} {pb N : Nat} {ps : Value} {L : List Scr} {w W w' : World} {e : Ending} (hb : Below w.heap.size w W) (h : StepPost n0 pb N ps L W e w') : StepPost n0 pb N ps L w e w' := by
  obtain ⟨h1, h2, h3, h4⟩ := h
  refine ⟨h1, h2, fun g cur t ht hg => ?_, (Only.below hb).trans (h4.mono fun _ _ hg => .inl hg)⟩
  have e := hb.block g (Array.getElem?_eq_some_iff.1 hg).1
  exact (h3 g cur t ht (e.trans hg)).trans e

set_option maxRecDepth 100000 in
set_option maxHeartbeats 1000000 in
/-- on: what is asked for -/
theorem on_asked {n0 : Nat} {w : World} {pb N : Nat} {ps : Value} {L : List Scr} (h : Inv n0 w pb N ps L) {i : Nat} {s : Scr} (hi : L[i]? = some s) (kd k a b c : Int) (y : Bool) (r : R4) (lv mv pv : Value) (l : List R4) (hp : OpPix n0 w pv l)
    (hk : kd = 4 ∨ kd = 5 ∨ kd = 6 ∨ kd = 7 ∨ kd = 9) :
    Calls Tryz.prog 49 #[.pointer (some ⟨pb, 0, none⟩), pairV s, .agg (opCells kd k a b c y r lv mv pv)] w (StepPost n0 pb N ps L w) := by
  have HC : Hid (∀ W, Below w.heap.size w W → Calls Tryz.prog 96 #[pairV s, .agg (opCells kd k a b c y r lv mv pv)] W fun e w' => e = .returned (.bool true) ∧ Hid (StepPost n0 pb N ps L w (.returned (.bool true)) w')) := fun W hW => (asked_all (h.below hW) hi kd k a b c y r lv mv pv l (hp.only (Only.below hW)) hk).mono fun e w' hh => by
    have := hh.1
    subst this
    exact ⟨rfl, hh.before hW⟩
  clear h hi hp
  unfold pairV opCells at *
  rcases hk with rfl | rfl | rfl | rfl | rfl
  all_goals
    go_enter Tryz.func49, Tryz.ntmps49
    go_wp2_with (go_at_call 96; refine (HC.out _ (al2 (Nat.le_refl _) _ _)).mono ?_; rintro e w' ⟨rfl, HH⟩)
    go_ret
    exact HH.out

set_option maxRecDepth 100000 in
set_option maxHeartbeats 1000000 in
/-- on: Make -/
theorem on_make {n0 : Nat} {w : World} {pb N : Nat} {ps : Value} {L : List Scr} (h : Inv n0 w pb N ps L) {i : Nat} {s : Scr} (hi : L[i]? = some s) (k a b c : Int) (y : Bool) (r : R4) (lv mv pv : Value) :
    Calls Tryz.prog 49 #[.pointer (some ⟨pb, 0, none⟩), pairV s, .agg (opCells 2 k a b c y r lv mv pv)] w (StepPost n0 pb N ps L w) := by
  obtain ⟨nn, er, st', ho⟩ : ∃ nn er st', opMake s.st a = (nn, er, st') := ⟨_, _, _, rfl⟩
  have hf : Fine st' := by
    have := fine_make (h.pane hi (Below.refl _ _)).2 a
    rw [ho] at this
    exact this
  have HP : Hid (∀ W, Below w.heap.size w W → Calls Tryz.prog 27 #[.pointer (some ⟨s.x, 0, none⟩), .int .i64 a] W (FMOk s.A s.x (nn, er, st') W)) := fun W hW => by
    have := foMake_any (h.pane hi hW).2.wf a W (h.pane hi hW).1
    rw [ho] at this
    exact this
  have HR : Hid (∀ W1 W, Below w.heap.size w W1 → Only s.A W1 W → Calls Tryz.prog 89 #[.pointer (some ⟨s.c, 0, none⟩), .int .i64 a] W (MPost s.B s.c (nn, er, st') W)) := fun W1 W hW1 hW => by
    have := refMake_any (h.pane hi hW1).2.wf a W (h.ref hi hW1 hW).1
    rw [ho] at this
    exact this
  have HIn := hide (h.inA hi)
  have HI := hide (And.intro h (And.intro hi hf))
  clear h hi hf ho
  unfold pairV opCells
  obtain ⟨post, hpost⟩ : ∃ P, P = StepPost n0 pb N ps L w := ⟨_, rfl⟩
  rw [← hpost]
  have HPo := hide hpost
  clear hpost
  go_enter Tryz.func49, Tryz.ntmps49
  go_wp2_with (first
    | (go_at_call 27; refine (HP.out _ (al2 (Nat.le_refl _) _ _)).mono ?_; rintro e w2 ⟨rfl, hP, oP⟩; obtain ⟨b1, b2⟩ := boxes_stay HIn.out.1 oP; have c1 := cell_of_row w2 _ 1 _ _ _ b1; have c2 := cell_of_row w2 _ 2 _ _ _ b2; simp only [List.getElem?_toArray, List.getElem?_cons_zero, List.getElem?_cons_succ] at c1 c2; have H2 := hide (And.intro hP oP); clear hP oP b1 b2)
    | (go_at_call 89; refine (HR.out _ _ (al2 (Nat.le_refl _) _ _) H2.out.2).mono ?_; rintro e w3 ⟨rfl, hR, oR⟩; have H3 := hide (And.intro hR oR); clear hR oR))
  try go_ret
  rw [HPo.out]
  exact HI.out.1.done HI.out.2.1 (al2 (Nat.le_refl _) _ _) H2.out.1 H2.out.2 H3.out.1 H3.out.2 HI.out.2.2 (Only.refl _ _)

set_option maxRecDepth 100000 in
set_option maxHeartbeats 1000000 in
/-- on: Destroy -/
theorem on_destroy {n0 : Nat} {w : World} {pb N : Nat} {ps : Value} {L : List Scr} (h : Inv n0 w pb N ps L) {i : Nat} {s : Scr} (hi : L[i]? = some s) (k a b c : Int) (y : Bool) (r : R4) (lv mv pv : Value) :
    Calls Tryz.prog 49 #[.pointer (some ⟨pb, 0, none⟩), pairV s, .agg (opCells 3 k a b c y r lv mv pv)] w (StepPost n0 pb N ps L w) := by
  obtain ⟨er, st', ho⟩ : ∃ er st', opDestroy s.st a = (er, st') := ⟨_, _, rfl⟩
  have hf : Fine st' := by
    have := fine_destroy (h.pane hi (Below.refl _ _)).2 a
    rw [ho] at this
    exact this
  have HP : Hid (∀ W, Below w.heap.size w W → Calls Tryz.prog 32 #[.pointer (some ⟨s.x, 0, none⟩), .int .i64 a] W (FOk s.A s.x (er, st') W)) := fun W hW => by
    have := foDestroy_any (h.pane hi hW).2.wf a W (h.pane hi hW).1
    rw [ho] at this
    exact this
  have HR : Hid (∀ W1 W, Below w.heap.size w W1 → Only s.A W1 W → Calls Tryz.prog 90 #[.pointer (some ⟨s.c, 0, none⟩), .int .i64 a] W (RPost s.B s.c (er, st') W)) := fun W1 W hW1 hW => by
    have := refDestroy_any (h.pane hi hW1).2.wf a W (h.ref hi hW1 hW).1
    rw [ho] at this
    exact this
  have HIn := hide (h.inA hi)
  have HI := hide (And.intro h (And.intro hi hf))
  clear h hi hf ho
  unfold pairV opCells
  obtain ⟨post, hpost⟩ : ∃ P, P = StepPost n0 pb N ps L w := ⟨_, rfl⟩
  rw [← hpost]
  have HPo := hide hpost
  clear hpost
  go_enter Tryz.func49, Tryz.ntmps49
  go_wp2_with (first
    | (go_at_call 32; refine (HP.out _ (al2 (Nat.le_refl _) _ _)).mono ?_; rintro e w2 ⟨rfl, hP, oP⟩; obtain ⟨b1, b2⟩ := boxes_stay HIn.out.1 oP; have c1 := cell_of_row w2 _ 1 _ _ _ b1; have c2 := cell_of_row w2 _ 2 _ _ _ b2; simp only [List.getElem?_toArray, List.getElem?_cons_zero, List.getElem?_cons_succ] at c1 c2; have H2 := hide (And.intro hP oP); clear hP oP b1 b2)
    | (go_at_call 90; refine (HR.out _ _ (al2 (Nat.le_refl _) _ _) H2.out.2).mono ?_; rintro e w3 ⟨rfl, hR, oR⟩; have H3 := hide (And.intro hR oR); clear hR oR))
  try go_ret
  rw [HPo.out]
  exact HI.out.1.done HI.out.2.1 (al2 (Nat.le_refl _) _ _) H2.out.1 H2.out.2 H3.out.1 H3.out.2 HI.out.2.2 (Only.refl _ _)

set_option maxRecDepth 100000 in
set_option maxHeartbeats 1000000 in
/-- on: Commit -/
theorem on_commit {n0 : Nat} {w : World} {pb N : Nat} {ps : Value} {L : List Scr} (h : Inv n0 w pb N ps L) {i : Nat} {s : Scr} (hi : L[i]? = some s) (k a b c : Int) (y : Bool) (r : R4) (lv mv pv : Value) :
    Calls Tryz.prog 49 #[.pointer (some ⟨pb, 0, none⟩), pairV s, .agg (opCells 10 k a b c y r lv mv pv)] w (StepPost n0 pb N ps L w) := by
  obtain ⟨er, st', ho⟩ : ∃ er st', opCommit s.st a = (er, st') := ⟨_, _, rfl⟩
  have hf : Fine st' := by
    have := fine_commit (h.pane hi (Below.refl _ _)).2 a
    rw [ho] at this
    exact this
  have HP : Hid (∀ W, Below w.heap.size w W → Calls Tryz.prog 30 #[.pointer (some ⟨s.x, 0, none⟩), .int .i64 a] W (FOk s.A s.x (er, st') W)) := fun W hW => by
    have := foCommit_any (h.pane hi hW).2 a W (h.pane hi hW).1
    rw [ho] at this
    exact this
  have HR : Hid (∀ W1 W, Below w.heap.size w W1 → Only s.A W1 W → Calls Tryz.prog 91 #[.pointer (some ⟨s.c, 0, none⟩), .int .i64 a] W (RPost s.B s.c (er, st') W)) := fun W1 W hW1 hW => by
    have := refCommit_any (h.pane hi hW1).2 a W (h.ref hi hW1 hW).1 (h.ref hi hW1 hW).2
    rw [ho] at this
    exact this
  have HIn := hide (h.inA hi)
  have HI := hide (And.intro h (And.intro hi hf))
  clear h hi hf ho
  unfold pairV opCells
  obtain ⟨post, hpost⟩ : ∃ P, P = StepPost n0 pb N ps L w := ⟨_, rfl⟩
  rw [← hpost]
  have HPo := hide hpost
  clear hpost
  go_enter Tryz.func49, Tryz.ntmps49
  go_wp2_with (first
    | (go_at_call 30; refine (HP.out _ (al2 (Nat.le_refl _) _ _)).mono ?_; rintro e w2 ⟨rfl, hP, oP⟩; obtain ⟨b1, b2⟩ := boxes_stay HIn.out.1 oP; have c1 := cell_of_row w2 _ 1 _ _ _ b1; have c2 := cell_of_row w2 _ 2 _ _ _ b2; simp only [List.getElem?_toArray, List.getElem?_cons_zero, List.getElem?_cons_succ] at c1 c2; have H2 := hide (And.intro hP oP); clear hP oP b1 b2)
    | (go_at_call 91; refine (HR.out _ _ (al2 (Nat.le_refl _) _ _) H2.out.2).mono ?_; rintro e w3 ⟨rfl, hR, oR⟩; have H3 := hide (And.intro hR oR); clear hR oR))
  try go_ret
  rw [HPo.out]
  exact HI.out.1.done HI.out.2.1 (al2 (Nat.le_refl _) _ _) H2.out.1 H2.out.2 H3.out.1 H3.out.2 HI.out.2.2 (Only.refl _ _)

end Go.Proofs.YtofinpocigbbeaaGreat

/-! OnB -/
namespace Go.Proofs.YtofinpocigbbeaaGreat
open Go.RowKit
attribute [local go_sem ↓] Go.wp_at_zero Go.wp_at_succ

set_option maxRecDepth 100000 in
set_option maxHeartbeats 1000000 in
/-- on: Views -/
theorem on_views {n0 : Nat} {w : World} {pb N : Nat} {ps : Value} {L : List Scr} (h : Inv n0 w pb N ps L) (hN : N ≤ 1000000000000) {i : Nat} {s : Scr} (hi : L[i]? = some s) (k a b c : Int) (y : Bool) (r : R4) (lv mv pv : Value) :
    Calls Tryz.prog 49 #[.pointer (some ⟨pb, 0, none⟩), pairV s, .agg (opCells 11 k a b c y r lv mv pv)] w (StepPost n0 pb N ps L w) := by
  obtain ⟨V, hV⟩ : ∃ V, s.st.vis (s.st.dfs (-1)) = V := ⟨_, rfl⟩
  have hVl : V.length ≤ 12 := by
    have h1 := vis_len (st := s.st) (s.st.dfs (-1))
    have h2 := dfs_len (h.pane hi (Below.refl _ _)).2.wf (p := -1) (by omega)
    rw [← hV]
    omega
  have HP : Hid (∀ W, Below w.heap.size w W → Calls Tryz.prog 23 #[.pointer (some ⟨s.x, 0, none⟩)] W fun e w' => ∃ v, e = .returned v ∧ OwnV w' W.heap.size v s.st V ∧ Below W.heap.size W w') := fun W hW => by
    have := foViews_any (h.pane hi hW).2.wf (h.pane hi hW).1
    unfold ViewsPost at this
    rw [hV] at this
    exact this
  have HR : Hid (∀ W, Below w.heap.size w W → Calls Tryz.prog 93 #[.pointer (some ⟨s.c, 0, none⟩)] W fun e w' => ∃ v, e = .returned v ∧ OwnV w' W.heap.size v s.st V ∧ Below W.heap.size W w') := fun W hW => by
    have := refViews_any (h.pane hi hW).2.wf W (h.ref hi hW (Only.refl _ _)).1
    unfold ViewsPost at this
    rw [hV] at this
    exact this
  have HB : Hid (∀ W W3 v, Below w.heap.size w W → Below W.heap.size W W3 → OwnV W3 W.heap.size v s.st V → Calls Tryz.prog 94 #[.pointer (some ⟨pb, 1, none⟩), v] W3 fun e w' => e = .returned (.tuple #[]) ∧ Hid (StepPost n0 pb N ps L w (.returned (.bool true)) w')) := fun W W3 v hW hW3 hv => by
    have hI := h.below hW
    obtain ⟨pc, cv, xs, hbk, hp0, hcv⟩ := hI.play
    refine (views_any (n := V.length) hW3 hbk hN (by omega) ⟨_, hv⟩).mono ?_
    rintro e w' ⟨rfl, ⟨cv', xs', hb', hc'⟩, ho⟩
    refine ⟨rfl, ?_⟩
    obtain ⟨q1, q2, q3⟩ := hI.viewed hbk hp0 hcv hW3 hb' hc' ho
    exact StepPost.before hW ⟨rfl, ⟨L, N + 1, rfl, Nat.le_refl _, q1⟩, q2, q3⟩
  have HS : Hid (∀ W u v b1 b2, OwnV W b1 u s.st V → OwnV W b2 v s.st V → Calls Tryz.prog 92 #[u, v] W fun e w' => e = .returned (.bool true) ∧ ∃ nq, w' = W.drewN nq) := fun W u v b1 b2 hu hv => sameV_any s.st V u v b1 b2 W hu hv (by omega)
  have hpn : pb < w.heap.size := by
    obtain ⟨pc, cv, xs, hbk, _⟩ := h.play
    exact block_lt hbk.blk
  clear h hi hV hN
  unfold pairV opCells
  go_enter Tryz.func49, Tryz.ntmps49
  go_wp2_with (first
    | (go_at_call 23; refine (HP.out _ (al2 (Nat.le_refl _) _ _)).mono ?_; rintro e w1 ⟨v1, rfl, hv1, hb1⟩; have hbx := boxes_below hb1; have c1 := cell_of_row w1 _ 1 _ _ _ hbx.1; simp only [List.getElem?_toArray, List.getElem?_cons_zero, List.getElem?_cons_succ] at c1; have H1 := hide (And.intro ((al2 (Nat.le_refl _) _ _).trans (hb1.mono (by simp; omega))) (And.intro hv1 (And.intro hb1 (al2 (Nat.le_refl w.heap.size) (.cells #[.pointer (some ⟨s.x, 0, none⟩), .pointer (some ⟨s.c, 0, none⟩)] 105) (.cells #[.int .i64 11, .int .i64 k, .int .i64 a, .int .i64 b, .int .i64 c, .bool y, .int .i64 r.1, .int .i64 r.2.1, .int .i64 r.2.2.1, .int .i64 r.2.2.2, lv, mv, pv] 72))))); clear hv1 hb1 hbx)
    | (go_at_call 93; refine (HR.out _ H1.out.1).mono ?_; rintro e w2 ⟨v2, rfl, hv2, hb2⟩; have H2 := hide (And.intro hv2 (And.intro (own_keep H1.out.2.1 fun g hg => hb2.block g (H1.out.2.1.lt g hg).2) (H1.out.2.2.1.trans (hb2.mono H1.out.2.2.1.size)))); clear hv2 hb2)
    | (go_at_call 92; refine (HS.out _ _ _ _ _ H2.out.2.1 H2.out.1).mono ?_; rintro e w3 ⟨rfl, nq, rfl⟩)
    | (go_at_call 94; refine (HB.out _ _ _ H1.out.2.2.2 (below_drewN H2.out.2.2 _) (own_keep H2.out.2.1 fun _ _ => rfl)).mono ?_; rintro e w4 ⟨rfl, HH⟩))
  go_ret
  exact HH.out

end Go.Proofs.YtofinpocigbbeaaGreat

/-! Opn -/
namespace Go.Proofs.YtofinpocigbbeaaGreat
open Go.RowKit
attribute [local go_sem ↓] Go.wp_at_zero Go.wp_at_succ

/-- What any step leaves. -/
def StepAny (n0 : Nat) (pb N lo hi : Nat) (w : World) (e : Ending) (w' : World) : Prop :=
  e = .returned (.bool true) ∧ (∃ ps' L' N', lo ≤ L'.length ∧ L'.length ≤ hi ∧ N' ≤ N + 1 ∧ Inv n0 w' pb N' ps' L') ∧ (∀ (g : Nat) (cur : Array Value), w.heap[g]? = some (.cells cur 72 (0, 0)) → w'.heap[g]? = w.heap[g]?) ∧ Only (fun g => n0 ≤ g) w w'

theorem StepPost.any {n0 : Nat} {pb N : Nat} {ps : Value} {L : List Scr} {w : World} {e : Ending} {w' : World} (h : StepPost n0 pb N ps L w e w') : StepAny n0 pb N L.length L.length w e w' := by
  obtain ⟨h1, ⟨L', N', h2, h3, h4⟩, h5, h6⟩ := h
  exact ⟨h1, ⟨ps, L', N', by omega, by omega, h3, h4⟩, fun g cur hg => h5 g cur _ (.inl rfl) hg, h6⟩

theorem StepAny.weak {n0 : Nat} {pb N lo hi lo' hi' : Nat} {w w' : World} {e : Ending} (h : StepAny n0 pb N lo hi w e w') (h1 : lo' ≤ lo) (h2 : hi ≤ hi') : StepAny n0 pb N lo' hi' w e w' := by
  obtain ⟨q1, ⟨ps', L', N', a, b, c, d⟩, q3, q4⟩ := h
  exact ⟨q1, ⟨ps', L', N', by omega, by omega, c, d⟩, q3, q4⟩

theorem StepAny.before {n0 : Nat} {pb N lo hi : Nat} {w W w' : World} {e : Ending} (hb : Below w.heap.size w W) (h : StepAny n0 pb N lo hi W e w') : StepAny n0 pb N lo hi w e w' := by
  obtain ⟨h1, h2, h3, h4⟩ := h
  refine ⟨h1, h2, fun g cur hg => ?_, (Only.below hb).trans (h4.mono fun _ _ hg => .inl hg)⟩
  have e := hb.block g (Array.getElem?_eq_some_iff.1 hg).1
  exact (h3 g cur (e.trans hg)).trans e

theorem StepAny.none {n0 : Nat} {w W : World} {pb N : Nat} {ps : Value} {L : List Scr} (h : Inv n0 w pb N ps L) (hb : Below w.heap.size w W) : StepAny n0 pb N L.length L.length w (.returned (.bool true)) W :=
  ⟨rfl, ⟨ps, L, N, Nat.le_refl _, by omega, by omega, h.below hb⟩, fun g _ hg => hb.block g (Array.getElem?_eq_some_iff.1 hg).1, Only.below hb⟩

theorem pairInfo : (Tryz.prog.info? 105).map (fun i => (i.zero, i.size, i.bytes)) = some (some (.agg #[.pointer none, .pointer none]), 2, 16) := by kernel_rfl

set_option maxRecDepth 100000 in
set_option maxHeartbeats 1000000 in
/-- opened: refused -/
theorem opened_no {n0 : Nat} {w : World} {pb N : Nat} {ps : Value} {L : List Scr} (h : Inv n0 w pb N ps L) (k a b c : Int) (y : Bool) (r : R4) (lv mv pv : Value) (er : Int)
    (hP : ∀ W, Calls Tryz.prog 26 #[.int .i64 a, .int .i64 b, .int .i64 c] W (NRef er W)) (hR : ∀ W, Calls Tryz.prog 81 #[.int .i64 a, .int .i64 b, .int .i64 c] W (NRef er W)) :
    Calls Tryz.prog 46 #[.pointer (some ⟨pb, 0, none⟩), .agg (opCells 1 k a b c y r lv mv pv)] w (StepAny n0 pb N L.length L.length w) := by
  have HP := hide hP
  have HR := hide hR
  have HI := hide h
  clear hP hR h
  unfold opCells
  obtain ⟨post, hpost⟩ : ∃ P, P = StepAny n0 pb N L.length L.length w := ⟨_, rfl⟩
  rw [← hpost]
  have HPo := hide hpost
  clear hpost
  go_enter Tryz.func46, Tryz.ntmps46
  go_wp2_with (first
    | (go_at_call 26; refine (HP.out _).mono ?_; rintro e w1 ⟨rfl, hb1⟩; have hbx := (hb1.block w.heap.size (by simp)).trans (heap_alloc_new w _); have c2 := cell_of_row w1 _ 2 _ _ _ hbx; have c3 := cell_of_row w1 _ 3 _ _ _ hbx; have c4 := cell_of_row w1 _ 4 _ _ _ hbx; simp only [List.getElem?_toArray, List.getElem?_cons_zero, List.getElem?_cons_succ] at c2 c3 c4; have H1 := hide ((al1 (Nat.le_refl _) _).trans (hb1.mono (by simp))); clear hb1 hbx)
    | (go_at_call 81; refine (HR.out _).mono ?_; rintro e w2 ⟨rfl, hb2⟩; have H2 := hide (H1.out.trans (hb2.mono H1.out.size)); clear hb2))
  try go_ret
  rw [HPo.out]
  exact StepAny.none HI.out H2.out

set_option maxRecDepth 100000 in
set_option maxHeartbeats 1000000 in
/-- opened: a screen more -/
theorem opened_ok {n0 : Nat} {w : World} {pb N : Nat} {ps : Value} {L : List Scr} (h : Inv n0 w pb N ps L) (hL : L.length ≤ 1000000000000) (k a b c : Int) (y : Bool) (r : R4) (lv mv pv : Value) (hW : 1 ≤ a ∧ a ≤ 24) (hH : 1 ≤ b ∧ b ≤ 24) (hn : 1 ≤ c ∧ c ≤ 3) :
    Calls Tryz.prog 46 #[.pointer (some ⟨pb, 0, none⟩), .agg (opCells 1 k a b c y r lv mv pv)] w (StepAny n0 pb N (L.length + 1) (L.length + 1) w) := by
  obtain ⟨i0, hi0, hz0, hz1, hz2⟩ := info_parts pairInfo
  have HP := hide (fun W => foNew_ok a b c W hW hH hn)
  have HR := hide (fun W => refNew_ok a b c W hW hH hn)
  have HF := hide (Fine.new hW hH)
  have hsz := h.size
  obtain ⟨pc, cv, xs, hbk, hp0, hcv⟩ := h.play
  have hpl := block_lt hbk.blk
  obtain ⟨pa, pcap, hpf⟩ := row_form h.row
  have hpb0 : w.cell? ⟨pb, 0, none⟩ = some ps := (cell_of_row w pb 0 pc _ _ hbk.blk).trans hp0
  have HPS : Hid (∀ W, Below w.heap.size w W → W.cell? ⟨pb, 0, none⟩ = some ps ∧ W.ownsRow n0 105 2 ps L.length (L.flatMap Scr.cells) ∧ n0 ≤ W.heap.size) := fun W hb => ⟨(hb.cell (p := ⟨pb, 0, none⟩) hpl).trans hpb0, own_keep h.row fun g hg => hb.block g (h.row.lt g hg).2, Nat.le_trans hsz hb.size⟩
  have HPB : Hid (∀ W W6 : World, Below w.heap.size w W → W.grownBy W6 ps.ownBlock → (∃ q, W6.cell? ⟨pb, 0, none⟩ = some q) ∧ W6.frozen? ⟨pb, 0, none⟩ = false) := fun W W6 hb hg => by
    have e : W6.heap[pb]? = some (.cells pc 69 (0, 0)) := by
      rw [hg.block pb (Nat.lt_of_lt_of_le hpl hb.size) (fun e => ?_), hb.block pb hpl, hbk.blk]
      obtain ⟨c2, hc2⟩ := own_type h.row e.symm
      have := hbk.blk
      rw [hc2] at this
      injection this with this
      injection this with _ this
      exact absurd this (by decide)
    exact ⟨⟨_, (cell_of_row W6 pb 0 pc _ _ e).trans hp0⟩, by simp [World.frozen?, e]⟩
  have HI := hide h
  subst hpf
  obtain ⟨ln, hln⟩ : ∃ ln, L.length = ln := ⟨_, rfl⟩
  have HE : Hid (∀ W1 W2 W3 W6 v x c0, Below (w.alloc (.cells (opCells 1 k a b c y r lv mv pv) 72)).heap.size (w.alloc (.cells (opCells 1 k a b c y r lv mv pv) 72)) W1 → FullOk W1 (fun g => (w.alloc (.cells (opCells 1 k a b c y r lv mv pv) 72)).heap.size ≤ g ∧ g < W1.heap.size) x ⟨a, b, [], []⟩ → Below W1.heap.size W1 W2 → RefOk W2 (fun g => W1.heap.size ≤ g ∧ g < W2.heap.size) c0 ⟨a, b, [], []⟩ → Below W2.heap.size W2 W3 → W3.grownBy W6 (Value.slice pa L.length pcap).ownBlock → W6.ownsRow n0 105 2 v (L.length + 1) (L.flatMap Scr.cells ++ [ptrV x, ptrV c0]) → StepAny n0 pb N (L.length + 1) (L.length + 1) w (.returned (.bool true)) (W6.setCell ⟨pb, 0, none⟩ v)) := fun W1 W2 W3 W6 v x c0 e1 e2 e3 e4 e5 e6 e7 => by
    obtain ⟨L', q1, q2, q3, q4⟩ := (h.below (al1 (Nat.le_refl _) (.cells (opCells 1 k a b c y r lv mv pv) 72))).opened e1 e2 e3 e4 HF.out e5 e6 e7
    exact StepAny.before (al1 (Nat.le_refl _) (.cells (opCells 1 k a b c y r lv mv pv) 72)) ⟨rfl, ⟨v, L', N, by omega, by omega, by omega, q2⟩, q3, q4⟩
  obtain ⟨post, hpost⟩ : ∃ P, P = StepAny n0 pb N (L.length + 1) (L.length + 1) w := ⟨_, rfl⟩
  rw [← hpost]
  rw [← hpost] at HE
  unfold opCells at *
  rw [hln] at HE HPS HPB hL
  unfold NOk at HP
  unfold NPost at HR
  unfold ptrV at HE
  clear hpost h hbk hp0 hcv hpl hpb0 hsz hW hH hn HI HF
  go_enter Tryz.func46, Tryz.ntmps46
  go_wp2_with (first
    | (go_at_call 26; refine (HP.out _).mono ?_; rintro e w1 ⟨x, rfl, hp1, hb1⟩; have hbx := (hb1.block w.heap.size (by simp)).trans (heap_alloc_new w _); have c2 := cell_of_row w1 _ 2 _ _ _ hbx; have c3 := cell_of_row w1 _ 3 _ _ _ hbx; have c4 := cell_of_row w1 _ 4 _ _ _ hbx; simp only [List.getElem?_toArray, List.getElem?_cons_zero, List.getElem?_cons_succ] at c2 c3 c4; have H1 := hide (And.intro ((al1 (Nat.le_refl _) _).trans (hb1.mono (by simp))) (And.intro hp1 hb1)); clear hp1 hb1 hbx)
    | (go_at_call 81; refine (HR.out _).mono ?_; rintro e w2 ⟨x2, rfl, hp2, hb2⟩; have H2 := hide (And.intro (H1.out.1.trans (hb2.mono H1.out.1.size)) (And.intro hp2 hb2)); have d0 := (HPS.out w2 H2.out.1).1; clear hp2 hb2)
    | (at_builtin; refine wpList_append_row (P := Tryz.prog) rfl (.tmp 45) (.tmp 49) 62 rfl n0 105 i0 _ 2 16 Tryz.underlying62 hi0 hz0 hz1 hz2 rfl (by decide) (.slice pa ln pcap) ln (L.flatMap Scr.cells) rfl ((HPS.out w2 H2.out.1).2.1.alloc _) (.slice (some ⟨w2.heap.size, 0, none⟩) 1 1) 1 [.pointer (some ⟨x, 0, none⟩), .pointer (some ⟨x2, 0, none⟩)] rfl rfl (.inr ⟨_, _, rfl, World.news_of_block (cs := #[.pointer (some ⟨x, 0, none⟩), .pointer (some ⟨x2, 0, none⟩)]) (t := 105) (fr := (0, 0)) (heap_alloc_new w2 _)⟩) (by simp [Value.oneCell']) (by unfold maxLen; omega) (by omega) (by have := (HPS.out w2 H2.out.1).2.2; simp; omega) ?_; intro v6 w6 r6 g6 _ _; obtain ⟨va6, vc6, hv6⟩ := row_form r6; subst hv6; obtain ⟨⟨q0, hq0⟩, hfz0⟩ := HPB.out _ _ (H2.out.1.alloc H2.out.1.size _) g6; have HR6 := hide (And.intro r6 g6); clear r6 g6))
  try go_ret
  exact HE.out w1 w2 _ w6 _ x x2 H1.out.2.2 H1.out.2.1 H2.out.2.2 H2.out.2.1 (al1 (Nat.le_refl _) _) HR6.out.2 HR6.out.1

end Go.Proofs.YtofinpocigbbeaaGreat

/-! Stp -/
namespace Go.Proofs.YtofinpocigbbeaaGreat
open Go.RowKit
attribute [local go_sem ↓] Go.wp_at_zero Go.wp_at_succ

theorem opened_all {n0 : Nat} {w : World} {pb N : Nat} {ps : Value} {L : List Scr} (h : Inv n0 w pb N ps L) (hL : L.length ≤ 1000000000000) (k a b c : Int) (y : Bool) (r : R4) (lv mv pv : Value) :
    Calls Tryz.prog 46 #[.pointer (some ⟨pb, 0, none⟩), .agg (opCells 1 k a b c y r lv mv pv)] w (StepAny n0 pb N L.length (L.length + 1) w) := by
  by_cases h1 : a < 1 ∨ 24 < a ∨ b < 1 ∨ 24 < b
  · refine Calls.mono (opened_no h k a b c y r lv mv pv 5 (fun W => paNew_size a b c W h1) fun W => refNew_size a b c W h1) fun e w' q => q.weak (Nat.le_refl _) (by omega)
  · by_cases h2 : c < 1 ∨ 3 < c
    · refine Calls.mono (opened_no h k a b c y r lv mv pv 10 (fun W => paNew_buf a b c W (by omega) (by omega) h2) fun W => refNew_buf a b c W (by omega) (by omega) h2) fun e w' q => q.weak (Nat.le_refl _) (by omega)
    · exact Calls.mono (opened_ok h hL k a b c y r lv mv pv (by omega) (by omega) (by omega)) fun e w' q => q.weak (by omega) (Nat.le_refl _)

theorem on_all {n0 : Nat} {w : World} {pb N : Nat} {ps : Value} {L : List Scr} (h : Inv n0 w pb N ps L) (hN : N ≤ 1000000000000) {i : Nat} {s : Scr} (hi : L[i]? = some s) (kd k a b c : Int) (y : Bool) (r : R4) (lv mv pv : Value) (l : List R4) (hp : OpPix n0 w pv l)
    (hk : kd = 2 ∨ kd = 3 ∨ kd = 4 ∨ kd = 5 ∨ kd = 6 ∨ kd = 7 ∨ kd = 9 ∨ kd = 10 ∨ kd = 11) :
    Calls Tryz.prog 49 #[.pointer (some ⟨pb, 0, none⟩), pairV s, .agg (opCells kd k a b c y r lv mv pv)] w (StepPost n0 pb N ps L w) := by
  rcases hk with rfl | rfl | rfl | rfl | rfl | rfl | rfl | rfl | rfl
  · exact on_make h hi k a b c y r lv mv pv
  · exact on_destroy h hi k a b c y r lv mv pv
  · exact on_asked h hi 4 k a b c y r lv mv pv l hp (by simp)
  · exact on_asked h hi 5 k a b c y r lv mv pv l hp (by simp)
  · exact on_asked h hi 6 k a b c y r lv mv pv l hp (by simp)
  · exact on_asked h hi 7 k a b c y r lv mv pv l hp (by simp)
  · exact on_asked h hi 9 k a b c y r lv mv pv l hp (by simp)
  · exact on_commit h hi k a b c y r lv mv pv
  · exact on_views h hN hi k a b c y r lv mv pv

set_option maxRecDepth 100000 in
set_option maxHeartbeats 1000000 in
/-- step: New -/
theorem step_new {n0 : Nat} {w : World} {pb N lo hi : Nat} (k a b c : Int) (y : Bool) (r : R4) (lv mv pv : Value)
    (hC : ∀ W, Below w.heap.size w W → Calls Tryz.prog 46 #[.pointer (some ⟨pb, 0, none⟩), .agg (opCells 1 k a b c y r lv mv pv)] W (StepAny n0 pb N lo hi W)) :
    Calls Tryz.prog 24 #[.pointer (some ⟨pb, 0, none⟩), .agg (opCells 1 k a b c y r lv mv pv)] w (StepAny n0 pb N lo hi w) := by
  have HC : Hid (∀ W, Below w.heap.size w W → Calls Tryz.prog 46 #[.pointer (some ⟨pb, 0, none⟩), .agg (opCells 1 k a b c y r lv mv pv)] W fun e w' => e = .returned (.bool true) ∧ Hid (StepAny n0 pb N lo hi w (.returned (.bool true)) w')) := fun W hW => (hC W hW).mono fun e w' hh => by
    have := hh.1
    subst this
    exact ⟨rfl, hh.before hW⟩
  clear hC
  unfold opCells at *
  go_enter Tryz.func24, Tryz.ntmps24
  go_wp2_with (go_at_call 46; refine (HC.out _ (al1 (Nat.le_refl _) _)).mono ?_; rintro e w' ⟨rfl, HH⟩)
  go_ret
  exact HH.out

theorem cells_at (L : List Scr) : ∀ (j : Nat) (s : Scr), L[j]? = some s → (L.flatMap Scr.cells)[j * 2]? = some (.pointer (some ⟨s.x, 0, none⟩)) ∧ (L.flatMap Scr.cells)[j * 2 + 1]? = some (.pointer (some ⟨s.c, 0, none⟩)) := by
  induction L with
  | nil => intro j s hj; simp at hj
  | cons a L ih =>
    intro j s hj
    rw [List.flatMap_cons]
    cases j with
    | zero =>
      simp at hj
      subst hj
      exact ⟨rfl, rfl⟩
    | succ j =>
      simp at hj
      have := ih j s hj
      have hl : a.cells.length = 2 := rfl
      refine ⟨?_, ?_⟩
      · rw [List.getElem?_append_right (by rw [hl]; omega), hl, show (j + 1) * 2 - 2 = j * 2 by omega]; exact this.1
      · rw [List.getElem?_append_right (by rw [hl]; omega), hl, show (j + 1) * 2 + 1 - 2 = j * 2 + 1 by omega]; exact this.2

set_option maxRecDepth 100000 in
set_option maxHeartbeats 1000000 in
/-- step: on a screen -/
theorem step_on {n0 : Nat} {w : World} {pb N : Nat} {ps : Value} {L : List Scr} (h : Inv n0 w pb N ps L) (hL0 : 0 < L.length) (hL : L.length ≤ 1000000000000) (hN : N ≤ 1000000000000) (kd k a b c : Int) (hk64 : -9223372036854775808 ≤ k ∧ k ≤ 9223372036854775807) (y : Bool) (r : R4) (lv mv pv : Value) (l : List R4) (hp : OpPix n0 w pv l)
    (hk : kd = 2 ∨ kd = 3 ∨ kd = 4 ∨ kd = 5 ∨ kd = 6 ∨ kd = 7 ∨ kd = 9 ∨ kd = 10 ∨ kd = 11) :
    Calls Tryz.prog 24 #[.pointer (some ⟨pb, 0, none⟩), .agg (opCells kd k a b c y r lv mv pv)] w (StepAny n0 pb N L.length L.length w) := by
  obtain ⟨pg, pcap, hpf, hpbase, hpg⟩ := World.ownsRow.form h.row hL0
  have hcap := own_cap (by have h9 := h.row; rw [hpf] at h9; exact h9)
  have HO : Hid (∀ (W : World) (j : Nat) (s : Scr), Below w.heap.size w W → L[j]? = some s → Calls Tryz.prog 49 #[.pointer (some ⟨pb, 0, none⟩), .agg #[.pointer (some ⟨s.x, 0, none⟩), .pointer (some ⟨s.c, 0, none⟩)], .agg (opCells kd k a b c y r lv mv pv)] W fun e w' => e = .returned (.bool true) ∧ Hid (StepPost n0 pb N ps L W (.returned (.bool true)) w')) := fun W j s hW hj => (on_all (h.below hW) hN hj kd k a b c y r lv mv pv l (hp.only (Only.below hW)) hk).mono fun e w' hh => by
    have := hh.1
    subst this
    exact ⟨rfl, hh⟩
  have HPk : Hid (∀ W : World, Calls Tryz.prog 50 #[.int .i64 k, .int .i64 (L.length : Nat)] W fun e w' => (∃ q : Nat, q < L.length ∧ e = .returned (.int .i64 q)) ∧ w' = W) := fun W => pick_any k L.length hL0 (by omega) hk64 W
  obtain ⟨pc, cv, xs, hbk, hp0, hcv⟩ := h.play
  have hpl := block_lt hbk.blk
  have hc0 : w.cell? ⟨pb, 0, none⟩ = some ps := (cell_of_row w pb 0 pc _ _ hbk.blk).trans hp0
  obtain ⟨X, hX⟩ : ∃ X : Nat → Nat, X = fun j => (L[j]?.map Scr.x).getD 0 := ⟨_, rfl⟩
  obtain ⟨Y, hY⟩ : ∃ Y : Nat → Nat, Y = fun j => (L[j]?.map Scr.c).getD 0 := ⟨_, rfl⟩
  have hXY : ∀ j, j < L.length → ∃ s, L[j]? = some s ∧ s.x = X j ∧ s.c = Y j := fun j hj => ⟨L[j], List.getElem?_eq_getElem hj, by rw [hX]; simp [List.getElem?_eq_getElem hj], by rw [hY]; simp [List.getElem?_eq_getElem hj]⟩
  clear hX hY
  have hpr : ∀ j, j < L.length → w.cell? ⟨pg, j * 2, none⟩ = some (.pointer (some ⟨X j, 0, none⟩)) ∧ w.cell? ⟨pg, j * 2 + 1, none⟩ = some (.pointer (some ⟨Y j, 0, none⟩)) := fun j hj => by
    obtain ⟨s, h1, h2, h3⟩ := hXY j hj
    obtain ⟨c1, c2⟩ := cells_at L j s h1
    have cs := World.ownsRow.cells h.row (g := pg) (by rw [hpf]; rfl)
    have d1 := cs _ _ c1
    have d2 := cs _ _ c2
    rw [add_at] at d1 d2
    rw [← h2, ← h3]
    exact ⟨d1, d2⟩
  have hpt := own_type h.row (k := pg) (by rw [hpf]; rfl)
  have HI := hide h
  clear hp hk64 hbk hp0 hcv
  subst hpf
  obtain ⟨ln, hln⟩ : ∃ ln, L.length = ln := ⟨_, rfl⟩
  rw [hln] at HPk hXY hpr hcap hL0 hL
  have HE : Hid (∀ W w' : World, Below w.heap.size w W → StepPost n0 pb N (.slice (some ⟨pg, 0, none⟩) L.length pcap) L W (.returned (.bool true)) w' → StepAny n0 pb N L.length L.length w (.returned (.bool true)) w') := fun W w' hb hh => StepAny.before hb hh.any
  -- what is read: the list of screens, the Op
  have HS : Hid (∀ W : World, (W.cell? ⟨pb, 0, none⟩ = some (.slice (some ⟨pg, 0, none⟩) L.length pcap) ∧ W.heap[pg]? = w.heap[pg]? ∧ W.heap[w.heap.size]? = some (.cells #[.int .i64 kd, .int .i64 k, .int .i64 a, .int .i64 b, .int .i64 c, .bool y, .int .i64 r.1, .int .i64 r.2.1, .int .i64 r.2.2.1, .int .i64 r.2.2.2, lv, mv, pv] 72 (0, 0))) → W.cell? ⟨pb, 0, none⟩ = some (.slice (some ⟨pg, 0, none⟩) ln pcap) ∧ (∀ j, j < ln → W.cell? ⟨pg, j * 2, none⟩ = some (.pointer (some ⟨X j, 0, none⟩))) ∧ (∀ j, j < ln → W.cell? ⟨pg, j * 2 + 1, none⟩ = some (.pointer (some ⟨Y j, 0, none⟩))) ∧ W.cell? ⟨w.heap.size, 0, none⟩ = some (.int .i64 kd) ∧ W.cell? ⟨w.heap.size, 1, none⟩ = some (.int .i64 k) ∧ W.cell? ⟨w.heap.size, 2, none⟩ = some (.int .i64 a) ∧ W.cell? ⟨w.heap.size, 3, none⟩ = some (.int .i64 b) ∧ W.cell? ⟨w.heap.size, 4, none⟩ = some (.int .i64 c) ∧ W.cell? ⟨w.heap.size, 5, none⟩ = some (.bool y) ∧ W.cell? ⟨w.heap.size, 6, none⟩ = some (.int .i64 r.1) ∧ W.cell? ⟨w.heap.size, 7, none⟩ = some (.int .i64 r.2.1) ∧ W.cell? ⟨w.heap.size, 8, none⟩ = some (.int .i64 r.2.2.1) ∧ W.cell? ⟨w.heap.size, 9, none⟩ = some (.int .i64 r.2.2.2) ∧ W.cell? ⟨w.heap.size, 10, none⟩ = some lv ∧ W.cell? ⟨w.heap.size, 11, none⟩ = some mv ∧ W.cell? ⟨w.heap.size, 12, none⟩ = some pv) := fun W ⟨h1, h2, h3⟩ => by
    have e := fun j => cell_of_row W w.heap.size j _ _ _ h3
    have e0 := e 0; have e1 := e 1; have e2 := e 2; have e3 := e 3; have e4 := e 4; have e5 := e 5; have e6 := e 6; have e7 := e 7; have e8 := e 8; have e9 := e 9; have e10 := e 10; have e11 := e 11; have e12 := e 12
    simp only [List.getElem?_toArray, List.getElem?_cons_zero, List.getElem?_cons_succ] at e0 e1 e2 e3 e4 e5 e6 e7 e8 e9 e10 e11 e12
    rw [hln] at h1
    exact ⟨h1, fun j hj => (World.cell?_of_block h2).trans (hpr j hj).1, fun j hj => (World.cell?_of_block h2).trans (hpr j hj).2, e0, e1, e2, e3, e4, e5, e6, e7, e8, e9, e10, e11, e12⟩
  have HS1 : Hid (∀ W : World, Below (w.heap.size + 1) (w.alloc (.cells #[.int .i64 kd, .int .i64 k, .int .i64 a, .int .i64 b, .int .i64 c, .bool y, .int .i64 r.1, .int .i64 r.2.1, .int .i64 r.2.2.1, .int .i64 r.2.2.2, lv, mv, pv] 72 (0, 0))) W → W.cell? ⟨pb, 0, none⟩ = some (.slice (some ⟨pg, 0, none⟩) ln pcap) ∧ (∀ j, j < ln → W.cell? ⟨pg, j * 2, none⟩ = some (.pointer (some ⟨X j, 0, none⟩))) ∧ (∀ j, j < ln → W.cell? ⟨pg, j * 2 + 1, none⟩ = some (.pointer (some ⟨Y j, 0, none⟩))) ∧ W.cell? ⟨w.heap.size, 0, none⟩ = some (.int .i64 kd) ∧ W.cell? ⟨w.heap.size, 1, none⟩ = some (.int .i64 k) ∧ W.cell? ⟨w.heap.size, 2, none⟩ = some (.int .i64 a) ∧ W.cell? ⟨w.heap.size, 3, none⟩ = some (.int .i64 b) ∧ W.cell? ⟨w.heap.size, 4, none⟩ = some (.int .i64 c) ∧ W.cell? ⟨w.heap.size, 5, none⟩ = some (.bool y) ∧ W.cell? ⟨w.heap.size, 6, none⟩ = some (.int .i64 r.1) ∧ W.cell? ⟨w.heap.size, 7, none⟩ = some (.int .i64 r.2.1) ∧ W.cell? ⟨w.heap.size, 8, none⟩ = some (.int .i64 r.2.2.1) ∧ W.cell? ⟨w.heap.size, 9, none⟩ = some (.int .i64 r.2.2.2) ∧ W.cell? ⟨w.heap.size, 10, none⟩ = some lv ∧ W.cell? ⟨w.heap.size, 11, none⟩ = some mv ∧ W.cell? ⟨w.heap.size, 12, none⟩ = some pv) := fun W hb => by
    have hb0 : Below w.heap.size w W := (al1 (Nat.le_refl _) (.cells #[.int .i64 kd, .int .i64 k, .int .i64 a, .int .i64 b, .int .i64 c, .bool y, .int .i64 r.1, .int .i64 r.2.1, .int .i64 r.2.2.1, .int .i64 r.2.2.2, lv, mv, pv] 72 (0, 0))).trans (hb.mono (by omega))
    exact HS.out W ⟨(hb0.cell (p := ⟨pb, 0, none⟩) hpl).trans hc0, hb0.block pg hpg, (hb.block w.heap.size (by omega)).trans (heap_alloc_new w _)⟩
  have HS2 : Hid (∀ W W' : World, Below (w.heap.size + 1) (w.alloc (.cells #[.int .i64 kd, .int .i64 k, .int .i64 a, .int .i64 b, .int .i64 c, .bool y, .int .i64 r.1, .int .i64 r.2.1, .int .i64 r.2.2.1, .int .i64 r.2.2.2, lv, mv, pv] 72 (0, 0))) W → StepPost n0 pb N (.slice (some ⟨pg, 0, none⟩) L.length pcap) L W (.returned (.bool true)) W' → W'.cell? ⟨pb, 0, none⟩ = some (.slice (some ⟨pg, 0, none⟩) ln pcap) ∧ (∀ j, j < ln → W'.cell? ⟨pg, j * 2, none⟩ = some (.pointer (some ⟨X j, 0, none⟩))) ∧ (∀ j, j < ln → W'.cell? ⟨pg, j * 2 + 1, none⟩ = some (.pointer (some ⟨Y j, 0, none⟩))) ∧ W'.cell? ⟨w.heap.size, 0, none⟩ = some (.int .i64 kd) ∧ W'.cell? ⟨w.heap.size, 1, none⟩ = some (.int .i64 k) ∧ W'.cell? ⟨w.heap.size, 2, none⟩ = some (.int .i64 a) ∧ W'.cell? ⟨w.heap.size, 3, none⟩ = some (.int .i64 b) ∧ W'.cell? ⟨w.heap.size, 4, none⟩ = some (.int .i64 c) ∧ W'.cell? ⟨w.heap.size, 5, none⟩ = some (.bool y) ∧ W'.cell? ⟨w.heap.size, 6, none⟩ = some (.int .i64 r.1) ∧ W'.cell? ⟨w.heap.size, 7, none⟩ = some (.int .i64 r.2.1) ∧ W'.cell? ⟨w.heap.size, 8, none⟩ = some (.int .i64 r.2.2.1) ∧ W'.cell? ⟨w.heap.size, 9, none⟩ = some (.int .i64 r.2.2.2) ∧ W'.cell? ⟨w.heap.size, 10, none⟩ = some lv ∧ W'.cell? ⟨w.heap.size, 11, none⟩ = some mv ∧ W'.cell? ⟨w.heap.size, 12, none⟩ = some pv) := fun W W' hb hh => by
    have hb0 : Below w.heap.size w W := (al1 (Nat.le_refl _) (.cells #[.int .i64 kd, .int .i64 k, .int .i64 a, .int .i64 b, .int .i64 c, .bool y, .int .i64 r.1, .int .i64 r.2.1, .int .i64 r.2.2.1, .int .i64 r.2.2.2, lv, mv, pv] 72 (0, 0))).trans (hb.mono (by omega))
    obtain ⟨_, ⟨L', N', q1, _, q2⟩, q3, _⟩ := hh
    obtain ⟨pc', cv', xs', hbk', hp', _⟩ := q2.play
    obtain ⟨cur, hcur⟩ := hpt
    refine HS.out W' ⟨(cell_of_row W' pb 0 pc' _ _ hbk'.blk).trans hp', ?_, ?_⟩
    · rw [q3 pg cur _ (.inr rfl) ((hb0.block pg hpg).trans hcur), hb0.block pg hpg]
    · have e := (hb.block w.heap.size (by omega)).trans (heap_alloc_new w _)
      rw [q3 w.heap.size _ _ (.inl rfl) e, e]
  have HO2 : Hid (∀ (W : World) (j : Nat), Below w.heap.size w W → j < ln → Calls Tryz.prog 49 #[.pointer (some ⟨pb, 0, none⟩), .agg #[.pointer (some ⟨X j, 0, none⟩), .pointer (some ⟨Y j, 0, none⟩)], .agg #[.int .i64 kd, .int .i64 k, .int .i64 a, .int .i64 b, .int .i64 c, .bool y, .int .i64 r.1, .int .i64 r.2.1, .int .i64 r.2.2.1, .int .i64 r.2.2.2, lv, mv, pv]] W fun e w' => e = .returned (.bool true) ∧ Hid (StepPost n0 pb N (.slice (some ⟨pg, 0, none⟩) L.length pcap) L W (.returned (.bool true)) w')) := fun W j hW hj => by
    obtain ⟨s, h1, h2, h3⟩ := hXY j hj
    rw [← h2, ← h3]
    exact HO.out W j s hW h1
  obtain ⟨post, hpost⟩ : ∃ P, P = StepAny n0 pb N L.length L.length w := ⟨_, rfl⟩
  rw [← hpost] at HE ⊢
  have hc0' := hc0
  rw [hln] at hc0'
  have k1 : ¬ kd = 1 := by omega
  have k15 : ¬ kd = 15 := by omega
  have k16 : ¬ kd = 16 := by omega
  have k2 : ¬ kd < 2 := by omega
  have k14 : ¬ 14 < kd := by omega
  have l0 : ¬ (ln : Int) = 0 := by omega
  have l1 : ¬ ln = 0 := by omega
  have hpw : ¬ pb = w.heap.size := by omega
  have hgw : ¬ pg = w.heap.size := by omega
  unfold opCells
  clear hpost h HO hk hXY hpr hpt HI HS hc0 hN hL
  go_enter Tryz.func24, Tryz.ntmps24
  go_upto_region 10 with fail
  have HB0 : Hid (Below w.heap.size w (w.alloc (.cells #[.int .i64 kd, .int .i64 k, .int .i64 a, .int .i64 b, .int .i64 c, .bool y, .int .i64 r.1, .int .i64 r.2.1, .int .i64 r.2.2.1, .int .i64 r.2.2.2, lv, mv, pv] 72 (0, 0)))) := al1 (Nat.le_refl _) _
  generalize (w.alloc (.cells #[.int .i64 kd, .int .i64 k, .int .i64 a, .int .i64 b, .int .i64 c, .bool y, .int .i64 r.1, .int .i64 r.2.1, .int .i64 r.2.2.1, .int .i64 r.2.2.2, lv, mv, pv] 72 (0, 0))) = W0 at *
  go_region_held3 (fun w' => w'.cell? ⟨pb, 0, none⟩ = some (.slice (some ⟨pg, 0, none⟩) ln pcap) ∧ (∀ j, j < ln → w'.cell? ⟨pg, j * 2, none⟩ = some (.pointer (some ⟨X j, 0, none⟩))) ∧ (∀ j, j < ln → w'.cell? ⟨pg, j * 2 + 1, none⟩ = some (.pointer (some ⟨Y j, 0, none⟩))) ∧ w'.cell? ⟨w.heap.size, 0, none⟩ = some (.int .i64 kd) ∧ w'.cell? ⟨w.heap.size, 1, none⟩ = some (.int .i64 k) ∧ w'.cell? ⟨w.heap.size, 2, none⟩ = some (.int .i64 a) ∧ w'.cell? ⟨w.heap.size, 3, none⟩ = some (.int .i64 b) ∧ w'.cell? ⟨w.heap.size, 4, none⟩ = some (.int .i64 c) ∧ w'.cell? ⟨w.heap.size, 5, none⟩ = some (.bool y) ∧ w'.cell? ⟨w.heap.size, 6, none⟩ = some (.int .i64 r.1) ∧ w'.cell? ⟨w.heap.size, 7, none⟩ = some (.int .i64 r.2.1) ∧ w'.cell? ⟨w.heap.size, 8, none⟩ = some (.int .i64 r.2.2.1) ∧ w'.cell? ⟨w.heap.size, 9, none⟩ = some (.int .i64 r.2.2.2) ∧ w'.cell? ⟨w.heap.size, 10, none⟩ = some lv ∧ w'.cell? ⟨w.heap.size, 11, none⟩ = some mv ∧ w'.cell? ⟨w.heap.size, 12, none⟩ = some pv)
    (first
      | with_reducible exact HS1.out _ (Below.refl _ _)
      | with_reducible exact HS1.out _ (Below.refl _ _).drew
      | with_reducible exact HS2.out _ _ (Below.refl _ _).drew HH.out
      | fail)
    (first
      | (go_at_call 50; refine (HPk.out _).mono ?_; rintro e w2 ⟨⟨q, hq, rfl⟩, rfl⟩; have hq1 : (q : Int) < (ln : Int) := (by omega); have hq0 : (0 : Int) ≤ (q : Int) := (by omega); have hqc : q < pcap := (by omega))
      | (go_at_call 49; refine (HO2.out _ q HB0.out.drew hq).mono ?_; rintro e w5 ⟨rfl, HH⟩)
      | fail)
  all_goals go_wp2_with fail
  all_goals (try go_ret)
  all_goals exact HE.out _ _ HB0.out.drew HH.out

end Go.Proofs.YtofinpocigbbeaaGreat

/-! Opd -/
namespace Go.Proofs.YtofinpocigbbeaaGreat
open Go.RowKit

/-- An Op, as it came in. -/
structure OpD where
  kd : Int
  k : Int
  a : Int
  b : Int
  c : Int
  y : Bool
  r : R4
  lv : Value
  mv : Value
  pv : Value
  l : List R4

def OpD.cells (d : OpD) : Array Value := opCells d.kd d.k d.a d.b d.c d.y d.r d.lv d.mv d.pv

structure OpDok (w : World) (d : OpD) : Prop where
  k64 : -9223372036854775808 ≤ d.k ∧ d.k ≤ 9223372036854775807
  pix : PixAt w d.pv d.l
  form : (d.pv = .slice none 0 0 ∧ d.l = []) ∨ ∃ ad c, d.pv = .slice (some ad) d.l.length c
  fit : d.l.length * 4 ≤ 140737488351232
  byte : ByteL d.l

/-- A list of them. -/
structure OpsAt (w : World) (v : Value) (D : List OpD) : Prop where
  form : ∃ a c, v = .slice a D.length c
  cells : ∀ a c, v = .slice a D.length c → ∀ i (hi : i < D.length), D.length ≤ c ∧ ∃ b off, a = some ⟨b, off, none⟩ ∧ b < w.heap.size ∧ ∀ o u, D[i].cells[o]? = some u → w.cell? ⟨b, off + i * 13 + o, none⟩ = some u
  ok : ∀ d ∈ D, OpDok w d

end Go.Proofs.YtofinpocigbbeaaGreat

/-! Pls -/
namespace Go.Proofs.YtofinpocigbbeaaGreat
open Go.RowKit
attribute [local go_sem ↓] Go.wp_at_zero Go.wp_at_succ

def kindsL : List Int := [1, 2, 3, 4, 5, 6, 7, 9, 10, 11]

/-- What is so behind i steps. -/
structure PlayI (w : World) (wr : World) (i : Nat) : Prop where
  inv : ∃ ps L N, Inv w.heap.size wr w.heap.size N ps L ∧ 0 < L.length ∧ L.length ≤ i + 1 ∧ N ≤ i + 1
  bel : Below w.heap.size w wr

theorem PlayI.below {w wr wr' : World} {i : Nat} (h : PlayI w wr i) (hb : Below wr.heap.size wr wr') : PlayI w wr' i :=
  ⟨(let ⟨ps, L, N, a, b, c, d⟩ := h.inv; ⟨ps, L, N, a.below hb, b, c, d⟩), h.bel.trans (hb.mono h.bel.size)⟩

theorem PlayI.next {w wr : World} {i : Nat} (h : PlayI w wr i) : PlayI w wr (i + 1) :=
  ⟨(let ⟨ps, L, N, a, b, c, d⟩ := h.inv; ⟨ps, L, N, a, b, Nat.le_succ_of_le c, Nat.le_succ_of_le d⟩), h.bel⟩

theorem PlayI.drewN {w wr : World} {i : Nat} (h : PlayI w wr i) (n : Nat) : PlayI w (wr.drewN n) i := h.below ⟨rfl, rfl, rfl, Nat.le_refl _, fun _ _ => rfl⟩

theorem Inv.start (w : World) : Inv w.heap.size (w.alloc (.cells #[.slice none 0 0, .slice none 0 0, .slice none 0 0, .slice none 0 0] 69)) w.heap.size 0 (.slice none 0 0) [] :=
  ⟨⟨_, .slice none 0 0, [], ⟨heap_alloc_new w _, rfl, rfl, rfl, World.ownsRow_nil _ _ _ _, fun i hi => by omega⟩, rfl, fun g hg => by simp [Value.ownBlock] at hg⟩, Nat.le_refl _, World.ownsRow_nil _ _ _ _, fun s hs => (by cases hs), fun i j s t hi => (by simp at hi)⟩

/-- A step of a script. -/
theorem step_play {w wr : World} {i : Nat} (h : PlayI w wr i) (hi : i ≤ 926000000000) (d : OpD) (hd : OpDok w d) (hk : d.kd ∈ kindsL) :
    Calls Tryz.prog 24 #[.pointer (some ⟨w.heap.size, 0, none⟩), .agg d.cells] wr fun e w' => e = .returned (.bool true) ∧ PlayI w w' (i + 1) ∧ ∃ N, BookV w' w.heap.size 1 N ∧ N ≤ 1152921504606846976 := by
  obtain ⟨ps, L, N, hI, h1, h2, h3⟩ := h.inv
  have fin : ∀ e w', StepAny w.heap.size w.heap.size N L.length (L.length + 1) wr e w' → e = .returned (.bool true) ∧ PlayI w w' (i + 1) ∧ ∃ N, BookV w' w.heap.size 1 N ∧ N ≤ 1152921504606846976 := fun e w' ⟨q1, ⟨ps', L', N', q2, q3, q4, q5⟩, _, q6⟩ => by
    refine ⟨q1, ⟨⟨ps', L', N', q5, by omega, by omega, by omega⟩, h.bel.trans (q6.to_below (fun g hg => hg) hI.size)⟩, N', ?_, by omega⟩
    obtain ⟨pc, cv, xs, hbk, _⟩ := q5.play
    exact hbk.book
  by_cases e1 : d.kd = 1
  · unfold OpD.cells
    rw [e1]
    refine Calls.mono (step_new d.k d.a d.b d.c d.y d.r d.lv d.mv d.pv fun W hW => ?_) fin
    exact opened_all (hI.below hW) (by omega) d.k d.a d.b d.c d.y d.r d.lv d.mv d.pv
  · have hk' : d.kd = 2 ∨ d.kd = 3 ∨ d.kd = 4 ∨ d.kd = 5 ∨ d.kd = 6 ∨ d.kd = 7 ∨ d.kd = 9 ∨ d.kd = 10 ∨ d.kd = 11 := by
      unfold kindsL at hk
      simp at hk
      omega
    have hp : OpPix w.heap.size wr d.pv d.l := ⟨fun W' hW' => hd.pix.below (h.bel.trans (hW'.to_below (fun g hg => hg) hI.size)), hd.form, hd.fit, hd.byte⟩
    exact Calls.mono (step_on hI h1 (by omega) (by omega) d.kd d.k d.a d.b d.c hd.k64 d.y d.r d.lv d.mv d.pv d.l hp hk') fun e w' q => fin e w' (q.weak (Nat.le_refl _) (by omega))

theorem first_play {w wr : World} (hb : Below (w.heap.size + 1) (w.alloc (.cells #[.slice none 0 0, .slice none 0 0, .slice none 0 0, .slice none 0 0] 69)) wr) :
    Calls Tryz.prog 24 #[.pointer (some ⟨w.heap.size, 0, none⟩), .agg (opCells 1 0 6 5 2 false (0, 0, 0, 0) (.slice none 0 0) (.slice none 0 0) (.slice none 0 0))] wr fun e w' => e = .returned (.bool true) ∧ PlayI w w' 0 := by
  have hI : Inv w.heap.size wr w.heap.size 0 (.slice none 0 0) [] := (Inv.start w).below (by simpa using hb)
  have hbw : Below w.heap.size w wr := (al1 (Nat.le_refl _) _).trans (hb.mono (by omega))
  refine Calls.mono (step_new (n0 := w.heap.size) (N := 0) (lo := 1) (hi := 1) 0 6 5 2 false (0, 0, 0, 0) (.slice none 0 0) (.slice none 0 0) (.slice none 0 0) fun W hW => ?_) fun e w' ⟨q1, ⟨ps', L', N', q2, q3, q4, q5⟩, _, q6⟩ => ?_
  · exact opened_ok (hI.below hW) (by simp) 0 6 5 2 false (0, 0, 0, 0) (.slice none 0 0) (.slice none 0 0) (.slice none 0 0) (by omega) (by omega) (by omega)
  · exact ⟨q1, ⟨ps', L', N', q5, by omega, by omega, by omega⟩, hbw.trans (q6.to_below (fun g hg => hg) hI.size)⟩

def hasK (kd : Int) (j : Nat) : Bool := decide (kd ∈ kindsL.take j)

theorem hasK_succ (kd : Int) (j : Nat) (hj : j < kindsL.length) : hasK kd (j + 1) = (hasK kd j || decide (kd = kindsL[j])) := by
  unfold hasK
  rw [List.take_succ_eq_append_getElem hj, Bool.eq_iff_iff]
  simp only [Bool.or_eq_true, decide_eq_true_eq, List.mem_append, List.mem_singleton]

theorem hasK_all (kd : Int) (h : hasK kd 10 = true) : kd ∈ kindsL := by
  unfold hasK at h
  exact of_decide_eq_true h

set_option maxRecDepth 100000 in
set_option maxHeartbeats 1000000 in
/-- plays -/
theorem plays_any (D : List OpD) (v : Value) (kb : Nat) (w : World) (h : OpsAt w v D) (hD : D.length ≤ 926000000000) (hkb : kb < w.heap.size) (hks : ∀ j (hj : j < 10), w.cell? ⟨kb, j, none⟩ = some (.int .i64 (kindsL[j]'hj))) :
    Calls Tryz.prog 11 #[v, .slice (some ⟨kb, 0, none⟩) 10 10] w fun e w' => e = .returned (.bool true) ∧ Below w.heap.size w w' := by
  obtain ⟨sa, sc, hvf⟩ := h.form
  have hcs := h.cells sa sc hvf
  have HF := hide (fun (wr : World) (hb : Below (w.heap.size + 1) (w.alloc (.cells #[.slice none 0 0, .slice none 0 0, .slice none 0 0, .slice none 0 0] 69)) wr) => first_play hb)
  have HSt : Hid (∀ (wr : World) (i : Nat) (hi : i < D.length), PlayI w wr i → D[i].kd ∈ kindsL → Calls Tryz.prog 24 #[.pointer (some ⟨w.heap.size, 0, none⟩), .agg D[i].cells] wr fun e w' => e = .returned (.bool true) ∧ PlayI w w' (i + 1) ∧ ∃ N, BookV w' w.heap.size 1 N ∧ N ≤ 1152921504606846976) := fun wr i hi hp hk => step_play hp (by omega) D[i] (h.ok _ (List.getElem_mem hi)) hk
  have HW : Hid (∀ (wr : World) (N : Nat), BookV wr w.heap.size 1 N → N ≤ 1152921504606846976 → Calls Tryz.prog 25 #[.pointer (some ⟨w.heap.size, 1, none⟩)] wr fun e w' => e = .returned (.bool true) ∧ Below wr.heap.size wr w') := fun wr N hb hn => whole_any wr hb hn
  subst hvf
  obtain ⟨m, hm⟩ : ∃ m, D.length = m := ⟨_, rfl⟩
  have HKs := hide hks
  have HCs := hide hcs
  rw [hm] at hD ⊢
  clear h hcs hks
  unfold opCells at HF
  go_enter Tryz.func11, Tryz.ntmps11
  go_wp2_with (go_at_call 24; refine (HF.out _ (Below.refl _ _)).mono ?_; rintro e w1 ⟨rfl, hp1⟩; have HP1 := hide hp1; clear hp1)
  go_loopg [7] m (fun gg s7 wr => ∃ i : Nat, s7 = .int .i64 i ∧ gg + i = m ∧ PlayI w wr i)
  case atStart => exact ⟨0, rfl, by omega, HP1.out⟩
  case round =>
    rename World => wr
    obtain ⟨i, rfl, hgi, hPI⟩ := hrel
    have HPI := hide hPI
    clear hPI
    cases gk with
    | zero =>
      have hlt : ¬ (i : Int) < (m : Int) := by omega
      go_wp2
      go_ret
      exact ⟨rfl, HPI.out.bel⟩
    | succ gk =>
      have hlt : (i : Int) < (m : Int) := by omega
      have hi0 : (0 : Int) ≤ (i : Int) := by omega
      have him : i < D.length := by omega
      obtain ⟨hcap, b, off, hsa, hbl, hcl⟩ := HCs.out i him
      subst hsa
      have hcw : ∀ o u, D[i].cells[o]? = some u → wr.cell? ⟨b, off + i * 13 + o, none⟩ = some u := fun o u hu => (HPI.out.bel.cell (p := ⟨b, off + i * 13 + o, none⟩) hbl).trans (hcl o u hu)
      have HS2 : Hid (∀ W : World, PlayI w W i → D[i].kd ∈ kindsL → Calls Tryz.prog 24 #[.pointer (some ⟨w.heap.size, 0, none⟩), .agg D[i].cells] W fun e w' => e = .returned (.bool true) ∧ PlayI w w' (i + 1) ∧ ∃ N, BookV w' w.heap.size 1 N ∧ N ≤ 1152921504606846976) := fun W hW hk => HSt.out W i him hW hk
      obtain ⟨d, hd⟩ : ∃ d, D[i] = d := ⟨_, rfl⟩
      rw [hd] at HS2 hcw
      have HCw := hide hcw
      clear hcw hcl HSt HF HP1 hd
      have c0 : wr.cell? ⟨b, off + i * 13, none⟩ = some (.int .i64 d.kd) := HCw.out 0 _ rfl
      have hic : i < sc := by omega
      go_wp2_with fail
      go_loopg [8, 9] 10 (fun gg s8 s9 wi => ∃ j nq : Nat, s9 = .int .i64 j ∧ gg + j = 10 ∧ s8 = .bool (hasK d.kd j) ∧ wi = wr.drewN nq)
      case atStart => exact ⟨0, 0, rfl, rfl, rfl, rfl⟩
      case round =>
        rename World => wi
        rename Nat => gj
        obtain ⟨j, nq, rfl, hgj, rfl, rfl⟩ := hrel
        cases gj with
        | zero =>
          have hj10 : j = 10 := by omega
          subst hj10
          cases hk : hasK d.kd 10 with
          | false =>
            go_wp2_with fail
            go_roundg gk
            case measure => omega
            case rel => exact ⟨i + 1, by go_num, by omega, (HPI.out.drewN nq).next⟩
          | true =>
            have HG : Hid (Calls Tryz.prog 24 #[.pointer (some ⟨w.heap.size, 0, none⟩), .agg #[.int .i64 d.kd, .int .i64 d.k, .int .i64 d.a, .int .i64 d.b, .int .i64 d.c, .bool d.y, .int .i64 d.r.1, .int .i64 d.r.2.1, .int .i64 d.r.2.2.1, .int .i64 d.r.2.2.2, d.lv, d.mv, d.pv]] (wr.drewN nq) fun e w' => e = .returned (.bool true) ∧ PlayI w w' (i + 1) ∧ ∃ N, BookV w' w.heap.size 1 N ∧ N ≤ 1152921504606846976) := HS2.out _ (HPI.out.drewN nq) (hasK_all _ hk)
            have c1 : wr.cell? ⟨b, off + i * 13 + 1, none⟩ = some (.int .i64 d.k) := HCw.out 1 _ rfl
            have c2 : wr.cell? ⟨b, off + i * 13 + 2, none⟩ = some (.int .i64 d.a) := HCw.out 2 _ rfl
            have c3 : wr.cell? ⟨b, off + i * 13 + 3, none⟩ = some (.int .i64 d.b) := HCw.out 3 _ rfl
            have c4 : wr.cell? ⟨b, off + i * 13 + 4, none⟩ = some (.int .i64 d.c) := HCw.out 4 _ rfl
            have c5 : wr.cell? ⟨b, off + i * 13 + 5, none⟩ = some (.bool d.y) := HCw.out 5 _ rfl
            have c6 : wr.cell? ⟨b, off + i * 13 + 6, none⟩ = some (.int .i64 d.r.1) := HCw.out 6 _ rfl
            have c7 : wr.cell? ⟨b, off + i * 13 + 7, none⟩ = some (.int .i64 d.r.2.1) := HCw.out 7 _ rfl
            have c8 : wr.cell? ⟨b, off + i * 13 + 8, none⟩ = some (.int .i64 d.r.2.2.1) := HCw.out 8 _ rfl
            have c9 : wr.cell? ⟨b, off + i * 13 + 9, none⟩ = some (.int .i64 d.r.2.2.2) := HCw.out 9 _ rfl
            have c10 : wr.cell? ⟨b, off + i * 13 + 10, none⟩ = some d.lv := HCw.out 10 _ rfl
            have c11 : wr.cell? ⟨b, off + i * 13 + 11, none⟩ = some d.mv := HCw.out 11 _ rfl
            have c12 : wr.cell? ⟨b, off + i * 13 + 12, none⟩ = some d.pv := HCw.out 12 _ rfl
            go_wp2_with (first
              | (go_at_call 24; refine HG.out.mono ?_; rintro e w5 ⟨rfl, hp5, N5, hb5, hn5⟩; have H5 := hide hp5; have HB5 := hide hb5; clear hp5 hb5)
              | (go_at_call 25; refine (HW.out _ N5 HB5.out hn5).mono ?_; rintro e w6 ⟨rfl, hb6⟩; have H6 := hide (H5.out.below hb6); clear hb6)
              | fail)
            go_roundg gk
            case measure => omega
            case rel => exact ⟨i + 1, by go_num, by omega, H6.out⟩
        | succ gj =>
          have hj : j < 10 := by omega
          have hj1 : (j : Int) < 10 := by omega
          have hj0 : (0 : Int) ≤ (j : Int) := by omega
          have hkc : wr.cell? ⟨kb, j, none⟩ = some (.int .i64 (kindsL[j]'hj)) := (HPI.out.bel.cell (p := ⟨kb, j, none⟩) hkb).trans (HKs.out j hj)
          have hsucc := hasK_succ d.kd j hj
          obtain ⟨kk, hkk⟩ : ∃ kk, kindsL[j]'hj = kk := ⟨_, rfl⟩
          rw [hkk] at hkc
          have hkk' : (kindsL[j]'hj) = kk := hkk
          cases hk : hasK d.kd j with
          | true =>
            go_upto_region 12 with fail
            go_quiet (fail)
            go_wp2_with fail
            go_roundg gj
            case measure => omega
            case rel => exact ⟨j + 1, _, by go_num, by omega, by rw [hsucc, hk]; rfl, by first | rfl | (simp; rfl)⟩
          | false =>
            go_upto_region 12 with fail
            go_quiet (fail)
            go_wp2_with fail
            go_roundg gj
            case measure => omega
            case rel => exact ⟨j + 1, _, by go_num, by omega, by rw [hsucc, hk, hkk', Bool.false_or]; rfl, by first | rfl | (simp; rfl)⟩

end Go.Proofs.YtofinpocigbbeaaGreat

/-! Arg -/
namespace Go.Proofs.YtofinpocigbbeaaGreat
open Go.RowKit Go.ChangeShapes Go.WideShapes Go.ChangeAt Go.Deep

theorem arg_own : ownKnob Tryz.prog.godebug = none := by kernel_rfl
theorem arg_laidOut : laidOutB Tryz.prog = true := by kernel_rfl
theorem cellsInt : Tryz.prog.cellsOf 3 = 1 := by kernel_rfl
theorem cellsRect : Tryz.prog.cellsOf 53 = 4 := by kernel_rfl

theorem int64 {x : Int} (h : (Lit.int .i64 x).wf = true) : -9223372036854775808 ≤ x ∧ x ≤ 9223372036854775807 := by
  have := bounds_i64 h
  omega

/-- A number that came in fits. -/
def fits64 (x : Int) : Prop := -9223372036854775808 ≤ x ∧ x ≤ 9223372036854775807

theorem add_off (b off o : Nat) : (⟨b, off, none⟩ : Addr).add o = ⟨b, off + o, none⟩ := by unfold Addr.add; split <;> simp_all

theorem choose_list (n : Nat) (Q : Nat → (Int × Int × Int × Int) → Prop) (h : ∀ i, i < n → ∃ r, Q i r) : ∃ l : List (Int × Int × Int × Int), l.length = n ∧ ∀ i (hi : i < l.length), Q i l[i] := by
  induction n with
  | zero => exact ⟨[], rfl, fun i hi => by simp at hi⟩
  | succ n ih =>
    obtain ⟨l, hl, hq⟩ := ih fun i hi => h i (by omega)
    obtain ⟨r, hr⟩ := h n (by omega)
    refine ⟨l ++ [r], by simp [hl], fun i hi => ?_⟩
    by_cases e : i < l.length
    · rw [List.getElem_append_left e]; exact hq i e
    · have : i = l.length := by simp at hi; omega
      subst this
      rw [List.getElem_append_right (by omega)]
      simp
      rw [hl]; exact hr

set_option maxRecDepth 100000 in
set_option maxHeartbeats 1000000 in
/-- A slice of rectangles that came in. -/
theorem open_rects {H : Type} {enc : TypeId × Value → H} {W : World} {base : Nat} {v : Value} {d : DataW H} {p : List MemPlace}
    (hv : Value.okWide Tryz.prog W .any base 33 v) (h : DataW.Trod enc Tryz.prog W 0 (fun _ => true) true 33 v d p) :
    ∃ l : List (Int × Int × Int × Int), RectsAt W v l ∧ l.length ≤ maxLen ∧ ∀ r ∈ l, fits64 r.1 ∧ fits64 r.2.1 ∧ fits64 r.2.2.1 ∧ fits64 r.2.2.2 := by
  obtain ⟨x, ln, cp, rfl⟩ := okWide_slice Tryz.underlying33 hv
  obtain ⟨fuel, hf⟩ := h
  rcases open_slice Tryz.underlying33 hf with ⟨hcs, _⟩ | ⟨a, len, cap, m, n, D, Pl, hcs, _, hl, hm, hmm, _, hx⟩
  · simp [Value.cells] at hcs
    obtain ⟨rfl, rfl, rfl⟩ := hcs
    exact ⟨[], ⟨none, 0, rfl, fun h => by simp at h⟩, by simp, fun r hr => by simp at hr⟩
  · simp [Value.cells] at hcs
    obtain ⟨rfl, rfl, rfl⟩ := hcs
    have hm' : m = cp := by simpa using hmm
    subst hm'
    obtain ⟨b, off, spot⟩ := a
    have each : ∀ i, i < ln → ∃ r : Int × Int × Int × Int, (W.cell? ((⟨b, off, spot⟩ : Addr).add (i * 4)) = some (.int .i64 r.1) ∧ W.cell? ((⟨b, off, spot⟩ : Addr).add (i * 4 + 1)) = some (.int .i64 r.2.1) ∧ W.cell? ((⟨b, off, spot⟩ : Addr).add (i * 4 + 2)) = some (.int .i64 r.2.2.1) ∧ W.cell? ((⟨b, off, spot⟩ : Addr).add (i * 4 + 3)) = some (.int .i64 r.2.2.2)) ∧ fits64 r.1 ∧ fits64 r.2.1 ∧ fits64 r.2.2.1 ∧ fits64 r.2.2.2 := by
      intro i hi
      obtain ⟨cs', h1, h2⟩ := hx i (by omega)
      rw [cellsRect] at h1
      obtain ⟨_, hlen, hcell⟩ := World.cells?_some h1
      obtain ⟨y0, y1, y2, y3, k, _, _, g0, g1, g2, g3⟩ := Go.Joins.trod_struct4 Tryz.underlying53 h2
      match cs', hlen with
      | [v0, v1, v2, v3], _ =>
        simp [cellsInt] at g0 g1 g2 g3
        obtain ⟨x0, e0, _, w0⟩ := DataW.trod_int Tryz.underlying3 g0
        obtain ⟨x1, e1, _, w1⟩ := DataW.trod_int Tryz.underlying3 g1
        obtain ⟨x2, e2, _, w2⟩ := DataW.trod_int Tryz.underlying3 g2
        obtain ⟨x3, e3, _, w3⟩ := DataW.trod_int Tryz.underlying3 g3
        simp at e0 e1 e2 e3
        subst e0 e1 e2 e3
        have q0 := hcell 0 (by omega)
        have q1 := hcell 1 (by omega)
        have q2 := hcell 2 (by omega)
        have q3 := hcell 3 (by omega)
        rw [add_add] at q0 q1 q2 q3
        exact ⟨(x0, x1, x2, x3), ⟨by simpa using q0, by simpa using q1, by simpa using q2, by simpa using q3⟩, int64 w0, int64 w1, int64 w2, int64 w3⟩
    obtain ⟨l, hll, hq⟩ := choose_list ln _ each
    subst hll
    refine ⟨l, ⟨_, m, rfl, fun hpos => ?_⟩, by omega, fun r hr => ?_⟩
    · have hs : spot = none := by
        have := (hq 0 hpos).1.1
        simpa [Addr.add] using World.cell?_spot this
      subst hs
      refine ⟨b, off, rfl, fun k hk => ?_⟩
      obtain ⟨⟨a1, a2, a3, a4⟩, _⟩ := hq k hk
      rw [add_off] at a1 a2 a3 a4
      exact ⟨a1, a2, a3, a4⟩
    · obtain ⟨i, hi, rfl⟩ := List.getElem_of_mem hr
      exact (hq i hi).2

end Go.Proofs.YtofinpocigbbeaaGreat

/-! OpA -/
namespace Go.Proofs.YtofinpocigbbeaaGreat
open Go.ChangeShapes Go.WideShapes Go.ChangeAt Go.RowKit Go.Deep

theorem cellsByte : Tryz.prog.cellsOf 5 = 1 := by kernel_rfl
theorem cellsBool : Tryz.prog.cellsOf 4 = 1 := by kernel_rfl
theorem cellsPixel : Tryz.prog.cellsOf 51 = 4 := by kernel_rfl
theorem cellsRects : Tryz.prog.cellsOf 33 = 1 := by kernel_rfl
theorem cellsPixels : Tryz.prog.cellsOf 44 = 1 := by kernel_rfl
theorem cellsOp : Tryz.prog.cellsOf 72 = 13 := by kernel_rfl
theorem pixelBytes : Tryz.prog.bytesOf 51 = 4 := by kernel_rfl
theorem opBytes : Tryz.prog.bytesOf 72 = 152 := by kernel_rfl

theorem choose_rows {α : Type} (n : Nat) (Q : Nat → α → Prop) (h : ∀ i, i < n → ∃ r, Q i r) : ∃ l : List α, l.length = n ∧ ∀ i (hi : i < l.length), Q i l[i] := by
  induction n with
  | zero => exact ⟨[], rfl, fun i hi => by simp at hi⟩
  | succ n ih =>
    obtain ⟨l, hl, hq⟩ := ih fun i hi => h i (by omega)
    obtain ⟨r, hr⟩ := h n (by omega)
    refine ⟨l ++ [r], by simp [hl], fun i hi => ?_⟩
    by_cases e : i < l.length
    · rw [List.getElem_append_left e]; exact hq i e
    · have : i = l.length := by simp at hi; omega
      subst this
      rw [List.getElem_append_right (by omega)]
      simp
      rw [hl]; exact hr

theorem byte8 {x : Int} (h : (Lit.int .u8 x).wf = true) : 0 ≤ x := (bounds_u8 h).1
theorem byte8' {x : Int} (h : (Lit.int .u8 x).wf = true) : x ≤ 255 := (bounds_u8 h).2

set_option maxRecDepth 100000 in
set_option maxHeartbeats 1000000 in
/-- A slice of pixels that came in. -/
theorem open_pixels {H : Type} {enc : TypeId × Value → H} {W : World} {fuel : Nat} {cs : List Value} {x : DataW H × List MemPlace}
    (hf : DataW.trod enc Tryz.prog W 0 (fun _ => true) true fuel 44 cs = some x) :
    ∃ (v : Value) (l : List R4), cs = [v] ∧ PixAt W v l ∧ ByteL l ∧ ((v = .slice none 0 0 ∧ l = []) ∨ ((∃ ad c, v = .slice (some ad) l.length c) ∧ ∃ el sp, x.1 = .slice el sp ∧ el.length = l.length)) := by
  rcases open_slice Tryz.underlying44 hf with ⟨hcs, _⟩ | ⟨a, ln, cp, m, n, D, Pl, hcs, _, hl, hm, hmm, hd, hx⟩
  · exact ⟨_, [], hcs, ⟨none, 0, rfl, fun h => by simp at h⟩, fun r hr => (by cases hr), .inl ⟨rfl, rfl⟩⟩
  · subst hcs
    have hm' : m = cp := by simpa using hmm
    subst hm'
    obtain ⟨b, off, spot⟩ := a
    have each : ∀ i, i < ln → ∃ r : R4, (W.cell? ((⟨b, off, spot⟩ : Addr).add (i * 4)) = some (.int .u8 r.1) ∧ W.cell? ((⟨b, off, spot⟩ : Addr).add (i * 4 + 1)) = some (.int .u8 r.2.1) ∧ W.cell? ((⟨b, off, spot⟩ : Addr).add (i * 4 + 2)) = some (.int .u8 r.2.2.1) ∧ W.cell? ((⟨b, off, spot⟩ : Addr).add (i * 4 + 3)) = some (.int .u8 r.2.2.2) ∧ (0 ≤ r.1 ∧ 0 ≤ r.2.1 ∧ 0 ≤ r.2.2.1 ∧ r.2.2.2 ≤ 255)) := by
      intro i hi
      obtain ⟨cs', h1, h2⟩ := hx i (by omega)
      rw [cellsPixel] at h1
      obtain ⟨_, hlen, hcell⟩ := World.cells?_some h1
      obtain ⟨xs, k, _, _, _, hxl, hg⟩ := DataW.trod_array Tryz.underlying51 h2
      have g0 := hg 0 (by omega)
      have g1 := hg 1 (by omega)
      have g2 := hg 2 (by omega)
      have g3 := hg 3 (by omega)
      rw [List.getElem?_eq_getElem (by omega)] at g0 g1 g2 g3
      match cs', hlen with
      | [v0, v1, v2, v3], _ =>
        simp [cellsByte] at g0 g1 g2 g3
        obtain ⟨x0, e0, _, w0⟩ := DataW.trod_int Tryz.underlying5 g0
        obtain ⟨x1, e1, _, w1⟩ := DataW.trod_int Tryz.underlying5 g1
        obtain ⟨x2, e2, _, w2⟩ := DataW.trod_int Tryz.underlying5 g2
        obtain ⟨x3, e3, _, w3⟩ := DataW.trod_int Tryz.underlying5 g3
        simp at e0 e1 e2 e3
        subst e0 e1 e2 e3
        have q0 := hcell 0 (by omega)
        have q1 := hcell 1 (by omega)
        have q2 := hcell 2 (by omega)
        have q3 := hcell 3 (by omega)
        rw [add_add] at q0 q1 q2 q3
        exact ⟨(x0, x1, x2, x3), ⟨by simpa using q0, by simpa using q1, by simpa using q2, by simpa using q3, byte8 w0, byte8 w1, byte8 w2, byte8' w3⟩⟩
    obtain ⟨l, hll, hq⟩ := choose_rows ln _ each
    subst hll
    refine ⟨_, l, rfl, ⟨_, m, rfl, fun hpos => ⟨hl, ?_⟩⟩, fun r hr => (by obtain ⟨k, hk, rfl⟩ := List.mem_iff_getElem.1 hr; exact (hq k hk).2.2.2.2), .inr ⟨⟨_, m, rfl⟩, _, _, (Prod.ext_iff.1 hd).1, by simp⟩⟩
    have hs : spot = none := by
      have := (hq 0 hpos).1
      simpa [Addr.add] using World.cell?_spot this
    subst hs
    refine ⟨b, off, rfl, fun k hk => ?_⟩
    obtain ⟨a1, a2, a3, a4, _⟩ := hq k hk
    rw [add_off] at a1 a2 a3 a4
    exact ⟨a1, a2, a3, a4⟩

theorem list13 {α : Type} {cs : List α} (h : cs.length = 13) : ∃ c0 c1 c2 c3 c4 c5 c6 c7 c8 c9 c10 c11 c12, cs = [c0, c1, c2, c3, c4, c5, c6, c7, c8, c9, c10, c11, c12] := by
  match cs, h with
  | [c0, c1, c2, c3, c4, c5, c6, c7, c8, c9, c10, c11, c12], _ => exact ⟨_, _, _, _, _, _, _, _, _, _, _, _, _, rfl⟩

set_option maxRecDepth 100000 in
set_option maxHeartbeats 1000000 in
/-- An Op that came in. -/
theorem open_op {H : Type} {enc : TypeId × Value → H} {W : World} {fuel : Nat} {cs : List Value} {x : DataW H × List MemPlace}
    (hf : DataW.trod enc Tryz.prog W 0 (fun _ => true) true fuel 72 cs = some x) (hs : ∀ n ∈ x.1.weights Tryz.prog 72, n ≤ reachBytes) :
    ∃ d : OpD, cs = d.cells.toList ∧ OpDok W d := by
  obtain ⟨xs, n, _, rfl, hlen, hxl, hfs⟩ := DataW.trod_struct Tryz.underlying72 hf
  rw [cellsOp] at hlen
  obtain ⟨c0, c1, c2, c3, c4, c5, c6, c7, c8, c9, c10, c11, c12, rfl⟩ := list13 hlen
  have g0 := hfs 0 _ rfl
  have g1 := hfs 1 _ rfl
  have g2 := hfs 2 _ rfl
  have g3 := hfs 3 _ rfl
  have g4 := hfs 4 _ rfl
  have g5 := hfs 5 _ rfl
  have g6 := hfs 6 _ rfl
  have g9 := hfs 9 _ rfl
  have hxl' : xs.length = 10 := hxl
  rw [List.getElem?_eq_getElem (by omega)] at g0 g1 g2 g3 g4 g5 g6 g9
  simp [cellsInt, cellsBool, cellsRect, cellsPixels] at g0 g1 g2 g3 g4 g5 g6 g9
  obtain ⟨x0, e0, _, w0⟩ := DataW.trod_int Tryz.underlying3 g0
  obtain ⟨x1, e1, _, w1⟩ := DataW.trod_int Tryz.underlying3 g1
  obtain ⟨x2, e2, _, w2⟩ := DataW.trod_int Tryz.underlying3 g2
  obtain ⟨x3, e3, _, w3⟩ := DataW.trod_int Tryz.underlying3 g3
  obtain ⟨x4, e4, _, w4⟩ := DataW.trod_int Tryz.underlying3 g4
  obtain ⟨x5, e5, _⟩ := DataW.trod_bool Tryz.underlying4 g5
  obtain ⟨y0, y1, y2, y3, k, _, _, r0, r1, r2, r3⟩ := Go.Joins.trod_struct4 Tryz.underlying53 g6
  simp [cellsInt] at r0 r1 r2 r3
  obtain ⟨z0, f0, _⟩ := DataW.trod_int Tryz.underlying3 r0
  obtain ⟨z1, f1, _⟩ := DataW.trod_int Tryz.underlying3 r1
  obtain ⟨z2, f2, _⟩ := DataW.trod_int Tryz.underlying3 r2
  obtain ⟨z3, f3, _⟩ := DataW.trod_int Tryz.underlying3 r3
  obtain ⟨pv, l, e9, hp, hby, hform⟩ := open_pixels g9
  simp at e0 e1 e2 e3 e4 e5 f0 f1 f2 f3 e9
  subst e0 e1 e2 e3 e4 e5 f0 f1 f2 f3 e9
  refine ⟨⟨x0, x1, x2, x3, x4, x5, (z0, z1, z2, z3), c10, c11, c12, l⟩, rfl, ⟨int64 w1, hp, hform.imp id And.left, ?_, hby⟩⟩
  rcases hform with ⟨_, rfl⟩ | ⟨_, el, sp, hx, hel⟩
  · simp
  · have hm := hs ((el.length + sp.length) * 4) (by
      simp only [DataW.weights, Tryz.underlying72]
      refine DataW.weights_mem_each (j := 9) rfl (d := xs[9].1) (by simp [hxl']) _ ?_
      rw [hx]
      simp [DataW.weights, Tryz.underlying44, pixelBytes])
    unfold reachBytes at hm
    show l.length * 4 ≤ _
    omega

theorem weightsAll_mem {H : Type} {P : Program} {e : TypeId} : ∀ {l : List (DataW H)} {d : DataW H}, d ∈ l → ∀ n ∈ d.weights P e, n ∈ DataW.weightsAll P e l
  | y :: l, d, h, n, hn => by
    simp only [DataW.weightsAll, List.mem_append]
    rcases List.mem_cons.1 h with rfl | h
    · exact Or.inl hn
    · exact Or.inr (weightsAll_mem h n hn)

set_option maxRecDepth 100000 in
set_option maxHeartbeats 1000000 in
/-- A script that came in. -/
theorem open_ops {H : Type} {enc : TypeId × Value → H} {W : World} {base : Nat} {v : Value} {d : DataW H} {p : List MemPlace}
    (hv : Value.okWide Tryz.prog W .any base 22 v) (h : DataW.Trod enc Tryz.prog W 0 (fun _ => true) true 22 v d p) (hs : ∀ n ∈ d.weights Tryz.prog 22, n ≤ reachBytes) :
    ∃ D : List OpD, OpsAt W v D ∧ D.length ≤ 926000000000 := by
  obtain ⟨x, ln, cp, rfl⟩ := okWide_slice Tryz.underlying22 hv
  obtain ⟨fuel, hf⟩ := h
  rcases open_slice Tryz.underlying22 hf with ⟨hcs, _⟩ | ⟨a, len, cap, m, n, D, Pl, hcs, _, hl, hm, hmm, hd, hx⟩
  · simp [Value.cells] at hcs
    obtain ⟨rfl, rfl, rfl⟩ := hcs
    exact ⟨[], ⟨⟨none, 0, rfl⟩, fun a c _ i hi => by simp at hi, fun d hd => by simp at hd⟩, by simp⟩
  · simp [Value.cells] at hcs
    obtain ⟨rfl, rfl, rfl⟩ := hcs
    have hm' : m = cp := by simpa using hmm
    subst hm'
    obtain rfl := (Prod.ext_iff.1 hd).1
    obtain ⟨b, off, spot⟩ := a
    have each : ∀ i, i < ln → ∃ o : OpD, (∀ k, k < 13 → W.cell? ((⟨b, off, spot⟩ : Addr).add (i * 13 + k)) = o.cells[k]?) ∧ OpDok W o := by
      intro i hi
      obtain ⟨cs', h1, h2⟩ := hx i (by omega)
      rw [cellsOp] at h1
      obtain ⟨_, hlen, hcell⟩ := World.cells?_some h1
      obtain ⟨o, rfl, ho⟩ := open_op h2 fun nn hn => hs nn (by
        simp only [DataW.weights, Tryz.underlying22, List.mem_cons, List.mem_append]
        exact .inr (.inl (weightsAll_mem (d := D i) (List.mem_map.2 ⟨i, List.mem_range.2 hi, rfl⟩) nn hn)))
      refine ⟨o, fun k hk => ?_, ho⟩
      have q := hcell k hk
      rw [add_add] at q
      simpa using q
    obtain ⟨l, hll, hq⟩ := choose_rows ln _ each
    subst hll
    have hsz := hs ((l.length + (m - l.length)) * 152) (by simp [DataW.weights, Tryz.underlying22, opBytes])
    unfold reachBytes at hsz
    refine ⟨l, ⟨⟨_, m, rfl⟩, fun a c e i hi => ?_, fun d hd => ?_⟩, by omega⟩
    · simp only [Value.slice.injEq] at e
      obtain ⟨rfl, _, rfl⟩ := e
      have hc0 : ∀ o : OpD, ∃ u, o.cells[0]? = some u := fun o => ⟨_, rfl⟩
      have h00 := (hq 0 (by omega)).1 0 (by omega)
      obtain ⟨u0, hu0⟩ := hc0 (l[0]'(by omega))
      rw [hu0] at h00
      have hsp : spot = none := by simpa [Addr.add] using World.cell?_spot h00
      subst hsp
      have h0 := (hq i hi).1 0 (by omega)
      obtain ⟨u, hu⟩ := hc0 l[i]
      rw [hu] at h0
      rw [add_off] at h0
      refine ⟨hl, b, off, rfl, cell_lt h0, fun o u' hu' => ?_⟩
      have ho : o < 13 := by
        have := (Array.getElem?_eq_some_iff.1 hu').1
        exact this
      have := (hq i hi).1 o ho
      rw [add_off, hu'] at this
      rw [← this]
      congr 2
      omega
    · obtain ⟨i, hi, rfl⟩ := List.getElem_of_mem hd
      exact (hq i hi).2

end Go.Proofs.YtofinpocigbbeaaGreat

/-! ScnP -/
namespace Go.Proofs.YtofinpocigbbeaaGreat
open Go.ChangeShapes Go.WideShapes Go.ChangeAt Go.RowKit Go.Deep

theorem OpDok.below {w w' : World} {d : OpD} (h : OpDok w d) (hb : Below w.heap.size w w') : OpDok w' d := ⟨h.k64, h.pix.below hb, h.form, h.fit, h.byte⟩

theorem OpsAt.below {w w' : World} {v : Value} {D : List OpD} (h : OpsAt w v D) (hb : Below w.heap.size w w') : OpsAt w' v D :=
  ⟨h.form, fun a c e i hi => by
    obtain ⟨h1, b, off, h2, h3, h4⟩ := h.cells a c e i hi
    exact ⟨h1, b, off, h2, Nat.lt_of_lt_of_le h3 hb.size, fun o u hu => (hb.cell (p := ⟨b, off + i * 13 + o, none⟩) h3).trans (h4 o u hu)⟩,
  fun d hd => (h.ok d hd).below hb⟩

def kindsA : Array Value := #[.int .i64 1, .int .i64 2, .int .i64 3, .int .i64 4, .int .i64 5, .int .i64 6, .int .i64 7, .int .i64 9, .int .i64 10, .int .i64 11]

theorem kindsA_at (j : Nat) (hj : j < 10) : kindsA[j]? = some (.int .i64 (kindsL[j]'hj)) := by
  match j, hj with
  | 0, _ | 1, _ | 2, _ | 3, _ | 4, _ | 5, _ | 6, _ | 7, _ | 8, _ | 9, _ => rfl

set_option maxRecDepth 100000 in
set_option maxHeartbeats 1000000 in
theorem scenes_walk (D : List OpD) (v : Value) (w : World) (h : OpsAt w v D) (hD : D.length ≤ 926000000000) :
    Calls Tryz.prog 3 #[v] w fun e w' => e = .returned (.bool true) ∧ Below w.heap.size w w' := by
  have hb0 := (Below.refl w.heap.size w).alloc (Nat.le_refl _) (.cells kindsA 3)
  have HP := hide (plays_any D v w.heap.size _ (h.below hb0) hD (by simp) fun j hj => (Joins.cell_of_block (heap_alloc_new w _) j).trans (kindsA_at j hj))
  have HB := hide hb0
  clear h hb0
  unfold kindsA at HP HB
  go_enter Tryz.func3, Tryz.ntmps3
  go_wp2_with (go_at_call 11; refine HP.out.mono ?_; rintro e w1 ⟨rfl, b1⟩; have H1 := hide (HB.out.trans (b1.mono (by simp))); clear b1)
  go_ret
  exact ⟨rfl, H1.out⟩

set_option maxRecDepth 100000 in
theorem scenes_lifted (os : Os) (started : os.Started) (H : Type) (enc : TypeId × Value → H) :
    ReturnsInHanded {} Tryz.checked os 3 .any (Rows.scenesSpec.pre6 enc Tryz.prog Tryz.f3 Rows.scenesRow.domain false) (Rows.scenesSpec.post enc Tryz.prog Tryz.f3 false true false false) := by
  refine returnsInHanded_of_change_sized (C := Tryz.checked) arg_own started (by kernel_rfl) Tryz.func3
    (ChangeSpec.witness6 (enc := enc) (C := Tryz.checked) false ⟨#[], #[.slice none 0 0], []⟩ 8 (by kernel_rfl) (by kernel_rfl) (by kernel_rfl) (by kernel_rfl)) ?_
  intro W base args ds gs before hval0 hW hcnd hsz0 _
  have hval : ∀ (j : Nat) t v, Tryz.f3.params[j]? = some t → args[j]? = some v → Value.okWide Tryz.prog W .any base t v := hval0
  have hsz : (DataW.weightsEach Tryz.prog (Tryz.f3.params.toList ++ Rows.scenesSpec.plain.varTypes Tryz.prog) (ds ++ gs)).all (· ≤ reachBytes) = true := hsz0
  have hW' := hW
  obtain ⟨p, q, hA0, hV, rfl, hfz, hnd⟩ := hW
  have hA : DataW.TrodAll enc Tryz.prog W 0 (fun _ => true) true Tryz.f3.params.toList args.toList ds p := hA0
  rw [Tryz.params3] at hA hval hsz
  obtain ⟨v0, d0, rfl, rfl, h0⟩ := trodAll_one hA
  obtain ⟨rfl, rfl⟩ := trodVars_none hV
  have lt0 : ∀ x ∈ p, x.block < W.heap.size := by obtain ⟨m, hm⟩ := h0; exact DataW.trod_lt m _ _ _ hm
  obtain ⟨D, hD, hlen⟩ := open_ops (hval 0 22 v0 rfl rfl) h0 fun n hn => by
    have := List.all_eq_true.1 hsz n (DataW.weights_mem_each (j := 0) rfl rfl n hn)
    simpa using this
  clear hA0 hval0
  refine (scenes_walk D v0 W hD hlen).mono fun e W' ⟨he, bel⟩ => ?_
  subst he
  exact ⟨_, rfl, _, _, _, [], _, [], hW', trodAll_mk1 (shut_bool Tryz.underlying4 _), (trodAll_cons_mk (Below.trod arg_laidOut (by kernel_rfl) (of_decide_eq_true (by kernel_rfl)) h0 bel lt0) trodAll_mk0), rfl, bel.frame _, fun h => by cases h⟩

theorem scenes_holds : Rows.ScenesSaid :=
  OpenClaim.holds_of_wide 3 Tryz.f3 rfl rfl rfl rfl rfl rfl rfl ⟨rfl, rfl, rfl, rfl, rfl⟩ rfl rfl rfl rfl rfl (by kernel_rfl) Tryz.func3 (by kernel_rfl)
    (of_decide_eq_true (by kernel_rfl)) (by unfold Func.isWrapper; first | (rw [if_pos (by decide +kernel)]; kernel_rfl) | (rw [if_neg (by decide +kernel)]; exact ⟨rfl, rfl⟩))
    (fun os started H enc _ => scenes_lifted os started H enc)

#print axioms scenes_holds
end Go.Proofs.YtofinpocigbbeaaGreat
