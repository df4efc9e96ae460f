import Derived.Test.YtlaflopimpnjpaaGreatSg22
import Derived.Test.YtlaflopimpnjpaaGreatSg33
import Derived.Test.YtlaflopimpnjpaaGreatSg32
import Derived.Test.YtlaflopimpnjpaaGreatSg35
import Derived.Test.YtlaflopimpnjpaaGreatSg36
/-! Ply -/
namespace Go.Proofs.YtlaflopimpnjpaaGreat
open Go.RowKit

/-! ### What is played: the screens of both sides, the book -/

/-- The types of the law's own blocks. -/
def Law (t : TypeId) : Prop := t = 63 ∨ t = 61 ∨ t = 60 ∨ t = 34 ∨ t = 49 ∨ t = 41

def NotLaw (w : World) (g : Nat) : Prop := ∀ (cur : Array Value) (t : TypeId), Law t → w.heap[g]? ≠ some (.cells cur t (0, 0))

theorem NotLaw.of {w : World} {g : Nat} {cur : Array Value} {t : TypeId} (h : w.heap[g]? = some (.cells cur t (0, 0))) (ht : ¬ Law t) : NotLaw w g := fun c t' hl e => by
  rw [h] at e
  injection e with e
  injection e with _ e2
  subst e2
  exact ht hl

theorem NotLaw.keep {w w' : World} {g : Nat} (h : NotLaw w g) (e : w'.heap[g]? = w.heap[g]?) : NotLaw w' g := fun c t hl => by rw [e]; exact h c t hl

/-- Of these blocks: those that lie there, and are none of the law's. -/
def RS (S : Nat → Prop) (w : World) : Nat → Prop := fun g => S g ∧ g < w.heap.size ∧ NotLaw w g

theorem RowS.rs {w : World} {S : Nat → Prop} {T : TypeId} {k : Nat} {v : Value} {n : Nat} {xs : List Value} (h : RowS w S T k v n xs) (hT : ¬ Law T) : RowS w (RS S w) T k v n xs :=
  ⟨h.1, fun g hg => ⟨h.2 g hg, (h.1.lt g hg).2, by obtain ⟨cur, hc⟩ := h.type hg; exact .of hc hT⟩⟩

theorem rs_cells {w : World} {S : Nat → Prop} {g : Nat} {cur : Array Value} {t : TypeId} (h : w.heap[g]? = some (.cells cur t (0, 0))) (hS : S g) (ht : ¬ Law t) : RS S w g := ⟨hS, (Array.getElem?_eq_some_iff.1 h).1, .of h ht⟩

theorem PaneOk.rs {w : World} {S : Nat → Prop} {x : Nat} {st : St} (h : PaneOk w S x st) : PaneOk w (RS S w) x st := by
  obtain ⟨bv, sc, mp, blk, G, h⟩ := h
  refine ⟨bv, sc, mp, blk, G, h.scr, h.sce, h.map, h.srf, ⟨rs_cells h.scr h.own.1 (by unfold Law; decide), rs_cells h.sce h.own.2.1 (by unfold Law; decide), ⟨h.own.2.2.1, h.map.lt, fun c t _ e => h.map.ne e rfl⟩, fun p hp => ?_⟩, h.inj, fun p hp => (h.on p hp).rs (by unfold Law; decide), h.apart, h.cells⟩
  obtain ⟨cur, h1, _⟩ := h.srf p hp
  exact rs_cells h1 (h.own.2.2.2 p hp) (by unfold Law; decide)

theorem PixRow.rs {w : World} {S : Nat → Prop} {v : Value} {n : Int} (h : PixRow w S v n) : PixRow w (RS S w) v n := by
  obtain ⟨m, xs, h1, h2, h3⟩ := h
  exact ⟨m, xs, h1, h2.rs (by unfold Law; decide), h3⟩

theorem RefOk.rs {w : World} {S : Nat → Prop} {c : Nat} {st : St} (h : RefOk w S c st) : RefOk w (RS S w) c st := by
  obtain ⟨bv, sv, ov, F, ⟨h1, h2, ⟨xs, h3, h4⟩, h5, nb, ys, h6, h7, h8⟩, q⟩ := h
  refine ⟨bv, sv, ov, F, ⟨h1, rs_cells h1 h2 (by unfold Law; decide), ⟨xs, h3.rs (by unfold Law; decide), h4⟩, h5.rs (by unfold Law; decide), nb, ys, h6, h7.rs (by unfold Law; decide), fun k hk => ?_⟩, ⟨q.rel, fun i hi => (q.pixN i hi).rs, fun i hi => (q.pixX i hi).rs⟩⟩
  obtain ⟨dv, m, e1, e2, zs, e3⟩ := h8 k hk
  exact ⟨dv, m, e1, e2, zs, e3.rs (by unfold Law; decide)⟩

/-- A screen of both sides: where it lies, how it stands, what is its own. -/
structure Scr where
  x : Nat
  c : Nat
  st : St
  A : Nat → Prop
  B : Nat → Prop

def Scr.own (s : Scr) (g : Nat) : Prop := s.A g ∨ s.B g

def Scr.cells (s : Scr) : List Value := [ptrV s.x, ptrV s.c]

structure ScrOk (w : World) (n0 : Nat) (s : Scr) : Prop where
  pan : PaneOk w s.A s.x s.st
  ref : RefOk w s.B s.c s.st
  fine : Fine s.st
  own : ∀ g, s.own g → n0 ≤ g ∧ g < w.heap.size ∧ NotLaw w g
  ab : ∀ g, s.A g → ¬ s.B g

theorem ScrOk.keep {w w' : World} {n0 : Nat} {s : Scr} (h : ScrOk w n0 s) (hs : w.heap.size ≤ w'.heap.size) (hk : ∀ g, s.own g → w'.heap[g]? = w.heap[g]?) : ScrOk w' n0 s :=
  ⟨h.pan.keep fun g hg _ => hk g (.inl hg), h.ref.keep fun g hg _ => hk g (.inr hg), h.fine, fun g hg => ⟨(h.own g hg).1, Nat.lt_of_lt_of_le (h.own g hg).2.1 hs, (h.own g hg).2.2.keep (hk g hg)⟩, h.ab⟩

theorem BookO.keep {w w' : World} {pb N : Nat} {pc : Array Value} {cv : Value} {xs : List Value} (h : BookO w pb N pc cv xs) (hk : ∀ (g : Nat) (cur : Array Value) (t : TypeId), Law t → w.heap[g]? = some (.cells cur t (0, 0)) → w'.heap[g]? = w.heap[g]?) : BookO w' pb N pc cv xs := by
  refine ⟨(hk pb _ _ (by unfold Law; simp) h.blk).trans h.blk, h.p1, h.p2, h.p3, own_keep h.row fun g hg => ?_, fun i hi => ?_⟩
  · obtain ⟨cur, hc⟩ := own_type h.row hg
    exact hk g cur _ (by unfold Law; simp) hc
  · obtain ⟨v, h1, h2⟩ := h.all i hi
    refine ⟨v, h1, h2.keep fun b cur t ht hb => hk b cur t ?_ hb⟩
    unfold Law
    rcases ht with rfl | rfl <;> simp

structure Inv (n0 : Nat) (w : World) (pb N : Nat) (ps : Value) (L : List Scr) : Prop where
  play : ∃ pc cv xs, BookO w pb N pc cv xs ∧ pc[0]? = some ps ∧ ∀ g, cv.ownBlock = some g → n0 ≤ g
  lo : n0 ≤ pb
  row : w.ownsRow n0 49 2 ps L.length (L.flatMap Scr.cells)
  scr : ∀ s ∈ L, ScrOk w n0 s
  apart : ∀ (i j : Nat) (s t : Scr), L[i]? = some s → L[j]? = some t → i ≠ j → ∀ g, s.own g → ¬ t.own g

theorem Inv.size {n0 : Nat} {w : World} {pb N : Nat} {ps : Value} {L : List Scr} (h : Inv n0 w pb N ps L) : n0 ≤ w.heap.size := by
  obtain ⟨pc, cv, xs, hb, _⟩ := h.play
  have := block_lt hb.blk
  have := h.lo
  omega

/-- The law's blocks are as they were. -/
def KeptLaw (w w' : World) : Prop := ∀ (g : Nat) (cur : Array Value) (t : TypeId), Law t → w.heap[g]? = some (.cells cur t (0, 0)) → w'.heap[g]? = w.heap[g]?

theorem Inv.keep {n0 : Nat} {w w' : World} {pb N : Nat} {ps : Value} {L : List Scr} (h : Inv n0 w pb N ps L) (hs : w.heap.size ≤ w'.heap.size) (hlaw : KeptLaw w w') (hscr : ∀ s ∈ L, ∀ g, s.own g → w'.heap[g]? = w.heap[g]?) : Inv n0 w' pb N ps L := by
  obtain ⟨pc, cv, xs, hb, hp, hc⟩ := h.play
  refine ⟨⟨pc, cv, xs, hb.keep hlaw, hp, hc⟩, h.lo, own_keep h.row fun g hg => ?_, fun s hs' => (h.scr s hs').keep hs (hscr s hs'), h.apart⟩
  obtain ⟨cur, hc⟩ := own_type h.row hg
  exact hlaw g cur _ (by unfold Law; simp) hc

theorem Inv.below {n0 : Nat} {w w' : World} {pb N : Nat} {ps : Value} {L : List Scr} (h : Inv n0 w pb N ps L) (hb : Below w.heap.size w w') : Inv n0 w' pb N ps L :=
  h.keep hb.size (fun g _ _ _ hg => hb.block g (Array.getElem?_eq_some_iff.1 hg).1) fun s hs g hg => hb.block g ((h.scr s hs).own g hg).2.1

theorem cells_set (L : List Scr) (i : Nat) (s s' : Scr) (hi : L[i]? = some s) (hx : s'.x = s.x) (hc : s'.c = s.c) : (L.set i s').flatMap Scr.cells = L.flatMap Scr.cells := by
  induction L generalizing i with
  | nil => rfl
  | cons a L ih =>
    cases i with
    | zero =>
      simp at hi
      subst hi
      simp [Scr.cells, hx, hc]
    | succ i =>
      simp at hi
      simp [ih i hi]

/-- A screen has changed. -/
theorem Inv.swap {n0 : Nat} {w w' : World} {pb N : Nat} {ps : Value} {L : List Scr} (h : Inv n0 w pb N ps L) {i : Nat} {s s' : Scr} (hi : L[i]? = some s) (hx : s'.x = s.x) (hc : s'.c = s.c) (hs : w.heap.size ≤ w'.heap.size) (hlaw : KeptLaw w w')
    (hoth : ∀ (j : Nat) (t : Scr), L[j]? = some t → i ≠ j → ∀ g, t.own g → w'.heap[g]? = w.heap[g]?) (hok : ScrOk w' n0 s') (hnew : ∀ g, s'.own g → s.own g ∨ w.heap.size ≤ g) : Inv n0 w' pb N ps (L.set i s') := by
  obtain ⟨pc, cv, xs, hb, hp, hcv⟩ := h.play
  have hil : i < L.length := (List.getElem?_eq_some_iff.1 hi).1
  refine ⟨⟨pc, cv, xs, hb.keep hlaw, hp, hcv⟩, h.lo, ?_, fun t ht => ?_, fun a b t u ha hb' hab g hg => ?_⟩
  · rw [List.length_set, cells_set L i s s' hi hx hc]
    refine own_keep h.row fun g hg => ?_
    obtain ⟨cur, hc⟩ := own_type h.row hg
    exact hlaw g cur _ (by unfold Law; simp) hc
  · obtain ⟨j, hj⟩ := List.mem_iff_getElem?.1 ht
    rw [List.getElem?_set] at hj
    by_cases e : i = j
    · rw [if_pos e, if_pos (by omega)] at hj
      injection hj with hj
      subst hj
      exact hok
    · rw [if_neg e] at hj
      exact (h.scr t (List.mem_iff_getElem?.2 ⟨j, hj⟩)).keep hs (hoth j t hj e)
  · rw [List.getElem?_set] at ha hb'
    have key : ∀ (j : Nat) (q : Scr), L[j]? = some q → i ≠ j → ∀ g, s'.own g → ¬ q.own g := fun j q hj e g h1 h2 => by
      rcases hnew g h1 with h3 | h3
      · exact h.apart i j s q hi hj e g h3 h2
      · have := ((h.scr q (List.mem_iff_getElem?.2 ⟨j, hj⟩)).own g h2).2.1
        omega
    by_cases ea : i = a
    · rw [if_pos ea, if_pos (by omega)] at ha
      injection ha with ha
      subst ha
      rw [if_neg (by omega)] at hb'
      exact key b u hb' (by omega) g hg
    · rw [if_neg ea] at ha
      by_cases eb : i = b
      · rw [if_pos eb, if_pos (by omega)] at hb'
        injection hb' with hb'
        subst hb'
        exact fun h2 => key a t ha ea g h2 hg
      · rw [if_neg eb] at hb'
        exact h.apart a b t u ha hb' hab g hg

/-- What a screen is, when its calls begin. -/
theorem Inv.pane {n0 : Nat} {w w1 : World} {pb N : Nat} {ps : Value} {L : List Scr} (h : Inv n0 w pb N ps L) {i : Nat} {s : Scr} (hi : L[i]? = some s) (hb : Below w.heap.size w w1) : PaneOk w1 s.A s.x s.st ∧ Fine s.st := by
  have ok := h.scr s (List.mem_iff_getElem?.2 ⟨i, hi⟩)
  exact ⟨ok.pan.keep fun g hg hl => hb.block g hl, ok.fine⟩

theorem Inv.ref {n0 : Nat} {w w1 w2 : World} {pb N : Nat} {ps : Value} {L : List Scr} (h : Inv n0 w pb N ps L) {i : Nat} {s : Scr} (hi : L[i]? = some s) (hb : Below w.heap.size w w1) (oP : Only s.A w1 w2) : RefOk w2 s.B s.c s.st ∧ ∀ g, s.B g → g < w2.heap.size := by
  have ok := h.scr s (List.mem_iff_getElem?.2 ⟨i, hi⟩)
  have h1 := hb.size
  have h2 := oP.size
  exact ⟨ok.ref.keep fun g hg hl => (oP.block g (by omega) fun ha => ok.ab g ha hg).trans (hb.block g hl), fun g hg => by have := (ok.own g (.inr hg)).2.1; omega⟩

/-- Both sides have been called. -/
theorem Inv.both {n0 : Nat} {w w1 w2 w3 w4 : World} {pb N : Nat} {ps : Value} {L : List Scr} (h : Inv n0 w pb N ps L) {i : Nat} {s : Scr} {st' : St} (hi : L[i]? = some s) (hb : Below w.heap.size w w1) (hP : PaneOk w2 (grow s.A w1 w2) s.x st') (oP : Only s.A w1 w2) (hR : RefOk w3 (grow s.B w2 w3) s.c st') (oR : Only s.B w2 w3) (hf : Fine st') (o4 : Only (fun g => w.heap.size ≤ g ∧ g < w1.heap.size) w3 w4) :
    Inv n0 w4 pb N ps (L.set i ⟨s.x, s.c, st', RS (grow s.A w1 w2) w4, RS (grow s.B w2 w3) w4⟩) ∧ KeptLaw w w4 ∧ Only (fun g => n0 ≤ g) w w4 := by
  have ok := h.scr s (List.mem_iff_getElem?.2 ⟨i, hi⟩)
  have hn := h.size
  have h1 := hb.size
  have h2 := oP.size
  have h3 := oR.size
  have h4 := o4.size
  have step : ∀ g, g < w.heap.size → ¬ s.own g → w4.heap[g]? = w.heap[g]? := fun g hg hs =>
    (o4.block g (by omega) (by omega)).trans ((oR.block g (by omega) fun hh => hs (.inr hh)).trans ((oP.block g (by omega) fun hh => hs (.inl hh)).trans (hb.block g hg)))
  have law : KeptLaw w w4 := fun g cur t ht hg => step g (Array.getElem?_eq_some_iff.1 hg).1 fun hs => (ok.own g hs).2.2 cur t ht hg
  have onA : ∀ g, s.A g → n0 ≤ g ∧ g < w.heap.size := fun g hg => ⟨(ok.own g (.inl hg)).1, (ok.own g (.inl hg)).2.1⟩
  have onB : ∀ g, s.B g → n0 ≤ g ∧ g < w.heap.size := fun g hg => ⟨(ok.own g (.inr hg)).1, (ok.own g (.inr hg)).2.1⟩
  refine ⟨h.swap hi rfl rfl (by omega) law (fun j t hj hne g hg => step g ((h.scr t (List.mem_iff_getElem?.2 ⟨j, hj⟩)).own g hg).2.1 fun hs => h.apart i j s t hi hj hne g hs hg) ⟨?_, ?_, hf, fun g hg => ?_, fun g ha hbb => ?_⟩ fun g hg => ?_, law, ⟨?_, ?_, ?_, by omega, fun g hg hs => step g hg fun hh => hs (ok.own g hh).1⟩⟩
  · refine (hP.keep fun g hg hl => ?_).rs
    have hlt : g < w3.heap.size := by omega
    rcases hg with hg | hg
    · have := (onA g hg).2
      exact (o4.block g hlt (by omega)).trans (oR.block g hl fun hh => ok.ab g hg hh)
    · exact (o4.block g hlt (by omega)).trans (oR.block g hl fun hh => by have := (onB g hh).2; omega)
  · refine (hR.keep fun g hg hl => ?_).rs
    rcases hg with hg | hg
    · have := (onB g hg).2
      exact o4.block g hl (by omega)
    · exact o4.block g hl (by omega)
  · rcases hg with ⟨hg | hg, hl, hnl⟩ | ⟨hg | hg, hl, hnl⟩
    · exact ⟨(onA g hg).1, hl, hnl⟩
    · exact ⟨by omega, hl, hnl⟩
    · exact ⟨(onB g hg).1, hl, hnl⟩
    · exact ⟨by omega, hl, hnl⟩
  · rcases ha with ⟨ha | ha, _⟩
    · rcases hbb with ⟨hbb | hbb, _⟩
      · exact ok.ab g ha hbb
      · have := (onA g ha).2; omega
    · rcases hbb with ⟨hbb | hbb, _⟩
      · have := (onB g hbb).2; omega
      · omega
  · rcases hg with ⟨hg | hg, _⟩ | ⟨hg | hg, _⟩
    · exact .inl (.inl hg)
    · exact .inr (by omega)
    · exact .inl (.inr hg)
    · exact .inr (by omega)
  · exact o4.os.trans (oR.os.trans (oP.os.trans hb.os))
  · exact o4.tape.trans (oR.tape.trans (oP.tape.trans hb.tape))
  · exact o4.output.trans (oR.output.trans (oP.output.trans hb.output))

end Go.Proofs.YtlaflopimpnjpaaGreat

/-! Plz -/
namespace Go.Proofs.YtlaflopimpnjpaaGreat
open Go.RowKit

/-- A list of views has come out, and is its owner's. -/
theorem Inv.viewed {n0 : Nat} {w w3 w4 : World} {pb N : Nat} {ps : Value} {L : List Scr} (h : Inv n0 w pb N ps L) {pc : Array Value} {cv cv' : Value} {xs xs' : List Value} (hbk : BookO w pb N pc cv xs) (hp : pc[0]? = some ps) (hcv : ∀ g, cv.ownBlock = some g → n0 ≤ g) (hb : Below w.heap.size w w3)
    (h4 : BookO w4 pb (N + 1) (pc.setIfInBounds 3 cv') cv' xs') (hcv' : cv'.ownBlock = cv.ownBlock ∨ ∃ g, cv'.ownBlock = some g ∧ w.heap.size ≤ g) (o : Only (fun g => g = pb ∨ cv.ownBlock = some g ∨ w.heap.size ≤ g) w3 w4) :
    Inv n0 w4 pb (N + 1) ps L ∧ (∀ (g : Nat) (cur : Array Value) (t : TypeId), t = 41 ∨ t = 49 → w.heap[g]? = some (.cells cur t (0, 0)) → w4.heap[g]? = w.heap[g]?) ∧ Only (fun g => n0 ≤ g) w w4 := by
  have hn := h.size
  have hs3 := hb.size
  have hs4 := o.size
  have step : ∀ g, g < w.heap.size → g ≠ pb → cv.ownBlock ≠ some g → w4.heap[g]? = w.heap[g]? := fun g hg h1 h2 =>
    (o.block g (by omega) (by rintro (hh | hh | hh); exact h1 hh; exact h2 hh; omega)).trans (hb.block g hg)
  have other : ∀ (g : Nat) (cur : Array Value) (t : TypeId), w.heap[g]? = some (.cells cur t (0, 0)) → t ≠ 34 → t ≠ 60 → w4.heap[g]? = w.heap[g]? := fun g cur t hg t1 t2 => by
    refine step g (Array.getElem?_eq_some_iff.1 hg).1 (fun e => ?_) fun e => ?_
    · subst e
      rw [hbk.blk] at hg
      injection hg with hg
      injection hg with _ hg
      exact t1 hg.symm
    · obtain ⟨c2, hc2⟩ := own_type hbk.row e
      rw [hc2] at hg
      injection hg with hg
      injection hg with _ hg
      exact t2 hg.symm
  have scr : ∀ s ∈ L, ∀ g, s.own g → w4.heap[g]? = w.heap[g]? := fun s hs g hg => by
    obtain ⟨_, q2, q3⟩ := (h.scr s hs).own g hg
    refine step g q2 (fun e => ?_) fun e => ?_
    · subst e
      exact q3 _ _ (by unfold Law; simp) hbk.blk
    · obtain ⟨c2, hc2⟩ := own_type hbk.row e
      exact q3 _ _ (by unfold Law; simp) hc2
  refine ⟨⟨⟨_, _, _, h4, ?_, fun g hg => ?_⟩, h.lo, own_keep h.row fun g hg => ?_, fun s hs => (h.scr s hs).keep (by omega) (scr s hs), h.apart⟩, fun g cur t ht hg => other g cur t hg (by rcases ht with rfl | rfl <;> decide) (by rcases ht with rfl | rfl <;> decide), ⟨o.os.trans hb.os, o.tape.trans hb.tape, o.output.trans hb.output, by omega, fun g hg hs => step g hg (fun e => hs (e ▸ h.lo)) fun e => hs (hcv g e)⟩⟩
  · rw [Array.getElem?_setIfInBounds_ne (by omega)]
    exact hp
  · rcases hcv' with e | ⟨g', e, hg'⟩
    · rw [e] at hg
      exact hcv g hg
    · rw [e] at hg
      injection hg with hg
      omega
  · obtain ⟨cur, hc⟩ := own_type h.row hg
    exact other g cur _ hc (by decide) (by decide)

/-- A screen more. -/
theorem Inv.opened {n0 : Nat} {w w1 w2 w3 w4 : World} {pb N : Nat} {ps ps' : Value} {L : List Scr} (h : Inv n0 w pb N ps L) {x c : Nat} {st : St} (hb1 : Below w.heap.size w w1) (hP : PaneOk w1 (fun g => w.heap.size ≤ g ∧ g < w1.heap.size) x st) (hb2 : Below w1.heap.size w1 w2) (hR : RefOk w2 (fun g => w1.heap.size ≤ g ∧ g < w2.heap.size) c st) (hf : Fine st)
    (hb3 : Below w2.heap.size w2 w3) (hg4 : w3.grownBy w4 ps.ownBlock) (hr4 : w4.ownsRow n0 49 2 ps' (L.length + 1) (L.flatMap Scr.cells ++ [ptrV x, ptrV c])) :
    ∃ L', L'.length = L.length + 1 ∧ Inv n0 (w4.setCell ⟨pb, 0, none⟩ ps') pb N ps' L' ∧ (∀ (g : Nat) (cur : Array Value), w.heap[g]? = some (.cells cur 41 (0, 0)) → (w4.setCell ⟨pb, 0, none⟩ ps').heap[g]? = w.heap[g]?) ∧ Only (fun g => n0 ≤ g) w (w4.setCell ⟨pb, 0, none⟩ ps') := by
  obtain ⟨pc, cv, xs, hbk, hp, hcv⟩ := h.play
  have hn := h.size
  have hs1 := hb1.size
  have hs2 := hb2.size
  have hs3 := hb3.size
  have hs4 := hg4.size
  have hpl := block_lt hbk.blk
  have to3 : ∀ g, g < w.heap.size → w3.heap[g]? = w.heap[g]? := fun g hg => (hb3.block g (by omega)).trans ((hb2.block g (by omega)).trans (hb1.block g hg))
  have to4 : ∀ g, g < w.heap.size → ps.ownBlock ≠ some g → w4.heap[g]? = w.heap[g]? := fun g hg hne => (hg4.block g (by omega) (fun e => hne e.symm)).trans (to3 g hg)
  have step : ∀ g, g < w.heap.size → g ≠ pb → ps.ownBlock ≠ some g → (w4.setCell ⟨pb, 0, none⟩ ps').heap[g]? = w.heap[g]? := fun g hg h1 h2 => (heap_setCell_other w4 ⟨pb, 0, none⟩ g ps' h1).trans (to4 g hg h2)
  have psT : ∀ (g : Nat) (cur : Array Value) (t : TypeId), w.heap[g]? = some (.cells cur t (0, 0)) → t ≠ 49 → ps.ownBlock ≠ some g := fun g cur t hg ht e => by
    obtain ⟨c2, hc2⟩ := own_type h.row e
    rw [hc2] at hg
    injection hg with hg
    injection hg with _ hg
    exact ht hg.symm
  have other : ∀ (g : Nat) (cur : Array Value) (t : TypeId), w.heap[g]? = some (.cells cur t (0, 0)) → t ≠ 34 → t ≠ 49 → (w4.setCell ⟨pb, 0, none⟩ ps').heap[g]? = w.heap[g]? := fun g cur t hg t1 t2 =>
    step g (Array.getElem?_eq_some_iff.1 hg).1 (fun e => by
      subst e
      rw [hbk.blk] at hg
      injection hg with hg
      injection hg with _ hg
      exact t1 hg.symm) (psT g cur t hg t2)
  have hpb4 : w4.heap[pb]? = some (.cells pc 34 (0, 0)) := (to4 pb hpl (psT pb _ _ hbk.blk (by decide))).trans hbk.blk
  have new : ∀ g, w.heap.size ≤ g → g < w3.heap.size → (w4.setCell ⟨pb, 0, none⟩ ps').heap[g]? = w3.heap[g]? := fun g h1 h2 => (heap_setCell_other w4 ⟨pb, 0, none⟩ g ps' (by show g ≠ pb; omega)).trans (hg4.block g h2 fun e => by
    have := (h.row.lt g e.symm).2
    omega)
  have hscr : ∀ s ∈ L, ∀ g, s.own g → (w4.setCell ⟨pb, 0, none⟩ ps').heap[g]? = w.heap[g]? := fun s hs g hg => by
    obtain ⟨_, q2, q3⟩ := (h.scr s hs).own g hg
    refine step g q2 (fun e => ?_) fun e => ?_
    · subst e
      exact q3 _ _ (by unfold Law; simp) hbk.blk
    · obtain ⟨c2, hc2⟩ := own_type h.row e
      exact q3 _ _ (by unfold Law; simp) hc2
  have hPz : PaneOk (w4.setCell ⟨pb, 0, none⟩ ps') (RS (fun g => w.heap.size ≤ g ∧ g < w1.heap.size) (w4.setCell ⟨pb, 0, none⟩ ps')) x st := (hP.keep fun g hg hl => (new g hg.1 (by omega)).trans ((hb3.block g (by omega)).trans (hb2.block g hl))).rs
  have hRz : RefOk (w4.setCell ⟨pb, 0, none⟩ ps') (RS (fun g => w1.heap.size ≤ g ∧ g < w2.heap.size) (w4.setCell ⟨pb, 0, none⟩ ps')) c st := (hR.keep fun g hg hl => (new g (by omega) (by omega)).trans (hb3.block g hl)).rs
  have hsz : w.heap.size ≤ (w4.setCell ⟨pb, 0, none⟩ ps').heap.size := by simp; omega
  refine ⟨L ++ [⟨x, c, st, RS (fun g => w.heap.size ≤ g ∧ g < w1.heap.size) (w4.setCell ⟨pb, 0, none⟩ ps'), RS (fun g => w1.heap.size ≤ g ∧ g < w2.heap.size) (w4.setCell ⟨pb, 0, none⟩ ps')⟩], by simp, ⟨⟨pc.setIfInBounds 0 ps', cv, xs, ⟨?_, ?_, ?_, ?_, ?_, fun i hi => ?_⟩, ?_, hcv⟩, h.lo, ?_, fun s hs => ?_, fun i j s t hi hj hij g hg => ?_⟩, fun g cur hg => other g cur _ hg (by decide) (by decide), ⟨?_, ?_, ?_, hsz, fun g hg hs => step g hg (fun e => hs (e ▸ h.lo)) fun e => hs (h.row.lt g e).1⟩⟩
  · exact heap_setCell_same w4 pb 0 pc _ ps' hpb4
  · rw [Array.getElem?_setIfInBounds_ne (by omega)]; exact hbk.p1
  · rw [Array.getElem?_setIfInBounds_ne (by omega)]; exact hbk.p2
  · rw [Array.getElem?_setIfInBounds_ne (by omega)]; exact hbk.p3
  · refine own_keep hbk.row fun g hg => ?_
    obtain ⟨cur, hc⟩ := own_type hbk.row hg
    exact other g cur _ hc (by decide) (by decide)
  · obtain ⟨v, h1, h2⟩ := hbk.all i hi
    refine ⟨v, h1, h2.keep fun b cur t ht hb => other b cur t hb ?_ ?_⟩
    · rcases ht with rfl | rfl <;> decide
    · rcases ht with rfl | rfl <;> decide
  · have : 0 < pc.size := (Array.getElem?_eq_some_iff.1 hp).1
    rw [Array.getElem?_setIfInBounds_self_of_lt this]
  · rw [List.length_append, List.flatMap_append]
    refine own_keep hr4 fun g hg => heap_setCell_other w4 ⟨pb, 0, none⟩ g ps' fun e => ?_
    obtain ⟨cur, hc⟩ := own_type hr4 hg
    have e' : g = pb := e
    subst e'
    rw [hpb4] at hc
    injection hc with hc
    injection hc with _ hc
    exact absurd hc (by decide)
  · rcases List.mem_append.1 hs with hs | hs
    · exact (h.scr s hs).keep hsz (hscr s hs)
    · rw [List.mem_singleton] at hs
      subst hs
      refine ⟨hPz, hRz, hf, fun g hg => ?_, fun g ha hb => ?_⟩
      · rcases hg with ⟨q1, q2, q3⟩ | ⟨q1, q2, q3⟩
        · exact ⟨by omega, q2, q3⟩
        · exact ⟨by omega, q2, q3⟩
      · have h1 := ha.1
        have h2 := hb.1
        simp only at h1 h2
        omega
  · have fresh : ∀ (k : Nat) (q : Scr), L[k]? = some q → ∀ g, (w.heap.size ≤ g) → ¬ q.own g := fun k q hk g hg hq => by
      have := ((h.scr q (List.mem_iff_getElem?.2 ⟨k, hk⟩)).own g hq).2.1
      omega
    have lastOwn : ∀ g, Scr.own ⟨x, c, st, RS (fun g => w.heap.size ≤ g ∧ g < w1.heap.size) (w4.setCell ⟨pb, 0, none⟩ ps'), RS (fun g => w1.heap.size ≤ g ∧ g < w2.heap.size) (w4.setCell ⟨pb, 0, none⟩ ps')⟩ g → w.heap.size ≤ g := fun g hg => by
      rcases hg with ⟨q1, _⟩ | ⟨q1, _⟩
      · exact q1.1
      · have := q1.1; omega
    rw [List.getElem?_append] at hi hj
    by_cases ei : i < L.length
    · rw [if_pos ei] at hi
      by_cases ej : j < L.length
      · rw [if_pos ej] at hj
        exact h.apart i j s t hi hj hij g hg
      · rw [if_neg ej] at hj
        obtain ⟨_, hj⟩ := List.getElem?_eq_some_iff.1 hj
        rw [List.getElem_singleton] at hj
        subst hj
        exact fun hh => fresh i s hi g (lastOwn g hh) hg
    · rw [if_neg ei] at hi
      have hil := (List.getElem?_eq_some_iff.1 hi).1
      obtain ⟨_, hi⟩ := List.getElem?_eq_some_iff.1 hi
      rw [List.getElem_singleton] at hi
      subst hi
      by_cases ej : j < L.length
      · rw [if_pos ej] at hj
        exact fresh j t hj g (lastOwn g hg)
      · rw [if_neg ej] at hj
        have hjl := (List.getElem?_eq_some_iff.1 hj).1
        simp at hil hjl
        omega
  · exact hg4.os.trans (hb3.os.trans (hb2.os.trans hb1.os))
  · exact hg4.tape.trans (hb3.tape.trans (hb2.tape.trans hb1.tape))
  · exact hg4.output.trans (hb3.output.trans (hb2.output.trans hb1.output))

end Go.Proofs.YtlaflopimpnjpaaGreat

/-! Fin -/
namespace Go.Proofs.YtlaflopimpnjpaaGreat
open Go.RowKit

/-! ### What is so between calls stays so -/

theorem Fine.new {W H : Int} (hW : 1 ≤ W ∧ W ≤ 24) (hH : 1 ≤ H ∧ H ≤ 24) : Fine ⟨W, H, [], []⟩ := by
  have e : ∀ i, St.sf ⟨W, H, [], []⟩ i = sf0 := fun i => rfl
  refine ⟨⟨fun i => ?_, List.nodup_nil, fun i => ?_, fun i hi => (by cases hi), (by simp), (by simp), hW, hH, fun i => ?_⟩, fun i hi => (by cases hi)⟩
  · rw [e]
    unfold sf0
    simp
    omega
  · simp
  · rw [e]
    exact ⟨look0_ok, look0_ok⟩

theorem fine_make {st : St} (h : Fine st) (p : Int) : Fine (opMake st p).2.2 := by
  unfold opMake
  split
  · rename_i hp
    split
    · rename_i hl
      refine h.make (hp.imp id fun hb => ?_) hl.1 hl.2
      exact (isB_iff h.wf p).1 hb
    · exact h
  · exact h

theorem fine_destroy {st : St} (h : Fine st) (id : Int) : Fine (opDestroy st id).2 := by
  unfold opDestroy
  split
  · exact h.rm _
  · exact h

theorem isB_lt {st : St} (h : Fine st) {id : Int} (hb : st.isB id = true) : id.toNat ∈ st.order ∧ id.toNat < st.sfs.length ∧ id = (id.toNat : Int) := by
  obtain ⟨i, rfl, hi⟩ := (isB_iff h.wf id).1 hb
  exact ⟨by simpa using hi, by simpa using h.wf.lt hi, by simp⟩

theorem fine_commit {st : St} (h : Fine st) (id : Int) : Fine (opCommit st id).2 := by
  unfold opCommit
  split
  · rename_i hb
    exact h.cm (isB_lt h hb).1
  · exact h

theorem fine_offset {st : St} (h : Fine st) (id x y : Int) : Fine (opOffset st id x y).2 := by
  unfold opOffset
  split
  · rename_i hb
    split
    · rename_i hx
      have q := (h.wf.lk id.toNat).2
      exact h.upd (isB_lt h hb).2.1 (fun _ => rfl) (fun _ => rfl) ⟨(h.wf.lk _).1, ⟨q.w, q.h, ⟨hx.1, hx.2.1⟩, ⟨hx.2.2.1, hx.2.2.2⟩, q.c0, q.c1, q.c2, q.c3⟩⟩ (fun _ => ⟨rfl, rfl⟩)
    · exact h
  · exact h

theorem fine_clip {st : St} (h : Fine st) (id : Int) (r : R4) : Fine (opClip st id r (fitR r)).2 := by
  unfold opClip
  split
  · rename_i hb
    split
    · rename_i hx
      unfold fitR at hx
      have hx := of_decide_eq_true hx
      have q := (h.wf.lk id.toNat).2
      refine h.upd (isB_lt h hb).2.1 (fun _ => rfl) (fun _ => rfl) ⟨(h.wf.lk _).1, ⟨q.w, q.h, q.x, q.y, ?_, ?_, ?_, ?_⟩⟩ (fun _ => ⟨rfl, rfl⟩) <;> (simp only [sfClip]; omega)
    · exact h
  · exact h

theorem fine_unclip {st : St} (h : Fine st) (id : Int) : Fine (opUnclip st id).2 := by
  unfold opUnclip
  split
  · rename_i hb
    have q := (h.wf.lk id.toNat).2
    refine h.upd (isB_lt h hb).2.1 (fun _ => rfl) (fun _ => rfl) ⟨(h.wf.lk _).1, ⟨q.w, q.h, q.x, q.y, ?_, ?_, ?_, ?_⟩⟩ (fun _ => ⟨rfl, rfl⟩) <;> simp [sfUnclip]
  · exact h

theorem fine_attach {st : St} (h : Fine st) (id a b : Int) (n : Nat) (ok : Bool) : Fine (opAttach st id a b n ok).2 := by
  unfold opAttach
  split
  · rename_i hb
    split
    · rename_i hx
      split
      · have q := (h.wf.lk id.toNat).2
        exact h.upd (isB_lt h hb).2.1 (fun _ => rfl) (fun _ => rfl) ⟨(h.wf.lk _).1, ⟨⟨hx.1, hx.2.1⟩, ⟨hx.2.2.1, hx.2.2.2⟩, q.x, q.y, q.c0, q.c1, q.c2, q.c3⟩⟩ (fun _ => ⟨rfl, rfl⟩)
      · exact h
    · exact h
  · exact h

theorem fine_stack {st : St} (h : Fine st) (id sb : Int) (b : Bool) : Fine (opStack st id sb b).2 := by
  unfold opStack
  split
  · rename_i hb
    split
    · rename_i hx
      obtain ⟨_, h2, h3⟩ := isB_lt h hb.1
      obtain ⟨g1, _, g3⟩ := isB_lt h hb.2
      have := h.stack h2 g1 (by omega) hx.2 b
      rw [← g3] at this
      exact this
    · exact h
  · exact h

end Go.Proofs.YtlaflopimpnjpaaGreat

/-! AskA -/
namespace Go.Proofs.YtlaflopimpnjpaaGreat
open Go.RowKit
attribute [local go_sem ↓] Go.wp_at_zero Go.wp_at_succ

def pairV (s : Scr) : Value := .agg #[.pointer (some ⟨s.x, 0, none⟩), .pointer (some ⟨s.c, 0, none⟩)]

/-- An Op, as its cells. -/
def opCells (k s a b c : Int) (y : Bool) (r : R4) (lv mv pv : Value) : Array Value := #[.int .i64 k, .int .i64 s, .int .i64 a, .int .i64 b, .int .i64 c, .bool y, .int .i64 r.1, .int .i64 r.2.1, .int .i64 r.2.2.1, .int .i64 r.2.2.2, lv, mv, pv]

/-- What a step leaves. -/
def StepPost (n0 : Nat) (pb N : Nat) (ps : Value) (L : List Scr) (w : World) (e : Ending) (w' : World) : Prop :=
  e = .returned (.bool true) ∧ (∃ L' N', L'.length = L.length ∧ N' ≤ N + 1 ∧ Inv n0 w' pb N' ps L') ∧ (∀ (g : Nat) (cur : Array Value) (t : TypeId), t = 41 ∨ t = 49 → w.heap[g]? = some (.cells cur t (0, 0)) → w'.heap[g]? = w.heap[g]?) ∧ Only (fun g => n0 ≤ g) w w'

/-- The two boxes that a step lays down stay, behind a call on the screen. -/
theorem boxes_stay {w W : World} {S : Nat → Prop} {o1 o2 : Obj} (hS : ∀ g, S g → g < w.heap.size) (h : Only S ((w.alloc o1).alloc o2) W) : W.heap[w.heap.size]? = some o1 ∧ W.heap[w.heap.size + 1]? = some o2 := by
  have e1 : ((w.alloc o1).alloc o2).heap[w.heap.size]? = some o1 := by
    rw [heap_old (w.alloc o1) o2 w.heap.size (by simp)]
    exact heap_alloc_new w o1
  have e2 : ((w.alloc o1).alloc o2).heap[w.heap.size + 1]? = some o2 := by
    have := heap_alloc_new (w.alloc o1) o2
    simpa using this
  exact ⟨(h.block _ (by simp; omega) fun hh => by have := hS _ hh; omega).trans e1, (h.block _ (by simp) fun hh => by have := hS _ hh; omega).trans e2⟩

theorem Inv.inA {n0 : Nat} {w : World} {pb N : Nat} {ps : Value} {L : List Scr} (h : Inv n0 w pb N ps L) {i : Nat} {s : Scr} (hi : L[i]? = some s) : (∀ g, s.A g → g < w.heap.size) ∧ ∀ g, s.B g → g < w.heap.size := by
  have ok := h.scr s (List.mem_iff_getElem?.2 ⟨i, hi⟩)
  exact ⟨fun g hg => (ok.own g (.inl hg)).2.1, fun g hg => (ok.own g (.inr hg)).2.1⟩

theorem Inv.done {n0 : Nat} {w w1 w2 w3 w4 : World} {pb N : Nat} {ps : Value} {L : List Scr} (h : Inv n0 w pb N ps L) {i : Nat} {s : Scr} {st' : St} (hi : L[i]? = some s) (hb : Below w.heap.size w w1) (hP : PaneOk w2 (grow s.A w1 w2) s.x st') (oP : Only s.A w1 w2) (hR : RefOk w3 (grow s.B w2 w3) s.c st') (oR : Only s.B w2 w3) (hf : Fine st') (o4 : Only (fun g => w.heap.size ≤ g ∧ g < w1.heap.size) w3 w4) :
    StepPost n0 pb N ps L w (.returned (.bool true)) w4 := by
  obtain ⟨h1, h2, h3⟩ := h.both hi hb hP oP hR oR hf o4
  exact ⟨rfl, ⟨_, N, by rw [List.length_set], by omega, h1⟩, fun g cur t ht hg => h2 g cur t (by unfold Law; rcases ht with rfl | rfl <;> simp) hg, h3⟩

set_option maxRecDepth 100000 in
set_option maxHeartbeats 1000000 in
/-- asked: Offset -/
theorem asked_offset {n0 : Nat} {w : World} {pb N : Nat} {ps : Value} {L : List Scr} (h : Inv n0 w pb N ps L) {i : Nat} {s : Scr} (hi : L[i]? = some s) (k a b c : Int) (y : Bool) (r : R4) (lv mv pv : Value) :
    Calls Tryz.prog 33 #[pairV s, .agg (opCells 5 k a b c y r lv mv pv)] w (StepPost n0 pb N ps L w) := by
  obtain ⟨er, st', ho⟩ : ∃ er st', opOffset s.st a b c = (er, st') := ⟨_, _, rfl⟩
  have hf : Fine st' := by
    have := fine_offset (h.pane hi (Below.refl _ _)).2 a b c
    rw [ho] at this
    exact this
  have HP : Hid (∀ W, Below w.heap.size w W → Calls Tryz.prog 76 #[.pointer (some ⟨s.x, 0, none⟩), .int .i64 a, .int .i64 b, .int .i64 c] W (PPost s.A s.x (er, st') W)) := fun W hW => by
    have := paOffset_any (h.pane hi hW).2.wf a b c W (h.pane hi hW).1
    rw [ho] at this
    exact this
  have HR : Hid (∀ W1 W, Below w.heap.size w W1 → Only s.A W1 W → Calls Tryz.prog 77 #[.pointer (some ⟨s.c, 0, none⟩), .int .i64 a, .int .i64 b, .int .i64 c] W (RPost s.B s.c (er, st') W)) := fun W1 W hW1 hW => by
    have := refOffset_any (h.pane hi hW1).2.wf a b c W (h.ref hi hW1 hW).1
    rw [ho] at this
    exact this
  have HIn := hide (h.inA hi)
  have HI := hide (And.intro h (And.intro hi hf))
  clear h hi hf ho
  unfold pairV opCells
  obtain ⟨post, hpost⟩ : ∃ P, P = StepPost n0 pb N ps L w := ⟨_, rfl⟩
  rw [← hpost]
  have HPo := hide hpost
  clear hpost
  go_enter Tryz.func33, Tryz.ntmps33
  go_wp2_with (first
    | (go_at_call 76; refine (HP.out _ (al2 (Nat.le_refl _) _ _)).mono ?_; rintro e w2 ⟨rfl, hP, oP⟩; obtain ⟨b1, b2⟩ := boxes_stay HIn.out.1 oP; have c1 := cell_of_row w2 _ 1 _ _ _ b1; have c2 := cell_of_row w2 _ 2 _ _ _ b2; have c3 := cell_of_row w2 _ 3 _ _ _ b2; have c4 := cell_of_row w2 _ 4 _ _ _ b2; simp only [List.getElem?_toArray, List.getElem?_cons_zero, List.getElem?_cons_succ] at c1 c2 c3 c4; have H2 := hide (And.intro hP oP); clear hP oP b1 b2)
    | (go_at_call 77; refine (HR.out _ _ (al2 (Nat.le_refl _) _ _) H2.out.2).mono ?_; rintro e w3 ⟨rfl, hR, oR⟩; have H3 := hide (And.intro hR oR); clear hR oR))
  try go_ret
  rw [HPo.out]
  exact HI.out.1.done HI.out.2.1 (al2 (Nat.le_refl _) _ _) H2.out.1 H2.out.2 H3.out.1 H3.out.2 HI.out.2.2 (Only.refl _ _)

set_option maxRecDepth 100000 in
set_option maxHeartbeats 1000000 in
/-- asked: Clip -/
theorem asked_clip {n0 : Nat} {w : World} {pb N : Nat} {ps : Value} {L : List Scr} (h : Inv n0 w pb N ps L) {i : Nat} {s : Scr} (hi : L[i]? = some s) (k a b c : Int) (y : Bool) (r : R4) (lv mv pv : Value) :
    Calls Tryz.prog 33 #[pairV s, .agg (opCells 6 k a b c y r lv mv pv)] w (StepPost n0 pb N ps L w) := by
  obtain ⟨er, st', ho⟩ : ∃ er st', opClip s.st a (r.1, r.2.1, r.2.2.1, r.2.2.2) (fitR (r.1, r.2.1, r.2.2.1, r.2.2.2)) = (er, st') := ⟨_, _, rfl⟩
  have hf : Fine st' := by
    have := fine_clip (h.pane hi (Below.refl _ _)).2 a (r.1, r.2.1, r.2.2.1, r.2.2.2)
    rw [ho] at this
    exact this
  have HP : Hid (∀ W, Below w.heap.size w W → Calls Tryz.prog 78 #[.pointer (some ⟨s.x, 0, none⟩), .int .i64 a, .agg #[.int .i64 r.1, .int .i64 r.2.1, .int .i64 r.2.2.1, .int .i64 r.2.2.2]] W (PPost s.A s.x (er, st') W)) := fun W hW => by
    have := paClip_any (h.pane hi hW).2.wf a r.1 r.2.1 r.2.2.1 r.2.2.2 W (h.pane hi hW).1
    rw [ho] at this
    exact this
  have HR : Hid (∀ W1 W, Below w.heap.size w W1 → Only s.A W1 W → Calls Tryz.prog 79 #[.pointer (some ⟨s.c, 0, none⟩), .int .i64 a, .agg #[.int .i64 r.1, .int .i64 r.2.1, .int .i64 r.2.2.1, .int .i64 r.2.2.2]] W (RPost s.B s.c (er, st') W)) := fun W1 W hW1 hW => by
    have := refClip_any (h.pane hi hW1).2.wf a r.1 r.2.1 r.2.2.1 r.2.2.2 W (h.ref hi hW1 hW).1
    rw [ho] at this
    exact this
  have HIn := hide (h.inA hi)
  have HI := hide (And.intro h (And.intro hi hf))
  clear h hi hf ho
  unfold pairV opCells
  obtain ⟨post, hpost⟩ : ∃ P, P = StepPost n0 pb N ps L w := ⟨_, rfl⟩
  rw [← hpost]
  have HPo := hide hpost
  clear hpost
  go_enter Tryz.func33, Tryz.ntmps33
  go_wp2_with (first
    | (go_at_call 78; refine (HP.out _ (al2 (Nat.le_refl _) _ _)).mono ?_; rintro e w2 ⟨rfl, hP, oP⟩; obtain ⟨b1, b2⟩ := boxes_stay HIn.out.1 oP; have c1 := cell_of_row w2 _ 1 _ _ _ b1; have c2 := cell_of_row w2 _ 2 _ _ _ b2; have c6 := cell_of_row w2 _ 6 _ _ _ b2; have c7 := cell_of_row w2 _ 7 _ _ _ b2; have c8 := cell_of_row w2 _ 8 _ _ _ b2; have c9 := cell_of_row w2 _ 9 _ _ _ b2; simp only [List.getElem?_toArray, List.getElem?_cons_zero, List.getElem?_cons_succ] at c1 c2 c6 c7 c8 c9; have H2 := hide (And.intro hP oP); clear hP oP b1 b2)
    | (go_at_call 79; refine (HR.out _ _ (al2 (Nat.le_refl _) _ _) H2.out.2).mono ?_; rintro e w3 ⟨rfl, hR, oR⟩; have H3 := hide (And.intro hR oR); clear hR oR))
  try go_ret
  rw [HPo.out]
  exact HI.out.1.done HI.out.2.1 (al2 (Nat.le_refl _) _ _) H2.out.1 H2.out.2 H3.out.1 H3.out.2 HI.out.2.2 (Only.refl _ _)

set_option maxRecDepth 100000 in
set_option maxHeartbeats 1000000 in
/-- asked: Unclip -/
theorem asked_unclip {n0 : Nat} {w : World} {pb N : Nat} {ps : Value} {L : List Scr} (h : Inv n0 w pb N ps L) {i : Nat} {s : Scr} (hi : L[i]? = some s) (k a b c : Int) (y : Bool) (r : R4) (lv mv pv : Value) :
    Calls Tryz.prog 33 #[pairV s, .agg (opCells 7 k a b c y r lv mv pv)] w (StepPost n0 pb N ps L w) := by
  obtain ⟨er, st', ho⟩ : ∃ er st', opUnclip s.st a = (er, st') := ⟨_, _, rfl⟩
  have hf : Fine st' := by
    have := fine_unclip (h.pane hi (Below.refl _ _)).2 a
    rw [ho] at this
    exact this
  have HP : Hid (∀ W, Below w.heap.size w W → Calls Tryz.prog 80 #[.pointer (some ⟨s.x, 0, none⟩), .int .i64 a] W (PPost s.A s.x (er, st') W)) := fun W hW => by
    have := paUnclip_any (h.pane hi hW).2.wf a W (h.pane hi hW).1
    rw [ho] at this
    exact this
  have HR : Hid (∀ W1 W, Below w.heap.size w W1 → Only s.A W1 W → Calls Tryz.prog 81 #[.pointer (some ⟨s.c, 0, none⟩), .int .i64 a] W (RPost s.B s.c (er, st') W)) := fun W1 W hW1 hW => by
    have := refUnclip_any (h.pane hi hW1).2.wf a W (h.ref hi hW1 hW).1
    rw [ho] at this
    exact this
  have HIn := hide (h.inA hi)
  have HI := hide (And.intro h (And.intro hi hf))
  clear h hi hf ho
  unfold pairV opCells
  obtain ⟨post, hpost⟩ : ∃ P, P = StepPost n0 pb N ps L w := ⟨_, rfl⟩
  rw [← hpost]
  have HPo := hide hpost
  clear hpost
  go_enter Tryz.func33, Tryz.ntmps33
  go_wp2_with (first
    | (go_at_call 80; refine (HP.out _ (al2 (Nat.le_refl _) _ _)).mono ?_; rintro e w2 ⟨rfl, hP, oP⟩; obtain ⟨b1, b2⟩ := boxes_stay HIn.out.1 oP; have c1 := cell_of_row w2 _ 1 _ _ _ b1; have c2 := cell_of_row w2 _ 2 _ _ _ b2; simp only [List.getElem?_toArray, List.getElem?_cons_zero, List.getElem?_cons_succ] at c1 c2; have H2 := hide (And.intro hP oP); clear hP oP b1 b2)
    | (go_at_call 81; refine (HR.out _ _ (al2 (Nat.le_refl _) _ _) H2.out.2).mono ?_; rintro e w3 ⟨rfl, hR, oR⟩; have H3 := hide (And.intro hR oR); clear hR oR))
  try go_ret
  rw [HPo.out]
  exact HI.out.1.done HI.out.2.1 (al2 (Nat.le_refl _) _ _) H2.out.1 H2.out.2 H3.out.1 H3.out.2 HI.out.2.2 (Only.refl _ _)

set_option maxRecDepth 100000 in
set_option maxHeartbeats 1000000 in
/-- asked: Stack -/
theorem asked_stack {n0 : Nat} {w : World} {pb N : Nat} {ps : Value} {L : List Scr} (h : Inv n0 w pb N ps L) {i : Nat} {s : Scr} (hi : L[i]? = some s) (k a b c : Int) (y : Bool) (r : R4) (lv mv pv : Value) :
    Calls Tryz.prog 33 #[pairV s, .agg (opCells 9 k a b c y r lv mv pv)] w (StepPost n0 pb N ps L w) := by
  obtain ⟨er, st', ho⟩ : ∃ er st', opStack s.st a b y = (er, st') := ⟨_, _, rfl⟩
  have hf : Fine st' := by
    have := fine_stack (h.pane hi (Below.refl _ _)).2 a b y
    rw [ho] at this
    exact this
  have HP : Hid (∀ W, Below w.heap.size w W → Calls Tryz.prog 84 #[.pointer (some ⟨s.x, 0, none⟩), .int .i64 a, .int .i64 b, .bool y] W (PPost s.A s.x (er, st') W)) := fun W hW => by
    have := paStack_any (h.pane hi hW).2.wf a b y W (h.pane hi hW).1
    rw [ho] at this
    exact this
  have HR : Hid (∀ W1 W, Below w.heap.size w W1 → Only s.A W1 W → Calls Tryz.prog 85 #[.pointer (some ⟨s.c, 0, none⟩), .int .i64 a, .int .i64 b, .bool y] W (RPost s.B s.c (er, st') W)) := fun W1 W hW1 hW => by
    have := refStack_any (h.pane hi hW1).2.wf a b y W (h.ref hi hW1 hW).1
    rw [ho] at this
    exact this
  have HIn := hide (h.inA hi)
  have HI := hide (And.intro h (And.intro hi hf))
  clear h hi hf ho
  unfold pairV opCells
  obtain ⟨post, hpost⟩ : ∃ P, P = StepPost n0 pb N ps L w := ⟨_, rfl⟩
  rw [← hpost]
  have HPo := hide hpost
  clear hpost
  go_enter Tryz.func33, Tryz.ntmps33
  go_wp2_with (first
    | (go_at_call 84; refine (HP.out _ (al2 (Nat.le_refl _) _ _)).mono ?_; rintro e w2 ⟨rfl, hP, oP⟩; obtain ⟨b1, b2⟩ := boxes_stay HIn.out.1 oP; have c1 := cell_of_row w2 _ 1 _ _ _ b1; have c2 := cell_of_row w2 _ 2 _ _ _ b2; have c3 := cell_of_row w2 _ 3 _ _ _ b2; have c5 := cell_of_row w2 _ 5 _ _ _ b2; simp only [List.getElem?_toArray, List.getElem?_cons_zero, List.getElem?_cons_succ] at c1 c2 c3 c5; have H2 := hide (And.intro hP oP); clear hP oP b1 b2)
    | (go_at_call 85; refine (HR.out _ _ (al2 (Nat.le_refl _) _ _) H2.out.2).mono ?_; rintro e w3 ⟨rfl, hR, oR⟩; have H3 := hide (And.intro hR oR); clear hR oR))
  try go_ret
  rw [HPo.out]
  exact HI.out.1.done HI.out.2.1 (al2 (Nat.le_refl _) _ _) H2.out.1 H2.out.2 H3.out.1 H3.out.2 HI.out.2.2 (Only.refl _ _)

end Go.Proofs.YtlaflopimpnjpaaGreat

/-! AskB -/
namespace Go.Proofs.YtlaflopimpnjpaaGreat
open Go.RowKit
attribute [local go_sem ↓] Go.wp_at_zero Go.wp_at_succ

theorem LentP.pix {w : World} {base : Nat} {v : Value} {l : List R4} {u : Value} (h : LentP w base v l u) : PixAt w u l := by
  rcases h with ⟨_, rfl, rfl⟩ | ⟨_, g, cap, rfl, hr⟩
  · exact ⟨none, 0, rfl, fun h => by simp at h⟩
  · refine ⟨_, cap, rfl, fun hl => ⟨by have := own_cap hr; omega, g, 0, rfl, fun k hk => ?_⟩⟩
    have cs := World.ownsRow.cells hr (g := g) rfl
    have hk2 : k < (l ++ [mkP 5, mkP 6]).length := by rw [List.length_append]; omega
    obtain ⟨p0, p1, p2, p3⟩ := pixCells_at (l ++ [mkP 5, mkP 6]) k hk2
    have e : (l ++ [mkP 5, mkP 6])[k] = l[k] := List.getElem_append_left hk
    rw [e] at p0 p1 p2 p3
    have c0 := cs _ _ p0
    have c1 := cs _ _ p1
    have c2 := cs _ _ p2
    have c3 := cs _ _ p3
    rw [add_at] at c0 c1 c2 c3
    simp only [Nat.zero_add]
    exact ⟨c0, c1, c2, c3⟩

theorem LentP.keep {w w' : World} {base : Nat} {v : Value} {l : List R4} {u : Value} (h : LentP w base v l u) (hk : ∀ g, base ≤ g → g < w.heap.size → w'.heap[g]? = w.heap[g]?) : LentP w' base v l u := by
  rcases h with h | ⟨h1, g, cap, h2, h3⟩
  · exact .inl h
  · exact .inr ⟨h1, g, cap, h2, own_keep h3 fun b hb => hk b (h3.lt b hb).1 (h3.lt b hb).2⟩

theorem LentP.own {w : World} {base : Nat} {v : Value} {l : List R4} {u : Value} (h : LentP w base v l u) : ∀ g, u.ownBlock = some g → base ≤ g ∧ g < w.heap.size := by
  rcases h with ⟨_, rfl, _⟩ | ⟨_, g, cap, rfl, h3⟩
  · intro g hg
    simp [Value.ownBlock] at hg
  · intro b hb
    exact h3.lt b hb

/-- The two boxes, behind what only makes. -/
theorem boxes_below {w W : World} {o1 o2 : Obj} (h : Below ((w.alloc o1).alloc o2).heap.size ((w.alloc o1).alloc o2) W) : W.heap[w.heap.size]? = some o1 ∧ W.heap[w.heap.size + 1]? = some o2 :=
  boxes_stay (S := fun _ => False) (fun _ hh => hh.elim) (Only.below h)

theorem boxes_only {w W W' : World} {S : Nat → Prop} {o1 o2 : Obj} (h : W.heap[w.heap.size]? = some o1 ∧ W.heap[w.heap.size + 1]? = some o2) (hS : ∀ g, S g → g < w.heap.size) (h' : Only S W W') : W'.heap[w.heap.size]? = some o1 ∧ W'.heap[w.heap.size + 1]? = some o2 :=
  ⟨(h'.block _ (Array.getElem?_eq_some_iff.1 h.1).1 fun hh => by have := hS _ hh; omega).trans h.1, (h'.block _ (Array.getElem?_eq_some_iff.1 h.2).1 fun hh => by have := hS _ hh; omega).trans h.2⟩

set_option maxRecDepth 100000 in
set_option maxHeartbeats 1000000 in
/-- asked: Attach -/
theorem asked_attach {n0 : Nat} {w : World} {pb N : Nat} {ps : Value} {L : List Scr} (h : Inv n0 w pb N ps L) {i : Nat} {s : Scr} (hi : L[i]? = some s) (k a b c : Int) (y : Bool) (r : R4) (lv mv pv : Value) (l : List R4)
    (hpx : ∀ W, Only (fun g => n0 ≤ g) w W → PixAt W pv l) (hv : (pv = .slice none 0 0 ∧ l = []) ∨ ∃ ad c, pv = .slice (some ad) l.length c) (hr : l.length * 4 ≤ 140737488351232) :
    Calls Tryz.prog 33 #[pairV s, .agg (opCells 4 k a b c y r lv mv pv)] w (StepPost n0 pb N ps L w) := by
  have hn := h.size
  have hml : l.length ≤ maxLen := by unfold maxLen; omega
  obtain ⟨er, st', ho⟩ : ∃ er st', opAttach s.st a b c l.length (l.all fitP) = (er, st') := ⟨_, _, rfl⟩
  have hf : Fine st' := by
    have := fine_attach (h.pane hi (Below.refl _ _)).2 a b c l.length (l.all fitP)
    rw [ho] at this
    exact this
  have okA := h.inA hi
  have okN : (∀ g, s.A g → n0 ≤ g) ∧ ∀ g, s.B g → n0 ≤ g := by
    have ok := h.scr s (List.mem_iff_getElem?.2 ⟨i, hi⟩)
    exact ⟨fun g hg => (ok.own g (.inl hg)).1, fun g hg => (ok.own g (.inr hg)).1⟩
  have HL : Hid (∀ W, Below w.heap.size w W → Calls Tryz.prog 64 #[pv] W fun e w' => ∃ u, e = .returned u ∧ LentP w' W.heap.size pv l u ∧ Below W.heap.size W w') := fun W hW => lentP_any l pv W (hpx W (Only.below hW)) hv hr
  have HP : Hid (∀ W B u, Below w.heap.size w W → LentP W B pv l u → Calls Tryz.prog 74 #[.pointer (some ⟨s.x, 0, none⟩), .int .i64 a, .int .i64 b, .int .i64 c, u] W (PPost s.A s.x (er, st') W)) := fun W B u hW hu => by
    have := paAttach_any (h.pane hi hW).2.wf a b c l u W (h.pane hi hW).1 hu.pix hml
    rw [ho] at this
    exact this
  have HR : Hid (∀ W1 W, Below w.heap.size w W1 → Only s.A W1 W → Calls Tryz.prog 75 #[.pointer (some ⟨s.c, 0, none⟩), .int .i64 a, .int .i64 b, .int .i64 c, pv] W (RPost s.B s.c (er, st') W)) := fun W1 W hW1 hW => by
    have hx : PixAt W pv l := hpx W ((Only.below hW1).trans (hW.mono fun g _ hg => .inl (okN.1 g hg)))
    have := refAttach_any (h.pane hi hW1).2.wf a b c l pv W (h.ref hi hW1 hW).1 hx hml
    rw [ho] at this
    exact this
  have HT : Hid (∀ W1 W2 W3 B u, Below w.heap.size w W1 → w.heap.size ≤ B → LentP W1 B pv l u → Only s.A W1 W2 → Only s.B W2 W3 → Calls Tryz.prog 67 #[u, pv] W3 fun e w' => e = .returned (.bool true) ∧ Only (fun g => w.heap.size ≤ g ∧ g < W1.heap.size) W3 w') := fun W1 W2 W3 B u hW1 hB hu o2 o3 => by
    have hx : PixAt W3 pv l := hpx W3 (((Only.below hW1).trans (o2.mono fun g _ hg => .inl (okN.1 g hg))).trans (o3.mono fun g _ hg => .inl (okN.2 g hg)))
    have s1 := hW1.size
    have s2 := o2.size
    have hu3 : LentP W3 B pv l u := hu.keep fun g h1 h2 => (o3.block g (by omega) fun hh => by have := okA.2 g hh; omega).trans (o2.block g h2 fun hh => by have := okA.1 g hh; omega)
    refine (returnedP_any l u pv B W3 hx hu3 hr).mono ?_
    rintro e w' ⟨rfl, hg⟩
    refine ⟨rfl, (Only.refl _ _).grown hg fun g hh => .inl ?_⟩
    have := hu.own g hh
    exact ⟨by omega, this.2⟩
  have HIn := hide okA
  have HI := hide (And.intro h (And.intro hi hf))
  clear h hi hf ho hpx hv hr hml okA okN hn
  unfold pairV opCells
  obtain ⟨post, hpost⟩ : ∃ P, P = StepPost n0 pb N ps L w := ⟨_, rfl⟩
  rw [← hpost]
  have HPo := hide hpost
  clear hpost
  go_enter Tryz.func33, Tryz.ntmps33
  go_wp2_with (first
    | (go_at_call 64; refine (HL.out _ (al2 (Nat.le_refl _) _ _)).mono ?_; rintro e w1 ⟨u, rfl, hlent, hb1⟩; have hbx := boxes_below hb1; have c0 := cell_of_row w1 _ 0 _ _ _ hbx.1; have c2 := cell_of_row w1 _ 2 _ _ _ hbx.2; have c3 := cell_of_row w1 _ 3 _ _ _ hbx.2; have c4 := cell_of_row w1 _ 4 _ _ _ hbx.2; simp only [List.getElem?_toArray, List.getElem?_cons_zero, List.getElem?_cons_succ] at c0 c2 c3 c4; have H1 := hide (And.intro ((al2 (Nat.le_refl _) _ _).trans (hb1.mono (by simp; omega))) (And.intro hlent hbx)); clear hlent hb1 hbx)
    | (go_at_call 74; refine (HP.out _ _ _ H1.out.1 H1.out.2.1).mono ?_; rintro e w2 ⟨rfl, hP, oP⟩; have hbx := boxes_only H1.out.2.2 HIn.out.1 oP; have d1 := cell_of_row w2 _ 1 _ _ _ hbx.1; have d2 := cell_of_row w2 _ 2 _ _ _ hbx.2; have d3 := cell_of_row w2 _ 3 _ _ _ hbx.2; have d4 := cell_of_row w2 _ 4 _ _ _ hbx.2; have d12 := cell_of_row w2 _ 12 _ _ _ hbx.2; simp only [List.getElem?_toArray, List.getElem?_cons_zero, List.getElem?_cons_succ] at d1 d2 d3 d4 d12; have H2 := hide (And.intro hP (And.intro oP hbx)); clear hP oP hbx)
    | (go_at_call 75; refine (HR.out _ _ H1.out.1 H2.out.2.1).mono ?_; rintro e w3 ⟨rfl, hR, oR⟩; have hbx := boxes_only H2.out.2.2 HIn.out.2 oR; have f12 := cell_of_row w3 _ 12 _ _ _ hbx.2; simp only [List.getElem?_toArray, List.getElem?_cons_zero, List.getElem?_cons_succ] at f12; have H3 := hide (And.intro hR oR); clear hR oR hbx)
    | (go_at_call 67; refine (HT.out _ _ _ _ _ H1.out.1 (by simp; omega) H1.out.2.1 H2.out.2.1 H3.out.2).mono ?_; rintro e w4 ⟨rfl, o4⟩; have H4 := hide o4; clear o4))
  try go_ret
  rw [HPo.out]
  exact HI.out.1.done HI.out.2.1 H1.out.1 H2.out.1 H2.out.2.1 H3.out.1 H3.out.2 HI.out.2.2 H4.out

end Go.Proofs.YtlaflopimpnjpaaGreat
