import Derived.Test.YtofinpocigbbeaaGreatMapI
import Derived.Test.YtofinpocigbbeaaGreatCvB
import Derived.Test.YtofinpocigbbeaaGreatSceD
namespace Go.Proofs.YtofinpocigbbeaaGreat
open Go.RowKit

/-! ### The program's screen in memory -/

/-- The ground, and the surfaces that there are. -/
def Live (st : St) (p : Int) : Prop := p = -1 ∨ ∃ i : Nat, p = i ∧ i ∈ st.order

def ptrV (b : Nat) : Value := .pointer (some ⟨b, 0, none⟩)

/-- What a surface has now; the ground's clip is the screen. -/
def lookP (st : St) (p : Int) : Look := if p = -1 then ⟨0, 0, 0, 0, true, (0, 0, st.w, st.h), fun _ => (0, 0, 0, 0), fun _ _ => false⟩ else (st.sf p.toNat).now

structure LookCells (G : Nat → Value) (k : Nat) (l : Look) : Prop where
  w : G k = .int .i64 l.w
  h : G (k + 1) = .int .i64 l.h
  pix : ∃ a m c, G (k + 2) = .slice a m c
  x : G (k + 3) = .int .i64 l.x
  y : G (k + 4) = .int .i64 l.y
  c0 : G (k + 5) = .int .i64 l.clip.1
  c1 : G (k + 6) = .int .i64 l.clip.2.1
  c2 : G (k + 7) = .int .i64 l.clip.2.2.1
  c3 : G (k + 8) = .int .i64 l.clip.2.2.2
  cut : G (k + 9) = .bool l.cut
  hint : ∃ a m c, G (k + 10) = .slice a m c

/-- The cells of a surface. -/
structure PCells (blk : Int → Nat) (st : St) (p : Int) (G : Nat → Value) : Prop where
  num : G 0 = .int .i64 p
  par : G 1 = if p = -1 then .pointer none else ptrV (blk (st.sf p.toNat).parent)
  now : LookCells G 3 (lookP st p)
  next : ∃ l, LookCells G 14 l ∧ (p ≠ -1 → l = (st.sf p.toNat).next)
  stk : ∃ (t : Bool) (z : Int) (b : Bool), G 25 = .bool t ∧ G 26 = .int .i64 z ∧ G 27 = .bool b ∧ (p ≠ -1 → t = (st.sf p.toNat).ask ∧ (t = true → z = (st.sf p.toNat).sib ∧ b = (st.sf p.toNat).above))
  kep : ∃ kw kh a m c, G 28 = .int .i64 kw ∧ G 29 = .int .i64 kh ∧ G 30 = .slice a m c

/-- Pixels, a block of one's own if there are any. -/
def PixV (w : World) (S : Nat → Prop) (v : Value) (n : Nat) (f : Nat → R4) : Prop :=
  ∃ a, v = .slice a n n ∧ (0 < n → ∃ g, a = some ⟨g, 0, none⟩ ∧ S g ∧ PixF w g n f)

/-- Marks in a block. -/
def BoolF (w : World) (g n : Nat) (f : Nat → Bool) : Prop :=
  ∃ cur : Array Value, w.heap[g]? = some (.cells cur 4 (0, 0)) ∧ cur.size = n ∧ ∀ k, k < n → cur[k]? = some (.bool (f k))

def BoolV (w : World) (S : Nat → Prop) (v : Value) (n : Nat) (f : Nat → Bool) : Prop :=
  ∃ a, v = .slice a n n ∧ (0 < n → ∃ g, a = some ⟨g, 0, none⟩ ∧ S g ∧ BoolF w g n f)

/-- A region with these points. -/
def HintV (w : World) (S : Nat → Prop) (v : Value) (f : Int → Int → Bool) : Prop := ∃ R, RegS w S v R ∧ Good R ∧ ∀ x y, memR R x y = f x y

def Look.n (l : Look) : Nat := (l.w * l.h).toNat

/-- What the cells of a surface point to. -/
structure SfD (w : World) (S : Nat → Prop) (G : Nat → Value) (s : Sf) : Prop where
  pix : PixV w S (G 5) s.now.n s.now.pix
  hint : HintV w S (G 13) s.now.hint
  npix : PixV w S (G 16) s.next.n s.next.pix
  nhint : HintV w S (G 24) s.next.hint
  kw : G 28 = .int .i64 s.now.w
  kh : G 29 = .int .i64 s.now.h
  kept : BoolV w S (G 30) s.now.n s.kept

/-- Blocks of these types are never written into by what keeps the surfaces. -/
def DataT (t : TypeId) : Prop := t = 51 ∨ t = 4 ∨ t = 192 ∨ t = 194

def KeptD (w w' : World) : Prop := ∀ (g : Nat) (cur : Array Value) (t : TypeId), DataT t → w.heap[g]? = some (.cells cur t (0, 0)) → w'.heap[g]? = w.heap[g]?

theorem KeptD.below {w w' : World} (h : Below w.heap.size w w') : KeptD w w' := fun g _ _ _ hg => h.block g (block_lt hg)
theorem KeptD.trans {a b c : World} (h : KeptD a b) (k : KeptD b c) : KeptD a c := fun g cur t ht hg => by
  have e := h g cur t ht hg
  exact (k g cur t ht (e.trans hg)).trans e
theorem KeptD.r {w w' : World} (h : KeptD w w') : KeptR w w' := fun g cur t ht hg => h g cur t (.inr (.inr ht)) hg
theorem KeptD.refl (w : World) : KeptD w w := fun _ _ _ _ _ => rfl

theorem PixV.keepS {w w' : World} {S S' : Nat → Prop} {v : Value} {n : Nat} {f : Nat → R4} (h : PixV w S v n f) (hS : ∀ g, S g → S' g) (hk : ∀ g cur, S g → w.heap[g]? = some (.cells cur 51 (0, 0)) → w'.heap[g]? = w.heap[g]?) : PixV w' S' v n f := by
  obtain ⟨a, h1, h2⟩ := h
  refine ⟨a, h1, fun hn => ?_⟩
  obtain ⟨g, g1, g2, cur, g3, g4⟩ := h2 hn
  exact ⟨g, g1, hS g g2, cur, (hk g cur g2 g3).trans g3, g4⟩

theorem BoolV.keepS {w w' : World} {S S' : Nat → Prop} {v : Value} {n : Nat} {f : Nat → Bool} (h : BoolV w S v n f) (hS : ∀ g, S g → S' g) (hk : ∀ g cur, S g → w.heap[g]? = some (.cells cur 4 (0, 0)) → w'.heap[g]? = w.heap[g]?) : BoolV w' S' v n f := by
  obtain ⟨a, h1, h2⟩ := h
  refine ⟨a, h1, fun hn => ?_⟩
  obtain ⟨g, g1, g2, cur, g3, g4⟩ := h2 hn
  exact ⟨g, g1, hS g g2, cur, (hk g cur g2 g3).trans g3, g4⟩

theorem HintV.kept {w w' : World} {S : Nat → Prop} {v : Value} {f : Int → Int → Bool} (h : HintV w S v f) (hk : KeptR w w') : HintV w' S v f := by
  obtain ⟨R, h1, h2⟩ := h
  exact ⟨R, h1.keptR hk, h2⟩

theorem HintV.keep {w w' : World} {S : Nat → Prop} {v : Value} {f : Int → Int → Bool} (h : HintV w S v f) (hk : ∀ g, S g → g < w.heap.size → w'.heap[g]? = w.heap[g]?) : HintV w' S v f := by
  obtain ⟨R, h1, h2⟩ := h
  exact ⟨R, h1.keep hk, h2⟩

theorem HintV.mono {w : World} {S S' : Nat → Prop} {v : Value} {f : Int → Int → Bool} (h : HintV w S v f) (hS : ∀ g, S g → S' g) : HintV w S' v f := by
  obtain ⟨R, h1, h2⟩ := h
  exact ⟨R, h1.mono hS, h2⟩

theorem PixV.nil (w : World) (S : Nat → Prop) {n : Nat} (hn : n = 0) (f : Nat → R4) : PixV w S (.slice none 0 0) n f := ⟨none, by rw [hn], fun h => by omega⟩
theorem BoolV.nil (w : World) (S : Nat → Prop) {n : Nat} (hn : n = 0) (f : Nat → Bool) : BoolV w S (.slice none 0 0) n f := ⟨none, by rw [hn], fun h => by omega⟩
theorem HintV.nil (w : World) (S : Nat → Prop) : HintV w S (.slice none 0 0) fun _ _ => false := ⟨[], RegS.nil _ _, good_nil, fun _ _ => rfl⟩

theorem SfD.mono {w : World} {S S' : Nat → Prop} {G : Nat → Value} {s : Sf} (h : SfD w S G s) (hS : ∀ g, S g → S' g) : SfD w S' G s :=
  ⟨h.pix.keepS hS fun _ _ _ _ => rfl, h.hint.mono hS, h.npix.keepS hS fun _ _ _ _ => rfl, h.nhint.mono hS, h.kw, h.kh, h.kept.keepS hS fun _ _ _ _ => rfl⟩

theorem SfD.kd {w w' : World} {S : Nat → Prop} {G : Nat → Value} {s : Sf} (h : SfD w S G s) (hk : KeptD w w') : SfD w' S G s :=
  ⟨h.pix.keepS (fun _ h => h) fun g cur _ e => hk g cur _ (.inl rfl) e, h.hint.kept hk.r, h.npix.keepS (fun _ h => h) fun g cur _ e => hk g cur _ (.inl rfl) e, h.nhint.kept hk.r, h.kw, h.kh, h.kept.keepS (fun _ h => h) fun g cur _ e => hk g cur _ (.inr (.inl rfl)) e⟩

/-- The same cells, where it reads them. -/
theorem SfD.congr {w : World} {S : Nat → Prop} {G G' : Nat → Value} {s : Sf} (h : SfD w S G s) (h5 : G' 5 = G 5) (h13 : G' 13 = G 13) (h16 : G' 16 = G 16) (h24 : G' 24 = G 24) (h28 : G' 28 = G 28) (h29 : G' 29 = G 29) (h30 : G' 30 = G 30) : SfD w S G' s :=
  ⟨by rw [h5]; exact h.pix, by rw [h13]; exact h.hint, by rw [h16]; exact h.npix, by rw [h24]; exact h.nhint, by rw [h28]; exact h.kw, by rw [h29]; exact h.kh, by rw [h30]; exact h.kept⟩

/-- The blocks. -/
structure PRaw (w : World) (S : Nat → Prop) (x : Nat) (st : St) (bv : Value) (sc mp : Nat) (blk : Int → Nat) (G : Int → Nat → Value) : Prop where
  scr : w.heap[x]? = some (.cells #[ptrV sc, bv] 90 (0, 0))
  sce : w.heap[sc]? = some (.cells #[ptrV (blk (-1)), .map (some mp), .int .i64 (st.sfs.length : Int)] 152 (0, 0))
  map : MapOf w mp st.order fun (i : Nat) => blk i
  srf : ∀ p, Live st p → ∃ cur : Array Value, w.heap[blk p]? = some (.cells cur 174 (0, 0)) ∧ cur.size = 31 ∧ ∀ o, o < 31 → cur[o]? = some (G p o)
  own : S x ∧ S sc ∧ S mp ∧ ∀ p, Live st p → S (blk p)
  inj : ∀ p p', Live st p → Live st p' → blk p = blk p' → p = p'
  on : ∀ p, Live st p → RowS w S 117 1 (G p 2) (st.kids p).length ((st.kids p).map fun (i : Nat) => ptrV (blk i))
  apart : ∀ p p', Live st p → Live st p' → p ≠ p' → ∀ g, (G p 2).ownBlock = some g → (G p' 2).ownBlock ≠ some g
  cells : ∀ p, Live st p → PCells blk st p (G p)
  data : ∀ i : Nat, i ∈ st.order → SfD w S (G i) (st.sf i)

def PaneOk (w : World) (S : Nat → Prop) (x : Nat) (st : St) (bv : Value) : Prop := ∃ sc mp blk G, PRaw w S x st bv sc mp blk G

theorem PRaw.mono {w : World} {S S' : Nat → Prop} {x : Nat} {st : St} {bv : Value} {sc mp : Nat} {blk : Int → Nat} {G : Int → Nat → Value} (h : PRaw w S x st bv sc mp blk G) (hS : ∀ g, S g → S' g) : PRaw w S' x st bv sc mp blk G :=
  ⟨h.scr, h.sce, h.map, h.srf, ⟨hS _ h.own.1, hS _ h.own.2.1, hS _ h.own.2.2.1, fun p hp => hS _ (h.own.2.2.2 p hp)⟩, h.inj, fun p hp => (h.on p hp).mono hS, h.apart, h.cells, fun i hi => (h.data i hi).mono hS⟩

theorem PRaw.keep {w w' : World} {S : Nat → Prop} {x : Nat} {st : St} {bv : Value} {sc mp : Nat} {blk : Int → Nat} {G : Int → Nat → Value} (h : PRaw w S x st bv sc mp blk G) (hk : ∀ g, S g → g < w.heap.size → w'.heap[g]? = w.heap[g]?) : PRaw w' S x st bv sc mp blk G := by
  have hl : ∀ {g : Nat} {o : Obj}, w.heap[g]? = some o → S g → w'.heap[g]? = some o := fun {g o} hg hs => (hk g hs (Array.getElem?_eq_some_iff.1 hg).1).trans hg
  refine ⟨hl h.scr h.own.1, hl h.sce h.own.2.1, h.map.keep (hk _ h.own.2.2.1 h.map.lt), fun p hp => ?_, h.own, h.inj, fun p hp => (h.on p hp).keep hk, h.apart, h.cells, fun i hi => ?_⟩
  · obtain ⟨cur, h1, h2⟩ := h.srf p hp
    exact ⟨cur, hl h1 (h.own.2.2.2 p hp), h2⟩
  · have q := h.data i hi
    exact ⟨q.pix.keepS (fun _ h => h) fun g cur hs e => hk g hs (block_lt e), q.hint.keep hk, q.npix.keepS (fun _ h => h) fun g cur hs e => hk g hs (block_lt e), q.nhint.keep hk, q.kw, q.kh, q.kept.keepS (fun _ h => h) fun g cur hs e => hk g hs (block_lt e)⟩

theorem PRaw.below {w w' : World} {S : Nat → Prop} {x : Nat} {st : St} {bv : Value} {sc mp : Nat} {blk : Int → Nat} {G : Int → Nat → Value} (h : PRaw w S x st bv sc mp blk G) (hb : Below w.heap.size w w') : PRaw w' S x st bv sc mp blk G := h.keep fun g _ hg => hb.block g hg

theorem PaneOk.mono {w : World} {S S' : Nat → Prop} {x : Nat} {st : St} {bv : Value} (h : PaneOk w S x st bv) (hS : ∀ g, S g → S' g) : PaneOk w S' x st bv := by
  obtain ⟨sc, mp, blk, G, h⟩ := h
  exact ⟨sc, mp, blk, G, h.mono hS⟩

theorem PaneOk.keep {w w' : World} {S : Nat → Prop} {x : Nat} {st : St} {bv : Value} (h : PaneOk w S x st bv) (hk : ∀ g, S g → g < w.heap.size → w'.heap[g]? = w.heap[g]?) : PaneOk w' S x st bv := by
  obtain ⟨sc, mp, blk, G, h⟩ := h
  exact ⟨sc, mp, blk, G, h.keep hk⟩

theorem PaneOk.below {w w' : World} {S : Nat → Prop} {x : Nat} {st : St} {bv : Value} (h : PaneOk w S x st bv) (hb : Below w.heap.size w w') : PaneOk w' S x st bv := by
  obtain ⟨sc, mp, blk, G, h⟩ := h
  exact ⟨sc, mp, blk, G, h.below hb⟩

section
variable {w : World} {S : Nat → Prop} {x : Nat} {st : St} {bv : Value} {sc mp : Nat} {blk : Int → Nat} {G : Int → Nat → Value}

theorem live_top (st : St) : Live st (-1) := .inl rfl
theorem live_nat {st : St} {i : Nat} (h : i ∈ st.order) : Live st i := .inr ⟨i, rfl, h⟩
theorem live_kid {st : St} {p : Int} {i : Nat} (h : i ∈ st.kids p) : Live st i := live_nat (kids_mem.1 h).1
theorem live_par {st : St} (hw : Wf st) {i : Nat} (hi : i ∈ st.order) : Live st (st.sf i).parent := by
  have h1 := hw.par i
  by_cases e : (st.sf i).parent = -1
  · exact .inl e
  · obtain ⟨p, hp⟩ : ∃ p : Nat, (st.sf i).parent = p := ⟨(st.sf i).parent.toNat, by omega⟩
    exact .inr ⟨p, hp, hw.up i hi p hp⟩

theorem PRaw.scrCells (h : PRaw w S x st bv sc mp blk G) : w.cell? ⟨x, 0, none⟩ = some (ptrV sc) ∧ w.cell? ⟨x, 1, none⟩ = some bv ∧ x < w.heap.size := by
  refine ⟨?_, ?_, (Array.getElem?_eq_some_iff.1 h.scr).1⟩ <;> (rw [cell_of_row w x _ _ _ _ h.scr]; rfl)

theorem PRaw.sceCells (h : PRaw w S x st bv sc mp blk G) : w.cell? ⟨sc, 0, none⟩ = some (ptrV (blk (-1))) ∧ w.cell? ⟨sc, 1, none⟩ = some (.map (some mp)) ∧ w.cell? ⟨sc, 2, none⟩ = some (.int .i64 (st.sfs.length : Int)) ∧ sc < w.heap.size ∧ ∀ j, w.frozen? ⟨sc, j, none⟩ = false := by
  refine ⟨?_, ?_, ?_, (Array.getElem?_eq_some_iff.1 h.sce).1, fun j => by simp [World.frozen?, h.sce]⟩ <;> (rw [cell_of_row w sc _ _ _ _ h.sce]; rfl)

theorem PRaw.at (h : PRaw w S x st bv sc mp blk G) {p : Int} (hp : Live st p) : (∀ o, o < 31 → w.cell? ⟨blk p, o, none⟩ = some (G p o)) ∧ (∀ o, w.frozen? ⟨blk p, o, none⟩ = false) ∧ blk p < w.heap.size := by
  obtain ⟨cur, h1, h2, h3⟩ := h.srf p hp
  refine ⟨fun o ho => ?_, fun o => by simp [World.frozen?, h1], (Array.getElem?_eq_some_iff.1 h1).1⟩
  rw [cell_of_row w _ _ _ _ _ h1]
  exact h3 o ho

end

end Go.Proofs.YtofinpocigbbeaaGreat
