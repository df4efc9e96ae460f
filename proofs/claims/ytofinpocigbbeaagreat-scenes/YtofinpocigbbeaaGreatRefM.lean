import Derived.Test.YtofinpocigbbeaaGreatFrm
import Derived.Test.YtofinpocigbbeaaGreatSceB
namespace Go.Proofs.YtofinpocigbbeaaGreat
open Go.RowKit

/-! ### The document's screen in memory -/

structure SfCells (F : Nat → Value) (s : Sf) : Prop where
  alive : F 0 = .bool s.alive
  parent : F 1 = .int .i64 s.parent
  nw : F 2 = .int .i64 s.now.w
  nh : F 3 = .int .i64 s.now.h
  nx : F 5 = .int .i64 s.now.x
  ny : F 6 = .int .i64 s.now.y
  ncut : F 7 = .bool s.now.cut
  n0 : F 8 = .int .i64 s.now.clip.1
  n1 : F 9 = .int .i64 s.now.clip.2.1
  n2 : F 10 = .int .i64 s.now.clip.2.2.1
  n3 : F 11 = .int .i64 s.now.clip.2.2.2
  nhint : F 12 = .slice none 0 0
  xw : F 13 = .int .i64 s.next.w
  xh : F 14 = .int .i64 s.next.h
  xx : F 16 = .int .i64 s.next.x
  xy : F 17 = .int .i64 s.next.y
  xcut : F 18 = .bool s.next.cut
  x0 : F 19 = .int .i64 s.next.clip.1
  x1 : F 20 = .int .i64 s.next.clip.2.1
  x2 : F 21 = .int .i64 s.next.clip.2.2.1
  x3 : F 22 = .int .i64 s.next.clip.2.2.2
  xhint : F 23 = .slice none 0 0
  ask : F 24 = .bool s.ask
  sib : F 25 = .int .i64 s.sib
  above : F 26 = .bool s.above
  kept : ∃ a m c, F 27 = .slice a m c

/-- A row of so many pixels, of whatever colours. -/
def PixRow (w : World) (S : Nat → Prop) (v : Value) (n : Int) : Prop := ∃ (m : Nat) (xs : List Value), (m : Int) = n ∧ RowS w S 51 4 v m xs ∧ ∀ x ∈ xs, ∃ a : Int, x = .int .u8 a

theorem PixRow.mono {w : World} {S S' : Nat → Prop} {v : Value} {n : Int} (h : PixRow w S v n) (hS : ∀ g, S g → S' g) : PixRow w S' v n := by
  obtain ⟨m, xs, h1, h2, h3⟩ := h
  exact ⟨m, xs, h1, h2.mono hS, h3⟩

theorem PixRow.other {w w' : World} {S : Nat → Prop} {v : Value} {n : Int} (h : PixRow w S v n) (hk : ∀ (g : Nat) (cur : Array Value), w.heap[g]? = some (.cells cur 51 (0, 0)) → w'.heap[g]? = w.heap[g]?) : PixRow w' S v n := by
  obtain ⟨m, xs, h1, h2, h3⟩ := h
  exact ⟨m, xs, h1, h2.other hk, h3⟩

theorem PixRow.nil (w : World) (S : Nat → Prop) : PixRow w S (.slice none 0 0) 0 := ⟨0, [], rfl, RowS.nil _ _ _ _, fun x hx => by cases hx⟩

theorem PixRow.form {w : World} {S : Nat → Prop} {v : Value} {n : Int} (h : PixRow w S v n) : ∃ a m c, v = .slice a m c ∧ (m : Int) = n := by
  obtain ⟨m, xs, h1, h2, h3⟩ := h
  obtain ⟨a, c, e⟩ := h2.form
  exact ⟨a, m, c, e, h1⟩

structure RRaw (w : World) (S : Nat → Prop) (c : Nat) (W H : Int) (n : Nat) (ord : List Nat) (bv sv ov : Value) (F : Nat → Nat → Value) : Prop where
  scr : w.heap[c]? = some (.cells #[.int .i64 W, .int .i64 H, bv, sv, ov] 202 (0, 0))
  own : S c
  sfs : ∃ xs, RowS w S 214 28 sv n xs ∧ ∀ i, i < n → ∀ o, o < 28 → xs[i * 28 + o]? = some (F i o)
  ord : RowS w S 3 1 ov ord.length (ord.map fun (i : Nat) => .int .i64 (i : Int))
  buf : ∃ nb xs, nb ≤ 3 ∧ RowS w S 204 3 bv nb xs ∧ ∀ k, k < nb → ∃ (dv : Value) (m : Nat), xs[k * 3 + 2]? = some dv ∧ (m : Int) = W * H ∧ ∃ ys, RowS w S 4 1 dv m ys

structure RSem (w : World) (S : Nat → Prop) (st : St) (F : Nat → Nat → Value) : Prop where
  rel : ∀ i, i < st.sfs.length → SfCells (F i) (st.sf i)
  pixN : ∀ i, i < st.sfs.length → PixRow w S (F i 4) ((st.sf i).now.w * (st.sf i).now.h)
  pixX : ∀ i, i < st.sfs.length → PixRow w S (F i 15) ((st.sf i).next.w * (st.sf i).next.h)

def RefOk (w : World) (S : Nat → Prop) (c : Nat) (st : St) : Prop := ∃ bv sv ov F, RRaw w S c st.w st.h st.sfs.length st.order bv sv ov F ∧ RSem w S st F

theorem RRaw.mono {w : World} {S S' : Nat → Prop} {c : Nat} {W H : Int} {n : Nat} {ord : List Nat} {bv sv ov : Value} {F : Nat → Nat → Value} (h : RRaw w S c W H n ord bv sv ov F) (hS : ∀ g, S g → S' g) : RRaw w S' c W H n ord bv sv ov F := by
  obtain ⟨h1, h2, ⟨xs, h3, h4⟩, h5, nb, ys, h6, h7, h8⟩ := h
  refine ⟨h1, hS _ h2, ⟨xs, h3.mono hS, h4⟩, h5.mono hS, nb, ys, h6, h7.mono hS, fun k hk => ?_⟩
  obtain ⟨dv, m, e1, e2, zs, e3⟩ := h8 k hk
  exact ⟨dv, m, e1, e2, zs, e3.mono hS⟩

theorem RSem.mono {w : World} {S S' : Nat → Prop} {st : St} {F : Nat → Nat → Value} (h : RSem w S st F) (hS : ∀ g, S g → S' g) : RSem w S' st F := ⟨h.rel, fun i hi => (h.pixN i hi).mono hS, fun i hi => (h.pixX i hi).mono hS⟩

theorem RefOk.mono {w : World} {S S' : Nat → Prop} {c : Nat} {st : St} (h : RefOk w S c st) (hS : ∀ g, S g → S' g) : RefOk w S' c st := by
  obtain ⟨bv, sv, ov, F, h1, h2⟩ := h
  exact ⟨bv, sv, ov, F, h1.mono hS, h2.mono hS⟩

theorem RRaw.keep {w w' : World} {S : Nat → Prop} {c : Nat} {W H : Int} {n : Nat} {ord : List Nat} {bv sv ov : Value} {F : Nat → Nat → Value} (h : RRaw w S c W H n ord bv sv ov F) (hk : ∀ g, S g → g < w.heap.size → w'.heap[g]? = w.heap[g]?) : RRaw w' S c W H n ord bv sv ov F := by
  obtain ⟨h1, h2, ⟨xs, h3, h4⟩, h5, nb, ys, h6, h7, h8⟩ := h
  refine ⟨by rw [hk c h2 (Array.getElem?_eq_some_iff.1 h1).1]; exact h1, h2, ⟨xs, h3.keep hk, h4⟩, h5.keep hk, nb, ys, h6, h7.keep hk, fun k hk2 => ?_⟩
  obtain ⟨dv, m, e1, e2, zs, e3⟩ := h8 k hk2
  exact ⟨dv, m, e1, e2, zs, e3.keep hk⟩

theorem PixRow.keep {w w' : World} {S : Nat → Prop} {v : Value} {n : Int} (h : PixRow w S v n) (hk : ∀ g, S g → g < w.heap.size → w'.heap[g]? = w.heap[g]?) : PixRow w' S v n := by
  obtain ⟨m, xs, h1, h2, h3⟩ := h
  exact ⟨m, xs, h1, h2.keep hk, h3⟩

theorem RSem.keep {w w' : World} {S : Nat → Prop} {st : St} {F : Nat → Nat → Value} (h : RSem w S st F) (hk : ∀ g, S g → g < w.heap.size → w'.heap[g]? = w.heap[g]?) : RSem w' S st F := ⟨h.rel, fun i hi => (h.pixN i hi).keep hk, fun i hi => (h.pixX i hi).keep hk⟩

theorem RefOk.keep {w w' : World} {S : Nat → Prop} {c : Nat} {st : St} (h : RefOk w S c st) (hk : ∀ g, S g → g < w.heap.size → w'.heap[g]? = w.heap[g]?) : RefOk w' S c st := by
  obtain ⟨bv, sv, ov, F, h1, h2⟩ := h
  exact ⟨bv, sv, ov, F, h1.keep hk, h2.keep hk⟩

theorem RRaw.below {w w' : World} {S : Nat → Prop} {c : Nat} {W H : Int} {n : Nat} {ord : List Nat} {bv sv ov : Value} {F : Nat → Nat → Value} (h : RRaw w S c W H n ord bv sv ov F) (hb : Below w.heap.size w w') : RRaw w' S c W H n ord bv sv ov F := h.keep fun g _ hg => hb.block g hg
theorem RSem.below {w w' : World} {S : Nat → Prop} {st : St} {F : Nat → Nat → Value} (h : RSem w S st F) (hb : Below w.heap.size w w') : RSem w' S st F := h.keep fun g _ hg => hb.block g hg

/-- The screen's own cells. -/
theorem RRaw.cells {w : World} {S : Nat → Prop} {c : Nat} {W H : Int} {n : Nat} {ord : List Nat} {bv sv ov : Value} {F : Nat → Nat → Value} (h : RRaw w S c W H n ord bv sv ov F) :
    w.cell? ⟨c, 0, none⟩ = some (.int .i64 W) ∧ w.cell? ⟨c, 1, none⟩ = some (.int .i64 H) ∧ w.cell? ⟨c, 2, none⟩ = some bv ∧ w.cell? ⟨c, 3, none⟩ = some sv ∧ w.cell? ⟨c, 4, none⟩ = some ov ∧ (∀ j, w.frozen? ⟨c, j, none⟩ = false) ∧ c < w.heap.size := by
  refine ⟨?_, ?_, ?_, ?_, ?_, fun j => by simp [World.frozen?, h.scr], (Array.getElem?_eq_some_iff.1 h.scr).1⟩ <;> (rw [cell_of_row w c _ _ _ _ h.scr]; rfl)

theorem RRaw.svForm {w : World} {S : Nat → Prop} {c : Nat} {W H : Int} {n : Nat} {ord : List Nat} {bv sv ov : Value} {F : Nat → Nat → Value} (h : RRaw w S c W H n ord bv sv ov F) : ∃ a cap, sv = .slice a n cap := by
  obtain ⟨xs, h1, _⟩ := h.sfs
  exact h1.form

/-- A surface's cells. -/
theorem RRaw.at {w : World} {S : Nat → Prop} {c : Nat} {W H : Int} {n : Nat} {ord : List Nat} {bv sv ov : Value} {F : Nat → Nat → Value} (h : RRaw w S c W H n ord bv sv ov F) (hn : 0 < n) :
    ∃ g cap, sv = .slice (some ⟨g, 0, none⟩) n cap ∧ S g ∧ n ≤ cap ∧ g < w.heap.size ∧ (∀ i, i < n → ∀ o, o < 28 → w.cell? ⟨g, i * 28 + o, none⟩ = some (F i o)) ∧ ∀ j, w.frozen? ⟨g, j, none⟩ = false := by
  obtain ⟨xs, h1, h2⟩ := h.sfs
  obtain ⟨g, cap, e1, e2, e3, e4, e5, e6⟩ := h1.open hn
  exact ⟨g, cap, e1, e2, e3, e4, fun i hi o ho => e5 _ _ (h2 i hi o ho), e6⟩

theorem RRaw.ovForm {w : World} {S : Nat → Prop} {c : Nat} {W H : Int} {n : Nat} {ord : List Nat} {bv sv ov : Value} {F : Nat → Nat → Value} (h : RRaw w S c W H n ord bv sv ov F) : ∃ a cap, ov = .slice a ord.length cap := h.ord.form

theorem RRaw.ordAt {w : World} {S : Nat → Prop} {c : Nat} {W H : Int} {n : Nat} {ord : List Nat} {bv sv ov : Value} {F : Nat → Nat → Value} (h : RRaw w S c W H n ord bv sv ov F) (hn : 0 < ord.length) :
    ∃ g cap, ov = .slice (some ⟨g, 0, none⟩) ord.length cap ∧ S g ∧ ord.length ≤ cap ∧ g < w.heap.size ∧ ∀ i (hi : i < ord.length), w.cell? ⟨g, i, none⟩ = some (.int .i64 (ord[i] : Int)) := by
  obtain ⟨g, cap, e1, e2, e3, e4, e5, _⟩ := h.ord.open hn
  exact ⟨g, cap, e1, e2, e3, e4, fun i hi => e5 i _ (by rw [List.getElem?_map, List.getElem?_eq_getElem hi]; rfl)⟩

end Go.Proofs.YtofinpocigbbeaaGreat
