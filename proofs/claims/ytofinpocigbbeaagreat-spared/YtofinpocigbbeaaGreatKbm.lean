import Derived.Test.YtofinpocigbbeaaGreatKbi
import Derived.Laws.StructEq
import Derived.Test.YtofinpocigbbeaaGreatKbk
import Derived.Test.YtofinpocigbbeaaGreatKbh
import Derived.Test.YtofinpocigbbeaaGreatKbl
namespace Go.Proofs.YtofinpocigbbeaaGreat
open Go.RowKit
attribute [local go_sem ↓] Go.wp_at_zero Go.wp_at_succ

def olEq (l : Look) (k : Int) (l' : Look) (k' : Int) : Bool := l.w == l'.w && (l.h == l'.h && (l.x == l'.x && (l.y == l'.y && ((l.clip.1 == l'.clip.1 && (l.clip.2.1 == l'.clip.2.1 && (l.clip.2.2.1 == l'.clip.2.2.1 && l.clip.2.2.2 == l'.clip.2.2.2))) && (l.cut == l'.cut && k == k')))))

set_option maxRecDepth 100000 in
set_option maxHeartbeats 1000000 in
theorem eqRectG (a0 a1 a2 a3 b0 b1 b2 b3 : Int) (d : Nat) (w : World) : (Op.equalIn (d + 1 + 1) 53 (.agg #[.int .i64 a0, .int .i64 a1, .int .i64 a2, .int .i64 a3]) (.agg #[.int .i64 b0, .int .i64 b1, .int .i64 b2, .int .i64 b3])).run Tryz.prog w = .ok (a0 == b0 && (a1 == b1 && (a2 == b2 && a3 == b3))) w := by
  have u3 := Tryz.underlying3
  rw [run_equalIn_struct w (d + 1) 53 _ _ (by kernel_rfl) (by kernel_rfl)]
  go_simp
  by_cases h1 : a0 = b0 <;> by_cases h2 : a1 = b1 <;> by_cases h3 : a2 = b2 <;> by_cases h4 : a3 = b3 <;> simp [h1, h2, h3, h4]

set_option maxRecDepth 100000 in
set_option maxHeartbeats 1000000 in
theorem eqOl (l : Look) (k : Int) (l' : Look) (k' : Int) (w : World) : (Op.equalIn 10000 181 (.agg (olC l k)) (.agg (olC l' k'))).run Tryz.prog w = .ok (olEq l k l' k') w := by
  have u3 := Tryz.underlying3
  have u4 := Tryz.underlying4
  have hr := eqRectG l.clip.1 l.clip.2.1 l.clip.2.2.1 l.clip.2.2.2 l'.clip.1 l'.clip.2.1 l'.clip.2.2.1 l'.clip.2.2.2 9997
  unfold olC olEq
  rw [show (10000 : Nat) = 9999 + 1 from rfl, run_equalIn_struct w 9999 181 _ _ (by kernel_rfl) (by kernel_rfl)]
  go_simp
  by_cases h1 : l.w = l'.w
  rotate_left
  · rw [if_neg h1]; simp [h1]
  rw [if_pos h1]
  by_cases h2 : l.h = l'.h
  rotate_left
  · rw [if_neg h2]; simp [h2]
  rw [if_pos h2]
  by_cases h3 : l.x = l'.x
  rotate_left
  · rw [if_neg h3]; simp [h3]
  rw [if_pos h3]
  by_cases h4 : l.y = l'.y
  rotate_left
  · rw [if_neg h4]; simp [h4]
  rw [if_pos h4]
  by_cases c1 : l.clip.1 = l'.clip.1
  rotate_left
  · rw [if_pos (fun e => absurd e c1)]; simp [c1]
  by_cases c2 : l.clip.2.1 = l'.clip.2.1
  rotate_left
  · rw [if_pos (fun _ e => absurd e c2)]; simp [c2]
  by_cases c3 : l.clip.2.2.1 = l'.clip.2.2.1
  rotate_left
  · rw [if_pos (fun _ _ e => absurd e c3)]; simp [c3]
  by_cases c4 : l.clip.2.2.2 = l'.clip.2.2.2
  rotate_left
  · rw [if_pos (fun _ _ _ => c4)]; simp [c4]
  rw [if_neg (fun h => h c1 c2 c3 c4)]
  by_cases h5 : l.cut = l'.cut
  rotate_left
  · rw [if_neg h5]; simp [h5]
  rw [if_pos h5]
  by_cases h6 : k = k'
  rotate_left
  · rw [if_neg h6]; simp [h6]
  rw [if_pos h6]
  simp [h1, h2, h3, h4, c1, c2, c3, c4, h5, h6]

end Go.Proofs.YtofinpocigbbeaaGreat

namespace Go.Proofs.YtofinpocigbbeaaGreat
open Go.RowKit
attribute [local go_sem ↓] Go.wp_at_zero Go.wp_at_succ

/-! ### What a Commit damages -/

def sfNowK (s : Sf) : Sf := { s with now := s.next, kept := keptOf s.next }

theorem cm_steps (st : St) (i : Nat) (o : List Nat) (ho : o = if st.puts i = true then rsL st.order i (st.sf i).sib.toNat (st.sf i).above else st.order) : reord (upd (upd st i sfNowK) i sfDone) o = cm st i := by
  subst ho
  unfold cm upd reord
  simp only [St.mk.injEq, true_and, and_true]
  rw [List.modify_modify_eq]
  rfl

/-- Is a surface's outline another one behind its Commit? -/
def St.moved (st : St) (i : Nat) : Bool := !olEq ((cm st i).sf i).now ((cm st i).pos i) (st.sf i).now (st.pos i)

/-- The damage of a Commit. -/
def St.cmDam (st : St) (i : Nat) : List R4 :=
  if st.moved i = true then (st.visAll i).map st.seen ++ ((cm st i).visAll i).map (cm st i).seen
  else [otherIn ((cm st i).otherAt i (st.sf i).now.pix) ((cm st i).seen i)]

/-- Eleven cells are written. -/
def elev (w : World) (b : Nat) (v3 v4 v5 v6 v7 v8 v9 v10 v11 v12 v13 : Value) : World :=
  ((((((((((w.setCell ⟨b, 3, none⟩ v3).setCell ⟨b, 4, none⟩ v4).setCell ⟨b, 5, none⟩ v5).setCell ⟨b, 6, none⟩ v6).setCell ⟨b, 7, none⟩ v7).setCell ⟨b, 8, none⟩ v8).setCell ⟨b, 9, none⟩ v9).setCell ⟨b, 10, none⟩ v10).setCell ⟨b, 11, none⟩ v11).setCell ⟨b, 12, none⟩ v12).setCell ⟨b, 13, none⟩ v13

theorem elev_other (w : World) (b g : Nat) (hg : g ≠ b) (v3 v4 v5 v6 v7 v8 v9 v10 v11 v12 v13 : Value) : (elev w b v3 v4 v5 v6 v7 v8 v9 v10 v11 v12 v13).heap[g]? = w.heap[g]? := by
  unfold elev
  rw [heap_setCell_other _ ⟨b, 13, none⟩ g _ hg, heap_setCell_other _ ⟨b, 12, none⟩ g _ hg, heap_setCell_other _ ⟨b, 11, none⟩ g _ hg, heap_setCell_other _ ⟨b, 10, none⟩ g _ hg, heap_setCell_other _ ⟨b, 9, none⟩ g _ hg, heap_setCell_other _ ⟨b, 8, none⟩ g _ hg, heap_setCell_other _ ⟨b, 7, none⟩ g _ hg, heap_setCell_other _ ⟨b, 6, none⟩ g _ hg, heap_setCell_other _ ⟨b, 5, none⟩ g _ hg, heap_setCell_other _ ⟨b, 4, none⟩ g _ hg, heap_setCell_other _ ⟨b, 3, none⟩ g _ hg]

theorem elev_only {S : Nat → Prop} (w : World) (b : Nat) (hb : S b) (v3 v4 v5 v6 v7 v8 v9 v10 v11 v12 v13 : Value) : Only S w (elev w b v3 v4 v5 v6 v7 v8 v9 v10 v11 v12 v13) :=
  (((((((((((Only.refl S w).set (.inl hb) _).set (.inl hb) _).set (.inl hb) _).set (.inl hb) _).set (.inl hb) _).set (.inl hb) _).set (.inl hb) _).set (.inl hb) _).set (.inl hb) _).set (.inl hb) _).set (.inl hb) _

def upEl (F : Nat → Value) (v3 v4 v5 v6 v7 v8 v9 v10 v11 v12 v13 : Value) : Nat → Value := upO (upO (upO (upO (upO (upO (upO (upO (upO (upO (upO F 3 v3) 4 v4) 5 v5) 6 v6) 7 v7) 8 v8) 9 v9) 10 v10) 11 v11) 12 v12) 13 v13

theorem elev_srf {w : World} {b : Nat} {F : Nat → Value} (h : SrfB w b F) (v3 v4 v5 v6 v7 v8 v9 v10 v11 v12 v13 : Value) : SrfB (elev w b v3 v4 v5 v6 v7 v8 v9 v10 v11 v12 v13) b (upEl F v3 v4 v5 v6 v7 v8 v9 v10 v11 v12 v13) :=
  ((((((((((h.set 3 v3).set 4 v4).set 5 v5).set 6 v6).set 7 v7).set 8 v8).set 9 v9).set 10 v10).set 11 v11).set 12 v12).set 13 v13

theorem elev_size (w : World) (b : Nat) (v3 v4 v5 v6 v7 v8 v9 v10 v11 v12 v13 : Value) : (elev w b v3 v4 v5 v6 v7 v8 v9 v10 v11 v12 v13).heap.size = w.heap.size := by
  unfold elev
  simp

/-- Behind what was asked for, and the kept hint of it: the surface is as it will be, but for its place among its siblings. -/
theorem PRaw.nowK {w W2 : World} {S : Nat → Prop} {x : Nat} {st : St} (hw : Wf st) {bv : Value} {sc mp : Nat} {blk : Int → Nat} {G : Int → Nat → Value} (h : PRaw w S x st bv sc mp blk G) {i : Nat} (hi : i ∈ st.order) (l : Look) (hl : (st.sf i).next = l) (pv hv : Value) (hpv : G i 16 = pv) (hhv : G i 24 = hv) (kg : Nat)
    (W1 : World) (hW1 : W1 = elev w (blk i) (.int .i64 l.w) (.int .i64 l.h) pv (.int .i64 l.x) (.int .i64 l.y) (.int .i64 l.clip.1) (.int .i64 l.clip.2.1) (.int .i64 l.clip.2.2.1) (.int .i64 l.clip.2.2.2) (.bool l.cut) hv) (hb : Below W1.heap.size W1 W2) (hkg : w.heap.size ≤ kg) (hbf : BoolF W2 kg l.n (keptOf l)) (S' : Nat → Prop) (hS : ∀ g, S g → S' g) (hS2 : S' kg) :
    ∃ G', PRaw (((W2.setCell ⟨blk i, 28, none⟩ (.int .i64 l.w)).setCell ⟨blk i, 29, none⟩ (.int .i64 l.h)).setCell ⟨blk i, 30, none⟩ (.slice (some ⟨kg, 0, none⟩) l.n l.n)) S' x (Go.Proofs.YtofinpocigbbeaaGreat.upd st i sfNowK) bv sc mp blk G' := by
  have hil := hw.lt hi
  obtain ⟨kc, kf, kl⟩ := h.at (live_nat hi)
  have q := (h.cells i (live_nat hi)).nat
  have d := h.data i hi
  have hs : SrfB w (blk i) (G i) := h.srf i (live_nat hi)
  have hsz : W1.heap.size = w.heap.size := by rw [hW1]; exact elev_size ..
  have hs1 : SrfB W1 (blk i) (upEl (G i) (.int .i64 l.w) (.int .i64 l.h) pv (.int .i64 l.x) (.int .i64 l.y) (.int .i64 l.clip.1) (.int .i64 l.clip.2.1) (.int .i64 l.clip.2.2.1) (.int .i64 l.clip.2.2.2) (.bool l.cut) hv) := by rw [hW1]; exact elev_srf hs ..
  have hs2 := hs1.keep (hb.block (blk i) (by omega))
  have hs3 := ((hs2.set 28 (.int .i64 l.w)).set 29 (.int .i64 l.h)).set 30 (.slice (some ⟨kg, 0, none⟩) l.n l.n)
  have hkb : kg ≠ blk i := by omega
  have hoth : ∀ g, g < w.heap.size → g ≠ blk i → (((W2.setCell ⟨blk i, 28, none⟩ (.int .i64 l.w)).setCell ⟨blk i, 29, none⟩ (.int .i64 l.h)).setCell ⟨blk i, 30, none⟩ (.slice (some ⟨kg, 0, none⟩) l.n l.n)).heap[g]? = w.heap[g]? := fun g hg hne => by
    rw [heap_setCell_other _ ⟨blk i, 30, none⟩ g _ hne, heap_setCell_other _ ⟨blk i, 29, none⟩ g _ hne, heap_setCell_other _ ⟨blk i, 28, none⟩ g _ hne, hb.block g (by omega), hW1, elev_other w _ g hne]
  obtain ⟨scur, hscur, _⟩ := hs
  have hkd : KeptD w (((W2.setCell ⟨blk i, 28, none⟩ (.int .i64 l.w)).setCell ⟨blk i, 29, none⟩ (.int .i64 l.h)).setCell ⟨blk i, 30, none⟩ (.slice (some ⟨kg, 0, none⟩) l.n l.n)) := fun g cur t ht e => hoth g (block_lt e) (neT e hscur (ht.ne (by unfold DataT; decide)))
  have d2 := (d.kd hkd).mono hS
  have dp := d2.npix
  have dh := d2.nhint
  rw [hl, hpv] at dp
  rw [hl, hhv] at dh
  have qn := q.next
  rw [hl] at qn
  have hnow : ((sfNowK) (st.sf i)).now = l := hl
  refine ⟨_, h.updS hS (gf := sfNowK) hi hil (fun _ => rfl) hoth hs3 rfl (NCells.upd hil ⟨q.num, q.par, ?_, ?_, q.stk, ⟨_, _, _, _, _, rfl, rfl, rfl⟩⟩) ?_⟩
  · rw [hnow]
    exact ⟨rfl, rfl, by rw [← hpv]; exact qn.pix, rfl, rfl, rfl, rfl, rfl, rfl, rfl, by rw [← hhv]; exact qn.hint⟩
  · exact ⟨q.next.w, q.next.h, q.next.pix, q.next.x, q.next.y, q.next.c0, q.next.c1, q.next.c2, q.next.c3, q.next.cut, q.next.hint⟩
  · refine ⟨?_, ?_, d2.npix, d2.nhint, ?_, ?_, ?_⟩
    · rw [hnow]; exact dp
    · rw [hnow]; exact dh
    · rw [hnow]; rfl
    · rw [hnow]; rfl
    · rw [hnow]
      refine ⟨some ⟨kg, 0, none⟩, rfl, fun _ => ⟨kg, rfl, hS2, ?_⟩⟩
      have hk : (sfNowK (st.sf i)).kept = keptOf l := by rw [← hl]; rfl
      rw [hk]
      refine hbf.keep ?_
      rw [heap_setCell_other _ ⟨blk i, 30, none⟩ kg _ hkb, heap_setCell_other _ ⟨blk i, 29, none⟩ kg _ hkb, heap_setCell_other _ ⟨blk i, 28, none⟩ kg _ hkb]

end Go.Proofs.YtofinpocigbbeaaGreat

namespace Go.Proofs.YtofinpocigbbeaaGreat
open Go.RowKit
attribute [local go_sem ↓] Go.wp_at_zero Go.wp_at_succ

/-! ### Commit's first statement: the calls come in their order, the variables are made whenever -/

def OlO (o : Obj) : Prop := ∃ cs : Array Value, o = .cells cs 181 (0, 0) ∧ cs.size = 10
def GrO (o : Obj) : Prop := ∃ cs : Array Value, o = .cells cs 122 (0, 0) ∧ cs.size = 3

theorem olO_new : OlO (.cells #[.int .i64 0, .int .i64 0, .int .i64 0, .int .i64 0, .int .i64 0, .int .i64 0, .int .i64 0, .int .i64 0, .bool false, .int .i64 0] 181) := ⟨_, rfl, rfl⟩
theorem grO_new : GrO (.cells #[.int .i64 0, .int .i64 0, .slice none 0 0] 122) := ⟨_, rfl, rfl⟩

theorem hasB_allocT {u : World} {n : Nat} {o : Obj} {T : TypeId} {k : Nat} : HasB (u.alloc o) n T k ↔ (n = u.heap.size ∧ ∃ cs : Array Value, o = .cells cs T (0, 0) ∧ cs.size = k) ∨ HasB u n T k := by
  constructor
  · intro h
    by_cases e : n = u.heap.size
    · subst e
      obtain ⟨cs, h1, h2⟩ := h
      rw [heap_alloc_new] at h1
      injection h1 with h1
      exact .inl ⟨rfl, cs, h1, h2⟩
    · have hl := h.lt
      simp at hl
      exact .inr (h.keep (heap_old u o n (by omega)).symm)
  · rintro (⟨rfl, cs, rfl, h2⟩ | h)
    · exact ⟨cs, heap_alloc_new u _, h2⟩
    · exact h.alloc o

theorem hasB_allocO {u : World} {n : Nat} {o : Obj} : HasB (u.alloc o) n 181 10 ↔ (n = u.heap.size ∧ OlO o) ∨ HasB u n 181 10 := hasB_allocT
theorem hasB_allocG {u : World} {n : Nat} {o : Obj} : HasB (u.alloc o) n 122 3 ↔ (n = u.heap.size ∧ GrO o) ∨ HasB u n 122 3 := hasB_allocT

theorem HasB.row' {u : World} {n m : Nat} {T : TypeId} {k : Nat} (h : HasB u n T k) (cs : Array Value) (hc : n = m → cs.size = k) : HasB (u.setRow m cs) n T k := by
  obtain ⟨cur, h1, h2⟩ := h
  by_cases e : n = m
  · subst e
    exact ⟨cs, setRow_heap u n _ _ _ _ h1, hc rfl⟩
  · exact ⟨cur, (setRow_other u m n _ e).trans h1, h2⟩

/-- Another block's row was written: a grid stays one. -/
theorem hasB_rowG {u : World} {n m : Nat} {a0 a1 a2 a3 a4 a5 a6 a7 : Int} {b : Bool} {a9 : Int} (hne : n ≠ m) : HasB (u.setRow m #[.int .i64 a0, .int .i64 a1, .int .i64 a2, .int .i64 a3, .int .i64 a4, .int .i64 a5, .int .i64 a6, .int .i64 a7, .bool b, .int .i64 a9]) n 122 3 ↔ HasB u n 122 3 := by
  constructor
  · exact fun h => h.keep (setRow_other u m n _ hne).symm
  · exact fun h => h.keep (setRow_other u m n _ hne)

theorem to_gr (ad : Addr) (a0 a1 : Int) (pa : Option Addr) (pn pk : Nat) : storeCells ad [.int .i64 a0, .int .i64 a1, .slice pa pn pk] 0 = St9 ad [.int .i64 a0, .int .i64 a1, .slice pa pn pk] := rfl

theorem run_gr {w : World} {g : Nat} (h : HasB w g 122 3) (a0 a1 : Int) (pa : Option Addr) (pn pk : Nat) : (St9 ⟨g, 0, none⟩ [.int .i64 a0, .int .i64 a1, .slice pa pn pk]).run Tryz.prog w = .ok () (w.setRow g #[.int .i64 a0, .int .i64 a1, .slice pa pn pk]) := h.row _ rfl (by simp [Value.oneCell'])

theorem Blk.sameRow {u : World} {n : Nat} {T : TypeId} {k : Nat} (h : HasB u n T k) (cs : Array Value) : Blk (u.setRow n cs) n T cs := by
  obtain ⟨cur, h1, _⟩ := h
  exact setRow_heap u n _ _ _ _ h1
theorem Blk.otherRow {u : World} {m n : Nat} {T : TypeId} {cs cs' : Array Value} (h : Blk u m T cs) (hne : m ≠ n) : Blk (u.setRow n cs') m T cs := (setRow_other u n m _ hne).trans h

theorem OwnR.rowT {u : World} {base n : Nat} {v : Value} {l : List R4} {T : TypeId} {k : Nat} (h : OwnR u base v l) (hb : HasB u n T k) (hT : T ≠ 53) (cs : Array Value) : OwnR (u.setRow n cs) base v l := by
  refine ⟨own_keep h.1 fun g hg => setRow_other u n g _ fun e => ?_, h.2⟩
  obtain ⟨cur, e1⟩ := own_type h.1 hg
  obtain ⟨cur2, e2, _⟩ := hb
  subst e
  have := e1.symm.trans e2
  simp at this
  exact hT this.2.symm

attribute [local go_sem high] to_ten run_ten to_gr run_gr
attribute [local go_sem] olO_new grO_new hasB_allocO hasB_allocG hasB_drew hasB_rowG

theorem rect_news {w : World} {base : Nat} {v : Value} {l : List R4} (h : OwnR w base v l) : (v = .slice none 0 0 ∧ l.length = 0) ∨ ∃ ad c, v = .slice (some ad) l.length c ∧ ∀ j u, (rectCells l)[j]? = some u → w.cell? (ad.add j) = some u := by
  by_cases hl : l = []
  · exact .inl ⟨h.2 hl, by rw [hl]; rfl⟩
  · have hpos : 0 < l.length := List.length_pos_iff.2 hl
    obtain ⟨g, cap, e1, e2, e3⟩ := World.ownsRow.form h.1 hpos
    exact .inr ⟨_, cap, e1, fun j u hu => World.ownsRow.cells h.1 (g := g) (by rw [e1]; rfl) j u hu⟩

theorem rectCells_one (l : List R4) : ∀ u ∈ rectCells l, u.oneCell' = true := by
  intro u hu
  unfold rectCells at hu
  rw [List.mem_flatMap] at hu
  obtain ⟨r, _, hu⟩ := hu
  simp at hu
  rcases hu with rfl | rfl | rfl | rfl <;> rfl

theorem OwnR.belowR {w w' : World} {base : Nat} {v : Value} {l : List R4} (h : OwnR w base v l) (hb : Below w.heap.size w w') : OwnR w' base v l := ⟨own_keep h.1 fun g hg => hb.block g (h.1.lt g hg).2, h.2⟩

/-- A list of one rectangle. -/
theorem ownR_one (w : World) (r : R4) : OwnR (w.alloc (.cells #[.int .i64 r.1, .int .i64 r.2.1, .int .i64 r.2.2.1, .int .i64 r.2.2.2] 53)) w.heap.size (.slice (some ⟨w.heap.size, 0, none⟩) 1 1) [r] :=
  ⟨⟨rfl, .inr ⟨w.heap.size, 1, _, rfl, Nat.le_refl _, heap_alloc_new w _, by simp, by unfold maxLen; omega, rfl, rfl⟩⟩, fun h => by cases h⟩

/-- Behind restack, as Commit goes on. -/
structure CmM (w W4 : World) (S : Nat → Prop) (x : Nat) (st : St) (i : Nat) (bv : Value) (sc mp : Nat) (blk : Int → Nat) (G4 : Int → Nat → Value) (kg : Nat) (ob gx : Nat) (OL GR : Array Value) (vv : Value) (parts : List R4) (opa : Option Addr) (on : Nat) (old : Nat → R4) : Prop where
  raw : PRaw W4 (fun g => S g ∨ g = kg) x (cm st i) bv sc mp blk G4
  only : Only S w W4
  kg1 : w.heap.size ≤ kg
  kg2 : ∃ cur, W4.heap[kg]? = some (.cells cur 4 (0, 0))
  ol : Blk W4 ob 181 OL
  gr : Blk W4 gx 122 GR
  row : OwnR W4 w.heap.size vv parts
  was : 0 < on → ∃ g, opa = some ⟨g, 0, none⟩ ∧ PixF W4 g on old
  sl : ∀ g, S g → g < w.heap.size

theorem CmM.below {w W4 W5 : World} {S : Nat → Prop} {x : Nat} {st : St} {i : Nat} {bv : Value} {sc mp : Nat} {blk : Int → Nat} {G4 : Int → Nat → Value} {kg ob gx : Nat} {OL GR : Array Value} {vv : Value} {parts : List R4} {opa : Option Addr} {on : Nat} {old : Nat → R4} (h : CmM w W4 S x st i bv sc mp blk G4 kg ob gx OL GR vv parts opa on old) (hb : Below W4.heap.size W4 W5) : CmM w W5 S x st i bv sc mp blk G4 kg ob gx OL GR vv parts opa on old :=
  ⟨h.raw.below hb, h.only.after hb, h.kg1, let ⟨cur, e⟩ := h.kg2; ⟨cur, (hb.block kg (block_lt e)).trans e⟩, h.ol.keep (hb.block _ (block_lt h.ol)), h.gr.keep (hb.block _ (block_lt h.gr)), h.row.belowR hb, fun hn => let ⟨g, e1, e2⟩ := h.was hn; ⟨g, e1, e2.keep (hb.block g e2.has.lt)⟩, h.sl⟩

/-- What Commit leaves. -/
def CmPost (S : Nat → Prop) (x : Nat) (st : St) (i : Nat) (bv : Value) (w : World) (e : Ending) (w' : World) : Prop := ∃ v, e = .returned v ∧ OwnR w' w.heap.size v (st.cmDam i) ∧ PaneOk w' (grow S w w') x (cm st i) bv ∧ Only S w w'

theorem CmM.pane {w W4 : World} {S : Nat → Prop} {x : Nat} {st : St} {i : Nat} {bv : Value} {sc mp : Nat} {blk : Int → Nat} {G4 : Int → Nat → Value} {kg ob gx : Nat} {OL GR : Array Value} {vv : Value} {parts : List R4} {opa : Option Addr} {on : Nat} {old : Nat → R4} (h : CmM w W4 S x st i bv sc mp blk G4 kg ob gx OL GR vv parts opa on old) : PaneOk W4 (grow S w W4) x (cm st i) bv :=
  ⟨sc, mp, blk, G4, h.raw.mono fun g hg => hg.elim (fun hs => .inl hs) fun e => .inr ⟨by rw [e]; exact h.kg1, by rw [e]; exact let ⟨cur, q⟩ := h.kg2; block_lt q⟩⟩

/-- Behind the append of what is seen now. -/
theorem CmM.moved {w W6 W7 : World} {S : Nat → Prop} {x : Nat} {st : St} {i : Nat} {bv : Value} {sc mp : Nat} {blk : Int → Nat} {G4 : Int → Nat → Value} {kg ob gx : Nat} {OL GR : Array Value} {vv v' : Value} {parts parts2 : List R4} {opa : Option Addr} {on : Nat} {old : Nat → R4} (h : CmM w W6 S x st i bv sc mp blk G4 kg ob gx OL GR vv parts opa on old)
    (hp : parts = (st.visAll i).map st.seen) (hp2 : parts2 = ((cm st i).visAll i).map (cm st i).seen) (hmv : st.moved i = true) (ho : W7.ownsRow w.heap.size 53 4 v' (parts.length + parts2.length) (rectCells parts ++ rectCells parts2)) (hg : W6.grownBy W7 vv.ownBlock) (hv : v' = .slice none 0 0 ↔ vv = .slice none 0 0 ∧ parts2.length = 0) : CmPost S x st i bv w (.returned v') W7 := by
  have hlo : ∀ b, vv.ownBlock = some b → w.heap.size ≤ b := fun b hb => (h.row.1.lt b hb).1
  have hne : ∀ g, (S g ∨ g = kg) → some g ≠ vv.ownBlock := fun g hg e => by
    rcases hg with hg | rfl
    · have := h.sl g hg
      have := hlo g e.symm
      omega
    · obtain ⟨cur, e1⟩ := h.kg2
      obtain ⟨cur2, e2⟩ := own_type h.row.1 e.symm
      have := e1.symm.trans e2
      simp at this
  have hraw := h.raw.keep (w' := W7) fun g hs hl => hg.block g hl (hne g hs)
  have hdam : st.cmDam i = parts ++ parts2 := by
    unfold St.cmDam
    rw [if_pos hmv, hp, hp2]
  refine ⟨v', rfl, ?_, ⟨sc, mp, blk, G4, hraw.mono fun g hs => ?_⟩, h.only.grown hg fun b hb => .inr (hlo b hb)⟩
  · rw [hdam]
    refine ⟨?_, fun hnil => ?_⟩
    · rw [List.length_append, rectCells_append]
      exact ho
    · rw [List.append_eq_nil_iff] at hnil
      exact hv.2 ⟨h.row.2 hnil.1, by rw [hnil.2]; rfl⟩
  · rcases hs with hs | rfl
    · exact .inl hs
    · exact .inr ⟨h.kg1, let ⟨cur, q⟩ := h.kg2; Nat.lt_of_lt_of_le (block_lt q) hg.size⟩

end Go.Proofs.YtofinpocigbbeaaGreat

namespace Go.Proofs.YtofinpocigbbeaaGreat
open Go.RowKit
attribute [local go_sem ↓] Go.wp_at_zero Go.wp_at_succ

/-- What is asked for has its hint's mark kept. -/
theorem cm_hint {wx : World} {S : Nat → Prop} {x : Nat} {st : St} (hw : Wf st) {bv : Value} {sc mp : Nat} {blk : Int → Nat} {G : Int → Nat → Value} (h : PRaw wx S x st bv sc mp blk G) {i : Nat} (hi : i ∈ st.order) (l : Look) (hl : (st.sf i).next = l) (W H : Nat) (hW : l.w = W) (hH : l.h = H) (pa ha : Option Addr) (hm hk : Nat) (hpv : G i 16 = .slice pa l.n l.n) (hhv : G i 24 = .slice ha hm hk) (V : World) (hV : KeptD wx V) :
    Calls Tryz.prog 107 #[.agg (lookV W H (.slice pa l.n l.n) l.x l.y l.clip l.cut (.slice ha hm hk))] V fun e w' => ∃ g, e = .returned (.agg #[.int .i64 W, .int .i64 H, .slice (some ⟨g, 0, none⟩) l.n l.n]) ∧ BoolF w' g l.n (keptOf l) ∧ V.heap.size ≤ g ∧ Below V.heap.size V w' := by
  have d := (h.data i hi).kd hV
  have lk := (hw.lk i).2
  rw [hl] at lk
  have lw := lk.w
  have lh := lk.h
  obtain ⟨pa', e, hp⟩ := d.npix
  rw [hl] at e hp
  rw [hpv] at e
  injection e with e
  subst e
  obtain ⟨R, hR, hG, hM⟩ := d.nhint
  rw [hhv] at hR
  rw [hl] at hM
  have hn : W * H = l.n := by unfold Look.n; rw [hW, hH, ← Int.natCast_mul, Int.toNat_natCast]
  refine (keptHint_any W H l.n pa l.x l.y l.clip l.cut ha hm hk l.pix l.hint R V (by omega) (by omega) hn (fun h0 => ?_) (OutAt.bands hR.out) hG hM).mono ?_
  · obtain ⟨g, e1, _, e2⟩ := hp h0
    exact ⟨g, e1, e2⟩
  · rintro e w' ⟨g, rfl, hb, hg, hB⟩
    refine ⟨g, rfl, ?_, hg, hB⟩
    have : (fun k : Nat => l.hint ((k : Int) % W) ((k : Int) / W) && decide ((l.pix k).2.2.2 = 255)) = keptOf l := by
      funext k
      unfold keptOf
      rw [hW]
    rw [← this]
    exact hb

theorem elev_kept {w : World} {b : Nat} {F : Nat → Value} (h : SrfB w b F) (v3 v4 v5 v6 v7 v8 v9 v10 v11 v12 v13 : Value) : KeptD w (elev w b v3 v4 v5 v6 v7 v8 v9 v10 v11 v12 v13) := fun g cur t ht e => by
  obtain ⟨scur, hscur, _⟩ := h
  exact elev_other w b g (neT e hscur (ht.ne (by unfold DataT; decide))) ..

theorem cm_st1 {st : St} {i : Nat} (hil : i < st.sfs.length) : (Go.Proofs.YtofinpocigbbeaaGreat.upd st i sfNowK).sf i = sfNowK (st.sf i) := by rw [upd_sf _ _ _ _ hil, if_pos rfl]

/-- The place among the siblings. -/
theorem cm_restack {w wx W2 : World} {S : Nat → Prop} {x : Nat} {st : St} (hf : Fine st) (hSl : ∀ g, S g → g < w.heap.size) {bv : Value} {sc mp : Nat} {blk : Int → Nat} {G : Int → Nat → Value} (h : PRaw w S x st bv sc mp blk G) {i : Nat} (hi : i ∈ st.order) (hbx : Below w.heap.size w wx) {ob gx : Nat} {OL GR : Array Value} {vv : Value} {parts : List R4}
    (hob : Blk wx ob 181 OL) (hgx : Blk wx gx 122 GR) (hrow : OwnR wx w.heap.size vv parts) (hob1 : w.heap.size ≤ ob) (hgx1 : w.heap.size ≤ gx) (l : Look) (hl : (st.sf i).next = l) (pv hv : Value) (hpv : G i 16 = pv) (hhv : G i 24 = hv) (kg : Nat)
    (W1 : World) (hW1 : W1 = elev wx (blk i) (.int .i64 l.w) (.int .i64 l.h) pv (.int .i64 l.x) (.int .i64 l.y) (.int .i64 l.clip.1) (.int .i64 l.clip.2.1) (.int .i64 l.clip.2.2.1) (.int .i64 l.clip.2.2.2) (.bool l.cut) hv) (hb : Below W1.heap.size W1 W2) (hkg : wx.heap.size ≤ kg) (hbf : BoolF W2 kg l.n (keptOf l)) (oa : Option Addr) (on : Nat) (hon : on = (st.sf i).now.n) (h5 : G i 5 = .slice oa on on) :
    Calls Tryz.prog 108 #[.pointer (some ⟨blk i, 0, none⟩)] (((W2.setCell ⟨blk i, 28, none⟩ (.int .i64 l.w)).setCell ⟨blk i, 29, none⟩ (.int .i64 l.h)).setCell ⟨blk i, 30, none⟩ (.slice (some ⟨kg, 0, none⟩) l.n l.n)) fun e w' => e = .returned (.tuple #[]) ∧ ∃ G4, CmM w w' S x st i bv sc mp blk G4 kg ob gx OL GR vv parts oa on (st.sf i).now.pix := by
  have hw := hf.wf
  have hil := hw.lt hi
  have hx := h.below hbx
  have hibS : S (blk i) := h.own.2.2.2 i (live_nat hi)
  have hibl := hSl _ hibS
  have hsx := hbx.size
  have hs : SrfB wx (blk i) (G i) := hx.srf i (live_nat hi)
  have hsz : W1.heap.size = wx.heap.size := by rw [hW1]; exact elev_size ..
  have hO1 : Only S w W1 := by
    rw [hW1]
    exact (Only.below hbx).trans ((elev_only (S := S) wx (blk i) hibS ..).mono fun g _ hg => .inl hg)
  obtain ⟨G3, h3⟩ := hx.nowK hw hi l hl pv hv hpv hhv kg W1 hW1 hb hkg hbf (fun g => S g ∨ g = kg) (fun g hg => .inl hg) (.inr rfl)
  have hO3 : Only S w (((W2.setCell ⟨blk i, 28, none⟩ (.int .i64 l.w)).setCell ⟨blk i, 29, none⟩ (.int .i64 l.h)).setCell ⟨blk i, 30, none⟩ (.slice (some ⟨kg, 0, none⟩) l.n l.n)) := (((hO1.after hb).set (.inl hibS) _).set (.inl hibS) _).set (.inl hibS) _
  have hoth : ∀ g, g < W2.heap.size → g ≠ blk i → (((W2.setCell ⟨blk i, 28, none⟩ (.int .i64 l.w)).setCell ⟨blk i, 29, none⟩ (.int .i64 l.h)).setCell ⟨blk i, 30, none⟩ (.slice (some ⟨kg, 0, none⟩) l.n l.n)).heap[g]? = W2.heap[g]? := fun g hg hne => by
    rw [heap_setCell_other _ ⟨blk i, 30, none⟩ g _ hne, heap_setCell_other _ ⟨blk i, 29, none⟩ g _ hne, heap_setCell_other _ ⟨blk i, 28, none⟩ g _ hne]
  have hs2 := hb.size
  have hold : ∀ g, g < wx.heap.size → g ≠ blk i → (((W2.setCell ⟨blk i, 28, none⟩ (.int .i64 l.w)).setCell ⟨blk i, 29, none⟩ (.int .i64 l.h)).setCell ⟨blk i, 30, none⟩ (.slice (some ⟨kg, 0, none⟩) l.n l.n)).heap[g]? = wx.heap[g]? := fun g hg hne => by
    rw [hoth g (by omega) hne, hb.block g (by omega), hW1, elev_other wx _ g hne]
  have hW3s : (((W2.setCell ⟨blk i, 28, none⟩ (.int .i64 l.w)).setCell ⟨blk i, 29, none⟩ (.int .i64 l.h)).setCell ⟨blk i, 30, none⟩ (.slice (some ⟨kg, 0, none⟩) l.n l.n)).heap.size = W2.heap.size := by simp
  obtain ⟨kcur, hkc, _⟩ := id hbf
  have hkl := block_lt hkc
  have hkd : KeptD wx (((W2.setCell ⟨blk i, 28, none⟩ (.int .i64 l.w)).setCell ⟨blk i, 29, none⟩ (.int .i64 l.h)).setCell ⟨blk i, 30, none⟩ (.slice (some ⟨kg, 0, none⟩) l.n l.n)) := fun g cur t ht e => by
    obtain ⟨scur, hscur, _⟩ := hs
    exact hold g (block_lt e) (neT e hscur (ht.ne (by unfold DataT; decide)))
  generalize (((W2.setCell ⟨blk i, 28, none⟩ (.int .i64 l.w)).setCell ⟨blk i, 29, none⟩ (.int .i64 l.h)).setCell ⟨blk i, 30, none⟩ (.slice (some ⟨kg, 0, none⟩) l.n l.n)) = W3 at h3 hO3 hoth hold hW3s hkd ⊢
  have hfw : Wf (Go.Proofs.YtofinpocigbbeaaGreat.upd st i sfNowK) := upd_wf hw hil (fun _ => rfl) (fun _ => rfl) ⟨(hw.lk i).2, (hw.lk i).2⟩
  have e1 := cm_st1 (st := st) hil
  have hpar : ∀ j, ((Go.Proofs.YtofinpocigbbeaaGreat.upd st i sfNowK).sf j).parent = (st.sf j).parent := (upd_alike hil (g := sfNowK) fun _ => rfl).par
  have hend : ∀ w' : World, ∀ e : Ending, (e = .returned (.tuple #[]) ∧ (∃ G4, PRaw w' (fun g => S g ∨ g = kg) x (cm st i) bv sc mp blk G4) ∧ Only (fun g => S g ∨ g = kg) W3 w' ∧ KeptD W3 w') → e = .returned (.tuple #[]) ∧ ∃ G4, CmM w w' S x st i bv sc mp blk G4 kg ob gx OL GR vv parts oa on (st.sf i).now.pix := by
    rintro w' e ⟨rfl, ⟨G4, h4⟩, r2, r3⟩
    have hnew : ∀ g, w.heap.size ≤ g → g < wx.heap.size → w'.heap[g]? = wx.heap[g]? := fun g h1 h2 => by
      rw [r2.block g (by omega) (fun hh => by
        rcases hh with hh | hh
        · have := hSl g hh; omega
        · omega), hold g h2 (by omega)]
    refine ⟨rfl, G4, h4, hO3.trans (r2.mono fun g _ hg => ?_), by omega, ⟨kcur, ?_⟩, hob.keep (hnew _ hob1 (block_lt hob)), hgx.keep (hnew _ hgx1 (block_lt hgx)), ⟨own_keep hrow.1 fun g hg => hnew g (hrow.1.lt g hg).1 (hrow.1.lt g hg).2, hrow.2⟩, fun hn => ?_, hSl⟩
    · rcases hg with hg | rfl
      · exact .inl hg
      · exact .inr ⟨by omega, by omega⟩
    · have hk3 : W3.heap[kg]? = some (.cells kcur 4 (0, 0)) := (hoth kg hkl (by omega)).trans hkc
      exact (r3 kg kcur 4 (.inr (.inl rfl)) hk3).trans hk3
    · obtain ⟨a, f1, f2⟩ := (((hx.data i hi).kd hkd).kd r3).pix
      rw [← hon] at f1 f2
      rw [h5] at f1
      injection f1 with f1
      subst f1
      obtain ⟨g, q1, _, q2⟩ := f2 hn
      exact ⟨g, q1, q2⟩
  by_cases hask : (st.sf i).ask = true
  · obtain ⟨s, s1, s2, s3, s4⟩ := hf.sib i hi hask
    by_cases hso : s ∈ st.order
    · have hputs : st.puts i = true := by
        unfold St.puts
        rw [hask, s1, (isB_iff hw _).2 ⟨s, rfl, hso⟩]
        rfl
      refine (restack_in hfw h3 i s hi hso s2 (by rw [hpar, hpar]; exact s4) (st.sf i).above (by rw [e1]; exact hask) (by rw [e1]; exact s1) (by rw [e1]; rfl)).mono ?_
      rintro e w' ⟨rfl, r1, r2, r3⟩
      refine hend w' _ ⟨rfl, ?_, r2, r3⟩
      have := cm_steps st i (rsL st.order i s (st.sf i).above) (by rw [if_pos hputs, s1, Int.toNat_natCast])
      rw [← this]
      exact r1
    · have hputs : ¬ st.puts i = true := by
        unfold St.puts
        rw [s1]
        intro hb
        rw [Bool.and_eq_true] at hb
        obtain ⟨j, j1, j2⟩ := (isB_iff hw _).1 hb.2
        have : s = j := by omega
        subst this
        exact hso j2
      refine (restack_out hfw h3 i s hi hso (by rw [e1]; exact hask) (by rw [e1]; exact s1)).mono ?_
      rintro e w' ⟨rfl, r1, r2, r3⟩
      refine hend w' _ ⟨rfl, ?_, r2, r3⟩
      have := cm_steps st i st.order (by rw [if_neg hputs])
      rw [← this]
      exact r1
  · have hask2 : (st.sf i).ask = false := by simpa using hask
    have hputs : ¬ st.puts i = true := by
      unfold St.puts
      rw [hask2]
      simp
    refine (restack_no hfw h3 i hi (by rw [e1]; exact hask2)).mono ?_
    rintro e w' ⟨rfl, r1, r2, r3⟩
    refine hend w' _ ⟨rfl, ?_, r2, r3⟩
    have := cm_steps st i st.order (by rw [if_neg hputs])
    rw [← this]
    exact r1

theorem SrfB.cell {w : World} {b : Nat} {F : Nat → Value} (h : SrfB w b F) (o : Nat) (ho : o < 31) : w.cell? ⟨b, o, none⟩ = some (F o) := by
  obtain ⟨cur, h1, h2, h3⟩ := h
  rw [← h3 o ho]
  have := cell_of_row w b o cur _ _ h1
  exact this

theorem SrfB.free {w : World} {b : Nat} {F : Nat → Value} (h : SrfB w b F) (o : Nat) : w.frozen? ⟨b, o, none⟩ = false := by
  obtain ⟨cur, h1, h2, h3⟩ := h
  exact HasB.free ⟨cur, h1, h2⟩ o

/-- The kept hint is stored. -/
theorem run_kept {V : World} {gb : Nat} {F : Nat → Value} (h : SrfB V gb F) (a b : Int) (p : Option Addr) (n m : Nat) : (St9 ⟨gb, 28, none⟩ [.int .i64 a, .int .i64 b, .slice p n m]).run Tryz.prog V = .ok () (((V.setCell ⟨gb, 28, none⟩ (.int .i64 a)).setCell ⟨gb, 29, none⟩ (.int .i64 b)).setCell ⟨gb, 30, none⟩ (.slice p n m)) := by
  have e28 := h.cell 28 (by omega)
  have e29 := h.cell 29 (by omega)
  have e30 := h.cell 30 (by omega)
  have g28 := h.free 28
  have g29 := h.free 29
  have g30 := h.free 30
  show (storeCells ⟨gb, 28, none⟩ [.int .i64 a, .int .i64 b, .slice p n m] 0).run Tryz.prog V = _
  go_simp

end Go.Proofs.YtofinpocigbbeaaGreat
