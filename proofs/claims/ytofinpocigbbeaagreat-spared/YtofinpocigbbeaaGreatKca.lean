import Derived.Test.YtofinpocigbbeaaGreatKbt
import Derived.Test.YtofinpocigbbeaaGreatKbv
import Derived.Test.YtofinpocigbbeaaGreatKbw
import Derived.Test.YtofinpocigbbeaaGreatKbx
import Derived.Test.YtofinpocigbbeaaGreatKbz
namespace Go.Proofs.YtofinpocigbbeaaGreat
open Go.RowKit

/-! ### A run of steps -/

theorem does_any {w : World} {S : Nat → Prop} {vb : Nat} {st : St} (hf : Fine st) {d : Cv} {ids : List Int} (h : AlvOk w S vb st d ids) (hn : ids.length ≤ 100000) (t : StepD) (ht : StepOk t) :
    Calls Tryz.prog 13 #[.pointer (some ⟨vb, 0, none⟩), .agg t.cells] w (DoPost S vb d (stepM st ids t) w) := by
  obtain ⟨A, x, lv, h⟩ := h
  obtain ⟨tk, ta, tb, tc, td, ty⟩ := t
  by_cases h0 : ids = []
  · subst h0
    exact does_none hf h tk ta tb tc td ty ht
  · have hpos : 0 < ids.length := List.length_pos_iff.2 h0
    by_cases hk : 2 ≤ pickI tk 16
    · exact does_two hf h hn hpos tk ta tb tc td hk ty ht
    · exact does_one hf h hn hpos tk ta tb tc td (by omega) ty ht

theorem make_len (st : St) (ids : List Int) (p : Int) (t : StepD) : (makeM st ids p t).2.1.length ≤ ids.length + 1 := by
  unfold makeM
  split
  · simp
  · simp

theorem stepM_len (st : St) (ids : List Int) (t : StepD) : (stepM st ids t).2.1.length ≤ ids.length + 1 := by
  unfold stepM
  split
  · exact make_len _ _ _ _
  · split
    · simp only
      split
      · exact Nat.le_succ_of_le (List.length_filter_le _ _)
      · omega
    · (repeat' split) <;> simp

/-- Every surface is told. -/
def Told2 (st : St) (ids : List Int) : Prop := ∀ i ∈ st.order, (i : Int) ∈ ids

theorem NowS.told {st st' : St} (h : NowS st st') {ids : List Int} (hi : Told2 st ids) : Told2 st' ids := fun i hm => hi i (by rw [← h.order]; exact hm)

theorem commit_told {st : St} (hf : Fine st) {ids : List Int} (hi : Told2 st ids) (id : Int) : Told2 (opCommit st id).2 ids := by
  unfold opCommit
  split
  · rename_i hb
    exact fun i hm => hi i ((cm_perm hf.wf hf.sib (isB_lt hf hb).1).mem_iff.1 hm)
  · exact hi

theorem destroy_told {st : St} (hf : Fine st) {ids : List Int} (hi : Told2 st ids) (id : Int) : Told2 (opDestroy st id).2 (if (opDestroy st id).1 = 0 then (opDestroy st id).2.stays ids else ids) := by
  have hf2 := fine_destroy hf id
  by_cases hb : st.isB id = true
  · have e0 : (opDestroy st id).1 = 0 := by unfold opDestroy; rw [if_pos hb]
    rw [if_pos e0]
    intro i hm
    unfold St.stays
    rw [List.mem_filter]
    refine ⟨hi i ?_, (isB_iff hf2.wf i).2 ⟨i, rfl, hm⟩⟩
    unfold opDestroy at hm
    rw [if_pos hb] at hm
    have hm2 : i ∈ st.order.filter fun (o : Nat) => !(st.chain o).contains id.toNat := hm
    exact (List.mem_filter.1 hm2).1
  · have e6 : (opDestroy st id).1 = 6 := by unfold opDestroy; rw [if_neg hb]
    rw [if_neg (by omega)]
    unfold opDestroy
    rw [if_neg hb]
    exact hi

theorem make_told {st : St} (hf : Fine st) {ids : List Int} (hi : Told2 st ids) (p : Int) (t : StepD) : Told2 (makeM st ids p t).1 (makeM st ids p t).2.1 := by
  unfold makeM
  split
  · rename_i he
    have hm := made_now (fine_make hf p) (opMake st p).1 t
    refine commit_told hm.2 (hm.1.told fun i hmem => ?_) _
    unfold opMake at hmem he ⊢
    split at hmem
    · rename_i h1
      rw [if_pos h1] at he ⊢
      split at hmem
      · rename_i h2
        rw [if_pos h2]
        have h3 : i ∈ st.order ++ [st.sfs.length] := hmem
        rw [List.mem_append, List.mem_singleton] at h3
        rcases h3 with h3 | rfl
        · exact List.mem_append_left _ (hi i h3)
        · simp
      · exact List.mem_append_left _ (hi i hmem)
    · exact List.mem_append_left _ (hi i hmem)
  · rename_i he
    intro i hmem
    unfold opMake at hmem he
    split at hmem
    · rename_i h1
      rw [if_pos h1] at he
      split at hmem
      · rename_i h2
        rw [if_pos h2] at he
        exact absurd rfl he
      · exact hi i hmem
    · exact hi i hmem

theorem stepM_told {st : St} (hf : Fine st) {ids : List Int} (hi : Told2 st ids) (t : StepD) : Told2 (stepM st ids t).1 (stepM st ids t).2.1 := by
  unfold stepM
  split
  · exact make_told hf hi _ _
  · split
    · exact destroy_told hf hi _
    · split
      · exact (att_now hf _ _ _ _).told hi
      · split
        · exact (off_now hf _ _ _).told hi
        · split
          · exact (clip_now hf _ _ _).told hi
          · split
            · exact (unclip_now hf _).told hi
            · split
              · exact (hint_now hf _ _ _ _).told hi
              · split
                · exact (stack_now hf _ _ _).told hi
                · exact commit_told hf hi _

/-- A screen of 8 by 7, with n buffers, behind some steps. -/
structure Run (w wr : World) (S : Nat → Prop) (vb n m o : Nat) (st : St) (d : Cv) (ids : List Int) : Prop where
  fine : Fine st
  kept : KeptOk st
  alv : AlvOk wr S vb st d ids
  lo : ∀ g, S g → w.heap.size ≤ g ∧ g < wr.heap.size
  inv : CvInv st d
  W : d.W = 8
  H : d.H = 7
  len : d.bufs.length = n
  old : d.old ≤ o
  cnt : ids.length ≤ m
  told : Told2 st ids
  bel : Below w.heap.size w wr

theorem AlvX.keep {w w' : World} {S A : Nat → Prop} {vb x : Nat} {lv : Value} {st : St} {d : Cv} {ids : List Int} (h : AlvX w S A vb x lv st d ids) (hs : w.heap.size ≤ w'.heap.size) (hk : ∀ g, S g → g < w.heap.size → w'.heap[g]? = w.heap[g]?) : AlvX w' S A vb x lv st d ids :=
  ⟨h.blk.keep (hk vb h.vS (block_lt h.blk)), own_keep h.row fun g hg => hk g (h.rS g hg).1 (h.row.lt g hg).2, h.scr.keep hs fun g hg hl => hk g (h.la g hg).1 hl, fun g hg => ⟨(h.la g hg).1, Nat.lt_of_lt_of_le (h.la g hg).2 hs⟩, h.vS, h.vA, h.rS⟩

theorem AlvOk.keep {w w' : World} {S : Nat → Prop} {vb : Nat} {st : St} {d : Cv} {ids : List Int} (h : AlvOk w S vb st d ids) (hs : w.heap.size ≤ w'.heap.size) (hk : ∀ g, S g → g < w.heap.size → w'.heap[g]? = w.heap[g]?) : AlvOk w' S vb st d ids :=
  let ⟨A, x, lv, q⟩ := h; ⟨A, x, lv, q.keep hs hk⟩

theorem AlvOk.ok {w : World} {S : Nat → Prop} {vb : Nat} {st : St} {d : Cv} {ids : List Int} (h : AlvOk w S vb st d ids) : CvOk d :=
  let ⟨_, _, _, q⟩ := h; let ⟨_, _, _, h1, _⟩ := q.scr; h1.ok

/-- What leaves the run's blocks alone. -/
theorem Run.keep {w wr w' : World} {S : Nat → Prop} {vb n m o : Nat} {st : St} {d : Cv} {ids : List Int} (h : Run w wr S vb n m o st d ids) (hs : wr.heap.size ≤ w'.heap.size) (hk : ∀ g, S g → g < wr.heap.size → w'.heap[g]? = wr.heap[g]?) (hb : Below w.heap.size w w') : Run w w' S vb n m o st d ids :=
  ⟨h.fine, h.kept, h.alv.keep hs hk, fun g hg => ⟨(h.lo g hg).1, Nat.lt_of_lt_of_le (h.lo g hg).2 hs⟩, h.inv, h.W, h.H, h.len, h.old, h.cnt, h.told, hb⟩

theorem Run.below {w wr V : World} {S : Nat → Prop} {vb n m o : Nat} {st : St} {d : Cv} {ids : List Int} (h : Run w wr S vb n m o st d ids) (hV : Below wr.heap.size wr V) : Run w V S vb n m o st d ids :=
  h.keep hV.size (fun g _ hl => hV.block g hl) (h.bel.trans (hV.mono h.bel.size))

theorem Below.onlyS {n : Nat} {w wr w' : World} {A : Nat → Prop} (hb : Below n w wr) (ho : Only A wr w') (hA : ∀ g, A g → n ≤ g) (hn : n ≤ wr.heap.size) : Below n w w' :=
  ⟨ho.os.trans hb.os, ho.tape.trans hb.tape, ho.output.trans hb.output, Nat.le_trans hb.size ho.size, fun g hg => by rw [ho.block g (by omega) fun h => by have := hA g h; omega, hb.block g hg]⟩

theorem grow_lo {w wr w' : World} {S : Nat → Prop} (hl : ∀ g, S g → w.heap.size ≤ g ∧ g < wr.heap.size) (h1 : w.heap.size ≤ wr.heap.size) (h2 : wr.heap.size ≤ w'.heap.size) : ∀ g, grow S wr w' g → w.heap.size ≤ g ∧ g < w'.heap.size := fun g hg => by
  rcases hg with hg | hg
  · have := hl g hg; omega
  · omega

/-- Another run, behind a call on this one. -/
theorem Run.other {w wr w' : World} {S T : Nat → Prop} {vb n m o : Nat} {st : St} {d : Cv} {ids : List Int} (h : Run w wr S vb n m o st d ids) (ho : Only T wr w') (hT : ∀ g, T g → w.heap.size ≤ g) (hap : ∀ g, S g → ¬ T g) : Run w w' S vb n m o st d ids :=
  h.keep ho.size (fun g hg hl => ho.block g hl (hap g hg)) (Below.onlyS h.bel ho hT h.bel.size)

/-- A step. -/
theorem Run.step {w wr : World} {S : Nat → Prop} {vb n m o : Nat} {st : St} {d : Cv} {ids : List Int} (h : Run w wr S vb n m o st d ids) (hm : m ≤ 100000) (t : StepD) (ht : StepOk t) :
    Calls Tryz.prog 13 #[.pointer (some ⟨vb, 0, none⟩), .agg t.cells] wr fun e w' => e = .returned (.tuple #[]) ∧ (∃ d', DamTo d d' (stepM st ids t).2.2 ∧ Run w w' (grow S wr w') vb n (m + 1) o (stepM st ids t).1 d' (stepM st ids t).2.1) ∧ Only S wr w' := by
  refine (does_any h.fine h.alv (Nat.le_trans h.cnt hm) t ht).mono ?_
  rintro e w' ⟨rfl, ⟨d', ha, hd⟩, ho⟩
  obtain ⟨e1, e2, e3, e4, _⟩ := damTo_same hd
  have h1 := h.bel.size
  have h2 := ho.size
  exact ⟨rfl, ⟨d', hd, stepM_fine h.fine ids t, stepM_kept h.fine h.kept ids t, ha, grow_lo h.lo h1 h2, CvInv.damTo h.alv.ok h.inv hd fun x y hx => stepM_pic h.fine ids t x y hx, by rw [e1]; exact h.W, by rw [e2]; exact h.H, by rw [e3]; exact h.len, by rw [e4]; exact h.old,
    Nat.le_trans (stepM_len st ids t) (by have := h.cnt; omega), stepM_told h.fine h.told t, Below.onlyS h.bel ho (fun g hg => (h.lo g hg).1) h1⟩, ho⟩

/-- Behind a call on the screen. -/
theorem AlvX.turned {w w' : World} {S A : Nat → Prop} {vb x : Nat} {lv : Value} {st : St} {d d' : Cv} {ids : List Int} (h : AlvX w S A vb x lv st d ids) (hc : FullC w' (grow A w w') x st d') (ho : Only A w w') : AlvOk w' (grow S w w') vb st d' ids ∧ Only S w w' :=
  ⟨⟨_, _, _, h.call hc ho⟩, h.onlyS ho⟩

/-- Where the screen's pointer lies. -/
theorem Run.ptr {w wr : World} {S : Nat → Prop} {vb n m o : Nat} {st : St} {d : Cv} {ids : List Int} (h : Run w wr S vb n m o st d ids) : ∃ A x lv, AlvX wr S A vb x lv st d ids := h.alv

/-- A Repaint. -/
theorem Run.repaint {w wr : World} {S A : Nat → Prop} {vb x n m o : Nat} {lv : Value} {st : St} {d : Cv} {ids : List Int} (h : Run w wr S vb n m o st d ids) (ha : AlvX wr S A vb x lv st d ids) (ho62 : o ≤ 4611686018427387904) (i : Nat) (hi : i < n) :
    Calls Tryz.prog 14 #[.pointer (some ⟨x, 0, none⟩), .int .i64 i] wr fun e w' => ∃ (hi : i < d.bufs.length) (rv : Value) (O : Rgn) (d' : Cv), e = .returned (.tuple #[.agg #[rv, .int .i64 (laidL (fun x y => (st.picL (st.visAll (-1)) x y).2) (rc O) (rc O).length)], .int .i64 0]) ∧ Good O ∧ (∀ x y, memR O x y = d.stale d.bufs[i].age x y) ∧ OwnR w' wr.heap.size rv (rc O) ∧
      d' = d.painted i (paintL d.W (rc O) (fun x y => (st.picL (st.visAll (-1)) x y).1) d.bufs[i].f) ∧ Run w w' (grow S wr w') vb n m (o + 1) st d' ids ∧ Only S wr w' ∧ (∃ A', AlvX w' (grow S wr w') A' vb x lv st d' ids) := by
  have hil : i < d.bufs.length := by rw [h.len]; exact hi
  refine (fuRepaint_any h.fine.wf i hil (Nat.le_trans h.old ho62) wr ha.scr).mono ?_
  rintro e w' ⟨hi', rv, O, rfl, hG, hm, hr, hc, hon⟩
  have hA := ha.turned hc hon
  have h1 := h.bel.size
  have h2 := hon.size
  have hok := h.alv.ok
  refine ⟨hil, rv, O, _, rfl, hG, hm, hr, rfl, ⟨h.fine, h.kept, hA.1, grow_lo h.lo h1 h2, CvInv.paint hok h.inv fun k hk => paint_full h.fine.wf h.kept h.inv hil hm hk, h.W, h.H, ?_, ?_, h.cnt, h.told, Below.onlyS h.bel hA.2 (fun g hg => (h.lo g hg).1) h1⟩, hA.2, _, ha.call hc hon⟩
  · show (d.bufs.mapIdx _).length = n
    rw [List.length_mapIdx, h.len]
  · show d.old + 1 ≤ o + 1
    have := h.old
    omega

end Go.Proofs.YtofinpocigbbeaaGreat
