import Derived.Test.YtofinpocigbbeaaGreatKbs
namespace Go.Proofs.YtofinpocigbbeaaGreat
open Go.RowKit

/-! ### does, on its way to a new surface -/

structure MkI (w wr : World) (S A : Nat → Prop) (vb x : Nat) (lv : Value) (st : St) (d : Cv) (ids : List Int) (cs : Array Value) : Prop where
  alv : AlvX wr (grow S w wr) A vb x lv st d ids
  only : Only S w wr
  stp : Blk wr w.heap.size 32 cs
  sA : ¬ A w.heap.size
  sv : vb ≠ w.heap.size
  sr : lv.ownBlock ≠ some w.heap.size

theorem MkI.start {w : World} {S A : Nat → Prop} {vb x : Nat} {lv : Value} {st : St} {d : Cv} {ids : List Int} (h : AlvX w S A vb x lv st d ids) (cs : Array Value) : MkI w (w.alloc (.cells cs 32)) S A vb x lv st d ids cs := by
  have hb : Below w.heap.size w (w.alloc (.cells cs 32)) := (Below.refl _ _).alloc (Nat.le_refl _) _
  refine ⟨(h.below hb).mono fun _ hg => .inl hg, Only.below hb, heap_alloc_new w _, fun hA => ?_, fun e => ?_, fun e => ?_⟩
  · have := (h.la _ hA).2; omega
  · have := block_lt h.blk; omega
  · have := (h.row.lt _ e).2; omega

theorem MkI.below {w wr V : World} {S A : Nat → Prop} {vb x : Nat} {lv : Value} {st : St} {d : Cv} {ids : List Int} {cs : Array Value} (h : MkI w wr S A vb x lv st d ids cs) (hV : Below wr.heap.size wr V) : MkI w V S A vb x lv st d ids cs :=
  ⟨(h.alv.below hV).mono fun _ hg => hg.elim .inl fun q => .inr ⟨q.1, Nat.lt_of_lt_of_le q.2 hV.size⟩, h.only.after hV, h.stp.keep (hV.block _ (block_lt h.stp)), h.sA, h.sv, h.sr⟩

theorem MkI.call {w wr w' : World} {S A : Nat → Prop} {vb x : Nat} {lv : Value} {st st' : St} {d d' : Cv} {ids : List Int} {cs : Array Value} (h : MkI w wr S A vb x lv st d ids cs) (hs : FullC w' (grow A wr w') x st' d') (ho : Only A wr w') : MkI w w' S (grow A wr w') vb x lv st' d' ids cs := by
  have hsz := ho.size
  have h1 := h.only.size
  have hl := block_lt h.stp
  refine ⟨(h.alv.call hs ho).mono fun g hg => ?_, h.only.trans (h.alv.onlyS ho), h.stp.keep (ho.block _ hl h.sA), fun hA => ?_, h.sv, h.sr⟩
  · rcases hg with (hg | hg) | hg
    · exact .inl hg
    · exact .inr ⟨hg.1, by omega⟩
    · exact .inr ⟨by omega, hg.2⟩
  · rcases hA with hA | hA
    · exact h.sA hA
    · omega

theorem MkI.cells {w wr : World} {S A : Nat → Prop} {vb x : Nat} {lv : Value} {st : St} {d : Cv} {ids : List Int} {a0 a1 a2 a3 a4 a5 : Value} (h : MkI w wr S A vb x lv st d ids #[a0, a1, a2, a3, a4, a5]) :
    wr.cell? ⟨vb, 0, none⟩ = some (.pointer (some ⟨x, 0, none⟩)) ∧ wr.cell? ⟨vb, 1, none⟩ = some lv ∧ wr.cell? ⟨w.heap.size, 0, none⟩ = some a0 ∧ wr.cell? ⟨w.heap.size, 1, none⟩ = some a1 ∧ wr.cell? ⟨w.heap.size, 2, none⟩ = some a2 ∧ wr.cell? ⟨w.heap.size, 3, none⟩ = some a3 ∧ wr.cell? ⟨w.heap.size, 4, none⟩ = some a4 ∧ wr.cell? ⟨w.heap.size, 5, none⟩ = some a5 :=
  ⟨h.alv.blk.cell 0, h.alv.blk.cell 1, h.stp.cell 0, h.stp.cell 1, h.stp.cell 2, h.stp.cell 3, h.stp.cell 4, h.stp.cell 5⟩

theorem AlvX.rowNe {w : World} {S A : Nat → Prop} {vb x : Nat} {lv : Value} {st : St} {d : Cv} {ids : List Int} (h : AlvX w S A vb x lv st d ids) : lv.ownBlock ≠ some vb := fun e => by
  obtain ⟨cur, hc⟩ := own_type h.row e
  have := hc.symm.trans h.blk
  simp at this

/-- A number is appended to v.l, and v.l is stored. -/
theorem MkI.more {w wr w1 w' : World} {S A : Nat → Prop} {vb x : Nat} {lv v' : Value} {st : St} {d : Cv} {ids : List Int} {cs : Array Value} {z : Int} (h : MkI w wr S A vb x lv st d ids cs) (hb : Below wr.heap.size wr w1) (hr : w'.ownsRow 0 3 1 v' (ids.length + 1) (ids.map (Value.int .i64) ++ [.int .i64 z])) (hg : w1.grownBy w' lv.ownBlock) (hv : v'.ownBlock = lv.ownBlock ∨ v'.ownBlock = some w1.heap.size) :
    Blk w' vb 40 #[.pointer (some ⟨x, 0, none⟩), lv] ∧ MkI w (w'.setCell ⟨vb, 1, none⟩ v') S A vb x v' st d (ids ++ [z]) cs := by
  have hs1 := hb.size
  have hs2 := hg.size
  have h1 := h.only.size
  have hvb := h.alv.rowNe
  have ha := h.below hb
  have hkeep : ∀ g, g < w1.heap.size → lv.ownBlock ≠ some g → w'.heap[g]? = w1.heap[g]? := fun g hl hn => hg.block g hl fun e => hn e.symm
  have hvl := block_lt ha.alv.blk
  have hbk : Blk w' vb 40 #[.pointer (some ⟨x, 0, none⟩), lv] := ha.alv.blk.keep (hkeep vb hvl hvb)
  have hk2 : ∀ g, g ≠ vb → (w'.setCell ⟨vb, 1, none⟩ v').heap[g]? = w'.heap[g]? := fun g hne => heap_setCell_other w' ⟨vb, 1, none⟩ g v' hne
  have hv2 : v'.ownBlock ≠ some vb := fun e => by
    rcases hv with hv | hv
    · exact hvb (hv ▸ e)
    · rw [hv] at e; injection e with e; omega
  refine ⟨hbk, ⟨⟨hbk.set 1 v', ?_, ?_, fun g hg' => ?_, ?_, ha.alv.vA, fun g hg' => ?_⟩, ?_, ?_, ha.sA, ha.sv, fun e => ?_⟩⟩
  · rw [List.length_append, List.map_append]
    exact own_keep hr fun g hg' => hk2 g fun e => hv2 (e ▸ hg')
  · refine ha.alv.scr.keep (by simp; omega) fun g hA hl => ?_
    rw [hk2 g fun e => ha.alv.vA (e ▸ hA), hkeep g hl fun e => (ha.alv.rS g e).2 hA]
  · have := ha.alv.la g hg'
    exact ⟨this.1.elim .inl fun q => .inr ⟨q.1, by simp; omega⟩, by simp; omega⟩
  · exact ha.alv.vS.elim .inl fun q => .inr ⟨q.1, by simp; omega⟩
  · rcases hv with hv | hv
    · rw [hv] at hg'
      have := ha.alv.rS g hg'
      exact ⟨this.1.elim .inl fun q => .inr ⟨q.1, by simp; omega⟩, this.2⟩
    · have hlt := (hr.lt g hg').2
      rw [hv] at hg'
      injection hg' with hg'
      exact ⟨.inr ⟨by omega, by simp; omega⟩, fun hA => by have := (ha.alv.la g hA).2; omega⟩
  · refine (ha.only.grown hg fun g e => ?_).set ?_ _
    · exact (ha.alv.rS g e).1.elim .inl fun q => .inr q.1
    · exact ha.alv.vS.elim .inl fun q => .inr q.1
  · have hne : w.heap.size ≠ vb := fun e => ha.sv e.symm
    exact (ha.stp.keep (hkeep _ (block_lt ha.stp) ha.sr)).keep (hk2 _ hne)
  · rcases hv with hv | hv
    · exact ha.sr (hv ▸ e)
    · rw [hv] at e
      injection e with e
      have := block_lt h.stp
      omega

theorem MkI.done {w wr : World} {S A : Nat → Prop} {vb x : Nat} {lv : Value} {st : St} {d0 d : Cv} {ids : List Int} {cs : Array Value} (h : MkI w wr S A vb x lv st d ids cs) {dm : Option (List R4)} (hd : DamTo d0 d dm) : DoPost S vb d0 (st, ids, dm) w (.returned (.tuple #[])) wr :=
  ⟨rfl, ⟨d, ⟨_, _, _, h.alv⟩, hd⟩, h.only⟩

/-! #### The calls -/

theorem mk_make {w wr V : World} {S A : Nat → Prop} {vb x : Nat} {lv : Value} {st : St} {d : Cv} {ids : List Int} {cs : Array Value} (hf : Fine st) (h : MkI w wr S A vb x lv st d ids cs) (p : Int) (hV : Below wr.heap.size wr V) :
    Calls Tryz.prog 27 #[.pointer (some ⟨x, 0, none⟩), .int .i64 p] V fun e w1 => e = .returned (.tuple #[.int .i64 (opMake st p).1, .int .i64 (opMake st p).2.1]) ∧ ∃ A1, MkI w w1 S A1 vb x lv (opMake st p).2.2 d ids cs :=
  (fuMake_any hf.wf p V (h.below hV).alv.scr).mono fun _ _ hp => ⟨hp.1, _, (h.below hV).call hp.2.1 hp.2.2⟩

theorem mk_attach {w wr V : World} {S A : Nat → Prop} {vb x : Nat} {lv : Value} {st : St} {d : Cv} {ids : List Int} {cs : Array Value} (hf : Fine st) (h : MkI w wr S A vb x lv st d ids cs) (id tc : Int) (htc : I64 tc) (pw ph : Nat) (h24 : pw ≤ 24) (h24' : ph ≤ 24) (hV : Below wr.heap.size wr V) :
    Calls Tryz.prog 33 #[.int .i64 pw, .int .i64 ph, .int .i64 tc] V fun e w1 => ∃ a m q, e = .returned (.slice a m q) ∧ Below wr.heap.size wr w1 ∧ ∀ V2 : World, Below w1.heap.size w1 V2 → Calls Tryz.prog 28 #[.pointer (some ⟨x, 0, none⟩), .int .i64 id, .int .i64 pw, .int .i64 ph, .slice a m q] V2 fun e w' => ∃ er, e = .returned (.int .i64 er) ∧ ∃ A1, MkI w w' S A1 vb x lv (attM st id pw ph tc) d ids cs := by
  refine (image_any pw ph tc htc h24 h24' V).mono ?_
  rintro e w1 ⟨v, rfl, ho, hb1⟩
  obtain ⟨a, q, hvf⟩ := row_form ho
  subst hvf
  have hb1' : Below wr.heap.size wr w1 := hV.trans (hb1.mono hV.size)
  refine ⟨a, _, q, rfl, hb1', fun V2 hV2 => ?_⟩
  have hV2' : Below wr.heap.size wr V2 := hb1'.trans (hV2.mono hb1'.size)
  have hpx : PixAt V2 (.slice a (pw * ph) q) (imgL tc (pw * ph)) := (pixAt_own ho (imgL_len _ _)).below hV2
  have e1 : ((pw : Int) * (ph : Int)).toNat = pw * ph := by rw [← Int.natCast_mul, Int.toNat_natCast]
  have := fuAttach_any hf.wf id pw ph (imgL tc (pw * ph)) _ V2 (h.below hV2').alv.scr hpx (by rw [imgL_len]; have := Nat.mul_le_mul h24 h24'; unfold maxLen; omega)
  refine this.mono fun e w' hp => ⟨_, hp.1, grow A V2 w', ?_⟩
  have := (h.below hV2').call hp.2.1 hp.2.2
  unfold attM
  rw [e1]
  exact this

theorem mk_offset {w wr V : World} {S A : Nat → Prop} {vb x : Nat} {lv : Value} {st : St} {d : Cv} {ids : List Int} {cs : Array Value} (hf : Fine st) (h : MkI w wr S A vb x lv st d ids cs) (id a b : Int) (hV : Below wr.heap.size wr V) :
    Calls Tryz.prog 29 #[.pointer (some ⟨x, 0, none⟩), .int .i64 id, .int .i64 a, .int .i64 b] V fun e w' => ∃ er, e = .returned (.int .i64 er) ∧ ∃ A1, MkI w w' S A1 vb x lv (opOffset st id a b).2 d ids cs :=
  (fuOffset_any hf.wf id a b V (h.below hV).alv.scr).mono fun _ _ hp => ⟨_, hp.1, _, (h.below hV).call hp.2.1 hp.2.2⟩

theorem mk_commit {w wr V : World} {S A : Nat → Prop} {vb x : Nat} {lv : Value} {st : St} {d : Cv} {ids : List Int} {cs : Array Value} (hf : Fine st) (h : MkI w wr S A vb x lv st d ids cs) (id : Int) (hV : Below wr.heap.size wr V) :
    Calls Tryz.prog 30 #[.pointer (some ⟨x, 0, none⟩), .int .i64 id] V fun e w' => ∃ er, e = .returned (.int .i64 er) ∧ DoPost S vb d ((opCommit st id).2, ids, st.dmCommit id) w (.returned (.tuple #[])) w' :=
  (fuCommit_any hf id V (h.below hV).alv.scr).mono fun _ _ ⟨h1, ⟨_, h2, h3⟩, h4⟩ => ⟨_, h1, ((h.below hV).call h2 h4).done h3⟩

end Go.Proofs.YtofinpocigbbeaaGreat
