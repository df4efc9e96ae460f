import Derived.Test.YtofinpocigbbeaaGreatSce
namespace Go.Proofs.YtofinpocigbbeaaGreat

/-! ### The calls, on plain data -/

theorem sf_of_lt (st : St) {i : Nat} (h : i < st.sfs.length) : st.sf i = st.sfs[i] := by
  unfold St.sf
  rw [List.getD_eq_getElem?_getD, List.getElem?_eq_getElem h]
  rfl

theorem px_bound {st : St} (hw : Wf st) : ∀ (n : Nat) (id : Int), id < n → -1000 * (n : Int) ≤ st.px id ∧ st.px id ≤ 1000 * (n : Int) ∧ -1000 * (n : Int) ≤ st.py id ∧ st.py id ≤ 1000 * (n : Int) := by
  intro n
  induction n with
  | zero => intro id h; rw [px_neg st (by omega), py_neg st (by omega)]; omega
  | succ n ih =>
    intro id h
    by_cases h0 : id < 0
    · rw [px_neg st h0, py_neg st h0]; omega
    · obtain ⟨i, rfl⟩ : ∃ i : Nat, id = i := ⟨id.toNat, by omega⟩
      rw [px_step hw.par, py_step hw.par]
      have h1 := hw.par i
      have h2 := ih (st.sf i).parent (by omega)
      have h3 := (hw.lk i).1.x
      have h4 := (hw.lk i).1.y
      omega

theorem px_lim {st : St} (hw : Wf st) (id : Int) (h : id < st.sfs.length) : -60000 ≤ st.px id ∧ st.px id ≤ 60000 ∧ -60000 ≤ st.py id ∧ st.py id ≤ 60000 := by
  have h1 := px_bound hw _ _ h
  have h2 := hw.made
  omega

/-- The same tree. -/
structure Alike (st st' : St) : Prop where
  order : st'.order = st.order
  len : st'.sfs.length = st.sfs.length
  par : ∀ i, (st'.sf i).parent = (st.sf i).parent

theorem Alike.chainF {st st' : St} (h : Alike st st') : ∀ (k : Nat) (id : Int), chainF st'.sf k id = chainF st.sf k id := by
  intro k
  induction k with
  | zero => intro id; rfl
  | succ k ih => intro id; unfold Go.Proofs.YtofinpocigbbeaaGreat.chainF; rw [h.par, ih]

theorem Alike.chain {st st' : St} (h : Alike st st') (id : Int) : st'.chain id = st.chain id := h.chainF _ _

theorem Alike.kids {st st' : St} (h : Alike st st') (p : Int) : st'.kids p = st.kids p := by
  unfold St.kids
  rw [h.order]
  exact List.filter_congr fun i _ => by rw [h.par]

def upd (st : St) (i : Nat) (g : Sf → Sf) : St := { st with sfs := st.sfs.modify i g }

theorem upd_len (st : St) (i : Nat) (g : Sf → Sf) : (upd st i g).sfs.length = st.sfs.length := by unfold upd; simp

theorem upd_sf (st : St) (i : Nat) (g : Sf → Sf) (j : Nat) (hi : i < st.sfs.length) : (upd st i g).sf j = if j = i then g (st.sf i) else st.sf j := by
  unfold St.sf upd
  simp only [List.getD_eq_getElem?_getD, List.getElem?_modify]
  by_cases e : j = i
  · subst e
    rw [if_pos rfl, List.getElem?_eq_getElem hi]
    simp
  · rw [if_neg e]
    cases st.sfs[j]? with
    | none => rfl
    | some a =>
      simp
      intro h
      exact absurd h.symm e

theorem upd_alike {st : St} {i : Nat} {g : Sf → Sf} (hi : i < st.sfs.length) (hg : ∀ s, (g s).parent = s.parent) : Alike st (upd st i g) :=
  ⟨rfl, upd_len st i g, fun j => by
    rw [upd_sf st i g j hi]
    split
    · rename_i e; subst e; rw [hg]
    · rfl⟩

theorem upd_wf {st : St} {i : Nat} {g : Sf → Sf} (hw : Wf st) (hi : i < st.sfs.length) (hg : ∀ s, (g s).parent = s.parent) (ha : ∀ s, (g s).alive = s.alive) (hl : LookOk (g (st.sf i)).now ∧ LookOk (g (st.sf i)).next) : Wf (upd st i g) := by
  have hA := upd_alike (g := g) hi hg
  refine ⟨fun j => ?_, hw.nd, fun j => ?_, fun j hj p hp => ?_, hw.len, ?_, hw.ww, hw.hh, fun j => ?_⟩
  · rw [hA.par]; exact hw.par j
  · rw [hA.len, upd_sf st i g j hi]
    refine (hw.mem j).trans ?_
    split
    · rename_i e; subst e; rw [ha]
    · rfl
  · rw [hA.par] at hp; exact hw.up j hj p hp
  · rw [hA.len]; exact hw.made
  · rw [upd_sf st i g j hi]
    split
    · exact hl
    · exact hw.lk j

/-! #### Make -/

def newSf (p : Int) : Sf := { sf0 with alive := true, parent := p }

def mk (st : St) (p : Int) : St := { st with sfs := st.sfs ++ [newSf p], order := st.order ++ [st.sfs.length] }

theorem mk_sf (st : St) (p : Int) (i : Nat) : (mk st p).sf i = if i = st.sfs.length then newSf p else st.sf i := by
  unfold St.sf mk
  simp only [List.getD_eq_getElem?_getD]
  by_cases e : i = st.sfs.length
  · subst e; simp
  · rw [if_neg e]
    by_cases h : i < st.sfs.length
    · rw [List.getElem?_append_left h]
    · rw [List.getElem?_eq_none (by simp; omega), List.getElem?_eq_none (by omega)]

theorem mk_len (st : St) (p : Int) : (mk st p).sfs.length = st.sfs.length + 1 := by unfold mk; simp

theorem mk_kids {st : St} (hw : Wf st) (p q : Int) : (mk st p).kids q = st.kids q ++ (if q = p then [st.sfs.length] else []) := by
  unfold St.kids
  rw [show (mk st p).order = st.order ++ [st.sfs.length] from rfl, List.filter_append]
  congr 1
  · refine List.filter_congr fun i hi => ?_
    rw [mk_sf, if_neg (by have := hw.lt hi; omega)]
  · rw [List.filter_cons, mk_sf, if_pos rfl]
    show (if decide (p = q) = true then _ else _) = _
    by_cases e : q = p
    · subst e; simp
    · rw [if_neg e, if_neg (by simpa using fun h : p = q => e h.symm)]; rfl

theorem mk_wf {st : St} (hw : Wf st) {p : Int} (hp : p = -1 ∨ ∃ i : Nat, p = i ∧ i ∈ st.order) (h1 : st.order.length < 12) (h2 : st.sfs.length < 60) : Wf (mk st p) := by
  have hp2 : -1 ≤ p ∧ p < st.sfs.length := by
    rcases hp with rfl | ⟨i, rfl, hi⟩
    · omega
    · have := hw.lt hi; omega
  refine ⟨fun j => ?_, ?_, fun j => ?_, fun j hj q hq => ?_, ?_, ?_, hw.ww, hw.hh, fun j => ?_⟩
  · rw [mk_sf]
    split
    · rename_i e; subst e; exact hp2
    · exact hw.par j
  · show (st.order ++ [st.sfs.length]).Nodup
    rw [List.nodup_append]
    exact ⟨hw.nd, by simp, fun a ha b hb e => by simp at hb; subst hb; subst e; have := hw.lt ha; omega⟩
  · show j ∈ st.order ++ [st.sfs.length] ↔ _
    rw [List.mem_append, List.mem_singleton, mk_len, mk_sf]
    by_cases e : j = st.sfs.length
    · subst e
      rw [if_pos rfl]
      exact ⟨fun _ => ⟨by omega, rfl⟩, fun _ => .inr rfl⟩
    · rw [if_neg e, hw.mem j]
      constructor
      · rintro (⟨a, b⟩ | a)
        · exact ⟨by omega, b⟩
        · exact absurd a e
      · rintro ⟨a, b⟩; exact .inl ⟨by omega, b⟩
  · show q ∈ st.order ++ [st.sfs.length]
    rw [List.mem_append]
    left
    have hj2 : j ∈ st.order ++ [st.sfs.length] := hj
    rw [List.mem_append, List.mem_singleton] at hj2
    rw [mk_sf] at hq
    rcases hj2 with hj2 | rfl
    · rw [if_neg (by have := hw.lt hj2; omega)] at hq
      exact hw.up j hj2 q hq
    · rw [if_pos rfl] at hq
      have hq2 : p = q := hq
      rcases hp with rfl | ⟨i, rfl, hi⟩
      · omega
      · have : i = q := by omega
        subst this; exact hi
  · show (st.order ++ [st.sfs.length]).length ≤ 12
    simp; omega
  · rw [mk_len]; omega
  · rw [mk_sf]
    split
    · exact ⟨look0_ok, look0_ok⟩
    · exact hw.lk j

/-! #### Destroy -/

def rm (st : St) (id : Nat) : St :=
  { st with sfs := st.sfs.mapIdx fun j s => if (st.gone id).contains j = true then { s with alive := false } else s
            order := st.order.filter fun o => !(st.chain o).contains id }

theorem rm_len (st : St) (id : Nat) : (rm st id).sfs.length = st.sfs.length := by unfold rm; simp

theorem rm_sf (st : St) (hw : Wf st) (id j : Nat) : (rm st id).sf j = if j ∈ st.gone id then { st.sf j with alive := false } else st.sf j := by
  unfold St.sf rm
  simp only [List.getD_eq_getElem?_getD, List.getElem?_mapIdx]
  by_cases h : j < st.sfs.length
  · rw [List.getElem?_eq_getElem h]
    simp
  · rw [List.getElem?_eq_none (by omega), if_neg]
    · rfl
    · intro hj
      exact h (hw.lt (gone_mem.1 hj).1)

theorem rm_par (st : St) (hw : Wf st) (id j : Nat) : ((rm st id).sf j).parent = (st.sf j).parent := by
  rw [rm_sf st hw]
  split <;> rfl

theorem rm_kids {st : St} (hw : Wf st) (id : Nat) (q : Int) (hq : id ∉ st.chain q) : (rm st id).kids q = (st.kids q).filter fun i => decide (i ≠ id) := by
  unfold St.kids
  rw [show (rm st id).order = st.order.filter fun (o : Nat) => !(st.chain o).contains id from rfl, List.filter_filter, List.filter_filter]
  refine List.filter_congr fun i _ => ?_
  rw [rm_par st hw]
  by_cases e : (st.sf i).parent = q
  · rw [chain_step hw.par, e]
    by_cases e2 : i = id
    · subst e2; simp
    · have : ¬ id = i := fun h => e2 h.symm
      simp [e2, hq, this]
  · simp [e]

theorem rm_wf {st : St} (hw : Wf st) (id : Nat) : Wf (rm st id) := by
  have hA : ∀ j, j ∈ (rm st id).order ↔ j ∈ st.order ∧ id ∉ st.chain j := fun j => by
    show j ∈ st.order.filter _ ↔ _
    rw [List.mem_filter]
    simp
  refine ⟨fun j => ?_, hw.nd.filter _, fun j => ?_, fun j hj q hq => ?_, ?_, ?_, hw.ww, hw.hh, fun j => ?_⟩
  · rw [rm_par st hw]; exact hw.par j
  · rw [hA, rm_len, rm_sf st hw]
    constructor
    · rintro ⟨a, b⟩
      rw [if_neg (fun h => b (gone_mem.1 h).2)]
      exact (hw.mem j).1 a
    · rintro ⟨a, b⟩
      split at b
      · cases b
      · rename_i h
        have hj := (hw.mem j).2 ⟨a, b⟩
        exact ⟨hj, fun h2 => h (gone_mem.2 ⟨hj, h2⟩)⟩
  · rw [rm_par st hw] at hq
    rw [hA] at hj ⊢
    refine ⟨hw.up j hj.1 q hq, fun h => hj.2 ?_⟩
    rw [chain_step hw.par, hq]
    exact List.mem_cons_of_mem _ h
  · exact Nat.le_trans (List.length_filter_le _ _) hw.len
  · rw [rm_len]; exact hw.made
  · rw [rm_sf st hw]
    split
    · exact hw.lk j
    · exact hw.lk j

theorem filter_two (p : Nat → Bool) : ∀ l : List Nat, (l.filter fun o => !p o).length + (l.filter p).length = l.length := by
  intro l
  induction l with
  | nil => rfl
  | cons a l ih =>
    rw [List.filter_cons, List.filter_cons]
    cases p a <;> simp <;> omega

theorem rm_count {st : St} (hw : Wf st) (id : Nat) (hid : id ∈ st.order) : (rm st id).order.length + (id :: st.dfs id).length = st.order.length := by
  rw [(gone_perm hw id hid).length_eq]
  show (st.order.filter _).length + (st.order.filter _).length = _
  exact filter_two (fun (o : Nat) => (st.chain o).contains id) st.order

/-! #### Commit -/

def rsL (l : List Nat) (id sib : Nat) (above : Bool) : List Nat :=
  l.flatMap fun o => (if o = sib ∧ above = false then [id] else []) ++ ((if o ≠ id then [o] else []) ++ (if o = sib ∧ above = true then [id] else []))

def rsI (l : List Nat) (id sib : Nat) (above : Bool) : List Nat :=
  l.flatMap fun o => (if o = sib ∧ above = false then [id] else []) ++ ([o] ++ (if o = sib ∧ above = true then [id] else []))

theorem rsL_ins (id sib : Nat) (above : Bool) (hne : sib ≠ id) : ∀ l : List Nat, rsL l id sib above = rsI (l.filter fun i => decide (i ≠ id)) id sib above := by
  intro l
  induction l with
  | nil => rfl
  | cons o l ih =>
    unfold rsL rsI at *
    rw [List.flatMap_cons, ih, List.filter_cons]
    by_cases e : o = id
    · subst e
      have : ¬ o = sib := fun h => hne h.symm
      simp [this]
    · rw [if_pos (show decide (o ≠ id) = true by simpa using e), List.flatMap_cons, if_pos (show o ≠ id from e)]

theorem rsI_none (id sib : Nat) (above : Bool) : ∀ l : List Nat, sib ∉ l → rsI l id sib above = l := by
  intro l
  induction l with
  | nil => intro _; rfl
  | cons o l ih =>
    intro h
    have h1 : ¬ o = sib := fun e => h (by rw [e]; simp)
    have h2 := ih fun e => h (List.mem_cons_of_mem _ e)
    unfold rsI at *
    rw [List.flatMap_cons, h2]
    simp [h1]

theorem rsI_at (id sib : Nat) (above : Bool) (l : List Nat) (hn : l.Nodup) (k : Nat) (hk : l[k]? = some sib) : rsI l id sib above = l.take (k + if above = true then 1 else 0) ++ id :: l.drop (k + if above = true then 1 else 0) := by
  obtain ⟨hkl, hk2⟩ := List.getElem?_eq_some_iff.1 hk
  have hs : l = l.take k ++ sib :: l.drop (k + 1) := by
    rw [← hk2, ← List.drop_eq_getElem_cons hkl, List.take_append_drop]
  have hn2 := hn
  rw [hs, List.nodup_append, List.nodup_cons] at hn2
  obtain ⟨_, ⟨n1, _⟩, n2⟩ := hn2
  have n3 : sib ∉ l.take k := fun h => n2 sib h sib (by simp) rfl
  have a1 := rsI_none id sib above _ n3
  have a2 := rsI_none id sib above _ n1
  conv => lhs; rw [hs]
  unfold rsI at *
  rw [List.flatMap_append, List.flatMap_cons, a1, a2]
  cases above with
  | false =>
    simp only [Bool.false_eq_true, if_false, Nat.add_zero]
    rw [List.drop_eq_getElem_cons hkl, hk2]
    simp
  | true =>
    simp only [if_true]
    rw [List.take_succ_eq_append_getElem hkl, hk2]
    simp

theorem rsL_perm {l : List Nat} (hn : l.Nodup) {id sib : Nat} (above : Bool) (hne : sib ≠ id) (h1 : id ∈ l) (h2 : sib ∈ l) : (rsL l id sib above).Perm l := by
  rw [rsL_ins id sib above hne]
  have h3 : sib ∈ l.filter fun i => decide (i ≠ id) := by rw [List.mem_filter]; exact ⟨h2, by simpa using hne⟩
  obtain ⟨k, hk⟩ := List.mem_iff_getElem?.1 h3
  rw [rsI_at id sib above _ (hn.filter _) k hk]
  refine List.perm_middle.trans ?_
  rw [List.take_append_drop]
  refine (List.perm_ext_iff_of_nodup ?_ hn).2 fun a => ?_
  · rw [List.nodup_cons]
    exact ⟨fun h => by rw [List.mem_filter] at h; simp at h, hn.filter _⟩
  · rw [List.mem_cons, List.mem_filter]
    constructor
    · rintro (rfl | ⟨h, _⟩)
      · exact h1
      · exact h
    · intro h
      by_cases e : a = id
      · exact .inl e
      · exact .inr ⟨h, by simpa using e⟩

theorem rsL_filter (P : Nat → Bool) (id sib : Nat) (above : Bool) (hP : P sib = P id) : ∀ l : List Nat, (rsL l id sib above).filter P = if P id = true then rsL (l.filter P) id sib above else l.filter P := by
  intro l
  induction l with
  | nil => simp [rsL]
  | cons o l ih =>
    unfold rsL at *
    rw [List.flatMap_cons, List.filter_append, ih]
    cases hb : P id with
    | true =>
      rw [hb] at hP
      rw [if_pos rfl, if_pos rfl, List.filter_cons]
      by_cases e : o = sib
      · subst e
        rw [if_pos hP, List.flatMap_cons]
        congr 1
        cases above <;> by_cases e2 : o = id <;> simp [hb, hP, e2]
      · by_cases e2 : o = id
        · subst e2
          rw [if_pos hb, List.flatMap_cons]
          simp [e]
        · cases ho : P o with
          | true => rw [if_pos rfl, List.flatMap_cons]; simp [e, e2, ho]
          | false => simp [e, e2, ho]
    | false =>
      rw [hb] at hP
      have hpc : ((if o = sib ∧ above = false then [id] else []) ++ ((if o ≠ id then [o] else []) ++ (if o = sib ∧ above = true then [id] else []))).filter P = if P o = true then [o] else [] := by
        by_cases e : o = sib <;> by_cases e2 : o = id <;> cases above <;> cases ho : P o <;> simp_all
      rw [hpc, List.filter_cons]
      cases P o <;> simp

/-- Is it put next to another one? -/
def St.puts (st : St) (id : Nat) : Bool := (st.sf id).ask && st.isB (st.sf id).sib

/-- Where a surface hides: of its buffer's points those of its hint whose pixel lets nothing through. -/
def keptOf (l : Look) (k : Nat) : Bool := l.hint ((k : Int) % l.w) ((k : Int) / l.w) && decide ((l.pix k).2.2.2 = 255)

def cmSf (s : Sf) : Sf := { s with now := s.next, ask := false, kept := keptOf s.next }

def cm (st : St) (id : Nat) : St :=
  { upd st id cmSf with order := if st.puts id = true then rsL st.order id (st.sf id).sib.toNat (st.sf id).above else st.order }

/-- What was asked of it is a sibling's number, or nothing. -/
def SibOk (st : St) : Prop := ∀ i ∈ st.order, (st.sf i).ask = true → ∃ s : Nat, (st.sf i).sib = s ∧ s ≠ i ∧ s < st.sfs.length ∧ (st.sf s).parent = (st.sf i).parent

theorem isB_iff {st : St} (hw : Wf st) (id : Int) : st.isB id = true ↔ ∃ i : Nat, id = i ∧ i ∈ st.order := by
  unfold St.isB
  rw [Bool.and_eq_true, decide_eq_true_eq]
  constructor
  · rintro ⟨⟨h1, h2⟩, h3⟩
    exact ⟨id.toNat, by omega, (hw.mem _).2 ⟨by omega, h3⟩⟩
  · rintro ⟨i, rfl, hi⟩
    obtain ⟨h1, h2⟩ := (hw.mem i).1 hi
    exact ⟨⟨by omega, by omega⟩, h2⟩

theorem puts_sib {st : St} (hw : Wf st) (hs : SibOk st) {id : Nat} (hid : id ∈ st.order) (h : st.puts id = true) : ∃ s : Nat, (st.sf id).sib = s ∧ s ≠ id ∧ s ∈ st.order ∧ (st.sf s).parent = (st.sf id).parent := by
  unfold St.puts at h
  rw [Bool.and_eq_true] at h
  obtain ⟨s, h1, h2, h3, h4⟩ := hs id hid h.1
  refine ⟨s, h1, h2, ?_, h4⟩
  obtain ⟨i, hi, hi2⟩ := (isB_iff hw _).1 h.2
  have : s = i := by omega
  subst this
  exact hi2

theorem cm_sf (st : St) (id j : Nat) (hi : id < st.sfs.length) : (cm st id).sf j = if j = id then cmSf (st.sf id) else st.sf j := upd_sf st id cmSf j hi

theorem cm_len (st : St) (id : Nat) : (cm st id).sfs.length = st.sfs.length := upd_len st id cmSf

theorem cm_par (st : St) (id j : Nat) (hi : id < st.sfs.length) : ((cm st id).sf j).parent = (st.sf j).parent := (upd_alike hi (g := cmSf) fun _ => rfl).par j

theorem cm_perm {st : St} (hw : Wf st) (hs : SibOk st) {id : Nat} (hid : id ∈ st.order) : (cm st id).order.Perm st.order := by
  show (if st.puts id = true then rsL st.order id (st.sf id).sib.toNat (st.sf id).above else st.order).Perm st.order
  split
  · rename_i h
    obtain ⟨s, h1, h2, h3, h4⟩ := puts_sib hw hs hid h
    rw [h1]
    exact rsL_perm hw.nd _ h2 hid h3
  · exact List.Perm.refl _

theorem cm_wf {st : St} (hw : Wf st) (hs : SibOk st) {id : Nat} (hid : id ∈ st.order) : Wf (cm st id) := by
  have hi := hw.lt hid
  have hP := cm_perm hw hs hid
  have hu := upd_wf (g := cmSf) hw hi (fun _ => rfl) (fun _ => rfl) ⟨(hw.lk id).2, (hw.lk id).2⟩
  refine ⟨hu.par, hP.nodup_iff.2 hw.nd, fun j => ?_, fun j hj p hp => ?_, ?_, hu.made, hw.ww, hw.hh, hu.lk⟩
  · rw [hP.mem_iff]; exact hu.mem j
  · rw [hP.mem_iff] at hj ⊢; exact hu.up j hj p hp
  · rw [hP.length_eq]; exact hw.len

theorem cm_kids {st : St} (hw : Wf st) (hs : SibOk st) {id : Nat} (hid : id ∈ st.order) (q : Int) : (cm st id).kids q = if st.puts id = true ∧ (st.sf id).parent = q then rsL (st.kids q) id (st.sf id).sib.toNat (st.sf id).above else st.kids q := by
  have hi := hw.lt hid
  unfold St.kids
  have e : (fun i => decide (((cm st id).sf i).parent = q)) = fun i => decide ((st.sf i).parent = q) := by
    funext i
    rw [cm_par st id i hi]
  rw [e]
  show (if st.puts id = true then rsL st.order id (st.sf id).sib.toNat (st.sf id).above else st.order).filter _ = _
  by_cases h : st.puts id = true
  · rw [if_pos h]
    obtain ⟨s, h1, h2, h3, h4⟩ := puts_sib hw hs hid h
    rw [h1, Int.toNat_natCast, rsL_filter _ _ _ _ (by rw [h4])]
    by_cases e : (st.sf id).parent = q
    · rw [if_pos (by simpa using e), if_pos ⟨h, e⟩]
    · rw [if_neg (by simpa using e), if_neg (fun h => e h.2)]
  · rw [if_neg h, if_neg (fun h2 => h h2.1)]

end Go.Proofs.YtofinpocigbbeaaGreat
