import Derived.Tactics
namespace Go.Proofs.YtofinpocigbbeaaGreat

/-! ### Surfaces on a screen: plain mathematics -/

abbrev R4 := Int × Int × Int × Int

structure Look where
  w : Int
  h : Int
  x : Int
  y : Int
  cut : Bool
  clip : R4
  pix : Nat → R4
  hint : Int → Int → Bool

def look0 : Look := ⟨0, 0, 0, 0, false, (0, 0, 0, 0), fun _ => (0, 0, 0, 0), fun _ _ => false⟩

structure Sf where
  alive : Bool
  parent : Int
  now : Look
  next : Look
  ask : Bool
  sib : Int
  above : Bool
  kept : Nat → Bool

def sf0 : Sf := ⟨false, -1, look0, look0, false, 0, false, fun _ => false⟩

/-- A pixel that may be. -/
def PixOk (p : R4) : Prop := (0 ≤ p.1 ∧ p.1 ≤ p.2.2.2) ∧ (0 ≤ p.2.1 ∧ p.2.1 ≤ p.2.2.2) ∧ (0 ≤ p.2.2.1 ∧ p.2.2.1 ≤ p.2.2.2) ∧ p.2.2.2 ≤ 255

structure St where
  w : Int
  h : Int
  sfs : List Sf
  order : List Nat

def St.sf (st : St) (i : Nat) : Sf := st.sfs.getD i sf0

def St.isB (st : St) (id : Int) : Bool := decide (0 ≤ id ∧ id < st.sfs.length) && (st.sf id.toNat).alive

/-! #### Rectangles -/

def meet (p q : R4) : R4 := (max p.1 q.1, max p.2.1 q.2.1, min p.2.2.1 q.2.2.1, min p.2.2.2 q.2.2.2)
def has4 (p : R4) : Bool := decide (p.1 < p.2.2.1 ∧ p.2.1 < p.2.2.2)
def nrm (p : R4) : R4 := if has4 p = true then p else (0, 0, 0, 0)
def mv (r : R4) (x y : Int) : R4 := (r.1 + x, r.2.1 + y, r.2.2.1 + x, r.2.2.2 + y)

theorem meet_comm (p q : R4) : meet p q = meet q p := by
  unfold meet
  ext <;> simp <;> omega

theorem meet_assoc (p q r : R4) : meet (meet p q) r = meet p (meet q r) := by
  unfold meet
  ext <;> simp <;> omega

theorem nrm_meet (p q : R4) : nrm (meet (nrm p) q) = nrm (meet p q) := by
  by_cases h : has4 p = true
  · rw [show nrm p = p by unfold nrm; rw [if_pos h]]
  · rw [show nrm p = (0, 0, 0, 0) by unfold nrm; rw [if_neg h]]
    have h1 : ¬ has4 (meet (0, 0, 0, 0) q) = true := by
      unfold has4 meet
      simp
      omega
    have h2 : ¬ has4 (meet p q) = true := by
      unfold has4 meet
      unfold has4 at h
      simp at h ⊢
      omega
    unfold nrm
    rw [if_neg h1, if_neg h2]

theorem nrm_flat (p : R4) : (nrm p).1 = (nrm p).2.2.1 ↔ has4 p = false := by
  unfold nrm
  cases h : has4 p with
  | true =>
    unfold has4 at h
    simp at h ⊢
    omega
  | false => simp

/-! #### What a surface is on -/

def chainF (sf : Nat → Sf) : Nat → Int → List Nat
  | 0, _ => []
  | k + 1, id => if id < 0 then [] else id.toNat :: chainF sf k (sf id.toNat).parent

def St.chain (st : St) (id : Int) : List Nat := chainF st.sf (id + 1).toNat id

/-- Every parent has a lower number. -/
def ParOk (sf : Nat → Sf) : Prop := ∀ i, -1 ≤ (sf i).parent ∧ (sf i).parent < i

theorem chainF_neg (sf : Nat → Sf) (k : Nat) (id : Int) (h : id < 0) : chainF sf k id = [] := by
  cases k with
  | zero => rfl
  | succ k => unfold chainF; rw [if_pos h]

theorem chainF_more {sf : Nat → Sf} (hp : ParOk sf) : ∀ (k k2 : Nat) (id : Int), (id + 1).toNat ≤ k → (id + 1).toNat ≤ k2 → chainF sf k id = chainF sf k2 id := by
  intro k
  induction k with
  | zero => intro k2 id h _; rw [chainF_neg sf _ id (by omega), chainF_neg sf _ id (by omega)]
  | succ k ih =>
    intro k2 id h h2
    by_cases hid : id < 0
    · rw [chainF_neg sf _ id hid, chainF_neg sf _ id hid]
    · cases k2 with
      | zero => omega
      | succ k2 =>
        have h1 := hp id.toNat
        unfold chainF
        rw [if_neg hid, if_neg hid, ih k2 _ (by omega) (by omega)]

theorem chain_neg (st : St) {id : Int} (h : id < 0) : st.chain id = [] := chainF_neg _ _ _ h

theorem chain_step {st : St} (hp : ParOk st.sf) (i : Nat) : st.chain i = i :: st.chain (st.sf i).parent := by
  have h1 := hp i
  unfold St.chain
  rw [show ((i : Int) + 1).toNat = i + 1 by omega]
  conv => lhs; unfold chainF
  rw [if_neg (by omega), show (i : Int).toNat = i by omega, chainF_more hp i _ _ (by omega) (Nat.le_refl _)]

theorem chain_le {st : St} (hp : ParOk st.sf) : ∀ (n : Nat) (id : Int), id < n → ∀ j ∈ st.chain id, (j : Int) ≤ id := by
  intro n
  induction n with
  | zero => intro id h j hj; rw [chain_neg st (by omega)] at hj; cases hj
  | succ n ih =>
    intro id h j hj
    by_cases hid : id < 0
    · rw [chain_neg st hid] at hj; cases hj
    · obtain ⟨i, rfl⟩ : ∃ i : Nat, id = i := ⟨id.toNat, by omega⟩
      rw [chain_step hp] at hj
      have h1 := hp i
      rcases List.mem_cons.1 hj with rfl | hj
      · exact Int.le_refl _
      · have := ih _ (by omega) j hj
        omega

def St.px (st : St) (id : Int) : Int := ((st.chain id).map fun i => (st.sf i).now.x).sum
def St.py (st : St) (id : Int) : Int := ((st.chain id).map fun i => (st.sf i).now.y).sum

theorem px_neg (st : St) {id : Int} (h : id < 0) : st.px id = 0 := by unfold St.px; rw [chain_neg st h]; rfl
theorem py_neg (st : St) {id : Int} (h : id < 0) : st.py id = 0 := by unfold St.py; rw [chain_neg st h]; rfl
theorem px_step {st : St} (hp : ParOk st.sf) (i : Nat) : st.px i = (st.sf i).now.x + st.px (st.sf i).parent := by unfold St.px; rw [chain_step hp, List.map_cons, List.sum_cons]
theorem py_step {st : St} (hp : ParOk st.sf) (i : Nat) : st.py i = (st.sf i).now.y + st.py (st.sf i).parent := by unfold St.py; rw [chain_step hp, List.map_cons, List.sum_cons]

/-- What the clips of some surfaces leave of a rectangle. -/
def St.cutBy (st : St) (r : R4) (i : Nat) : R4 := if (st.sf i).now.cut = true then meet r (mv (st.sf i).now.clip (st.px i) (st.py i)) else r

def St.cutN (st : St) (r : R4) (i : Nat) : R4 := if (st.sf i).now.cut = true then nrm (meet r (mv (st.sf i).now.clip (st.px i) (st.py i))) else r

/-- From the ground up. -/
def St.openL (st : St) : List Nat → R4
  | [] => (0, 0, st.w, st.h)
  | i :: l => st.cutBy (st.openL l) i

def St.buf (st : St) (i : Nat) : R4 := mv (0, 0, (st.sf i).now.w, (st.sf i).now.h) (st.px i) (st.py i)

/-- What is seen of a surface: it may be without points. -/
def St.seen (st : St) (i : Nat) : R4 := meet (st.openL (st.chain i)) (st.buf i)

theorem cutBy_comm (st : St) (r : R4) (i j : Nat) : st.cutBy (st.cutBy r i) j = st.cutBy (st.cutBy r j) i := by
  unfold St.cutBy
  split <;> split <;> first | rfl | (rw [meet_assoc, meet_assoc, meet_comm (mv (st.sf i).now.clip _ _)])

theorem cutBy_meet (st : St) (r q : R4) (i : Nat) : st.cutBy (meet r q) i = meet (st.cutBy r i) q := by
  unfold St.cutBy
  split
  · rw [meet_assoc, meet_comm q, meet_assoc]
  · rfl

theorem foldl_cut (st : St) (l : List Nat) : ∀ (r : R4) (i : Nat), l.foldl st.cutBy (st.cutBy r i) = st.cutBy (l.foldl st.cutBy r) i := by
  induction l with
  | nil => intro r i; rfl
  | cons j l ih => intro r i; rw [List.foldl_cons, List.foldl_cons, cutBy_comm, ih]

theorem foldl_meet (st : St) (l : List Nat) : ∀ (r q : R4), l.foldl st.cutBy (meet r q) = meet (l.foldl st.cutBy r) q := by
  induction l with
  | nil => intro r q; rfl
  | cons j l ih => intro r q; rw [List.foldl_cons, List.foldl_cons, cutBy_meet, ih]

theorem foldl_open (st : St) (l : List Nat) : l.foldl st.cutBy (0, 0, st.w, st.h) = st.openL l := by
  induction l with
  | nil => rfl
  | cons j l ih => rw [List.foldl_cons, foldl_cut, ih]; rfl

theorem foldl_nrm (st : St) (l : List Nat) : ∀ r : R4, l.foldl st.cutN (nrm r) = nrm (l.foldl st.cutBy r) := by
  induction l with
  | nil => intro r; rfl
  | cons j l ih =>
    intro r
    rw [List.foldl_cons, List.foldl_cons, ← ih]
    congr 1
    unfold St.cutN St.cutBy
    split
    · rw [nrm_meet]
    · rfl

theorem seen_ref (st : St) (i : Nat) : (st.chain i).foldl st.cutN (nrm (meet (0, 0, st.w, st.h) (st.buf i))) = nrm (st.seen i) := by
  rw [foldl_nrm, foldl_meet, foldl_open]
  rfl

/-! #### All that is on a surface, from the back to the front -/

def St.kids (st : St) (p : Int) : List Nat := st.order.filter fun i => decide ((st.sf i).parent = p)

def underF (st : St) : Nat → Int → List Nat
  | 0, _ => []
  | k + 1, p => (st.kids p).flatMap fun i => i :: underF st k i

def St.need (st : St) (p : Int) : Nat := st.sfs.length - (p + 1).toNat + 1

def St.dfs (st : St) (p : Int) : List Nat := underF st (st.need p) p

theorem kids_mem {st : St} {p : Int} {i : Nat} : i ∈ st.kids p ↔ i ∈ st.order ∧ (st.sf i).parent = p := by
  unfold St.kids
  rw [List.mem_filter]
  simp

structure LookOk (l : Look) : Prop where
  w : 0 ≤ l.w ∧ l.w ≤ 24
  h : 0 ≤ l.h ∧ l.h ≤ 24
  x : -1000 ≤ l.x ∧ l.x ≤ 1000
  y : -1000 ≤ l.y ∧ l.y ≤ 1000
  c0 : -2000 ≤ l.clip.1 ∧ l.clip.1 ≤ 2000
  c1 : -2000 ≤ l.clip.2.1 ∧ l.clip.2.1 ≤ 2000
  c2 : -2000 ≤ l.clip.2.2.1 ∧ l.clip.2.2.1 ≤ 2000
  c3 : -2000 ≤ l.clip.2.2.2 ∧ l.clip.2.2.2 ≤ 2000
  pix : ∀ k : Nat, (k : Int) < l.w * l.h → PixOk (l.pix k)

theorem look0_ok : LookOk look0 := ⟨by decide, by decide, by decide, by decide, by decide, by decide, by decide, by decide, fun k h => by simp [look0] at h; omega⟩

/-- What is so of all surfaces. -/
structure Wf (st : St) : Prop where
  par : ParOk st.sf
  nd : st.order.Nodup
  mem : ∀ i, i ∈ st.order ↔ i < st.sfs.length ∧ (st.sf i).alive = true
  up : ∀ i ∈ st.order, ∀ p : Nat, (st.sf i).parent = p → p ∈ st.order
  len : st.order.length ≤ 12
  made : st.sfs.length ≤ 60
  ww : 1 ≤ st.w ∧ st.w ≤ 24
  hh : 1 ≤ st.h ∧ st.h ≤ 24
  lk : ∀ i, LookOk (st.sf i).now ∧ LookOk (st.sf i).next

theorem Wf.lt {st : St} (h : Wf st) {i : Nat} (hi : i ∈ st.order) : i < st.sfs.length := ((h.mem i).1 hi).1

theorem underF_more {st : St} (hw : Wf st) : ∀ (k k2 : Nat) (p : Int), -1 ≤ p → st.need p ≤ k → st.need p ≤ k2 → underF st k p = underF st k2 p := by
  intro k
  induction k with
  | zero => intro k2 p _ h _; unfold St.need at h; omega
  | succ k ih =>
    intro k2 p hp h h2
    cases k2 with
    | zero => unfold St.need at h2; omega
    | succ k2 =>
      unfold underF
      have e : ∀ i ∈ st.kids p, (i :: underF st k i) = i :: underF st k2 i := by
        intro i hi
        obtain ⟨h3, h4⟩ := kids_mem.1 hi
        have h5 := hw.lt h3
        have h6 := hw.par i
        rw [h4] at h6
        unfold St.need at h h2
        rw [ih k2 i (by omega) (by unfold St.need; omega) (by unfold St.need; omega)]
      rw [List.flatMap_def, List.flatMap_def, List.map_congr_left e]

theorem dfs_step {st : St} (hw : Wf st) (p : Int) (_hp : -1 ≤ p) : st.dfs p = (st.kids p).flatMap fun i => i :: st.dfs i := by
  unfold St.dfs
  rw [show st.need p = st.sfs.length - (p + 1).toNat + 1 from rfl]
  conv => lhs; unfold underF
  have e : ∀ i ∈ st.kids p, (i :: underF st (st.sfs.length - (p + 1).toNat) i) = i :: underF st (st.need i) i := by
    intro i hi
    obtain ⟨h3, h4⟩ := kids_mem.1 hi
    have h5 := hw.lt h3
    have h6 := hw.par i
    rw [h4] at h6
    rw [underF_more hw _ (st.need i) i (by omega) (by unfold St.need; omega) (Nat.le_refl _)]
  rw [List.flatMap_def, List.flatMap_def, List.map_congr_left e]

theorem chain_mem_order {st : St} (hw : Wf st) : ∀ (n : Nat) (i : Nat), i < n → i ∈ st.order → ∀ j ∈ st.chain i, j ∈ st.order := by
  intro n
  induction n with
  | zero => intro i h; omega
  | succ n ih =>
    intro i h hi j hj
    rw [chain_step hw.par] at hj
    rcases List.mem_cons.1 hj with rfl | hj
    · exact hi
    · by_cases h0 : (st.sf i).parent < 0
      · rw [chain_neg st h0] at hj; cases hj
      · obtain ⟨p, hp⟩ : ∃ p : Nat, (st.sf i).parent = p := ⟨(st.sf i).parent.toNat, by omega⟩
        have h1 := hw.par i
        rw [hp] at hj h1
        exact ih p (by omega) (hw.up i hi p hp) j hj

/-- What is on a surface. -/
theorem dfs_mem {st : St} (hw : Wf st) : ∀ (n : Nat) (p : Nat), st.sfs.length ≤ p + n → ∀ i, i ∈ st.dfs p ↔ i ∈ st.order ∧ i ≠ p ∧ p ∈ st.chain i := by
  intro n
  induction n with
  | zero =>
    intro p hp i
    rw [dfs_step hw p (by omega), List.mem_flatMap]
    constructor
    · rintro ⟨k, hk, _⟩
      obtain ⟨h1, h2⟩ := kids_mem.1 hk
      have h3 := hw.lt h1
      have h4 := hw.par k
      omega
    · rintro ⟨h1, h2, h3⟩
      have h4 := chain_le hw.par (i + 1) i (by omega) p h3
      have h5 := hw.lt h1
      omega
  | succ n ih =>
    intro p hp i
    rw [dfs_step hw p (by omega), List.mem_flatMap]
    constructor
    · rintro ⟨k, hk, hi⟩
      obtain ⟨h1, h2⟩ := kids_mem.1 hk
      have h3 := hw.lt h1
      have h4 := hw.par k
      have h5 : p ∈ st.chain k := by
        rw [chain_step hw.par, h2]
        by_cases e : p = k
        · omega
        · rw [chain_step hw.par]; simp
      rcases List.mem_cons.1 hi with rfl | hi
      · exact ⟨h1, by omega, h5⟩
      · obtain ⟨g1, g2, g3⟩ := (ih k (by omega) i).1 hi
        have g4 := chain_le hw.par (i + 1) i (by omega) k g3
        refine ⟨g1, by omega, ?_⟩
        clear ih hi hp
        have key : ∀ (n : Nat) (j : Nat), j < n → k ∈ st.chain j → p ∈ st.chain j := by
          intro n
          induction n with
          | zero => intro j h; omega
          | succ n ihn =>
            intro j hj hk2
            rw [chain_step hw.par] at hk2 ⊢
            rcases List.mem_cons.1 hk2 with rfl | hk2
            · rw [chain_step hw.par] at h5; exact h5
            · by_cases h0 : (st.sf j).parent < 0
              · rw [chain_neg st h0] at hk2; cases hk2
              · obtain ⟨q, hq⟩ : ∃ q : Nat, (st.sf j).parent = q := ⟨(st.sf j).parent.toNat, by omega⟩
                have h9 := hw.par j
                rw [hq] at hk2 h9 ⊢
                exact List.mem_cons_of_mem _ (ihn q (by omega) hk2)
        exact key (i + 1) i (by omega) g3
    · rintro ⟨h1, h2, h3⟩
      -- the child of p on i's chain
      have key : ∀ (m : Nat) (j : Nat), j < m → j ∈ st.order → j ≠ p → p ∈ st.chain j → ∃ k ∈ st.kids p, j = k ∨ k ∈ st.chain j := by
        intro m
        induction m with
        | zero => intro j h; omega
        | succ m ihm =>
          intro j hj ho hne hc
          rw [chain_step hw.par] at hc
          rcases List.mem_cons.1 hc with rfl | hc
          · exact absurd rfl hne
          · by_cases h0 : (st.sf j).parent < 0
            · rw [chain_neg st h0] at hc; cases hc
            · obtain ⟨q, hq⟩ : ∃ q : Nat, (st.sf j).parent = q := ⟨(st.sf j).parent.toNat, by omega⟩
              have h9 := hw.par j
              by_cases e : q = p
              · subst e
                exact ⟨j, kids_mem.2 ⟨ho, hq⟩, .inl rfl⟩
              · rw [hq] at hc h9
                obtain ⟨k, hk, hk2⟩ := ihm q (by omega) (hw.up j ho q hq) e hc
                refine ⟨k, hk, .inr ?_⟩
                rw [chain_step hw.par, hq]
                rcases hk2 with rfl | hk2
                · rw [chain_step hw.par]; simp
                · exact List.mem_cons_of_mem _ hk2
      obtain ⟨k, hk, hk2⟩ := key (i + 1) i (by omega) h1 h2 h3
      refine ⟨k, hk, ?_⟩
      rcases hk2 with rfl | hk2
      · simp
      · by_cases e : i = k
        · subst e; simp
        · obtain ⟨g1, g2⟩ := kids_mem.1 hk
          have g3 := hw.par k
          rw [g2] at g3
          exact List.mem_cons_of_mem _ ((ih k (by omega) i).2 ⟨h1, e, hk2⟩)

theorem chain_two {st : St} (hw : Wf st) {p : Int} {a b : Nat} (ha : (st.sf a).parent = p) (hb : (st.sf b).parent = p) : ∀ (n : Nat) (i : Nat), i < n → a ∈ st.chain i → b ∈ st.chain i → a = b := by
  intro n
  induction n with
  | zero => intro i h; omega
  | succ n ih =>
    intro i hi h1 h2
    rw [chain_step hw.par] at h1 h2
    have h3 := hw.par i
    have low : ∀ (c : Nat), c ∈ st.chain (st.sf i).parent → (c : Int) ≤ (st.sf i).parent := fun c hc => chain_le hw.par i _ (by omega) c hc
    rcases List.mem_cons.1 h1 with rfl | h1
    · rcases List.mem_cons.1 h2 with rfl | h2
      · rfl
      · exfalso
        rw [ha] at h2 low
        have q1 := low b h2
        have q2 := hw.par b
        rw [hb] at q2
        omega
    · rcases List.mem_cons.1 h2 with rfl | h2
      · exfalso
        rw [hb] at h1 low
        have q1 := low a h1
        have q2 := hw.par a
        rw [ha] at q2
        omega
      · by_cases h0 : (st.sf i).parent < 0
        · rw [chain_neg st h0] at h1; cases h1
        · obtain ⟨q, hq⟩ : ∃ q : Nat, (st.sf i).parent = q := ⟨(st.sf i).parent.toNat, by omega⟩
          rw [hq] at h1 h2 h3
          exact ih q (by omega) h1 h2

theorem dfs_nodup {st : St} (hw : Wf st) : ∀ (n : Nat) (p : Nat), st.sfs.length ≤ p + n → (st.dfs p).Nodup := by
  intro n
  induction n with
  | zero =>
    intro p hp
    have : st.dfs p = [] := by
      rw [List.eq_nil_iff_forall_not_mem]
      intro i hi
      obtain ⟨h1, h2, h3⟩ := (dfs_mem hw 0 p hp i).1 hi
      have h4 := chain_le hw.par (i + 1) i (by omega) p h3
      have h5 := hw.lt h1
      omega
    rw [this]
    exact List.nodup_nil
  | succ n ih =>
    intro p hp
    rw [dfs_step hw p (by omega)]
    unfold List.Nodup
    rw [List.pairwise_flatMap]
    constructor
    · intro i hi
      obtain ⟨g1, g2⟩ := kids_mem.1 hi
      have g3 := hw.par i
      rw [g2] at g3
      refine List.nodup_cons.2 ⟨fun h => ?_, ih i (by omega)⟩
      exact ((dfs_mem hw n i (by omega) i).1 h).2.1 rfl
    · have hk : (st.kids p).Nodup := hw.nd.filter _
      refine (List.Pairwise.and_mem.1 hk).imp ?_
      rintro a b ⟨ha, hb, hab⟩ x hx y hy rfl
      obtain ⟨ga1, ga2⟩ := kids_mem.1 ha
      obtain ⟨gb1, gb2⟩ := kids_mem.1 hb
      have qa := hw.par a
      have qb := hw.par b
      rw [ga2] at qa
      rw [gb2] at qb
      have ca : a ∈ st.chain x := by
        rcases List.mem_cons.1 hx with rfl | hx
        · rw [chain_step hw.par]; simp
        · exact ((dfs_mem hw n a (by omega) x).1 hx).2.2
      have cb : b ∈ st.chain x := by
        rcases List.mem_cons.1 hy with rfl | hy
        · rw [chain_step hw.par]; simp
        · exact ((dfs_mem hw n b (by omega) x).1 hy).2.2
      exact hab (chain_two hw ga2 gb2 (x + 1) x (by omega) ca cb)

/-- Those that go with a surface. -/
def St.gone (st : St) (id : Nat) : List Nat := st.order.filter fun o => (st.chain o).contains id

theorem gone_mem {st : St} {id i : Nat} : i ∈ st.gone id ↔ i ∈ st.order ∧ id ∈ st.chain i := by
  unfold St.gone
  rw [List.mem_filter]
  simp

theorem gone_perm {st : St} (hw : Wf st) (id : Nat) (hid : id ∈ st.order) : (id :: st.dfs id).Perm (st.gone id) := by
  have h1 : (id :: st.dfs id).Nodup := by
    rw [List.nodup_cons]
    exact ⟨fun h => ((dfs_mem hw st.sfs.length id (by omega) id).1 h).2.1 rfl, dfs_nodup hw st.sfs.length id (by omega)⟩
  have h2 : (st.gone id).Nodup := hw.nd.filter _
  rw [List.perm_ext_iff_of_nodup h1 h2]
  intro a
  rw [List.mem_cons, dfs_mem hw st.sfs.length id (by omega), gone_mem]
  constructor
  · rintro (rfl | ⟨a1, _, a3⟩)
    · exact ⟨hid, by rw [chain_step hw.par]; simp⟩
    · exact ⟨a1, a3⟩
  · rintro ⟨a1, a2⟩
    by_cases e : a = id
    · exact .inl e
    · exact .inr ⟨a1, e, a2⟩

end Go.Proofs.YtofinpocigbbeaaGreat
