import Derived.Test.YtofinpocigbbeaaGreatKbr
import Derived.Test.YtofinpocigbbeaaGreatKbp
import Derived.Test.YtofinpocigbbeaaGreatKbs
import Derived.Test.YtofinpocigbbeaaGreatKag
import Derived.Test.YtofinpocigbbeaaGreatKbo
import Derived.Deep.RegionLaw
import Derived.Deep.RegionHeld3
namespace Go.Proofs.YtofinpocigbbeaaGreat
open Go.RowKit

/-! ### Where a picture stays the same -/

theorem mix_full {s : Int} (d : Int) (h : 0 ≤ s ∧ s ≤ 255) : mix s d 255 = s := by
  unfold mix
  rw [show d * (255 - 255) = 0 by simp]
  omega

theorem over_full {s : R4} (hs : PixOk s) (ha : s.2.2.2 = 255) (d : R4) : overR s d = s := by
  obtain ⟨a, b, c, e⟩ := s
  unfold PixOk at hs
  simp only at hs ha
  subst ha
  unfold overR
  simp only
  rw [mix_full _ (by omega), mix_full _ (by omega), mix_full _ (by omega), mix_full _ (by omega)]

/-- What hides lets nothing through. -/
def KeptOk (st : St) : Prop := ∀ i k, (st.sf i).kept k = true → ((st.sf i).now.pix k).2.2.2 = 255

theorem fold_fst (st : St) (x y : Int) (U : List Nat) : ∀ a b : R4 × Int, a.1 = b.1 → (U.foldl (st.lay1 x y) a).1 = (U.foldl (st.lay1 x y) b).1 := by
  induction U with
  | nil => intro a b h; exact h
  | cons i U ih =>
    intro a b h
    rw [List.foldl_cons, List.foldl_cons]
    refine ih _ _ ?_
    unfold St.lay1
    split
    · simp only; rw [h]
    · exact h

theorem fold_cnt (st : St) (x y : Int) (U : List Nat) : ∀ a : R4 × Int, (U.foldl (st.lay1 x y) a).2 = a.2 + ((U.filter fun i => inR (st.seen i) x y).length : Int) := by
  induction U with
  | nil => intro a; simp
  | cons i U ih =>
    intro a
    rw [List.foldl_cons, ih, List.filter_cons]
    unfold St.lay1
    split
    · rw [List.length_cons]; simp only; omega
    · rfl

theorem lay_hides {st : St} (hw : Wf st) (hk : KeptOk st) {x y : Int} {i : Nat} (h : st.hidesAt x y i = true) (a b : R4 × Int) : (st.lay1 x y a i).1 = (st.lay1 x y b i).1 := by
  unfold St.hidesAt at h
  rw [Bool.and_eq_true] at h
  have hp := (hw.lk i).1.pix (st.ixAt i x y) (by
    have h1 := ixAt_lt hw h.1
    have lk := (hw.lk i).1
    unfold Look.n at h1
    have := Int.mul_nonneg lk.w.1 lk.h.1
    omega)
  unfold St.lay1
  rw [if_pos h.1, if_pos h.1]
  simp only
  rw [over_full hp (hk i _ h.2), over_full hp (hk i _ h.2)]

theorem cutAt_hit (p : Nat → Bool) (L : List Nat) : ∀ k, cutAt p L k = 0 ∨ p (L.getD (cutAt p L k) 0) = true
  | 0 => .inl rfl
  | k + 1 => by
    unfold cutAt
    split
    · rename_i h; exact .inr h
    · exact cutAt_hit p L k

/-- Hints change no picture. -/
theorem picL_fst {st : St} (hw : Wf st) (hk : KeptOk st) (L : List Nat) (x y : Int) : (st.picL L x y).1 = (st.picU x y L).1 := by
  unfold St.picL St.unh St.picU
  obtain ⟨c, hc⟩ : ∃ c, cutAt (st.hidesAt x y) L (L.length - 1) = c := ⟨_, rfl⟩
  have hle := cutAt_le (st.hidesAt x y) L (L.length - 1)
  have hh := cutAt_hit (st.hidesAt x y) L (L.length - 1)
  rw [hc] at hle hh ⊢
  rcases hh with h | h
  · subst h; rfl
  · by_cases hL : c < L.length
    · rw [List.getD_eq_getElem?_getD, List.getElem?_eq_getElem hL] at h
      conv => rhs; rw [← List.take_append_drop c L]
      rw [List.foldl_append, List.drop_eq_getElem_cons hL, List.foldl_cons, List.foldl_cons]
      exact fold_fst st x y _ _ _ (lay_hides hw hk h _ _)
    · have : L = [] := List.length_eq_zero_iff.1 (by omega)
      subst this
      simp

/-- They only spare. -/
theorem picL_snd (st : St) (L : List Nat) (x y : Int) : (st.picL L x y).2 ≤ (st.picU x y L).2 := by
  unfold St.picL St.unh St.picU
  rw [fold_cnt, fold_cnt]
  have h : ∀ c, ((L.drop c).filter fun i => inR (st.seen i) x y).length ≤ (L.filter fun i => inR (st.seen i) x y).length := fun c => by
    conv => rhs; rw [← List.take_append_drop c L]
    rw [List.filter_append, List.length_append]
    omega
  have := h (cutAt (st.hidesAt x y) L (L.length - 1))
  omega

/-! #### The tree -/

theorem mem_chain_up {st : St} (hw : Wf st) (T : Nat → Bool) (up : ∀ i ∈ st.order, ∀ p : Nat, (st.sf i).parent = p → T p = true → T i = true) {i : Nat} (hT : T i = true) : ∀ (n j : Nat), j < n → j ∈ st.order → i ∈ st.chain j → T j = true := by
  intro n
  induction n with
  | zero => intro j h; omega
  | succ n ih =>
    intro j hn hj hi
    rw [chain_step hw.par] at hi
    rcases List.mem_cons.1 hi with rfl | hi
    · exact hT
    · by_cases h0 : (st.sf j).parent < 0
      · rw [chain_neg st h0] at hi; cases hi
      · obtain ⟨p, hp⟩ : ∃ p : Nat, (st.sf j).parent = p := ⟨(st.sf j).parent.toNat, by omega⟩
        have := hw.par j
        rw [hp] at hi
        exact up j hj p hp (ih p (by omega) (hw.up j hj p hp) hi)

theorem flatMap_sieve {L : List Nat} {f g : Nat → List Nat} {P : Nat → Bool} (h1 : ∀ i ∈ L, P i = false → f i = []) (h2 : ∀ i ∈ L, P i = true → f i = g i) : L.flatMap f = (L.filter P).flatMap g := by
  induction L with
  | nil => rfl
  | cons i L ih =>
    have ih' := ih (fun j hj => h1 j (List.mem_cons_of_mem _ hj)) fun j hj => h2 j (List.mem_cons_of_mem _ hj)
    rw [List.flatMap_cons, List.filter_cons, ih']
    cases hP : P i with
    | false => rw [h1 i (by simp) hP]; simp
    | true => rw [h2 i (by simp) hP]; simp

theorem dfs_sieve {st : St} (hw : Wf st) (T : Nat → Bool) (up : ∀ i ∈ st.order, ∀ p : Nat, (st.sf i).parent = p → T p = true → T i = true) (p : Int) (hp : -1 ≤ p) : (st.dfs p).filter (fun i => !T i) = ((st.kids p).filter fun i => !T i).flatMap fun (i : Nat) => i :: (st.dfs i).filter fun (i : Nat) => !T i := by
  rw [dfs_step hw p hp, List.filter_flatMap]
  refine flatMap_sieve (fun i hi hT => ?_) fun i hi hT => ?_
  · simp at hT
    rw [List.filter_cons, if_neg (by simp [hT]), List.filter_eq_nil_iff]
    intro j hj
    have hm := (dfs_mem hw st.sfs.length i (by omega) j).1 hj
    have := mem_chain_up hw T up hT (j + 1) j (by omega) hm.1 hm.2.2
    simp [this]
  · rw [List.filter_cons, if_pos hT]

theorem dfs_two {st st' : St} (hw : Wf st) (hw' : Wf st') (T : Nat → Bool) (up : ∀ i ∈ st.order, ∀ p : Nat, (st.sf i).parent = p → T p = true → T i = true) (up' : ∀ i ∈ st'.order, ∀ p : Nat, (st'.sf i).parent = p → T p = true → T i = true)
    (hk : ∀ p : Int, -1 ≤ p → (∀ q : Nat, p = q → T q = false) → (st'.kids p).filter (fun i => !T i) = (st.kids p).filter fun i => !T i) :
    ∀ (n : Nat) (p : Int), -1 ≤ p → (st.sfs.length : Int) ≤ p + n → (∀ q : Nat, p = q → T q = false) → (st'.dfs p).filter (fun i => !T i) = (st.dfs p).filter fun i => !T i := by
  intro n
  induction n with
  | zero =>
    intro p hp hn hT
    rw [dfs_sieve hw T up p hp, dfs_sieve hw' T up' p hp, hk p hp hT]
    have e : (st.kids p) = [] := List.eq_nil_iff_forall_not_mem.2 fun i hi => by
      obtain ⟨h3, h4⟩ := kids_mem.1 hi
      have h5 := hw.lt h3
      have h6 := hw.par i
      omega
    rw [e]
    rfl
  | succ n ih =>
    intro p hp hn hT
    rw [dfs_sieve hw T up p hp, dfs_sieve hw' T up' p hp, hk p hp hT, List.flatMap_def, List.flatMap_def]
    congr 1
    refine List.map_congr_left fun i hi => ?_
    rw [List.mem_filter] at hi
    obtain ⟨h3, h4⟩ := kids_mem.1 hi.1
    have h6 := hw.par i
    rw [ih i (by omega) (by omega) fun q hq => ?_]
    have : i = q := by omega
    subst this
    simpa using hi.2

theorem foldl_same {α β : Type} {f g : α → β → α} : ∀ (l : List β) (a : α), (∀ b ∈ l, ∀ a, f a b = g a b) → l.foldl f a = l.foldl g a
  | [], _, _ => rfl
  | b :: l, a, h => by
    rw [List.foldl_cons, List.foldl_cons, h b (by simp) a]
    exact foldl_same l _ fun c hc => h c (List.mem_cons_of_mem _ hc)

theorem inR_has {r : R4} {x y : Int} (h : inR r x y = true) : has4 r = true := by
  unfold inR at h
  unfold has4
  have h := of_decide_eq_true h
  exact decide_eq_true (by omega)

/-- Only what has the point counts. -/
theorem picU_pts (st : St) (x y : Int) : st.picU x y (st.visAll (-1)) = st.picU x y ((st.dfs (-1)).filter fun i => inR (st.seen i) x y) := by
  have key : ∀ L : List Nat, st.picU x y L = st.picU x y (L.filter fun i => inR (st.seen i) x y) := fun L => by
    unfold St.picU
    rw [List.foldl_filter]
    refine foldl_same L _ fun i _ a => ?_
    unfold St.lay1
    split <;> rfl
  rw [key]
  unfold St.visAll St.visP St.vis
  rw [if_pos rfl, List.nil_append, List.filter_filter]
  congr 1
  refine List.filter_congr fun i _ => ?_
  cases h : inR (st.seen i) x y with
  | false => rfl
  | true => rw [inR_has h]; rfl

theorem pic_same {st st' : St} (hw : Wf st) (hw' : Wf st') (T : Nat → Bool) (up : ∀ i ∈ st.order, ∀ p : Nat, (st.sf i).parent = p → T p = true → T i = true) (up' : ∀ i ∈ st'.order, ∀ p : Nat, (st'.sf i).parent = p → T p = true → T i = true)
    (hk : ∀ p : Int, -1 ≤ p → (∀ q : Nat, p = q → T q = false) → (st'.kids p).filter (fun i => !T i) = (st.kids p).filter fun i => !T i) (x y : Int)
    (hin : ∀ i ∈ st.order, T i = true → inR (st.seen i) x y = false) (hin' : ∀ i ∈ st'.order, T i = true → inR (st'.seen i) x y = false)
    (hs : ∀ i ∈ st.order, T i = false → inR (st'.seen i) x y = inR (st.seen i) x y ∧ (inR (st.seen i) x y = true → (st'.sf i).now.pix (st'.ixAt i x y) = (st.sf i).now.pix (st.ixAt i x y))) :
    st'.picU x y (st'.visAll (-1)) = st.picU x y (st.visAll (-1)) := by
  rw [picU_pts, picU_pts]
  have hd := dfs_two hw hw' T up up' hk (st.sfs.length + 1) (-1) (by omega) (by omega) fun q hq => by omega
  have e : (st'.dfs (-1)).filter (fun i => inR (st'.seen i) x y) = (st.dfs (-1)).filter fun i => inR (st.seen i) x y := by
    have a1 : (st'.dfs (-1)).filter (fun i => inR (st'.seen i) x y) = ((st'.dfs (-1)).filter fun i => !T i).filter fun i => inR (st'.seen i) x y := by
      rw [List.filter_filter]
      refine List.filter_congr fun i hi => ?_
      cases hT : T i with
      | false => simp
      | true => rw [hin' i (dfs_sub hw' (by omega) hi) hT]; rfl
    have a2 : (st.dfs (-1)).filter (fun i => inR (st.seen i) x y) = ((st.dfs (-1)).filter fun i => !T i).filter fun i => inR (st.seen i) x y := by
      rw [List.filter_filter]
      refine List.filter_congr fun i hi => ?_
      cases hT : T i with
      | false => simp
      | true => rw [hin i (dfs_sub hw (by omega) hi) hT]; rfl
    rw [a1, a2, hd]
    refine List.filter_congr fun i hi => ?_
    rw [List.mem_filter] at hi
    exact (hs i (dfs_sub hw (by omega) hi.1) (by simpa using hi.2)).1
  rw [e]
  unfold St.picU
  refine foldl_same _ _ fun i hi a => ?_
  rw [List.mem_filter] at hi
  have ho := dfs_sub hw (by omega) hi.1
  have hT : T i = false := by
    cases h : T i with
    | false => rfl
    | true => have := hin i ho h; rw [this] at hi; exact absurd hi.2 (by simp)
  obtain ⟨q1, q2⟩ := hs i ho hT
  unfold St.lay1
  rw [q1, if_pos hi.2, if_pos hi.2, q2 hi.2]

/-! #### What a surface is seen of -/

theorem chain_trans {st : St} (hp : ParOk st.sf) : ∀ (n j : Nat), j < n → ∀ k ∈ st.chain j, ∀ m ∈ st.chain k, m ∈ st.chain j := by
  intro n
  induction n with
  | zero => intro j h; omega
  | succ n ih =>
    intro j hn k hk m hm
    rw [chain_step hp] at hk
    rcases List.mem_cons.1 hk with rfl | hk
    · exact hm
    · by_cases h0 : (st.sf j).parent < 0
      · rw [chain_neg st h0] at hk; cases hk
      · obtain ⟨p, hpp⟩ : ∃ p : Nat, (st.sf j).parent = p := ⟨(st.sf j).parent.toNat, by omega⟩
        have := hp j
        rw [chain_step hp]
        rw [hpp] at hk ⊢
        exact List.mem_cons_of_mem _ (ih p (by omega) k hk m hm)

theorem chain_local {st st' : St} (hp : ParOk st.sf) (hp' : ParOk st'.sf) : ∀ (n j : Nat), j < n → (∀ k, k ≤ j → (st'.sf k).parent = (st.sf k).parent) → st'.chain j = st.chain j := by
  intro n
  induction n with
  | zero => intro j h; omega
  | succ n ih =>
    intro j hn h
    rw [chain_step hp, chain_step hp', h j (Nat.le_refl _)]
    by_cases h0 : (st.sf j).parent < 0
    · rw [chain_neg st h0, chain_neg st' h0]
    · obtain ⟨p, hpp⟩ : ∃ p : Nat, (st.sf j).parent = p := ⟨(st.sf j).parent.toNat, by omega⟩
      have := hp j
      rw [hpp, ih p (by omega) fun k hk => h k (by omega)]

/-- The same outline. -/
structure OlS (a b : Look) : Prop where
  w : a.w = b.w
  h : a.h = b.h
  x : a.x = b.x
  y : a.y = b.y
  cut : a.cut = b.cut
  clip : a.clip = b.clip

theorem OlS.of {a b : Look} (h : a = b) : OlS a b := by subst h; exact ⟨rfl, rfl, rfl, rfl, rfl, rfl⟩

theorem far_same {st st' : St} (hp : ParOk st.sf) (hp' : ParOk st'.sf) (hw : st'.w = st.w) (hh : st'.h = st.h) (j : Nat) (hpar : ∀ k, k ≤ j → (st'.sf k).parent = (st.sf k).parent) (hn : ∀ k ∈ st.chain j, OlS (st'.sf k).now (st.sf k).now) :
    st'.px j = st.px j ∧ st'.py j = st.py j ∧ st'.seen j = st.seen j ∧ ∀ x y, st'.ixAt j x y = st.ixAt j x y := by
  have hle : ∀ k ∈ st.chain j, k ≤ j := fun k hk => by have := chain_le hp (j + 1) j (by omega) k hk; omega
  have hc : ∀ k ∈ st.chain j, st'.chain k = st.chain k := fun k hk => chain_local hp hp' (k + 1) k (by omega) fun m hm => hpar m (Nat.le_trans hm (hle k hk))
  have hpx : ∀ k ∈ st.chain j, st'.px k = st.px k ∧ st'.py k = st.py k := fun k hk => by
    unfold St.px St.py
    rw [hc k hk]
    constructor
    · congr 1
      exact List.map_congr_left fun m hm => (hn m (chain_trans hp (j + 1) j (by omega) k hk m hm)).x
    · congr 1
      exact List.map_congr_left fun m hm => (hn m (chain_trans hp (j + 1) j (by omega) k hk m hm)).y
  have hjj : j ∈ st.chain j := by rw [chain_step hp]; simp
  have ho : ∀ l : List Nat, (∀ k ∈ l, k ∈ st.chain j) → st'.openL l = st.openL l := by
    intro l
    induction l with
    | nil => intro _; unfold St.openL; rw [hw, hh]
    | cons k l ih =>
      intro h
      unfold St.openL St.cutBy
      have hk := h k (by simp)
      rw [ih fun m hm => h m (List.mem_cons_of_mem _ hm), (hn k hk).cut, (hn k hk).clip, (hpx k hk).1, (hpx k hk).2]
  refine ⟨(hpx j hjj).1, (hpx j hjj).2, ?_, fun x y => ?_⟩
  · unfold St.seen St.buf
    rw [hc j hjj, ho _ fun k hk => hk, (hn j hjj).w, (hn j hjj).h, (hpx j hjj).1, (hpx j hjj).2]
  · unfold St.ixAt
    rw [(hn j hjj).w, (hpx j hjj).1, (hpx j hjj).2]

/-! #### The smallest rectangle -/

theorem hull_l {p q : R4} {x y : Int} (h : inR p x y = true) : inR (hull p q) x y = true := by
  unfold inR at *
  have h := of_decide_eq_true h
  refine decide_eq_true ?_
  unfold hull pts
  rw [if_pos (decide_eq_true (by omega))]
  split
  · simp only; omega
  · exact h

theorem hull_r {p q : R4} {x y : Int} (h : inR q x y = true) : inR (hull p q) x y = true := by
  unfold inR at *
  have h := of_decide_eq_true h
  refine decide_eq_true ?_
  unfold hull pts
  split
  · rw [if_pos (decide_eq_true (by omega))]
    simp only; omega
  · exact h

theorem foldTo_mono {step : Nat → R4 → R4} {x y : Int} (hm : ∀ m h, inR h x y = true → inR (step m h) x y = true) : ∀ (m : Nat) (h : R4), inR h x y = true → inR (foldTo step m h) x y = true
  | 0, _, hh => hh
  | m + 1, h, hh => hm m _ (foldTo_mono hm m h hh)

theorem foldTo_hit {step : Nat → R4 → R4} {x y : Int} (hm : ∀ m h, inR h x y = true → inR (step m h) x y = true) {k : Nat} (hk : ∀ h, inR (step k h) x y = true) : ∀ (m : Nat) (h : R4), k < m → inR (foldTo step m h) x y = true
  | 0, _, hkm => by omega
  | m + 1, h, hkm => by
    unfold foldTo
    by_cases e : k = m
    · subst e; exact hk _
    · exact hm m _ (foldTo_hit hm hk m h (by omega))

theorem otherIn_has {p : Int → Int → Bool} {R : R4} {x y : Int} (hp : p x y = true) (hR : inR R x y = true) : inR (otherIn p R) x y = true := by
  unfold inR at hR
  have hR := of_decide_eq_true hR
  have hrow : ∀ (y' : Int) (m : Nat) (h : R4), inR h x y = true → inR (otherRow p R.1 y' m h) x y = true := fun y' m h hh => by
    unfold otherRow
    refine foldTo_mono (fun a h hh => ?_) m h hh
    split
    · exact hull_l hh
    · exact hh
  unfold otherIn otherTo
  refine foldTo_hit (fun m h hh => hrow _ _ _ hh) (k := (y - R.2.1).toNat) (fun h => ?_) _ _ (by omega)
  unfold otherRow
  refine foldTo_hit (fun a h hh => ?_) (k := (x - R.1).toNat) (fun h => ?_) _ _ (by omega)
  · split
    · exact hull_l hh
    · exact hh
  · have e1 : R.1 + ((x - R.1).toNat : Int) = x := by omega
    have e2 : R.2.1 + ((y - R.2.1).toNat : Int) = y := by omega
    rw [e1, e2, if_pos hp]
    refine hull_r ?_
    unfold inR
    exact decide_eq_true (by simp only; omega)

/-! #### The calls -/

theorem rsL_drop (P : Nat → Bool) (id sib : Nat) (above : Bool) (hP : P id = false) : ∀ l : List Nat, (rsL l id sib above).filter P = l.filter P := by
  intro l
  induction l with
  | nil => rfl
  | cons o l ih =>
    unfold rsL at *
    rw [List.flatMap_cons, List.filter_append, ih, List.filter_cons]
    by_cases e : o = id
    · subst e
      cases above <;> by_cases e2 : o = sib <;> simp [hP, e2]
      all_goals (subst e2; simp [hP])
    · cases above <;> by_cases e2 : o = sib <;> cases hPo : P o <;> simp [hP, e2, e, hPo]
      all_goals (subst e2; simp_all)

theorem put_back {L L' : List Nat} (hn : L.Nodup) (hn' : L'.Nodup) {i : Nat} (hi : i ∈ L) (hi' : i ∈ L') (hx : L'.idxOf i = L.idxOf i) (hf : L'.filter (fun j => decide (j ≠ i)) = L.filter fun j => decide (j ≠ i)) : L' = L := by
  have key : ∀ M : List Nat, M.Nodup → i ∈ M → ∃ A B, M = A ++ i :: B ∧ A.length = M.idxOf i ∧ M.filter (fun j => decide (j ≠ i)) = A ++ B := by
    intro M hM hiM
    have hl := List.idxOf_lt_length_of_mem hiM
    have hg : M[M.idxOf i] = i := List.getElem_idxOf hl
    have e : M = M.take (M.idxOf i) ++ i :: M.drop (M.idxOf i + 1) := by
      conv => lhs; rw [← List.take_append_drop (M.idxOf i) M, List.drop_eq_getElem_cons hl, hg]
    refine ⟨_, _, e, by rw [List.length_take]; omega, ?_⟩
    have hM2 := hM
    rw [e, List.nodup_append, List.nodup_cons] at hM2
    obtain ⟨_, ⟨n1, _⟩, n2⟩ := hM2
    conv => lhs; rw [e]
    rw [List.filter_append, List.filter_cons, if_neg (by simp), List.filter_eq_self.2, List.filter_eq_self.2]
    · intro a ha
      simp only [decide_eq_true_eq]
      exact fun q => n1 (q ▸ ha)
    · intro a ha
      simp only [decide_eq_true_eq]
      exact n2 a ha i (by simp)
  obtain ⟨A, B, e1, e2, e3⟩ := key L hn hi
  obtain ⟨A', B', e1', e2', e3'⟩ := key L' hn' hi'
  rw [e3, e3'] at hf
  obtain ⟨q1, q2⟩ := List.append_inj hf (by rw [e2, e2', hx])
  rw [e1, e1', q1, q2]

theorem olEq_iff {l l' : Look} {k k' : Int} (h : olEq l k l' k' = true) : OlS l l' ∧ k = k' := by
  unfold olEq at h
  simp only [Bool.and_eq_true, beq_iff_eq] at h
  obtain ⟨h1, h2, h3, h4, ⟨c1, c2, c3, c4⟩, h5, h6⟩ := h
  refine ⟨⟨h1, h2, h3, h4, h5, ?_⟩, h6⟩
  ext <;> assumption

theorem hasB_mem {l : List R4} {x y : Int} (h : hasB l x y = false) {r : R4} (hr : r ∈ l) : inR r x y = false := by
  unfold hasB at h
  rw [List.any_eq_false] at h
  simpa using h r hr

theorem mem_visAll {st : St} (hw : Wf st) {i j : Nat} (hj : j ∈ st.order) (hc : i ∈ st.chain j) (hh : has4 (st.seen j) = true) : j ∈ st.visAll i := by
  rw [visAll_nat]
  unfold St.vis
  rw [List.mem_filter]
  refine ⟨?_, hh⟩
  by_cases e : j = i
  · subst e; simp
  · exact List.mem_cons_of_mem _ ((dfs_mem hw st.sfs.length i (by omega) j).2 ⟨hj, e, hc⟩)

theorem out_vis {st : St} (hw : Wf st) {i j : Nat} (hj : j ∈ st.order) (hc : i ∈ st.chain j) {x y : Int} (ho : hasB ((st.visAll i).map st.seen) x y = false) : inR (st.seen j) x y = false := by
  cases h : inR (st.seen j) x y with
  | false => rfl
  | true =>
    have := hasB_mem ho (List.mem_map.2 ⟨j, mem_visAll hw hj hc (inR_has h), rfl⟩)
    rw [h] at this
    cases this

theorem up_chain {st : St} (hw : Wf st) (i : Nat) : ∀ j ∈ st.order, ∀ p : Nat, (st.sf j).parent = p → (st.chain p).contains i = true → (st.chain j).contains i = true := by
  intro j _ p hp h
  rw [chain_step hw.par, hp]
  simp at h ⊢
  exact .inr h

theorem hasB_app (a b : List R4) (x y : Int) : hasB (a ++ b) x y = (hasB a x y || hasB b x y) := by unfold hasB; rw [List.any_append]

/-- Commit: the picture is another one only where it is damaged. -/
theorem cm_pic {st : St} (hf : Fine st) {i : Nat} (hi : i ∈ st.order) (x y : Int) (ho : hasB (st.cmDam i) x y = false) : (cm st i).picU x y ((cm st i).visAll (-1)) = st.picU x y (st.visAll (-1)) := by
  have hw := hf.wf
  have hil := hw.lt hi
  have hw' := cm_wf hw hf.sib hi
  have hpar : ∀ k, ((cm st i).sf k).parent = (st.sf k).parent := fun k => cm_par st i k hil
  have hch : ∀ j : Nat, (cm st i).chain j = st.chain j := fun j => chain_local hw.par hw'.par (j + 1) j (by omega) fun k _ => hpar k
  have hord : ∀ j, j ∈ (cm st i).order ↔ j ∈ st.order := fun j => (cm_perm hw hf.sib hi).mem_iff
  have hnow : ∀ k, k ≠ i → ((cm st i).sf k).now = (st.sf k).now := fun k hk => by rw [cm_sf st i k hil, if_neg hk]
  unfold St.cmDam at ho
  split at ho
  · rw [hasB_app, Bool.or_eq_false_iff] at ho
    refine pic_same hw hw' (fun j => (st.chain j).contains i) (up_chain hw i) (fun j hj p hp => ?_) (fun p hp hT => ?_) x y (fun j hj hT => ?_) (fun j hj hT => ?_) fun j hj hT => ?_
    · have := up_chain hw' i j hj p hp
      rw [hch, hch] at this
      exact this
    · rw [cm_kids hw hf.sib hi]
      split
      · refine rsL_drop _ _ _ _ ?_ _
        rw [chain_step hw.par]
        simp
      · rfl
    · exact out_vis hw hj (by simpa using hT) ho.1
    · exact out_vis hw' hj (by rw [hch]; simpa using hT) ho.2
    · have hni : i ∉ st.chain j := by simpa using hT
      obtain ⟨_, _, q3, q4⟩ := far_same (st' := cm st i) hw.par hw'.par rfl rfl j (fun k _ => hpar k) fun k hk => OlS.of (hnow k fun e => hni (e ▸ hk))
      have hji : j ≠ i := fun e => hni (by rw [e, chain_step hw.par]; simp)
      exact ⟨by rw [q3], fun _ => by rw [q4, hnow j hji]⟩
  · rename_i hm
    unfold St.moved at hm
    simp only [Bool.not_eq_true', Bool.not_eq_false] at hm
    obtain ⟨hol, hpos⟩ := olEq_iff hm
    have hno : ∀ k, OlS ((cm st i).sf k).now (st.sf k).now := fun k => by
      by_cases e : k = i
      · subst e; exact hol
      · exact OlS.of (hnow k e)
    have hfar := fun j => far_same (st' := cm st i) hw.par hw'.par rfl rfl j (fun k _ => hpar k) fun k _ => hno k
    refine pic_same hw hw' (fun _ => false) (fun _ _ _ _ h => by cases h) (fun _ _ _ _ h => by cases h) (fun p hp hT => ?_) x y (fun _ _ h => by cases h) (fun _ _ h => by cases h) fun j hj _ => ?_
    · congr 1
      by_cases hq : st.puts i = true ∧ (st.sf i).parent = p
      · obtain ⟨hq1, rfl⟩ := hq
        have hk : i ∈ st.kids (st.sf i).parent := kids_mem.2 ⟨hi, rfl⟩
        have hk' : i ∈ (cm st i).kids (st.sf i).parent := kids_mem.2 ⟨(hord i).2 hi, hpar i⟩
        refine put_back (hw.nd.filter _) (hw'.nd.filter _) hk hk' ?_ ?_
        · unfold St.pos at hpos
          rw [hpar] at hpos
          omega
        · rw [cm_kids hw hf.sib hi, if_pos ⟨hq1, rfl⟩]
          exact rsL_drop _ _ _ _ (by simp) _
      · rw [cm_kids hw hf.sib hi, if_neg hq]
    · obtain ⟨_, _, q3, q4⟩ := hfar j
      refine ⟨by rw [q3], fun hin => ?_⟩
      rw [q4]
      by_cases e : j = i
      · subst e
        have h1 := hasB_mem ho (List.mem_singleton.2 rfl)
        by_cases hd : (cm st j).otherAt j (st.sf j).now.pix x y = true
        · have := otherIn_has hd (R := (cm st j).seen j) (by rw [q3]; exact hin)
          rw [h1] at this
          cases this
        · unfold St.otherAt at hd
          rw [diffP_iff] at hd
          simp only [Classical.not_not] at hd
          rw [q4] at hd
          exact hd.symm
      · rw [hnow j e]

/-- Destroy. -/
theorem rm_pic {st : St} (hf : Fine st) (i : Nat) (x y : Int) (ho : hasB ((st.visAll i).map st.seen) x y = false) : (rm st i).picU x y ((rm st i).visAll (-1)) = st.picU x y (st.visAll (-1)) := by
  have hw := hf.wf
  have hw' := rm_wf hw i
  have hnow : ∀ k, ((rm st i).sf k).now = (st.sf k).now := fun k => by rw [rm_sf st hw]; split <;> rfl
  have hpar : ∀ k, ((rm st i).sf k).parent = (st.sf k).parent := fun k => rm_par st hw i k
  have hch : ∀ j : Nat, (rm st i).chain j = st.chain j := fun j => chain_local hw.par hw'.par (j + 1) j (by omega) fun k _ => hpar k
  refine pic_same hw hw' (fun j => (st.chain j).contains i) (up_chain hw i) (fun j hj p hp => ?_) (fun p hp hT => ?_) x y (fun j hj hT => ?_) (fun j hj hT => ?_) fun j hj hT => ?_
  · have := up_chain hw' i j hj p hp
    rw [hch, hch] at this
    exact this
  · have hq : i ∉ st.chain p := by
      by_cases h0 : p < 0
      · rw [chain_neg st h0]; simp
      · obtain ⟨q, rfl⟩ : ∃ q : Nat, p = q := ⟨p.toNat, by omega⟩
        have := hT q rfl
        simpa using this
    rw [rm_kids hw i p hq, List.filter_filter]
    refine List.filter_congr fun j _ => ?_
    by_cases e : j = i
    · subst e
      have : (st.chain j).contains j = true := by rw [chain_step hw.par]; simp
      rw [this]
      simp
    · simp [e]
  · exact out_vis hw hj (by simpa using hT) ho
  · have hj2 : j ∈ st.order.filter fun (o : Nat) => !(st.chain o).contains i := hj
    rw [List.mem_filter] at hj2
    rw [hT] at hj2
    simp at hj2
  · obtain ⟨_, _, q3, q4⟩ := far_same (st' := rm st i) hw.par hw'.par rfl rfl j (fun k _ => hpar k) fun k _ => OlS.of (hnow k)
    exact ⟨by rw [q3], fun _ => by rw [q4, hnow]⟩

/-- Make. -/
theorem mk_pic {st : St} (hw : Wf st) {p : Int} (hw' : Wf (mk st p)) (x y : Int) : (mk st p).picU x y ((mk st p).visAll (-1)) = st.picU x y (st.visAll (-1)) := by
  have hsf : ∀ k, k ≠ st.sfs.length → (mk st p).sf k = st.sf k := fun k hk => by rw [mk_sf, if_neg hk]
  refine pic_same hw hw' (fun j => decide (j = st.sfs.length)) (fun j hj q hq hT => ?_) (fun j hj q hq hT => ?_) (fun q hq hT => ?_) x y (fun j hj hT => ?_) (fun j hj hT => ?_) fun j hj hT => ?_
  · have h1 := hw.par j
    have h2 := hw.lt hj
    simp at hT
    omega
  · have h1 := hw'.par j
    have h2 := hw'.lt hj
    rw [mk_len] at h2
    simp at hT ⊢
    omega
  · rw [mk_kids hw, List.filter_append]
    split
    · simp
    · simp
  · have h2 := hw.lt hj
    simp at hT
    omega
  · simp at hT
    subst hT
    cases h : inR ((mk st p).seen st.sfs.length) x y with
    | false => rfl
    | true =>
      have := seen_in h
      rw [mk_sf, if_pos rfl] at this
      have e1 : (newSf p).now.w = 0 := rfl
      rw [e1] at this
      omega
  · have h2 := hw.lt hj
    obtain ⟨_, _, q3, q4⟩ := far_same (st' := mk st p) hw.par hw'.par rfl rfl j (fun k hk => by rw [hsf k (by omega)]) fun k hk => by
      have := chain_le hw.par (j + 1) j (by omega) k hk
      exact OlS.of (by rw [hsf k (by omega)])
    exact ⟨by rw [q3], fun _ => by rw [q4, hsf j (by omega)]⟩

/-- What is asked for alone. -/
structure NowS (st st' : St) : Prop where
  w : st'.w = st.w
  h : st'.h = st.h
  order : st'.order = st.order
  len : st'.sfs.length = st.sfs.length
  par : ∀ i, (st'.sf i).parent = (st.sf i).parent
  now : ∀ i, (st'.sf i).now = (st.sf i).now
  kept : ∀ i, (st'.sf i).kept = (st.sf i).kept

theorem NowS.refl (st : St) : NowS st st := ⟨rfl, rfl, rfl, rfl, fun _ => rfl, fun _ => rfl, fun _ => rfl⟩

theorem NowS.trans {a b c : St} (h : NowS a b) (k : NowS b c) : NowS a c := ⟨k.w.trans h.w, k.h.trans h.h, k.order.trans h.order, k.len.trans h.len, fun i => (k.par i).trans (h.par i), fun i => (k.now i).trans (h.now i), fun i => (k.kept i).trans (h.kept i)⟩

theorem NowS.upd {st : St} {i : Nat} (hi : i < st.sfs.length) {g : Sf → Sf} (h1 : ∀ s, (g s).parent = s.parent) (h2 : ∀ s, (g s).now = s.now) (h3 : ∀ s, (g s).kept = s.kept) : NowS st (Go.Proofs.YtofinpocigbbeaaGreat.upd st i g) := by
  refine ⟨rfl, rfl, rfl, upd_len _ _ _, fun j => ?_, fun j => ?_, fun j => ?_⟩ <;> rw [upd_sf st i g j hi] <;> split
  · rename_i e; subst e; exact h1 _
  · rfl
  · rename_i e; subst e; exact h2 _
  · rfl
  · rename_i e; subst e; exact h3 _
  · rfl

/-- The same tree, the same outlines and pixels. -/
structure PicS (st st' : St) : Prop where
  w : st'.w = st.w
  h : st'.h = st.h
  order : st'.order = st.order
  len : st'.sfs.length = st.sfs.length
  par : ∀ i, (st'.sf i).parent = (st.sf i).parent
  ol : ∀ i, OlS (st'.sf i).now (st.sf i).now
  pix : ∀ i, (st'.sf i).now.pix = (st.sf i).now.pix

theorem NowS.pcs {st st' : St} (h : NowS st st') : PicS st st' := ⟨h.w, h.h, h.order, h.len, h.par, fun i => OlS.of (h.now i), fun i => by rw [h.now]⟩

theorem PicS.kids {st st' : St} (h : PicS st st') (p : Int) : st'.kids p = st.kids p := by
  unfold St.kids
  rw [h.order]
  exact List.filter_congr fun i _ => by rw [h.par]

theorem PicS.under {st st' : St} (h : PicS st st') : ∀ (k : Nat) (p : Int), underF st' k p = underF st k p := by
  intro k
  induction k with
  | zero => intro p; rfl
  | succ k ih =>
    intro p
    unfold underF
    rw [h.kids]
    congr 1
    funext i
    rw [ih]

theorem PicS.dfs {st st' : St} (h : PicS st st') (p : Int) : st'.dfs p = st.dfs p := by
  unfold St.dfs St.need
  rw [h.len, h.under]

theorem PicS.chain {st st' : St} (h : PicS st st') (j : Int) : st'.chain j = st.chain j := by
  have key : ∀ (k : Nat) (id : Int), chainF st'.sf k id = chainF st.sf k id := by
    intro k
    induction k with
    | zero => intro id; rfl
    | succ k ih => intro id; unfold chainF; rw [h.par, ih]
  exact key _ _

theorem PicS.px {st st' : St} (h : PicS st st') (j : Int) : st'.px j = st.px j ∧ st'.py j = st.py j := by
  unfold St.px St.py
  rw [h.chain]
  constructor
  · congr 1
    exact List.map_congr_left fun m _ => (h.ol m).x
  · congr 1
    exact List.map_congr_left fun m _ => (h.ol m).y

theorem PicS.seen {st st' : St} (h : PicS st st') (j : Nat) : st'.seen j = st.seen j := by
  have ho : ∀ l : List Nat, st'.openL l = st.openL l := by
    intro l
    induction l with
    | nil => unfold St.openL; rw [h.w, h.h]
    | cons k l ih => unfold St.openL St.cutBy; rw [ih, (h.ol k).cut, (h.ol k).clip, (h.px k).1, (h.px k).2]
  unfold St.seen St.buf
  rw [h.chain, ho, (h.ol j).w, (h.ol j).h, (h.px j).1, (h.px j).2]

theorem PicS.ixAt {st st' : St} (h : PicS st st') (j : Nat) (x y : Int) : st'.ixAt j x y = st.ixAt j x y := by
  unfold St.ixAt
  rw [(h.ol j).w, (h.px j).1, (h.px j).2]

theorem PicS.vis {st st' : St} (h : PicS st st') (L : List Nat) : st'.vis L = st.vis L := by
  unfold St.vis
  exact List.filter_congr fun i _ => by rw [h.seen]

theorem PicS.visAll {st st' : St} (h : PicS st st') (p : Int) : st'.visAll p = st.visAll p := by
  unfold St.visAll St.visP
  rw [h.dfs, h.vis, h.vis]

theorem PicS.picU {st st' : St} (h : PicS st st') (x y : Int) (U : List Nat) : st'.picU x y U = st.picU x y U := by
  unfold St.picU
  refine foldl_same _ _ fun i _ a => ?_
  unfold St.lay1
  rw [h.seen, h.ixAt, h.pix]

theorem PicS.pic {st st' : St} (h : PicS st st') (x y : Int) : st'.picU x y (st'.visAll (-1)) = st.picU x y (st.visAll (-1)) := by rw [h.visAll, h.picU]

theorem NowS.pic {st st' : St} (h : NowS st st') (x y : Int) : st'.picU x y (st'.visAll (-1)) = st.picU x y (st.visAll (-1)) := h.pcs.pic x y

end Go.Proofs.YtofinpocigbbeaaGreat

namespace Go.Proofs.YtofinpocigbbeaaGreat
open Go.RowKit

/-! ### A step, and the picture -/

def OutD (dm : Option (List R4)) (x y : Int) : Prop := ∀ l, dm = some l → hasB l x y = false

theorem off_now {st : St} (hf : Fine st) (id x y : Int) : NowS st (opOffset st id x y).2 := by
  unfold opOffset
  split
  · rename_i hb
    split
    · exact NowS.upd (isB_lt hf hb).2.1 (fun _ => rfl) (fun _ => rfl) fun _ => rfl
    · exact NowS.refl _
  · exact NowS.refl _

theorem clip_now {st : St} (hf : Fine st) (id : Int) (r : R4) (ok : Bool) : NowS st (opClip st id r ok).2 := by
  unfold opClip
  split
  · rename_i hb
    split
    · exact NowS.upd (isB_lt hf hb).2.1 (fun _ => rfl) (fun _ => rfl) fun _ => rfl
    · exact NowS.refl _
  · exact NowS.refl _

theorem unclip_now {st : St} (hf : Fine st) (id : Int) : NowS st (opUnclip st id).2 := by
  unfold opUnclip
  split
  · rename_i hb
    exact NowS.upd (isB_lt hf hb).2.1 (fun _ => rfl) (fun _ => rfl) fun _ => rfl
  · exact NowS.refl _

theorem hint_now {st : St} (hf : Fine st) (id : Int) (n : Nat) (ok : Bool) (f : Int → Int → Bool) : NowS st (opOpaque st id n ok f).2 := by
  unfold opOpaque
  split
  · rename_i hb
    split
    · exact NowS.refl _
    · split
      · exact NowS.upd (isB_lt hf hb).2.1 (fun _ => rfl) (fun _ => rfl) fun _ => rfl
      · exact NowS.refl _
  · exact NowS.refl _

theorem stack_now {st : St} (hf : Fine st) (id s : Int) (b : Bool) : NowS st (opStack st id s b).2 := by
  unfold opStack
  split
  · rename_i hb
    split
    · exact NowS.upd (isB_lt hf hb.1).2.1 (fun _ => rfl) (fun _ => rfl) fun _ => rfl
    · exact NowS.refl _
  · exact NowS.refl _

theorem att_now {st : St} (hf : Fine st) (id w h raw : Int) : NowS st (attM st id w h raw) := by
  unfold attM opAttach
  split
  · rename_i hb
    split
    · split
      · exact NowS.upd (isB_lt hf hb).2.1 (fun _ => rfl) (fun _ => rfl) fun _ => rfl
      · exact NowS.refl _
    · exact NowS.refl _
  · exact NowS.refl _

theorem make_pic {st : St} (hf : Fine st) (p x y : Int) : (opMake st p).2.2.picU x y ((opMake st p).2.2.visAll (-1)) = st.picU x y (st.visAll (-1)) := by
  have hfm := fine_make hf p
  unfold opMake at *
  split
  · rename_i h1
    rw [if_pos h1] at hfm
    split
    · rename_i h2
      rw [if_pos h2] at hfm
      exact mk_pic hf.wf hfm.wf x y
    · rfl
  · rfl

theorem commit_pic {st : St} (hf : Fine st) (id x y : Int) (ho : OutD (st.dmCommit id) x y) : (opCommit st id).2.picU x y ((opCommit st id).2.visAll (-1)) = st.picU x y (st.visAll (-1)) := by
  unfold St.dmCommit at ho
  unfold opCommit
  split
  · rename_i hb
    rw [if_pos hb] at ho
    exact cm_pic hf (isB_lt hf hb).1 x y (ho _ rfl)
  · rfl

theorem destroy_pic {st : St} (hf : Fine st) (id x y : Int) (ho : OutD (st.dmDestroy id) x y) : (opDestroy st id).2.picU x y ((opDestroy st id).2.visAll (-1)) = st.picU x y (st.visAll (-1)) := by
  unfold St.dmDestroy at ho
  unfold opDestroy
  split
  · rename_i hb
    rw [if_pos hb] at ho
    exact rm_pic hf id.toNat x y (ho _ rfl)
  · rfl

theorem made_now {st : St} (hf : Fine st) (n : Int) (t : StepD) : NowS st (madeM st n t) ∧ Fine (madeM st n t) :=
  ⟨(att_now hf _ _ _ _).trans (off_now (fine_att hf _ _ _ _) _ _ _), fine_offset (fine_att hf _ _ _ _) _ _ _⟩

/-- The picture is another one only where it is damaged. -/
theorem stepM_pic {st : St} (hf : Fine st) (ids : List Int) (t : StepD) (x y : Int) (ho : OutD (stepM st ids t).2.2 x y) : (stepM st ids t).1.picU x y ((stepM st ids t).1.visAll (-1)) = st.picU x y (st.visAll (-1)) := by
  unfold stepM at *
  split at ho <;> rename_i h0
  · rw [if_pos h0]
    unfold makeM at *
    split at ho <;> rename_i h1
    · rw [if_pos h1]
      have hm := made_now (fine_make hf (parM ids t)) (opMake st (parM ids t)).1 t
      simp only at ho ⊢
      rw [commit_pic hm.2 _ x y ho, hm.1.pic, make_pic hf]
    · rw [if_neg h1]
      exact make_pic hf _ x y
  · rw [if_neg h0]
    split at ho <;> rename_i h1
    · rw [if_pos h1]
      exact destroy_pic hf _ x y ho
    · rw [if_neg h1]
      split at ho <;> rename_i h2
      · rw [if_pos h2]
        exact (att_now hf _ _ _ _).pic x y
      · rw [if_neg h2]
        split at ho <;> rename_i h3
        · rw [if_pos h3]
          exact (off_now hf _ _ _).pic x y
        · rw [if_neg h3]
          split at ho <;> rename_i h4
          · rw [if_pos h4]
            exact (clip_now hf _ _ _).pic x y
          · rw [if_neg h4]
            split at ho <;> rename_i h5
            · rw [if_pos h5]
              exact (unclip_now hf _).pic x y
            · rw [if_neg h5]
              split at ho <;> rename_i h6
              · rw [if_pos h6]
                exact (hint_now hf _ _ _ _).pic x y
              · rw [if_neg h6]
                split at ho <;> rename_i h7
                · rw [if_pos h7]
                  exact (stack_now hf _ _ _).pic x y
                · rw [if_neg h7]
                  exact commit_pic hf _ x y ho

/-- A step that only asks. -/
theorem stepM_now {st : St} (hf : Fine st) {ids : List Int} {t : StepD} (h3 : 3 ≤ kindM ids t) (h11 : kindM ids t ≤ 11) : NowS st (stepM st ids t).1 ∧ (stepM st ids t).2.1 = ids ∧ (stepM st ids t).2.2 = none := by
  unfold stepM
  rw [if_neg (by omega), if_neg (by omega)]
  split
  · exact ⟨att_now hf _ _ _ _, rfl, rfl⟩
  · split
    · exact ⟨off_now hf _ _ _, rfl, rfl⟩
    · split
      · exact ⟨clip_now hf _ _ _, rfl, rfl⟩
      · split
        · exact ⟨unclip_now hf _, rfl, rfl⟩
        · split
          · exact ⟨hint_now hf _ _ _ _, rfl, rfl⟩
          · rw [if_pos (by omega)]
            exact ⟨stack_now hf _ _ _, rfl, rfl⟩

/-! #### What hides -/

theorem NowS.keptOk {st st' : St} (h : NowS st st') (hk : KeptOk st) : KeptOk st' := fun i k e => by
  rw [h.kept] at e
  rw [h.now]
  exact hk i k e

theorem make_kept {st : St} (hk : KeptOk st) (p : Int) : KeptOk (opMake st p).2.2 := by
  unfold opMake
  split
  · split
    · intro i k e
      rw [mk_sf] at e ⊢
      split at e
      · cases e
      · rename_i h; rw [if_neg h]; exact hk i k e
    · exact hk
  · exact hk

theorem commit_kept {st : St} (hf : Fine st) (hk : KeptOk st) (id : Int) : KeptOk (opCommit st id).2 := by
  unfold opCommit
  split
  · rename_i hb
    intro i k e
    simp only at e ⊢
    rw [cm_sf st _ i (isB_lt hf hb).2.1] at e ⊢
    split at e
    · rename_i h
      rw [if_pos h]
      have e2 : keptOf (st.sf id.toNat).next k = true := e
      unfold keptOf at e2
      rw [Bool.and_eq_true] at e2
      exact of_decide_eq_true e2.2
    · rename_i h; rw [if_neg h]; exact hk i k e
  · exact hk

theorem destroy_kept {st : St} (hf : Fine st) (hk : KeptOk st) (id : Int) : KeptOk (opDestroy st id).2 := by
  unfold opDestroy
  split
  · intro i k e
    simp only at e ⊢
    rw [rm_sf st hf.wf] at e ⊢
    split at e
    · rename_i h; rw [if_pos h]; exact hk i k e
    · rename_i h; rw [if_neg h]; exact hk i k e
  · exact hk

theorem stepM_kept {st : St} (hf : Fine st) (hk : KeptOk st) (ids : List Int) (t : StepD) : KeptOk (stepM st ids t).1 := by
  unfold stepM
  split
  · unfold makeM
    split
    · have hm := made_now (fine_make hf (parM ids t)) (opMake st (parM ids t)).1 t
      exact commit_kept hm.2 (hm.1.keptOk (make_kept hk _)) _
    · exact make_kept hk _
  · split
    · exact destroy_kept hf hk _
    · split
      · exact (att_now hf _ _ _ _).keptOk hk
      · split
        · exact (off_now hf _ _ _).keptOk hk
        · split
          · exact (clip_now hf _ _ _).keptOk hk
          · split
            · exact (unclip_now hf _).keptOk hk
            · split
              · exact (hint_now hf _ _ _ _).keptOk hk
              · split
                · exact (stack_now hf _ _ _).keptOk hk
                · exact commit_kept hf hk _

/-! #### The canvas -/

/-- A buffer is the picture but for where it is out of date. -/
def CvInv (st : St) (d : Cv) : Prop := ∀ b ∈ d.bufs, ∀ k, k < d.W * d.H → d.stale b.age ((k % d.W : Nat) : Int) ((k / d.W : Nat) : Int) = false → b.f k = (st.picU ((k % d.W : Nat) : Int) ((k / d.W : Nat) : Int) (st.visAll (-1))).1

theorem on_point {d : Cv} (hd : CvOk d) {k : Nat} (hk : k < d.W * d.H) : d.on ((k % d.W : Nat) : Int) ((k / d.W : Nat) : Int) = true := by
  unfold Cv.on inR
  have h1 : k % d.W < d.W := Nat.mod_lt _ (by have := hd.w1; omega)
  have h2 : k / d.W < d.H := Nat.div_lt_of_lt_mul hk
  generalize k % d.W = a at h1
  generalize k / d.W = b at h2
  exact decide_eq_true (by simp only; omega)

theorem stale_no {d : Cv} {age : Nat} {x y : Int} (ho : d.on x y = true) (h : d.stale age x y = false) : (1 ≤ age ∧ age ≤ 4) ∧ ∀ k, k < age → memR (d.back k) x y = false := by
  unfold Cv.stale at h
  split at h
  · rw [ho] at h; cases h
  · rename_i hn
    refine ⟨by omega, fun k hk => ?_⟩
    rw [List.any_eq_false] at h
    simpa using h k (List.mem_range.2 hk)

theorem stale_yes {d : Cv} {age : Nat} {x y : Int} (ha : 1 ≤ age ∧ age ≤ 4) (h : ∀ k, k < age → memR (d.back k) x y = false) : d.stale age x y = false := by
  unfold Cv.stale
  rw [if_neg (by omega), List.any_eq_false]
  intro k hk
  rw [h k (List.mem_range.1 hk)]
  simp

theorem CvInv.damTo {st st' : St} {d d' : Cv} (hd : CvOk d) (h : CvInv st d) {dm : Option (List R4)} (ht : DamTo d d' dm) (hp : ∀ x y, OutD dm x y → st'.picU x y (st'.visAll (-1)) = st.picU x y (st.visAll (-1))) : CvInv st' d' := by
  cases dm with
  | none =>
    have e : d' = d := ht
    subst e
    intro b hb k hk hs
    rw [hp _ _ (fun l e => by cases e)]
    exact h b hb k hk hs
  | some l =>
    obtain ⟨R, rfl, _, hm⟩ := ht
    intro b hb k hk hs
    have hb2 : b ∈ d.bufs := hb
    have hk2 : k < d.W * d.H := hk
    have hon := on_point hd hk2
    obtain ⟨ha, hr⟩ := stale_no (d := { d with dam := d.dam.set d.nw R }) hon hs
    have hnw := hd.nw
    have hln := hd.ln
    have h0 := hr 0 (by omega)
    have e0 : Cv.back { d with dam := d.dam.set d.nw R } 0 = R := by
      unfold Cv.back
      simp only
      rw [show (d.nw + 4 - 0) % 4 = d.nw by omega, List.getElem?_set_self (by omega)]
      rfl
    rw [e0, hm, Bool.or_eq_false_iff] at h0
    have hold : d.stale b.age ((k % d.W : Nat) : Int) ((k / d.W : Nat) : Int) = false := by
      refine stale_yes ha fun j hj => ?_
      by_cases hj0 : j = 0
      · subst hj0
        have := h0.1
        unfold Cv.back
        rw [show (d.nw + 4 - 0) % 4 = d.nw by omega]
        exact this
      · have := hr j hj
        unfold Cv.back at this ⊢
        simp only at this
        rw [List.getElem?_set_ne (by omega)] at this
        exact this
    rw [hp _ _ (fun l' e => by injection e with e; subst e; exact h0.2)]
    exact h b hb2 k hk2 hold

theorem painted_back {d : Cv} (hd : CvOk d) (i : Nat) (f : Nat → R4) : (d.painted i f).back 0 = [] ∧ ∀ k, k < 3 → (d.painted i f).back (k + 1) = d.back k := by
  have hnw := hd.nw
  have hln := hd.ln
  unfold Cv.back Cv.painted Cv.grown
  simp only
  refine ⟨?_, fun k hk => ?_⟩
  · rw [show ((d.nw + 1) % 4 + 4 - 0) % 4 = (d.nw + 1) % 4 by omega, List.getElem?_set_self (by omega)]
    rfl
  · rw [List.getElem?_set_ne (by omega), show ((d.nw + 1) % 4 + 4 - (k + 1)) % 4 = (d.nw + 4 - k) % 4 by omega]

theorem memR_nil (x y : Int) : memR [] x y = false := rfl

/-- What is painted is the picture. -/
theorem paint_full {st : St} (hw : Wf st) (hk : KeptOk st) {d : Cv} (h : CvInv st d) {i : Nat} (hi : i < d.bufs.length) {O : Rgn} (hO : ∀ x y, memR O x y = d.stale d.bufs[i].age x y) {k : Nat} (hk2 : k < d.W * d.H) :
    paintL d.W (rc O) (fun x y => (st.picL (st.visAll (-1)) x y).1) d.bufs[i].f k = (st.picU ((k % d.W : Nat) : Int) ((k / d.W : Nat) : Int) (st.visAll (-1))).1 := by
  unfold paintL
  rw [hasB_rc', hO]
  cases hs : d.stale d.bufs[i].age ((k % d.W : Nat) : Int) ((k / d.W : Nat) : Int) with
  | true => rw [if_pos rfl]; exact picL_fst hw hk _ _ _
  | false => rw [if_neg (by simp)]; exact h _ (List.getElem_mem hi) k hk2 hs

theorem CvInv.paint {st : St} {d : Cv} (hd : CvOk d) (h : CvInv st d) {i : Nat} {f : Nat → R4} (hf : ∀ k, k < d.W * d.H → f k = (st.picU ((k % d.W : Nat) : Int) ((k / d.W : Nat) : Int) (st.visAll (-1))).1) : CvInv st (d.painted i f) := by
  intro b hb k hk hs
  have hk2 : k < d.W * d.H := hk
  obtain ⟨b0, bs⟩ := painted_back hd i f
  obtain ⟨ha, hr⟩ := stale_no (d := d.painted i f) (on_point hd hk2) hs
  have hb2 : b ∈ d.bufs.mapIdx fun j b => if j = i then ⟨b.g, 1, f⟩ else b.older := hb
  obtain ⟨j, hj, rfl⟩ := List.mem_mapIdx.1 hb2
  split at ha
  · rw [if_pos (by assumption)]
    exact hf k hk2
  · rename_i hji
    rw [if_neg hji] at hr ⊢
    unfold Buf.older at ha hr ⊢
    split at ha
    · rename_i hpos
      rw [if_pos hpos] at hr ⊢
      simp only at ha hr ⊢
      refine h _ (List.getElem_mem hj) k hk2 (stale_yes ⟨by omega, by omega⟩ fun m hm => ?_)
      rw [← bs m (by omega)]
      exact hr (m + 1) (by omega)
    · omega

theorem CvInv.fill {st : St} {d : Cv} (hd : CvOk d) (h : CvInv st d) (i g : Nat) (f : Nat → R4) : CvInv st (d.filled i g f) := by
  intro b hb k hk hs
  have hb2 : b ∈ d.bufs.set i ⟨g, 0, f⟩ := hb
  have hon := on_point hd (show k < d.W * d.H from hk)
  obtain ⟨ha, _⟩ := stale_no (d := d.filled i g f) hon hs
  rcases List.mem_or_eq_of_mem_set hb2 with hb3 | rfl
  · exact h b hb3 k hk hs
  · simp only at ha; omega

/-- A region with no points. -/
theorem rc_none {O : Rgn} (hO : Good O) (h : ∀ x y, memR O x y = false) : rc O = [] := by
  have e : O = [] := plain_one hO (by constructor <;> simp [levels]) fun x y => by rw [h]; rfl
  rw [e]
  rfl

theorem painted_now {d : Cv} (hd : CvOk d) {i : Nat} (hi : i < d.bufs.length) (f : Nat → R4) : ∃ h : i < (d.painted i f).bufs.length, (d.painted i f).bufs[i].age = 1 ∧ (d.painted i f).bufs[i].f = f ∧ ∀ x y, (d.painted i f).stale 1 x y = false := by
  have e : (d.painted i f).bufs = d.bufs.mapIdx fun j b => if j = i then ⟨b.g, 1, f⟩ else b.older := rfl
  refine ⟨by rw [e, List.length_mapIdx]; exact hi, ?_, ?_, fun x y => stale_yes ⟨by omega, by omega⟩ fun k hk => ?_⟩
  · simp only [e, List.getElem_mapIdx, if_pos]
  · simp only [e, List.getElem_mapIdx, if_pos]
  · have : k = 0 := by omega
    subst this
    rw [(painted_back hd i f).1]
    rfl

end Go.Proofs.YtofinpocigbbeaaGreat

namespace Go.Proofs.YtofinpocigbbeaaGreat
open Go.RowKit
attribute [local go_sem ↓] Go.wp_at_zero Go.wp_at_succ

def groundC (W H : Int) : Array Value := #[.int .i64 (-1), .pointer none, .slice none 0 0, .int .i64 0, .int .i64 0, .slice none 0 0, .int .i64 0, .int .i64 0, .int .i64 0, .int .i64 0, .int .i64 W, .int .i64 H, .bool true, .slice none 0 0, .int .i64 0, .int .i64 0, .slice none 0 0, .int .i64 0, .int .i64 0, .int .i64 0, .int .i64 0, .int .i64 0, .int .i64 0, .bool false, .slice none 0 0, .bool false, .int .i64 0, .bool false, .int .i64 0, .int .i64 0, .slice none 0 0]

set_option maxRecDepth 100000 in
set_option maxHeartbeats 1000000 in
/-- scene.New -/
theorem scNew_any (W H : Int) (w : World) : Calls Tryz.prog 53 #[.int .i64 W, .int .i64 H] w fun e w' => e = .returned (.pointer (some ⟨w.heap.size + 2, 0, none⟩)) ∧
      w' = ((w.alloc (.cells (groundC W H) 174)).alloc (.map #[] 0)).alloc (.cells #[.pointer (some ⟨w.heap.size, 0, none⟩), .map (some (w.heap.size + 1)), .int .i64 0] 152) := by
  have hmm : ∀ W : World, (Instr.makeMap 150 none).run Tryz.prog W = .ok (.map (some W.heap.size)) (W.alloc (.map #[] 0)) := fun W => run_makeMap _ W
  go_enter Tryz.func53, Tryz.ntmps53
  go_wp2_with fail
  go_ret
  exact ⟨rfl, rfl⟩

theorem heap_here (u : World) (o : Obj) (n : Nat) (h : u.heap.size = n) : (u.alloc o).heap[n]? = some o := by subst h; exact heap_alloc_new u o

/-- What scene.New leaves. -/
structure NewP (w wr : World) (W H : Int) : Prop where
  bel : Below w.heap.size w wr
  gnd : Blk wr w.heap.size 174 (groundC W H)
  map : wr.heap[w.heap.size + 1]? = some (.map #[] 0)
  sce : Blk wr (w.heap.size + 2) 152 #[.pointer (some ⟨w.heap.size, 0, none⟩), .map (some (w.heap.size + 1)), .int .i64 0]

theorem NewP.below {w wr wx : World} {W H : Int} (h : NewP w wr W H) (hb : Below wr.heap.size wr wx) : NewP w wx W H := by
  have h2 := h.sce.has.lt
  exact ⟨h.bel.trans (hb.mono h.bel.size), h.gnd.keep (hb.block _ (by omega)), (hb.block _ (by omega)).trans h.map, h.sce.keep (hb.block _ h2)⟩

theorem NewP.done {w wr : World} {W H : Int} (h : NewP w wr W H) {x : Nat} {bv : Value} (hx : Blk wr x 90 #[.pointer (some ⟨w.heap.size + 2, 0, none⟩), bv]) : PaneOk wr (fun g => g = x ∨ (w.heap.size ≤ g ∧ g < w.heap.size + 3)) x ⟨W, H, [], []⟩ bv := by
  have hs := h.sce.has.lt
  have hlive : ∀ p, Live ⟨W, H, [], []⟩ p → p = -1 := fun p hp => by
    rcases hp with hp | ⟨i, _, hi⟩
    · exact hp
    · cases hi
  refine ⟨w.heap.size + 2, w.heap.size + 1, fun _ => w.heap.size, fun _ o => (groundC W H).getD o undef, hx, h.sce, ⟨#[], 0, h.map, MapKept.stamped_empty 0, by simp⟩, fun p hp => ⟨_, h.gnd, rfl, fun o ho => ?_⟩, ⟨.inl rfl, .inr ⟨by omega, by omega⟩, .inr ⟨by omega, by omega⟩, fun p hp => .inr ⟨by omega, by omega⟩⟩, fun p p' hp hp' _ => by rw [hlive p hp, hlive p' hp'], fun p hp => ?_, fun p p' hp hp' hne => absurd (by rw [hlive p hp, hlive p' hp']) hne, fun p hp => ?_, fun i hi => by cases hi⟩
  · show _ = some ((groundC W H).getD o undef)
    rw [Array.getD_eq_getD_getElem?, Array.getElem?_eq_getElem (show o < (groundC W H).size from ho)]
    rfl
  · exact RowS.nil _ _ _ _
  · have := hlive p hp
    subst this
    exact ⟨rfl, rfl, ⟨rfl, rfl, ⟨_, _, _, rfl⟩, rfl, rfl, rfl, rfl, rfl, rfl, rfl, ⟨_, _, _, rfl⟩⟩, ⟨look0, ⟨rfl, rfl, ⟨_, _, _, rfl⟩, rfl, rfl, rfl, rfl, rfl, rfl, rfl, ⟨_, _, _, rfl⟩⟩, fun e => absurd rfl e⟩, ⟨_, _, _, rfl, rfl, rfl, fun e => absurd rfl e⟩, ⟨_, _, _, _, _, rfl, rfl, rfl⟩⟩

def NPostP (W H : Int) (n : Nat) (w : World) (e : Ending) (w' : World) : Prop := ∃ x L, e = .returned (.tuple #[.pointer (some ⟨x, 0, none⟩), .int .i64 0]) ∧ FullC w' (fun g => w.heap.size ≤ g ∧ g < w'.heap.size) x ⟨W, H, [], []⟩ (Cv.new W.toNat H.toNat L) ∧ L.length = n ∧ Below w.heap.size w w'

theorem new_full {w w1 w2 : World} {W H : Nat} (hW : 1 ≤ W ∧ W ≤ 24) (hH : 1 ≤ H ∧ H ≤ 24) {N c rg : Nat} {bv : Value} {L : List Nat} (hN : 1 ≤ N ∧ N ≤ 3) (h1 : NewP w w1 W H) (h2 : NewC w1 w2 c rg W H N bv L) (o : Obj) (ho : o = .cells #[.pointer (some ⟨w.heap.size + 2, 0, none⟩), .pointer (some ⟨c, 0, none⟩)] 90) :
    NPostP W H N w (.returned (.tuple #[.pointer (some ⟨w2.heap.size, 0, none⟩), .int .i64 0])) (w2.alloc o) := by
  subst ho
  have s1 := h1.bel.size
  have s2 := h2.bel.size
  have hs := h1.sce.has.lt
  have hb3 : Below w2.heap.size w2 (w2.alloc (.cells #[.pointer (some ⟨w.heap.size + 2, 0, none⟩), .pointer (some ⟨c, 0, none⟩)] 90)) := (Below.refl _ _).alloc (Nat.le_refl _) _
  refine ⟨_, L, rfl, ⟨_, _, c, ⟨((h1.below h2.bel).below hb3).done (x := w2.heap.size) (heap_alloc_new w2 _), ⟨bv, rg, _, h2.mem.below hb3⟩, Cv.new_ok h2 hW hH hN, rfl, rfl, fun g hg => ?_, fun g hg => ?_, fun g hg hb => ?_⟩, fun g hg => ?_, fun g hg => ?_⟩, h2.len, (h1.bel.trans (h2.bel.mono s1)).trans (hb3.mono (by omega))⟩
  · simp
    omega
  · simp
    omega
  · omega
  · simp
    omega
  · simp
    omega

set_option maxRecDepth 100000 in
set_option maxHeartbeats 1000000 in
/-- New, where it is not refused. -/
theorem paNew_ok (W H n : Int) (w : World) (hW : 1 ≤ W ∧ W ≤ 24) (hH : 1 ≤ H ∧ H ≤ 24) (hn : 1 ≤ n ∧ n ≤ 3) :
    Calls Tryz.prog 26 #[.int .i64 W, .int .i64 H, .int .i64 n] w (NPostP W H n.toNat w) := by
  obtain ⟨N, hN⟩ : ∃ N : Nat, n = N := ⟨n.toNat, by omega⟩
  obtain ⟨W', hW'⟩ : ∃ W' : Nat, W = W' := ⟨W.toNat, by omega⟩
  obtain ⟨H', hH'⟩ : ∃ H' : Nat, H = H' := ⟨H.toNat, by omega⟩
  subst hN hW' hH'
  rw [Int.toNat_natCast]
  obtain ⟨hW0, hW1⟩ := hW
  obtain ⟨hH0, hH1⟩ := hH
  obtain ⟨hn0, hn1⟩ := hn
  have HSc : Hid (Calls Tryz.prog 53 #[.int .i64 (W' : Int), .int .i64 (H' : Int)] w fun e w1 => e = .returned (.pointer (some ⟨w.heap.size + 2, 0, none⟩)) ∧ NewP w w1 W' H') := by
    refine (scNew_any W' H' w).mono ?_
    rintro e w1 ⟨rfl, rfl⟩
    refine ⟨rfl, (((al1 (Nat.le_refl _) _).alloc (by simp) _).alloc (by simp; omega) _), ?_, ?_, ?_⟩
    · unfold Blk
      rw [heap_old _ _ _ (by simp <;> omega), heap_old _ _ _ (by simp <;> omega)]
      exact heap_here _ _ _ rfl
    · rw [heap_old _ _ _ (by simp <;> omega)]
      exact heap_here _ _ _ (by simp)
    · exact heap_here _ _ _ (by simp)
  have HCv := hide (fun V : World => cvNew_any W' H' N V ⟨by omega, by omega⟩ ⟨by omega, by omega⟩ ⟨by omega, by omega⟩)
  have HEn : Hid (∀ (w1 w2 : World) (c rg : Nat) (bv : Value) (L : List Nat), NewP w w1 W' H' → NewC w1 w2 c rg W' H' N bv L → NPostP W' H' N w (.returned (.tuple #[.pointer (some ⟨w2.heap.size, 0, none⟩), .int .i64 0])) (w2.alloc (.cells #[.pointer (some ⟨w.heap.size + 2, 0, none⟩), .pointer (some ⟨c, 0, none⟩)] 90))) := fun w1 w2 c rg bv L h1 h2 => new_full ⟨by omega, by omega⟩ ⟨by omega, by omega⟩ ⟨by omega, by omega⟩ h1 h2 _ rfl
  go_enter Tryz.func26, Tryz.ntmps26
  go_wp2_with (first
    | (go_at_call 53; refine HSc.out.mono ?_; rintro e w1 ⟨rfl, h1⟩; have H1 := hide h1; clear h1)
    | (go_at_call 54; refine (HCv.out _).mono ?_; rintro e w2 ⟨c, rg, bv, L, rfl, h2⟩; have H2 := hide (HEn.out _ _ _ _ _ _ H1.out h2); clear h2)
    | go_in)
  go_ret2
  exact H2.out

end Go.Proofs.YtofinpocigbbeaaGreat

namespace Go.Proofs.YtofinpocigbbeaaGreat
open Go.RowKit

/-! ### begun, on plain data -/

def bg0 : St := ⟨8, 7, [], []⟩
def bg1 : St := (opMake bg0 (-1)).2.2
def bgF : Nat → R4 := fun k => [((200, 0, 0, 255) : R4)].getD k (0, 0, 0, 0)
def bg2 : St := (opAttach bg1 0 1 1 1 ([((200, 0, 0, 255) : R4)].all fitP) bgF).2
def bg3 : St := (opOffset bg2 0 2 1).2
def bg4 : St := (opCommit bg3 0).2
def bg5 : St := (opDestroy bg4 0).2

theorem bg0_fine : Fine bg0 := Fine.new (by omega) (by omega)
theorem bg1_fine : Fine bg1 := fine_make bg0_fine _
theorem bg2_fine : Fine bg2 := fine_attach bg1_fine 0 1 1 [((200, 0, 0, 255) : R4)] (fun r hr => by
  have : r = (200, 0, 0, 255) := by simpa using hr
  subst this
  simp)
theorem bg3_fine : Fine bg3 := fine_offset bg2_fine _ _ _
theorem bg4_fine : Fine bg4 := fine_commit bg3_fine _
theorem bg5_fine : Fine bg5 := fine_destroy bg4_fine _

theorem bg0_kept : KeptOk bg0 := fun i k h => by
  have e : bg0.sf i = sf0 := rfl
  rw [e] at h
  cases h
theorem bg3_now : NowS bg1 bg3 := by
  refine NowS.trans (b := bg2) ?_ (off_now bg2_fine _ _ _)
  unfold bg2 opAttach
  split
  · rename_i hb
    split
    · split
      · exact NowS.upd (isB_lt bg1_fine hb).2.1 (fun _ => rfl) (fun _ => rfl) fun _ => rfl
      · exact NowS.refl _
    · exact NowS.refl _
  · exact NowS.refl _
theorem bg3_kept : KeptOk bg3 := bg3_now.keptOk (make_kept bg0_kept _)
theorem bg4_kept : KeptOk bg4 := commit_kept bg3_fine bg3_kept _
theorem bg5_kept : KeptOk bg5 := destroy_kept bg4_fine bg4_kept _

theorem bg_make : opMake bg0 (-1) = (0, 0, bg1) := rfl
theorem bg_attach : (opAttach bg1 0 1 1 1 ([((200, 0, 0, 255) : R4)].all fitP) bgF) = (0, bg2) := by
  have : (opAttach bg1 0 1 1 1 ([((200, 0, 0, 255) : R4)].all fitP) bgF).1 = 0 := by decide
  exact Prod.ext this rfl
theorem bg_offset : opOffset bg2 0 2 1 = (0, bg3) := by
  have : (opOffset bg2 0 2 1).1 = 0 := by decide
  exact Prod.ext this rfl
theorem bg_commit : opCommit bg3 0 = (0, bg4) := by
  have : (opCommit bg3 0).1 = 0 := by decide
  exact Prod.ext this rfl
theorem bg_destroy : opDestroy bg4 0 = (0, bg5) := by
  have : (opDestroy bg4 0).1 = 0 := by decide
  exact Prod.ext this rfl
theorem bg_damage : bg4.dmDestroy 0 = some [(2, 1, 3, 2)] := by decide
theorem bg_laid : laidL (fun x y => (bg4.picL (bg4.visAll (-1)) x y).2) [(0, 0, 8, 7)] 1 = 1 := by decide
theorem bg_red : (bg4.picL (bg4.visAll (-1)) 2 1).1 = (200, 0, 0, 255) := by decide
theorem bg_black : (bg4.picL (bg4.visAll (-1)) 3 1).1 = (0, 0, 0, 255) := by decide
theorem bg_none : laidL (fun x y => (bg5.picL (bg5.visAll (-1)) x y).2) [(2, 1, 3, 2)] 1 = 0 := by decide

theorem bg_wh : bg3.w = 8 ∧ bg3.h = 7 ∧ bg4.w = 8 ∧ bg4.h = 7 ∧ bg5.w = 8 ∧ bg5.h = 7 := by decide

/-- A region with the points of one rectangle. -/
theorem rc_rect {O : Rgn} (hO : Good O) {r : R4} (hf : fitR r = true) (h4 : has4 r = true) (h : ∀ x y, memR O x y = inR r x y) : rc O = [r] := by
  have e : O = oneB r := plain_one hO (oneB_good r hf) fun x y => by rw [h, oneB_mem]
  rw [e]
  unfold has4 at h4
  have h4 := of_decide_eq_true h4
  unfold oneB
  rw [if_pos h4]
  rfl

/-- The canvas of a new screen. -/
theorem new_inv (st : St) {L : List Nat} (hd : CvOk (Cv.new 8 7 L)) : CvInv st (Cv.new 8 7 L) := by
  intro b hb k hk hs
  obtain ⟨ha, _⟩ := stale_no (on_point hd hk) hs
  have hb2 : b ∈ L.map zeroB := hb
  obtain ⟨g, _, rfl⟩ := List.mem_map.1 hb2
  simp [zeroB] at ha

/-- What begun leaves of the canvas. -/
structure BgD (n : Nat) (d : Cv) : Prop where
  W : d.W = 8
  H : d.H = 7
  len : d.bufs.length = n
  old : d.old ≤ 2
  inv : CvInv bg5 d
  age : ∃ h : 0 < d.bufs.length, d.bufs[0].age = 1
  bk : d.back 0 = []

/-- Behind the first Commit. -/
structure Bg1 (n : Nat) (d : Cv) : Prop where
  ok : CvOk d
  W : d.W = 8
  H : d.H = 7
  len : d.bufs.length = n
  old : d.old = 0
  inv : CvInv bg4 d
  age : ∃ h : 0 < d.bufs.length, d.bufs[0].age = 0

theorem damTo_same {d d' : Cv} {dm : Option (List R4)} (h : DamTo d d' dm) : d'.W = d.W ∧ d'.H = d.H ∧ d'.bufs = d.bufs ∧ d'.old = d.old ∧ d'.nw = d.nw := by
  cases dm with
  | none => have e : d' = d := h; subst e; exact ⟨rfl, rfl, rfl, rfl, rfl⟩
  | some l => obtain ⟨R, rfl, _⟩ := h; exact ⟨rfl, rfl, rfl, rfl, rfl⟩

theorem bg_first {n : Nat} (hn : 1 ≤ n) {L : List Nat} (hL : L.length = n) {d : Cv} (h0 : CvOk (Cv.new 8 7 L)) (hd : CvOk d) (ht : DamTo (Cv.new 8 7 L) d (bg3.dmCommit 0)) : Bg1 n d := by
  obtain ⟨e1, e2, e3, e4, e5⟩ := damTo_same ht
  have e6 : (Cv.new 8 7 L).bufs = L.map zeroB := rfl
  refine ⟨hd, e1, e2, by rw [e3, e6, List.length_map, hL], e4, CvInv.damTo h0 (new_inv bg3 h0) ht fun x y ho => commit_pic bg3_fine 0 x y ho, ⟨by rw [e3, e6, List.length_map]; omega, ?_⟩⟩
  have : ∀ b ∈ d.bufs, b.age = 0 := fun b hb => by
    rw [e3, e6] at hb
    obtain ⟨g, _, rfl⟩ := List.mem_map.1 hb
    rfl
  exact this _ (List.getElem_mem _)

/-- The first Repaint. -/
theorem Bg1.paint {n : Nat} {d : Cv} (h : Bg1 n d) (hi : 0 < d.bufs.length) {O : Rgn} (hO : Good O) (hm : ∀ x y, memR O x y = d.stale d.bufs[0].age x y) : rc O = [(0, 0, 8, 7)] := by
  obtain ⟨_, ha⟩ := h.age
  refine rc_rect hO (by decide) (by decide) fun x y => ?_
  rw [hm, ha]
  unfold Cv.stale Cv.on
  rw [if_pos (.inl rfl), h.W, h.H]
  rfl

/-- Behind it. -/
structure Bg2 (n : Nat) (d : Cv) : Prop where
  ok : CvOk d
  W : d.W = 8
  H : d.H = 7
  len : d.bufs.length = n
  old : d.old = 1
  inv : CvInv bg4 d
  age : ∃ h : 0 < d.bufs.length, d.bufs[0].age = 1 ∧ d.bufs[0].f 10 = (200, 0, 0, 255) ∧ d.bufs[0].f 11 = (0, 0, 0, 255)
  bk : d.back 0 = []

theorem Bg1.next {n : Nat} {d : Cv} (h : Bg1 n d) (hi : 0 < d.bufs.length) {O : Rgn} (hO : Good O) (hm : ∀ x y, memR O x y = d.stale d.bufs[0].age x y) : Bg2 n (d.painted 0 (paintL d.W (rc O) (fun x y => (bg4.picL (bg4.visAll (-1)) x y).1) d.bufs[0].f)) := by
  obtain ⟨hi2, h1, h2, h3⟩ := painted_now h.ok hi (paintL d.W (rc O) (fun x y => (bg4.picL (bg4.visAll (-1)) x y).1) d.bufs[0].f)
  have hrc := h.paint hi hO hm
  refine ⟨painted_ok h.ok 0 _, h.W, h.H, ?_, ?_, CvInv.paint h.ok h.inv fun k hk => paint_full bg4_fine.wf bg4_kept h.inv hi hm hk, ⟨hi2, h1, ?_, ?_⟩, (painted_back h.ok 0 _).1⟩
  · show (d.bufs.mapIdx _).length = n
    rw [List.length_mapIdx, h.len]
  · show d.old + 1 = 1
    rw [h.old]
  · rw [h2, hrc, h.W]
    unfold paintL
    rw [if_pos (by decide)]
    exact bg_red
  · rw [h2, hrc, h.W]
    unfold paintL
    rw [if_pos (by decide)]
    exact bg_black

/-- Behind the Destroy. -/
structure Bg3 (n : Nat) (d : Cv) : Prop where
  ok : CvOk d
  W : d.W = 8
  H : d.H = 7
  len : d.bufs.length = n
  old : d.old = 1
  inv : CvInv bg5 d
  age : ∃ h : 0 < d.bufs.length, d.bufs[0].age = 1
  bk : ∀ x y, memR (d.back 0) x y = inR (2, 1, 3, 2) x y

theorem Bg2.next {n : Nat} {d d' : Cv} (h : Bg2 n d) (hd : CvOk d') (ht : DamTo d d' (bg4.dmDestroy 0)) : Bg3 n d' := by
  obtain ⟨e1, e2, e3, e4, e5⟩ := damTo_same ht
  obtain ⟨a1, a2, _⟩ := h.age
  refine ⟨hd, by rw [e1]; exact h.W, by rw [e2]; exact h.H, by rw [e3]; exact h.len, by rw [e4]; exact h.old, CvInv.damTo h.ok h.inv ht fun x y ho => destroy_pic bg4_fine 0 x y ho, ⟨by rw [e3]; exact a1, ?_⟩, fun x y => ?_⟩
  · simp only [e3]
    exact a2
  · rw [bg_damage] at ht
    obtain ⟨R, rfl, _, hm⟩ := ht
    have hnw := h.ok.nw
    have hln := h.ok.ln
    have hb := h.bk
    unfold Cv.back at hb ⊢
    simp only
    rw [show (d.nw + 4 - 0) % 4 = d.nw by omega] at hb ⊢
    rw [List.getElem?_set_self (by omega)]
    show memR R x y = _
    rw [hm, hb]
    simp [hasB, memR]

theorem Bg3.paint {n : Nat} {d : Cv} (h : Bg3 n d) (hi : 0 < d.bufs.length) {O : Rgn} (hO : Good O) (hm : ∀ x y, memR O x y = d.stale d.bufs[0].age x y) : rc O = [(2, 1, 3, 2)] := by
  obtain ⟨_, ha⟩ := h.age
  refine rc_rect hO (by decide) (by decide) fun x y => ?_
  rw [hm, ha]
  unfold Cv.stale
  rw [if_neg (by omega)]
  simp [h.bk]

theorem Bg3.next {n : Nat} {d : Cv} (h : Bg3 n d) (hi : 0 < d.bufs.length) {O : Rgn} (hm : ∀ x y, memR O x y = d.stale d.bufs[0].age x y) : BgD n (d.painted 0 (paintL d.W (rc O) (fun x y => (bg5.picL (bg5.visAll (-1)) x y).1) d.bufs[0].f)) := by
  obtain ⟨hi2, h1, h2, h3⟩ := painted_now h.ok hi (paintL d.W (rc O) (fun x y => (bg5.picL (bg5.visAll (-1)) x y).1) d.bufs[0].f)
  refine ⟨h.W, h.H, ?_, ?_, CvInv.paint h.ok h.inv fun k hk => paint_full bg5_fine.wf bg5_kept h.inv hi hm hk, ⟨hi2, h1⟩, (painted_back h.ok 0 _).1⟩
  · show (d.bufs.mapIdx _).length = n
    rw [List.length_mapIdx, h.len]
  · show d.old + 1 ≤ 2
    have := h.old
    omega

end Go.Proofs.YtofinpocigbbeaaGreat

namespace Go.Proofs.YtofinpocigbbeaaGreat
open Go.RowKit
attribute [local go_sem ↓] Go.wp_at_zero Go.wp_at_succ

/-! ### begun, in memory -/

structure BgO (w wr : World) (A : Nat → Prop) (x : Nat) (st : St) (d : Cv) : Prop where
  fc : FullC wr A x st d
  lo : ∀ g, A g → w.heap.size ≤ g ∧ g < wr.heap.size
  bel : Below w.heap.size w wr

theorem BgO.below {w wr V : World} {A : Nat → Prop} {x : Nat} {st : St} {d : Cv} (h : BgO w wr A x st d) (hV : Below wr.heap.size wr V) : BgO w V A x st d :=
  ⟨h.fc.below hV, fun g hg => ⟨(h.lo g hg).1, Nat.lt_of_lt_of_le (h.lo g hg).2 hV.size⟩, h.bel.trans (hV.mono h.bel.size)⟩

theorem Below.only {n : Nat} {w wr w' : World} {A : Nat → Prop} (hb : Below n w wr) (ho : Only A wr w') (hA : ∀ g, A g → n ≤ g) (hn : n ≤ wr.heap.size) : Below n w w' :=
  ⟨ho.os.trans hb.os, ho.tape.trans hb.tape, ho.output.trans hb.output, Nat.le_trans hb.size ho.size, fun g hg => by rw [ho.block g (by omega) fun h => by have := hA g h; omega, hb.block g hg]⟩

theorem BgO.call {w wr w' : World} {A : Nat → Prop} {x : Nat} {st st' : St} {d d' : Cv} (h : BgO w wr A x st d) (hs : FullC w' (grow A wr w') x st' d') (ho : Only A wr w') : BgO w w' (grow A wr w') x st' d' := by
  have h1 := h.bel.size
  have h2 := ho.size
  refine ⟨hs, fun g hg => ?_, Below.only h.bel ho (fun g hg => (h.lo g hg).1) h1⟩
  rcases hg with hg | hg
  · exact ⟨(h.lo g hg).1, Nat.lt_of_lt_of_le (h.lo g hg).2 h2⟩
  · exact ⟨by omega, hg.2⟩

/-- Blocks of begun's own. -/
structure BgI (w wr : World) (A : Nat → Prop) (x : Nat) (st : St) (d : Cv) (rb : Nat) : Prop extends BgO w wr A x st d where
  red : Blk wr rb 51 #[.int .u8 200, .int .u8 0, .int .u8 0, .int .u8 255]
  rA : ¬ A rb

theorem BgI.below {w wr V : World} {A : Nat → Prop} {x rb : Nat} {st : St} {d : Cv} (h : BgI w wr A x st d rb) (hV : Below wr.heap.size wr V) : BgI w V A x st d rb :=
  ⟨h.toBgO.below hV, h.red.keep (hV.block _ (block_lt h.red)), h.rA⟩

theorem grow_not {A : Nat → Prop} {w w' : World} {g : Nat} (h : ¬ A g) (hl : g < w.heap.size) : ¬ grow A w w' g := fun e => e.elim h fun q => by omega

theorem BgI.call {w wr w' : World} {A : Nat → Prop} {x rb : Nat} {st st' : St} {d d' : Cv} (h : BgI w wr A x st d rb) (hs : FullC w' (grow A wr w') x st' d') (ho : Only A wr w') : BgI w w' (grow A wr w') x st' d' rb :=
  ⟨h.toBgO.call hs ho, h.red.keep (ho.block _ (block_lt h.red) h.rA), grow_not h.rA (block_lt h.red)⟩

structure BgP (w wr : World) (A : Nat → Prop) (x : Nat) (st : St) (d : Cv) (rb pb : Nat) (ps : Array Value) : Prop extends BgI w wr A x st d rb where
  pt : Blk wr pb 35 ps
  pA : ¬ A pb
  plo : w.heap.size ≤ pb

theorem BgP.below {w wr V : World} {A : Nat → Prop} {x rb pb : Nat} {st : St} {d : Cv} {ps : Array Value} (h : BgP w wr A x st d rb pb ps) (hV : Below wr.heap.size wr V) : BgP w V A x st d rb pb ps :=
  ⟨h.toBgI.below hV, h.pt.keep (hV.block _ (block_lt h.pt)), h.pA, h.plo⟩

theorem BgP.call {w wr w' : World} {A : Nat → Prop} {x rb pb : Nat} {st st' : St} {d d' : Cv} {ps : Array Value} (h : BgP w wr A x st d rb pb ps) (hs : FullC w' (grow A wr w') x st' d') (ho : Only A wr w') : BgP w w' (grow A wr w') x st' d' rb pb ps :=
  ⟨h.toBgI.call hs ho, h.pt.keep (ho.block _ (block_lt h.pt) h.pA), grow_not h.pA (block_lt h.pt), h.plo⟩

theorem FullC.ok {w : World} {A : Nat → Prop} {x : Nat} {st : St} {d : Cv} (h : FullC w A x st d) : CvOk d := let ⟨_, _, _, h1, _⟩ := h; h1.ok

/-! #### The calls -/

theorem bg_new (n : Nat) (hn : 1 ≤ n ∧ n ≤ 3) (w : World) : Calls Tryz.prog 26 #[.int .i64 8, .int .i64 7, .int .i64 n] w fun e w1 => ∃ x, e = .returned (.tuple #[.pointer (some ⟨x, 0, none⟩), .int .i64 0]) ∧ ∃ A L, L.length = n ∧ BgO w w1 A x bg0 (Cv.new 8 7 L) := by
  refine (paNew_ok 8 7 n w (by omega) (by omega) (by omega)).mono ?_
  rintro e w1 ⟨x, L, rfl, hc, hl, hb⟩
  exact ⟨x, rfl, _, L, by simpa using hl, hc, fun g hg => hg, hb⟩

theorem bg_mk {w wr : World} {A : Nat → Prop} {x : Nat} {d : Cv} (h : BgO w wr A x bg0 d) : Calls Tryz.prog 27 #[.pointer (some ⟨x, 0, none⟩), .int .i64 (-1)] wr fun e w1 => e = .returned (.tuple #[.int .i64 0, .int .i64 0]) ∧ ∃ A1, BgO w w1 A1 x bg1 d := by
  refine (fuMake_any bg0_fine.wf (-1) wr h.fc).mono ?_
  rintro e w1 ⟨rfl, h1, h2⟩
  rw [bg_make] at h1 ⊢
  exact ⟨rfl, _, h.call h1 h2⟩

theorem bg_att {w wr V : World} {A : Nat → Prop} {x rb B : Nat} {d : Cv} (h : BgI w wr A x bg1 d rb) (hV : Below wr.heap.size wr V) (hB : V.heap[B]? = some (.cells #[.int .u8 200, .int .u8 0, .int .u8 0, .int .u8 255] 51 (0, 0))) :
    Calls Tryz.prog 28 #[.pointer (some ⟨x, 0, none⟩), .int .i64 0, .int .i64 1, .int .i64 1, .slice (some ⟨B, 0, none⟩) 1 1] V fun e w1 => e = .returned (.int .i64 0) ∧ ∃ A1, BgI w w1 A1 x bg2 d rb := by
  have hpx : PixAt V (.slice (some ⟨B, 0, none⟩) 1 1) [((200, 0, 0, 255) : R4)] := by
    refine ⟨_, 1, rfl, fun _ => ⟨by simp, B, 0, rfl, fun k hk => ?_⟩⟩
    have hk0 : k = 0 := by simpa using hk
    subst hk0
    exact ⟨cell_of_row V B 0 _ _ _ hB, cell_of_row V B 1 _ _ _ hB, cell_of_row V B 2 _ _ _ hB, cell_of_row V B 3 _ _ _ hB⟩
  refine (fuAttach_any bg1_fine.wf 0 1 1 [((200, 0, 0, 255) : R4)] _ V (h.below hV).fc hpx (by simp [maxLen])).mono ?_
  rintro e w1 ⟨rfl, h1, h2⟩
  have e2 := bg_attach
  unfold bgF at e2
  rw [show ([((200, 0, 0, 255) : R4)]).length = 1 from rfl] at h1 ⊢
  rw [e2] at h1 ⊢
  exact ⟨rfl, _, (h.below hV).call h1 h2⟩

theorem bg_off {w wr : World} {A : Nat → Prop} {x rb : Nat} {d : Cv} (h : BgI w wr A x bg2 d rb) : Calls Tryz.prog 29 #[.pointer (some ⟨x, 0, none⟩), .int .i64 0, .int .i64 2, .int .i64 1] wr fun e w1 => e = .returned (.int .i64 0) ∧ ∃ A1, BgI w w1 A1 x bg3 d rb := by
  refine (fuOffset_any bg2_fine.wf 0 2 1 wr h.fc).mono ?_
  rintro e w1 ⟨rfl, h1, h2⟩
  rw [bg_offset] at h1 ⊢
  exact ⟨rfl, _, h.call h1 h2⟩

theorem bg_com {w wr : World} {A : Nat → Prop} {x rb n : Nat} {L : List Nat} (hn : 1 ≤ n) (hL : L.length = n) (h : BgI w wr A x bg3 (Cv.new 8 7 L) rb) : Calls Tryz.prog 30 #[.pointer (some ⟨x, 0, none⟩), .int .i64 0] wr fun e w1 => e = .returned (.int .i64 0) ∧ ∃ A1 d, BgI w w1 A1 x bg4 d rb ∧ Bg1 n d := by
  refine (fuCommit_any bg3_fine 0 wr h.fc).mono ?_
  rintro e w1 ⟨rfl, ⟨d, h1, h3⟩, h2⟩
  rw [bg_commit] at h1 ⊢
  exact ⟨rfl, _, d, h.call h1 h2, bg_first hn hL h.fc.ok h1.ok h3⟩

theorem bg_rp1 {w wr : World} {A : Nat → Prop} {x rb n : Nat} {d : Cv} (h : BgI w wr A x bg4 d rb) (hb : Bg1 n d) : Calls Tryz.prog 14 #[.pointer (some ⟨x, 0, none⟩), .int .i64 0] wr fun e w1 => ∃ ra rn rq, e = .returned (.tuple #[.agg #[.slice ra rn rq, .int .i64 1], .int .i64 0]) ∧ ∃ A1 d, BgI w w1 A1 x bg4 d rb ∧ Bg2 n d := by
  obtain ⟨hp, _⟩ := hb.age
  refine (fuRepaint_any bg4_fine.wf 0 hp (by rw [hb.old]; omega) wr h.fc).mono ?_
  rintro e w1 ⟨hi, rv, O, rfl, hG, hm, hr, hc, ho⟩
  obtain ⟨ra, rq, hrf⟩ := hr.form
  subst hrf
  have e1 := hb.paint hi hG hm
  refine ⟨ra, 1, rq, ?_, _, _, h.call hc ho, hb.next hi hG hm⟩
  rw [e1, show ([((0, 0, 8, 7) : R4)]).length = 1 from rfl, bg_laid]

theorem bg_look {w wr : World} {A : Nat → Prop} {x rb pb n : Nat} {d : Cv} {ps : Array Value} (h : BgP w wr A x bg4 d rb pb ps) (hb : Bg2 n d) : Calls Tryz.prog 31 #[.pointer (some ⟨x, 0, none⟩), .int .i64 0] wr fun e w1 => ∃ lg q, e = .returned (.tuple #[.slice (some ⟨lg, 0, none⟩) 56 q, .int .i64 1, .int .i64 0]) ∧ 56 ≤ q ∧ (w1.cell? ⟨lg, 40, none⟩ = some (.int .u8 200) ∧ w1.cell? ⟨lg, 41, none⟩ = some (.int .u8 0) ∧ w1.cell? ⟨lg, 42, none⟩ = some (.int .u8 0) ∧ w1.cell? ⟨lg, 43, none⟩ = some (.int .u8 255) ∧ w1.cell? ⟨lg, 44, none⟩ = some (.int .u8 0) ∧ w1.cell? ⟨lg, 45, none⟩ = some (.int .u8 0) ∧ w1.cell? ⟨lg, 46, none⟩ = some (.int .u8 0) ∧ w1.cell? ⟨lg, 47, none⟩ = some (.int .u8 255)) ∧ Below wr.heap.size wr w1 := by
  obtain ⟨hp, ha, h10, h11⟩ := hb.age
  refine (fuLook_any 0 hp wr h.fc).mono ?_
  rintro e w1 ⟨hi, v, rfl, ho, _, hbl⟩
  rw [hb.W, hb.H] at ho
  rw [ha]
  obtain ⟨g, cap, e1, _, _⟩ := World.ownsRow.form ho (by omega)
  have hc := own_cap (by rw [e1] at ho; exact ho)
  subst e1
  refine ⟨g, cap, rfl, hc, ?_, hbl⟩
  have hl : (pxL d.bufs[0].f (8 * 7)).length = 56 := pxL_len _ _
  have key : ∀ (k : Nat) (hk : k < 56), (pxL d.bufs[0].f (8 * 7))[k]'(by rw [hl]; exact hk) = d.bufs[0].f k := fun k hk => by simp [pxL]
  obtain ⟨p0, p1, p2, p3⟩ := pixCells_at (pxL d.bufs[0].f (8 * 7)) 10 (by rw [hl]; omega)
  obtain ⟨q0, q1, q2, q3⟩ := pixCells_at (pxL d.bufs[0].f (8 * 7)) 11 (by rw [hl]; omega)
  rw [key 10 (by omega), h10] at p0 p1 p2 p3
  rw [key 11 (by omega), h11] at q0 q1 q2 q3
  have cc : ∀ j u, (pixCells (pxL d.bufs[0].f (8 * 7)))[j]? = some u → w1.cell? ⟨g, j, none⟩ = some u := fun j u hu => by
    have := World.ownsRow.cells ho (g := g) rfl j u hu
    rw [add_at] at this
    simpa using this
  exact ⟨cc _ _ p0, cc _ _ p1, cc _ _ p2, cc _ _ p3, cc _ _ q0, cc _ _ q1, cc _ _ q2, cc _ _ q3⟩

theorem bg_des {w wr : World} {A : Nat → Prop} {x rb pb n : Nat} {d : Cv} {ps : Array Value} (h : BgP w wr A x bg4 d rb pb ps) (hb : Bg2 n d) : Calls Tryz.prog 32 #[.pointer (some ⟨x, 0, none⟩), .int .i64 0] wr fun e w1 => e = .returned (.int .i64 0) ∧ ∃ A1 d, BgP w w1 A1 x bg5 d rb pb ps ∧ Bg3 n d := by
  refine (fuDestroy_any bg4_fine.wf 0 wr h.fc).mono ?_
  rintro e w1 ⟨rfl, ⟨d, h1, h3⟩, h2⟩
  rw [bg_destroy] at h1 ⊢
  exact ⟨rfl, _, d, h.call h1 h2, hb.next h1.ok h3⟩

theorem bg_rp2 {w wr : World} {A : Nat → Prop} {x rb pb n : Nat} {d : Cv} {ps : Array Value} (h : BgP w wr A x bg5 d rb pb ps) (hb : Bg3 n d) : Calls Tryz.prog 14 #[.pointer (some ⟨x, 0, none⟩), .int .i64 0] wr fun e w1 => ∃ ra rq, e = .returned (.tuple #[.agg #[.slice ra 1 rq, .int .i64 0], .int .i64 0]) ∧ ∃ A1 d, BgP w w1 A1 x bg5 d rb pb ps ∧ BgD n d := by
  obtain ⟨hp, _⟩ := hb.age
  refine (fuRepaint_any bg5_fine.wf 0 hp (by rw [hb.old]; omega) wr h.fc).mono ?_
  rintro e w1 ⟨hi, rv, O, rfl, hG, hm, hr, hc, ho⟩
  obtain ⟨ra, rq, hrf⟩ := hr.form
  subst hrf
  have e1 := hb.paint hi hG hm
  refine ⟨ra, rq, ?_, _, _, h.call hc ho, hb.next hi hm⟩
  rw [e1, show ([((2, 1, 3, 2) : R4)]).length = 1 from rfl, bg_none]

/-- Another Painted is stored. -/
theorem BgP.put {w wr : World} {A : Nat → Prop} {x rb pb : Nat} {st : St} {d : Cv} {a b : Value} (h : BgP w wr A x st d rb pb #[a, b]) (u v : Value) : BgP w ((wr.setCell ⟨pb, 0, none⟩ u).setCell ⟨pb, 1, none⟩ v) A x st d rb pb #[u, v] := by
  have hne : rb ≠ pb := fun e => by
    have h1 := h.red
    rw [e] at h1
    have := h1.symm.trans h.pt
    simp at this
  have hk : ∀ g, g ≠ pb → ((wr.setCell ⟨pb, 0, none⟩ u).setCell ⟨pb, 1, none⟩ v).heap[g]? = wr.heap[g]? := fun g hg => by
    rw [heap_setCell_other _ ⟨pb, 1, none⟩ g v hg, heap_setCell_other _ ⟨pb, 0, none⟩ g u hg]
  refine ⟨⟨⟨h.fc.keep (by simp) fun g hg _ => hk g fun e => h.pA (e ▸ hg), fun g hg => ?_, ?_⟩, h.red.keep (hk rb hne), h.rA⟩, (h.pt.set 0 u).set 1 v, h.pA, h.plo⟩
  · have := h.lo g hg
    exact ⟨this.1, by simp; exact this.2⟩
  · exact (h.bel.setCell (p := ⟨pb, 0, none⟩) h.plo u).setCell (p := ⟨pb, 1, none⟩) h.plo v

/-- The alive block is laid. -/
theorem bg_done {w wr : World} {A : Nat → Prop} {x rb pb : Nat} {d : Cv} {ps : Array Value} (h : BgP w wr A x bg5 d rb pb ps) : AlvOk (wr.alloc (.cells #[.pointer (some ⟨x, 0, none⟩), .slice none 0 0] 40)) (fun g => w.heap.size ≤ g ∧ g < (wr.alloc (.cells #[.pointer (some ⟨x, 0, none⟩), .slice none 0 0] 40)).heap.size) wr.heap.size bg5 d [] ∧ Below w.heap.size w (wr.alloc (.cells #[.pointer (some ⟨x, 0, none⟩), .slice none 0 0] 40)) := by
  have hb : Below wr.heap.size wr (wr.alloc (.cells #[.pointer (some ⟨x, 0, none⟩), .slice none 0 0] 40)) := (Below.refl _ _).alloc (Nat.le_refl _) _
  have h2 := h.below hb
  have hs := h.bel.size
  refine ⟨⟨A, x, .slice none 0 0, heap_alloc_new wr _, World.ownsRow_nil _ _ _ _, h2.fc, fun g hg => ⟨h2.lo g hg, (h2.lo g hg).2⟩, ⟨hs, by simp⟩, fun hA => ?_, fun g hg => by simp [Value.ownBlock] at hg⟩, h2.bel⟩
  have := (h.lo _ hA).2
  omega

end Go.Proofs.YtofinpocigbbeaaGreat
