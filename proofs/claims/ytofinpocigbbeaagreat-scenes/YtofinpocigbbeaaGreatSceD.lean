import Derived.Test.YtofinpocigbbeaaGreatSceC
namespace Go.Proofs.YtofinpocigbbeaaGreat

/-! ### The calls: the answer, and what is then -/

def opMake (st : St) (p : Int) : Int × Int × St :=
  if p = -1 ∨ st.isB p = true then (if st.order.length < 12 ∧ st.sfs.length < 60 then (st.sfs.length, 0, mk st p) else (0, 9, st)) else (0, 6, st)

def opDestroy (st : St) (id : Int) : Int × St := if st.isB id = true then (0, rm st id.toNat) else (6, st)

def sfOff (x y : Int) (s : Sf) : Sf := { s with next := { s.next with x := x, y := y } }
def opOffset (st : St) (id x y : Int) : Int × St :=
  if st.isB id = true then (if -1000 ≤ x ∧ x ≤ 1000 ∧ -1000 ≤ y ∧ y ≤ 1000 then (0, upd st id.toNat (sfOff x y)) else (7, st)) else (6, st)

def sfClip (r : R4) (s : Sf) : Sf := { s with next := { s.next with cut := true, clip := r } }
def opClip (st : St) (id : Int) (r : R4) (ok : Bool) : Int × St :=
  if st.isB id = true then (if ok = true then (0, upd st id.toNat (sfClip r)) else (3, st)) else (6, st)

def sfUnclip (s : Sf) : Sf := { s with next := { s.next with cut := false, clip := (0, 0, 0, 0) } }
def opUnclip (st : St) (id : Int) : Int × St := if st.isB id = true then (0, upd st id.toNat sfUnclip) else (6, st)

def sfBuf (w h : Int) (f : Nat → R4) (s : Sf) : Sf := { s with next := { s.next with w := w, h := h, pix := f } }
def opAttach (st : St) (id w h : Int) (n : Nat) (ok : Bool) (f : Nat → R4) : Int × St :=
  if st.isB id = true then (if 0 ≤ w ∧ w ≤ 24 ∧ 0 ≤ h ∧ h ≤ 24 then (if (n : Int) = w * h ∧ ok = true then (0, upd st id.toNat (sfBuf w h f)) else (4, st)) else (5, st)) else (6, st)

def sfHint (f : Int → Int → Bool) (s : Sf) : Sf := { s with next := { s.next with hint := f } }
def opOpaque (st : St) (id : Int) (n : Nat) (ok : Bool) (f : Int → Int → Bool) : Int × St :=
  if st.isB id = true then (if 20 < n then (2, st) else if ok = true then (0, upd st id.toNat (sfHint f)) else (3, st)) else (6, st)

def sfStack (s : Int) (b : Bool) (f : Sf) : Sf := { f with ask := true, sib := s, above := b }
def opStack (st : St) (id s : Int) (b : Bool) : Int × St :=
  if st.isB id = true ∧ st.isB s = true then (if id ≠ s ∧ (st.sf id.toNat).parent = (st.sf s.toNat).parent then (0, upd st id.toNat (sfStack s b)) else (8, st)) else (6, st)

def opCommit (st : St) (id : Int) : Int × St := if st.isB id = true then (0, cm st id.toNat) else (6, st)

/-- What is so between calls. -/
structure Fine (st : St) : Prop where
  wf : Wf st
  sib : SibOk st

theorem Fine.upd {st : St} (h : Fine st) {i : Nat} (hi : i < st.sfs.length) {g : Sf → Sf} (hp : ∀ s, (g s).parent = s.parent) (ha : ∀ s, (g s).alive = s.alive) (hl : LookOk (g (st.sf i)).now ∧ LookOk (g (st.sf i)).next) (hs : ∀ s, (g s).ask = s.ask ∧ (g s).sib = s.sib) : Fine (upd st i g) := by
  have hA := upd_alike (g := g) hi hp
  refine ⟨upd_wf h.wf hi hp ha hl, fun j hj hk => ?_⟩
  have hj2 : j ∈ st.order := hj
  have e : ((Go.Proofs.YtofinpocigbbeaaGreat.upd st i g).sf j).ask = (st.sf j).ask ∧ ((Go.Proofs.YtofinpocigbbeaaGreat.upd st i g).sf j).sib = (st.sf j).sib := by
    rw [upd_sf st i g j hi]
    split
    · rename_i e; subst e; exact hs _
    · exact ⟨rfl, rfl⟩
  rw [e.1] at hk
  obtain ⟨s, h1, h2, h3, h4⟩ := h.sib j hj2 hk
  exact ⟨s, by rw [e.2]; exact h1, h2, by rw [hA.len]; exact h3, by rw [hA.par, hA.par]; exact h4⟩

theorem Fine.make {st : St} (h : Fine st) {p : Int} (hp : p = -1 ∨ ∃ i : Nat, p = i ∧ i ∈ st.order) (h1 : st.order.length < 12) (h2 : st.sfs.length < 60) : Fine (Go.Proofs.YtofinpocigbbeaaGreat.mk st p) := by
  refine ⟨mk_wf h.wf hp h1 h2, fun j hj hk => ?_⟩
  have hj2 : j ∈ st.order ++ [st.sfs.length] := hj
  rw [mk_sf] at hk
  rw [List.mem_append, List.mem_singleton] at hj2
  rcases hj2 with hj2 | rfl
  · have hjl := h.wf.lt hj2
    rw [if_neg (by omega)] at hk
    obtain ⟨s, a1, a2, a3, a4⟩ := h.sib j hj2 hk
    exact ⟨s, by rw [mk_sf, if_neg (by omega)]; exact a1, a2, by rw [mk_len]; omega, by rw [mk_sf, if_neg (by omega), mk_sf, if_neg (by omega)]; exact a4⟩
  · rw [if_pos rfl] at hk
    cases hk

theorem Fine.rm {st : St} (h : Fine st) (id : Nat) : Fine (Go.Proofs.YtofinpocigbbeaaGreat.rm st id) := by
  refine ⟨rm_wf h.wf id, fun j hj hk => ?_⟩
  have hj2 : j ∈ st.order.filter fun (o : Nat) => !(st.chain o).contains id := hj
  rw [List.mem_filter] at hj2
  have e : ((Go.Proofs.YtofinpocigbbeaaGreat.rm st id).sf j).ask = (st.sf j).ask ∧ ((Go.Proofs.YtofinpocigbbeaaGreat.rm st id).sf j).sib = (st.sf j).sib := by
    rw [rm_sf st h.wf]
    split <;> exact ⟨rfl, rfl⟩
  rw [e.1] at hk
  obtain ⟨s, h1, h2, h3, h4⟩ := h.sib j hj2.1 hk
  exact ⟨s, by rw [e.2]; exact h1, h2, by rw [rm_len]; exact h3, by rw [rm_par st h.wf, rm_par st h.wf]; exact h4⟩

theorem Fine.cm {st : St} (h : Fine st) {id : Nat} (hid : id ∈ st.order) : Fine (Go.Proofs.YtofinpocigbbeaaGreat.cm st id) := by
  have hi := h.wf.lt hid
  refine ⟨cm_wf h.wf h.sib hid, fun j hj hk => ?_⟩
  rw [(cm_perm h.wf h.sib hid).mem_iff] at hj
  rw [cm_sf st id j hi] at hk
  by_cases e : j = id
  · rw [if_pos e] at hk
    cases hk
  · rw [if_neg e] at hk
    obtain ⟨s, h1, h2, h3, h4⟩ := h.sib j hj hk
    exact ⟨s, by rw [cm_sf st id j hi, if_neg e]; exact h1, h2, by rw [cm_len]; exact h3, by rw [cm_par st id s hi, cm_par st id j hi]; exact h4⟩

theorem Fine.stack {st : St} (h : Fine st) {i s : Nat} (hi : i < st.sfs.length) (hs : s ∈ st.order) (hne : i ≠ s) (hp : (st.sf i).parent = (st.sf s).parent) (b : Bool) : Fine (Go.Proofs.YtofinpocigbbeaaGreat.upd st i (sfStack s b)) := by
  have hA := upd_alike (g := sfStack s b) hi (fun _ => rfl)
  refine ⟨upd_wf h.wf hi (fun _ => rfl) (fun _ => rfl) ⟨(h.wf.lk i).1, (h.wf.lk i).2⟩, fun j hj hk => ?_⟩
  have hj2 : j ∈ st.order := hj
  by_cases e : j = i
  · subst e
    exact ⟨s, by rw [upd_sf st j _ j hi, if_pos rfl]; rfl, fun e => hne e.symm, by rw [hA.len]; exact h.wf.lt hs, by rw [hA.par, hA.par]; exact hp.symm⟩
  · rw [upd_sf st i _ j hi, if_neg e] at hk
    obtain ⟨t, h1, h2, h3, h4⟩ := h.sib j hj2 hk
    exact ⟨t, by rw [upd_sf st i _ j hi, if_neg e]; exact h1, h2, by rw [hA.len]; exact h3, by rw [hA.par, hA.par]; exact h4⟩

end Go.Proofs.YtofinpocigbbeaaGreat
