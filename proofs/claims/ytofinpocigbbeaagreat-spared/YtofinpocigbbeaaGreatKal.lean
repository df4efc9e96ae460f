import Derived.Test.YtofinpocigbbeaaGreatKah
import Derived.Test.YtofinpocigbbeaaGreatKai
import Derived.Test.YtofinpocigbbeaaGreatKak
import Derived.Test.YtofinpocigbbeaaGreatKaf
import Derived.Laws.StructEq
namespace Go.Proofs.YtofinpocigbbeaaGreat

theorem dfs_sub {st : St} (hw : Wf st) {p : Int} (hp : -1 ≤ p) {i : Nat} (h : i ∈ st.dfs p) : i ∈ st.order := by
  rw [dfs_step hw p hp, List.mem_flatMap] at h
  obtain ⟨k, hk, hi⟩ := h
  rcases List.mem_cons.1 hi with rfl | hi
  · exact (kids_mem.1 hk).1
  · exact ((dfs_mem hw st.sfs.length k (by omega) i).1 hi).1

theorem dfs_nodup_any {st : St} (hw : Wf st) {p : Int} (hp : -1 ≤ p) : (st.dfs p).Nodup := by
  rw [dfs_step hw p hp]
  unfold List.Nodup
  rw [List.pairwise_flatMap]
  constructor
  · intro i _
    exact List.nodup_cons.2 ⟨fun h => ((dfs_mem hw st.sfs.length i (by omega) i).1 h).2.1 rfl, dfs_nodup hw st.sfs.length i (by omega)⟩
  · have hk : (st.kids p).Nodup := hw.nd.filter _
    refine (List.Pairwise.and_mem.1 hk).imp ?_
    rintro a b ⟨ha, hb, hab⟩ x hx y hy rfl
    have ca : a ∈ st.chain x := by
      rcases List.mem_cons.1 hx with rfl | hx
      · rw [chain_step hw.par]; simp
      · exact ((dfs_mem hw st.sfs.length a (by omega) x).1 hx).2.2
    have cb : b ∈ st.chain x := by
      rcases List.mem_cons.1 hy with rfl | hy
      · rw [chain_step hw.par]; simp
      · exact ((dfs_mem hw st.sfs.length b (by omega) x).1 hy).2.2
    exact hab (chain_two hw (kids_mem.1 ha).2 (kids_mem.1 hb).2 (x + 1) x (by omega) ca cb)

theorem nodup_sub_len {l m : List Nat} (hl : l.Nodup) (hm : m.Nodup) (h : ∀ i ∈ l, i ∈ m) : l.length ≤ m.length := by
  have hp : l.Perm (m.filter fun i => l.contains i) := by
    rw [List.perm_ext_iff_of_nodup hl (hm.filter _)]
    intro a
    rw [List.mem_filter]
    simp
    exact h a
  rw [hp.length_eq]
  exact List.length_filter_le _ _

theorem dfs_len {st : St} (hw : Wf st) {p : Int} (hp : -1 ≤ p) : (st.dfs p).length ≤ 12 :=
  Nat.le_trans (nodup_sub_len (dfs_nodup_any hw hp) hw.nd fun _ h => dfs_sub hw hp h) hw.len

/-- What is gathered behind k of the surfaces. -/
def St.upto (st : St) (p : Int) (k : Nat) : List Nat := ((st.order.take k).filter fun i => decide ((st.sf i).parent = p)).flatMap fun i => i :: st.dfs i

theorem upto_all {st : St} (hw : Wf st) {p : Int} (hp : -1 ≤ p) {k : Nat} (hk : st.order.length ≤ k) : st.upto p k = st.dfs p := by
  unfold St.upto
  rw [List.take_of_length_le hk, dfs_step hw p hp]
  rfl

theorem upto_next {st : St} {p : Int} {k : Nat} (hk : k < st.order.length) : st.upto p (k + 1) = st.upto p k ++ if (st.sf st.order[k]).parent = p then st.order[k] :: st.dfs st.order[k] else [] := by
  unfold St.upto
  rw [List.take_succ_eq_append_getElem hk, List.filter_append, List.flatMap_append, List.filter_cons]
  congr 1
  by_cases e : (st.sf st.order[k]).parent = p
  · rw [if_pos (by simpa using e), if_pos e]; simp
  · rw [if_neg (by simpa using e), if_neg e]; rfl

theorem upto_mono {st : St} {p : Int} (k d : Nat) : (st.upto p k).length ≤ (st.upto p (k + d)).length := by
  induction d with
  | zero => exact Nat.le_refl _
  | succ d ih =>
    refine Nat.le_trans ih ?_
    by_cases h : k + d < st.order.length
    · rw [show k + (d + 1) = k + d + 1 by omega, upto_next h, List.length_append]
      omega
    · unfold St.upto
      rw [List.take_of_length_le (by omega), List.take_of_length_le (by omega)]
      exact Nat.le_refl _

theorem upto_len {st : St} (hw : Wf st) {p : Int} (hp : -1 ≤ p) (k : Nat) : (st.upto p k).length ≤ 12 := by
  have h := upto_mono (st := st) (p := p) k st.order.length
  rw [upto_all hw hp (show st.order.length ≤ k + st.order.length by omega)] at h
  exact Nat.le_trans h (dfs_len hw hp)

theorem need_kid {st : St} (hw : Wf st) {p : Int} (_hp : -1 ≤ p) {i : Nat} (hi : i ∈ st.order) (h : (st.sf i).parent = p) : st.need i < st.need p := by
  have h1 := hw.lt hi
  have h2 := hw.par i
  unfold St.need
  omega

end Go.Proofs.YtofinpocigbbeaaGreat

namespace Go.Proofs.YtofinpocigbbeaaGreat

/-! ### The calls: the answer, and what is then -/

def opMake (st : St) (p : Int) : Int × Int × St :=
  if p = -1 ∨ st.isB p = true then (if st.order.length < 12 ∧ st.sfs.length < 60 then (st.sfs.length, 0, mk st p) else (0, 9, st)) else (0, 6, st)

def opDestroy (st : St) (id : Int) : Int × St := if st.isB id = true then (0, rm st id.toNat) else (6, st)

def sfOff (x y : Int) (s : Sf) : Sf := { s with next := { s.next with x := x, y := y } }
def opOffset (st : St) (id x y : Int) : Int × St :=
  if st.isB id = true then (if -1000 ≤ x ∧ x ≤ 1000 ∧ -1000 ≤ y ∧ y ≤ 1000 then (0, upd st id.toNat (sfOff x y)) else (7, st)) else (6, st)

def sfClip (r : R4) (s : Sf) : Sf := { s with next := { s.next with cut := true, clip := r } }
def opClip (st : St) (id : Int) (r : R4) (ok : Bool) : Int × St :=
  if st.isB id = true then (if ok = true then (0, upd st id.toNat (sfClip r)) else (3, st)) else (6, st)

def sfUnclip (s : Sf) : Sf := { s with next := { s.next with cut := false, clip := (0, 0, 0, 0) } }
def opUnclip (st : St) (id : Int) : Int × St := if st.isB id = true then (0, upd st id.toNat sfUnclip) else (6, st)

def sfBuf (w h : Int) (f : Nat → R4) (s : Sf) : Sf := { s with next := { s.next with w := w, h := h, pix := f } }
def opAttach (st : St) (id w h : Int) (n : Nat) (ok : Bool) (f : Nat → R4) : Int × St :=
  if st.isB id = true then (if 0 ≤ w ∧ w ≤ 24 ∧ 0 ≤ h ∧ h ≤ 24 then (if (n : Int) = w * h ∧ ok = true then (0, upd st id.toNat (sfBuf w h f)) else (4, st)) else (5, st)) else (6, st)

def sfHint (f : Int → Int → Bool) (s : Sf) : Sf := { s with next := { s.next with hint := f } }
def opOpaque (st : St) (id : Int) (n : Nat) (ok : Bool) (f : Int → Int → Bool) : Int × St :=
  if st.isB id = true then (if 20 < n then (2, st) else if ok = true then (0, upd st id.toNat (sfHint f)) else (3, st)) else (6, st)

def sfStack (s : Int) (b : Bool) (f : Sf) : Sf := { f with ask := true, sib := s, above := b }
def opStack (st : St) (id s : Int) (b : Bool) : Int × St :=
  if st.isB id = true ∧ st.isB s = true then (if id ≠ s ∧ (st.sf id.toNat).parent = (st.sf s.toNat).parent then (0, upd st id.toNat (sfStack s b)) else (8, st)) else (6, st)

def opCommit (st : St) (id : Int) : Int × St := if st.isB id = true then (0, cm st id.toNat) else (6, st)

/-- What is so between calls. -/
structure Fine (st : St) : Prop where
  wf : Wf st
  sib : SibOk st

theorem Fine.upd {st : St} (h : Fine st) {i : Nat} (hi : i < st.sfs.length) {g : Sf → Sf} (hp : ∀ s, (g s).parent = s.parent) (ha : ∀ s, (g s).alive = s.alive) (hl : LookOk (g (st.sf i)).now ∧ LookOk (g (st.sf i)).next) (hs : ∀ s, (g s).ask = s.ask ∧ (g s).sib = s.sib) : Fine (upd st i g) := by
  have hA := upd_alike (g := g) hi hp
  refine ⟨upd_wf h.wf hi hp ha hl, fun j hj hk => ?_⟩
  have hj2 : j ∈ st.order := hj
  have e : ((Go.Proofs.YtofinpocigbbeaaGreat.upd st i g).sf j).ask = (st.sf j).ask ∧ ((Go.Proofs.YtofinpocigbbeaaGreat.upd st i g).sf j).sib = (st.sf j).sib := by
    rw [upd_sf st i g j hi]
    split
    · rename_i e; subst e; exact hs _
    · exact ⟨rfl, rfl⟩
  rw [e.1] at hk
  obtain ⟨s, h1, h2, h3, h4⟩ := h.sib j hj2 hk
  exact ⟨s, by rw [e.2]; exact h1, h2, by rw [hA.len]; exact h3, by rw [hA.par, hA.par]; exact h4⟩

theorem Fine.make {st : St} (h : Fine st) {p : Int} (hp : p = -1 ∨ ∃ i : Nat, p = i ∧ i ∈ st.order) (h1 : st.order.length < 12) (h2 : st.sfs.length < 60) : Fine (Go.Proofs.YtofinpocigbbeaaGreat.mk st p) := by
  refine ⟨mk_wf h.wf hp h1 h2, fun j hj hk => ?_⟩
  have hj2 : j ∈ st.order ++ [st.sfs.length] := hj
  rw [mk_sf] at hk
  rw [List.mem_append, List.mem_singleton] at hj2
  rcases hj2 with hj2 | rfl
  · have hjl := h.wf.lt hj2
    rw [if_neg (by omega)] at hk
    obtain ⟨s, a1, a2, a3, a4⟩ := h.sib j hj2 hk
    exact ⟨s, by rw [mk_sf, if_neg (by omega)]; exact a1, a2, by rw [mk_len]; omega, by rw [mk_sf, if_neg (by omega), mk_sf, if_neg (by omega)]; exact a4⟩
  · rw [if_pos rfl] at hk
    cases hk

theorem Fine.rm {st : St} (h : Fine st) (id : Nat) : Fine (Go.Proofs.YtofinpocigbbeaaGreat.rm st id) := by
  refine ⟨rm_wf h.wf id, fun j hj hk => ?_⟩
  have hj2 : j ∈ st.order.filter fun (o : Nat) => !(st.chain o).contains id := hj
  rw [List.mem_filter] at hj2
  have e : ((Go.Proofs.YtofinpocigbbeaaGreat.rm st id).sf j).ask = (st.sf j).ask ∧ ((Go.Proofs.YtofinpocigbbeaaGreat.rm st id).sf j).sib = (st.sf j).sib := by
    rw [rm_sf st h.wf]
    split <;> exact ⟨rfl, rfl⟩
  rw [e.1] at hk
  obtain ⟨s, h1, h2, h3, h4⟩ := h.sib j hj2.1 hk
  exact ⟨s, by rw [e.2]; exact h1, h2, by rw [rm_len]; exact h3, by rw [rm_par st h.wf, rm_par st h.wf]; exact h4⟩

theorem Fine.cm {st : St} (h : Fine st) {id : Nat} (hid : id ∈ st.order) : Fine (Go.Proofs.YtofinpocigbbeaaGreat.cm st id) := by
  have hi := h.wf.lt hid
  refine ⟨cm_wf h.wf h.sib hid, fun j hj hk => ?_⟩
  rw [(cm_perm h.wf h.sib hid).mem_iff] at hj
  rw [cm_sf st id j hi] at hk
  by_cases e : j = id
  · rw [if_pos e] at hk
    cases hk
  · rw [if_neg e] at hk
    obtain ⟨s, h1, h2, h3, h4⟩ := h.sib j hj hk
    exact ⟨s, by rw [cm_sf st id j hi, if_neg e]; exact h1, h2, by rw [cm_len]; exact h3, by rw [cm_par st id s hi, cm_par st id j hi]; exact h4⟩

theorem Fine.stack {st : St} (h : Fine st) {i s : Nat} (hi : i < st.sfs.length) (hs : s ∈ st.order) (hne : i ≠ s) (hp : (st.sf i).parent = (st.sf s).parent) (b : Bool) : Fine (Go.Proofs.YtofinpocigbbeaaGreat.upd st i (sfStack s b)) := by
  have hA := upd_alike (g := sfStack s b) hi (fun _ => rfl)
  refine ⟨upd_wf h.wf hi (fun _ => rfl) (fun _ => rfl) ⟨(h.wf.lk i).1, (h.wf.lk i).2⟩, fun j hj hk => ?_⟩
  have hj2 : j ∈ st.order := hj
  by_cases e : j = i
  · subst e
    exact ⟨s, by rw [upd_sf st j _ j hi, if_pos rfl]; rfl, fun e => hne e.symm, by rw [hA.len]; exact h.wf.lt hs, by rw [hA.par, hA.par]; exact hp.symm⟩
  · rw [upd_sf st i _ j hi, if_neg e] at hk
    obtain ⟨t, h1, h2, h3, h4⟩ := h.sib j hj2 hk
    exact ⟨t, by rw [upd_sf st i _ j hi, if_neg e]; exact h1, h2, by rw [hA.len]; exact h3, by rw [hA.par, hA.par]; exact h4⟩

end Go.Proofs.YtofinpocigbbeaaGreat

namespace Go.Proofs.YtofinpocigbbeaaGreat
open Go.RowKit

def fitP (r : R4) : Bool := fitB r.1 r.2.1 r.2.2.1 r.2.2.2

/-- A view's cells. -/
def vCells (st : St) (i : Nat) : List Value := [.int .i64 (i : Int), .int .i64 (st.px i), .int .i64 (st.py i), .int .i64 (st.sf i).now.w, .int .i64 (st.sf i).now.h, .int .i64 (st.seen i).1, .int .i64 (st.seen i).2.1, .int .i64 (st.seen i).2.2.1, .int .i64 (st.seen i).2.2.2]

def OwnV (w : World) (base : Nat) (v : Value) (st : St) (L : List Nat) : Prop := w.ownsRow base 59 9 v L.length (L.flatMap (vCells st))

/-- What can be seen of some surfaces. -/
def St.vis (st : St) (L : List Nat) : List Nat := L.filter fun i => has4 (st.seen i)

theorem vis_next {st : St} {L : List Nat} {k : Nat} (hk : k < L.length) : st.vis (L.take (k + 1)) = st.vis (L.take k) ++ if has4 (st.seen L[k]) = true then [L[k]] else [] := by
  unfold St.vis
  rw [List.take_succ_eq_append_getElem hk, List.filter_append, List.filter_cons]
  rfl

theorem viewInfo : (Tryz.prog.info? 59).map (fun i => (i.zero, i.size, i.bytes)) = some (some (.agg #[.int .i64 0, .int .i64 0, .int .i64 0, .int .i64 0, .int .i64 0, .int .i64 0, .int .i64 0, .int .i64 0, .int .i64 0]), 9, 72) := by kernel_rfl

def ViewsPost (st : St) (w : World) (e : Ending) (w' : World) : Prop := ∃ v, e = .returned v ∧ OwnV w' w.heap.size v st (st.vis (st.dfs (-1))) ∧ Below w.heap.size w w'

end Go.Proofs.YtofinpocigbbeaaGreat

namespace Go.Proofs.YtofinpocigbbeaaGreat
open Go.RowKit

/-! ### What is so between calls stays so -/

theorem Fine.new {W H : Int} (hW : 1 ≤ W ∧ W ≤ 24) (hH : 1 ≤ H ∧ H ≤ 24) : Fine ⟨W, H, [], []⟩ := by
  have e : ∀ i, St.sf ⟨W, H, [], []⟩ i = sf0 := fun i => rfl
  refine ⟨⟨fun i => ?_, List.nodup_nil, fun i => ?_, fun i hi => (by cases hi), (by simp), (by simp), hW, hH, fun i => ?_⟩, fun i hi => (by cases hi)⟩
  · rw [e]
    unfold sf0
    simp
    omega
  · simp
  · rw [e]
    exact ⟨look0_ok, look0_ok⟩

theorem fine_make {st : St} (h : Fine st) (p : Int) : Fine (opMake st p).2.2 := by
  unfold opMake
  split
  · rename_i hp
    split
    · rename_i hl
      refine h.make (hp.imp id fun hb => ?_) hl.1 hl.2
      exact (isB_iff h.wf p).1 hb
    · exact h
  · exact h

theorem fine_destroy {st : St} (h : Fine st) (id : Int) : Fine (opDestroy st id).2 := by
  unfold opDestroy
  split
  · exact h.rm _
  · exact h

theorem isB_lt {st : St} (h : Fine st) {id : Int} (hb : st.isB id = true) : id.toNat ∈ st.order ∧ id.toNat < st.sfs.length ∧ id = (id.toNat : Int) := by
  obtain ⟨i, rfl, hi⟩ := (isB_iff h.wf id).1 hb
  exact ⟨by simpa using hi, by simpa using h.wf.lt hi, by simp⟩

theorem fine_commit {st : St} (h : Fine st) (id : Int) : Fine (opCommit st id).2 := by
  unfold opCommit
  split
  · rename_i hb
    exact h.cm (isB_lt h hb).1
  · exact h

theorem fine_offset {st : St} (h : Fine st) (id x y : Int) : Fine (opOffset st id x y).2 := by
  unfold opOffset
  split
  · rename_i hb
    split
    · rename_i hx
      have q := (h.wf.lk id.toNat).2
      exact h.upd (isB_lt h hb).2.1 (fun _ => rfl) (fun _ => rfl) ⟨(h.wf.lk _).1, ⟨q.w, q.h, ⟨hx.1, hx.2.1⟩, ⟨hx.2.2.1, hx.2.2.2⟩, q.c0, q.c1, q.c2, q.c3, q.pix⟩⟩ (fun _ => ⟨rfl, rfl⟩)
    · exact h
  · exact h

theorem fine_clip {st : St} (h : Fine st) (id : Int) (r : R4) : Fine (opClip st id r (fitR r)).2 := by
  unfold opClip
  split
  · rename_i hb
    split
    · rename_i hx
      unfold fitR at hx
      have hx := of_decide_eq_true hx
      have q := (h.wf.lk id.toNat).2
      refine h.upd (isB_lt h hb).2.1 (fun _ => rfl) (fun _ => rfl) ⟨(h.wf.lk _).1, ⟨q.w, q.h, q.x, q.y, ?_, ?_, ?_, ?_, q.pix⟩⟩ (fun _ => ⟨rfl, rfl⟩) <;> (simp only [sfClip]; omega)
    · exact h
  · exact h

theorem fine_unclip {st : St} (h : Fine st) (id : Int) : Fine (opUnclip st id).2 := by
  unfold opUnclip
  split
  · rename_i hb
    have q := (h.wf.lk id.toNat).2
    refine h.upd (isB_lt h hb).2.1 (fun _ => rfl) (fun _ => rfl) ⟨(h.wf.lk _).1, ⟨q.w, q.h, q.x, q.y, ?_, ?_, ?_, ?_, q.pix⟩⟩ (fun _ => ⟨rfl, rfl⟩) <;> simp [sfUnclip]
  · exact h

def ByteL (l : List R4) : Prop := ∀ r ∈ l, (0 ≤ r.1 ∧ 0 ≤ r.2.1 ∧ 0 ≤ r.2.2.1 ∧ r.2.2.2 ≤ 255)

theorem fine_attach {st : St} (h : Fine st) (id a b : Int) (l : List R4) (hl : ByteL l) : Fine (opAttach st id a b l.length (l.all fitP) fun k => l.getD k (0, 0, 0, 0)).2 := by
  unfold opAttach
  split
  · rename_i hb
    split
    · rename_i hx
      split
      · rename_i hy
        have q := (h.wf.lk id.toNat).2
        refine h.upd (isB_lt h hb).2.1 (fun _ => rfl) (fun _ => rfl) ⟨(h.wf.lk _).1, ⟨⟨hx.1, hx.2.1⟩, ⟨hx.2.2.1, hx.2.2.2⟩, q.x, q.y, q.c0, q.c1, q.c2, q.c3, fun k hk => ?_⟩⟩ (fun _ => ⟨rfl, rfl⟩)
        have hk2 : k < l.length := by
          have e : ((k : Int)) < a * b := hk
          have := hy.1
          omega
        show PixOk (l.getD k (0, 0, 0, 0))
        rw [List.getD_eq_getElem?_getD, List.getElem?_eq_getElem hk2]
        have h1 := hl _ (List.getElem_mem hk2)
        have h2 := List.all_eq_true.1 hy.2 _ (List.getElem_mem hk2)
        unfold fitP fitB at h2
        have h2 := of_decide_eq_true h2
        simp only [Option.getD_some]
        unfold PixOk
        omega
      · exact h
    · exact h
  · exact h

theorem fine_stack {st : St} (h : Fine st) (id sb : Int) (b : Bool) : Fine (opStack st id sb b).2 := by
  unfold opStack
  split
  · rename_i hb
    split
    · rename_i hx
      obtain ⟨_, h2, h3⟩ := isB_lt h hb.1
      obtain ⟨g1, _, g3⟩ := isB_lt h hb.2
      have := h.stack h2 g1 (by omega) hx.2 b
      rw [← g3] at this
      exact this
    · exact h
  · exact h

theorem fine_hint {st : St} (h : Fine st) (id : Int) (n : Nat) (ok : Bool) (f : Int → Int → Bool) : Fine (opOpaque st id n ok f).2 := by
  unfold opOpaque
  split
  · rename_i hb
    split
    · exact h
    · split
      · have q := (h.wf.lk id.toNat).2
        exact h.upd (isB_lt h hb).2.1 (fun _ => rfl) (fun _ => rfl) ⟨(h.wf.lk _).1, ⟨q.w, q.h, q.x, q.y, q.c0, q.c1, q.c2, q.c3, q.pix⟩⟩ (fun _ => ⟨rfl, rfl⟩)
      · exact h
  · exact h

end Go.Proofs.YtofinpocigbbeaaGreat

namespace Go.Proofs.YtofinpocigbbeaaGreat
open Go.RowKit
attribute [local go_sem ↓] Go.wp_at_zero Go.wp_at_succ

set_option maxRecDepth 100000 in
set_option maxHeartbeats 1000000 in
theorem eqViewK (a0 a1 a2 a3 a4 a5 a6 a7 a8 : Int) (w : World) : (Op.equalIn 10000 59 (.agg #[.int .i64 a0, .int .i64 a1, .int .i64 a2, .int .i64 a3, .int .i64 a4, .int .i64 a5, .int .i64 a6, .int .i64 a7, .int .i64 a8]) (.agg #[.int .i64 a0, .int .i64 a1, .int .i64 a2, .int .i64 a3, .int .i64 a4, .int .i64 a5, .int .i64 a6, .int .i64 a7, .int .i64 a8])).run Tryz.prog w = .ok true w := by
  have u3 := Tryz.underlying3
  rw [show (10000 : Nat) = 9999 + 1 from rfl, run_equalIn_struct w 9999 59 _ _ (by kernel_rfl) (by kernel_rfl)]
  go_simp

theorem flat9K (st : St) (L : List Nat) : ∀ (i j : Nat) (hi : i < L.length), j < 9 → (L.flatMap (vCells st))[i * 9 + j]? = (vCells st L[i])[j]? := by
  induction L with
  | nil => intro i j hi; simp at hi
  | cons x L ih =>
    intro i j hi hj
    rw [List.flatMap_cons]
    have hx : (vCells st x).length = 9 := rfl
    cases i with
    | zero =>
      rw [List.getElem?_append_left (by omega), show 0 * 9 + j = j by omega]
      rfl
    | succ i =>
      rw [List.getElem?_append_right (by omega), hx, show (i + 1) * 9 + j - 9 = i * 9 + j by omega, ih i j (by simpa using hi) hj]
      rfl

end Go.Proofs.YtofinpocigbbeaaGreat
