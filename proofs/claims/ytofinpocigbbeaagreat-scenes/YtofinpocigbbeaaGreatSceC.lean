import Derived.Test.YtofinpocigbbeaaGreatSceB
namespace Go.Proofs.YtofinpocigbbeaaGreat

theorem dfs_sub {st : St} (hw : Wf st) {p : Int} (hp : -1 ≤ p) {i : Nat} (h : i ∈ st.dfs p) : i ∈ st.order := by
  rw [dfs_step hw p hp, List.mem_flatMap] at h
  obtain ⟨k, hk, hi⟩ := h
  rcases List.mem_cons.1 hi with rfl | hi
  · exact (kids_mem.1 hk).1
  · exact ((dfs_mem hw st.sfs.length k (by omega) i).1 hi).1

theorem dfs_nodup_any {st : St} (hw : Wf st) {p : Int} (hp : -1 ≤ p) : (st.dfs p).Nodup := by
  rw [dfs_step hw p hp]
  unfold List.Nodup
  rw [List.pairwise_flatMap]
  constructor
  · intro i _
    exact List.nodup_cons.2 ⟨fun h => ((dfs_mem hw st.sfs.length i (by omega) i).1 h).2.1 rfl, dfs_nodup hw st.sfs.length i (by omega)⟩
  · have hk : (st.kids p).Nodup := hw.nd.filter _
    refine (List.Pairwise.and_mem.1 hk).imp ?_
    rintro a b ⟨ha, hb, hab⟩ x hx y hy rfl
    have ca : a ∈ st.chain x := by
      rcases List.mem_cons.1 hx with rfl | hx
      · rw [chain_step hw.par]; simp
      · exact ((dfs_mem hw st.sfs.length a (by omega) x).1 hx).2.2
    have cb : b ∈ st.chain x := by
      rcases List.mem_cons.1 hy with rfl | hy
      · rw [chain_step hw.par]; simp
      · exact ((dfs_mem hw st.sfs.length b (by omega) x).1 hy).2.2
    exact hab (chain_two hw (kids_mem.1 ha).2 (kids_mem.1 hb).2 (x + 1) x (by omega) ca cb)

theorem nodup_sub_len {l m : List Nat} (hl : l.Nodup) (hm : m.Nodup) (h : ∀ i ∈ l, i ∈ m) : l.length ≤ m.length := by
  have hp : l.Perm (m.filter fun i => l.contains i) := by
    rw [List.perm_ext_iff_of_nodup hl (hm.filter _)]
    intro a
    rw [List.mem_filter]
    simp
    exact h a
  rw [hp.length_eq]
  exact List.length_filter_le _ _

theorem dfs_len {st : St} (hw : Wf st) {p : Int} (hp : -1 ≤ p) : (st.dfs p).length ≤ 12 :=
  Nat.le_trans (nodup_sub_len (dfs_nodup_any hw hp) hw.nd fun _ h => dfs_sub hw hp h) hw.len

/-- What is gathered behind k of the surfaces. -/
def St.upto (st : St) (p : Int) (k : Nat) : List Nat := ((st.order.take k).filter fun i => decide ((st.sf i).parent = p)).flatMap fun i => i :: st.dfs i

theorem upto_all {st : St} (hw : Wf st) {p : Int} (hp : -1 ≤ p) {k : Nat} (hk : st.order.length ≤ k) : st.upto p k = st.dfs p := by
  unfold St.upto
  rw [List.take_of_length_le hk, dfs_step hw p hp]
  rfl

theorem upto_next {st : St} {p : Int} {k : Nat} (hk : k < st.order.length) : st.upto p (k + 1) = st.upto p k ++ if (st.sf st.order[k]).parent = p then st.order[k] :: st.dfs st.order[k] else [] := by
  unfold St.upto
  rw [List.take_succ_eq_append_getElem hk, List.filter_append, List.flatMap_append, List.filter_cons]
  congr 1
  by_cases e : (st.sf st.order[k]).parent = p
  · rw [if_pos (by simpa using e), if_pos e]; simp
  · rw [if_neg (by simpa using e), if_neg e]; rfl

theorem upto_mono {st : St} {p : Int} (k d : Nat) : (st.upto p k).length ≤ (st.upto p (k + d)).length := by
  induction d with
  | zero => exact Nat.le_refl _
  | succ d ih =>
    refine Nat.le_trans ih ?_
    by_cases h : k + d < st.order.length
    · rw [show k + (d + 1) = k + d + 1 by omega, upto_next h, List.length_append]
      omega
    · unfold St.upto
      rw [List.take_of_length_le (by omega), List.take_of_length_le (by omega)]
      exact Nat.le_refl _

theorem upto_len {st : St} (hw : Wf st) {p : Int} (hp : -1 ≤ p) (k : Nat) : (st.upto p k).length ≤ 12 := by
  have h := upto_mono (st := st) (p := p) k st.order.length
  rw [upto_all hw hp (show st.order.length ≤ k + st.order.length by omega)] at h
  exact Nat.le_trans h (dfs_len hw hp)

theorem need_kid {st : St} (hw : Wf st) {p : Int} (_hp : -1 ≤ p) {i : Nat} (hi : i ∈ st.order) (h : (st.sf i).parent = p) : st.need i < st.need p := by
  have h1 := hw.lt hi
  have h2 := hw.par i
  unfold St.need
  omega

end Go.Proofs.YtofinpocigbbeaaGreat
