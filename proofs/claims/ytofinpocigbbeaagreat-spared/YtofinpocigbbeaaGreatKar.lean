import Derived.Test.YtofinpocigbbeaaGreatKaq
import Derived.Lib.Overlaps
namespace Go.Proofs.YtofinpocigbbeaaGreat
open Go.RowKit

theorem ptrSize (w : World) : (Go.sizeOf 117).run Tryz.prog w = .ok 1 w := by
  obtain ⟨i0, hi0, hz0, hz1, hz2⟩ := info_parts ptrInfo
  simp [sizeOf, typeInfo, hi0, hz1]

theorem ptrOne : (Tryz.prog.info? 117).map (·.size) = some 1 := by
  obtain ⟨i0, hi0, hz0, hz1, hz2⟩ := info_parts ptrInfo
  rw [hi0]; simp [hz1]

/-- copy within a row of pointers, or into one. -/
theorem run_copy_ptr (w : World) (ty : TypeId) (g o dLen dCap : Nat) (a : Addr) (sLen sCap : Nat) (cur : Array Value) (cs : List Value) (hg : w.heap[g]? = some (.cells cur 117 (0, 0))) (hn : cs.length = Nat.min sLen dLen)
    (hsrc : ∀ j v, cs[j]? = some v → w.cell? (a.add j) = some v) (hfit : o + cs.length ≤ cur.size) (h1 : ∀ v ∈ cs, v.oneCell' = true) :
    ∃ w', (Builtin.copy_ #[170, 170] ty #[.slice (some ⟨g, o, none⟩) dLen dCap, .slice (some a) sLen sCap]).run Tryz.prog w = .ok (goInt cs.length) w' ∧ w'.heap[g]? = some (.cells (cur.toList.take o ++ cs ++ cur.toList.drop (o + cs.length)).toArray 117 (0, 0)) ∧ w.grownBy w' (some g) ∧ w'.heap.size = w.heap.size :=
  ⟨_, run_copy_row (P := Tryz.prog) w _ _ ty 117 g o dLen dCap a sLen sCap cur 117 cs Tryz.underlying170 ptrOne hg hn hsrc hfit h1, setRow_heap w g cur _ _ _ hg, ⟨rfl, rfl, rfl, by simp, fun k _ hk => setRow_other w g k _ (fun e => hk (by rw [e]))⟩, by simp⟩

theorem splice_insert {α : Type} (l : List α) (i n : Nat) (u : α) (hi : i < n) (hn : n + 1 ≤ l.length) : ((l.take (i + 1) ++ (l.take n).drop i ++ l.drop (i + 1 + ((l.take n).drop i).length)).take i ++ [u] ++ (l.take (i + 1) ++ (l.take n).drop i ++ l.drop (i + 1 + ((l.take n).drop i).length)).drop (i + 1)).take (n + 1) = l.take i ++ u :: (l.take n).drop i := by
  have h1 : (l.take (i + 1)).length = i + 1 := by simp; omega
  have h2 : (l.take (i + 1) ++ (l.take n).drop i ++ l.drop (i + 1 + ((l.take n).drop i).length)).take i = l.take i := by
    rw [List.append_assoc, List.take_append_of_le_length (by omega), List.take_take, Nat.min_eq_left (by omega)]
  have h3 : (l.take (i + 1) ++ (l.take n).drop i ++ l.drop (i + 1 + ((l.take n).drop i).length)).drop (i + 1) = (l.take n).drop i ++ l.drop (i + 1 + ((l.take n).drop i).length) := by
    rw [List.append_assoc, List.drop_append_of_le_length (by omega), List.drop_eq_nil_of_le (by omega), List.nil_append]
  rw [h2, h3]
  have h4 : (l.take i ++ [u] ++ (l.take n).drop i).length = n + 1 := by simp; omega
  rw [← List.append_assoc, ← h4, List.take_left]
  simp

set_option maxRecDepth 100000 in
set_option maxHeartbeats 1000000 in
/-- slices.Insert of one, where there is room. -/
theorem insert_mid (g n cap i b : Nat) (u : Value) (cur : Array Value) (w : World) (hg : w.heap[g]? = some (.cells cur 117 (0, 0))) (hb : w.heap[b]? = some (.cells #[u] 117 (0, 0))) (hgb : g ≠ b) (hcs : cur.size = cap) (hcap : cap ≤ maxLen) (hn : n + 1 ≤ cap) (hi : i < n) (hp : ∀ u ∈ cur.toList.take n, u.oneCell' = true) (hu : u.oneCell' = true) :
    Calls Tryz.prog 163 #[.slice (some ⟨g, 0, none⟩) n cap, .int .i64 (i : Int), .slice (some ⟨b, 0, none⟩) 1 1] w fun e w' => e = .returned (.slice (some ⟨g, 0, none⟩) (n + 1) cap) ∧
      (∃ cur' : Array Value, w'.heap[g]? = some (.cells cur' 117 (0, 0)) ∧ cur'.size = cap ∧ cur'.toList.take (n + 1) = cur.toList.take i ++ u :: (cur.toList.take n).drop i) ∧ w.grownBy w' (some g) ∧ w'.heap.size = w.heap.size := by
  unfold maxLen at hcap
  have hin : (i : Int) < (n : Int) := by omega
  have hin0 : ¬ (i : Int) = (n : Int) := by omega
  have hin2 : (i : Int) ≤ (n : Int) := by omega
  have hnc : (n : Int) + 1 ≤ (cap : Int) := by omega
  have hic : i ≤ cap := by omega
  have hci : ¬ cap = i := by omega
  have hcn : n + 1 ≤ cap := by omega
  have HG := hide hg
  have HP := hide hp
  clear hg hp
  have hov : ∀ lb cb, (callFunc 186 #[.slice (some ⟨b, 0, none⟩) 1 1, .slice (some ⟨g, i + 1, none⟩) lb cb]).run Tryz.prog w = .ok (.value (.bool false)) w := fun lb cb => by
    rw [run_callFunc_extern Tryz.func186 (by kernel_rfl) (by kernel_rfl) (by kernel_rfl) (e := Extern.SlicesOverlaps.overlaps #[170, 170] #[4]) (by kernel_rfl),
      Lib.run_overlaps_apart w 170 4 117 Tryz.underlying170 1 ptrSize ⟨b, 0, none⟩ ⟨g, i + 1, none⟩ 1 1 lb cb (fun e => hgb e.symm) 117 117 1 cap (by simp [World.shape?, hb]) (by simp [World.shape?, HG.out, hcs]) (by omega) (by simp [World.frozen?, hb]) (by simp [World.frozen?, hb])]
    rfl
  obtain ⟨w1, hc1, hw1, hg1, hs1⟩ := run_copy_ptr w.drew 3 g (i + 1) (n - i) (cap - (i + 1)) ⟨g, i, none⟩ (n + 1 - i) (cap - i) cur ((cur.toList.take n).drop i) HG.out (by rw [show Nat.min (n + 1 - i) (n - i) = n - i from Nat.min_eq_right (by omega)]; simp; omega) (fun j v hj => by
      rw [addr_off]
      show w.cell? _ = _
      rw [cell_of_row w g _ _ _ _ HG.out, ← Array.getElem?_toList]
      rw [List.getElem?_drop, List.getElem?_take] at hj
      split at hj
      · exact hj
      · cases hj) (by simp; omega) (fun v hv => HP.out v (List.mem_of_mem_drop hv))
  have hb1 : w1.heap[b]? = some (.cells #[u] 117 (0, 0)) := (hg1.block b (Array.getElem?_eq_some_iff.1 hb).1 (fun e => hgb (by simpa using e.symm))).trans hb
  obtain ⟨w2, hc2, hw2, hg2, hs2⟩ := run_copy_ptr w1 3 g i (n + 1 - i) (cap - i) ⟨b, 0, none⟩ 1 1 _ [u] hw1 (by simp only [Nat.min_def]; split <;> simp <;> omega) (fun j v hj => by
      rw [addr_off, cell_of_row w1 b _ _ _ _ hb1]
      match j, hj with
      | 0, hj => simpa using hj) (by simp; omega) (by simpa using hu)
  have e1 : ((cur.toList.take n).drop i).length = n - i := by simp; omega
  rw [e1] at hc1
  have HF : Hid ((∃ cur' : Array Value, w2.heap[g]? = some (.cells cur' 117 (0, 0)) ∧ cur'.size = cap ∧ cur'.toList.take (n + 1) = cur.toList.take i ++ u :: (cur.toList.take n).drop i) ∧ w.grownBy w2 (some g) ∧ w2.heap.size = w.heap.size) := by
    refine ⟨⟨_, hw2, ?_, ?_⟩, ⟨hg2.os.trans hg1.os, hg2.tape.trans hg1.tape, hg2.output.trans hg1.output, Nat.le_trans hg1.size hg2.size, fun k hk hne => ?_⟩, hs2.trans hs1⟩
    · simp
      omega
    · exact splice_insert cur.toList i n u hi (by simp; omega)
    · rw [hg2.block k (Nat.lt_of_lt_of_le hk hg1.size) hne, hg1.block k hk hne]
      rfl
  clear hw1 hg1 hs1 hw2 hg2 hs2 hb1 hb e1
  go_enter Tryz.func163, Tryz.ntmps163
  have hie : (i : Int) + 1 ≤ (n : Int) + 1 := by omega
  have hi0 : (0 : Int) ≤ (i : Int) + 1 := by omega
  have hie2 : (i : Int) ≤ (n : Int) + 1 := by omega
  have hci2 : ¬ cap = i + 1 := by omega
  go_wp2_with fail
  go_region
  go_wp2_with fail
  go_ret
  exact ⟨rfl, HF.out⟩

/-- append(s, x...) in s's own spare room. -/
theorem wpList_append_in {P : Program} {w : World} {ops : Array Oper} {rest : List Oper} {o : Oper} {a : Act} {Q : Exit → Act → World → Prop}
    (hgd : o.guard = none) (s x : Operand) (t : TypeId) (hop : o.op = Op.call { callee := Callee.builtin Builtin.append, args := #[s, x], argTypes := #[t, t] })
    (e : TypeId) (i : TypeInfo) (h1 : P.underlying t = some (.slice e)) (h2 : P.info? e = some i) (h4 : i.size = 1)
    (g n cap : Nat) (hs : a.eval s = .slice (some ⟨g, 0, none⟩) n cap) (cur : Array Value) (hg : w.heap[g]? = some (.cells cur e (0, 0)))
    (ad : Addr) (m c : Nat) (news : List Value) (hx : a.eval x = .slice (some ad) m c) (hn : news.length = m) (hc : ∀ j u, news[j]? = some u → w.cell? (ad.add j) = some u) (h1c : ∀ u ∈ news, u.oneCell' = true)
    (k : Nat) (hk : n + m = k) (hroom : k ≤ cap) (hcap : cur.size = cap)
    (hK : ∀ w', w'.heap[g]? = some (.cells (cur.toList.take n ++ news ++ cur.toList.drop k).toArray e (0, 0)) → w.grownBy w' (some g) → w'.heap.size = w.heap.size → wpList P ops Q rest (a.put o.dst (.slice (some ⟨g, 0, none⟩) k cap)) w') :
    wpList P ops Q (o :: rest) a w := by
  subst hk
  refine wpList_plain hgd fun K' hK' => ?_
  have hrun := run_append_room (P := P) w t o.type e i h1 h2 g n cap cur hg ad m c news (by rw [h4, hn, Nat.mul_one]) hc h1c hroom (by rw [h4, hn]; omega)
  rw [h4, Nat.mul_one, hn] at hrun
  have hK2 := hK (w.setRow g (cur.toList.take n ++ news ++ cur.toList.drop (n + m)).toArray) (setRow_heap w g cur _ e _ hg) ⟨rfl, rfl, rfl, by simp, fun k _ hk => setRow_other w g k _ (fun e => hk (by rw [e]))⟩ (by simp)
  obtain ⟨W', hW'⟩ : ∃ W', W' = w.setRow g (cur.toList.take n ++ news ++ cur.toList.drop (n + m)).toArray := ⟨_, rfl⟩
  rw [← hW'] at hrun hK2
  unfold Oper.wp
  simp [execOp, hop, resolve, invoke, builtin, hs, hx, hrun, Result.andThen]
  exact hK' _ _ hK2

set_option maxRecDepth 100000 in
set_option maxHeartbeats 1000000 in
/-- slices.Insert of one behind all, where there is room. -/
theorem insert_end (g n cap b : Nat) (u : Value) (cur : Array Value) (w : World) (hg : w.heap[g]? = some (.cells cur 117 (0, 0))) (hb : w.heap[b]? = some (.cells #[u] 117 (0, 0))) (hcs : cur.size = cap) (hn : n + 1 ≤ cap) (hu : u.oneCell' = true) :
    Calls Tryz.prog 163 #[.slice (some ⟨g, 0, none⟩) n cap, .int .i64 (n : Int), .slice (some ⟨b, 0, none⟩) 1 1] w fun e w' => e = .returned (.slice (some ⟨g, 0, none⟩) (n + 1) cap) ∧
      (∃ cur' : Array Value, w'.heap[g]? = some (.cells cur' 117 (0, 0)) ∧ cur'.size = cap ∧ cur'.toList.take (n + 1) = cur.toList.take n ++ [u]) ∧ w.grownBy w' (some g) ∧ w'.heap.size = w.heap.size := by
  obtain ⟨i0, hi0, hz0, hz1, hz2⟩ := info_parts ptrInfo
  have hnc : (n : Int) + 1 ≤ (cap : Int) := by omega
  have hcn : ¬ cap = n := by omega
  have HG := hide hg
  have HB : Hid (∀ j v, [u][j]? = some v → w.cell? ((⟨b, 0, none⟩ : Addr).add j) = some v) := fun j v hj => by
    rw [addr_off, cell_of_row w b _ _ _ _ hb]
    match j, hj with
    | 0, hj => simpa using hj
  have HF : Hid (∀ w' : World, w'.heap[g]? = some (.cells (cur.toList.take n ++ [u] ++ cur.toList.drop (n + 1)).toArray 117 (0, 0)) → ∃ cur' : Array Value, w'.heap[g]? = some (.cells cur' 117 (0, 0)) ∧ cur'.size = cap ∧ cur'.toList.take (n + 1) = cur.toList.take n ++ [u]) := fun w' hw' => by
    refine ⟨_, hw', by simp; omega, ?_⟩
    have h4 : (cur.toList.take n ++ [u]).length = n + 1 := by simp; omega
    show (cur.toList.take n ++ [u] ++ cur.toList.drop (n + 1)).take (n + 1) = _
    conv => lhs; rw [← h4]
    rw [List.take_append_of_le_length (Nat.le_refl _), List.take_length]
  clear hg hb
  go_enter Tryz.func163, Tryz.ntmps163
  go_wp2_with (at_builtin; refine wpList_append_in rfl (.tmp 23) (.tmp 24) 170 rfl 117 i0 Tryz.underlying170 hi0 hz1 g n cap rfl cur HG.out ⟨b, 0, none⟩ 1 1 [u] rfl rfl HB.out (by simpa using hu) (n + 1) rfl (by omega) hcs ?_; intro w1 hw1 hgr hsz; have HW := hide (And.intro hw1 (And.intro hgr hsz)); clear hw1 hgr hsz)
  go_ret
  exact ⟨rfl, HF.out _ HW.out.1, HW.out.2.1, HW.out.2.2⟩

end Go.Proofs.YtofinpocigbbeaaGreat

namespace Go.Proofs.YtofinpocigbbeaaGreat
open Go.RowKit
attribute [local go_sem ↓] Go.wp_at_zero Go.wp_at_succ

theorem neT {w : World} {a b : Nat} {ca cb : Array Value} {ta tb : TypeId} (h1 : w.heap[a]? = some (.cells ca ta (0, 0))) (h2 : w.heap[b]? = some (.cells cb tb (0, 0))) (h : ta ≠ tb) : a ≠ b := by
  rintro rfl
  rw [h1] at h2
  injection h2 with h2
  injection h2 with _ h2
  exact h h2

/-- What a call on the program's screen leaves. -/
def PPost (S : Nat → Prop) (x : Nat) (bv : Value) (p : Int × St) (w : World) (e : Ending) (w' : World) : Prop := e = .returned (.int .i64 p.1) ∧ PaneOk w' (grow S w w') x p.2 bv ∧ Only S w w'

theorem PPost.same {S : Nat → Prop} {x : Nat} {st : St} {w w' : World} {er : Int} {bv : Value} (h : PaneOk w S x st bv) (hb : Below w.heap.size w w') : PPost S x bv (er, st) w (.returned (.int .i64 er)) w' :=
  ⟨rfl, (h.keep fun g _ hg => hb.block g hg).mono fun _ hg => grow_self hg, Only.below hb⟩

/-- A surface's block. -/
def SrfB (w : World) (b : Nat) (F : Nat → Value) : Prop := ∃ cur : Array Value, w.heap[b]? = some (.cells cur 174 (0, 0)) ∧ cur.size = 31 ∧ ∀ o, o < 31 → cur[o]? = some (F o)

def upO (F : Nat → Value) (o : Nat) (u : Value) : Nat → Value := fun k => if k = o then u else F k
theorem upO_at (F : Nat → Value) (o : Nat) (u : Value) (k : Nat) : upO F o u k = if k = o then u else F k := rfl

theorem SrfB.set {w : World} {b : Nat} {F : Nat → Value} (h : SrfB w b F) (o : Nat) (u : Value) : SrfB (w.setCell ⟨b, o, none⟩ u) b (upO F o u) := by
  obtain ⟨cur, h1, h2, h3⟩ := h
  refine ⟨_, heap_setCell_same w b o cur _ u h1, by simpa using h2, fun k hk => ?_⟩
  unfold upO
  rw [Array.getElem?_setIfInBounds]
  by_cases e : o = k
  · subst e
    rw [if_pos rfl, if_pos rfl, if_pos (by omega)]
  · rw [if_neg e, if_neg (fun h => e h.symm)]
    exact h3 k hk

theorem SrfB.keep {w w' : World} {b : Nat} {F : Nat → Value} (h : SrfB w b F) (hk : w'.heap[b]? = w.heap[b]?) : SrfB w' b F := by
  obtain ⟨cur, h1, h2⟩ := h
  exact ⟨cur, hk.trans h1, h2⟩

theorem SrfB.congr {w : World} {b : Nat} {F F' : Nat → Value} (h : SrfB w b F) (hF : ∀ o, o < 31 → F' o = F o) : SrfB w b F' := by
  obtain ⟨cur, h1, h2, h3⟩ := h
  exact ⟨cur, h1, h2, fun o ho => by rw [hF o ho]; exact h3 o ho⟩

def upG (G : Int → Nat → Value) (i : Int) (F : Nat → Value) : Int → Nat → Value := fun p => if p = i then F else G p

theorem PCells.other {blk : Int → Nat} {st st' : St} {p : Int} {F : Nat → Value} (h : PCells blk st p F) (hw : st'.w = st.w) (hh : st'.h = st.h) (hs : p ≠ -1 → st'.sf p.toNat = st.sf p.toNat) : PCells blk st' p F := by
  have e : lookP st' p = lookP st p := by
    unfold lookP
    by_cases e : p = -1
    · rw [if_pos e, if_pos e, hw, hh]
    · rw [if_neg e, if_neg e, hs e]
  refine ⟨h.num, ?_, by rw [e]; exact h.now, ?_, ?_, h.kep⟩
  · rw [h.par]
    by_cases e : p = -1
    · rw [if_pos e, if_pos e]
    · rw [if_neg e, if_neg e, hs e]
  · obtain ⟨l, h1, h2⟩ := h.next
    exact ⟨l, h1, fun e => by rw [hs e]; exact h2 e⟩
  · obtain ⟨t, z, b, h1, h2, h3, h4⟩ := h.stk
    exact ⟨t, z, b, h1, h2, h3, fun e => by rw [hs e]; exact h4 e⟩

theorem DataT.ne {t T : TypeId} (h : DataT t) (hT : ¬ DataT T) : t ≠ T := fun e => hT (e ▸ h)

section
variable {w w' : World} {S : Nat → Prop} {x : Nat} {st : St} {bv : Value} {sc mp : Nat} {blk : Int → Nat} {G : Int → Nat → Value}

/-- One surface's cells are turned, but for what lies on it. -/
theorem PRaw.upd (h : PRaw w S x st bv sc mp blk G) {i : Nat} (hi : i ∈ st.order) (hil : i < st.sfs.length) {gf : Sf → Sf} (hpar : ∀ s, (gf s).parent = s.parent) (hoth : ∀ g, g < w.heap.size → g ≠ blk i → w'.heap[g]? = w.heap[g]?) {F : Nat → Value} (hs : SrfB w' (blk i) F) (h2 : F 2 = G i 2) (hc : PCells blk (Go.Proofs.YtofinpocigbbeaaGreat.upd st i gf) i F) (hd : SfD w S F (gf (st.sf i))) : PRaw w' S x (Go.Proofs.YtofinpocigbbeaaGreat.upd st i gf) bv sc mp blk (upG G i F) := by
  have hA := upd_alike (g := gf) hil hpar
  obtain ⟨cur, hcur, hcs⟩ := h.srf i (live_nat hi)
  have hlt : ∀ {g : Nat} {o : Obj}, w.heap[g]? = some o → g < w.heap.size := fun {g o} hg => (Array.getElem?_eq_some_iff.1 hg).1
  have on2 : ∀ p : Int, upG G i F p 2 = G p 2 := fun p => by
    unfold upG
    by_cases e : p = i
    · subst e; rw [if_pos rfl, h2]
    · rw [if_neg e]
  refine ⟨(hoth x (hlt h.scr) (neT h.scr hcur (by decide))).trans h.scr, ?_, h.map.keep (hoth mp h.map.lt (fun e => h.map.ne hcur e.symm)), fun p hp => ?_, h.own, h.inj, fun p hp => ?_, fun p p' hp hp' hne g => ?_, fun p hp => ?_, fun j hj => ?_⟩
  · rw [hA.len]
    exact (hoth sc (hlt h.sce) (neT h.sce hcur (by decide))).trans h.sce
  · unfold upG
    by_cases e : p = i
    · subst e; rw [if_pos rfl]; exact hs
    · rw [if_neg e]
      have hb : blk p ≠ blk i := fun e2 => e (h.inj p i hp (live_nat hi) e2)
      obtain ⟨c2, k1, k2⟩ := h.srf p hp
      exact ⟨c2, (hoth _ (hlt k1) hb).trans k1, k2⟩
  · rw [on2, hA.kids]
    exact (h.on p hp).other fun g c hg => hoth g (hlt hg) (neT hg hcur (by decide))
  · rw [on2, on2]
    exact h.apart p p' hp hp' hne g
  · unfold upG
    by_cases e : p = i
    · subst e; rw [if_pos rfl]; exact hc
    · rw [if_neg e]
      refine (h.cells p hp).other rfl rfl fun hp1 => ?_
      rw [upd_sf st i gf _ hil, if_neg]
      rcases hp with rfl | ⟨j, rfl, _⟩
      · exact absurd rfl hp1
      · rw [Int.toNat_natCast]
        exact fun e2 => e (by rw [e2])
  · have hkd : KeptD w w' := fun g cur t ht e => hoth g (hlt e) (neT e hcur (ht.ne (by unfold DataT; decide)))
    unfold upG
    by_cases e : (j : Int) = i
    · have e2 : j = i := by omega
      subst e2
      rw [if_pos rfl, upd_sf st j gf _ hil, if_pos rfl]
      exact hd.kd hkd
    · rw [if_neg e, upd_sf st i gf _ hil, if_neg (fun e2 => e (by rw [e2]))]
      exact (h.data j hj).kd hkd

end

theorem mapInfo : Tryz.prog.underlying 150 = some (.map 3 117) := Tryz.underlying150

set_option maxRecDepth 100000 in
set_option maxHeartbeats 1000000 in
/-- (*Scene).Surface: there is none. -/
theorem scSurface_no {w : World} {S : Nat → Prop} {x : Nat} {st : St} {bv : Value} {sc mp : Nat} {blk : Int → Nat} {G : Int → Nat → Value} (h : PRaw w S x st bv sc mp blk G) (id : Int) (hid : ∀ i ∈ st.order, (i : Int) ≠ id) :
    Calls Tryz.prog 58 #[.pointer (some ⟨sc, 0, none⟩), .int .i64 id] w fun e w' => e = .returned (.pointer none) ∧ w' = w := by
  obtain ⟨v, hl, hv⟩ := h.map.lookup Tryz.underlying150 Tryz.underlying3 (ptrZero w) id
  obtain ⟨k0, k1, k2, k3, k4⟩ := h.sceCells
  rcases hv with ⟨rfl, _⟩ | ⟨i, hi, e, _⟩
  · clear h
    go_enter Tryz.func58, Tryz.ntmps58
    go_wp2_with fail
    go_ret
    exact ⟨rfl, rfl⟩
  · exact absurd e.symm (hid i hi)

set_option maxRecDepth 100000 in
set_option maxHeartbeats 1000000 in
theorem scSurface_ok {w : World} {S : Nat → Prop} {x : Nat} {st : St} {bv : Value} {sc mp : Nat} {blk : Int → Nat} {G : Int → Nat → Value} (h : PRaw w S x st bv sc mp blk G) (i : Nat) (hi : i ∈ st.order) :
    Calls Tryz.prog 58 #[.pointer (some ⟨sc, 0, none⟩), .int .i64 (i : Int)] w fun e w' => e = .returned (.pointer (some ⟨blk i, 0, none⟩)) ∧ w' = w := by
  obtain ⟨v, hl, hv⟩ := h.map.lookup Tryz.underlying150 Tryz.underlying3 (ptrZero w) (i : Int)
  obtain ⟨k0, k1, k2, k3, k4⟩ := h.sceCells
  rcases hv with ⟨rfl, hv⟩ | ⟨j, hj, e, rfl⟩
  · exact absurd rfl (hv i hi)
  · have : i = j := by omega
    subst this
    clear h
    go_enter Tryz.func58, Tryz.ntmps58
    go_wp2_with fail
    go_ret
    exact ⟨rfl, rfl⟩

set_option maxHeartbeats 1000000 in
theorem within_any (n a b : Int) (w : World) : Calls Tryz.prog 52 #[.int .i64 n, .int .i64 a, .int .i64 b] w fun e w' => e = .returned (.bool (decide (a ≤ n ∧ n ≤ b))) ∧ w' = w := by
  go_enter Tryz.func52, Tryz.ntmps52
  go_wp2
  all_goals
    go_ret
    refine ⟨ret_b ?_, rfl⟩
    first
      | (simp_all; done)
      | (simp_all; omega)

end Go.Proofs.YtofinpocigbbeaaGreat

namespace Go.Proofs.YtofinpocigbbeaaGreat
open Go.RowKit
attribute [local go_sem ↓] Go.wp_at_zero Go.wp_at_succ

theorem isB_no {st : St} (hw : Wf st) {id : Int} (h : st.isB id = false) : ∀ i ∈ st.order, (i : Int) ≠ id := fun i hi e => by
  have := (isB_iff hw id).2 ⟨i, e.symm, hi⟩
  rw [h] at this
  cases this

theorem setOther {w : World} {b : Nat} (o : Nat) (u : Value) : ∀ g, g < w.heap.size → g ≠ b → (w.setCell ⟨b, o, none⟩ u).heap[g]? = w.heap[g]? := fun g _ hne => heap_setCell_other w ⟨b, o, none⟩ g u hne

theorem nat_ne_top (i : Nat) : (i : Int) ≠ -1 := by omega

theorem lookP_nat (st : St) (i : Nat) : lookP st (i : Int) = (st.sf i).now := by
  unfold lookP
  rw [if_neg (nat_ne_top i), Int.toNat_natCast]

/-- The cells of a surface that there is. -/
structure NCells (blk : Int → Nat) (s : Sf) (i : Nat) (G : Nat → Value) : Prop where
  num : G 0 = .int .i64 (i : Int)
  par : G 1 = ptrV (blk s.parent)
  now : LookCells G 3 s.now
  next : LookCells G 14 s.next
  stk : ∃ (t : Bool) (z : Int) (b : Bool), G 25 = .bool t ∧ G 26 = .int .i64 z ∧ G 27 = .bool b ∧ t = s.ask ∧ (t = true → z = s.sib ∧ b = s.above)
  kep : ∃ kw kh a m c, G 28 = .int .i64 kw ∧ G 29 = .int .i64 kh ∧ G 30 = .slice a m c

theorem PCells.nat {blk : Int → Nat} {st : St} {i : Nat} {G : Nat → Value} (h : PCells blk st i G) : NCells blk (st.sf i) i G := by
  have hne := nat_ne_top i
  refine ⟨h.num, ?_, ?_, ?_, ?_, h.kep⟩
  · have := h.par
    rwa [if_neg hne, Int.toNat_natCast] at this
  · have := h.now
    rwa [lookP_nat] at this
  · obtain ⟨l, h1, h2⟩ := h.next
    have := h2 hne
    rw [Int.toNat_natCast] at this
    rwa [this] at h1
  · obtain ⟨t, z, b, h1, h2, h3, h4⟩ := h.stk
    have := h4 hne
    rw [Int.toNat_natCast] at this
    exact ⟨t, z, b, h1, h2, h3, this⟩

theorem NCells.toP {blk : Int → Nat} {st : St} {i : Nat} {G : Nat → Value} (h : NCells blk (st.sf i) i G) : PCells blk st i G := by
  have hne := nat_ne_top i
  refine ⟨h.num, ?_, ?_, ⟨_, h.next, fun _ => by rw [Int.toNat_natCast]⟩, ?_, h.kep⟩
  · rw [if_neg hne, Int.toNat_natCast]; exact h.par
  · rw [lookP_nat]; exact h.now
  · obtain ⟨t, z, b, h1, h2, h3, h4⟩ := h.stk
    exact ⟨t, z, b, h1, h2, h3, fun _ => by rw [Int.toNat_natCast]; exact h4⟩

theorem NCells.upd {blk : Int → Nat} {st : St} {i : Nat} {G : Nat → Value} (hi : i < st.sfs.length) {gf : Sf → Sf} (h : NCells blk (gf (st.sf i)) i G) : PCells blk (Go.Proofs.YtofinpocigbbeaaGreat.upd st i gf) i G := by
  refine NCells.toP ?_
  rw [upd_sf st i gf i hi, if_pos rfl]
  exact h

set_option maxRecDepth 100000 in
set_option maxHeartbeats 1000000 in
/-- (*Screen).Offset -/
theorem paOffset_any {S : Nat → Prop} {x : Nat} {st : St} (hw : Wf st) (id a b : Int) (w : World) {bv : Value} (h : PaneOk w S x st bv) :
    Calls Tryz.prog 29 #[.pointer (some ⟨x, 0, none⟩), .int .i64 id, .int .i64 a, .int .i64 b] w (PPost S x bv (opOffset st id a b) w) := by
  have hB := isB_iff hw id
  have HE6 := hide (PPost.same (er := 6) h (Below.refl _ _))
  have HE7 := hide (PPost.same (er := 7) h (Below.refl _ _))
  obtain ⟨sc, mp, blk, G, h⟩ := h
  obtain ⟨x0, x1, xl⟩ := h.scrCells
  unfold opOffset
  obtain ⟨t, ht⟩ : ∃ t, st.isB id = t := ⟨_, rfl⟩
  rw [ht] at hB ⊢
  cases t with
  | false =>
    rw [if_neg (by simp)]
    have HS := hide (scSurface_no h id (isB_no hw ht))
    clear hB h
    go_enter Tryz.func29, Tryz.ntmps29
    go_wp2_with (go_at_call 58; refine HS.out.mono ?_; rintro e w' ⟨rfl, hw'⟩; replace hw' := hw'.symm; subst hw')
    go_ret
    exact HE6.out
  | true =>
    rw [if_pos rfl]
    obtain ⟨i, rfl, hio⟩ := hB.1 rfl
    have hil := hw.lt hio
    rw [Int.toNat_natCast]
    have HS := hide (scSurface_ok h i hio)
    obtain ⟨kc, kf, kl⟩ := h.at (live_nat hio)
    have c16 := kc 17 (by omega)
    have c17 := kc 18 (by omega)
    have f16 := kf 17
    have f17 := kf 18
    have HOk : Hid (PPost S x bv (0, upd st i (sfOff a b)) w (.returned (.int .i64 0)) ((w.setCell ⟨blk i, 17, none⟩ (.int .i64 a)).setCell ⟨blk i, 18, none⟩ (.int .i64 b))) := by
      have hs : SrfB w (blk i) (G i) := h.srf i (live_nat hio)
      have q := (h.cells i (live_nat hio)).nat
      have q2 := q.next
      refine ⟨rfl, PaneOk.mono ⟨sc, mp, blk, _, h.upd (gf := sfOff a b) hio hil (fun _ => rfl) (fun g hg hne => ?_) ((hs.set 17 _).set 18 _) rfl (NCells.upd hil ⟨q.num, q.par, ⟨q.now.w, q.now.h, q.now.pix, q.now.x, q.now.y, q.now.c0, q.now.c1, q.now.c2, q.now.c3, q.now.cut, q.now.hint⟩, ⟨q2.w, q2.h, q2.pix, rfl, rfl, q2.c0, q2.c1, q2.c2, q2.c3, q2.cut, q2.hint⟩, q.stk, q.kep⟩) ⟨(h.data i hio).pix, (h.data i hio).hint, (h.data i hio).npix, (h.data i hio).nhint, (h.data i hio).kw, (h.data i hio).kh, (h.data i hio).kept⟩⟩ (fun _ h => grow_self h), ((Only.refl S w).set (.inl (h.own.2.2.2 i (live_nat hio))) _).set (.inl (h.own.2.2.2 i (live_nat hio))) _⟩
      rw [setOther 18 _ g (by simpa using hg) hne, setOther 17 _ g hg hne]
    have HPost : Hid (∀ e w', (-1000 ≤ a ∧ a ≤ 1000 ∧ -1000 ≤ b ∧ b ≤ 1000 → PPost S x bv (0, upd st i (sfOff a b)) w e w') → (¬ (-1000 ≤ a ∧ a ≤ 1000 ∧ -1000 ≤ b ∧ b ≤ 1000) → PPost S x bv (7, st) w e w') → PPost S x bv (if -1000 ≤ a ∧ a ≤ 1000 ∧ -1000 ≤ b ∧ b ≤ 1000 then (0, upd st i (sfOff a b)) else (7, st)) w e w') := fun e w' h1 h2 => by
      split
      · rename_i h; exact h1 h
      · rename_i h; exact h2 h
    obtain ⟨post, hpost⟩ : ∃ P, P = PPost S x bv (if -1000 ≤ a ∧ a ≤ 1000 ∧ -1000 ≤ b ∧ b ≤ 1000 then (0, upd st i (sfOff a b)) else (7, st)) w := ⟨_, rfl⟩
    rw [← hpost] at HPost ⊢
    obtain ⟨g, hg⟩ : ∃ g, blk i = g := ⟨_, rfl⟩
    rw [hg] at HS c16 c17 f16 f17 HOk
    clear h hB kc kf kl hpost hg
    have hcases : a < -1000 ∨ (-1000 ≤ a ∧ 1000 < a) ∨ (-1000 ≤ a ∧ a ≤ 1000 ∧ b < -1000) ∨ (-1000 ≤ a ∧ a ≤ 1000 ∧ -1000 ≤ b ∧ 1000 < b) ∨ (-1000 ≤ a ∧ a ≤ 1000 ∧ -1000 ≤ b ∧ b ≤ 1000) := by omega
    rcases hcases with h1 | ⟨h1, h2⟩ | ⟨h1, h2, h3⟩ | ⟨h1, h2, h3, h4⟩ | ⟨h1, h2, h3, h4⟩
    all_goals
      try have hd : decide (b ≤ 1000) = false := decide_eq_false (by omega)
      go_enter Tryz.func29, Tryz.ntmps29
      go_wp2_with (first
        | (go_at_call 58; refine HS.out.mono ?_; rintro e w' ⟨rfl, hw'⟩; replace hw' := hw'.symm; subst hw')
        | go_in)
      try go_ret
      refine HPost.out _ _ (fun hyes => ?_) (fun hno => ?_)
      · first
          | (exfalso; omega)
          | exact HOk.out
      · first
          | (exfalso; omega)
          | exact HE7.out

set_option maxRecDepth 100000 in
set_option maxHeartbeats 1000000 in
/-- (*Screen).Unclip -/
theorem paUnclip_any {S : Nat → Prop} {x : Nat} {st : St} (hw : Wf st) (id : Int) (w : World) {bv : Value} (h : PaneOk w S x st bv) :
    Calls Tryz.prog 36 #[.pointer (some ⟨x, 0, none⟩), .int .i64 id] w (PPost S x bv (opUnclip st id) w) := by
  have hB := isB_iff hw id
  have HE6 := hide (PPost.same (er := 6) h (Below.refl _ _))
  obtain ⟨sc, mp, blk, G, h⟩ := h
  obtain ⟨x0, x1, xl⟩ := h.scrCells
  unfold opUnclip
  obtain ⟨t, ht⟩ : ∃ t, st.isB id = t := ⟨_, rfl⟩
  rw [ht] at hB ⊢
  cases t with
  | false =>
    rw [if_neg (by simp)]
    have HS := hide (scSurface_no h id (isB_no hw ht))
    clear hB h
    go_enter Tryz.func36, Tryz.ntmps36
    go_wp2_with (go_at_call 58; refine HS.out.mono ?_; rintro e w' ⟨rfl, hw'⟩; replace hw' := hw'.symm; subst hw')
    go_ret
    exact HE6.out
  | true =>
    rw [if_pos rfl]
    obtain ⟨i, rfl, hio⟩ := hB.1 rfl
    have hil := hw.lt hio
    rw [Int.toNat_natCast]
    have HS := hide (scSurface_ok h i hio)
    obtain ⟨kc, kf, kl⟩ := h.at (live_nat hio)
    have c18 := kc 19 (by omega)
    have c19 := kc 20 (by omega)
    have c20 := kc 21 (by omega)
    have c21 := kc 22 (by omega)
    have c22 := kc 23 (by omega)
    have f18 := kf 19
    have f19 := kf 20
    have f20 := kf 21
    have f21 := kf 22
    have f22 := kf 23
    have HOk : Hid (PPost S x bv (0, upd st i sfUnclip) w (.returned (.int .i64 0)) (((((w.setCell ⟨blk i, 19, none⟩ (.int .i64 0)).setCell ⟨blk i, 20, none⟩ (.int .i64 0)).setCell ⟨blk i, 21, none⟩ (.int .i64 0)).setCell ⟨blk i, 22, none⟩ (.int .i64 0)).setCell ⟨blk i, 23, none⟩ (.bool false))) := by
      have hs : SrfB w (blk i) (G i) := h.srf i (live_nat hio)
      have q := (h.cells i (live_nat hio)).nat
      have q2 := q.next
      have ho := h.own.2.2.2 i (live_nat hio)
      refine ⟨rfl, PaneOk.mono ⟨sc, mp, blk, _, h.upd (gf := sfUnclip) hio hil (fun _ => rfl) (fun g hg hne => ?_) (((((hs.set 19 _).set 20 _).set 21 _).set 22 _).set 23 _) rfl (NCells.upd hil ⟨q.num, q.par, ⟨q.now.w, q.now.h, q.now.pix, q.now.x, q.now.y, q.now.c0, q.now.c1, q.now.c2, q.now.c3, q.now.cut, q.now.hint⟩, ⟨q2.w, q2.h, q2.pix, q2.x, q2.y, rfl, rfl, rfl, rfl, rfl, q2.hint⟩, q.stk, q.kep⟩) ⟨(h.data i hio).pix, (h.data i hio).hint, (h.data i hio).npix, (h.data i hio).nhint, (h.data i hio).kw, (h.data i hio).kh, (h.data i hio).kept⟩⟩ (fun _ h => grow_self h), (((((Only.refl S w).set (.inl ho) _).set (.inl ho) _).set (.inl ho) _).set (.inl ho) _).set (.inl ho) _⟩
      rw [setOther 23 _ g (by simpa using hg) hne, setOther 22 _ g (by simpa using hg) hne, setOther 21 _ g (by simpa using hg) hne, setOther 20 _ g (by simpa using hg) hne, setOther 19 _ g hg hne]
    obtain ⟨post, hpost⟩ : ∃ P, P = PPost S x bv (0, upd st i sfUnclip) w := ⟨_, rfl⟩
    rw [← hpost] at HOk ⊢
    obtain ⟨g, hg⟩ : ∃ g, blk i = g := ⟨_, rfl⟩
    rw [hg] at HS c18 c19 c20 c21 c22 f18 f19 f20 f21 f22 HOk
    clear h hB kc kf kl hpost hg
    go_enter Tryz.func36, Tryz.ntmps36
    go_wp2_with (first
      | (go_at_call 58; refine HS.out.mono ?_; rintro e w' ⟨rfl, hw'⟩; replace hw' := hw'.symm; subst hw')
      | go_in)
    try go_ret
    exact HOk.out

end Go.Proofs.YtofinpocigbbeaaGreat
