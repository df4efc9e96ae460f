import Derived.Test.YtofinpocigbbeaaGreatPanC
namespace Go.Proofs.YtofinpocigbbeaaGreat
open Go.RowKit
attribute [local go_sem ↓] Go.wp_at_zero Go.wp_at_succ

theorem neT {w : World} {a b : Nat} {ca cb : Array Value} {ta tb : TypeId} (h1 : w.heap[a]? = some (.cells ca ta (0, 0))) (h2 : w.heap[b]? = some (.cells cb tb (0, 0))) (h : ta ≠ tb) : a ≠ b := by
  rintro rfl
  rw [h1] at h2
  injection h2 with h2
  injection h2 with _ h2
  exact h h2

/-- What a call on the program's screen leaves. -/
def PPost (S : Nat → Prop) (x : Nat) (bv : Value) (p : Int × St) (w : World) (e : Ending) (w' : World) : Prop := e = .returned (.int .i64 p.1) ∧ PaneOk w' (grow S w w') x p.2 bv ∧ Only S w w'

theorem PPost.same {S : Nat → Prop} {x : Nat} {st : St} {w w' : World} {er : Int} {bv : Value} (h : PaneOk w S x st bv) (hb : Below w.heap.size w w') : PPost S x bv (er, st) w (.returned (.int .i64 er)) w' :=
  ⟨rfl, (h.keep fun g _ hg => hb.block g hg).mono fun _ hg => grow_self hg, Only.below hb⟩

/-- A surface's block. -/
def SrfB (w : World) (b : Nat) (F : Nat → Value) : Prop := ∃ cur : Array Value, w.heap[b]? = some (.cells cur 174 (0, 0)) ∧ cur.size = 31 ∧ ∀ o, o < 31 → cur[o]? = some (F o)

def upO (F : Nat → Value) (o : Nat) (u : Value) : Nat → Value := fun k => if k = o then u else F k
theorem upO_at (F : Nat → Value) (o : Nat) (u : Value) (k : Nat) : upO F o u k = if k = o then u else F k := rfl

theorem SrfB.set {w : World} {b : Nat} {F : Nat → Value} (h : SrfB w b F) (o : Nat) (u : Value) : SrfB (w.setCell ⟨b, o, none⟩ u) b (upO F o u) := by
  obtain ⟨cur, h1, h2, h3⟩ := h
  refine ⟨_, heap_setCell_same w b o cur _ u h1, by simpa using h2, fun k hk => ?_⟩
  unfold upO
  rw [Array.getElem?_setIfInBounds]
  by_cases e : o = k
  · subst e
    rw [if_pos rfl, if_pos rfl, if_pos (by omega)]
  · rw [if_neg e, if_neg (fun h => e h.symm)]
    exact h3 k hk

theorem SrfB.keep {w w' : World} {b : Nat} {F : Nat → Value} (h : SrfB w b F) (hk : w'.heap[b]? = w.heap[b]?) : SrfB w' b F := by
  obtain ⟨cur, h1, h2⟩ := h
  exact ⟨cur, hk.trans h1, h2⟩

theorem SrfB.congr {w : World} {b : Nat} {F F' : Nat → Value} (h : SrfB w b F) (hF : ∀ o, o < 31 → F' o = F o) : SrfB w b F' := by
  obtain ⟨cur, h1, h2, h3⟩ := h
  exact ⟨cur, h1, h2, fun o ho => by rw [hF o ho]; exact h3 o ho⟩

def upG (G : Int → Nat → Value) (i : Int) (F : Nat → Value) : Int → Nat → Value := fun p => if p = i then F else G p

theorem PCells.other {blk : Int → Nat} {st st' : St} {p : Int} {F : Nat → Value} (h : PCells blk st p F) (hw : st'.w = st.w) (hh : st'.h = st.h) (hs : p ≠ -1 → st'.sf p.toNat = st.sf p.toNat) : PCells blk st' p F := by
  have e : lookP st' p = lookP st p := by
    unfold lookP
    by_cases e : p = -1
    · rw [if_pos e, if_pos e, hw, hh]
    · rw [if_neg e, if_neg e, hs e]
  refine ⟨h.num, ?_, by rw [e]; exact h.now, ?_, ?_, h.kep⟩
  · rw [h.par]
    by_cases e : p = -1
    · rw [if_pos e, if_pos e]
    · rw [if_neg e, if_neg e, hs e]
  · obtain ⟨l, h1, h2⟩ := h.next
    exact ⟨l, h1, fun e => by rw [hs e]; exact h2 e⟩
  · obtain ⟨t, z, b, h1, h2, h3, h4⟩ := h.stk
    exact ⟨t, z, b, h1, h2, h3, fun e => by rw [hs e]; exact h4 e⟩

theorem DataT.ne {t T : TypeId} (h : DataT t) (hT : ¬ DataT T) : t ≠ T := fun e => hT (e ▸ h)

section
variable {w w' : World} {S : Nat → Prop} {x : Nat} {st : St} {bv : Value} {sc mp : Nat} {blk : Int → Nat} {G : Int → Nat → Value}

/-- One surface's cells are turned, but for what lies on it. -/
theorem PRaw.upd (h : PRaw w S x st bv sc mp blk G) {i : Nat} (hi : i ∈ st.order) (hil : i < st.sfs.length) {gf : Sf → Sf} (hpar : ∀ s, (gf s).parent = s.parent) (hoth : ∀ g, g < w.heap.size → g ≠ blk i → w'.heap[g]? = w.heap[g]?) {F : Nat → Value} (hs : SrfB w' (blk i) F) (h2 : F 2 = G i 2) (hc : PCells blk (Go.Proofs.YtofinpocigbbeaaGreat.upd st i gf) i F) (hd : SfD w S F (gf (st.sf i))) : PRaw w' S x (Go.Proofs.YtofinpocigbbeaaGreat.upd st i gf) bv sc mp blk (upG G i F) := by
  have hA := upd_alike (g := gf) hil hpar
  obtain ⟨cur, hcur, hcs⟩ := h.srf i (live_nat hi)
  have hlt : ∀ {g : Nat} {o : Obj}, w.heap[g]? = some o → g < w.heap.size := fun {g o} hg => (Array.getElem?_eq_some_iff.1 hg).1
  have on2 : ∀ p : Int, upG G i F p 2 = G p 2 := fun p => by
    unfold upG
    by_cases e : p = i
    · subst e; rw [if_pos rfl, h2]
    · rw [if_neg e]
  refine ⟨(hoth x (hlt h.scr) (neT h.scr hcur (by decide))).trans h.scr, ?_, h.map.keep (hoth mp h.map.lt (fun e => h.map.ne hcur e.symm)), fun p hp => ?_, h.own, h.inj, fun p hp => ?_, fun p p' hp hp' hne g => ?_, fun p hp => ?_, fun j hj => ?_⟩
  · rw [hA.len]
    exact (hoth sc (hlt h.sce) (neT h.sce hcur (by decide))).trans h.sce
  · unfold upG
    by_cases e : p = i
    · subst e; rw [if_pos rfl]; exact hs
    · rw [if_neg e]
      have hb : blk p ≠ blk i := fun e2 => e (h.inj p i hp (live_nat hi) e2)
      obtain ⟨c2, k1, k2⟩ := h.srf p hp
      exact ⟨c2, (hoth _ (hlt k1) hb).trans k1, k2⟩
  · rw [on2, hA.kids]
    exact (h.on p hp).other fun g c hg => hoth g (hlt hg) (neT hg hcur (by decide))
  · rw [on2, on2]
    exact h.apart p p' hp hp' hne g
  · unfold upG
    by_cases e : p = i
    · subst e; rw [if_pos rfl]; exact hc
    · rw [if_neg e]
      refine (h.cells p hp).other rfl rfl fun hp1 => ?_
      rw [upd_sf st i gf _ hil, if_neg]
      rcases hp with rfl | ⟨j, rfl, _⟩
      · exact absurd rfl hp1
      · rw [Int.toNat_natCast]
        exact fun e2 => e (by rw [e2])
  · have hkd : KeptD w w' := fun g cur t ht e => hoth g (hlt e) (neT e hcur (ht.ne (by unfold DataT; decide)))
    unfold upG
    by_cases e : (j : Int) = i
    · have e2 : j = i := by omega
      subst e2
      rw [if_pos rfl, upd_sf st j gf _ hil, if_pos rfl]
      exact hd.kd hkd
    · rw [if_neg e, upd_sf st i gf _ hil, if_neg (fun e2 => e (by rw [e2]))]
      exact (h.data j hj).kd hkd

end

theorem mapInfo : Tryz.prog.underlying 150 = some (.map 3 117) := Tryz.underlying150

set_option maxRecDepth 100000 in
set_option maxHeartbeats 1000000 in
/-- (*Scene).Surface: there is none. -/
theorem scSurface_no {w : World} {S : Nat → Prop} {x : Nat} {st : St} {bv : Value} {sc mp : Nat} {blk : Int → Nat} {G : Int → Nat → Value} (h : PRaw w S x st bv sc mp blk G) (id : Int) (hid : ∀ i ∈ st.order, (i : Int) ≠ id) :
    Calls Tryz.prog 58 #[.pointer (some ⟨sc, 0, none⟩), .int .i64 id] w fun e w' => e = .returned (.pointer none) ∧ w' = w := by
  obtain ⟨v, hl, hv⟩ := h.map.lookup Tryz.underlying150 Tryz.underlying3 (ptrZero w) id
  obtain ⟨k0, k1, k2, k3, k4⟩ := h.sceCells
  rcases hv with ⟨rfl, _⟩ | ⟨i, hi, e, _⟩
  · clear h
    go_enter Tryz.func58, Tryz.ntmps58
    go_wp2_with fail
    go_ret
    exact ⟨rfl, rfl⟩
  · exact absurd e.symm (hid i hi)

set_option maxRecDepth 100000 in
set_option maxHeartbeats 1000000 in
theorem scSurface_ok {w : World} {S : Nat → Prop} {x : Nat} {st : St} {bv : Value} {sc mp : Nat} {blk : Int → Nat} {G : Int → Nat → Value} (h : PRaw w S x st bv sc mp blk G) (i : Nat) (hi : i ∈ st.order) :
    Calls Tryz.prog 58 #[.pointer (some ⟨sc, 0, none⟩), .int .i64 (i : Int)] w fun e w' => e = .returned (.pointer (some ⟨blk i, 0, none⟩)) ∧ w' = w := by
  obtain ⟨v, hl, hv⟩ := h.map.lookup Tryz.underlying150 Tryz.underlying3 (ptrZero w) (i : Int)
  obtain ⟨k0, k1, k2, k3, k4⟩ := h.sceCells
  rcases hv with ⟨rfl, hv⟩ | ⟨j, hj, e, rfl⟩
  · exact absurd rfl (hv i hi)
  · have : i = j := by omega
    subst this
    clear h
    go_enter Tryz.func58, Tryz.ntmps58
    go_wp2_with fail
    go_ret
    exact ⟨rfl, rfl⟩

set_option maxHeartbeats 1000000 in
theorem within_any (n a b : Int) (w : World) : Calls Tryz.prog 52 #[.int .i64 n, .int .i64 a, .int .i64 b] w fun e w' => e = .returned (.bool (decide (a ≤ n ∧ n ≤ b))) ∧ w' = w := by
  go_enter Tryz.func52, Tryz.ntmps52
  go_wp2
  all_goals
    go_ret
    refine ⟨ret_b ?_, rfl⟩
    first
      | (simp_all; done)
      | (simp_all; omega)

end Go.Proofs.YtofinpocigbbeaaGreat
