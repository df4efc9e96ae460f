import Derived.Test.YtofinpocigbbeaaBokC
namespace Go.Proofs.Ytofinpocigbbeaa
open Go.RowKit

/-- A row that is to be appended. -/
def Bld (u : Option Nat) (w : World) (x : Value) (m : Nat) (cs : Array Value) : Prop := ∃ g, x = .slice (some ⟨g, 0, none⟩) m m ∧ some g ≠ u ∧ w.heap[g]? = some (.cells cs 52 (0, 0))

def RowZ (w : World) (B0 zb : Nat) (x : Value) (m : Nat) : Prop := RowO w B0 x m ∧ x.ownBlock ≠ some zb

/-- The four lists. -/
def Regs (v : Value) (n B0 zb : Nat) (w : World) (x : Value) : Prop := ∃ g a b c, x = .slice (some ⟨g, 0, none⟩) 4 4 ∧ some g ≠ v.ownBlock ∧ w.heap[g]? = some (.cells #[v, a, b, c] 22 (0, 0)) ∧ RowZ w B0 zb a (n + 1) ∧ RowZ w B0 zb b (n + 2) ∧ RowZ w B0 zb c (n + 3)

theorem RowZ.step {w w' : World} {B0 zb m : Nat} {x : Value} {u : Option Nat} (h : RowZ w B0 zb x m) (hs : Stp u w w') : RowZ w' B0 zb x m := ⟨h.1.step hs, h.2⟩

theorem Bld.step {w w' : World} {m : Nat} {x : Value} {cs : Array Value} {u : Option Nat} (h : Bld u w x m cs) (hs : Stp u w w') : Bld u w' x m cs := by
  obtain ⟨g, h1, h2, h3⟩ := h
  exact ⟨g, h1, h2, by rw [hs.grown.block g (Array.getElem?_eq_some_iff.1 h3).1 h2]; exact h3⟩

theorem Regs.step {w w' : World} {v x : Value} {n B0 zb : Nat} (h : Regs v n B0 zb w x) (hs : Stp v.ownBlock w w') : Regs v n B0 zb w' x := by
  obtain ⟨g, a, b, c, h1, h2, h3, h4, h5, h6⟩ := h
  exact ⟨g, a, b, c, h1, h2, by rw [hs.grown.block g (Array.getElem?_eq_some_iff.1 h3).1 h2]; exact h3, h4.step hs, h5.step hs, h6.step hs⟩

/-- What slot s holds once its operation is through. -/
structure Fx (v : Value) (n B0 zb s : Nat) (x : Value) (w : World) : Prop where
  mv : s = 14 ∨ s = 15 ∨ s = 19 ∨ s = 24 → x = v
  ld : s = 16 ∨ s = 20 ∨ s = 21 ∨ s = 25 ∨ s = 26 ∨ s = 27 → x = .agg zC
  b1 : s = 17 → Bld v.ownBlock w x 1 zC
  b2 : s = 22 → Bld v.ownBlock w x 2 (zC ++ zC)
  b3 : s = 28 → Bld v.ownBlock w x 3 (zC ++ zC ++ zC)
  r1 : s = 18 → RowZ w B0 zb x (n + 1)
  r2 : s = 23 → RowZ w B0 zb x (n + 2)
  r3 : s = 29 → RowZ w B0 zb x (n + 3)
  rg : s = 30 ∨ s = 5 → Regs v n B0 zb w x

theorem Fx.step {w w' : World} {v x : Value} {n B0 zb s : Nat} (h : Fx v n B0 zb s x w) (hs : Stp v.ownBlock w w') : Fx v n B0 zb s x w' :=
  ⟨h.mv, h.ld, fun e => (h.b1 e).step hs, fun e => (h.b2 e).step hs, fun e => (h.b3 e).step hs, fun e => (h.r1 e).step hs, fun e => (h.r2 e).step hs, fun e => (h.r3 e).step hs, fun e => (h.rg e).step hs⟩

def slotOf (k : Nat) : Nat := if k = 17 then 5 else k + 14

def BInv (v : Value) (n B0 zb : Nat) (w0 : World) (listed : Array Bool) (f : Nat → Value) (w : World) : Prop :=
  Stp v.ownBlock w0 w ∧ ∀ k, k < 18 → listed[k]? = some true → Fx v n B0 zb (slotOf k) (f (slotOf k)) w

theorem inv_put {v x : Value} {n B0 zb : Nat} {w0 w w' : World} {listed : Array Bool} {f : Nat → Value} (k : Nat) (h : BInv v n B0 zb w0 listed f w) (hk : k < 18) (hs : Stp v.ownBlock w w') (hx : Fx v n B0 zb (slotOf k) x w') :
    BInv v n B0 zb w0 (listed.setIfInBounds k true) (fun s => if s = slotOf k then x else f s) w' := by
  refine ⟨h.1.trans hs, fun j hj hl => ?_⟩
  by_cases e : j = k
  · subst e
    simp only [if_true]
    exact hx
  · rw [Array.getElem?_setIfInBounds_ne (fun q => e q.symm)] at hl
    have hne : ¬ slotOf j = slotOf k := by
      unfold slotOf
      split <;> split <;> omega
    simp only [hne, if_false]
    exact (h.2 j hj hl).step hs

theorem news_one : ∀ u ∈ zC.toList, u.oneCell' = true := by
  intro u hu
  simp only [zC, List.mem_cons, List.not_mem_nil, or_false] at hu
  rcases hu with rfl | rfl | rfl | rfl <;> rfl
theorem news_two : ∀ u ∈ (zC ++ zC).toList, u.oneCell' = true := by
  intro u hu
  rw [Array.toList_append, List.mem_append] at hu
  rcases hu with h | h <;> exact news_one u h
theorem news_three : ∀ u ∈ (zC ++ zC ++ zC).toList, u.oneCell' = true := by
  intro u hu
  rw [Array.toList_append, List.mem_append] at hu
  rcases hu with h | h
  · exact news_two u h
  · exact news_one u h

/-- append in the region. -/
theorem app_step {v x : Value} {n B0 zb m : Nat} {w w1 : World} {cs : Array Value} (ty : TypeId) (hn : n + m ≤ 9000010) (hB : B0 ≤ w.heap.size) (hv : RowO w B0 v n) (hz : w.heap[zb]? = some (.cells zC 52 (0, 0))) (hvz : v.ownBlock ≠ some zb) (hs : Stp v.ownBlock w w1) (hx : Bld v.ownBlock w1 x m cs) (hcs : cs.size = m * 4) (h1 : ∀ u ∈ cs.toList, u.oneCell' = true) :
    ∃ r w', (Builtin.append_ #[22, 22] ty #[v, x]).run Try.prog w1 = .ok r w' ∧ Stp v.ownBlock w1 w' ∧ RowZ w' B0 zb r (n + m) := by
  obtain ⟨g, rfl, hg, hb⟩ := hx
  obtain ⟨r, w', hr, h2, h3, h4⟩ := row_append (hv.step hs) ty ⟨g, 0, none⟩ m m cs.toList (by rw [Array.length_toList, hcs]) (World.news_of_block hb) h1 (by unfold maxLen; omega) (by omega) (by have := hs.grown.size; omega)
  refine ⟨r, w', hr, h3, h2, ?_⟩
  rcases h4 with h4 | h4
  · rw [h4]; exact hvz
  · rw [h4]
    have hzl := (Array.getElem?_eq_some_iff.1 hz).1
    have := hs.grown.size
    intro e
    injection e with e
    omega

set_option maxRecDepth 100000 in
theorem step0 {Q : Exit → Act → World → Prop} {v : Value} {n B0 pb zb : Nat} {w w1 : World} {listed : Array Bool} {f : Nat → Value} {o : Oper} (hI : BInv v n B0 zb w listed f w1) (ho : (rgnOf Try.f20)[0]? = some o) (_ : ∀ e ∈ o.after, Region.binds .any e = true → listed[e.on]? = some true) :
    wpOp Try.prog (rgnOf Try.f20) Q 0 (fun a' w' => ∃ f', a' = fr pb zb v f' ∧ BInv v n B0 zb w (listed.setIfInBounds 0 true) f' w') (fr pb zb v f) w1 := by
  have ho9 := ho
  cases ho
  exact wpOp_run (x := v) (w' := w1) ho9 rfl rfl ⟨_, rfl, inv_put 0 hI (by decide) (Stp.refl _ _) ⟨fun _ => rfl, fun e => absurd e (by decide), fun e => absurd e (by decide), fun e => absurd e (by decide), fun e => absurd e (by decide), fun e => absurd e (by decide), fun e => absurd e (by decide), fun e => absurd e (by decide), fun e => absurd e (by decide)⟩⟩

set_option maxRecDepth 100000 in
theorem step1 {Q : Exit → Act → World → Prop} {v : Value} {n B0 pb zb : Nat} {w w1 : World} {listed : Array Bool} {f : Nat → Value} {o : Oper} (hI : BInv v n B0 zb w listed f w1) (ho : (rgnOf Try.f20)[1]? = some o) (_ : ∀ e ∈ o.after, Region.binds .any e = true → listed[e.on]? = some true) :
    wpOp Try.prog (rgnOf Try.f20) Q 1 (fun a' w' => ∃ f', a' = fr pb zb v f' ∧ BInv v n B0 zb w (listed.setIfInBounds 1 true) f' w') (fr pb zb v f) w1 := by
  have ho9 := ho
  cases ho
  exact wpOp_run (x := v) (w' := w1) ho9 rfl rfl ⟨_, rfl, inv_put 1 hI (by decide) (Stp.refl _ _) ⟨fun _ => rfl, fun e => absurd e (by decide), fun e => absurd e (by decide), fun e => absurd e (by decide), fun e => absurd e (by decide), fun e => absurd e (by decide), fun e => absurd e (by decide), fun e => absurd e (by decide), fun e => absurd e (by decide)⟩⟩

set_option maxRecDepth 100000 in
theorem step2 {Q : Exit → Act → World → Prop} {v : Value} {n B0 pb zb : Nat} {w w1 : World} {listed : Array Bool} {f : Nat → Value} {o : Oper} (hz : w.heap[zb]? = some (.cells zC 52 (0, 0))) (hvz : v.ownBlock ≠ some zb) (hI : BInv v n B0 zb w listed f w1) (ho : (rgnOf Try.f20)[2]? = some o) (_ : ∀ e ∈ o.after, Region.binds .any e = true → listed[e.on]? = some true) :
    wpOp Try.prog (rgnOf Try.f20) Q 2 (fun a' w' => ∃ f', a' = fr pb zb v f' ∧ BInv v n B0 zb w (listed.setIfInBounds 2 true) f' w') (fr pb zb v f) w1 := by
  have ho9 := ho
  cases ho
  have hz1 : w1.heap[zb]? = some (.cells zC 52 (0, 0)) := by rw [hI.1.grown.block zb (Array.getElem?_eq_some_iff.1 hz).1 (fun e => hvz e.symm)]; exact hz
  exact wpOp_run (x := .agg zC) (w' := w1) ho9 rfl (runLoad pb zb v f _ rfl w1 hz1) ⟨_, rfl, inv_put 2 hI (by decide) (Stp.refl _ _) ⟨fun e => absurd e (by decide), fun _ => rfl, fun e => absurd e (by decide), fun e => absurd e (by decide), fun e => absurd e (by decide), fun e => absurd e (by decide), fun e => absurd e (by decide), fun e => absurd e (by decide), fun e => absurd e (by decide)⟩⟩

set_option maxRecDepth 100000 in
theorem step3 {Q : Exit → Act → World → Prop} {v : Value} {n B0 pb zb : Nat} {w w1 : World} {listed : Array Bool} {f : Nat → Value} {o : Oper} (hv : RowO w B0 v n) (hI : BInv v n B0 zb w listed f w1) (ho : (rgnOf Try.f20)[3]? = some o) (hd : ∀ e ∈ o.after, Region.binds .any e = true → listed[e.on]? = some true) :
    wpOp Try.prog (rgnOf Try.f20) Q 3 (fun a' w' => ∃ f', a' = fr pb zb v f' ∧ BInv v n B0 zb w (listed.setIfInBounds 3 true) f' w') (fr pb zb v f) w1 := by
  have ho9 := ho
  cases ho
  have d2 : listed[2]? = some true := hd ⟨2, _⟩ (Array.mem_toList_iff.1 (List.Mem.head _)) rfl
  have q2 := hI.2 2 (by decide) d2
  have hnew : some w1.heap.size ≠ v.ownBlock := fun e => by
    have h1 := (hv.step hI.1)
    obtain ⟨xs, h2⟩ := h1
    have := (h2.lt _ e.symm).2
    omega
  exact wpOp_run ho9 rfl (runB1 pb zb v f _ rfl w1 (q2.ld (by decide))) ⟨_, rfl, inv_put 3 hI (by decide) (Stp.alloc _ _ _) ⟨fun e => absurd e (by decide), fun e => absurd e (by decide), fun _ => ⟨w1.heap.size, rfl, hnew, heap_alloc_new w1 _⟩, fun e => absurd e (by decide), fun e => absurd e (by decide), fun e => absurd e (by decide), fun e => absurd e (by decide), fun e => absurd e (by decide), fun e => absurd e (by decide)⟩⟩

set_option maxRecDepth 100000 in
theorem step4 {Q : Exit → Act → World → Prop} {v : Value} {n B0 pb zb : Nat} {w w1 : World} {listed : Array Bool} {f : Nat → Value} {o : Oper} (hn : n ≤ 9000000) (hB : B0 ≤ w.heap.size) (hv : RowO w B0 v n) (hz : w.heap[zb]? = some (.cells zC 52 (0, 0))) (hvz : v.ownBlock ≠ some zb) (hI : BInv v n B0 zb w listed f w1) (ho : (rgnOf Try.f20)[4]? = some o) (hd : ∀ e ∈ o.after, Region.binds .any e = true → listed[e.on]? = some true) :
    wpOp Try.prog (rgnOf Try.f20) Q 4 (fun a' w' => ∃ f', a' = fr pb zb v f' ∧ BInv v n B0 zb w (listed.setIfInBounds 4 true) f' w') (fr pb zb v f) w1 := by
  have ho9 := ho
  cases ho
  have d1 : listed[1]? = some true := hd ⟨1, _⟩ (Array.mem_toList_iff.1 (List.Mem.head _)) rfl
  have q1 := hI.2 1 (by decide) d1
  have d3 : listed[3]? = some true := hd ⟨3, _⟩ (Array.mem_toList_iff.1 (List.Mem.tail _ (List.Mem.head _))) rfl
  have q3 := hI.2 3 (by decide) d3
  obtain ⟨r, w2, hr, hs2, hrow⟩ := app_step (cs := zC) 22 (by omega) hB hv hz hvz hI.1 (q3.b1 rfl) rfl news_one
  exact wpOp_run ho9 rfl (runApp (fr pb zb v f) _ (.tmp 15) (.tmp 17) rfl w1 w2 v (f 17) r (q1.mv (by decide)) rfl hr) ⟨_, rfl, inv_put 4 hI (by decide) hs2 ⟨fun e => absurd e (by decide), fun e => absurd e (by decide), fun e => absurd e (by decide), fun e => absurd e (by decide), fun e => absurd e (by decide), fun _ => hrow, fun e => absurd e (by decide), fun e => absurd e (by decide), fun e => absurd e (by decide)⟩⟩

set_option maxRecDepth 100000 in
theorem step5 {Q : Exit → Act → World → Prop} {v : Value} {n B0 pb zb : Nat} {w w1 : World} {listed : Array Bool} {f : Nat → Value} {o : Oper} (hI : BInv v n B0 zb w listed f w1) (ho : (rgnOf Try.f20)[5]? = some o) (_ : ∀ e ∈ o.after, Region.binds .any e = true → listed[e.on]? = some true) :
    wpOp Try.prog (rgnOf Try.f20) Q 5 (fun a' w' => ∃ f', a' = fr pb zb v f' ∧ BInv v n B0 zb w (listed.setIfInBounds 5 true) f' w') (fr pb zb v f) w1 := by
  have ho9 := ho
  cases ho
  exact wpOp_run (x := v) (w' := w1) ho9 rfl rfl ⟨_, rfl, inv_put 5 hI (by decide) (Stp.refl _ _) ⟨fun _ => rfl, fun e => absurd e (by decide), fun e => absurd e (by decide), fun e => absurd e (by decide), fun e => absurd e (by decide), fun e => absurd e (by decide), fun e => absurd e (by decide), fun e => absurd e (by decide), fun e => absurd e (by decide)⟩⟩

set_option maxRecDepth 100000 in
theorem step6 {Q : Exit → Act → World → Prop} {v : Value} {n B0 pb zb : Nat} {w w1 : World} {listed : Array Bool} {f : Nat → Value} {o : Oper} (hz : w.heap[zb]? = some (.cells zC 52 (0, 0))) (hvz : v.ownBlock ≠ some zb) (hI : BInv v n B0 zb w listed f w1) (ho : (rgnOf Try.f20)[6]? = some o) (_ : ∀ e ∈ o.after, Region.binds .any e = true → listed[e.on]? = some true) :
    wpOp Try.prog (rgnOf Try.f20) Q 6 (fun a' w' => ∃ f', a' = fr pb zb v f' ∧ BInv v n B0 zb w (listed.setIfInBounds 6 true) f' w') (fr pb zb v f) w1 := by
  have ho9 := ho
  cases ho
  have hz1 : w1.heap[zb]? = some (.cells zC 52 (0, 0)) := by rw [hI.1.grown.block zb (Array.getElem?_eq_some_iff.1 hz).1 (fun e => hvz e.symm)]; exact hz
  exact wpOp_run (x := .agg zC) (w' := w1) ho9 rfl (runLoad pb zb v f _ rfl w1 hz1) ⟨_, rfl, inv_put 6 hI (by decide) (Stp.refl _ _) ⟨fun e => absurd e (by decide), fun _ => rfl, fun e => absurd e (by decide), fun e => absurd e (by decide), fun e => absurd e (by decide), fun e => absurd e (by decide), fun e => absurd e (by decide), fun e => absurd e (by decide), fun e => absurd e (by decide)⟩⟩

set_option maxRecDepth 100000 in
theorem step7 {Q : Exit → Act → World → Prop} {v : Value} {n B0 pb zb : Nat} {w w1 : World} {listed : Array Bool} {f : Nat → Value} {o : Oper} (hz : w.heap[zb]? = some (.cells zC 52 (0, 0))) (hvz : v.ownBlock ≠ some zb) (hI : BInv v n B0 zb w listed f w1) (ho : (rgnOf Try.f20)[7]? = some o) (_ : ∀ e ∈ o.after, Region.binds .any e = true → listed[e.on]? = some true) :
    wpOp Try.prog (rgnOf Try.f20) Q 7 (fun a' w' => ∃ f', a' = fr pb zb v f' ∧ BInv v n B0 zb w (listed.setIfInBounds 7 true) f' w') (fr pb zb v f) w1 := by
  have ho9 := ho
  cases ho
  have hz1 : w1.heap[zb]? = some (.cells zC 52 (0, 0)) := by rw [hI.1.grown.block zb (Array.getElem?_eq_some_iff.1 hz).1 (fun e => hvz e.symm)]; exact hz
  exact wpOp_run (x := .agg zC) (w' := w1) ho9 rfl (runLoad pb zb v f _ rfl w1 hz1) ⟨_, rfl, inv_put 7 hI (by decide) (Stp.refl _ _) ⟨fun e => absurd e (by decide), fun _ => rfl, fun e => absurd e (by decide), fun e => absurd e (by decide), fun e => absurd e (by decide), fun e => absurd e (by decide), fun e => absurd e (by decide), fun e => absurd e (by decide), fun e => absurd e (by decide)⟩⟩

set_option maxRecDepth 100000 in
theorem step8 {Q : Exit → Act → World → Prop} {v : Value} {n B0 pb zb : Nat} {w w1 : World} {listed : Array Bool} {f : Nat → Value} {o : Oper} (hv : RowO w B0 v n) (hI : BInv v n B0 zb w listed f w1) (ho : (rgnOf Try.f20)[8]? = some o) (hd : ∀ e ∈ o.after, Region.binds .any e = true → listed[e.on]? = some true) :
    wpOp Try.prog (rgnOf Try.f20) Q 8 (fun a' w' => ∃ f', a' = fr pb zb v f' ∧ BInv v n B0 zb w (listed.setIfInBounds 8 true) f' w') (fr pb zb v f) w1 := by
  have ho9 := ho
  cases ho
  have d6 : listed[6]? = some true := hd ⟨6, _⟩ (Array.mem_toList_iff.1 (List.Mem.head _)) rfl
  have q6 := hI.2 6 (by decide) d6
  have d7 : listed[7]? = some true := hd ⟨7, _⟩ (Array.mem_toList_iff.1 (List.Mem.tail _ (List.Mem.head _))) rfl
  have q7 := hI.2 7 (by decide) d7
  have hnew : some w1.heap.size ≠ v.ownBlock := fun e => by
    have h1 := (hv.step hI.1)
    obtain ⟨xs, h2⟩ := h1
    have := (h2.lt _ e.symm).2
    omega
  exact wpOp_run ho9 rfl (runB2 pb zb v f _ rfl w1 (q6.ld (by decide)) (q7.ld (by decide))) ⟨_, rfl, inv_put 8 hI (by decide) (Stp.alloc _ _ _) ⟨fun e => absurd e (by decide), fun e => absurd e (by decide), fun e => absurd e (by decide), fun _ => ⟨w1.heap.size, rfl, hnew, heap_alloc_new w1 _⟩, fun e => absurd e (by decide), fun e => absurd e (by decide), fun e => absurd e (by decide), fun e => absurd e (by decide), fun e => absurd e (by decide)⟩⟩

set_option maxRecDepth 100000 in
theorem step9 {Q : Exit → Act → World → Prop} {v : Value} {n B0 pb zb : Nat} {w w1 : World} {listed : Array Bool} {f : Nat → Value} {o : Oper} (hn : n ≤ 9000000) (hB : B0 ≤ w.heap.size) (hv : RowO w B0 v n) (hz : w.heap[zb]? = some (.cells zC 52 (0, 0))) (hvz : v.ownBlock ≠ some zb) (hI : BInv v n B0 zb w listed f w1) (ho : (rgnOf Try.f20)[9]? = some o) (hd : ∀ e ∈ o.after, Region.binds .any e = true → listed[e.on]? = some true) :
    wpOp Try.prog (rgnOf Try.f20) Q 9 (fun a' w' => ∃ f', a' = fr pb zb v f' ∧ BInv v n B0 zb w (listed.setIfInBounds 9 true) f' w') (fr pb zb v f) w1 := by
  have ho9 := ho
  cases ho
  have d5 : listed[5]? = some true := hd ⟨5, _⟩ (Array.mem_toList_iff.1 (List.Mem.head _)) rfl
  have q5 := hI.2 5 (by decide) d5
  have d8 : listed[8]? = some true := hd ⟨8, _⟩ (Array.mem_toList_iff.1 (List.Mem.tail _ (List.Mem.head _))) rfl
  have q8 := hI.2 8 (by decide) d8
  have d4 : listed[4]? = some true := hd ⟨4, _⟩ (Array.mem_toList_iff.1 (List.Mem.tail _ (List.Mem.tail _ (List.Mem.head _)))) rfl
  have q4 := hI.2 4 (by decide) d4
  obtain ⟨r, w2, hr, hs2, hrow⟩ := app_step (cs := (zC ++ zC)) 22 (by omega) hB hv hz hvz hI.1 (q8.b2 rfl) rfl news_two
  exact wpOp_run ho9 rfl (runApp (fr pb zb v f) _ (.tmp 19) (.tmp 22) rfl w1 w2 v (f 22) r (q5.mv (by decide)) rfl hr) ⟨_, rfl, inv_put 9 hI (by decide) hs2 ⟨fun e => absurd e (by decide), fun e => absurd e (by decide), fun e => absurd e (by decide), fun e => absurd e (by decide), fun e => absurd e (by decide), fun e => absurd e (by decide), fun _ => hrow, fun e => absurd e (by decide), fun e => absurd e (by decide)⟩⟩

set_option maxRecDepth 100000 in
theorem step10 {Q : Exit → Act → World → Prop} {v : Value} {n B0 pb zb : Nat} {w w1 : World} {listed : Array Bool} {f : Nat → Value} {o : Oper} (hI : BInv v n B0 zb w listed f w1) (ho : (rgnOf Try.f20)[10]? = some o) (_ : ∀ e ∈ o.after, Region.binds .any e = true → listed[e.on]? = some true) :
    wpOp Try.prog (rgnOf Try.f20) Q 10 (fun a' w' => ∃ f', a' = fr pb zb v f' ∧ BInv v n B0 zb w (listed.setIfInBounds 10 true) f' w') (fr pb zb v f) w1 := by
  have ho9 := ho
  cases ho
  exact wpOp_run (x := v) (w' := w1) ho9 rfl rfl ⟨_, rfl, inv_put 10 hI (by decide) (Stp.refl _ _) ⟨fun _ => rfl, fun e => absurd e (by decide), fun e => absurd e (by decide), fun e => absurd e (by decide), fun e => absurd e (by decide), fun e => absurd e (by decide), fun e => absurd e (by decide), fun e => absurd e (by decide), fun e => absurd e (by decide)⟩⟩

set_option maxRecDepth 100000 in
theorem step11 {Q : Exit → Act → World → Prop} {v : Value} {n B0 pb zb : Nat} {w w1 : World} {listed : Array Bool} {f : Nat → Value} {o : Oper} (hz : w.heap[zb]? = some (.cells zC 52 (0, 0))) (hvz : v.ownBlock ≠ some zb) (hI : BInv v n B0 zb w listed f w1) (ho : (rgnOf Try.f20)[11]? = some o) (_ : ∀ e ∈ o.after, Region.binds .any e = true → listed[e.on]? = some true) :
    wpOp Try.prog (rgnOf Try.f20) Q 11 (fun a' w' => ∃ f', a' = fr pb zb v f' ∧ BInv v n B0 zb w (listed.setIfInBounds 11 true) f' w') (fr pb zb v f) w1 := by
  have ho9 := ho
  cases ho
  have hz1 : w1.heap[zb]? = some (.cells zC 52 (0, 0)) := by rw [hI.1.grown.block zb (Array.getElem?_eq_some_iff.1 hz).1 (fun e => hvz e.symm)]; exact hz
  exact wpOp_run (x := .agg zC) (w' := w1) ho9 rfl (runLoad pb zb v f _ rfl w1 hz1) ⟨_, rfl, inv_put 11 hI (by decide) (Stp.refl _ _) ⟨fun e => absurd e (by decide), fun _ => rfl, fun e => absurd e (by decide), fun e => absurd e (by decide), fun e => absurd e (by decide), fun e => absurd e (by decide), fun e => absurd e (by decide), fun e => absurd e (by decide), fun e => absurd e (by decide)⟩⟩

set_option maxRecDepth 100000 in
theorem step12 {Q : Exit → Act → World → Prop} {v : Value} {n B0 pb zb : Nat} {w w1 : World} {listed : Array Bool} {f : Nat → Value} {o : Oper} (hz : w.heap[zb]? = some (.cells zC 52 (0, 0))) (hvz : v.ownBlock ≠ some zb) (hI : BInv v n B0 zb w listed f w1) (ho : (rgnOf Try.f20)[12]? = some o) (_ : ∀ e ∈ o.after, Region.binds .any e = true → listed[e.on]? = some true) :
    wpOp Try.prog (rgnOf Try.f20) Q 12 (fun a' w' => ∃ f', a' = fr pb zb v f' ∧ BInv v n B0 zb w (listed.setIfInBounds 12 true) f' w') (fr pb zb v f) w1 := by
  have ho9 := ho
  cases ho
  have hz1 : w1.heap[zb]? = some (.cells zC 52 (0, 0)) := by rw [hI.1.grown.block zb (Array.getElem?_eq_some_iff.1 hz).1 (fun e => hvz e.symm)]; exact hz
  exact wpOp_run (x := .agg zC) (w' := w1) ho9 rfl (runLoad pb zb v f _ rfl w1 hz1) ⟨_, rfl, inv_put 12 hI (by decide) (Stp.refl _ _) ⟨fun e => absurd e (by decide), fun _ => rfl, fun e => absurd e (by decide), fun e => absurd e (by decide), fun e => absurd e (by decide), fun e => absurd e (by decide), fun e => absurd e (by decide), fun e => absurd e (by decide), fun e => absurd e (by decide)⟩⟩

set_option maxRecDepth 100000 in
theorem step13 {Q : Exit → Act → World → Prop} {v : Value} {n B0 pb zb : Nat} {w w1 : World} {listed : Array Bool} {f : Nat → Value} {o : Oper} (hz : w.heap[zb]? = some (.cells zC 52 (0, 0))) (hvz : v.ownBlock ≠ some zb) (hI : BInv v n B0 zb w listed f w1) (ho : (rgnOf Try.f20)[13]? = some o) (_ : ∀ e ∈ o.after, Region.binds .any e = true → listed[e.on]? = some true) :
    wpOp Try.prog (rgnOf Try.f20) Q 13 (fun a' w' => ∃ f', a' = fr pb zb v f' ∧ BInv v n B0 zb w (listed.setIfInBounds 13 true) f' w') (fr pb zb v f) w1 := by
  have ho9 := ho
  cases ho
  have hz1 : w1.heap[zb]? = some (.cells zC 52 (0, 0)) := by rw [hI.1.grown.block zb (Array.getElem?_eq_some_iff.1 hz).1 (fun e => hvz e.symm)]; exact hz
  exact wpOp_run (x := .agg zC) (w' := w1) ho9 rfl (runLoad pb zb v f _ rfl w1 hz1) ⟨_, rfl, inv_put 13 hI (by decide) (Stp.refl _ _) ⟨fun e => absurd e (by decide), fun _ => rfl, fun e => absurd e (by decide), fun e => absurd e (by decide), fun e => absurd e (by decide), fun e => absurd e (by decide), fun e => absurd e (by decide), fun e => absurd e (by decide), fun e => absurd e (by decide)⟩⟩

set_option maxRecDepth 100000 in
theorem step14 {Q : Exit → Act → World → Prop} {v : Value} {n B0 pb zb : Nat} {w w1 : World} {listed : Array Bool} {f : Nat → Value} {o : Oper} (hv : RowO w B0 v n) (hI : BInv v n B0 zb w listed f w1) (ho : (rgnOf Try.f20)[14]? = some o) (hd : ∀ e ∈ o.after, Region.binds .any e = true → listed[e.on]? = some true) :
    wpOp Try.prog (rgnOf Try.f20) Q 14 (fun a' w' => ∃ f', a' = fr pb zb v f' ∧ BInv v n B0 zb w (listed.setIfInBounds 14 true) f' w') (fr pb zb v f) w1 := by
  have ho9 := ho
  cases ho
  have d11 : listed[11]? = some true := hd ⟨11, _⟩ (Array.mem_toList_iff.1 (List.Mem.head _)) rfl
  have q11 := hI.2 11 (by decide) d11
  have d12 : listed[12]? = some true := hd ⟨12, _⟩ (Array.mem_toList_iff.1 (List.Mem.tail _ (List.Mem.head _))) rfl
  have q12 := hI.2 12 (by decide) d12
  have d13 : listed[13]? = some true := hd ⟨13, _⟩ (Array.mem_toList_iff.1 (List.Mem.tail _ (List.Mem.tail _ (List.Mem.head _)))) rfl
  have q13 := hI.2 13 (by decide) d13
  have hnew : some w1.heap.size ≠ v.ownBlock := fun e => by
    have h1 := (hv.step hI.1)
    obtain ⟨xs, h2⟩ := h1
    have := (h2.lt _ e.symm).2
    omega
  exact wpOp_run ho9 rfl (runB3 pb zb v f _ rfl w1 (q11.ld (by decide)) (q12.ld (by decide)) (q13.ld (by decide))) ⟨_, rfl, inv_put 14 hI (by decide) (Stp.alloc _ _ _) ⟨fun e => absurd e (by decide), fun e => absurd e (by decide), fun e => absurd e (by decide), fun e => absurd e (by decide), fun _ => ⟨w1.heap.size, rfl, hnew, heap_alloc_new w1 _⟩, fun e => absurd e (by decide), fun e => absurd e (by decide), fun e => absurd e (by decide), fun e => absurd e (by decide)⟩⟩

set_option maxRecDepth 100000 in
theorem step15 {Q : Exit → Act → World → Prop} {v : Value} {n B0 pb zb : Nat} {w w1 : World} {listed : Array Bool} {f : Nat → Value} {o : Oper} (hn : n ≤ 9000000) (hB : B0 ≤ w.heap.size) (hv : RowO w B0 v n) (hz : w.heap[zb]? = some (.cells zC 52 (0, 0))) (hvz : v.ownBlock ≠ some zb) (hI : BInv v n B0 zb w listed f w1) (ho : (rgnOf Try.f20)[15]? = some o) (hd : ∀ e ∈ o.after, Region.binds .any e = true → listed[e.on]? = some true) :
    wpOp Try.prog (rgnOf Try.f20) Q 15 (fun a' w' => ∃ f', a' = fr pb zb v f' ∧ BInv v n B0 zb w (listed.setIfInBounds 15 true) f' w') (fr pb zb v f) w1 := by
  have ho9 := ho
  cases ho
  have d10 : listed[10]? = some true := hd ⟨10, _⟩ (Array.mem_toList_iff.1 (List.Mem.head _)) rfl
  have q10 := hI.2 10 (by decide) d10
  have d14 : listed[14]? = some true := hd ⟨14, _⟩ (Array.mem_toList_iff.1 (List.Mem.tail _ (List.Mem.head _))) rfl
  have q14 := hI.2 14 (by decide) d14
  have d9 : listed[9]? = some true := hd ⟨9, _⟩ (Array.mem_toList_iff.1 (List.Mem.tail _ (List.Mem.tail _ (List.Mem.head _)))) rfl
  have q9 := hI.2 9 (by decide) d9
  obtain ⟨r, w2, hr, hs2, hrow⟩ := app_step (cs := (zC ++ zC ++ zC)) 22 (by omega) hB hv hz hvz hI.1 (q14.b3 rfl) rfl news_three
  exact wpOp_run ho9 rfl (runApp (fr pb zb v f) _ (.tmp 24) (.tmp 28) rfl w1 w2 v (f 28) r (q10.mv (by decide)) rfl hr) ⟨_, rfl, inv_put 15 hI (by decide) hs2 ⟨fun e => absurd e (by decide), fun e => absurd e (by decide), fun e => absurd e (by decide), fun e => absurd e (by decide), fun e => absurd e (by decide), fun e => absurd e (by decide), fun e => absurd e (by decide), fun _ => hrow, fun e => absurd e (by decide)⟩⟩

set_option maxRecDepth 100000 in
theorem step16 {Q : Exit → Act → World → Prop} {v : Value} {n B0 pb zb : Nat} {w w1 : World} {listed : Array Bool} {f : Nat → Value} {o : Oper} (hv : RowO w B0 v n) (hI : BInv v n B0 zb w listed f w1) (ho : (rgnOf Try.f20)[16]? = some o) (hd : ∀ e ∈ o.after, Region.binds .any e = true → listed[e.on]? = some true) :
    wpOp Try.prog (rgnOf Try.f20) Q 16 (fun a' w' => ∃ f', a' = fr pb zb v f' ∧ BInv v n B0 zb w (listed.setIfInBounds 16 true) f' w') (fr pb zb v f) w1 := by
  have ho9 := ho
  cases ho
  have d0 : listed[0]? = some true := hd ⟨0, _⟩ (Array.mem_toList_iff.1 (List.Mem.head _)) rfl
  have q0 := hI.2 0 (by decide) d0
  have d4 : listed[4]? = some true := hd ⟨4, _⟩ (Array.mem_toList_iff.1 (List.Mem.tail _ (List.Mem.head _))) rfl
  have q4 := hI.2 4 (by decide) d4
  have d9 : listed[9]? = some true := hd ⟨9, _⟩ (Array.mem_toList_iff.1 (List.Mem.tail _ (List.Mem.tail _ (List.Mem.head _)))) rfl
  have q9 := hI.2 9 (by decide) d9
  have d15 : listed[15]? = some true := hd ⟨15, _⟩ (Array.mem_toList_iff.1 (List.Mem.tail _ (List.Mem.tail _ (List.Mem.tail _ (List.Mem.head _))))) rfl
  have q15 := hI.2 15 (by decide) d15
  have hnew : some w1.heap.size ≠ v.ownBlock := fun e => by
    have h1 := (hv.step hI.1)
    obtain ⟨xs, h2⟩ := h1
    have := (h2.lt _ e.symm).2
    omega
  have f0 : f 14 = v := q0.mv (by decide)
  have R1 := q4.r1 rfl
  have R2 := q9.r2 rfl
  have R3 := q15.r3 rfl
  obtain ⟨⟨x0, hx0⟩, ⟨x1, hx1⟩, ⟨x2, hx2⟩, ⟨x3, hx3⟩⟩ := And.intro (hv.step hI.1) (And.intro R1.1 (And.intro R2.1 R3.1))
  obtain ⟨a0, c0, e0⟩ := row_form hx0
  obtain ⟨a1, c1, e1⟩ := row_form hx1
  obtain ⟨a2, c2, e2⟩ := row_form hx2
  obtain ⟨a3, c3, e3⟩ := row_form hx3
  refine wpOp_run ho9 rfl (runB4 pb zb v f _ rfl w1 a0 a1 a2 a3 _ _ _ _ c0 c1 c2 c3 (f0.trans e0) e1 e2 e3) ⟨_, rfl, inv_put 16 hI (by decide) (Stp.alloc _ _ _) ⟨fun e => absurd e (by decide), fun e => absurd e (by decide), fun e => absurd e (by decide), fun e => absurd e (by decide), fun e => absurd e (by decide), fun e => absurd e (by decide), fun e => absurd e (by decide), fun e => absurd e (by decide), fun _ => ?_⟩⟩
  have S := Stp.alloc v.ownBlock w1 (.cells #[.slice a0 n c0, .slice a1 (n + 1) c1, .slice a2 (n + 2) c2, .slice a3 (n + 3) c3] 22)
  refine ⟨w1.heap.size, f 18, f 23, f 29, rfl, hnew, ?_, R1.step S, R2.step S, R3.step S⟩
  rw [heap_alloc_new]
  have g1 : f 18 = .slice a1 (n + 1) c1 := e1
  have g2 : f 23 = .slice a2 (n + 2) c2 := e2
  have g3 : f 29 = .slice a3 (n + 3) c3 := e3
  rw [g1, g2, g3, e0]

set_option maxRecDepth 100000 in
theorem step17 {Q : Exit → Act → World → Prop} {v : Value} {n B0 pb zb : Nat} {w w1 : World} {listed : Array Bool} {f : Nat → Value} {o : Oper} (hI : BInv v n B0 zb w listed f w1) (ho : (rgnOf Try.f20)[17]? = some o) (hd : ∀ e ∈ o.after, Region.binds .any e = true → listed[e.on]? = some true) :
    wpOp Try.prog (rgnOf Try.f20) Q 17 (fun a' w' => ∃ f', a' = fr pb zb v f' ∧ BInv v n B0 zb w (listed.setIfInBounds 17 true) f' w') (fr pb zb v f) w1 := by
  have ho9 := ho
  cases ho
  have d16 : listed[16]? = some true := hd ⟨16, _⟩ (Array.mem_toList_iff.1 (List.Mem.head _)) rfl
  have q16 := hI.2 16 (by decide) d16
  exact wpOp_run (x := f 30) (w' := w1) ho9 rfl rfl ⟨_, rfl, inv_put 17 hI (by decide) (Stp.refl _ _) ⟨fun e => absurd e (by decide), fun e => absurd e (by decide), fun e => absurd e (by decide), fun e => absurd e (by decide), fun e => absurd e (by decide), fun e => absurd e (by decide), fun e => absurd e (by decide), fun e => absurd e (by decide), fun _ => q16.rg (by decide)⟩⟩

set_option maxRecDepth 100000 in
/-- The region that makes the four lists, in whatever order. -/
theorem book_r1 {Q : Exit → Act → World → Prop} {v : Value} {n B0 pb zb id : Nat} {w : World} {f : Nat → Value} (hn : n ≤ 9000000) (hB : B0 ≤ w.heap.size) (hv : RowO w B0 v n) (hz : w.heap[zb]? = some (.cells zC 52 (0, 0))) (hvz : v.ownBlock ≠ some zb)
    (hQ : ∀ f' w', Stp v.ownBlock w w' → Regs v n B0 zb w' (f' 5) → Q .normal (fr pb zb v f') w') : (Code.region id (rgnOf Try.f20) true).wp Try.prog Q (fr pb zb v f) w := by
  refine wp_region_inv (by kernel_rfl) (I := fun listed a w1 => ∃ f', a = fr pb zb v f' ∧ BInv v n B0 zb w listed f' w1) rgn1_back ⟨f, rfl, ?_⟩ ?_ ?_
  · refine ⟨⟨⟨rfl, rfl, rfl, Nat.le_refl _, fun _ _ _ => rfl⟩, fun g cur h => ⟨cur, h, rfl⟩⟩, fun k hk hl => ?_⟩
    rw [rgn1_size, Array.getElem?_replicate, if_pos hk] at hl
    cases hl
  · rintro listed a w1 i o ⟨f', rfl, hI⟩ hsz hi ho hd
    rw [rgn1_size] at hi
    match i, hi with
    | 0, _ => exact step0  hI ho hd
    | 1, _ => exact step1  hI ho hd
    | 2, _ => exact step2 hz hvz hI ho hd
    | 3, _ => exact step3 hv hI ho hd
    | 4, _ => exact step4 hn hB hv hz hvz hI ho hd
    | 5, _ => exact step5  hI ho hd
    | 6, _ => exact step6 hz hvz hI ho hd
    | 7, _ => exact step7 hz hvz hI ho hd
    | 8, _ => exact step8 hv hI ho hd
    | 9, _ => exact step9 hn hB hv hz hvz hI ho hd
    | 10, _ => exact step10  hI ho hd
    | 11, _ => exact step11 hz hvz hI ho hd
    | 12, _ => exact step12 hz hvz hI ho hd
    | 13, _ => exact step13 hz hvz hI ho hd
    | 14, _ => exact step14 hv hI ho hd
    | 15, _ => exact step15 hn hB hv hz hvz hI ho hd
    | 16, _ => exact step16 hv hI ho hd
    | 17, _ => exact step17  hI ho hd
  · rintro listed a w1 ⟨f', rfl, hI⟩ hl
    exact hQ f' w1 hI.1 ((hI.2 17 (by decide) (hl 17 (by rw [rgn1_size]; decide))).rg (by decide))

end Go.Proofs.Ytofinpocigbbeaa
