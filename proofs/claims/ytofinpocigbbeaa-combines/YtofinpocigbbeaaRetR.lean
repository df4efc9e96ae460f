import Derived.Test.YtofinpocigbbeaaSamR
namespace Go.Proofs.Ytofinpocigbbeaa
open Go.RowKit
attribute [local go_sem ↓] Go.wp_at_zero Go.wp_at_succ

def mkR : Int × Int × Int × Int := (1, 1, 3, 2)

/-- What the lent list reads behind i rounds. -/
def retL (l : List (Int × Int × Int × Int)) (i : Nat) : List (Int × Int × Int × Int) := List.replicate i mkR ++ (l ++ [farR, farR]).drop i

theorem retL_len (l : List (Int × Int × Int × Int)) (i : Nat) (h : i ≤ l.length + 2) : (retL l i).length = l.length + 2 := by
  unfold retL
  simp only [List.length_append, List.length_replicate, List.length_drop, List.length_cons, List.length_nil]
  omega

theorem retL_split (l : List (Int × Int × Int × Int)) (i : Nat) (h : i < l.length + 2) : retL l i = List.replicate i mkR ++ ((l ++ [farR, farR])[i]'(by simp; omega)) :: (l ++ [farR, farR]).drop (i + 1) := by
  unfold retL
  rw [List.drop_eq_getElem_cons (by simp; omega)]

theorem retL_next (l : List (Int × Int × Int × Int)) (i : Nat) : retL l (i + 1) = List.replicate i mkR ++ mkR :: (l ++ [farR, farR]).drop (i + 1) := by
  unfold retL
  rw [List.replicate_succ', List.append_assoc]
  rfl

theorem rectCells_set4 (A B : List (Int × Int × Int × Int)) (q r : Int × Int × Int × Int) : ((((rectCells (A ++ q :: B)).set (A.length * 4) (.int .i64 r.1)).set (A.length * 4 + 1) (.int .i64 r.2.1)).set (A.length * 4 + 2) (.int .i64 r.2.2.1)).set (A.length * 4 + 3) (.int .i64 r.2.2.2) = rectCells (A ++ r :: B) := by
  have e : ∀ q, rectCells (A ++ q :: B) = rectCells A ++ ([.int .i64 q.1, .int .i64 q.2.1, .int .i64 q.2.2.1, .int .i64 q.2.2.2] ++ rectCells B) := fun q => by rw [rectCells_append]; rfl
  have k : ∀ (x : List Value) (j : Nat) (u : Value), (rectCells A ++ x).set (A.length * 4 + j) u = rectCells A ++ x.set j u := fun x j u => by
    rw [List.set_append, if_neg (by rw [rectCells_len]; omega), rectCells_len, show A.length * 4 + j - A.length * 4 = j by omega]
  have k0 : ∀ (x : List Value) (u : Value), (rectCells A ++ x).set (A.length * 4) u = rectCells A ++ x.set 0 u := fun x u => k x 0 u
  rw [e, e, k0, k, k, k]
  rfl

theorem ret_step {w wr : World} {base g n cap i nq : Nat} {l : List (Int × Int × Int × Int)} {o : Obj} (hn : l.length = n) (hi : i < n + 2) (h : wr.ownsRow base 52 4 (.slice (some ⟨g, 0, none⟩) (n + 2) cap) (n + 2) (rectCells (retL l i))) (hg : w.grownBy wr (some g)) :
    ((((((wr.alloc o).drewN nq).setCell ⟨g, i * 4, none⟩ (.int .i64 1)).setCell ⟨g, i * 4 + 1, none⟩ (.int .i64 1)).setCell ⟨g, i * 4 + 2, none⟩ (.int .i64 3)).setCell ⟨g, i * 4 + 3, none⟩ (.int .i64 2)).ownsRow base 52 4 (.slice (some ⟨g, 0, none⟩) (n + 2) cap) (n + 2) (rectCells (retL l (i + 1))) ∧
    w.grownBy ((((((wr.alloc o).drewN nq).setCell ⟨g, i * 4, none⟩ (.int .i64 1)).setCell ⟨g, i * 4 + 1, none⟩ (.int .i64 1)).setCell ⟨g, i * 4 + 2, none⟩ (.int .i64 3)).setCell ⟨g, i * 4 + 3, none⟩ (.int .i64 2)) (some g) := by
  have h0 : ((wr.alloc o).drewN nq).ownsRow base 52 4 (.slice (some ⟨g, 0, none⟩) (n + 2) cap) (n + 2) (rectCells (retL l i)) := h.alloc o
  have h1 := own_set (j := i * 4) h0 (.int .i64 1)
  have h2 := own_set (j := i * 4 + 1) h1 (.int .i64 1)
  have h3 := own_set (j := i * 4 + 2) h2 (.int .i64 3)
  have h4 := own_set (j := i * 4 + 3) h3 (.int .i64 2)
  refine ⟨?_, hg.os, hg.tape, hg.output, ?_, fun k hk hne => ?_⟩
  · have e := rectCells_set4 (List.replicate i mkR) ((l ++ [farR, farR]).drop (i + 1)) ((l ++ [farR, farR])[i]'(by simp; omega)) mkR
    rw [← retL_split l i (by omega), ← retL_next, List.length_replicate] at e
    have e2 : mkR = (1, 1, 3, 2) := rfl
    rw [e2] at e
    simp only at e
    rw [e] at h4
    exact h4
  · have := hg.size
    simp
    omega
  · have hkg : k ≠ g := fun e => hne (by rw [e])
    rw [heap_setCell_other _ ⟨g, i * 4 + 3, none⟩ k _ hkg, heap_setCell_other _ ⟨g, i * 4 + 2, none⟩ k _ hkg, heap_setCell_other _ ⟨g, i * 4 + 1, none⟩ k _ hkg, heap_setCell_other _ ⟨g, i * 4, none⟩ k _ hkg]
    exact (heap_old wr o k (by have := hg.size; omega)).trans (hg.block k hk hne)

set_option maxRecDepth 100000 in
set_option maxHeartbeats 1000000 in
theorem returned_any (l : List (Int × Int × Int × Int)) (u v : Value) (base : Nat) (w : World) (hv : RectsAt w v l) (hlow : ∀ b off c, v = .slice (some ⟨b, off, none⟩) l.length c → 0 < l.length → b < base) (hu : Lent w base v l u) (hr : l.length * 32 ≤ 140737488351232) :
    Calls Try.prog 18 #[u, v] w fun e w' => e = .returned (.bool true) ∧ w.grownBy w' u.ownBlock := by
  rcases hu with ⟨rfl, rfl, rfl⟩ | ⟨⟨ad, c, rfl⟩, g, cap, rfl, hown⟩
  · clear hv hlow hr
    have hq := eq_nil_nil
    go_enter Try.func18, Try.ntmps18
    go_wp2
    go_ret
    exact ⟨rfl, rfl, rfl, rfl, Nat.le_refl _, fun _ _ _ => rfl⟩
  · have hq := eq_some_nil
    have hq2 := eqRect
    have hcap := own_cap hown
    have hgb := (hown.lt g rfl).1
    have hgl := (hown.lt g rfl).2
    obtain ⟨n, hn⟩ : ∃ n, l.length = n := ⟨_, rfl⟩
    rw [hn] at hr hcap
    have HV := hide hv
    have HW := hide hlow
    have HO := hide hown
    have HN := hide hn
    rw [hn] at HW HO
    rw [hn]
    clear hv hlow hown hn
    have hc2 : (n : Int) + 2 ≤ (cap : Int) := by omega
    go_enter Try.func18, Try.ntmps18
    go_wp2
    go_loopg [6, 7] (n + 2) (fun gg s6 s7 wr => s6 = .bool true ∧ ∃ i : Nat, s7 = .int .i64 i ∧ gg + i = n + 2 ∧ wr.ownsRow base 52 4 (.slice (some ⟨g, 0, none⟩) (n + 2) cap) (n + 2) (rectCells (retL l i)) ∧ w.grownBy wr (some g))
    case atStart =>
      refine ⟨rfl, 0, rfl, by omega, ?_, rfl, rfl, rfl, Nat.le_refl _, fun _ _ _ => rfl⟩
      have := HO.out
      unfold retL
      simpa using this
    case round =>
      obtain ⟨rfl, i, rfl, hgi, hown, hgr⟩ := hrel
      cases gk with
      | zero =>
        have hlt : ¬ (i : Int) < (n : Int) + 2 := by omega
        have HG := hide hgr
        clear hgr hown
        go_wp2
        go_ret
        exact ⟨rfl, HG.out⟩
      | succ g2 =>
        have hlt : (i : Int) < (n : Int) + 2 := by omega
        have hin2 : i < n + 2 := by omega
        have hic : i < cap := by omega
        have hgw := (hown.lt g rfl).2
        have hil : i < (retL l i).length := by rw [retL_len l i (by rw [HN.out]; omega), HN.out]; omega
        obtain ⟨y0, y1, y2, y3⟩ := rectCells_at (retL l i) i hil
        have cs := hown.cells (g := g) rfl
        replace y0 := cs _ _ y0
        replace y1 := cs _ _ y1
        replace y2 := cs _ _ y2
        replace y3 := cs _ _ y3
        rw [add_at] at y0 y1 y2 y3
        obtain ⟨⟨a0, b0, c0, d0⟩, hr0⟩ : ∃ r, (retL l i)[i] = r := ⟨_, rfl⟩
        rw [hr0] at y0 y1 y2 y3
        simp only at y0 y1 y2 y3
        have z0 := own_free hown (i * 4)
        have z1 := own_free hown (i * 4 + 1)
        have z2 := own_free hown (i * 4 + 2)
        have z3 := own_free hown (i * 4 + 3)
        have HR := hide hr0
        by_cases hi : i < n
        · have hlti : (i : Int) < (n : Int) := by omega
          have hiL : i < l.length := by rw [HN.out]; exact hi
          obtain ⟨b, off, c9, e9, q0, q1, q2, q3⟩ := HV.out.at i hiL
          rw [HN.out] at e9
          injection e9 with e91 e92 e93
          injection e91 with e91
          clear e92
          subst e91 e93
          have hbb := HW.out b off c rfl (by omega)
          have hbw := cell_lt q0
          have hbne : some b ≠ some g := by simp; omega
          replace q0 := (hgr.cell_far ⟨b, off + i * 4, none⟩ hbw hbne).trans q0
          replace q1 := (hgr.cell_far ⟨b, off + i * 4 + 1, none⟩ hbw hbne).trans q1
          replace q2 := (hgr.cell_far ⟨b, off + i * 4 + 2, none⟩ hbw hbne).trans q2
          replace q3 := (hgr.cell_far ⟨b, off + i * 4 + 3, none⟩ hbw hbne).trans q3
          have hbw2 := cell_lt q0
          have hri : l.getD i (0, 0, 0, 0) = (a0, b0, c0, d0) := by
            rw [← HR.out, List.getD_eq_getElem?_getD, List.getElem?_eq_getElem hiL]
            have h9 := retL_split l i (by omega)
            have h8 : (retL l i)[i]? = some l[i] := by
              rw [h9, List.getElem?_append_right (by simp), List.length_replicate, Nat.sub_self, List.getElem?_cons_zero, List.getElem_append_left hiL]
            rw [List.getElem?_eq_getElem hil] at h8
            exact (Option.some.inj h8).symm
          rw [hri] at q0 q1 q2 q3
          simp only at q0 q1 q2 q3
          have hgne : ¬ b = g := by omega
          have HK := hide (And.intro hown hgr)
          clear hown hgr hr0 hri cs hbne
          go_wp2
          go_quiet (fail)
          go_wp2
          go_roundg g2
          case measure => omega
          case rel =>
            have h9 := ret_step (nq := nq) (o := .cells #[.int .i64 a0, .int .i64 b0, .int .i64 c0, .int .i64 d0] 52) HN.out hin2 HK.out.1 HK.out.2
            exact ⟨rfl, i + 1, by go_num, by omega, h9.1, h9.2⟩
        · have hlti : ¬ (i : Int) < (n : Int) := by omega
          have hri : (a0, b0, c0, d0) = farR := by
            rw [← HR.out]
            have h9 := retL_split l i (by rw [HN.out]; exact hin2)
            have h7 : ∀ (h : i < (l ++ [farR, farR]).length), (l ++ [farR, farR])[i] = farR := by
              intro h
              rw [List.getElem_append_right (by rw [HN.out]; omega)]
              have : i - l.length = 0 ∨ i - l.length = 1 := by rw [HN.out]; omega
              rcases this with h6 | h6
              · simp [h6]
              · simp [h6]
            have h8 : (retL l i)[i]? = some farR := by
              rw [h9, List.getElem?_append_right (by simp), List.length_replicate, Nat.sub_self, List.getElem?_cons_zero, h7]
            rw [List.getElem?_eq_getElem hil] at h8
            exact Option.some.inj h8
          unfold farR at hri
          simp only [Prod.mk.injEq] at hri
          obtain ⟨rfl, rfl, rfl, rfl⟩ := hri
          have HK := hide (And.intro hown hgr)
          clear hown hgr hr0 cs
          go_wp2
          go_quiet (fail)
          go_wp2
          go_roundg g2
          case measure => omega
          case rel =>
            have h9 := ret_step (nq := nq) (o := .cells #[.int .i64 (-7070), .int .i64 0, .int .i64 0, .int .i64 0] 52) HN.out hin2 HK.out.1 HK.out.2
            exact ⟨rfl, i + 1, by go_num, by omega, h9.1, h9.2⟩

end Go.Proofs.Ytofinpocigbbeaa
