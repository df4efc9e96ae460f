import Derived.Test.YtofinpocigbbeaaGreatKaf
import Derived.Test.YtofinpocigbbeaaGreatKag
import Derived.Handy
import Derived.Maps.AppendAt
import Derived.Test.YtofinpocigbbeaaGreatKah
namespace Go.Proofs.YtofinpocigbbeaaGreat
open Go.RowKit

set_option maxRecDepth 100000 in
set_option maxHeartbeats 1000000 in
theorem refHas_any (l : List (Int × Int × Int × Int)) (v : Value) (x y : Int) (w : World) (h : RectsAt w v l) (hl : l.length ≤ maxLen) :
    Calls Tryz.prog 122 #[v, .int .i64 x, .int .i64 y] w fun e w' => e = .returned (.bool (hasB l x y)) ∧ w' = w := by
  unfold maxLen at hl
  obtain ⟨a, c, rfl, hc⟩ := h
  obtain ⟨n, hn⟩ : ∃ n, l.length = n := ⟨_, rfl⟩
  rw [hn] at hl
  rw [hn]
  have HC := hide hc
  have HN := hide hn
  clear hc hn
  obtain ⟨res, hres⟩ : ∃ b, hasB l x y = b := ⟨_, rfl⟩
  rw [hres]
  have HR := hide hres
  clear hres
  go_enter Tryz.func122, Tryz.ntmps122
  go_wp2
  go_loopg [7] n (fun g s7 wr => ∃ k : Nat, s7 = .int .i64 k ∧ g + k = n ∧ (∀ j (h : j < l.length), j < k → inR l[j] x y = false) ∧ wr = w)
  case atStart => exact ⟨0, rfl, by omega, fun j _ h => absurd h (by omega), rfl⟩
  case round =>
    obtain ⟨k, rfl, hgk, hno, rfl⟩ := hrel
    have HNo := hide hno
    clear hno
    cases gk with
    | zero =>
      have hlt : ¬ (k : Int) < (n : Int) := by omega
      go_wp2
      go_ret
      refine ⟨ret_b ?_, rfl⟩
      rw [← HR.out]
      symm
      unfold hasB
      rw [List.any_eq_false]
      intro r hr
      obtain ⟨j, hj, rfl⟩ := List.getElem_of_mem hr
      rw [HNo.out j hj (by have := HN.out; omega)]
      simp
    | succ g =>
      have hlt : (k : Int) < (n : Int) := by omega
      have hltn : k < n := by omega
      have hkl : k < l.length := by have := HN.out; omega
      obtain ⟨b, off, rfl, hcs⟩ := HC.out (by omega)
      obtain ⟨c1, c2, c3, c4⟩ := hcs k hkl
      obtain ⟨⟨x0, y0, x1, y1⟩, hr⟩ : ∃ r, l[k] = r := ⟨_, rfl⟩
      rw [hr] at c1 c2 c3 c4
      simp only at c1 c2 c3 c4
      have HK := hide hr
      clear hr hcs
      by_cases hin : x0 ≤ x ∧ x < x1 ∧ y0 ≤ y ∧ y < y1
      · have HI : Hid (inR (x0, y0, x1, y1) x y = true) := by unfold Hid inR; simpa using hin
        obtain ⟨h1, h2, h3, h4⟩ := hin
        go_wp2
        go_ret
        refine ⟨ret_b ?_, rfl⟩
        rw [← HR.out]
        symm
        unfold hasB
        rw [List.any_eq_true]
        exact ⟨l[k], List.getElem_mem hkl, by rw [HK.out]; exact HI.out⟩
      · have HI : Hid (inR (x0, y0, x1, y1) x y = false) := by unfold Hid inR; simpa using hin
        have hcases : x < x0 ∨ (x0 ≤ x ∧ x1 ≤ x) ∨ (x0 ≤ x ∧ x < x1 ∧ y < y0) ∨ (x0 ≤ x ∧ x < x1 ∧ y0 ≤ y ∧ y1 ≤ y) := by omega
        clear hin
        rcases hcases with h1 | ⟨h1, h2⟩ | ⟨h1, h2, h3⟩ | ⟨h1, h2, h3, h4⟩
        all_goals
          go_wp2
          go_roundg g
          case measure => omega
          case rel =>
            refine ⟨k + 1, by go_num, by omega, fun j hj hjk => ?_, rfl⟩
            by_cases e : j = k
            · subst e; rw [HK.out]; exact HI.out
            · exact HNo.out j hj (by omega)


set_option maxHeartbeats 400000 in
theorem says_any (kind : Int) (p q : Bool) (w : World) :
    Calls Tryz.prog 123 #[.int .i64 kind, .bool p, .bool q] w fun e w' => e = .returned (.bool (keepB kind p q)) ∧ w' = w := by
  have HK : Hid (keepB kind p q = if kind = 0 then p || q else if kind = 1 then p && q else if kind = 2 then p && !q else p != q) := rfl
  generalize keepB kind p q = r at *
  have c0 : (kind == 0) = true ∨ (kind == 0) = false := by cases (kind == 0) <;> simp
  have c1 : (kind == 1) = true ∨ (kind == 1) = false := by cases (kind == 1) <;> simp
  have c2 : (kind == 2) = true ∨ (kind == 2) = false := by cases (kind == 2) <;> simp
  rcases c0 with c0 | c0
  · cases p <;> cases q <;>
    · go_enter Tryz.func123, Tryz.ntmps123
      go_wp2
      go_ret
      refine ⟨ret_b ?_, rfl⟩
      rw [HK.out]; simp at c0; simp [c0]
  · rcases c1 with c1 | c1
    · cases p <;> cases q <;>
      · go_enter Tryz.func123, Tryz.ntmps123
        go_wp2
        go_ret
        refine ⟨ret_b ?_, rfl⟩
        rw [HK.out]; simp at c1; simp [c1]
    · rcases c2 with c2 | c2
      · cases p <;> cases q <;>
        · go_enter Tryz.func123, Tryz.ntmps123
          go_wp2
          go_ret
          refine ⟨ret_b ?_, rfl⟩
          rw [HK.out]; simp at c2; simp [c2]
      · cases p <;> cases q <;>
        · go_enter Tryz.func123, Tryz.ntmps123
          go_wp2
          go_ret
          refine ⟨ret_b ?_, rfl⟩
          rw [HK.out]; simp at c0 c1 c2; simp [c0, c1, c2]


set_option maxRecDepth 100000 in
set_option maxHeartbeats 1000000 in
theorem refFits_any (a b c d : Int) (w : World) :
    Calls Tryz.prog 174 #[.agg #[.int .i64 a, .int .i64 b, .int .i64 c, .int .i64 d]] w fun e w' => e = .returned (.bool (fitR (a, b, c, d))) ∧ Below w.heap.size w w' := by
  have HF : Hid (∀ r, (r = true ↔ (-2000 ≤ a ∧ a ≤ c ∧ c ≤ 2000 ∧ -2000 ≤ b ∧ b ≤ d ∧ d ≤ 2000)) → r = fitR (a, b, c, d)) := by
    intro r hr
    unfold fitR
    rw [Bool.eq_iff_iff, hr]
    simp
  generalize fitR (a, b, c, d) = res at *
  have HB : Hid (Below w.heap.size w ((w.alloc (.cells #[.int .i64 a, .int .i64 b, .int .i64 c, .int .i64 d] 53)).alloc (.cells #[.int .i64 a, .int .i64 b, .int .i64 c, .int .i64 d] 3))) := ((Below.refl _ _).alloc (Nat.le_refl _) _).alloc (by simp) _
  go_enter Tryz.func174, Tryz.ntmps174
  go_wp2
  refine wp_loop_rounds 5 ?_
  repeat any_goals (rw [rounds_succ]; go_wp2)
  all_goals
    go_ret
    refine ⟨ret_b (HF.out _ ?_), HB.out⟩
    simp
    try omega

end Go.Proofs.YtofinpocigbbeaaGreat

namespace Go.Proofs.YtofinpocigbbeaaGreat
open Go.RowKit

set_option maxRecDepth 100000 in
set_option maxHeartbeats 1000000 in
theorem refAll_any (l : List (Int × Int × Int × Int)) (v : Value) (w : World) (h : RectsAt w v l) (hl : l.length ≤ maxLen) :
    Calls Tryz.prog 120 #[v] w fun e w' => e = .returned (.int .i64 (if l.all fitR = true then 0 else 3)) ∧ Below w.heap.size w w' := by
  unfold maxLen at hl
  have HR := hide h
  obtain ⟨va, vc, hv⟩ := h.form
  obtain ⟨n, hn⟩ : ∃ n, l.length = n := ⟨_, rfl⟩
  have HN := hide hn
  rw [hn] at hv hl
  have HV := hide hv
  rw [hv]
  obtain ⟨res, hres⟩ : ∃ r : Int, (if l.all fitR = true then 0 else 3) = r := ⟨_, rfl⟩
  rw [hres]
  have HRes := hide hres
  clear h hv hn hres
  go_enter Tryz.func120, Tryz.ntmps120
  go_wp2
  go_loopg [3] n (fun g s3 wr => ∃ q : Nat, s3 = .int .i64 q ∧ g + q = n ∧ (∀ r ∈ l.take q, fitR r = true) ∧ Below w.heap.size w wr)
  case atStart => exact ⟨0, rfl, by omega, fun r hr => by simp at hr, Below.refl _ _⟩
  case round =>
    obtain ⟨q, rfl, hgq, hfit, hbr⟩ := hrel
    cases gk with
    | zero =>
      have hq : ¬ (q : Int) < (n : Int) := by omega
      have HY := hide (And.intro hfit hbr)
      clear hfit hbr
      go_wp2
      go_ret
      refine ⟨ret_int ?_, HY.out.2⟩
      rw [← HRes.out, if_pos]
      rw [List.all_eq_true]
      have := HY.out.1
      rw [List.take_of_length_le (by have := HN.out; omega)] at this
      exact this
    | succ gq =>
      have hq : (q : Int) < (n : Int) := by omega
      have hqn : q < n := by omega
      have hql : q < l.length := by rw [HN.out]; exact hqn
      obtain ⟨x', c', hx', hcs⟩ := HR.out.below hbr
      rw [HV.out, HN.out] at hx'
      simp at hx'
      obtain ⟨rfl, rfl⟩ := hx'
      obtain ⟨b, off, rfl, hct⟩ := hcs (by omega)
      obtain ⟨c1, c2, c3, c4⟩ := hct q hql
      obtain ⟨⟨x0, y0, x1, y1⟩, hr⟩ : ∃ r, l[q] = r := ⟨_, rfl⟩
      rw [hr] at c1 c2 c3 c4
      simp only at c1 c2 c3 c4
      have hzb := cell_lt c1
      have hwr := hbr.size
      have hM := fun W => refFits_any x0 y0 x1 y1 W
      obtain ⟨p, hp⟩ : ∃ p, fitR (x0, y0, x1, y1) = p := ⟨_, rfl⟩
      rw [hp] at hM
      have HY := hide (And.intro hfit (And.intro hbr (And.intro hr hp)))
      clear hfit hbr hr hp hcs hct
      cases p with
      | true =>
        go_wp2_with (go_at_call 174; refine (hM _).mono ?_; rintro e w' ⟨rfl, hb1⟩; have HB1 := hide hb1; clear hb1)
        go_roundg gq
        case measure => omega
        case rel =>
          obtain ⟨hfit, hbr, hr, hp⟩ := HY.out
          refine ⟨q + 1, by go_num, by omega, fun r hr' => ?_, hbr.trans (HB1.out.mono hwr)⟩
          rw [List.take_succ_eq_append_getElem hql, hr] at hr'
          simp at hr'
          rcases hr' with h | h
          · exact hfit r h
          · subst h; exact hp
      | false =>
        go_wp2_with (go_at_call 174; refine (hM _).mono ?_; rintro e w' ⟨rfl, hb1⟩; have HB1 := hide hb1; clear hb1)
        go_ret
        obtain ⟨hfit, hbr, hr, hp⟩ := HY.out
        refine ⟨ret_int ?_, hbr.trans (HB1.out.mono hwr)⟩
        rw [← HRes.out, if_neg]
        rw [Bool.not_eq_true, List.all_eq_false]
        exact ⟨l[q], List.getElem_mem hql, by rw [hr, hp]; simp⟩

/-- A list of numbers that the call has made. -/
def OwnI (w : World) (base : Nat) (v : Value) (E : List Int) : Prop := w.ownsRow base 3 1 v E.length (E.map (Value.int .i64)) ∧ (E = [] → v = .slice none 0 0)

theorem OwnI.at {w : World} {base : Nat} {v : Value} {E : List Int} (h : OwnI w base v E) (hne : E ≠ []) : ∃ g c, v = .slice (some ⟨g, 0, none⟩) E.length c ∧ base ≤ g ∧ g < w.heap.size ∧ E.length ≤ c ∧ ∀ j (hj : j < E.length), w.cell? ⟨g, j, none⟩ = some (.int .i64 E[j]) := by
  have hpos : 0 < E.length := by cases E with
    | nil => exact absurd rfl hne
    | cons a E => simp
  obtain ⟨h1, h2⟩ := h
  have hf := h1.form hpos
  obtain ⟨g, c, rfl, hb, hl⟩ := hf
  have cs := h1.cells (g := g) rfl
  refine ⟨g, c, rfl, hb, hl, ?_, fun j hj => ?_⟩
  · rcases h1.2 with ⟨h, _⟩ | ⟨g', cap, cur, e, _, _, hle, _⟩
    · simp at h
    · simp at e; omega
  · have := cs j (.int .i64 E[j]) (by rw [List.getElem?_map, List.getElem?_eq_getElem hj]; rfl)
    rw [add_at] at this
    exact this

theorem intInfo : (Tryz.prog.info? 3).map (fun i => (i.zero, i.size, i.bytes)) = some (some (.int .i64 0), 1, 8) := by kernel_rfl

end Go.Proofs.YtofinpocigbbeaaGreat

namespace Go.Proofs.YtofinpocigbbeaaGreat
open Go.RowKit

theorem own_cap {w : World} {base : Nat} {e : TypeId} {size g n cap : Nat} {xs : List Value} (h : w.ownsRow base e size (.slice (some ⟨g, 0, none⟩) n cap) n xs) : n ≤ cap := by
  rcases h.2 with ⟨h, _⟩ | ⟨g', cap', cur, e, _, _, hle, _⟩
  · simp at h
  · simp at e; omega

set_option maxRecDepth 100000 in
set_option maxHeartbeats 1000000 in
theorem with_empty (x : Int) (base : Nat) (w : World) (hb : base ≤ w.heap.size) :
    Calls Tryz.prog 121 #[.slice none 0 0, .int .i64 x] w fun e w' => ∃ u, e = .returned u ∧ OwnI w' base u [x] ∧ Below base w w' := by
  obtain ⟨i0, hi0, hz0, hz1, hz2⟩ := info_parts intInfo
  go_enter Tryz.func121, Tryz.ntmps121
  go_wp2
  refine wp_loop_rounds 1 ?_
  rw [rounds_succ]
  go_wp2_with (at_builtin; refine wpList_append_lies _ rfl (.tmp 39) (.tmp 41) 24 rfl base 3 i0 (.int .i64 0) 1 8 Tryz.underlying24 hi0 hz0 hz1 hz2 rfl (by decide) (.slice none 0 0) 0 [] rfl (World.ownsRow_nil _ _ _ _) ⟨w.heap.size, 0, none⟩ 1 1 [.int .i64 x] rfl rfl (World.news_of_block (cs := #[.int .i64 x]) (t := 3) (fr := (0, 0)) (heap_alloc_new w _)) (by simp [Value.oneCell']) (by omega) (by unfold maxLen; omega) (by omega) (by simp; omega) _ rfl ?_; intro g cp w1 hown1 hgrow hat hlt; have HO1 := hide hown1; have HG1 := hide hgrow; have hcp : 1 ≤ cp := own_cap hown1; clear hown1 hgrow hat)
  go_ret
  exact ⟨_, rfl, ⟨HO1.out, fun h => by simp at h⟩, ((Below.refl _ _).alloc hb _).grown HG1.out (by simp; omega) fun k hk => by simp [Value.ownBlock] at hk⟩

end Go.Proofs.YtofinpocigbbeaaGreat

namespace Go.Proofs.YtofinpocigbbeaaGreat
open Go.RowKit

/-- One cell of an owned row is written. -/
theorem own_set {w : World} {base : Nat} {e : TypeId} {size g c n j : Nat} {xs : List Value} (h : w.ownsRow base e size (.slice (some ⟨g, 0, none⟩) n c) n xs) (u : Value) : (w.setCell ⟨g, j, none⟩ u).ownsRow base e size (.slice (some ⟨g, 0, none⟩) n c) n (xs.set j u) := by
  obtain ⟨e1, e2⟩ := h
  rcases e2 with ⟨e2, _⟩ | ⟨g', cap', cur, e3, e4, e5, e6, e7, e8, e9⟩
  · simp at e2
  · simp at e3
    obtain ⟨rfl, rfl⟩ := e3
    refine ⟨by rw [List.length_set]; exact e1, .inr ⟨g, c, cur.setIfInBounds j u, rfl, e4, heap_setCell_same w g j cur e u e5, e6, e7, by simpa using e8, ?_⟩⟩
    rw [← e9, Array.toList_setIfInBounds, List.take_set]

theorem own_free {w : World} {base : Nat} {e : TypeId} {size g c n : Nat} {xs : List Value} (h : w.ownsRow base e size (.slice (some ⟨g, 0, none⟩) n c) n xs) (j : Nat) : w.frozen? ⟨g, j, none⟩ = false := by
  obtain ⟨cur, hc⟩ := own_type h (k := g) rfl
  simp [World.frozen?, hc]

/-- append(s, x...), whatever x is: a nil slice, or a row in memory. -/
theorem wpList_append_row {P : Program} {w : World} {ops : Array Oper} {rest : List Oper} {o : Oper} {a : Act} {Q : Exit → Act → World → Prop} (hgd : o.guard = none) (s x : Operand) (t : TypeId)
    (ho : o.op = .call { callee := .builtin .append, args := #[s, x], argTypes := #[t, t] })
    (base : Nat) (e : TypeId) (i : TypeInfo) (z : Value) (size bytes : Nat) (ht : P.underlying t = some (.slice e)) (hi : P.info? e = some i) (hz : i.zero = some z)
    (hsize : i.size = size) (hby : i.bytes = bytes) (hzs : z.cells.size = size) (hsz : 0 < size)
    (v : Value) (n : Nat) (xs : List Value) (hs : a.eval s = v) (hown : w.ownsRow base e size v n xs)
    (vx : Value) (m : Nat) (news : List Value) (hx : a.eval x = vx) (hl : news.length = m * size) (hvx : (vx = .slice none 0 0 ∧ m = 0) ∨ ∃ ad c, vx = .slice (some ad) m c ∧ ∀ j u, news[j]? = some u → w.cell? (ad.add j) = some u) (h1 : ∀ u ∈ news, u.oneCell' = true)
    (h63 : n + m ≤ maxLen) (hbytes : (n + m) * bytes ≤ 140737488355328) (hbase : base ≤ w.heap.size)
    (h : ∀ v' w', w'.ownsRow base e size v' (n + m) (xs ++ news) → w.grownBy w' v.ownBlock → (v' = .slice none 0 0 ↔ v = .slice none 0 0 ∧ m = 0) → (v'.ownBlock = v.ownBlock ∨ v'.ownBlock = some w.heap.size) → wpList P ops Q rest (a.put o.dst v') w') :
    wpList P ops Q (o :: rest) a w := by
  rcases hvx with ⟨hv, hm⟩ | ⟨ad, c, hv, hnews⟩
  · subst hv hm
    refine wpList_plain hgd fun K hK => ?_
    have hr := run_append_owned_none (P := P) (w := w) base t o.type e i size ht hi v n xs hown
    unfold Oper.wp execOp
    simp only [ho, resolve, invoke, builtin, Sem.run_bind, Sem.run_pure, Result.andThen_ok, List.map_toArray, List.map_cons, List.map_nil, hs, hx, hr]
    have hn0 : news = [] := List.length_eq_zero_iff.mp (by rw [hl, Nat.zero_mul])
    subst hn0
    refine hK _ _ (h v w (by rw [List.append_nil, Nat.add_zero]; exact hown) ⟨rfl, rfl, rfl, Nat.le_refl _, fun _ _ _ => rfl⟩ (by simp) (.inl rfl))
  · exact wpList_append_own_at w hgd s x t ho base e i z size bytes ht hi hz hsize hby hzs hsz v n xs hs hown ad m c news (hx.trans hv) hl hnews h1 h63 hbytes hbase h

theorem addr_off (b off j : Nat) : (⟨b, off, none⟩ : Addr).add j = ⟨b, off + j, none⟩ := by unfold Addr.add; split <;> simp_all

/-- A list of rectangles as append's second argument. -/
theorem rects_news {w : World} {v : Value} {l : List (Int × Int × Int × Int)} (h : RectsAt w v l) (hn : l = [] → v = .slice none 0 0 ∨ ∃ ad c, v = .slice (some ad) 0 c) : (v = .slice none 0 0 ∧ l.length = 0) ∨ ∃ ad c, v = .slice (some ad) l.length c ∧ ∀ j u, (rectCells l)[j]? = some u → w.cell? (ad.add j) = some u := by
  by_cases hl : l = []
  · rcases hn hl with hn | ⟨ad, c, hn⟩
    · exact .inl ⟨hn, by rw [hl]; rfl⟩
    · exact .inr ⟨ad, c, by rw [hl]; exact hn, fun j u hu => by rw [hl] at hu; simp [rectCells] at hu⟩
  · right
    have hpos : 0 < l.length := by cases l with
      | nil => exact absurd rfl hl
      | cons a l => simp
    obtain ⟨a, c, rfl, hc⟩ := h
    obtain ⟨b, off, rfl, hcs⟩ := hc hpos
    refine ⟨_, c, rfl, fun j u hu => ?_⟩
    have hj : j < l.length * 4 := by
      rw [← rectCells_len]
      exact (List.getElem?_eq_some_iff.1 hu).1
    obtain ⟨k, hk⟩ : ∃ k, j / 4 = k := ⟨_, rfl⟩
    have hkl : k < l.length := by omega
    obtain ⟨q1, q2, q3, q4⟩ := rectCells_at l k hkl
    obtain ⟨c1, c2, c3, c4⟩ := hcs k hkl
    rw [addr_off]
    have hcase : j = k * 4 ∨ j = k * 4 + 1 ∨ j = k * 4 + 2 ∨ j = k * 4 + 3 := by omega
    clear hk hj
    rcases hcase with rfl | rfl | rfl | rfl
    · rw [q1] at hu; rw [← hu]; exact c1
    · rw [q2] at hu; rw [← hu]; exact c2
    · rw [q3] at hu; rw [← hu]; exact c3
    · rw [q4] at hu; rw [← hu]; exact c4

theorem rect_oneCell (l : List (Int × Int × Int × Int)) : ∀ u ∈ rectCells l, u.oneCell' = true := by
  intro u hu
  unfold rectCells at hu
  rw [List.mem_flatMap] at hu
  obtain ⟨r, _, hu⟩ := hu
  simp at hu
  rcases hu with rfl | rfl | rfl | rfl <;> rfl

theorem row_form {w : World} {base : Nat} {e : TypeId} {size n : Nat} {v : Value} {xs : List Value} (h : w.ownsRow base e size v n xs) : ∃ a c, v = .slice a n c := by
  rcases h.2 with ⟨h, h0⟩ | ⟨g, cap, cur, h, _⟩
  · exact ⟨none, 0, by rw [h, h0]⟩
  · exact ⟨_, _, h⟩

end Go.Proofs.YtofinpocigbbeaaGreat

namespace Go.Proofs.YtofinpocigbbeaaGreat
open Go.RowKit

/-! ### Who owns what: a call turns its own blocks alone, and makes new ones -/

structure Only (S : Nat → Prop) (w w' : World) : Prop where
  os : w'.os = w.os
  tape : w'.tape = w.tape
  output : w'.output = w.output
  size : w.heap.size ≤ w'.heap.size
  block : ∀ g, g < w.heap.size → ¬ S g → w'.heap[g]? = w.heap[g]?

/-- Its blocks, and all that are new. -/
def grow (S : Nat → Prop) (w w' : World) : Nat → Prop := fun g => S g ∨ (w.heap.size ≤ g ∧ g < w'.heap.size)

theorem Only.refl (S : Nat → Prop) (w : World) : Only S w w := ⟨rfl, rfl, rfl, Nat.le_refl _, fun _ _ _ => rfl⟩

theorem Only.below {S : Nat → Prop} {w w' : World} (h : Below w.heap.size w w') : Only S w w' := ⟨h.os, h.tape, h.output, h.size, fun g hg _ => h.block g hg⟩

theorem Only.to_below {S : Nat → Prop} {w w' : World} {B : Nat} (h : Only S w w') (hS : ∀ g, S g → B ≤ g) (hB : B ≤ w.heap.size) : Below B w w' :=
  ⟨h.os, h.tape, h.output, h.size, fun g hg => h.block g (by omega) fun hs => by have := hS g hs; omega⟩

theorem Only.trans {S : Nat → Prop} {a b c : World} (h : Only S a b) (k : Only (grow S a b) b c) : Only S a c :=
  ⟨k.os.trans h.os, k.tape.trans h.tape, k.output.trans h.output, Nat.le_trans h.size k.size, fun g hg hs => by
    have h1 := h.size
    rw [k.block g (by omega) (fun hh => by rcases hh with hh | hh; exact hs hh; omega), h.block g hg hs]⟩

theorem Only.mono {S S' : Nat → Prop} {a b : World} (h : Only S a b) (hS : ∀ g, g < a.heap.size → S g → S' g) : Only S' a b :=
  ⟨h.os, h.tape, h.output, h.size, fun g hg hs => h.block g hg fun hh => hs (hS g hg hh)⟩

/-- A step that turns a block of one's own, or a new one. -/
theorem Only.grown {S : Nat → Prop} {a b c : World} {u : Option Nat} (h : Only S a b) (k : b.grownBy c u) (hu : ∀ g, u = some g → S g ∨ a.heap.size ≤ g) : Only S a c :=
  ⟨k.os.trans h.os, k.tape.trans h.tape, k.output.trans h.output, Nat.le_trans h.size k.size, fun g hg hs => by
    have h1 := h.size
    rw [k.block g (by omega) (fun e => by rcases hu g e.symm with hh | hh; exact hs hh; omega), h.block g hg hs]⟩

theorem Only.after {S : Nat → Prop} {a b c : World} (h : Only S a b) (k : Below b.heap.size b c) : Only S a c :=
  ⟨k.os.trans h.os, k.tape.trans h.tape, k.output.trans h.output, Nat.le_trans h.size k.size, fun g hg hs => by
    have h1 := h.size
    rw [k.block g (by omega), h.block g hg hs]⟩

theorem Only.alloc {S : Nat → Prop} {a b : World} (h : Only S a b) (o : Obj) : Only S a (b.alloc o) :=
  h.grown (World.grownBy_alloc b o none) (fun g e => by cases e)

theorem Only.set {S : Nat → Prop} {a b : World} (h : Only S a b) {p : Addr} (hp : S p.block ∨ a.heap.size ≤ p.block) (u : Value) : Only S a (b.setCell p u) :=
  ⟨h.os, h.tape, h.output, by have := h.size; simpa using this, fun g hg hs => by
    rw [heap_setCell_other b p g u (fun e => by subst e; rcases hp with hp | hp; exact hs hp; omega)]
    exact h.block g hg hs⟩

theorem Only.drewN {S : Nat → Prop} {a b : World} (h : Only S a b) (n : Nat) : Only S a (b.drewN n) := ⟨h.os, h.tape, h.output, h.size, h.block⟩
theorem Only.drew {S : Nat → Prop} {a b : World} (h : Only S a b) : Only S a b.drew := ⟨h.os, h.tape, h.output, h.size, h.block⟩

theorem grow_self {S : Nat → Prop} {w w' : World} {g : Nat} (h : S g) : grow S w w' g := .inl h

/-! ### A row: its block is one's own -/

def RowS (w : World) (S : Nat → Prop) (T : TypeId) (k : Nat) (v : Value) (n : Nat) (xs : List Value) : Prop := w.ownsRow 0 T k v n xs ∧ ∀ g, v.ownBlock = some g → S g

theorem RowS.mono {w : World} {S S' : Nat → Prop} {T : TypeId} {k : Nat} {v : Value} {n : Nat} {xs : List Value} (h : RowS w S T k v n xs) (hS : ∀ g, S g → S' g) : RowS w S' T k v n xs := ⟨h.1, fun g hg => hS g (h.2 g hg)⟩

theorem own_keep {w w' : World} {base : Nat} {e : TypeId} {size : Nat} {v : Value} {n : Nat} {xs : List Value} (h : w.ownsRow base e size v n xs) (hk : ∀ g, v.ownBlock = some g → w'.heap[g]? = w.heap[g]?) : w'.ownsRow base e size v n xs := by
  obtain ⟨h1, h2⟩ := h
  refine ⟨h1, ?_⟩
  rcases h2 with h2 | ⟨g, cap, cur, e1, e2, e3, e4⟩
  · exact .inl h2
  · exact .inr ⟨g, cap, cur, e1, e2, by rw [hk g (by rw [e1]; rfl)]; exact e3, e4⟩

theorem RowS.keep {w w' : World} {S : Nat → Prop} {T : TypeId} {k : Nat} {v : Value} {n : Nat} {xs : List Value} (h : RowS w S T k v n xs) (hk : ∀ g, S g → g < w.heap.size → w'.heap[g]? = w.heap[g]?) : RowS w' S T k v n xs :=
  ⟨own_keep h.1 fun g hg => hk g (h.2 g hg) (h.1.lt g hg).2, h.2⟩

theorem RowS.nil (w : World) (S : Nat → Prop) (T : TypeId) (k : Nat) : RowS w S T k (.slice none 0 0) 0 [] := ⟨World.ownsRow_nil _ _ _ _, fun g hg => by simp [Value.ownBlock] at hg⟩

/-- The block of a row bears its type. -/
theorem RowS.type {w : World} {S : Nat → Prop} {T : TypeId} {k : Nat} {v : Value} {n : Nat} {xs : List Value} (h : RowS w S T k v n xs) {g : Nat} (hg : v.ownBlock = some g) : ∃ cur, w.heap[g]? = some (.cells cur T (0, 0)) := own_type h.1 hg

/-- Kept where its block's type is not the one that is turned. -/
theorem RowS.other {w w' : World} {S : Nat → Prop} {T : TypeId} {k : Nat} {v : Value} {n : Nat} {xs : List Value} (h : RowS w S T k v n xs) (hk : ∀ (g : Nat) (cur : Array Value), w.heap[g]? = some (.cells cur T (0, 0)) → w'.heap[g]? = w.heap[g]?) : RowS w' S T k v n xs :=
  ⟨own_keep h.1 fun g hg => by
    obtain ⟨cur, hc⟩ := h.type hg
    exact hk g cur hc, h.2⟩

theorem RowS.form {w : World} {S : Nat → Prop} {T : TypeId} {k : Nat} {v : Value} {n : Nat} {xs : List Value} (h : RowS w S T k v n xs) : ∃ a c, v = .slice a n c := row_form h.1

/-- A row with places: its block, its cells. -/
theorem RowS.open {w : World} {S : Nat → Prop} {T : TypeId} {k : Nat} {v : Value} {n : Nat} {xs : List Value} (h : RowS w S T k v n xs) (hn : 0 < n) : ∃ g cap, v = .slice (some ⟨g, 0, none⟩) n cap ∧ S g ∧ n ≤ cap ∧ g < w.heap.size ∧ (∀ j u, xs[j]? = some u → w.cell? ⟨g, j, none⟩ = some u) ∧ ∀ j, w.frozen? ⟨g, j, none⟩ = false := by
  obtain ⟨g, cap, rfl, hb, hl⟩ := h.1.form hn
  have cs := h.1.cells (g := g) rfl
  exact ⟨g, cap, rfl, h.2 g rfl, own_cap h.1, hl, fun j u hu => by have := cs j u hu; rw [add_at] at this; exact this, fun j => own_free h.1 j⟩

theorem RowS.set {w : World} {S : Nat → Prop} {T : TypeId} {k g n c : Nat} {xs : List Value} (h : RowS w S T k (.slice (some ⟨g, 0, none⟩) n c) n xs) (j : Nat) (u : Value) : RowS (w.setCell ⟨g, j, none⟩ u) S T k (.slice (some ⟨g, 0, none⟩) n c) n (xs.set j u) := ⟨own_set h.1 u, h.2⟩

theorem RowS.len {w : World} {S : Nat → Prop} {T : TypeId} {k : Nat} {v : Value} {n : Nat} {xs : List Value} (h : RowS w S T k v n xs) : xs.length = n * k := h.1.1

/-! ### Rows of one type are turned, in place -/

structure TurT (S : Nat → Prop) (T : TypeId) (w w' : World) : Prop where
  os : w'.os = w.os
  tape : w'.tape = w.tape
  output : w'.output = w.output
  size : w.heap.size ≤ w'.heap.size
  block : ∀ g, g < w.heap.size → w'.heap[g]? = w.heap[g]? ∨ (S g ∧ ∃ cur cur' : Array Value, w.heap[g]? = some (.cells cur T (0, 0)) ∧ w'.heap[g]? = some (.cells cur' T (0, 0)) ∧ cur'.size = cur.size)

theorem TurT.refl (S : Nat → Prop) (T : TypeId) (w : World) : TurT S T w w := ⟨rfl, rfl, rfl, Nat.le_refl _, fun _ _ => .inl rfl⟩

theorem TurT.trans {S : Nat → Prop} {T : TypeId} {a b c : World} (h : TurT S T a b) (k : TurT S T b c) : TurT S T a c := by
  refine ⟨k.os.trans h.os, k.tape.trans h.tape, k.output.trans h.output, Nat.le_trans h.size k.size, fun g hg => ?_⟩
  rcases h.block g hg with h1 | ⟨h1, c1, c2, h3, h4, h5⟩
  · rcases k.block g (Nat.lt_of_lt_of_le hg h.size) with k1 | ⟨k1, d1, d2, k3, k4, k5⟩
    · exact .inl (k1.trans h1)
    · exact .inr ⟨k1, d1, d2, by rw [← h1]; exact k3, k4, k5⟩
  · rcases k.block g (Nat.lt_of_lt_of_le hg h.size) with k1 | ⟨k1, d1, d2, k3, k4, k5⟩
    · exact .inr ⟨h1, c1, c2, h3, by rw [k1]; exact h4, h5⟩
    · rw [h4] at k3
      injection k3 with k3
      injection k3 with k3
      subst k3
      exact .inr ⟨h1, c1, d2, h3, k4, k5.trans h5⟩

theorem TurT.below {S : Nat → Prop} {T : TypeId} {w w' : World} (h : Below w.heap.size w w') : TurT S T w w' := ⟨h.os, h.tape, h.output, h.size, fun g hg => .inl (h.block g hg)⟩

theorem TurT.only {S : Nat → Prop} {T : TypeId} {w w' : World} (h : TurT S T w w') : Only S w w' := ⟨h.os, h.tape, h.output, h.size, fun g hg hs => by
  rcases h.block g hg with h1 | ⟨h1, _⟩
  · exact h1
  · exact absurd h1 hs⟩

theorem TurT.drewN {S : Nat → Prop} {T : TypeId} {w w' : World} (h : TurT S T w w') (n : Nat) : TurT S T w (w'.drewN n) := ⟨h.os, h.tape, h.output, h.size, h.block⟩
theorem TurT.drew {S : Nat → Prop} {T : TypeId} {w w' : World} (h : TurT S T w w') : TurT S T w w'.drew := ⟨h.os, h.tape, h.output, h.size, h.block⟩

/-- What is no such row is as it was. -/
theorem TurT.other {S : Nat → Prop} {T t : TypeId} {g : Nat} {w w' : World} {cur : Array Value} {q : Nat × Nat} (h : TurT S T w w') (hg : w.heap[g]? = some (.cells cur t q)) (ht : t ≠ T) : w'.heap[g]? = w.heap[g]? := by
  rcases h.block g (Array.getElem?_eq_some_iff.1 hg).1 with h1 | ⟨_, c1, c2, h3, _, _⟩
  · exact h1
  · rw [hg] at h3
    injection h3 with h3
    injection h3 with _ h3
    exact absurd h3 ht

theorem TurT.row {S S' : Nat → Prop} {T t : TypeId} {k : Nat} {v : Value} {n : Nat} {xs : List Value} {w w' : World} (h : TurT S T w w') (ht : t ≠ T) (hr : RowS w S' t k v n xs) : RowS w' S' t k v n xs := hr.other fun _ _ hc => h.other hc ht

/-- A row of whatever content stays one. -/
theorem TurT.any {S S' : Nat → Prop} {T : TypeId} {k : Nat} {v : Value} {n : Nat} {w w' : World} (h : TurT S T w w') (hr : ∃ xs, RowS w S' T k v n xs) : ∃ xs, RowS w' S' T k v n xs := by
  obtain ⟨xs, ⟨h1, h2⟩, hS⟩ := hr
  rcases h2 with h2 | ⟨g, cap, cur, e1, e2, e3, e4, e5, e6, e7⟩
  · exact ⟨xs, ⟨h1, .inl h2⟩, hS⟩
  · have : ∃ cur' : Array Value, w'.heap[g]? = some (.cells cur' T (0, 0)) ∧ cur'.size = cur.size := by
      rcases h.block g (Array.getElem?_eq_some_iff.1 e3).1 with q | ⟨_, c1, c2, k3, k4, k5⟩
      · exact ⟨cur, by rw [q]; exact e3, rfl⟩
      · rw [e3] at k3
        injection k3 with k3
        injection k3 with k3
        subst k3
        exact ⟨c2, k4, k5⟩
    obtain ⟨cur', k1, k2⟩ := this
    refine ⟨cur'.toList.take (n * k), ⟨?_, .inr ⟨g, cap, cur', e1, e2, k1, e4, e5, by rw [k2, e6], rfl⟩⟩, hS⟩
    rw [List.length_take, Array.length_toList, k2, e6]
    have := Nat.mul_le_mul_right k e4
    omega

theorem TurT.set {S : Nat → Prop} {T : TypeId} {g : Nat} {w : World} {cur : Array Value} (hg : w.heap[g]? = some (.cells cur T (0, 0))) (h1 : S g) (j : Nat) (u : Value) : TurT S T w (w.setCell ⟨g, j, none⟩ u) := by
  refine ⟨rfl, rfl, rfl, by simp, fun k hk => ?_⟩
  by_cases e : k = g
  · subst e
    exact .inr ⟨h1, cur, _, hg, heap_setCell_same w k j cur _ u hg, by simp⟩
  · exact .inl (heap_setCell_other w ⟨g, j, none⟩ k u e)

end Go.Proofs.YtofinpocigbbeaaGreat

namespace Go.Proofs.YtofinpocigbbeaaGreat
open Go.RowKit

/-- A block of so many cells, of whatever content. -/
def HasB (w : World) (b : Nat) (T : TypeId) (k : Nat) : Prop := ∃ cur : Array Value, w.heap[b]? = some (.cells cur T (0, 0)) ∧ cur.size = k

theorem HasB.lt {w : World} {b : Nat} {T : TypeId} {k : Nat} (h : HasB w b T k) : b < w.heap.size := by
  obtain ⟨cur, h1, _⟩ := h
  exact (Array.getElem?_eq_some_iff.1 h1).1

theorem HasB.set {w : World} {b : Nat} {T : TypeId} {k : Nat} (h : HasB w b T k) (g j : Nat) (u : Value) : HasB (w.setCell ⟨g, j, none⟩ u) b T k := by
  obtain ⟨cur, h1, h2⟩ := h
  by_cases e : b = g
  · subst e
    exact ⟨_, heap_setCell_same w b j cur _ u h1, by simpa using h2⟩
  · exact ⟨cur, by rw [heap_setCell_other w ⟨g, j, none⟩ b u e]; exact h1, h2⟩

theorem HasB.alloc {w : World} {b : Nat} {T : TypeId} {k : Nat} (h : HasB w b T k) (o : Obj) : HasB (w.alloc o) b T k := by
  obtain ⟨cur, h1, h2⟩ := h
  exact ⟨cur, by rw [heap_old w o b (Array.getElem?_eq_some_iff.1 h1).1]; exact h1, h2⟩

theorem HasB.drew {w : World} {b : Nat} {T : TypeId} {k : Nat} (h : HasB w b T k) : HasB w.drew b T k := h

theorem HasB.new (w : World) (cur : Array Value) (T : TypeId) : HasB (w.alloc (.cells cur T)) w.heap.size T cur.size := ⟨cur, heap_alloc_new w _, rfl⟩

theorem HasB.keep {w w' : World} {b : Nat} {T : TypeId} {k : Nat} (h : HasB w b T k) (hk : w'.heap[b]? = w.heap[b]?) : HasB w' b T k := by
  obtain ⟨cur, h1, h2⟩ := h
  exact ⟨cur, by rw [hk]; exact h1, h2⟩

theorem HasB.cell {w : World} {b : Nat} {T : TypeId} {k : Nat} (h : HasB w b T k) (j : Nat) (hj : j < k) : ∃ q, w.cell? ⟨b, j, none⟩ = some q := by
  obtain ⟨cur, h1, h2⟩ := h
  exact ⟨cur[j]'(by omega), by rw [cell_of_row w b j cur _ _ h1]; exact Array.getElem?_eq_getElem (by omega)⟩

theorem HasB.free {w : World} {b : Nat} {T : TypeId} {k : Nat} (h : HasB w b T k) (j : Nat) : w.frozen? ⟨b, j, none⟩ = false := by
  obtain ⟨cur, h1, h2⟩ := h
  simp [World.frozen?, h1]

/-- A block of known content. -/
def Blk (w : World) (b : Nat) (T : TypeId) (cs : Array Value) : Prop := w.heap[b]? = some (.cells cs T (0, 0))

theorem Blk.set {w : World} {b : Nat} {T : TypeId} {cs : Array Value} (h : Blk w b T cs) (j : Nat) (u : Value) : Blk (w.setCell ⟨b, j, none⟩ u) b T (cs.setIfInBounds j u) := heap_setCell_same w b j cs _ u h
theorem Blk.other {w : World} {b : Nat} {T : TypeId} {cs : Array Value} (h : Blk w b T cs) {g : Nat} (hg : b ≠ g) (j : Nat) (u : Value) : Blk (w.setCell ⟨g, j, none⟩ u) b T cs := by
  unfold Blk
  rw [heap_setCell_other w ⟨g, j, none⟩ b u hg]
  exact h
theorem Blk.alloc {w : World} {b : Nat} {T : TypeId} {cs : Array Value} (h : Blk w b T cs) (o : Obj) : Blk (w.alloc o) b T cs := by
  unfold Blk
  rw [heap_old w o b (Array.getElem?_eq_some_iff.1 h).1]
  exact h
theorem Blk.has {w : World} {b : Nat} {T : TypeId} {cs : Array Value} (h : Blk w b T cs) : HasB w b T cs.size := ⟨cs, h, rfl⟩
theorem Blk.cell {w : World} {b : Nat} {T : TypeId} {cs : Array Value} (h : Blk w b T cs) (j : Nat) : w.cell? ⟨b, j, none⟩ = cs[j]? := cell_of_row w b j cs _ _ h

def r4C (r : R4) : Array Value := #[.int .i64 r.1, .int .i64 r.2.1, .int .i64 r.2.2.1, .int .i64 r.2.2.2]

/-- Four cells are written. -/
theorem HasB.four {w : World} {b : Nat} {T : TypeId} (h : HasB w b T 4) (u0 u1 u2 u3 : Value) : Blk ((((w.setCell ⟨b, 0, none⟩ u0).setCell ⟨b, 1, none⟩ u1).setCell ⟨b, 2, none⟩ u2).setCell ⟨b, 3, none⟩ u3) b T #[u0, u1, u2, u3] := by
  obtain ⟨cur, h1, h2⟩ := h
  have h3 : Blk w b T cur := h1
  have h4 := (((h3.set 0 u0).set 1 u1).set 2 u2).set 3 u3
  have e : (((cur.setIfInBounds 0 u0).setIfInBounds 1 u1).setIfInBounds 2 u2).setIfInBounds 3 u3 = #[u0, u1, u2, u3] := by
    apply Array.ext_getElem?
    intro j
    match j with
    | 0 => simp [h2]
    | 1 => simp [h2]
    | 2 => simp [h2]
    | 3 => simp [h2]
    | j + 4 =>
      rw [Array.getElem?_eq_none (by simp; omega), Array.getElem?_eq_none (by simp)]
  rw [e] at h4
  exact h4

theorem al1 {B : Nat} {w : World} (h : B ≤ w.heap.size) (o1 : Obj) : Below B w (w.alloc o1) := (Below.refl B w).alloc h o1
theorem al2 {B : Nat} {w : World} (h : B ≤ w.heap.size) (o1 o2 : Obj) : Below B w ((w.alloc o1).alloc o2) := (al1 h o1).alloc (by simp; omega) o2
theorem al2d {B : Nat} {w : World} (h : B ≤ w.heap.size) (o1 o2 : Obj) : Below B w ((w.drew.alloc o1).alloc o2) := ((Below.refl B w).drew.alloc h o1).alloc (by simp; omega) o2
theorem al3 {B : Nat} {w : World} (h : B ≤ w.heap.size) (o1 o2 o3 : Obj) : Below B w (((w.alloc o1).alloc o2).alloc o3) := (al2 h o1 o2).alloc (by simp; omega) o3
theorem al5 {B : Nat} {w : World} (h : B ≤ w.heap.size) (o1 o2 o3 o4 o5 : Obj) : Below B w (((((w.alloc o1).alloc o2).alloc o3).alloc o4).alloc o5) := ((al3 h o1 o2 o3).alloc (by simp; omega) o4).alloc (by simp; omega) o5

theorem below_four {B : Nat} {w wr : World} (h : Below B w wr) {b : Nat} (hb : B ≤ b) (u0 u1 u2 u3 : Value) : Below B w ((((wr.setCell ⟨b, 0, none⟩ u0).setCell ⟨b, 1, none⟩ u1).setCell ⟨b, 2, none⟩ u2).setCell ⟨b, 3, none⟩ u3) := (((h.setCell hb _).setCell hb _).setCell hb _).setCell hb _

theorem other_four {w : World} {b k : Nat} (hk : k ≠ b) (u0 u1 u2 u3 : Value) : ((((w.setCell ⟨b, 0, none⟩ u0).setCell ⟨b, 1, none⟩ u1).setCell ⟨b, 2, none⟩ u2).setCell ⟨b, 3, none⟩ u3).heap[k]? = w.heap[k]? := by
  rw [heap_setCell_other _ ⟨b, 3, none⟩ k _ hk, heap_setCell_other _ ⟨b, 2, none⟩ k _ hk, heap_setCell_other _ ⟨b, 1, none⟩ k _ hk, heap_setCell_other _ ⟨b, 0, none⟩ k _ hk]

/-- Eleven cells are written. -/
theorem HasB.eleven {w : World} {b : Nat} {T : TypeId} (h : HasB w b T 11) (u0 u1 u2 u3 u4 u5 u6 u7 u8 u9 u10 : Value) : Blk (((((((((((w.setCell ⟨b, 0, none⟩ u0).setCell ⟨b, 1, none⟩ u1).setCell ⟨b, 2, none⟩ u2).setCell ⟨b, 3, none⟩ u3).setCell ⟨b, 4, none⟩ u4).setCell ⟨b, 5, none⟩ u5).setCell ⟨b, 6, none⟩ u6).setCell ⟨b, 7, none⟩ u7).setCell ⟨b, 8, none⟩ u8).setCell ⟨b, 9, none⟩ u9).setCell ⟨b, 10, none⟩ u10) b T #[u0, u1, u2, u3, u4, u5, u6, u7, u8, u9, u10] := by
  obtain ⟨cur, h1, h2⟩ := h
  have h3 : Blk w b T cur := h1
  have h4 := ((((((((((h3.set 0 u0).set 1 u1).set 2 u2).set 3 u3).set 4 u4).set 5 u5).set 6 u6).set 7 u7).set 8 u8).set 9 u9).set 10 u10
  have e : ((((((((((cur.setIfInBounds 0 u0).setIfInBounds 1 u1).setIfInBounds 2 u2).setIfInBounds 3 u3).setIfInBounds 4 u4).setIfInBounds 5 u5).setIfInBounds 6 u6).setIfInBounds 7 u7).setIfInBounds 8 u8).setIfInBounds 9 u9).setIfInBounds 10 u10 = #[u0, u1, u2, u3, u4, u5, u6, u7, u8, u9, u10] := by
    apply Array.ext_getElem?
    intro j
    match j with
    | 0 => simp [h2]
    | 1 => simp [h2]
    | 2 => simp [h2]
    | 3 => simp [h2]
    | 4 => simp [h2]
    | 5 => simp [h2]
    | 6 => simp [h2]
    | 7 => simp [h2]
    | 8 => simp [h2]
    | 9 => simp [h2]
    | 10 => simp [h2]
    | j + 11 => rw [Array.getElem?_eq_none (by simp; omega), Array.getElem?_eq_none (by simp)]
  rw [e] at h4
  exact h4

theorem below_eleven {B : Nat} {w wr : World} (h : Below B w wr) {b : Nat} (hb : B ≤ b) (u0 u1 u2 u3 u4 u5 u6 u7 u8 u9 u10 : Value) : Below B w (((((((((((wr.setCell ⟨b, 0, none⟩ u0).setCell ⟨b, 1, none⟩ u1).setCell ⟨b, 2, none⟩ u2).setCell ⟨b, 3, none⟩ u3).setCell ⟨b, 4, none⟩ u4).setCell ⟨b, 5, none⟩ u5).setCell ⟨b, 6, none⟩ u6).setCell ⟨b, 7, none⟩ u7).setCell ⟨b, 8, none⟩ u8).setCell ⟨b, 9, none⟩ u9).setCell ⟨b, 10, none⟩ u10) := ((((((((((h.setCell hb _).setCell hb _).setCell hb _).setCell hb _).setCell hb _).setCell hb _).setCell hb _).setCell hb _).setCell hb _).setCell hb _).setCell hb _

theorem other_eleven {w : World} {b k : Nat} (hk : k ≠ b) (u0 u1 u2 u3 u4 u5 u6 u7 u8 u9 u10 : Value) : (((((((((((w.setCell ⟨b, 0, none⟩ u0).setCell ⟨b, 1, none⟩ u1).setCell ⟨b, 2, none⟩ u2).setCell ⟨b, 3, none⟩ u3).setCell ⟨b, 4, none⟩ u4).setCell ⟨b, 5, none⟩ u5).setCell ⟨b, 6, none⟩ u6).setCell ⟨b, 7, none⟩ u7).setCell ⟨b, 8, none⟩ u8).setCell ⟨b, 9, none⟩ u9).setCell ⟨b, 10, none⟩ u10).heap[k]? = w.heap[k]? := by
  rw [heap_setCell_other _ ⟨b, 10, none⟩ k _ hk, heap_setCell_other _ ⟨b, 9, none⟩ k _ hk, heap_setCell_other _ ⟨b, 8, none⟩ k _ hk, heap_setCell_other _ ⟨b, 7, none⟩ k _ hk, heap_setCell_other _ ⟨b, 6, none⟩ k _ hk, heap_setCell_other _ ⟨b, 5, none⟩ k _ hk, heap_setCell_other _ ⟨b, 4, none⟩ k _ hk, heap_setCell_other _ ⟨b, 3, none⟩ k _ hk, heap_setCell_other _ ⟨b, 2, none⟩ k _ hk, heap_setCell_other _ ⟨b, 1, none⟩ k _ hk, heap_setCell_other _ ⟨b, 0, none⟩ k _ hk]

end Go.Proofs.YtofinpocigbbeaaGreat
