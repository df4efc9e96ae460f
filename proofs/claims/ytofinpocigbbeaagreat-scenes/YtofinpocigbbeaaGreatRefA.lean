import Derived.Test.YtofinpocigbbeaaGreatRefM
import Derived.Handy
namespace Go.Proofs.YtofinpocigbbeaaGreat
open Go.RowKit
attribute [local go_sem ↓] Go.wp_at_zero Go.wp_at_succ

set_option maxRecDepth 100000 in
set_option maxHeartbeats 1000000 in
/-- (*Screen).is -/
theorem is_any {S : Nat → Prop} {c : Nat} {st : St} (id : Int) (w : World) (h : RefOk w S c st) (hm : st.sfs.length ≤ 60) :
    Calls Tryz.prog 127 #[.pointer (some ⟨c, 0, none⟩), .int .i64 id] w fun e w' => e = .returned (.bool (st.isB id)) ∧ w' = w := by
  obtain ⟨bv, sv, ov, F, hr, hs⟩ := h
  obtain ⟨k0, k1, k2, k3, k4, kf, kl⟩ := hr.cells
  obtain ⟨sa, scap, hsv⟩ := hr.svForm
  subst hsv
  obtain ⟨n, hn⟩ : ∃ n, st.sfs.length = n := ⟨_, rfl⟩
  by_cases h1 : 0 ≤ id
  · by_cases h2 : id < n
    · obtain ⟨g, cap, e1, e2, e3, e4, e5, e6⟩ := hr.at (by omega)
      obtain ⟨i, rfl⟩ : ∃ i : Nat, id = i := ⟨id.toNat, by omega⟩
      have hin : i < n := by omega
      have hi : i < st.sfs.length := by omega
      have c0 := e5 i hi 0 (by omega)
      rw [(hs.rel i hi).alive, Nat.add_zero] at c0
      have hres : st.isB i = (st.sf i).alive := by
        unfold St.isB
        simp [hi]
      rw [hres]
      injection e1 with e11 e12 e13
      subst e11 e13
      rw [hn] at k3 hm e3
      have hcap : i < scap := by omega
      have HH := hide (And.intro hr (And.intro hs hn))
      clear hr hs e5 e6 kf hres hi hn e12
      generalize (st.sf i).alive = al at *
      go_enter Tryz.func127, Tryz.ntmps127
      go_wp2
      go_ret
      exact ⟨rfl, rfl⟩
    · have hres : st.isB id = false := by
        unfold St.isB
        have : ¬ (0 ≤ id ∧ id < (st.sfs.length : Int)) := by omega
        simp [this]
      rw [hres]
      rw [hn] at k3 hm
      clear hr hs kf hres hn
      go_enter Tryz.func127, Tryz.ntmps127
      go_wp2
      go_ret
      exact ⟨rfl, rfl⟩
  · have hres : st.isB id = false := by
      unfold St.isB
      have : ¬ (0 ≤ id ∧ id < (st.sfs.length : Int)) := by omega
      simp [this]
    rw [hres]
    rw [hn] at k3 hm
    clear hr hs kf hres hn
    go_enter Tryz.func127, Tryz.ntmps127
    go_wp2
    go_ret
    exact ⟨rfl, rfl⟩

set_option maxRecDepth 100000 in
set_option maxHeartbeats 1000000 in
/-- (*Screen).on -/
theorem on_any {S : Nat → Prop} {c : Nat} {st : St} (id : Nat) (o : Nat) (w : World) (h : RefOk w S c st) (hw : Wf st) (hid : id < st.sfs.length) :
    Calls Tryz.prog 130 #[.pointer (some ⟨c, 0, none⟩), .int .i64 id, .int .i64 o] w fun e w' => e = .returned (.bool ((st.chain id).contains o)) ∧ w' = w := by
  obtain ⟨bv, sv, ov, F, hr, hs⟩ := h
  obtain ⟨k0, k1, k2, k3, k4, kf, kl⟩ := hr.cells
  obtain ⟨g, cap, e1, e2, e3, e4, e5, e6⟩ := hr.at (by omega)
  subst e1
  obtain ⟨n, hn⟩ : ∃ n, st.sfs.length = n := ⟨_, rfl⟩
  obtain ⟨res, hres⟩ : ∃ b, (st.chain id).contains o = b := ⟨_, rfl⟩
  rw [hres]
  have hmd := hw.made
  rw [hn] at k3 e3 hmd hid
  have HH := hide (And.intro hr (And.intro hs (And.intro hn (And.intro hw hres))))
  have HE := hide e5
  clear hr hs kf hn e5 e6 hw hres
  go_enter Tryz.func130, Tryz.ntmps130
  go_wp2
  go_loopg [1] (id + 1) (fun gg s1 wr => ∃ k : Int, s1 = .int .i64 k ∧ -1 ≤ k ∧ k < gg ∧ gg ≤ id + 1 ∧ (st.chain k).contains o = res ∧ wr = w)
  case atStart => exact ⟨id, rfl, by omega, by omega, by omega, HH.out.2.2.2.2, rfl⟩
  case round =>
    obtain ⟨k, rfl, hk1, hk2, hk4, hk3, rfl⟩ := hrel
    have HK := hide hk3
    clear hk3
    by_cases h0 : k = -1
    · subst h0
      go_wp2
      go_ret
      refine ⟨ret_b ?_, rfl⟩
      rw [← HK.out, chain_neg st (by omega)]
      rfl
    · obtain ⟨i, rfl⟩ : ∃ i : Nat, k = i := ⟨k.toNat, by omega⟩
      have hi : i < st.sfs.length := by have := HH.out.2.2.1; omega
      have c1 := HE.out i hi 1 (by omega)
      rw [(HH.out.2.1.rel i hi).parent] at c1
      have hp := HH.out.2.2.2.1.par i
      have HC := hide (chain_step HH.out.2.2.2.1.par i)
      obtain ⟨p, hpp⟩ : ∃ p, (st.sf i).parent = p := ⟨_, rfl⟩
      rw [hpp] at c1 hp HC
      have hicap : i < cap := by omega
      have hneg : ¬ (i : Int) = -1 := by omega
      by_cases ho : (i : Int) = (o : Int)
      · have HO := hide ho
        go_wp2
        go_ret
        refine ⟨ret_b ?_, rfl⟩
        rw [← HK.out, HC.out, show o = i by have := HO.out; omega]
        simp
      · have HO := hide ho
        have hgk : gk = i + 1 + (gk - i - 1) := by omega
        obtain ⟨d, hd⟩ : ∃ d, gk - i - 1 = d := ⟨_, rfl⟩
        rw [hd] at hgk
        clear hd hi hpp
        go_wp2
        go_roundg i
        case measure => omega
        case rel =>
          refine ⟨p, rfl, hp.1, hp.2, by omega, ?_, rfl⟩
          rw [← HK.out, HC.out, List.contains_cons]
          have : (o == i) = false := by have := HO.out; simp; omega
          rw [this, Bool.false_or]

set_option maxRecDepth 100000 in
set_option maxHeartbeats 1000000 in
/-- (*Screen).place -/
theorem place_any {S : Nat → Prop} {c : Nat} {st : St} (id : Nat) (w : World) (h : RefOk w S c st) (hw : Wf st) (hid : id < st.sfs.length) :
    Calls Tryz.prog 135 #[.pointer (some ⟨c, 0, none⟩), .int .i64 id] w fun e w' => e = .returned (.tuple #[.int .i64 (st.px id), .int .i64 (st.py id)]) ∧ w' = w := by
  obtain ⟨bv, sv, ov, F, hr, hs⟩ := h
  obtain ⟨k0, k1, k2, k3, k4, kf, kl⟩ := hr.cells
  obtain ⟨g, cap, e1, e2, e3, e4, e5, e6⟩ := hr.at (by omega)
  subst e1
  obtain ⟨n, hn⟩ : ∃ n, st.sfs.length = n := ⟨_, rfl⟩
  obtain ⟨rx, hrx⟩ : ∃ b, st.px id = b := ⟨_, rfl⟩
  obtain ⟨ry, hry⟩ : ∃ b, st.py id = b := ⟨_, rfl⟩
  rw [hrx, hry]
  have hmd := hw.made
  rw [hn] at k3 e3 hmd hid
  have HH := hide (And.intro hr (And.intro hs (And.intro hn (And.intro hw (And.intro hrx hry)))))
  have HE := hide e5
  clear hr hs kf hn e5 e6 hw hrx hry
  go_enter Tryz.func135, Tryz.ntmps135
  go_wp2
  go_loopg [1, 6, 7] (id + 1) (fun gg s1 s6 s7 wr => ∃ (k x y : Int), s1 = .int .i64 k ∧ s6 = .int .i64 x ∧ s7 = .int .i64 y ∧ -1 ≤ k ∧ k < gg ∧ gg ≤ id + 1 ∧ x + st.px k = rx ∧ y + st.py k = ry ∧ (-60000 + 1000 * k ≤ x ∧ x ≤ 60000 - 1000 * k ∧ -60000 + 1000 * k ≤ y ∧ y ≤ 60000 - 1000 * k) ∧ wr = w)
  case atStart => exact ⟨id, 0, 0, rfl, rfl, rfl, by omega, by omega, by omega, by rw [HH.out.2.2.2.2.1]; omega, by rw [HH.out.2.2.2.2.2]; omega, by omega, rfl⟩
  case round =>
    obtain ⟨k, x, y, rfl, rfl, rfl, hk1, hk2, hk4, hk5, hk6, hk7, rfl⟩ := hrel
    by_cases h0 : k = -1
    · subst h0
      rw [px_neg st (by omega)] at hk5
      rw [py_neg st (by omega)] at hk6
      have hx : x = rx := by omega
      have hy : y = ry := by omega
      clear hk5 hk6
      subst hx hy
      go_wp2
      go_ret2
      exact ⟨rfl, rfl⟩
    · obtain ⟨i, rfl⟩ : ∃ i : Nat, k = i := ⟨k.toNat, by omega⟩
      have hi : i < st.sfs.length := by have := HH.out.2.2.1; omega
      have c1 := HE.out i hi 1 (by omega)
      have c5 := HE.out i hi 5 (by omega)
      have c6 := HE.out i hi 6 (by omega)
      rw [(HH.out.2.1.rel i hi).parent] at c1
      rw [(HH.out.2.1.rel i hi).nx] at c5
      rw [(HH.out.2.1.rel i hi).ny] at c6
      have hp := HH.out.2.2.2.1.par i
      have bx := (HH.out.2.2.2.1.lk i).1.x
      have bz := (HH.out.2.2.2.1.lk i).1.y
      have sx := px_step HH.out.2.2.2.1.par i
      have sy := py_step HH.out.2.2.2.1.par i
      obtain ⟨p, hpp⟩ : ∃ p, (st.sf i).parent = p := ⟨_, rfl⟩
      obtain ⟨dx, hdx⟩ : ∃ p, (st.sf i).now.x = p := ⟨_, rfl⟩
      obtain ⟨dy, hdy⟩ : ∃ p, (st.sf i).now.y = p := ⟨_, rfl⟩
      rw [hpp] at c1 hp sx sy
      rw [hdx] at c5 bx sx
      rw [hdy] at c6 bz sy
      have HX := hide (And.intro sx sy)
      have HK := hide (And.intro hk5 hk6)
      have hicap : i < cap := by omega
      have hneg : ¬ (i : Int) = -1 := by omega
      have w1 : IntKind.i64.wrap (x + dx) = x + dx := by rw [IntKind.wrap_i64]; omega
      have w2 : IntKind.i64.wrap (y + dy) = y + dy := by rw [IntKind.wrap_i64]; omega
      clear hi hpp hdx hdy sx sy hk5 hk6
      go_wp2
      go_roundg i
      case measure => omega
      case rel =>
        have h1 := HX.out.1
        have h2 := HX.out.2
        have h3 := HK.out.1
        have h4 := HK.out.2
        exact ⟨p, x + dx, y + dy, rfl, rfl, rfl, hp.1, hp.2, by omega, by omega, by omega, by omega, rfl⟩

set_option maxRecDepth 100000 in
set_option maxHeartbeats 1000000 in
theorem moved_any (a b c d x y : Int) (w : World) (h0 : -100000 ≤ a ∧ a ≤ 100000) (h1 : -100000 ≤ b ∧ b ≤ 100000) (h2 : -100000 ≤ c ∧ c ≤ 100000) (h3 : -100000 ≤ d ∧ d ≤ 100000) (hx : -100000 ≤ x ∧ x ≤ 100000) (hy : -100000 ≤ y ∧ y ≤ 100000) :
    Calls Tryz.prog 181 #[.agg #[.int .i64 a, .int .i64 b, .int .i64 c, .int .i64 d], .int .i64 x, .int .i64 y] w fun e w' => e = .returned (.agg #[.int .i64 (a + x), .int .i64 (b + y), .int .i64 (c + x), .int .i64 (d + y)]) ∧ ∃ o1 o2, w' = (w.alloc o1).alloc o2 := by
  go_enter Tryz.func181, Tryz.ntmps181
  go_wp2
  go_returns
  exact ⟨rfl, _, _, rfl⟩

theorem shared_some {a b c d e f g h x0 y0 x1 y1 : Int} (q0 : x0 = max a e) (q1 : y0 = max b f) (q2 : x1 = min c g) (q3 : y1 = min d h) (l1 : x0 < x1) (l2 : y0 < y1) : nrm (meet (a, b, c, d) (e, f, g, h)) = (x0, y0, x1, y1) := by
  unfold nrm has4 meet
  simp only
  rw [← q0, ← q1, ← q2, ← q3, if_pos (by simp; omega)]

theorem shared_none {a b c d e f g h x0 y0 x1 y1 : Int} (q0 : x0 = max a e) (q1 : y0 = max b f) (q2 : x1 = min c g) (q3 : y1 = min d h) (l1 : x1 ≤ x0 ∨ y1 ≤ y0) : nrm (meet (a, b, c, d) (e, f, g, h)) = (0, 0, 0, 0) := by
  unfold nrm has4 meet
  simp only
  rw [← q0, ← q1, ← q2, ← q3, if_neg (by simp; omega)]

theorem ret_rect {p : R4} {a b c d : Int} (h : p = (a, b, c, d)) : Ending.returned (.agg #[.int .i64 a, .int .i64 b, .int .i64 c, .int .i64 d]) = .returned (.agg #[.int .i64 p.1, .int .i64 p.2.1, .int .i64 p.2.2.1, .int .i64 p.2.2.2]) := by rw [h]

end Go.Proofs.YtofinpocigbbeaaGreat
